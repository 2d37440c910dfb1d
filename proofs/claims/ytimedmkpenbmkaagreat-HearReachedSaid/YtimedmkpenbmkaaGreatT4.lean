import Derived.Test.YtimedmkpenbmkaaGreatT2
import Derived.ChangeKeysEq
import Derived.Laws.StructEq
namespace Go.Proofs.YtimedmkpenbmkaaGreat
open Go.RowKit Go.Shelf
set_option linter.unusedSimpArgs false
set_option linter.unusedVariables false

theorem und4 : Tryz.prog.underlying 4 = some .bool := by kernel_rfl
theorem cells4 : Tryz.prog.cellsOf 4 = 1 := by kernel_rfl
theorem info4 : (Tryz.prog.info? 4).isSome = true := by kernel_rfl
theorem agg4 (w : World) : (isAgg 4).run Tryz.prog w = .ok false w := by kernel_rfl
theorem guard128 : Tryz.prog.eqGuardType Tryz.prog.depth 124 = false := by kernel_rfl

theorem eqItems_bools (d : Nat) (xs ys : List Bool) (w : World) : ∀ (is : List Nat), (∀ i ∈ is, i < xs.length ∧ i < ys.length) →
    (Op.eqItems (d + 1) 4 1 (xs.map Value.bool).toArray (ys.map Value.bool).toArray is).run Tryz.prog w = .ok (is.all fun i => xs.getD i false == ys.getD i false) w
  | [], _ => rfl
  | i :: is, h => by
    obtain ⟨h1, h2⟩ := h i (by simp)
    have px : (part 4 (xs.map Value.bool).toArray (i * 1)).run Tryz.prog w = .ok (.bool (xs.getD i false)) w := by
      simp [part, agg4, List.getElem?_eq_getElem h1]
    have py : (part 4 (ys.map Value.bool).toArray (i * 1)).run Tryz.prog w = .ok (.bool (ys.getD i false)) w := by
      simp [part, agg4, List.getElem?_eq_getElem h2]
    simp only [Op.eqItems, Sem.run_bind, px, py, Result.andThen_ok, run_equalIn_bool' w d 4 _ _ und4, List.all_cons]
    cases xs.getD i false == ys.getD i false with
    | false => simp
    | true => simp [eqItems_bools d xs ys w is (fun j hj => h j (by simp [hj]))]

theorem all_eq_iff {xs ys : List Bool} (h : xs.length = ys.length) : ((List.range xs.length).all fun i => xs.getD i false == ys.getD i false) = decide (xs = ys) := by
  rw [Bool.eq_iff_iff]
  simp only [List.all_eq_true, List.mem_range, beq_iff_eq, decide_eq_true_eq]
  constructor
  · intro hh
    apply List.ext_getElem h
    intro i h1 h2
    have := hh i h1
    simpa [h1, h2] using this
  · rintro rfl i _; rfl

theorem run_eq128 (xs ys : List Bool) (hx : xs.length = 30) (hy : ys.length = 30) (w : World) : (binOp .eql 124 (.agg (xs.map Value.bool).toArray) (.agg (ys.map Value.bool).toArray)).run Tryz.prog w = .ok (.bool (decide (xs = ys))) w := by
  obtain ⟨i, hi⟩ := Option.isSome_iff_exists.1 info4
  rw [run_eql_struct, show (10000 : Nat) = 9998 + 1 + 1 from rfl, run_equalIn_array w (9998 + 1) _ _ und128 hi, cells4, eqItems_bools 9998 xs ys w _ (fun j hj => by have := List.mem_range.1 hj; omega)]
  have := all_eq_iff (xs := xs) (ys := ys) (by omega)
  rw [hx] at this
  rw [this]
  rfl

theorem wpList_bin {P : Program} {ops : Array Oper} {rest : List Oper} {o : Oper} {a : Act} {w : World} {Q : Exit → Act → World → Prop} (hgd : o.guard = none) (b : BinOp) (t t' : TypeId) (x y : Operand) (ho : o.op = .binOp b t x y t') (u v r : Value)
    (hx : a.eval x = u) (hy : a.eval y = v) (hg : (eqGuard b t x y u v).run P w = .ok () w) (hr : (binOp b t u v).run P w = .ok r w) (h : wpList P ops Q rest (a.put o.dst r) w) : wpList P ops Q (o :: rest) a w :=
  wpList_plain hgd fun K hK => by
    unfold Oper.wp execOp
    simp only [ho, hx, hy, Sem.run_bind, hg, hr, Result.andThen_ok, Sem.run_pure]
    exact hK _ _ h

def deafB (es : List Bool) : Bool := decide (es = List.replicate 30 false)

theorem zero128 (w : World) : (zeroValue 124).run Tryz.prog w = .ok (.agg ((List.replicate 30 false).map Value.bool).toArray) w := by kernel_rfl

set_option maxHeartbeats 1000000 in
set_option maxRecDepth 100000 in
theorem deaf_any (h : Int) (es : List Bool) (hel : es.length = 30) (w : World) :
    Calls Tryz.prog 75 #[.agg (Value.int .i64 h :: es.map .bool).toArray] w fun e w' => e = .returned (.bool (deafB es)) ∧ Below w.heap.size w w' := by
  obtain ⟨cs, hcs⟩ : ∃ cs, cs = es.map Value.bool := ⟨_, rfl⟩
  have hcl : (Tryz.prog.info? 124).map (·.size) = some cs.length := by rw [hcs, List.length_map, hel]; exact size128
  have hr : ∀ W o1, W = w → (W.alloc (.cells (Value.int .i64 h :: cs).toArray o1)).rangeAt w.heap.size 1 cs := fun W o1 hW j v hv => by
    subst hW
    rw [cell_of_row _ _ _ _ _ _ (heap_alloc_last _ _), Nat.add_comm]; simpa using hv
  have HCL := Lib.hid hcl
  have HCS := Lib.hid hcs
  rw [← hcs]
  clear hcl hcs
  go_enter Tryz.func75, Tryz.ntmps75
  have hq : ∀ W, (binOp .eql 124 (.agg cs.toArray) (.agg ((List.replicate 30 false).map Value.bool).toArray)).run Tryz.prog W = .ok (.bool (deafB es)) W := fun W => by
    rw [HCS.out]; exact run_eq128 es (List.replicate 30 false) hel (by simp) W
  have hg : ∀ (x y : Operand) u v W, (eqGuard .eql 124 x y (.agg u) (.agg v)).run Tryz.prog W = .ok () W := fun x y u v W => run_eqGuard_agg W .eql 124 x y u v guard128
  have HQ := Lib.hid hq
  have HG := Lib.hid hg
  clear hq hg
  go_wp2_with (first
    | (with_reducible refine wpList_load_mid rfl 124 _ rfl w.heap.size 1 rfl cs _ (hr _ _ rfl) und128 rfl HCL.out ?_)
    | (refine wpList_bin rfl .eql 124 124 _ _ rfl (.agg cs.toArray) (.agg ((List.replicate 30 false).map Value.bool).toArray) (.bool (deafB es)) rfl rfl (HG.out _ _ _ _ _) (HQ.out _) ?_))
  go_ret
  exact ⟨rfl, below1 _ _⟩
end Go.Proofs.YtimedmkpenbmkaaGreat

namespace Go.Proofs.YtimedmkpenbmkaaGreat
open Go.RowKit Go.Shelf
set_option linter.unusedSimpArgs false
set_option linter.unusedVariables false

def lisRow (x : Nat × List Bool) : List Value := .int .i64 (x.1 : Int) :: x.2.map .bool
theorem lisV_eq (l : List (Nat × List Bool)) : lisV l = l.flatMap lisRow := rfl
theorem lisRow_len {x : Nat × List Bool} (h : x.2.length = 30) : (lisRow x).length = 31 := by simp [lisRow, h]
/-- rows of one length, one behind the other -/
theorem flat_get {α : Type} (f : α → List Value) (m : Nat) : ∀ (l : List α) (i j : Nat) (x : α), (∀ y ∈ l, (f y).length = m) → l[i]? = some x → j < m → (l.flatMap f)[i * m + j]? = (f x)[j]?
  | [], i, j, x, _, h, _ => by simp at h
  | y :: l, 0, j, x, hm, h, hj => by
    simp at h; subst h
    rw [List.flatMap_cons, Nat.zero_mul, Nat.zero_add, List.getElem?_append_left (by rw [hm y (by simp)]; exact hj)]
  | y :: l, i + 1, j, x, hm, h, hj => by
    have hy := hm y (by simp)
    rw [List.flatMap_cons, List.getElem?_append_right (by rw [hy, Nat.succ_mul]; omega), hy, show (i + 1) * m + j - m = i * m + j by rw [Nat.succ_mul]; omega]
    exact flat_get f m l i j x (fun z hz => hm z (by simp [hz])) (by simpa using h) hj
theorem flat_len {α : Type} (f : α → List Value) (m : Nat) : ∀ (l : List α), (∀ y ∈ l, (f y).length = m) → (l.flatMap f).length = l.length * m
  | [], _ => by simp
  | y :: l, h => by rw [List.flatMap_cons, List.length_append, h y (by simp), flat_len f m l (fun z hz => h z (by simp [hz])), List.length_cons, Nat.succ_mul]; omega

/-- the rows of a list lie in a block -/
def RowsAt {α : Type} (f : α → List Value) (m : Nat) (w : World) (g : Nat) (l : List α) : Prop := g < w.heap.size ∧ ∀ i x, l[i]? = some x → w.rangeAt g (i * m) (f x)
theorem RowsAt.below {α : Type} {f : α → List Value} {m : Nat} {w w' : World} {g : Nat} {l : List α} (h : RowsAt f m w g l) (hB : Below w.heap.size w w') : RowsAt f m w' g l :=
  ⟨Nat.lt_of_lt_of_le h.1 hB.size, fun i x hx j v hv => (hB.cell (p := ⟨g, i * m + j, none⟩) h.1).trans (h.2 i x hx j v hv)⟩
theorem own_rows {α : Type} {f : α → List Value} {m : Nat} {w : World} {base : Nat} {e : TypeId} {v : Value} {l : List α} (hm : ∀ y ∈ l, (f y).length = m) (h : w.ownsRow base e m v l.length (l.flatMap f)) : (l = [] ∧ v = .slice none 0 0) ∨ ∃ g cap, v = .slice (some ⟨g, 0, none⟩) l.length cap ∧ base ≤ g ∧ RowsAt f m w g l := by
  have hc := h
  rcases h.2 with ⟨rfl, hn⟩ | ⟨g, cap, cur, rfl, hb, hg, h1, h2, h3, h4⟩
  · exact .inl ⟨List.length_eq_zero_iff.1 hn, rfl⟩
  · refine .inr ⟨g, cap, rfl, hb, (Array.getElem?_eq_some_iff.1 hg).1, fun i x hx j u hu => ?_⟩
    have hj : j < m := by rw [← hm x (List.mem_of_getElem? hx)]; exact (List.getElem?_eq_some_iff.1 hu).1
    have := hc.cells (g := g) rfl (i * m + j) u (by rw [flat_get f m l i j x hm hx hj]; exact hu)
    have hadd : (⟨g, 0, none⟩ : Addr).add (i * m + j) = ⟨g, i * m + j, none⟩ := by unfold Addr.add; split <;> simp_all
    rwa [hadd] at this

theorem size135 : (Tryz.prog.info? 126).map (·.size) = some 31 := by kernel_rfl

def deafE (es : List Bool) : Int := if deafB es then 6 else 0

set_option maxHeartbeats 1000000 in
set_option maxRecDepth 100000 in
theorem askDeaf_any (h : Nat) (es : List Bool) (hel : es.length = 30) (w : World) :
    Calls Tryz.prog 115 #[.agg (lisRow (h, es)).toArray] w fun e w' => e = .returned (.int .i64 (deafE es)) ∧ Below w.heap.size w w' := by
  have hD := fun W => deaf_any (h : Int) es hel W
  obtain ⟨row, hrow⟩ : ∃ row, row = (lisRow (h, es)).toArray := ⟨_, rfl⟩
  have hsz : (Tryz.prog.info? 126).map (·.size) = some row.size := by rw [hrow]; simp [lisRow, hel, size135]
  change ∀ W, Calls Tryz.prog 75 #[.agg (lisRow (h, es)).toArray] W _ at hD
  rw [← hrow] at hD ⊢
  have HD := Lib.hid hD
  have HSZ := Lib.hid hsz
  clear hD hsz hrow
  have hl : ∀ W, W = w → (W.alloc (.cells row 126)).heap[w.heap.size]? = some (.cells row 126 (0, 0)) := fun W hW => by subst hW; exact heap_alloc_last _ _
  go_enter Tryz.func115, Tryz.ntmps115
  go_wp2_with (with_reducible refine wpList_load_row rfl 126 _ rfl w.heap.size rfl 126 row (0, 0) _ (hl _ rfl) und135 rfl HSZ.out ?_)
  refine (HD.out _).mono ?_
  rintro e w1 ⟨rfl, hB⟩
  have HB := Lib.hid (join (below1 _ _) hB)
  cases hd : deafB es with
  | false =>
    have HDD := Lib.hid hd
    clear hB hd
    go_wp2
    go_ret
    exact ⟨by unfold deafE; rw [HDD.out]; rfl, HB.out⟩
  | true =>
    have HDD := Lib.hid hd
    clear hB hd
    go_wp2
    go_ret
    exact ⟨by unfold deafE; rw [HDD.out]; rfl, HB.out⟩

theorem wpList_store_new {P : Program} {ops : Array Oper} {rest : List Oper} {op : Oper} {a : Act} {w : World} {Q : Exit → Act → World → Prop} (hgd : op.guard = none) (ty : TypeId) (x y : Operand) (ho : op.op = .store ty x y)
    (c c' : Array Value) (hx : a.eval x = .pointer (some ⟨w.heap.size, 0, none⟩)) (hy : a.eval y = .agg c')
    (hi : (P.info? ty).map (·.size) = some c'.size) (hs : c.size = c'.size) (h1 : c'.all (·.oneCell') = true)
    (h : wpList P ops Q rest (a.put op.dst undef) (w.alloc (.cells c' ty))) : wpList P ops Q (op :: rest) a (w.alloc (.cells c ty)) :=
  wpList_plain hgd fun K hK => by
    unfold Oper.wp execOp
    simp only [ho, hx, hy, Sem.run_bind, run_storeAt_new w ty c c' hi hs h1, Result.andThen_ok, Sem.run_pure]
    exact hK _ _ h

def firstE : List (Nat × List Bool) → Int
  | [] => 0
  | x :: l => if deafE x.2 ≠ 0 then deafE x.2 else firstE l
theorem firstE_eq (l : List (Nat × List Bool)) : firstE l = if l.any (fun x => deafB x.2) then 6 else 0 := by
  induction l with
  | nil => rfl
  | cons x l ih =>
    unfold firstE deafE
    rw [ih, List.any_cons]
    cases deafB x.2 with
    | false => simp only [Bool.false_or, Bool.false_eq_true, if_false, ne_eq, not_true_eq_false]
    | true => simp

set_option maxHeartbeats 2000000 in
set_option maxRecDepth 100000 in
theorem firstDeaf_any (g cap : Nat) (l : List (Nat × List Bool)) (hl : ∀ y ∈ l, y.2.length = 30) (hlen : l.length ≤ 30) (w : World) (hR : RowsAt lisRow 31 w g l) :
    Calls Tryz.prog 114 #[.slice (some ⟨g, 0, none⟩) l.length cap, .func (.func 115) #[] #[]] w fun e w' => e = .returned (.int .i64 (firstE l)) ∧ Below w.heap.size w w' := by
  have HR := Lib.hid hR
  have hgl := hR.1
  clear hR
  go_enter Tryz.func114, Tryz.ntmps114
  go_wp2_with fail
  go_loopw [6, 7, 10] (fun _ _ i wr => ∃ k : Nat, k ≤ l.length ∧ i = .int .i64 k ∧ firstE l = firstE (l.drop k) ∧ Below w.heap.size w wr) (fun _ _ i _ => l.length - (intOf i).toNat)
  case atStart => exact ⟨0, Nat.zero_le _, rfl, rfl, Below.refl _ _⟩
  case round =>
    obtain ⟨k, hk, rfl, hf, hB⟩ := hrel
    have HF := Lib.hid hf
    have HB := Lib.hid hB
    by_cases hlt : k < l.length
    · obtain ⟨x, hx⟩ : ∃ x, l[k]? = some x := ⟨_, List.getElem?_eq_getElem hlt⟩
      have hx30 := hl x (List.mem_of_getElem? hx)
      have hrg : wr.rangeAt g (k * 31) (lisRow x) := (HR.out.below hB).2 k x hx
      have hdrop : l.drop k = x :: l.drop (k + 1) := by
        rw [List.drop_eq_getElem_cons hlt]
        rw [List.getElem?_eq_getElem hlt] at hx
        injection hx with hx; rw [hx]
      have HDR := Lib.hid hdrop
      obtain ⟨row, hrow⟩ : ∃ row, row = lisRow x := ⟨_, rfl⟩
      have hsz : (Tryz.prog.info? 126).map (·.size) = some row.length := by rw [hrow, lisRow_len hx30]; exact size135
      have hsz2 : (Tryz.prog.info? 126).map (·.size) = some row.toArray.size := by rw [hrow, List.size_toArray, lisRow_len hx30]; exact size135
      have hask := fun W => askDeaf_any x.1 x.2 hx30 W
      change ∀ W, Calls Tryz.prog 115 #[.agg (lisRow x).toArray] W _ at hask
      rw [← hrow] at hrg hask
      have hone : row.toArray.all (·.oneCell') = true := by
        rw [hrow, Array.all_eq_true]; intro i hi
        have : (lisRow x).toArray[i] ∈ lisRow x := by simp
        unfold lisRow at this
        rcases List.mem_cons.1 this with h | h
        · rw [show (lisRow x).toArray[i] = _ from h]; rfl
        · obtain ⟨b', _, hb⟩ := List.mem_map.1 h; rw [show (lisRow x).toArray[i] = _ from hb.symm]; rfl
      have HRG := Lib.hid hrg
      have HASK := Lib.hid hask
      have HSZ := Lib.hid hsz
      have HSZ2 := Lib.hid hsz2
      have hsz3 : row.toArray.size = 31 := by rw [hrow, List.size_toArray, lisRow_len hx30]
      have HSZ3 := Lib.hid hsz3
      have HON := Lib.hid hone
      have hlt' : (k : Int) < l.length := by omega
      have hg2 : g < wr.heap.size := Nat.lt_of_lt_of_le hgl hB.size
      clear hx hrow hsz3 hsz hsz2 hrg hask hone hdrop hf hB
      have hll := fun W => heap_alloc_last W (.cells row.toArray 126)
      have HLL := Lib.hid hll
      clear hll
      go_wp2_with (first
        | (with_reducible refine wpList_load_mid rfl 126 _ rfl g (k * 31) rfl row _ HRG.out und135 rfl HSZ.out ?_)
        | (with_reducible refine wpList_store_new rfl 126 _ _ rfl _ row.toArray rfl rfl HSZ2.out ?hs HON.out ?_)
        | (with_reducible refine wpList_load_row rfl 126 _ rfl wr.heap.size rfl 126 row.toArray (0, 0) _ (HLL.out _) und135 rfl HSZ2.out ?_))
      case hs => exact (Hid.out HSZ3).symm
      refine (HASK.out _).mono ?_
      rintro e w5 ⟨rfl, hB5⟩
      have HB5 := Lib.hid (join (al HB.out _) hB5)
      obtain ⟨d, hd⟩ : ∃ d, deafE x.2 = d := ⟨_, rfl⟩
      rw [hd]
      have HD := Lib.hid hd
      clear hB5 hd
      by_cases h0 : d = 0
      · subst h0
        go_wp2
        go_roundw
        case rel => exact ⟨k + 1, by omega, by simp, by rw [HF.out, HDR.out, firstE, HD.out, if_neg (by simp)], HB5.out⟩
        case measure => simp [intOf]; omega
      · have h0' : (d != 0) = true := by simpa using h0
        have H0 := Lib.hid h0
        clear h0
        go_wp2
        go_ret
        exact ⟨by rw [HF.out, HDR.out, firstE, HD.out, if_pos H0.out]; rfl, HB5.out⟩
    · have hkk : k = l.length := by omega
      clear hf hB
      subst hkk
      go_wp2
      go_ret
      exact ⟨by rw [HF.out, List.drop_length]; rfl, HB.out⟩
end Go.Proofs.YtimedmkpenbmkaaGreat

namespace Go.Proofs.YtimedmkpenbmkaaGreat
open Go.RowKit Go.Shelf
set_option linter.unusedSimpArgs false
set_option linter.unusedVariables false

/-- one house that is named: its error, and who is named then -/
def qStep (xs : List Int) (named : List Bool) (h : Int) : Int × List Bool :=
  if plotErr xs h 1 ≠ 0 then (plotErr xs h 1, named) else if named.getD h.toNat false then (5, named) else (0, named.set h.toNat true)
def qAll (xs : List Int) : List Bool → List Int → Int × List Bool
  | named, [] => (0, named)
  | named, h :: r => if (qStep xs named h).1 ≠ 0 then qStep xs named h else qAll xs (qStep xs named h).2 r
theorem qStep_len (xs : List Int) (named : List Bool) (h : Int) : (qStep xs named h).2.length = named.length := by
  unfold qStep; split
  · rfl
  · split
    · rfl
    · simp
theorem qAll_len (xs : List Int) : ∀ (hs : List Int) (named : List Bool), (qAll xs named hs).2.length = named.length
  | [], _ => rfl
  | h :: r, named => by unfold qAll; split; exact qStep_len _ _ _; rw [qAll_len xs r, qStep_len]

/-- what openQuarter's inner function knows: the box of the town, and the block of who is named -/
structure QC (w : World) (wd : Int) (b o cap : Nat) (xs : List Int) (A N : Nat) (named : List Bool) : Prop where
  c0 : w.cell? ⟨A, 0, none⟩ = some (.int .i64 wd)
  c1 : w.cell? ⟨A, 1, none⟩ = some (.slice (some ⟨b, o, none⟩) xs.length cap)
  ints : Ints w b o xs
  nm : w.heap[N]? = some (.cells (named.map Value.bool).toArray 123 (0, 0))
  ne : A ≠ N ∧ b ≠ N
  len : named.length = 30

theorem QC.grown {w w' : World} {wd : Int} {b o cap : Nat} {xs : List Int} {A N : Nat} {named named' : List Bool} (h : QC w wd b o cap xs A N named) (hg : w.grownBy w' (some N)) (hn : w'.heap[N]? = some (.cells (named'.map Value.bool).toArray 123 (0, 0))) (hl : named'.length = 30) : QC w' wd b o cap xs A N named' :=
  ⟨hg.cell h.c0 (fun e => h.ne.1 (by injection e)), hg.cell h.c1 (fun e => h.ne.1 (by injection e)),
    ⟨Nat.lt_of_lt_of_le h.ints.1 hg.size, fun i hi => hg.cell (h.ints.2 i hi) (fun e => h.ne.2 (by injection e))⟩, hn, h.ne, hl⟩
theorem QC.below {w w' : World} {wd : Int} {b o cap : Nat} {xs : List Int} {A N : Nat} {named : List Bool} (h : QC w wd b o cap xs A N named) (hB : Below w.heap.size w w') : QC w' wd b o cap xs A N named :=
  h.grown (grown_of_below hB _) ((hB.block N (Array.getElem?_eq_some_iff.1 h.nm).1).trans h.nm) h.len

set_option maxHeartbeats 1000000 in
set_option maxRecDepth 100000 in
theorem askQ_any (wd : Int) (b o cap : Nat) (xs : List Int) (hn : xs.length ≤ 30) (A N : Nat) (named : List Bool) (h : Int) (w : World) (hQ : QC w wd b o cap xs A N named) :
    Calls Tryz.prog 124 #[.int .i64 h, .pointer (some ⟨A, 0, none⟩), .pointer (some ⟨N, 0, none⟩)] w fun e w' => e = .returned (.int .i64 (qStep xs named h).1) ∧ w.grownBy w' (some N) ∧ w'.heap[N]? = some (.cells ((qStep xs named h).2.map Value.bool).toArray 123 (0, 0)) := by
  have c0 := hQ.c0
  have c1 := hQ.c1
  have HQ := Lib.hid hQ
  have hNl : N < w.heap.size := (Array.getElem?_eq_some_iff.1 hQ.nm).1
  clear hQ
  go_enter Tryz.func124, Tryz.ntmps124
  go_wp2_with fail
  refine (plotError_any wd b o cap xs w h 1 (by omega) HQ.out.ints).mono ?_
  rintro e w1 ⟨rfl, hB1⟩
  have HG1 := Lib.hid (grown_of_below hB1 (some N))
  have HN1 := Lib.hid ((hB1.block N hNl).trans HQ.out.nm)
  have hN1 : N < w1.heap.size := Nat.lt_of_lt_of_le hNl hB1.size
  by_cases h0 : plotErr xs h 1 = 0
  · have hh : 0 ≤ h ∧ h < xs.length := by
      unfold plotErr at h0
      by_cases hc : h < 0 ∨ (xs.length : Int) ≤ h
      · rw [if_pos hc] at h0; cases h0
      · omega
    obtain ⟨k, rfl⟩ := Int.eq_ofNat_of_zero_le hh.1
    have hk : k < xs.length := by omega
    have hk30 : (k : Int) < 30 := by omega
    have hlen := HQ.out.len
    obtain ⟨x, hx⟩ : ∃ x, named.getD k false = x := ⟨_, rfl⟩
    have hcell : w1.cell? ⟨N, k, none⟩ = some (.bool x) := by
      rw [cell_of_row _ _ _ _ _ _ HN1.out, ← hx]
      simp [List.getElem?_eq_getElem (show k < named.length by omega)]
    have hfz := frozen_of_row w1 N k _ 123 HN1.out
    have HX := Lib.hid hx
    have H0 := Lib.hid h0
    have HLEN := Lib.hid hlen
    rw [h0]
    clear h0 hx hlen hB1 hh
    cases x with
    | true =>
      go_wp2
      go_ret
      have hq : qStep xs named k = (5, named) := by unfold qStep; rw [if_neg (by rw [H0.out]; simp), Int.toNat_natCast, HX.out]; rfl
      exact ⟨by rw [hq]; rfl, HG1.out, by rw [hq]; exact HN1.out⟩
    | false =>
      go_wp2
      go_ret
      have hq : qStep xs named k = (0, named.set k true) := by unfold qStep; rw [if_neg (by rw [H0.out]; simp), Int.toNat_natCast, HX.out]; rfl
      refine ⟨by rw [hq]; rfl, grown_trans HG1.out (grown_set _ _ _ _), ?_⟩
      rw [hq, heap_set_same _ HN1.out]
      congr 2
      simp [List.map_set]
  · have h0' : (plotErr xs h 1 != 0) = true := by simpa using h0
    have hq : qStep xs named h = (plotErr xs h 1, named) := by unfold qStep; rw [if_pos h0]
    have HQQ := Lib.hid hq
    obtain ⟨E, hE⟩ : ∃ E, plotErr xs h 1 = E := ⟨_, rfl⟩
    rw [hE] at h0' ⊢
    have HE := Lib.hid hE
    clear h0 hq hE hB1
    go_wp2
    go_ret
    exact ⟨by rw [HQQ.out, HE.out]; rfl, HG1.out, by rw [HQQ.out]; exact HN1.out⟩

set_option maxHeartbeats 1000000 in
set_option maxRecDepth 100000 in
theorem firstQ_any (wd : Int) (b o cap : Nat) (xs : List Int) (hn : xs.length ≤ 30) (A N : Nat) (hb ho hc : Nat) (hs : List Int) (hbig : hs.length ≤ 9223372036854775807) (named : List Bool) (w : World) (hQ : QC w wd b o cap xs A N named) (hH : Ints w hb ho hs) (hne : hb ≠ N) :
    Calls Tryz.prog 123 #[.slice (some ⟨hb, ho, none⟩) hs.length hc, .func (.func 124) #[] #[.pointer (some ⟨A, 0, none⟩), .pointer (some ⟨N, 0, none⟩)]] w fun e w' => e = .returned (.int .i64 (qAll xs named hs).1) ∧ w.grownBy w' (some N) ∧ w'.heap[N]? = some (.cells ((qAll xs named hs).2.map Value.bool).toArray 123 (0, 0)) := by
  have HQ := Lib.hid hQ
  have HH := Lib.hid hH
  have hhl := hH.1
  clear hQ hH
  go_enter Tryz.func123, Tryz.ntmps123
  go_wp2_with fail
  go_loopw [6, 7, 10] (fun _ _ i wr => ∃ (k : Nat) (nm : List Bool), k ≤ hs.length ∧ i = .int .i64 k ∧ qAll xs named hs = qAll xs nm (hs.drop k) ∧ nm.length = 30 ∧ w.grownBy wr (some N) ∧ wr.heap[N]? = some (.cells (nm.map Value.bool).toArray 123 (0, 0))) (fun _ _ i _ => hs.length - (intOf i).toNat)
  case atStart => exact ⟨0, named, Nat.zero_le _, rfl, rfl, HQ.out.len, grown_refl _ _, HQ.out.nm⟩
  case round =>
    obtain ⟨k, nm, hk, rfl, hf, hl, hg, hN⟩ := hrel
    have HF := Lib.hid hf
    have HG := Lib.hid hg
    have HN := Lib.hid hN
    have HL := Lib.hid hl
    by_cases hlt : k < hs.length
    · obtain ⟨x, hx⟩ : ∃ x, hs.getD k 0 = x := ⟨_, rfl⟩
      have hcell : wr.cell? ⟨hb, ho + k, none⟩ = some (.int .i64 x) := by rw [← hx]; exact hg.cell (HH.out.2 k hlt) (fun e => hne (by injection e))
      have hlb : hb < wr.heap.size := Nat.lt_of_lt_of_le hhl hg.size
      have hdrop : hs.drop k = x :: hs.drop (k + 1) := by
        rw [List.drop_eq_getElem_cons hlt, ← hx]; simp [List.getElem?_eq_getElem hlt]
      have HDR := Lib.hid hdrop
      have hlt' : (k : Int) < hs.length := by omega
      have hqc := HQ.out.grown hg hN hl
      have HQC := Lib.hid hqc
      clear hx hf hg hN hl hdrop hqc
      go_wp2_with fail
      refine (askQ_any wd b o cap xs hn A N nm x wr HQC.out).mono ?_
      rintro e w5 ⟨rfl, hg5, hN5⟩
      have HG5 := Lib.hid (grown_trans HG.out hg5)
      have HN5 := Lib.hid hN5
      obtain ⟨d, hd⟩ : ∃ d, (qStep xs nm x).1 = d := ⟨_, rfl⟩
      rw [hd]
      have HD := Lib.hid hd
      clear hg5 hN5 hd
      by_cases h0 : d = 0
      · subst h0
        go_wp2
        go_roundw
        case rel => exact ⟨k + 1, (qStep xs nm x).2, by omega, by simp, by rw [HF.out, HDR.out, qAll, HD.out, if_neg (by simp)], by rw [qStep_len]; exact HL.out, HG5.out, HN5.out⟩
        case measure => simp [intOf]; omega
      · have h0' : (d != 0) = true := by simpa using h0
        have H0 := Lib.hid h0
        clear h0
        go_wp2
        go_ret
        have hq : qAll xs named hs = qStep xs nm x := by rw [HF.out, HDR.out, qAll, HD.out, if_pos H0.out]
        exact ⟨by rw [hq, HD.out]; rfl, HG5.out, by rw [hq]; exact HN5.out⟩
    · have hkk : k = hs.length := by omega
      clear hf hg hN hl
      subst hkk
      go_wp2
      go_ret
      have hq : qAll xs named hs = (0, nm) := by rw [HF.out, List.drop_length]; rfl
      exact ⟨by rw [hq]; rfl, HG.out, by rw [hq]; exact HN.out⟩

theorem firstQ_none (a : Option Addr) (hc : Nat) (f : Value) (w : World) :
    Calls Tryz.prog 123 #[.slice a 0 hc, f] w fun e w' => e = .returned (.int .i64 0) ∧ w = w' := by
  go_enter Tryz.func123, Tryz.ntmps123
  go_wp2_with fail
  refine wp_loop_rounds 1 ?_
  rw [rounds_succ]
  go_wp2
  go_ret
  exact ⟨rfl, rfl⟩
theorem firstDeaf_none (a : Option Addr) (hc : Nat) (f : Value) (w : World) :
    Calls Tryz.prog 114 #[.slice a 0 hc, f] w fun e w' => e = .returned (.int .i64 0) ∧ w = w' := by
  go_enter Tryz.func114, Tryz.ntmps114
  go_wp2_with fail
  refine wp_loop_rounds 1 ?_
  rw [rounds_succ]
  go_wp2
  go_ret
  exact ⟨rfl, rfl⟩

theorem cntQ_any (N : Nat) (named : List Bool) (hl : named.length = 30) (p : Nat) (hp : p < 30) (w : World) (hN : w.heap[N]? = some (.cells (named.map Value.bool).toArray 123 (0, 0))) :
    Calls Tryz.prog 125 #[.int .i64 p, .pointer (some ⟨N, 0, none⟩)] w fun e w' => e = .returned (.bool (named.getD p false)) ∧ w = w' := by
  have hcell : w.cell? ⟨N, p, none⟩ = some (.bool (named.getD p false)) := by
    rw [cell_of_row _ _ _ _ _ _ hN]; simp [List.getElem?_eq_getElem (show p < named.length by omega)]
  have hp' : (p : Int) < 30 := by omega
  obtain ⟨x, hx⟩ : ∃ x, named.getD p false = x := ⟨_, rfl⟩
  rw [hx] at hcell ⊢
  clear hN hx hl
  go_enter Tryz.func125, Tryz.ntmps125
  go_wp2
  go_ret
  exact ⟨rfl, rfl⟩
end Go.Proofs.YtimedmkpenbmkaaGreat
