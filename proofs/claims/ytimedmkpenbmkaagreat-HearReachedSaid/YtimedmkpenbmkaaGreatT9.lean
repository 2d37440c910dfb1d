import Derived.Test.YtimedmkpenbmkaaGreatT7
import Derived.Deep.LoopGhost
namespace Go.Proofs.YtimedmkpenbmkaaGreat
open Go.RowKit Go.Shelf
set_option linter.unusedSimpArgs false
set_option linter.unusedVariables false

/-- a crowd: what its houses hear, and how many they are -/
abbrev Crowd := List Bool × Int
def crowdRow (c : Crowd) : List Value := c.1.map Value.bool ++ [.int .i64 c.2]
def addCrowd : List Crowd → List Bool → List Crowd
  | [], e => [(e, 1)]
  | c :: r, e => if c.1 = e then (c.1, c.2 + 1) :: r else c :: addCrowd r e
def crowdsTo (cs : List Crowd) (l : List (Nat × List Bool)) : List Crowd := l.foldl (fun cs x => addCrowd cs x.2) cs
def crowdsP (l : List (Nat × List Bool)) : List Crowd := crowdsTo [] l

theorem crowdRow_len {c : Crowd} (h : c.1.length = 30) : (crowdRow c).length = 31 := by simp [crowdRow, h]
theorem addCrowd_at : ∀ (cs : List Crowd) (e : List Bool) (j : Nat) (m : Int), (∀ i c, i < j → cs[i]? = some c → c.1 ≠ e) → cs[j]? = some (e, m) → addCrowd cs e = cs.set j (e, m + 1)
  | [], e, j, m, _, h => by simp at h
  | c :: r, e, 0, m, _, h => by simp at h; subst h; simp [addCrowd]
  | c :: r, e, j + 1, m, hn, h => by
    have h0 := hn 0 c (by omega) rfl
    rw [addCrowd, if_neg h0, List.set_cons_succ, addCrowd_at r e j m (fun i c' hi hc => hn (i + 1) c' (by omega) (by simpa using hc)) (by simpa using h)]
theorem addCrowd_new : ∀ (cs : List Crowd) (e : List Bool), (∀ c ∈ cs, c.1 ≠ e) → addCrowd cs e = cs ++ [(e, 1)]
  | [], _, _ => rfl
  | c :: r, e, h => by rw [addCrowd, if_neg (h c (by simp)), addCrowd_new r e (fun c' hc => h c' (by simp [hc]))]; rfl
/-- what holds of crowds of k houses -/
structure CrowdsOk (cs : List Crowd) (k : Nat) : Prop where
  row : ∀ c ∈ cs, c.1.length = 30
  bd : ∀ c ∈ cs, 1 ≤ c.2 ∧ c.2 ≤ k
  len : cs.length ≤ k
theorem CrowdsOk.add {cs : List Crowd} {k : Nat} (h : CrowdsOk cs k) {e : List Bool} (he : e.length = 30) : CrowdsOk (addCrowd cs e) (k + 1) := by
  have key : ∀ (cs : List Crowd), (∀ c ∈ cs, c.1.length = 30) → (∀ c ∈ cs, 1 ≤ c.2 ∧ c.2 ≤ k) → (∀ c ∈ addCrowd cs e, c.1.length = 30 ∧ 1 ≤ c.2 ∧ c.2 ≤ (k + 1 : Nat)) ∧ (addCrowd cs e).length ≤ cs.length + 1 := by
    intro cs
    induction cs with
    | nil => intro _ _; simp [addCrowd, he]; omega
    | cons c r ih =>
      intro h1 h2
      have a1 := h1 c (by simp)
      have a2 := h2 c (by simp)
      obtain ⟨b1, b2⟩ := ih (fun x hx => h1 x (by simp [hx])) (fun x hx => h2 x (by simp [hx]))
      unfold addCrowd
      split
      · refine ⟨fun x hx => ?_, by simp⟩
        rcases List.mem_cons.1 hx with rfl | hx
        · exact ⟨a1, by simp only; omega, by simp only; omega⟩
        · have := h2 x (by simp [hx]); exact ⟨h1 x (by simp [hx]), this.1, by omega⟩
      · refine ⟨fun x hx => ?_, by simp; omega⟩
        rcases List.mem_cons.1 hx with rfl | hx
        · exact ⟨a1, a2.1, by omega⟩
        · exact b1 x hx
  obtain ⟨a, b⟩ := key cs h.row h.bd
  exact ⟨fun c hc => (a c hc).1, fun c hc => (a c hc).2, by have := h.len; omega⟩
theorem crowdsTo_snoc (cs : List Crowd) (l : List (Nat × List Bool)) (x : Nat × List Bool) : crowdsTo cs (l ++ [x]) = addCrowd (crowdsTo cs l) x.2 := by simp [crowdsTo]
theorem crowds_ok {l : List (Nat × List Bool)} (hl : ∀ y ∈ l, y.2.length = 30) : ∀ k, k ≤ l.length → CrowdsOk (crowdsTo [] (l.take k)) k
  | 0, _ => ⟨by simp [crowdsTo], by simp [crowdsTo], by simp [crowdsTo]⟩
  | k + 1, hk => by
    rw [List.take_succ_eq_append_getElem (by omega), crowdsTo_snoc]
    exact (crowds_ok hl k (by omega)).add (hl _ (List.getElem_mem _))

theorem exec_load_mid {P : Program} {o : Oper} {ρ : Operand → Value} {w : World} (ty : TypeId) (x : Operand) (ho : o.op = .load ty x) {b off : Nat} (hx : ρ x = .pointer (some ⟨b, off, none⟩)) {cs : List Value} {d : TypeDesc} (hc : w.rangeAt b off cs)
    (hu : P.underlying ty = some d) (hd : d.isRow = true) (hi : (P.info? ty).map (·.size) = some cs.length) : (execOp ρ o).run P w = .ok (.value (.agg cs.toArray)) w := by
  unfold execOp
  simp only [ho, hx, Sem.run_bind, run_loadAt_mid w b off ty cs d hc hu hd hi, Result.andThen_ok, Sem.run_pure]
theorem exec_bin {P : Program} {o : Oper} {ρ : Operand → Value} {w : World} (b : BinOp) (t t' : TypeId) (x y : Operand) (ho : o.op = .binOp b t x y t') {u v r : Value} (hx : ρ x = u) (hy : ρ y = v) (hg : (eqGuard b t x y u v).run P w = .ok () w) (hr : (binOp b t u v).run P w = .ok r w) :
    (execOp ρ o).run P w = .ok (.value r) w := by
  unfold execOp
  simp only [ho, hx, hy, Sem.run_bind, hg, hr, Result.andThen_ok, Sem.run_pure]
theorem eqg128 (x y : Operand) (u v : Array Value) (w : World) : (eqGuard .eql 124 x y (.agg u) (.agg v)).run Tryz.prog w = .ok () w := run_eqGuard_agg w .eql 124 x y u v guard128

/-- one cell of a row that is owned, set anew -/
theorem own_setCell_at {w : World} {base : Nat} {e : TypeId} {size : Nat} {g n cap : Nat} {xs : List Value} (h : w.ownsRow base e size (.slice (some ⟨g, 0, none⟩) n cap) n xs) {i : Nat} (hi : i < xs.length) (v : Value) : (w.setCell ⟨g, i, none⟩ v).ownsRow base e size (.slice (some ⟨g, 0, none⟩) n cap) n (xs.set i v) := by
  refine ⟨by rw [List.length_set]; exact h.1, ?_⟩
  rcases h.2 with ⟨h1, _⟩ | ⟨g', cap', cur, hv, hb, hg, h1, h2, h3, h4⟩
  · cases h1
  · injection hv with e1 e2 e3
    injection e1 with e1; injection e1 with e1
    subst e1; subst e3
    refine .inr ⟨g, cap, cur.setIfInBounds i v, rfl, hb, heap_set_same v hg, h1, h2, by simp [h3], ?_⟩
    rw [← h4, Array.toList_setIfInBounds, List.take_set]
theorem flat_set {α : Type} (f : α → List Value) (m : Nat) : ∀ (l : List α) (i j : Nat) (x y : α) (v : Value), (∀ z ∈ l, (f z).length = m) → l[i]? = some x → j < m → f y = (f x).set j v → (l.flatMap f).set (i * m + j) v = (l.set i y).flatMap f
  | [], i, j, x, y, v, _, h, _, _ => by simp at h
  | z :: l, 0, j, x, y, v, hm, h, hj, hy => by
    simp at h; subst h
    rw [List.flatMap_cons, Nat.zero_mul, Nat.zero_add, List.set_append_left _ _ (by rw [hm z (by simp)]; exact hj), List.set_cons_zero, List.flatMap_cons, hy]
  | z :: l, i + 1, j, x, y, v, hm, h, hj, hy => by
    have hz := hm z (by simp)
    rw [List.flatMap_cons, List.set_append_right _ _ (by rw [hz, Nat.succ_mul]; omega), hz, show (i + 1) * m + j - m = i * m + j by rw [Nat.succ_mul]; omega,
      flat_set f m l i j x y v (fun t ht => hm t (by simp [ht])) (by simpa using h) hj hy, List.set_cons_succ, List.flatMap_cons]

end Go.Proofs.YtimedmkpenbmkaaGreat

namespace Go.Proofs.YtimedmkpenbmkaaGreat
open Go.RowKit Go.Shelf
set_option linter.unusedSimpArgs false
set_option linter.unusedVariables false

theorem own_slice {w : World} {base : Nat} {e : TypeId} {m : Nat} {v : Value} {n : Nat} {xs : List Value} (h : w.ownsRow base e m v n xs) : ∃ ob cp, v = .slice ob n cp := by
  rcases h.2 with ⟨rfl, hn⟩ | ⟨g, cap, cur, rfl, _⟩
  · exact ⟨none, 0, by rw [hn]⟩
  · exact ⟨_, _, rfl⟩
theorem A_info192 : (Tryz.prog.info? 181).map (fun i => (i.zero, i.size, i.bytes)) = some (some (.agg ((List.replicate 30 (Value.bool false) ++ [Value.int .i64 0]).toArray)), 31, 40) := by kernel_rfl
theorem A_und167 : Tryz.prog.underlying 156 = some (.slice 181) := by kernel_rfl
theorem siz192 (w : World) : (sizeOf 181).run Tryz.prog w = .ok 31 w := by kernel_rfl
theorem newrow192 (cs : Array Value) (w : World) : (newRow 181 cs).run Tryz.prog w = .ok ⟨w.heap.size, 0, none⟩ (w.alloc (.cells cs 181)) := by rfl
theorem bslice167_row (m : Int) (es : List Value) (he : es.length = 30) (w : World) : (Instr.buildSlice 156 1 #[(0, .agg (es ++ [Value.int .i64 m]).toArray)]).run Tryz.prog w = .ok (.slice (some ⟨w.heap.size, 0, none⟩) 1 1) (w.alloc (.cells (es ++ [Value.int .i64 m]).toArray 181)) :=
  run_buildSlice_one A_und167 siz192 zero192 newrow192 (by omega) (by simp) (by omega) (by simp [he]) w

/-- what holds in crowds' inner loop -/
structure CrI (w : World) (l : List (Nat × List Bool)) (g : Nat) (cs : List Crowd) (v : Value) (x : Nat × List Bool) (B : Nat) (W : World) : Prop where
  own : W.ownsRow w.heap.size 181 31 v cs.length (cs.flatMap crowdRow)
  box : W.heap[B]? = some (.cells (lisRow x).toArray 126 (0, 0))
  bel : Below w.heap.size w W

/-- houses with what they hear, as an argument -/
def LiIn (w : World) (ob : Option Addr) (l : List (Nat × List Bool)) : Prop := ∀ k x, l[k]? = some x → ∃ g, ob = some ⟨g, 0, none⟩ ∧ g < w.heap.size ∧ w.rangeAt g (k * 31) (lisRow x)
theorem LiIn.below {w w' : World} {ob : Option Addr} {l : List (Nat × List Bool)} (h : LiIn w ob l) (hB : Below w.heap.size w w') : LiIn w' ob l := fun k c hc => by
  obtain ⟨g, h1, h2, h3⟩ := h k c hc
  exact ⟨g, h1, Nat.lt_of_lt_of_le h2 hB.size, fun j u hu => (World.cell?_of_block (a := ⟨g, k * 31 + j, none⟩) (hB.block g h2)).trans (h3 j u hu)⟩
theorem LiIn.of_own {w : World} {base : Nat} {ob : Option Addr} {cap : Nat} {l : List (Nat × List Bool)} (hr : ∀ y ∈ l, y.2.length = 30) (h : w.ownsRow base 126 31 (.slice ob l.length cap) l.length (l.flatMap lisRow)) : LiIn w ob l := fun k c hc => by
  rcases own_rows (fun c hc => lisRow_len (hr c hc)) h with ⟨h1, _⟩ | ⟨g, cp, h1, hb, h2⟩
  · subst h1; simp at hc
  · injection h1 with e1 _ _; exact ⟨g, e1, h2.1, h2.2 k c hc⟩

set_option maxHeartbeats 2000000 in
set_option maxRecDepth 100000 in
theorem crowds_any (ob0 : Option Addr) (cap : Nat) (l : List (Nat × List Bool)) (hl : ∀ y ∈ l, y.2.length = 30) (hlen : l.length ≤ 30) (w : World) (hR : LiIn w ob0 l) :
    Calls Tryz.prog 116 #[.slice ob0 l.length cap] w fun e w' => ∃ v, e = .returned v ∧ w'.ownsRow w.heap.size 181 31 v (crowdsP l).length ((crowdsP l).flatMap crowdRow) ∧ Below w.heap.size w w' := by
  obtain ⟨i0, hi, hz0, hz1, hz2⟩ := info_parts A_info192
  have HR := Lib.hid hR
  have HL := Lib.hid hl
  clear hR hl
  go_enter Tryz.func116, Tryz.ntmps116
  go_wp2
  go_step3
  go_wp2
  go_step3
  go_wp2
  go_loopg [3, 5, 6, 9] l.length (fun gk v u5 u6 i wr => ∃ k : Nat, gk + k = l.length ∧ i = .int .i64 k ∧ wr.ownsRow w.heap.size 181 31 v (crowdsTo [] (l.take k)).length ((crowdsTo [] (l.take k)).flatMap crowdRow) ∧ Below w.heap.size w wr)
  case atStart => exact ⟨0, by omega, rfl, World.ownsRow_nil _ _ _ _, Below.refl _ _⟩
  case round =>
    obtain ⟨wo, rfl⟩ : ∃ wo : World, wo = wr := ⟨_, rfl⟩
    obtain ⟨go, rfl⟩ : ∃ x : Nat, x = gk := ⟨_, rfl⟩
    obtain ⟨k, hk, rfl, hown, hB⟩ := hrel
    have HO := Lib.hid hown
    have HB := Lib.hid hB
    by_cases hlt : k < l.length
    · obtain ⟨x, hx⟩ : ∃ x, l[k]? = some x := ⟨_, List.getElem?_eq_getElem hlt⟩
      have hx30 := HL.out x (List.mem_of_getElem? hx)
      obtain ⟨g, rfl, hgl, hrg⟩ := (HR.out.below hB) k x hx
      have htake : l.take (k + 1) = l.take k ++ [x] := by
        rw [List.take_succ_eq_append_getElem hlt]
        rw [List.getElem?_eq_getElem hlt] at hx
        injection hx with hx; rw [hx]
      have HTK := Lib.hid htake
      obtain ⟨row, hrow⟩ : ∃ row, row = lisRow x := ⟨_, rfl⟩
      have hsz : (Tryz.prog.info? 126).map (·.size) = some row.length := by rw [hrow, lisRow_len hx30]; exact size135
      have hsz2 : (Tryz.prog.info? 126).map (·.size) = some row.toArray.size := by rw [hrow, List.size_toArray, lisRow_len hx30]; exact size135
      have hsz3 : row.toArray.size = 31 := by rw [hrow, List.size_toArray, lisRow_len hx30]
      rw [← hrow] at hrg
      have hone : row.toArray.all (·.oneCell') = true := by
        rw [hrow, Array.all_eq_true]; intro i hi
        have : (lisRow x).toArray[i] ∈ lisRow x := by simp
        unfold lisRow at this
        rcases List.mem_cons.1 this with h | h
        · rw [show (lisRow x).toArray[i] = _ from h]; rfl
        · obtain ⟨b', _, hb⟩ := List.mem_map.1 h; rw [show (lisRow x).toArray[i] = _ from hb.symm]; rfl
      have HRG := Lib.hid hrg
      have HSZ := Lib.hid hsz
      have HSZ2 := Lib.hid hsz2
      have HSZ3 := Lib.hid hsz3
      have HON := Lib.hid hone
      have HRW := Lib.hid hrow
      have hlt' : (k : Int) < l.length := by omega
      have hck := crowds_ok HL.out k (by omega)
      obtain ⟨cs, hcs⟩ : ∃ cs, cs = crowdsTo [] (l.take k) := ⟨_, rfl⟩
      rw [← hcs] at hown hck
      have HCK := Lib.hid hck
      have HCS := Lib.hid hcs
      have HOW := Lib.hid hown
      have hrows := own_slice hown
      clear hx hrow hsz hsz2 hsz3 hrg hone htake hown hB hcs hck HO
      have hcl := HCK.out.len
      obtain ⟨ob, cp, rfl⟩ := hrows
      go_wp2_with (first
        | (with_reducible refine wpList_load_mid rfl 126 _ rfl g (k * 31) rfl row _ HRG.out und135 rfl HSZ.out ?_)
        | (with_reducible refine wpList_store_new rfl 126 _ _ rfl _ row.toArray rfl rfl HSZ2.out ?hs HON.out ?_))
      case hs => exact (Hid.out HSZ3).symm
      have hC0 : CrI w l g cs (.slice ob cs.length cp) x wo.heap.size (wo.alloc (.cells row.toArray 126)) :=
        ⟨HOW.out.alloc _, by rw [HRW.out]; exact heap_alloc_last _ _, al HB.out _⟩
      have HC0 := Lib.hid hC0
      clear hC0
      go_loopg [6, 15] cs.length (fun gk2 u6 i wi => ∃ j : Nat, gk2 + j = cs.length ∧ i = .int .i64 j ∧ (∀ i c, i < j → cs[i]? = some c → c.1 ≠ x.2) ∧ CrI w l g cs (.slice ob cs.length cp) x wo.heap.size wi)
      case atStart => exact ⟨0, by omega, rfl, fun i c h => by omega, HC0.out⟩
      case round =>
        clear HC0
        obtain ⟨j, hj, rfl, hno, hC⟩ := hrel
        have HNO := Lib.hid hno
        have HC := Lib.hid hC
        by_cases hjl : j < cs.length
        · obtain ⟨c, hc⟩ : ∃ c, cs[j]? = some c := ⟨_, List.getElem?_eq_getElem hjl⟩
          have hc30 := HCK.out.row c (List.mem_of_getElem? hc)
          have hcb := HCK.out.bd c (List.mem_of_getElem? hc)
          have hjl' : (j : Int) < cs.length := by omega
          have HCJ := Lib.hid hc
          clear hno hC hc
          obtain ⟨g', rfl, hgb, hrc⟩ : ∃ g', ob = some ⟨g', 0, none⟩ ∧ w.heap.size ≤ g' ∧ wr.rangeAt g' (j * 31) (crowdRow c) := by
            rcases own_rows (fun c hc => crowdRow_len (HCK.out.row c hc)) HC.out.own with ⟨h1, _⟩ | ⟨g2, cp2, h1, hb2, h2⟩
            · rw [h1] at hjl; simp at hjl
            · injection h1 with e1 _ _; exact ⟨g2, e1, hb2, h2.2 j c HCJ.out⟩
          have hr1 : wr.rangeAt g' (j * 31) (c.1.map Value.bool) := fun q v hv => hrc q v (by
            unfold crowdRow; rw [List.getElem?_append_left (by rw [List.length_map]; have := (List.getElem?_eq_some_iff.1 hv).1; simpa using this)]; exact hv)
          have hmany : wr.cell? ⟨g', j * 31 + 30, none⟩ = some (.int .i64 c.2) := hrc 30 _ (by unfold crowdRow; rw [List.getElem?_append_right (by simp [hc30])]; simp [hc30])
          have hr2 : wr.rangeAt wo.heap.size 1 (x.2.map Value.bool) := fun q v hv => by
            rw [cell_of_row _ _ _ _ _ _ HC.out.box]; unfold lisRow; rw [List.getElem?_toArray, Nat.add_comm, List.getElem?_cons_succ]; exact hv
          have hgw : g' < wr.heap.size := by
            rcases HC.out.own.2 with ⟨h1, _⟩ | ⟨g2, _, _, h1, _, h3, _⟩
            · cases h1
            · injection h1 with e1 _ _; injection e1 with e1; injection e1 with e1; subst e1; exact (Array.getElem?_eq_some_iff.1 h3).1
          have hbw : wo.heap.size < wr.heap.size := (Array.getElem?_eq_some_iff.1 HC.out.box).1
          have hsc : (Tryz.prog.info? 124).map (·.size) = some (c.1.map Value.bool).length := by rw [List.length_map, hc30]; exact size128
          have hsx : (Tryz.prog.info? 124).map (·.size) = some (x.2.map Value.bool).length := by rw [List.length_map, hx30]; exact size128
          have HR1 := Lib.hid hr1
          have HR2 := Lib.hid hr2
          have HMN := Lib.hid hmany
          have HSC := Lib.hid hsc
          have HSX := Lib.hid hsx
          have HQ := Lib.hid (fun W => run_eq128 c.1 x.2 hc30 hx30 W)
          obtain ⟨A, hA⟩ : ∃ A, A = (c.1.map Value.bool).toArray := ⟨_, rfl⟩
          obtain ⟨X, hX⟩ : ∃ X, X = (x.2.map Value.bool).toArray := ⟨_, rfl⟩
          have HA := Lib.hid hA
          have HX := Lib.hid hX
          obtain ⟨q, hq⟩ : ∃ q : Bool, decide (c.1 = x.2) = q := ⟨_, rfl⟩
          have HQQ := Lib.hid hq
          have HEQ := Lib.hid (show ∀ W, (binOp .eql 124 (.agg A) (.agg X)).run Tryz.prog W = .ok (.bool q) W from fun W => by rw [hA, hX, ← hq]; exact HQ.out W)
          clear hrc hr1 hr2 hsc hsx hmany hA hX hq
          go_wp2_with fail
          refine Rs.region_det 8 [[], [], [0, 1], [0, 1, 2], [0, 1, 2, 3], [], [5], [0, 1, 2, 3, 4, 5, 6]] [some 18, some 19, some 20, some 21, some 22, some 23, some 24, some 25]
            (fun i => [.slice (some ⟨g', 0, none⟩) cs.length cp, .int .i64 j, .pointer (some ⟨g', j * 31, none⟩), .pointer (some ⟨g', j * 31, none⟩), .agg A, .pointer (some ⟨wo.heap.size, 1, none⟩), .agg X, .bool q].getD i undef) (by kernel_rfl) (by kernel_rfl) rfl ?_ ?_
          · refine ⟨.plain rfl ?_, .plain rfl ?_, .plain rfl ?_, .plain rfl ?_, .plain rfl (fun w' hG => ?_), .plain rfl ?_, .plain rfl (fun w' hG => ?_), .plain rfl (fun w' hG => ?_), trivial⟩
            case refine_5 => exact HA.out ▸ exec_load_mid 124 _ rfl rfl (fun q v hv => (hG.cell (p := ⟨g', j * 31 + q, none⟩) hgw).trans (HR1.out q v hv)) und128 rfl HSC.out
            case refine_7 => exact HX.out ▸ exec_load_mid 124 _ rfl rfl (fun q v hv => (hG.cell (p := ⟨wo.heap.size, 1 + q, none⟩) hbw).trans (HR2.out q v hv)) und128 rfl HSX.out
            case refine_8 => exact exec_bin .eql 124 124 _ _ rfl (u := .agg A) (v := .agg X) (r := .bool q) rfl rfl (eqg128 _ _ _ _ _) (HEQ.out _)
            all_goals
              intro w' hG
              simp [go_sem, Rs.look, hjl, hjl']
          · intro w' hG
            simp only [Rs.canon, Rs.dstOf, List.range_succ, List.range_zero, List.nil_append, List.cons_append, List.foldl_cons, List.foldl_nil, List.drop_succ_cons, List.drop_zero, List.drop_nil, List.getElem?_toArray, List.getElem?_cons_succ, List.getElem?_cons_zero, Option.bind_some, Act.put, List.getD_cons_succ, List.getD_cons_zero, List.setIfInBounds_toArray, List.set_cons_succ, List.set_cons_zero]
            obtain ⟨hcG, hfG⟩ := kept hG
            have hzG := hG.size
            have hown2 := own_below HC.out.own hG
            have hbox2 := (hG.block wo.heap.size hbw).trans HC.out.box
            have hbel2 := join HC.out.bel hG
            have hm2 : w'.cell? ⟨g', j * 31 + 30, none⟩ = some (.int .i64 c.2) := (hG.cell (p := ⟨g', j * 31 + 30, none⟩) hgw).trans HMN.out
            have hfz : w'.frozen? ⟨g', j * 31 + 30, none⟩ = false := by
              rcases hown2.2 with ⟨h1, _⟩ | ⟨g2, _, _, h1, _, h3, _⟩
              · cases h1
              · injection h1 with e1 _ _; injection e1 with e1; injection e1 with e1; subst e1; exact frozen_of_row _ _ _ _ _ h3
            have HO2 := Lib.hid hown2
            have HB2 := Lib.hid hbel2
            have HX2 := Lib.hid hbox2
            have hgw' : g' < w'.heap.size := Nat.lt_of_lt_of_le hgw hzG
            have hm0 : 1 ≤ c.2 := hcb.1
            have hm1 : c.2 ≤ 30 := by omega
            clear hG hown2 hbel2 hbox2 hcG hfG
            cases q with
            | true =>
              go_wp2
              go_roundg (go - 1)
              case rel =>
                refine ⟨k + 1, by omega, by simp, ?_, setc HB2.out hgb⟩
                have hxe : c.1 = x.2 := of_decide_eq_true HQQ.out
                have hadd := addCrowd_at cs x.2 j c.2 HNO.out (HCJ.out.trans (by rw [← hxe]))
                rw [HTK.out, crowdsTo_snoc, ← HCS.out, hadd, List.length_set, ← flat_set crowdRow 31 cs j 30 c (x.2, c.2 + 1) (.int .i64 (c.2 + 1)) (fun z hz => crowdRow_len (HCK.out.row z hz)) HCJ.out (by omega) (by unfold crowdRow; rw [hxe, List.set_append_right _ _ (by simp [hx30])]; simp [hx30])]
                refine own_setCell_at HO2.out ?_ _
                rw [HO2.out.1]
                have : j + 1 ≤ cs.length := hjl
                omega
              case measure => omega
            | false =>
              go_wp2
              go_roundg (gk - 1)
              case rel => exact ⟨j + 1, by omega, rfl, fun i c' hi h => by
                rcases Nat.lt_succ_iff_lt_or_eq.1 hi with hi | rfl
                · exact HNO.out i c' hi h
                · have := HCJ.out.symm.trans h; injection this with this; subst this; exact of_decide_eq_false HQQ.out, ⟨HO2.out, HX2.out, HB2.out⟩⟩
              case measure => omega
        · have hjj : j = cs.length := by omega
          subst hjj
          have hnew : addCrowd cs x.2 = cs ++ [(x.2, 1)] := addCrowd_new cs x.2 fun c hc => by
            obtain ⟨i, hi, he⟩ := List.getElem_of_mem hc
            exact hno i c hi (by rw [List.getElem?_eq_getElem hi, he])
          have hbw : wo.heap.size < wr.heap.size := (Array.getElem?_eq_some_iff.1 hC.box).1
          have hr2 : wr.rangeAt wo.heap.size 1 (x.2.map Value.bool) := fun q v hv => by
            rw [cell_of_row _ _ _ _ _ _ hC.box]; unfold lisRow; rw [List.getElem?_toArray, Nat.add_comm, List.getElem?_cons_succ]; exact hv
          have hsx : (Tryz.prog.info? 124).map (·.size) = some (x.2.map Value.bool).length := by rw [List.length_map, hx30]; exact size128
          have HR2 := Lib.hid hr2
          have HSX := Lib.hid hsx
          have HNEW := Lib.hid hnew
          obtain ⟨es, hes⟩ : ∃ es, es = x.2.map Value.bool := ⟨_, rfl⟩
          have hel : es.length = 30 := by rw [hes]; simp [hx30]
          have hone2 : ∀ u ∈ es ++ [Value.int .i64 1], u.oneCell' = true := by
            intro u hu
            rcases List.mem_append.1 hu with hu | hu
            · rw [hes] at hu; obtain ⟨b', _, rfl⟩ := List.mem_map.1 hu; rfl
            · rw [List.mem_singleton.1 hu]; rfl
          rw [← hes] at hr2 hsx HR2 HSX
          have HES := Lib.hid hes
          have HEL := Lib.hid hel
          have HONE := Lib.hid hone2
          have hzz := HB.out.size
          have hbl : w.heap.size ≤ wr.heap.size := HC.out.bel.size
          clear hno hC hr2 hsx hnew hes hone2
          go_wp2_with (first
            | (with_reducible refine wpList_load_mid rfl 124 _ rfl wo.heap.size 1 rfl es _ HR2.out und128 rfl HSX.out ?_)
            | (with_reducible refine wpList_build2 rfl 181 0 1 _ _ rfl (.agg es.toArray) (.int .i64 1) _ rfl rfl (build192 1 es hel _) ?_)
            | (with_reducible refine wpList_bslice1 rfl 156 _ rfl (.agg (es ++ [Value.int .i64 1]).toArray) _ rfl (bslice167_row 1 es hel _) ?_)
            | (at_builtin; refine wpList_append_own _ rfl _ _ 156 rfl w.heap.size 181 i0 _ 31 40 A_und167 hi hz0 hz1 hz2 rfl (by decide) _ _ _ rfl (HC.out.own.alloc _) ⟨wr.heap.size, 0, none⟩ 1 1 (es ++ [Value.int .i64 1]) rfl ?c0 ?c1 HONE.out ?c3 ?c4 ?c5 ?_))
          case c0 => simp [HEL.out]
          case c1 =>
            intro j u hj
            have hadd : (⟨wr.heap.size, 0, none⟩ : Addr).add j = ⟨wr.heap.size, j, none⟩ := by unfold Addr.add; split <;> simp_all
            rw [hadd, cell_of_row _ _ _ _ _ _ (heap_alloc_last _ _)]
            simpa using hj
          case c3 => unfold maxLen; omega
          case c4 => omega
          case c5 => simp; omega
          intro v' w7 hown7 hgrow _
          have hL7 := below_grown (al HC.out.bel _) (HC.out.own.alloc _) (Nat.le_refl _) (by simp; omega) hgrow
          have HOWN7 := Lib.hid hown7
          have HL7 := Lib.hid hL7
          clear hown7 hgrow hL7
          go_wp2
          go_roundg (go - 1)
          case rel => exact ⟨k + 1, by omega, by simp, by rw [HTK.out, crowdsTo_snoc, ← HCS.out, HNEW.out, List.length_append, List.flatMap_append]; simpa [crowdRow, HES.out] using HOWN7.out, HL7.out⟩
          case measure => omega
    · have hkk : k = l.length := by omega
      clear hown hB
      subst hkk
      rw [List.take_length] at HO
      go_wp2
      try rw [Exit.noGoto_ret]
      go_ret
      exact ⟨_, rfl, HO.out, HB.out⟩
end Go.Proofs.YtimedmkpenbmkaaGreat
