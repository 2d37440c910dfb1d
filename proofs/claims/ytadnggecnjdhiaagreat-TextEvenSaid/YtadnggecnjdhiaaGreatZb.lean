/- Contracts of the code and of the reference, part 2. -/
import Derived.Test.YtadnggecnjdhiaaGreatZa
import Derived.Laws.IdiomCopy
import Derived.Lib.LazyBuf
import Derived.Deep.MidRow
import Derived.Deep.WholeRow
import Derived.Sort.BigQuietIn
import Derived.Deep.RegionHeld3
import Derived.Laws.Rows
import Derived.IntWalk
set_option linter.unusedSimpArgs false
set_option linter.unusedVariables false
namespace Go.Proofs.YtadnggecnjdhiaaGreat
open Go.RowKit Tx

theorem A_infoI : (Tryz.prog.info? 3).map (fun i => (i.zero, i.size, i.bytes)) = some (some (.int .i64 0), 1, 8) := by kernel_rfl
theorem A_undI : Tryz.prog.underlying 34 = some (.slice 3) := by kernel_rfl
theorem grown_of_below {w w' : World} (h : Below w.heap.size w w') (row : Option Nat) : w.grownBy w' row := ⟨h.os, h.tape, h.output, h.size, fun k hk _ => h.block k hk⟩
theorem own_below {w w' : World} {base : Nat} {e : TypeId} {size : Nat} {v : Value} {n : Nat} {xs : List Value} (h : w.ownsRow base e size v n xs) (hB : Below w.heap.size w w') : w'.ownsRow base e size v n xs :=
  h.kept (grown_of_below hB none) (by cases v.ownBlock <;> simp)
theorem below_grown {B : Nat} {a w w' : World} {base : Nat} {e : TypeId} {size : Nat} {v : Value} {n : Nat} {xs : List Value} (h : Below B a w) (hown : w.ownsRow base e size v n xs) (hb : B ≤ base) (hB : B ≤ w.heap.size) (hg : w.grownBy w' v.ownBlock) : Below B a w' :=
  h.grown hg hB (fun k hk => Nat.le_trans hb (hown.lt k hk).1)
theorem al2 {B : Nat} {a w : World} (h : Below B a w) (hB : B ≤ w.heap.size) (o : Obj) : Below B a (w.alloc o) := h.alloc hB o
theorem own_none (w : World) (base : Nat) (e : TypeId) (size : Nat) : w.ownsRow base e size (.slice none 0 0) 0 [] := ⟨by simp, .inl ⟨rfl, rfl⟩⟩
theorem own_base {w : World} {base base' : Nat} {e : TypeId} {size : Nat} {v : Value} {n : Nat} {xs : List Value} (h : w.ownsRow base e size v n xs) (hb : base' ≤ base) : w.ownsRow base' e size v n xs := by
  refine ⟨h.1, ?_⟩
  rcases h.2 with h1 | ⟨g, cap, cur, h1, h2, h3⟩
  · exact .inl h1
  · exact .inr ⟨g, cap, cur, h1, by omega, h3⟩
/-- a row of numbers that is owned, as one that is read -/
theorem own_rd {w : World} {base : Nat} {e : TypeId} {v : Value} {xs : List Int} {n : Nat} (h : w.ownsRow base e 1 v n (xs.map (Value.int .i64))) (hn : n = xs.length) : ∃ p c, v = .slice p xs.length c ∧ Ints w p xs ∧ (∀ b o, p = some ⟨b, o, none⟩ → base ≤ b ∧ o = 0 ∧ ∀ i, w.frozen? ⟨b, i, none⟩ = false) ∧ c ≤ maxLen ∧ xs.length ≤ c := by
  subst hn
  have hc := h
  rcases h.2 with ⟨rfl, hn⟩ | ⟨g, cap, cur, rfl, hb, hg, h1, h2, h3, h4⟩
  · exact ⟨none, 0, by rw [hn], .inl (List.length_eq_zero_iff.1 hn), (fun b o h => by cases h), (by unfold maxLen; omega), by omega⟩
  · refine ⟨_, cap, rfl, .inr ⟨g, 0, rfl, (Array.getElem?_eq_some_iff.1 hg).1, fun i hi => ?_⟩, (fun b o h => by injection h with h; injection h with h1 h2; subst h1; exact ⟨hb, h2.symm, fun i => by simp [World.frozen?, hg]⟩), h2, h1⟩
    have := hc.cells (g := g) rfl i (.int .i64 (xs.getD i 0)) (by simp [List.getElem?_eq_getElem hi])
    rw [Nat.zero_add]
    have hadd : (⟨g, 0, none⟩ : Addr).add i = ⟨g, i, none⟩ := by unfold Addr.add; split <;> simp_all
    rwa [hadd] at this
theorem blk_cells {W : World} {b : Nat} {C : Array Value} {ty : TypeId} {fr : Nat × Nat} (h : W.heap[b]? = some (.cells C ty fr)) (i : Nat) (v : Value) (hv : C[i]? = some v) : W.cell? ⟨b, i, none⟩ = some v := by
  simp [World.cell?, h, hv]
theorem heap_last (w : World) (o : Obj) : (w.alloc o).heap[w.heap.size]? = some o := World.alloc_heap_new _ _
theorem grown_trans {a b c : World} {row : Option Nat} (h : a.grownBy b row) (k : b.grownBy c row) : a.grownBy c row :=
  ⟨k.os.trans h.os, k.tape.trans h.tape, k.output.trans h.output, Nat.le_trans h.size k.size, fun i hi hn => (k.block i (Nat.lt_of_lt_of_le hi h.size) hn).trans (h.block i hi hn)⟩
theorem grown_refl (a : World) (row : Option Nat) : a.grownBy a row := ⟨rfl, rfl, rfl, Nat.le_refl _, fun _ _ _ => rfl⟩
theorem grown_set (w : World) (g o : Nat) (v : Value) : w.grownBy (w.setCell ⟨g, o, none⟩ v) (some g) :=
  ⟨rfl, rfl, rfl, by simp [World.setCell], fun k _ hn => Below.heap_setCell _ _ _ _ (fun e => hn (by rw [e]))⟩
theorem grown_drewN {a b : World} {row : Option Nat} (h : a.grownBy b row) (q : Nat) : a.grownBy (b.drewN q) row := ⟨h.os, h.tape, h.output, h.size, h.block⟩
theorem grown_drew {a b : World} {row : Option Nat} (h : a.grownBy b row) : a.grownBy b.drew row := ⟨h.os, h.tape, h.output, h.size, h.block⟩
theorem below_of_grown {B : Nat} {w a b : World} {g : Nat} (h : Below B w a) (hg : a.grownBy b (some g)) (hb : B ≤ g) (hs : B ≤ a.heap.size) : Below B w b :=
  h.grown hg hs (fun k hk => by cases hk; exact hb)
theorem below_drewN' {B : Nat} {a w : World} (h : Below B a w) (q : Nat) : Below B a (w.drewN q) := ⟨h.os, h.tape, h.output, h.size, h.block⟩
theorem heap_set_same {w : World} {g o : Nat} {cs : Array Value} {t : TypeId} (v : Value) (h : w.heap[g]? = some (.cells cs t (0, 0))) : (w.setCell ⟨g, o, none⟩ v).heap[g]? = some (.cells (cs.setIfInBounds o v) t (0, 0)) := by
  simp only [World.setCell, Array.getElem?_modify, h]; simp

theorem cell_one_new (w : World) (v : Value) (T : TypeId) : ∀ (j : Nat) (u : Value), [v][j]? = some u → (w.alloc (.cells #[v] T)).cell? ((⟨w.heap.size, 0, none⟩ : Addr).add j) = some u := by
  intro j u hj
  match j, hj with
  | 0, hj => simp at hj; subst hj; simp [Addr.add]
theorem belS {B b o : Nat} {a w : World} {v : Value} (h : Below B a w) (hb : B ≤ b) : Below B a (w.setCell ⟨b, o, none⟩ v) := h.setCell (p := ⟨b, o, none⟩) hb v
theorem belA {B : Nat} {a w : World} {o : Obj} (h : Below B a w) (hb : B ≤ w.heap.size) : Below B a (w.alloc o) := h.alloc hb o
theorem belD {B : Nat} {a w : World} (h : Below B a w) : Below B a w.drew := h.drew
def setFrom : Array Value → Nat → List Value → Array Value
  | c, _, [] => c
  | c, o, v :: r => setFrom (c.setIfInBounds o v) (o + 1) r
theorem size_setFrom : ∀ (vs : List Value) (c : Array Value) (o : Nat), (setFrom c o vs).size = c.size
  | [], _, _ => rfl
  | _ :: r, c, o => by rw [setFrom, size_setFrom r]; simp
theorem get_setFrom : ∀ (vs : List Value) (c : Array Value) (o j : Nat), o + vs.length ≤ c.size → (setFrom c o vs)[j]? = if o ≤ j ∧ j < o + vs.length then vs[j - o]? else c[j]?
  | [], c, o, j, _ => by rw [setFrom, if_neg (by simp only [List.length_nil]; omega)]
  | v :: r, c, o, j, h => by
    simp only [List.length_cons] at h
    rw [setFrom, get_setFrom r _ _ _ (by simp; omega)]
    by_cases h1 : o + 1 ≤ j ∧ j < o + 1 + r.length
    · rw [if_pos h1, if_pos (by simp only [List.length_cons]; omega), show j - o = (j - (o + 1)) + 1 by omega]; simp
    · rw [if_neg h1]
      by_cases h2 : j = o
      · subst h2; rw [if_pos (by simp only [List.length_cons]; omega)]; simp only [Nat.sub_self, List.getElem?_cons_zero]; rw [Array.getElem?_setIfInBounds, if_pos rfl, if_pos (by omega)]
      · rw [if_neg (by simp only [List.length_cons]; omega), Array.getElem?_setIfInBounds, if_neg (by omega)]
theorem heap_setCells (g : Nat) : ∀ (vs : List Value) (o : Nat) (w : World) (c : Array Value) (e : TypeId) (fr : Nat × Nat), w.heap[g]? = some (.cells c e fr) → (w.setCells g o vs).heap[g]? = some (.cells (setFrom c o vs) e fr)
  | [], _, _, _, _, _, h => h
  | v :: r, o, w, c, e, fr, h => by
    rw [World.setCells, setFrom]
    refine heap_setCells g r (o + 1) _ _ e fr ?_
    simp only [World.setCell, Array.getElem?_modify, h]
    simp
theorem below_setCells' {B g : Nat} {a : World} (hg : B ≤ g) : ∀ (vs : List Value) (o : Nat) (w : World), Below B a w → Below B a (w.setCells g o vs)
  | [], _, _, h => h
  | v :: r, o, w, h => below_setCells' hg r (o + 1) _ (h.setCell hg v)

theorem setFrom_all (vs : List Value) (c : Array Value) (h : c.size = vs.length) : setFrom c 0 vs = vs.toArray := by
  apply Array.ext_getElem?
  intro j
  rw [get_setFrom _ _ _ _ (by omega)]
  by_cases hj : j < vs.length
  · rw [if_pos (by omega)]; simp
  · rw [if_neg (by omega), Array.getElem?_eq_none (by omega)]; simp; omega
/-- all elements of a row that is owned, set anew -/
theorem own_setCells {w : World} {base : Nat} {e : TypeId} {g n cap : Nat} {xs ys : List Value} (h : w.ownsRow base e 1 (.slice (some ⟨g, 0, none⟩) n cap) n xs) (hy : ys.length = n) : (w.setCells g 0 ys).ownsRow base e 1 (.slice (some ⟨g, 0, none⟩) n cap) n ys := by
  refine ⟨by omega, ?_⟩
  rcases h.2 with ⟨h1, _⟩ | ⟨g', cap', cur, hv, hb, hg, h1, h2, h3, h4⟩
  · cases h1
  · injection hv with e1 e2 e3
    injection e1 with e1; injection e1 with e1
    subst e1; subst e3
    refine .inr ⟨g, cap, setFrom cur 0 ys, rfl, hb, heap_setCells g ys 0 w cur e _ hg, h1, h2, by rw [size_setFrom, h3], ?_⟩
    apply List.ext_getElem?
    intro j
    rw [List.getElem?_take, Array.getElem?_toList, get_setFrom _ _ _ _ (by omega)]
    by_cases hj : j < n
    · rw [if_pos (by omega), if_pos (by omega)]; simp
    · rw [if_neg (by omega), List.getElem?_eq_none (by omega)]
theorem own_drewN {w : World} {base : Nat} {e : TypeId} {size : Nat} {v : Value} {n : Nat} {xs : List Value} (h : w.ownsRow base e size v n xs) (q : Nat) : (w.drewN q).ownsRow base e size v n xs := h
/-! bounds of right texts -/
structure Text.Ok (t : Text) : Prop where
  n1 : 1 ≤ t.words.length
  n12 : t.words.length ≤ 12
  m6 : t.turns.length ≤ 6
  b1 : 1 ≤ t.breath
  b40 : t.breath ≤ 40
  word : ∀ x ∈ t.words, 1 ≤ x.syl ∧ x.syl ≤ 9 ∧ 0 ≤ x.wt ∧ x.wt ≤ 20
  turn : ∀ u ∈ t.turns, 0 ≤ u.word ∧ u.word < t.words.length ∧ 0 ≤ u.lo ∧ u.lo ≤ u.hi ∧ u.hi < t.words.length ∧ (u.word < u.lo ∨ u.hi < u.word)
theorem any_false {α : Type} {l : List α} {p : α → Bool} (h : ¬ l.any p = true) : ∀ x ∈ l, p x = false := fun x hx => by
  cases hp : p x with
  | false => rfl
  | true => exact absurd (List.any_eq_true.2 ⟨x, hx, hp⟩) h
theorem btw_true {n lo hi : Int} (h : btw n lo hi = true) : lo ≤ n ∧ n ≤ hi := by simpa [btw] using h
theorem err_ok {t : Text} (h : t.err = 0) : Text.Ok t := by
  unfold Text.err Text.len at h
  by_cases h1 : t.words.length < 1 ∨ 12 < t.words.length ∨ 6 < t.turns.length
  · rw [if_pos h1] at h; omega
  rw [if_neg h1] at h
  by_cases h2 : t.breath < 1 ∨ 40 < t.breath
  · rw [if_pos h2] at h; omega
  rw [if_neg h2] at h
  by_cases h3 : t.words.any badWord = true
  · rw [if_pos h3] at h; omega
  rw [if_neg h3] at h
  by_cases h4 : t.turns.any (namesNo t.words.length) = true
  · rw [if_pos h4] at h; omega
  rw [if_neg h4] at h
  by_cases h5 : t.turns.any endsB = true
  · rw [if_pos h5] at h; omega
  rw [if_neg h5] at h
  by_cases h6 : t.turns.any itself = true
  · rw [if_pos h6] at h; omega
  refine ⟨by omega, by omega, by omega, by omega, by omega, fun x hx => ?_, fun u hu => ?_⟩
  · have := any_false h3 x hx
    simp only [badWord, Bool.or_eq_false_iff, Bool.not_eq_false'] at this
    have a := btw_true this.1
    have b := btw_true this.2
    omega
  · have a := any_false h4 u hu
    have b := any_false h5 u hu
    have c := any_false h6 u hu
    simp only [namesNo, absent, Bool.or_eq_false_iff, Bool.not_eq_false'] at a
    have a1 := btw_true a.1.1
    have a2 := btw_true a.1.2
    have a3 := btw_true a.2
    simp only [endsB, decide_eq_false_iff_not] at b
    simp only [itself, btw, Bool.and_eq_false_iff, decide_eq_false_iff_not] at c
    omega
end Go.Proofs.YtadnggecnjdhiaaGreat
namespace Go.Proofs.YtadnggecnjdhiaaGreat
open Go.RowKit Tx
set_option linter.unusedSimpArgs false
set_option linter.unusedVariables false

/-- what speaks of the blocks below B alone -/
def Low {β : Type} (B : Nat) (J : β → World → Prop) : Prop := ∀ s W W', J s W → Below B W W' → J s W'

theorem Low.mono {β : Type} {B B' : Nat} {J : β → World → Prop} (h : Low B J) (hB : B ≤ B') : Low B' J := fun s W W' hs hb => h s W W' hs (hb.mono hB)

/-- the blocks in Kp are as they were -/
structure Hold (Kp : Nat → Prop) (A C : World) : Prop where
  os : C.os = A.os
  tape : C.tape = A.tape
  output : C.output = A.output
  size : A.heap.size ≤ C.heap.size
  same : ∀ k, Kp k → k < A.heap.size → C.heap[k]? = A.heap[k]?
theorem Hold.refl (Kp : Nat → Prop) (A : World) : Hold Kp A A := ⟨rfl, rfl, rfl, Nat.le_refl _, fun _ _ _ => rfl⟩
theorem Hold.trans {Kp : Nat → Prop} {A B C : World} (h : Hold Kp A B) (k : Hold Kp B C) : Hold Kp A C :=
  ⟨k.os.trans h.os, k.tape.trans h.tape, k.output.trans h.output, Nat.le_trans h.size k.size, fun i hi hl => (k.same i hi (Nat.lt_of_lt_of_le hl h.size)).trans (h.same i hi hl)⟩
theorem Hold.mono {Kp Kq : Nat → Prop} {A C : World} (h : Hold Kp A C) (hq : ∀ k, Kq k → k < A.heap.size → Kp k) : Hold Kq A C := ⟨h.os, h.tape, h.output, h.size, fun k hk hl => h.same k (hq k hk hl) hl⟩
theorem Hold.of_below {Kp : Nat → Prop} {B : Nat} {A C : World} (h : Below B A C) (hq : ∀ k, Kp k → k < A.heap.size → k < B) : Hold Kp A C := ⟨h.os, h.tape, h.output, h.size, fun k hk hl => h.block k (hq k hk hl)⟩
theorem Hold.to_below {B : Nat} {A C : World} (h : Hold (fun k => k < B) A C) (hB : B ≤ A.heap.size) : Below B A C := ⟨h.os, h.tape, h.output, h.size, fun k hk => h.same k hk (by omega)⟩
theorem Hold.cell {Kp : Nat → Prop} {A C : World} (h : Hold Kp A C) {p : Addr} (hp : Kp p.block) (hl : p.block < A.heap.size) : C.cell? p = A.cell? p := World.cell?_of_block (w := A) (h.same p.block hp hl)

/-- an iterator over the elements of L in their order, with whatever rounds that leave as they are: the blocks in Keep, and what the iterator has laid itself -/
def SeqOf {α : Type} (n : Nat) (P : Program) (g : Nat) (lb : Array Value) (See : α → Array Value → World → Prop) (Keep : Nat → Prop) (L : List α) (w : World) : Prop :=
  ∀ (l : Nat) (J Jx : List α → World → Prop) (W : World), Below w.heap.size w W → Low W.heap.size J →
    (∀ pre x post vs W1, L = pre ++ x :: post → See x vs W1 → J pre W1 → YieldAt Fence.wide (n - 1) P l vs W1 fun e W' =>
      (e = .returned (.bool true) ∧ J (pre ++ [x]) W' ∧ Hold (fun k => (Keep k ∧ k < w.heap.size) ∨ W.heap.size ≤ k) W1 W') ∨
      (e = .returned (.bool false) ∧ Jx (pre ++ [x]) W' ∧ Hold (fun k => (Keep k ∧ k < w.heap.size) ∨ W.heap.size ≤ k) W1 W')) →
    J [] W →
    CallsIn Fence.wide n P g (#[.func (.yield l) #[] #[]] ++ lb) W fun e W' => (∃ v, e = .returned v) ∧ (J L W' ∨ (∃ pre, Jx pre W'))

theorem putObj_below {B : Nat} (W : World) (l : Nat) (o : Obj) (h : B ≤ l) (hl : l < W.heap.size) : Below B W (W.putObj l o) :=
  (Below.refl B W).grown (grownBy_putObj' W l o) (by omega) (fun k e => by cases e; exact h)

/-- how a round may be left: M is what the body must leave as it is -/
def roundPostLow {α : Type} (M : Nat → Prop) (I : List α → World → Prop) (Ix : Code → List α → World → Prop) (xs : List α) (W : World) : Exit → Act → World → Prop
  | .normal, _, W' => Hold M W W' ∧ I xs W'
  | .ret, _, W' => Hold M W W' ∧ Ix .ret xs W'
  | .exit id, _, W' => Hold M W W' ∧ Ix (.exit id) xs W'
  | .goto t, _, W' => Hold M W W' ∧ Ix (.goto t) xs W'
  | .panic _, _, _ => False
  | .outgrown, _, _ => False

variable {n : Nat} {P : Program}

/-- A RANGE OVER A FUNCTION, the caller's invariant speaking of what lay before the loop alone; the iterator may do what it likes with blocks of its own. -/
theorem range_of {α : Type} {g : Operand} {ps : Array Tmp} {assign body : Code} {Q : Exit → Act → World → Prop} {a : Act} {w : World}
    {gf : Nat} {lb : Array Value} (hg : a.eval g = .func (.func gf) #[] lb) (eg : ∀ args w, (callFunc gf args).run P w = .ok (.enter gf args) w)
    {See : α → Array Value → World → Prop} {Keep : Nat → Prop} {L : List α} {w0 : World} (hseq : SeqOf (n - 1) P gf lb See Keep L w0) (hb0 : Below w0.heap.size w0 w)
    (hps : ∀ x vs W, See x vs W → vs.size = ps.size)
    (I : List α → World → Prop) (Ix : Code → List α → World → Prop) (hI : Low w.heap.size I) (hIx : ∀ c s W r, Ix c s W → Ix c s (W.putObj (w.heap.size + 1) (.loop r))) (h0 : I [] w)
    (hround : ∀ (l : Nat) (pre : List α) (x : α) (post : List α) (vs : Array Value) (W : World), w.heap.size < l → l < W.heap.size → (∃ o : Obj, W.heap[l]? = some o ∧ o.isCells = false) → L = pre ++ x :: post → See x vs W → I pre W →
      assign.wpIn (Fence.wide.inRound l) (n - 1 - 1) P (Exit.then (fun a' Wa => Below W.heap.size W Wa ∧ ∀ Wb, Wa.grownBy Wb (some l) → Wb.heap.size = Wa.heap.size → I pre Wb →
          body.wpIn (Fence.wide.inRound l) (n - 1 - 1) P (roundPostLow (fun k => (Keep k ∧ k < w.heap.size) ∨ (w.heap.size ≤ k ∧ k < W.heap.size)) I Ix (pre ++ [x]) Wb) a' Wb) (fun _ _ _ => False))
        { tmps := (ps.zip vs).foldl (fun t (p, v) => t.setIfInBounds p v) a.tmps, defers := [] } W)
    (hdone : ∀ (D : Nat) (W : World), D = w.heap.size → I L W → W.heap[D]? = some (.deferred (some [])) → Q .normal { a with defers := { target := .collected D, args := #[] } :: a.defers } W)
    (hstop : ∀ (D : Nat) (c : Code) (pre : List α) (W : World), D = w.heap.size → Ix c pre W → W.heap[D]? = some (.deferred (some [])) → c.wpIn Fence.wide n P Q { a with defers := { target := .collected D, args := #[] } :: a.defers } W) :
    (Code.rangeFunc g ps assign body).wpIn Fence.wide n P Q a w := by
  refine wpIn_rangeFunc fun fn _ => ?_
  generalize hrec : (fun (st : LoopState) (pe : Option Code) => ({ state := st, pending := pe, fn, tmps := a.tmps, params := ps, assign, body, defers := w.heap.size } : Loop)) = rec
  generalize hW1 : (w.alloc (.deferred (some []))).alloc (.loop (rec .ready none)) = W1
  have hs1 : W1.heap.size = w.heap.size + 2 := by rw [← hW1]; simp
  have hbw : Below w.heap.size w W1 := by rw [← hW1]; exact ((Below.refl _ w).alloc (Nat.le_refl _) _).alloc (by simp) _
  have hL : W1.heap[w.heap.size + 1]? = some (.loop (rec .ready none)) := by
    have := World.alloc_heap_new (w.alloc (.deferred (some []))) (.loop (rec .ready none))
    rw [World.size_alloc] at this; rw [← hW1]; exact this
  have hK : W1.heap[w.heap.size]? = some (.deferred (some [])) := by
    rw [← hW1, Below.heap_alloc _ _ _ (by simp)]; exact World.alloc_heap_new w _
  refine ⟨w.heap.size + 1, [{ target := .collected w.heap.size, args := #[] }], W1, { target := .fn (.func gf) lb, args := #[.func (.yield (w.heap.size + 1)) #[] #[]] }, W1, gf,
    #[.func (.yield (w.heap.size + 1)) #[] #[]] ++ lb, W1, ?_, ?_, (fun _ _ => trivial), ?_, (fun h => by cases h), ?_⟩
  · rw [← hW1, ← hrec]; exact run_enterLoop_outer _ _ _ _ _
  · simp only [resolve, hg]; simp [go_sem]
  · simp [invoke, go_sem, eg]
  -- between two rounds: the caller's invariant, and the two blocks of the loop's own
  have book : ∀ {st : LoopState} {pe : Option Code} {W W' : World}, (W.heap[w.heap.size + 1]? = some (.loop (rec st pe)) ∧ W.heap[w.heap.size]? = some (.deferred (some []))) → Below W1.heap.size W W' →
      W'.heap[w.heap.size + 1]? = some (.loop (rec st pe)) ∧ W'.heap[w.heap.size]? = some (.deferred (some [])) := fun h hb =>
    ⟨(hb.block _ (by omega)).trans h.1, (hb.block _ (by omega)).trans h.2⟩
  -- a turn of the loop's own record
  have turn : ∀ {st : LoopState} {pe : Option Code} {W : World} (r : Loop), (W.heap[w.heap.size + 1]? = some (.loop (rec st pe)) ∧ W.heap[w.heap.size]? = some (.deferred (some []))) →
      w.heap.size + 1 < W.heap.size ∧ Below w.heap.size W (W.putObj (w.heap.size + 1) (.loop r)) ∧ (W.putObj (w.heap.size + 1) (.loop r)).heap[w.heap.size + 1]? = some (.loop r) ∧ (W.putObj (w.heap.size + 1) (.loop r)).heap[w.heap.size]? = some (.deferred (some [])) := fun r h => by
    have hlt := (Array.getElem?_eq_some_iff.1 h.1).1
    exact ⟨hlt, putObj_below _ _ _ (by omega) hlt, World.putObj_heap_same hlt, (World.putObj_heap_other (by omega)).trans h.2⟩
  have key := hseq (w.heap.size + 1)
    (fun pre W => I pre W ∧ W.heap[w.heap.size + 1]? = some (.loop (rec .ready none)) ∧ W.heap[w.heap.size]? = some (.deferred (some [])))
    (fun pre W => ∃ c, Ix c pre W ∧ W.heap[w.heap.size + 1]? = some (.loop (rec .done (some c))) ∧ W.heap[w.heap.size]? = some (.deferred (some [])))
    W1 (hb0.trans (hbw.mono hb0.size)) (fun s W W' hs hb => ⟨hI s W W' hs.1 (hb.mono (by omega)), book hs.2 hb⟩)
    ?_ ⟨hI _ _ _ h0 hbw, hL, hK⟩
  · refine key.mono ?_
    rintro e W2 ⟨⟨v, rfl⟩, (⟨hi, hbk⟩ | ⟨pre, c, hi, hbk⟩)⟩
    · obtain ⟨_, hb, _, hk⟩ := turn (rec .exhausted none) hbk
      have he : (Instr.endLoop (w.heap.size + 1)).run P W2 = .ok none (W2.putObj (w.heap.size + 1) (.loop (rec .exhausted none))) := by subst hrec; exact run_endLoop (P := P) hbk.1 (by simp)
      exact ⟨none, _, he, hdone _ _ rfl (hI _ _ _ hi hb) hk⟩
    · obtain ⟨_, hb, _, hk⟩ := turn (rec .exhausted (some c)) hbk
      have he : (Instr.endLoop (w.heap.size + 1)).run P W2 = .ok (some c) (W2.putObj (w.heap.size + 1) (.loop (rec .exhausted (some c)))) := by subst hrec; exact run_endLoop (P := P) hbk.1 (by simp)
      exact ⟨some c, _, he, hstop _ c pre _ rfl (hIx _ _ _ _ hi) hk⟩
  · rintro pre x post vs W hL hSee ⟨hi, hbk⟩
    have hlt := (Array.getElem?_eq_some_iff.1 hbk.1).1
    have hy : (Instr.yield (w.heap.size + 1) vs).run P W = .ok (.round (w.heap.size + 1) fn ((ps.zip vs).foldl (fun t (p, v) => t.setIfInBounds p v) a.tmps) assign body) W := by subst hrec; exact run_yield (P := P) (args := vs) hbk.1 (hps _ _ _ hSee)
    refine ⟨fn, _, assign, body, hy, roundIn_of_wpIn trivial (wpIn_mono (hround _ pre x post vs W (by omega) hlt ⟨_, hbk.1, rfl⟩ hL hSee hi) ?_)⟩
    rintro e a' Wa hp
    cases e with
    | normal =>
      obtain ⟨hba, hbody⟩ := hp
      have hbk' : Wa.heap[w.heap.size + 1]? = some (.loop (rec .ready none)) ∧ Wa.heap[w.heap.size]? = some (.deferred (some [])) := ⟨(hba.block _ hlt).trans hbk.1, (hba.block _ (by omega)).trans hbk.2⟩
      have hia : I pre Wa := hI _ _ _ hi (hba.mono (by omega))
      obtain ⟨hlt', hb2, hl2, hk2⟩ := turn (rec .busy none) hbk'
      have hbeg : (Instr.beginRound (w.heap.size + 1)).run P Wa = .ok () (Wa.putObj (w.heap.size + 1) (.loop (rec .busy none))) := by subst hrec; exact run_beginRound (P := P) hbk'.1 rfl
      refine ⟨_, hbeg, wpIn_mono (hbody _ (grownBy_putObj' _ _ _) (by simp) (hI _ _ _ hia hb2)) ?_⟩
      -- the round's end
      have fin : ∀ (jump : Option Code) (W3 : World), Hold (fun k => (Keep k ∧ k < w.heap.size) ∨ (w.heap.size ≤ k ∧ k < W.heap.size)) (Wa.putObj (w.heap.size + 1) (.loop (rec .busy none))) W3 →
          (Instr.endRound (w.heap.size + 1) jump).run P W3 = .ok (.bool jump.isNone) (W3.putObj (w.heap.size + 1) (.loop (rec (if jump.isNone then .ready else .done) jump))) ∧
          Below w.heap.size W3 (W3.putObj (w.heap.size + 1) (.loop (rec (if jump.isNone then .ready else .done) jump))) ∧
          (W3.putObj (w.heap.size + 1) (.loop (rec (if jump.isNone then .ready else .done) jump))).heap[w.heap.size + 1]? = some (.loop (rec (if jump.isNone then .ready else .done) jump)) ∧
          (W3.putObj (w.heap.size + 1) (.loop (rec (if jump.isNone then .ready else .done) jump))).heap[w.heap.size]? = some (.deferred (some [])) := fun jump W3 hk3 => by
        have hl3 := (hk3.same (w.heap.size + 1) (.inr ⟨by omega, hlt⟩) (by simp; omega)).trans hl2
        have hr : (Instr.endRound (w.heap.size + 1) jump).run P W3 = .ok (.bool jump.isNone) (W3.putObj (w.heap.size + 1) (.loop (rec (if jump.isNone then .ready else .done) jump))) := by subst hrec; exact run_endRound (P := P) jump hl3
        obtain ⟨_, b, c, d⟩ := turn (rec (if jump.isNone then .ready else .done) jump) ⟨hl3, (hk3.same w.heap.size (.inr ⟨Nat.le_refl _, by omega⟩) (by simp; omega)).trans hk2⟩
        exact ⟨hr, b, c, d⟩
      have hold : ∀ (r : Loop) (W3 : World), Hold (fun k => (Keep k ∧ k < w.heap.size) ∨ (w.heap.size ≤ k ∧ k < W.heap.size)) (Wa.putObj (w.heap.size + 1) (.loop (rec .busy none))) W3 →
          Hold (fun k => (Keep k ∧ k < w0.heap.size) ∨ W1.heap.size ≤ k) W (W3.putObj (w.heap.size + 1) (.loop r)) := fun r W3 hk3 => by
        refine ⟨hk3.os.trans hba.os, hk3.tape.trans hba.tape, hk3.output.trans hba.output, Nat.le_trans hba.size (Nat.le_trans (by simp) (Nat.le_trans hk3.size (by simp))), fun k hk hl => ?_⟩
        have hne : k ≠ w.heap.size + 1 := by have := hb0.size; rcases hk with ⟨_, h⟩ | h <;> omega
        refine (World.putObj_heap_other hne).trans ((hk3.same k ?_ (by have := hba.size; simp; omega)).trans ((World.putObj_heap_other hne).trans (hba.block k hl)))
        rcases hk with ⟨h1, h2⟩ | h
        · exact .inl ⟨h1, by have := hb0.size; omega⟩
        · exact .inr ⟨by omega, hl⟩
      rintro e a3 W3 hp
      cases e with
      | normal =>
        obtain ⟨hk3, hi3⟩ := hp
        obtain ⟨hr, hb4, hbk4⟩ := fin none W3 hk3
        exact ⟨_, _, hr, .inl ⟨rfl, ⟨hI _ _ _ hi3 hb4, hbk4⟩, hold _ _ hk3⟩⟩
      | ret =>
        obtain ⟨hr, hb4, hbk4⟩ := fin (some .ret) W3 hp.1
        exact ⟨_, _, hr, .inr ⟨rfl, ⟨.ret, hIx _ _ _ _ hp.2, hbk4⟩, hold _ _ hp.1⟩⟩
      | exit id =>
        obtain ⟨hr, hb4, hbk4⟩ := fin (some (.exit id)) W3 hp.1
        exact ⟨_, _, hr, .inr ⟨rfl, ⟨.exit id, hIx _ _ _ _ hp.2, hbk4⟩, hold _ _ hp.1⟩⟩
      | goto t =>
        obtain ⟨hr, hb4, hbk4⟩ := fin (some (.goto t)) W3 hp.1
        exact ⟨_, _, hr, .inr ⟨rfl, ⟨.goto t, hIx _ _ _ _ hp.2, hbk4⟩, hold _ _ hp.1⟩⟩
      | panic ch => exact hp.elim
      | outgrown => exact hp.elim
    | ret => exact hp.elim
    | exit id => exact hp.elim
    | goto t => exact hp.elim
    | panic ch => exact hp.elim
    | outgrown => exact hp.elim

end Go.Proofs.YtadnggecnjdhiaaGreat

namespace Go.Proofs.YtadnggecnjdhiaaGreat
open Go.RowKit Tx

variable {n : Nat} {P : Program} {ops : Array Oper} {Q : Exit → Act → World → Prop}

/-- no operation of a region is a defer statement -/
def noDefer (ops : List Oper) : Bool := ops.all fun o => match o.op with | .defer _ => false | _ => true
theorem noDefer_spec {l : List Oper} (h : noDefer l = true) : ∀ (i : Nat) (o : Oper), l.toArray[i]? = some o → ∀ c, o.op ≠ .defer c := by
  intro i o ho c hc
  have hm : o ∈ l := by
    rw [List.getElem?_toArray] at ho
    exact List.mem_of_getElem? ho
  have := (List.all_eq_true.1 h) o hm
  rw [hc] at this
  cases this

theorem wpOpIn_round {i : Nat} {K : Act → World → Prop} {a : Act} {w : World} (l : Nat) (hd : ∀ o, ops[i]? = some o → ∀ c, o.op ≠ .defer c) (h : wpOpIn Fence.wide n P ops Q i K a w) : wpOpIn (Fence.wide.inRound l) n P ops Q i K a w := by
  unfold wpOpIn at *
  cases ho : ops[i]? with
  | none => rw [ho] at h; exact h
  | some o =>
    rw [ho] at h
    simp only at h ⊢
    split
    · rename_i hw
      rw [if_pos hw] at h
      unfold Oper.wpIn at *
      refine ⟨h.1, ?_⟩
      have h2 := h.2
      rw [show (Fence.wide.inRound l).round = some l from rfl, Oper.semAt_eq _ _ _ (hd o ho)]
      rw [show Fence.wide.round = none from rfl, Oper.semAt_none] at h2
      exact h2
    · rename_i hw
      rw [if_neg hw] at h
      exact h

theorem wpAnyIn_round {md : Region.Mode} (l : Nat) (hd : ∀ (i : Nat) o, ops[i]? = some o → ∀ c, o.op ≠ .defer c) : ∀ (fuel : Nat) (listed : Array Bool) (a : Act) (w : World),
    wpAnyIn Fence.wide n P md ops Q fuel listed a w → wpAnyIn (Fence.wide.inRound l) n P md ops Q fuel listed a w
  | 0, _, _, _, h => h
  | fuel + 1, _, _, _, h => ⟨h.1, fun i hi => wpOpIn_round l (hd i) (wpOpIn_mono (fun a' w' h' => wpAnyIn_round l hd fuel _ a' w' h') (h.2 i hi))⟩


/-- a region that draws its order and only reads, within a round -/
theorem region_quiet_round (l : Nat) {id : Nat} {a : Act} {w : World} {lo : List Oper} (hd : noDefer lo = true) (hm : P.follows .mixedOrders = true) (hB : Region.lexB .any lo.toArray = true)
    (h : wpQuietIn Fence.wide n P lo.toArray (fun w' => ∃ n, w' = w.drewN n) (fun a' => ∀ w', (∃ n, w' = w.drewN n) → Q .normal a' w') lo a) : (Code.region id lo.toArray true).wpIn (Fence.wide.inRound l) n P Q a w := by
  simp only [Region.lexB, Bool.and_eq_true] at hB
  refine wpIn_region_any hm (wpAnyIn_round l (noDefer_spec hd) _ _ _ _ (wpAnyIn_of_quiet (C := fun w' => ∃ n, w' = w.drewN n) (Q := fun a' => ∀ w', (∃ n, w' = w.drewN n) → Q .normal a' w') rfl (fun _ w' hw' h => h w' hw') _ _ _ _ ⟨1, rfl⟩ ?_))
  have := wpAnyQIn_lex (F := Fence.wide) (n := n) (C := fun w' => ∃ n, w' = w.drewN n) (md := .any) hB.1 lo 0 (Array.replicate lo.length false) a (by simp) (by simpa using hB.2) h
  simpa using this

/-- how many operations are still to come -/
def toCome (ops : Array Oper) (listed : Array Bool) : Nat := (List.range ops.size).countP fun j => !listed.getD j true

theorem toCome_set {i : Nat} {listed : Array Bool} (hi : i < ops.size) (hl : i < listed.size) (hf : listed.getD i true = false) : toCome ops (listed.setIfInBounds i true) < toCome ops listed := by
  have key : ∀ (l : List Nat), i ∈ l → (l.countP fun j => !(listed.setIfInBounds i true).getD j true) < l.countP fun j => !listed.getD j true := by
    have le : ∀ (l : List Nat), (l.countP fun j => !(listed.setIfInBounds i true).getD j true) ≤ l.countP fun j => !listed.getD j true := fun l => by
      refine List.countP_mono_left fun j _ h => ?_
      by_cases hj : i = j
      · subst hj; simp [hl] at h
      · simpa [Array.getElem?_setIfInBounds, hj] using h
    intro l
    induction l with
    | nil => intro h; cases h
    | cons x l ih =>
      intro h
      rw [List.countP_cons, List.countP_cons]
      by_cases hx : i = x
      · subst hx
        have h1 : (!(listed.setIfInBounds i true).getD i true) = false := by simp [hl]
        have h2 : (!listed.getD i true) = true := by simp only [hf]; rfl
        rw [h1, h2]
        have := le l
        rw [if_neg (by simp), if_pos rfl]; omega
      · have hm : i ∈ l := by rcases List.mem_cons.1 h with h | h; exact absurd h hx; exact h
        have h1 : (listed.setIfInBounds i true).getD x true = listed.getD x true := by simp [hx]
        rw [h1]
        have := ih hm
        omega
  exact key _ (List.mem_range.2 hi)

/-- a region whatever its order: by a property of what has been done, that each operation that may come keeps -/
theorem wpAnyIn_good {F : Fence} {md : Region.Mode} (Good : Array Bool → Act → World → Prop) (hsz : ∀ listed a w, Good listed a w → listed.size = ops.size)
    (hstep : ∀ listed a w, Good listed a w → ∀ i ∈ Region.ready md ops listed, wpOpIn F n P ops Q i (fun a' w' => Good (listed.setIfInBounds i true) a' w') a w)
    (hend : ∀ listed a w, Good listed a w → Region.ready md ops listed = [] → Q .normal a w) : ∀ (fuel : Nat) (listed : Array Bool) (a : Act) (w : World),
    toCome ops listed ≤ fuel → Good listed a w → wpAnyIn F n P md ops Q fuel listed a w
  | 0, listed, a, w, hf, hg => by
    have hr : Region.ready md ops listed = [] := by
      rw [List.eq_nil_iff_forall_not_mem]
      intro i hi
      obtain ⟨h1, o, ho, _⟩ := mem_ready.1 hi
      have hi' := (Array.getElem?_eq_some_iff.1 ho).1
      have := toCome_set (ops := ops) hi' (by rw [hsz _ _ _ hg]; exact hi') h1
      omega
    exact ⟨hr, hend _ _ _ hg hr⟩
  | fuel + 1, listed, a, w, hf, hg => by
    refine ⟨hend _ _ _ hg, fun i hi => wpOpIn_mono (fun a' w' h => ?_) (hstep _ _ _ hg i hi)⟩
    obtain ⟨h1, o, ho, _⟩ := mem_ready.1 hi
    have hi' := (Array.getElem?_eq_some_iff.1 ho).1
    have := toCome_set (ops := ops) hi' (by rw [hsz _ _ _ hg]; exact hi') h1
    exact wpAnyIn_good Good hsz hstep hend fuel _ a' w' (by omega) h


/-- each operation waits for earlier ones alone -/
def waitsBack (ops : Array Oper) : Bool := (List.range ops.size).all fun i => match ops[i]? with | some o => o.after.all fun e => e.on < i | none => true
theorem ready_nil {md : Region.Mode} {listed : Array Bool} (hsz : listed.size = ops.size) (hb : waitsBack ops = true) (h : Region.ready md ops listed = []) : ∀ i, i < ops.size → listed.getD i true = true := by
  intro i
  induction i using Nat.strongRecOn with
  | _ i ih =>
    intro hi
    cases hl : listed.getD i true with
    | true => rfl
    | false =>
      exfalso
      have hm : i ∈ Region.ready md ops listed := by
        refine mem_ready.2 ⟨hl, ops[i], Array.getElem?_eq_getElem hi, fun e he _ => ?_⟩
        have hw := (List.all_eq_true.1 hb) i (List.mem_range.2 hi)
        rw [Array.getElem?_eq_getElem hi] at hw
        have hlt : e.on < i := by simpa using (Array.all_eq_true_iff_forall_mem.1 hw) e he
        have := ih e.on hlt (by omega)
        rw [Array.getD_eq_getD_getElem?, Array.getElem?_eq_getElem (by omega)] at this ⊢
        exact this
      rw [h] at hm
      cases hm

end Go.Proofs.YtadnggecnjdhiaaGreat
namespace Go.Proofs.YtadnggecnjdhiaaGreat.Rg
set_option linter.unusedSimpArgs false
set_option linter.unusedVariables false
open Go Go.RowKit Go.Proofs.YtadnggecnjdhiaaGreat.Rs
variable {P : Program} {ops : Array Oper}

theorem wpAnyIn_of_seq {m : Nat} {md : Region.Mode} {Q' : Exit → Act → World → Prop} : ∀ (l : List Oper) (k : Nat) (listed : Array Bool) (a : Act) (w : World), (∀ j, l[j]? = ops[k + j]?) →
    Region.seqB md ops l.length k listed = true → wpListIn Fence.wide m P ops Q' l a w → wpAnyIn Fence.wide m P md ops Q' l.length listed a w
  | [], _, _, _, _, _, hB, h => ⟨by simpa [Region.seqB] using hB, h⟩
  | o :: l, k, listed, a, w, hl, hB, h => by
    have h0 : ops[k]? = some o := by simpa using (hl 0).symm
    simp only [List.length_cons, Region.seqB, Bool.and_eq_true, decide_eq_true_eq] at hB
    refine ⟨fun h1 => (by rw [hB.1] at h1; cases h1), fun i hi => ?_⟩
    rw [hB.1] at hi
    have hik : i = k := by simpa using hi
    subst hik
    have hw : wpOpIn Fence.wide m P ops Q' i (wpListIn Fence.wide m P ops Q' l) a w := by unfold wpOpIn; simp only [h0]; exact h
    exact wpOpIn_mono (fun a' w' h' => wpAnyIn_of_seq l (i + 1) _ a' w' (fun j => by have := hl (j + 1); simpa [Nat.add_assoc, Nat.add_comm 1 j] using this) hB.2 h') hw

section main
variable {n : Nat} {dl : List (List Nat)} {a0 : Act} {w0 : World} {Q : Exit → Act → World → Prop}
theorem head_allI {m : Nat} {G : World → World → Prop} (hG : IsGr G) {Spec : Nat → List Value → Value → World → Prop} (g : Nat)
    (hsel : ∀ (j : Nat) (o : Oper) cs b, ops[j]? = some o → o.op ≠ .select cs b) (hn : n ≤ ops.size)
    (hsink : n = ops.size ∨ (Region.sinkB .any ops n = true ∧ Region.chainB .any ops n = true))
    (hlow : ∀ i, i < n → ∀ o, ops[i]? = some o → ∀ e ∈ o.after, Region.binds .any e = true → e.on < i)
    (hdl : ∀ j, j < n → ∀ k ∈ dl.getD j [], k < n ∧ k ∈ depsOf ops n j)
    (hlook : ∀ i, i < n → ∀ o, ops[i]? = some o → ∀ k, k < n → ∀ d, dstOf ops k = some d → (d ∈ o.looksAt ops → k ∈ dl.getD i [] ∨ i ∈ depsOf ops n k ∨ i = k) ∧ True)
    (hnd : ∀ j k, j < n → k < n → j ≠ k → ∀ d, dstOf ops k = some d → dstOf ops j ≠ some d)
    (stable : ∀ i L v w w', Spec i L v w → G w w' → Spec i L v w')
    (step : ∀ i o V w, ops[i]? = some o → i < n → G w0 w → (∀ k ∈ dl.getD i [], Spec k ((dl.getD k []).map V) (V k) w) → StepOk G P ops o (canon ops V a0 (dl.getD i [])) w (Spec i ((dl.getD i []).map V)))
    (fin : ∀ V listed a w, Inv G ops n dl Spec a0 w0 V listed a w → (∀ k, k < n → listed.getD k false = true) → wpAnyIn Fence.wide m P .any ops Q g listed a w) :
    ∀ (f : Nat) (V : Nat → Value) (listed : Array Bool) (a : Act) (w : World), left n listed = f → Inv G ops n dl Spec a0 w0 V listed a w → wpAnyIn Fence.wide m P .any ops Q (f + g) listed a w := by
  intro f
  induction f with
  | zero => intro V listed a w hf inv; rw [Nat.zero_add]; exact fin V listed a w inv (left_zero hf)
  | succ f ih =>
    intro V listed a w hf inv
    have hun : ∃ i, i < n ∧ listed.getD i false = false ∧ ∀ j, j < i → listed.getD j false = true := by
      have hex : ∃ i, i < n ∧ listed.getD i false = false := by
        apply Classical.byContradiction
        intro hno
        have : left n listed = 0 := by
          unfold left
          rw [List.length_eq_zero_iff, List.filter_eq_nil_iff]
          intro i hi
          cases hv : listed.getD i false with
          | true => simp
          | false => exact absurd ⟨i, List.mem_range.1 hi, hv⟩ hno
        omega
      obtain ⟨i, h1, h2⟩ := hex
      induction i using Nat.strongRecOn with
      | _ i ihi =>
        by_cases h3 : ∀ j, j < i → listed.getD j false = true
        · exact ⟨i, h1, h2, h3⟩
        · simp only [Classical.not_forall] at h3
          obtain ⟨j, hj, hj2⟩ := h3
          exact ihi j hj (by omega) (by simpa using hj2)
    obtain ⟨i0, hi0, hi0u, hi0m⟩ := hun
    have hready0 : i0 ∈ Region.ready .any ops listed := by
      rw [mem_ready]
      have hlt : i0 < ops.size := by omega
      refine ⟨getD_in (by rw [inv.head.size]; exact hlt) hi0u, ops[i0], Array.getElem?_eq_getElem hlt, fun e he hb => hi0m _ (hlow i0 hi0 _ (Array.getElem?_eq_getElem hlt) e he hb)⟩
    rw [show f + 1 + g = (f + g) + 1 by omega]
    refine ⟨fun h => (by rw [h] at hready0; cases hready0), fun i hi => ?_⟩
    obtain ⟨hiu, o, ho, hall⟩ := mem_ready.1 hi
    have hiu' := getD_both hiu
    have hilt : i < ops.size := (Array.getElem?_eq_some_iff.1 ho).1
    have hin : i < n := by
      rcases hsink with h | ⟨h1, h2⟩
      · omega
      · by_cases hns : n < ops.size
        · rcases Nat.lt_or_ge i n with h | h
          · exact h
          · exact absurd hi (tail_waits h1 h2 hns inv.head _ i0 rfl hi0 (getD_in (by rw [inv.head.size]; omega) hi0u) i h)
        · omega
    have hso := step i o V w ho hin inv.gr (fun k hk => inv.spec k (hdl i hin k hk).1 (depsOf_listed inv.head.closed n i (fun o' ho' => by rw [ho] at ho'; cases ho'; exact hall) k (hdl i hin k hk).2))
    have hlk := inv.looks ho hin hiu' hall (hdl i hin) (hlook i hin o ho) hnd
    have hw := wanted_congr (ops := ops) o hlk
    have hex := exec_congr (ops := ops) o (fun cs b => hsel i o cs b ho) hlk
    have hnext : ∀ v w', G w w' → Spec i ((dl.getD i []).map V) v w' → wpAnyIn Fence.wide m P .any ops Q (f + g) (listed.setIfInBounds i true) (a.put o.dst v) w' := fun v w' hg hs =>
      ih _ _ _ _ (by have := left_set (n := n) hin (by rw [inv.head.size]; exact hilt) hiu'; omega) (inv.step hG ho hin hiu' hi hdl hnd stable hg hs)
    unfold StepOk at hso
    rw [← hw] at hso
    unfold wpOpIn
    simp only [ho]
    by_cases hwt : Region.wanted o (yielded ops a.tmps) = true
    · rw [if_pos hwt] at hso ⊢
      unfold GrowAt at hso
      unfold Oper.wpIn
      rw [show Fence.wide.round = none from rfl, Oper.semAt_none]
      refine ⟨fun _ _ => trivial, ?_⟩
      rw [← hex] at hso
      generalize (execOp a.eval o).run P w = r at hso
      cases r with
      | halt x w' => exact hso.elim
      | ok nx w' =>
        cases nx with
        | value v => exact hnext v w' hso.1 hso.2
        | skip => exact hnext undef w' hso.1 hso.2
        | enter fn args =>
          refine ⟨(fun h => by cases h), (callsIn_wide.2 hso.2).mono ?_⟩
          rintro e w'' ⟨v, rfl, h1, h2⟩
          exact hnext v w'' (hG.trans hso.1 h1) h2
        | _ => exact hso.elim
    · rw [if_neg hwt] at hso ⊢
      exact ⟨fun _ _ => trivial, hnext undef w (hG.refl _) hso⟩

/-- **THE REGION**, by what each operation leaves -/
theorem region_specI {m : Nat} (lp : Nat) {l : List Oper} (hdf : noDefer l = true) {G : World → World → Prop} (hG : IsGr G) {id : Nat} {w : World} {a0 : Act} {Q : Exit → Act → World → Prop} (n : Nat) (dl : List (List Nat)) (hm : P.follows .mixedOrders = true) (hB : shapeB l.toArray n dl = true)
    (Spec : Nat → List Value → Value → World → Prop) (stable : ∀ i L v w w', Spec i L v w → G w w' → Spec i L v w')
    (step : ∀ i o V w', l[i]? = some o → i < n → G w w' → (∀ k ∈ dl.getD i [], Spec k ((dl.getD k []).map V) (V k) w') → StepOk G P l.toArray o (canon l.toArray V a0 (dl.getD i [])) w' (Spec i ((dl.getD i []).map V)))
    (fin : ∀ V w', G w w' → (∀ k, k < n → Spec k ((dl.getD k []).map V) (V k) w') → wpListIn Fence.wide m P l.toArray Q (l.drop n) (canon l.toArray V a0 (List.range n)) w') :
    (Code.region id l.toArray true).wpIn (Fence.wide.inRound lp) m P Q a0 w := by
  simp only [shapeB, Bool.and_eq_true, decide_eq_true_eq, Bool.or_eq_true] at hB
  obtain ⟨⟨⟨⟨⟨hsel, hn⟩, hdlen⟩, hsink⟩, hall⟩, hseq⟩ := hB
  rw [List.all_eq_true] at hall
  have hops : ∀ i, i < n → ∃ o, l.toArray[i]? = some o ∧ (∀ e ∈ o.after, Region.binds .any e = true → e.on < i) ∧ (∀ k ∈ dl.getD i [], k < n ∧ k ∈ depsOf l.toArray n i) ∧
      (∀ k, k < n → ∀ d, dstOf l.toArray k = some d → (d ∈ o.looksAt l.toArray → k ∈ dl.getD i [] ∨ i ∈ depsOf l.toArray n k ∨ i = k) ∧ (k ≠ i → dstOf l.toArray i ≠ some d)) := by
    intro i hi
    have h := hall i (List.mem_range.2 hi)
    cases ho : l.toArray[i]? with
    | none => rw [ho] at h; cases h
    | some o =>
      rw [ho] at h
      simp only [Bool.and_eq_true, List.all_eq_true] at h
      obtain ⟨⟨h1, h2⟩, h3⟩ := h
      refine ⟨o, rfl, fun e he hb => ?_, fun k hk => ?_, fun k hk d hd => ?_⟩
      · have := h1 e (by simpa using he)
        rw [hb] at this; simpa using this
      · have := h2 k hk
        simpa using this
      · have := h3 k (List.mem_range.2 hk)
        rw [hd] at this
        simp only [Bool.and_eq_true, Bool.or_eq_true, Bool.not_eq_true', beq_iff_eq, decide_eq_true_eq, List.contains_iff_mem] at this
        refine ⟨fun hm => ?_, fun hne => ?_⟩
        · rcases this.1 with ((h | h) | h) | h
          · rw [show (o.looksAt l.toArray).contains d = true from List.contains_iff_mem.2 hm] at h; cases h
          · exact .inl h
          · exact .inr (.inl h)
          · exact .inr (.inr h)
        · rcases this.2 with h | h
          · exact absurd h hne
          · exact h
  have hnd : ∀ j k, j < n → k < n → j ≠ k → ∀ d, dstOf l.toArray k = some d → dstOf l.toArray j ≠ some d := fun j k hj hk hne d hd => by
    obtain ⟨o, _, _, _, h⟩ := hops j hj
    exact (h k hk d hd).2 (fun e => hne e.symm)
  refine wpIn_region_any hm (wpAnyIn_round lp (noDefer_spec hdf) _ _ _ _ ?_)
  have inv0 : Inv G l.toArray n dl Spec a0 w (fun _ => undef) (Array.replicate l.toArray.size false) a0 { w with drawn := w.drawn + 1 } :=
    ⟨⟨by simp, fun j oj _ hl => (by rw [getD_replicate_false] at hl; cases hl), fun t _ ht => getD_in (by simpa using ht) (getD_replicate_false _ _)⟩, rfl, rfl,
      fun k _ hl => (by rw [getD_replicate_false] at hl; cases hl), fun _ _ => rfl, fun k _ hl => (by rw [getD_replicate_false] at hl; cases hl), hG.drew _⟩
  have hleft : left n (Array.replicate l.toArray.size false) = n := by
    unfold left
    rw [List.filter_eq_self.2 (fun i _ => by rw [getD_replicate_false]; rfl)]
    simp
  have := head_allI (m := m) hG (P := P) (Q := Q) (Spec := Spec) (dl := dl) (a0 := a0) (w0 := w) (l.toArray.size - n) (Region.noSelect_spec hsel) hn (by rcases hsink with h | h; exact .inl h; exact .inr h)
    (fun i hi o ho e he hb => by obtain ⟨o', ho', h1, _⟩ := hops i hi; rw [ho] at ho'; cases ho'; exact h1 e he hb)
    (fun j hj => by obtain ⟨_, _, _, h, _⟩ := hops j hj; exact h)
    (fun i hi o ho k hk d hd => by obtain ⟨o', ho', _, _, h⟩ := hops i hi; rw [ho] at ho'; cases ho'; exact ⟨(h k hk d hd).1, trivial⟩)
    hnd stable (fun i o V w' ho => step i o V w' (by simpa using ho)) ?_ n _ _ _ _ hleft inv0
  · rwa [show n + (l.toArray.size - n) = l.toArray.size by omega] at this
  · intro V listed a w' inv hl
    have hld : listed = ((List.range l.toArray.size).map (fun i => decide (i < n))).toArray := by
      apply Array.ext
      · rw [inv.head.size]; simp
      · intro i h1 h2
        have hi : i < l.toArray.size := by rw [inv.head.size] at h1; exact h1
        have e2 : ((List.range l.toArray.size).map (fun i => decide (i < n))).toArray[i] = decide (i < n) := by simp
        rw [e2]
        by_cases hin : i < n
        · have := hl i hin
          simp only [hin, decide_true]
          simpa [h1] using this
        · have := inv.head.tail i (by omega) hi
          simp only [hin, decide_false]
          simpa [h1] using this
    have hact : a = canon l.toArray V a0 (List.range n) := by
      have ht : a.tmps = (canon l.toArray V a0 (List.range n)).tmps := by
        apply Array.ext_getElem?
        intro d
        by_cases hlt : d < a0.tmps.size
        · by_cases hex : ∃ k, k < n ∧ dstOf l.toArray k = some d
          · obtain ⟨k, hk, hd⟩ := hex
            rw [inv.slot k hk (hl k hk) d hd hlt, canon_in V hd _ _ (List.mem_range.2 hk) (fun j hj hjk => hnd j k (List.mem_range.1 hj) hk hjk d hd) hlt]
          · rw [inv.other d (fun k hk _ e => hex ⟨k, hk, e⟩), canon_out V _ _ (fun k hk e => hex ⟨k, List.mem_range.1 hk, e⟩)]
        · have e1 : a.tmps[d]? = none := Array.getElem?_eq_none (by rw [inv.size]; exact Nat.le_of_not_lt hlt)
          have e2 : (canon l.toArray V a0 (List.range n)).tmps[d]? = none := Array.getElem?_eq_none (by rw [size_canon]; exact Nat.le_of_not_lt hlt)
          rw [e1, e2]
      have hdf : a.defers = (canon l.toArray V a0 (List.range n)).defers := by rw [inv.defers, defers_canon]
      obtain ⟨t, d⟩ := a
      generalize canon l.toArray V a0 (List.range n) = b at ht hdf
      obtain ⟨t', d'⟩ := b
      dsimp only at ht hdf
      rw [ht, hdf]
    have hf := fin V w' inv.gr (fun k hk => inv.spec k hk (hl k hk))
    rw [← hact] at hf
    have hdl : (l.drop n).length = l.toArray.size - n := by simp
    have hsq := wpAnyIn_of_seq (m := m) (P := P) (md := .any) (Q' := Q) (l.drop n) n listed a w' (fun j => by simp [List.getElem?_drop]) (by rw [hdl, hld]; exact hseq) hf
    rwa [hdl] at hsq
/-- **A region by what each of its first operations leaves**, in whatever order. -/
theorem region_genI {m : Nat} (lp : Nat) {l : List Oper} (hdf : noDefer l = true) {G : World → World → Prop} (hG : IsGr G) {id : Nat} {w : World} {a0 : Act} {Q : Exit → Act → World → Prop} (n : Nat) (dl : List (List Nat)) (ds : List (Option Nat)) (Sp : Nat → List Value → Value → World → Prop) (hm : P.follows .mixedOrders = true) (hB : shapeB l.toArray n dl = true) (hS : slotsB l.toArray n a0.tmps.size dl ds = true)
    (stable : ∀ i L v w w', Sp i L v w → G w w' → Sp i L v w')
    (step : genSteps G P ds a0 w dl Sp l 0 dl)
    (fin : ∀ V w', G w w' → (∀ k, k < n → Sp k ((dl.getD k []).map V) (V k) w') → wpListIn Fence.wide m P l.toArray Q (l.drop n) (canon l.toArray V a0 (List.range n)) w') :
    (Code.region id l.toArray true).wpIn (Fence.wide.inRound lp) m P Q a0 w := by
  have hB' := hB
  simp only [shapeB, Bool.and_eq_true, decide_eq_true_eq] at hB'
  obtain ⟨⟨⟨⟨⟨hsel, hn⟩, hdlen⟩, _⟩, hall⟩, _⟩ := hB'
  rw [List.all_eq_true] at hall
  unfold slotsB at hS
  rw [List.all_eq_true] at hS
  have hdst : ∀ i, i < n → dstOf l.toArray i = ds.getD i none ∧ ∀ d, dstOf l.toArray i = some d → d < a0.tmps.size := fun i hi => by
    have h := hS i (List.mem_range.2 hi)
    simp only [Bool.and_eq_true, beq_iff_eq] at h
    refine ⟨h.1.1, fun d hd => ?_⟩
    have h2 := h.1.2
    rw [← h.1.1, hd] at h2
    simpa using h2
  refine region_specI lp hdf hG n dl hm hB Sp stable (fun i o V w' ho hi hg hs => ?_) fin
  have hst := genSteps_get l 0 dl step i o (dl.getD i []) ho (by simp [List.getElem?_eq_getElem (show i < dl.length by omega)]) V w' hg hs
  rw [Nat.zero_add] at hst
  have hio := hall i (List.mem_range.2 hi)
  have hoo : l.toArray[i]? = some o := by simpa using ho
  rw [hoo] at hio
  simp only [Bool.and_eq_true, List.all_eq_true] at hio
  obtain ⟨⟨_, h2⟩, h3⟩ := hio
  have hdl : ∀ k ∈ dl.getD i [], k < n := fun k hk => by have := h2 k hk; simp only [Bool.and_eq_true, decide_eq_true_eq] at this; exact this.1
  have hnd : ∀ j k, j < n → k < n → j ≠ k → ∀ d, dstOf l.toArray k = some d → dstOf l.toArray j ≠ some d := fun j k hj hk hne d hd => by
    have h := hall j (List.mem_range.2 hj)
    cases hoj : l.toArray[j]? with
    | none => rw [hoj] at h; cases h
    | some oj =>
      rw [hoj] at h
      simp only [Bool.and_eq_true, List.all_eq_true] at h
      have := h.2 k (List.mem_range.2 hk)
      rw [hd] at this
      simp only [Bool.and_eq_true, Bool.or_eq_true, beq_iff_eq, decide_eq_true_eq] at this
      rcases this.2 with h | h
      · exact absurd h.symm hne
      · exact h
  have hslot : ∀ t, (canon l.toArray V a0 (dl.getD i [])).eval (.tmp t) = Rs.look ds V a0 (dl.getD i []) (.tmp t) := fun t => by
    unfold Rs.look
    simp only
    split
    · rename_i k hk
      have hkm := List.mem_of_find?_eq_some hk
      have hkd := List.find?_some hk
      simp only [beq_iff_eq] at hkd
      have hkn := hdl k hkm
      have e : dstOf l.toArray k = some t := by rw [(hdst k hkn).1]; exact hkd
      have := canon_in (ops := l.toArray) V e (dl.getD i []) a0 hkm (fun j hj hjk => hnd j k (hdl j hj) hkn hjk t e) ((hdst k hkn).2 t e)
      simp only [Act.eval, Array.getD_eq_getD_getElem?, this, Option.getD_some]
    · rename_i hk
      have hno : ∀ k ∈ dl.getD i [], dstOf l.toArray k ≠ some t := fun k hkm e => by
        have := List.find?_eq_none.1 hk k hkm
        rw [(hdst k (hdl k hkm)).1] at e
        rw [e] at this; exact this (by simp)
      have := canon_out (ops := l.toArray) V (d := t) (dl.getD i []) a0 hno
      simp only [Act.eval, Array.getD_eq_getD_getElem?, this]
  have hex : execOp (canon l.toArray V a0 (dl.getD i [])).eval o = execOp (Rs.look ds V a0 (dl.getD i [])) o :=
    execOp_congr o (fun c b => Region.noSelect_spec hsel i o c b hoo) fun x _ => by
      cases x with
      | tmp t => exact hslot t
      | _ => rfl
  have hwant : Region.wanted o (yielded l.toArray (canon l.toArray V a0 (dl.getD i [])).tmps) = wantB o V := by
    unfold Region.wanted wantB
    cases hgd : o.guard with
    | none => rfl
    | some gb =>
      obtain ⟨g, b⟩ := gb
      have h := hS i (List.mem_range.2 hi)
      rw [hoo] at h
      simp only [Option.bind_some, hgd, Bool.and_eq_true, List.contains_iff_mem] at h
      obtain ⟨hgm, hgs⟩ := h.2
      obtain ⟨t, ht⟩ := Option.isSome_iff_exists.1 hgs
      have hgn := hdl g hgm
      have hv := canon_in (ops := l.toArray) V ht (dl.getD i []) a0 hgm (fun j hj hjk => hnd j g (hdl j hj) hgn hjk t ht) ((hdst g hgn).2 t ht)
      have hy : yielded l.toArray (canon l.toArray V a0 (dl.getD i [])).tmps g = match V g with | .bool x => some x | _ => none := by
        unfold yielded
        unfold dstOf at ht
        simp only [ht, Option.bind_some, hv]
        cases V g <;> rfl
      simp only [hy]
      cases V g <;> simp
  unfold StepOk
  rw [hwant]
  by_cases hw : wantB o V = true
  · rw [if_pos hw] at hst ⊢
    unfold GrowL at hst
    unfold GrowAt
    rw [hex]
    exact hst
  · rw [if_neg hw] at hst ⊢
    exact hst
end main
/-- a region that only reads -/
theorem qt : IsGr (fun w w' : World => ∃ n, w' = w.drewN n) := ⟨fun w => ⟨0, rfl⟩, fun ⟨n, h⟩ ⟨m, k⟩ => ⟨n + m, by rw [k, h, World.drewN_drewN]⟩, fun w => ⟨1, rfl⟩⟩
end Go.Proofs.YtadnggecnjdhiaaGreat.Rg
set_option linter.unusedSimpArgs false
set_option linter.unusedVariables false
namespace Go.Proofs.YtadnggecnjdhiaaGreat
open Go.RowKit Tx

/-- a closure that tells a bool of a number, and writes nothing below -/
def AskI (F : FuncId) (fi caps : Array Value) (p : Int → Bool) (w : World) : Prop := ∀ u : Int, Calls Tryz.prog F (fi ++ #[.int .i64 u] ++ caps) w fun e w' => e = .returned (.bool (p u)) ∧ Below w.heap.size w w'
set_option maxHeartbeats 400000 in
set_option maxRecDepth 100000 in
theorem errIfI_any (F : FuncId) (hF : Entered F) (q : Int → Bool) (xs : List Int) (p : Option Addr) (c : Nat) (n : Int) (w : World) (hl : xs.length ≤ 1000000) (hi : Ints w p xs) (hq : ∀ W, Below w.heap.size w W → AskI F #[] #[] q W) :
    Calls Tryz.prog 88 #[.slice p xs.length c, .func (.func F) #[] #[], .int .i64 n] w fun e w' => e = .returned (.int .i64 (errIf q xs n)) ∧ Below w.heap.size w w' := by
  have HI := Lib.hid hi
  have HQ := Lib.hid hq
  clear hi hq
  go_enter Tryz.func88, Tryz.ntmps88
  go_wp2
  go_loopw [11] (fun i wr => ∃ k : Nat, k ≤ xs.length ∧ i = .int .i64 k ∧ (xs.take k).any q = false ∧ Below w.heap.size w wr) (fun i _ => xs.length - (intOf i).toNat)
  case atStart => exact ⟨0, Nat.zero_le _, rfl, rfl, Below.refl _ _⟩
  case round =>
    obtain ⟨k, hk, rfl, hA, hB⟩ := hrel
    have HA := Lib.hid hA
    clear hA
    by_cases hlt : k < xs.length
    · obtain ⟨b, o, x, rfl, hb, hxx, c1⟩ := (HI.out.below hB).at hlt
      have HX := Lib.hid hxx
      have HB := Lib.hid hB
      have HASK := Lib.hid (HQ.out _ hB x)
      have HF := Lib.hid hF
      clear hxx hB hF
      go_wp2_with fail
      have hF := HF.out
      rw [hF, Oper.upon_enter]
      refine HASK.out.mono ?_
      rintro e w5 ⟨rfl, hB5⟩
      clear HASK
      cases hbad : q x with
      | true =>
        have HBAD := Lib.hid hbad
        clear hbad
        go_wp2
        go_ret
        exact ⟨by rw [errIf, if_pos (any_hit 0 hlt _ (by rw [← HX.out]; exact HBAD.out))]; rfl, join HB.out hB5⟩
      | false =>
        have HBAD := Lib.hid hbad
        clear hbad
        go_wp2
        go_roundw
        case rel => exact ⟨k + 1, by omega, by go_num, any_snoc 0 hlt _ HA.out (by rw [← HX.out]; exact HBAD.out), join HB.out hB5⟩
        case measure => simp [intOf]; omega
    · obtain rfl : k = xs.length := by omega
      go_wp2
      go_ret
      exact ⟨by have := HA.out; rw [List.take_length] at this; rw [errIf, this]; rfl, hB⟩

def firstErr (xs : List Int) : Int := (xs.find? (· != 0)).getD 0
theorem firstErr_hit {xs : List Int} {k : Nat} (h : k < xs.length) (h1 : (xs.take k).any (· != 0) = false) (h2 : (xs.getD k 0 != 0) = true) : firstErr xs = xs.getD k 0 := by
  have hs : xs = xs.take k ++ xs.getD k 0 :: xs.drop (k + 1) := by
    have := List.take_append_drop k xs
    rw [List.drop_eq_getElem_cons h] at this
    rw [show xs.getD k 0 = xs[k] from by simp [h]]; exact this.symm
  unfold firstErr
  rw [hs, List.find?_append]
  rw [show (xs.take k).find? (· != 0) = none from by rw [List.find?_eq_none]; intro x hx; have := List.any_eq_false.1 h1 x hx; simpa using this]
  rw [← hs, Option.none_or, List.find?_cons_of_pos (p := fun x => x != 0) h2]; rfl
theorem firstErr_none {xs : List Int} (h1 : xs.any (· != 0) = false) : firstErr xs = 0 := by
  unfold firstErr
  rw [show xs.find? (· != 0) = none from by rw [List.find?_eq_none]; intro x hx; have := List.any_eq_false.1 h1 x hx; simpa using this]; rfl
set_option maxHeartbeats 400000 in
theorem firstError_any (xs : List Int) (p : Option Addr) (c : Nat) (w : World) (hl : xs.length ≤ 1000000) (hi : Ints w p xs) :
    Calls Tryz.prog 75 #[.slice p xs.length c] w fun e w' => e = .returned (.int .i64 (firstErr xs)) ∧ w = w' := by
  have HI := Lib.hid hi
  clear hi
  go_enter Tryz.func75, Tryz.ntmps75
  go_wp2
  go_loop [7] (fun i => ∃ k : Nat, k ≤ xs.length ∧ i = .int .i64 k ∧ (xs.take k).any (· != 0) = false) (fun i => xs.length - (intOf i).toNat)
  case atStart => exact ⟨0, Nat.zero_le _, rfl, rfl⟩
  case round =>
    obtain ⟨k, hk, rfl, hA⟩ := hrel
    have HA := Lib.hid hA
    clear hA
    by_cases hlt : k < xs.length
    · obtain ⟨b, o, x, rfl, hb, hxx, c1⟩ := HI.out.at hlt
      have HX := Lib.hid hxx
      clear hxx
      by_cases hbad : (x != 0) = true
      · go_wp2
        go_ret
        exact ⟨ret_int (by rw [firstErr_hit hlt HA.out (by rw [← HX.out]; exact hbad), HX.out]), rfl⟩
      · have hbad' : (x != 0) = false := by simpa using hbad
        clear hbad
        go_wp2
        go_round
        case rel => exact ⟨k + 1, by omega, by go_num, any_snoc 0 hlt _ HA.out (by rw [← HX.out]; exact hbad')⟩
        case measure => simp [intOf]; omega
    · obtain rfl : k = xs.length := by omega
      go_wp2
      go_ret
      exact ⟨ret_int (firstErr_none (by have := HA.out; rwa [List.take_length] at this)).symm, rfl⟩

theorem namesNoWord_any (n m c d : Nat) (pw pt : Option Addr) (br : Int) (w : World) :
    Calls Tryz.prog 79 #[.agg #[.slice pw n c, .slice pt m d, .int .i64 br]] w fun e w' =>
      e = .returned (.func (.func 122) #[] #[.pointer (some ⟨w.heap.size + 1, 0, none⟩)]) ∧ (w.alloc (.cells #[.slice pw n c, .slice pt m d, .int .i64 br] 25)).alloc (.cells #[.slice pw n c, .slice pt m d, .int .i64 br, .nilFunc] 84) = w' := by
  have hmf := mf
  go_enter Tryz.func79, Tryz.ntmps79
  go_wp2
  go_ret
  exact ⟨rfl, rfl⟩

theorem absent_b (n c : Nat) (pw : Option Addr) (v1 v2 v3 : Value) (k : Int) (w : World) (hn : n ≤ 1000000000000) :
    Calls Tryz.prog 103 #[.agg #[.slice pw n c, v1, v2, v3], .int .i64 k] w fun e w' => e = .returned (.bool (absent n k)) ∧ Below w.heap.size w w' :=
  (absent_any n c pw v1 v2 v3 k w hn).mono fun e w' ⟨he, hw⟩ => ⟨he, hw ▸ below1 _ _⟩
theorem cells_at {w : World} {A : Nat} {C : Array Value} {T : TypeId} {tg : Nat × Nat} (hA : w.heap[A]? = some (.cells C T tg)) (k : Nat) (v : Value) (hv : C[k]? = some v) : w.cell? ⟨A, k, none⟩ = some v := by
  simp [World.cell?, hA, hv]
set_option maxHeartbeats 400000 in
theorem namesNo1_any (n c : Nat) (pw : Option Addr) (v1 v2 v3 : Value) (A : Nat) (u : Turn) (w : World) (hn : n ≤ 1000000000000) (hA : w.heap[A]? = some (.cells #[.slice pw n c, v1, v2, v3] 84)) :
    Calls Tryz.prog 122 #[.agg #[.int .i64 u.word, .int .i64 u.lo, .int .i64 u.hi], .pointer (some ⟨A, 0, none⟩)] w fun e w' => e = .returned (.bool (namesNo n u)) ∧ Below w.heap.size w w' := by
  have hAl : A < w.heap.size := (Array.getElem?_eq_some_iff.1 hA).1
  have c0 := cells_at hA 0 _ rfl
  have c1 := cells_at hA 1 _ rfl
  have c2 := cells_at hA 2 _ rfl
  have c3 := cells_at hA 3 _ rfl
  clear hA
  obtain ⟨uw, ul, uh⟩ := u
  dsimp only
  cases h1 : absent n uw with
  | true =>
    have hb : namesNo n ⟨uw, ul, uh⟩ = true := by simp [namesNo, h1]
    have HB := Lib.hid hb
    have H1 := Lib.hid h1
    clear hb h1
    go_enter Tryz.func122, Tryz.ntmps122
    go_wp2_with fail
    refine (absent_any n c pw _ _ _ _ _ hn).mono ?_
    rintro e w' ⟨rfl, rfl⟩
    rw [H1.out]
    go_wp2
    go_ret
    exact ⟨by rw [HB.out]; rfl, (below1 _ _).alloc (by simp) _⟩
  | false =>
    cases h2 : absent n ul with
    | true =>
      have hb : namesNo n ⟨uw, ul, uh⟩ = true := by simp [namesNo, h2]
      have HB := Lib.hid hb
      have H1 := Lib.hid h1
      have H2 := Lib.hid h2
      clear hb h1 h2
      go_enter Tryz.func122, Tryz.ntmps122
      go_wp2_with fail
      refine (absent_any n c pw _ _ _ _ _ hn).mono ?_
      rintro e w' ⟨rfl, rfl⟩
      rw [H1.out]
      go_wp2_with fail
      refine (absent_any n c pw _ _ _ _ _ hn).mono ?_
      rintro e w' ⟨rfl, rfl⟩
      rw [H2.out]
      go_wp2
      go_ret
      exact ⟨by rw [HB.out]; rfl, ((below1 _ _).alloc (by simp) _).alloc (by simp; omega) _⟩
    | false =>
      have hb : namesNo n ⟨uw, ul, uh⟩ = absent n uh := by simp [namesNo, h1, h2]
      have HB := Lib.hid hb
      have H1 := Lib.hid h1
      have H2 := Lib.hid h2
      clear hb h1 h2
      go_enter Tryz.func122, Tryz.ntmps122
      go_wp2_with fail
      refine (absent_b n c pw _ _ _ _ _ hn).mono ?_
      rintro e w1 ⟨rfl, hb1⟩
      obtain ⟨hc1, hf1⟩ := bcell hb1
      have hz1 : w.heap.size + 1 ≤ w1.heap.size := by have := hb1.size; simpa using this
      have hA1 : A < w1.heap.size ∧ w.heap.size < w1.heap.size := by omega
      obtain ⟨hA1, hS1⟩ := hA1
      rw [H1.out]
      go_wp2_with fail
      refine (absent_b n c pw _ _ _ _ _ hn).mono ?_
      rintro e w2 ⟨rfl, hb2⟩
      obtain ⟨hc2, hf2⟩ := bcell hb2
      have hz2 := hb2.size
      have hA2 : A < w2.heap.size ∧ w.heap.size < w2.heap.size := by omega
      obtain ⟨hA2, hS2⟩ := hA2
      rw [H2.out]
      go_wp2_with fail
      refine (absent_b n c pw _ _ _ _ _ hn).mono ?_
      rintro e w3 ⟨rfl, hb3⟩
      go_wp2
      go_ret
      exact ⟨by rw [HB.out]; rfl, (below1 _ _).trans (((hb1.mono (by simp)).trans (hb2.mono (by omega))).trans (hb3.mono (by omega)))⟩

theorem entered_namesNo1 : Entered 122 := fun args W => by kernel_rfl
theorem entered_endsB : Entered 80 := fun args W => by kernel_rfl
theorem entered_itself : Entered 81 := fun args W => by kernel_rfl
theorem entered_shows1 : Entered 89 := fun args W => by kernel_rfl
theorem entered_openReading1 : Entered 124 := fun args W => by kernel_rfl
theorem entered_absent : Entered 103 := fun args W => by kernel_rfl
end Go.Proofs.YtadnggecnjdhiaaGreat
set_option linter.unusedSimpArgs false
set_option linter.unusedVariables false
namespace Go.Proofs.YtadnggecnjdhiaaGreat
open Go.RowKit Tx

theorem slice_len {α : Type} (l : List α) {a b : Nat} (hb : b ≤ l.length) : (slice l a b).length = b - a := by simp [slice]; omega
theorem slice_getD {α : Type} (l : List α) (d : α) {a b k : Nat} (hk : k < b - a) (hb : b ≤ l.length) : (slice l a b).getD k d = l.getD (a + k) d := by
  simp [slice, List.getElem?_take, hk, List.getElem?_drop]

set_option maxHeartbeats 800000 in
theorem syl_any (t : Text) (ok : Text.Ok t) (pw : Option Addr) (cw : Nat) (v1 v2 v3 : Value) (a b : Nat) (hab : a ≤ b) (hb : b ≤ t.words.length) (hcw : t.words.length ≤ cw ∧ cw ≤ maxLen) (w : World) (hW : Wds w pw t.words) :
    Calls Tryz.prog 93 #[.agg #[.slice pw t.words.length cw, v1, v2, v3], .int .i64 a, .int .i64 b] w fun e w' => e = .returned (.int .i64 (t.syl a b)) ∧ Below w.heap.size w w' := by
  have hn := ok.n12
  have hne := ok.n1
  obtain ⟨bb, o, x0, rfl, hbb, _⟩ := hW.at (i := 0) (by omega)
  have HW := Lib.hid hW
  have HOK := Lib.hid ok
  have HLEN := Lib.hid (slice_len t.words (a := a) hb)
  obtain ⟨hcw1, hcw2⟩ := hcw
  unfold maxLen at hcw2
  clear hW ok
  go_enter Tryz.func93, Tryz.ntmps93
  go_wp2
  all_goals
    go_loopw [7, 17] (fun s i wr => ∃ k : Nat, k ≤ b - a ∧ i = .int .i64 k ∧ s = .int .i64 (isum (((slice t.words a b).take k).map (·.syl))) ∧ Below w.heap.size w wr) (fun _ i _ => (b - a) - (intOf i).toNat)
    case atStart => exact ⟨0, Nat.zero_le _, rfl, rfl, below1 _ _⟩
    case round =>
      obtain ⟨k, hk, rfl, rfl, hB⟩ := hrel
      have HB := Lib.hid hB
      by_cases hlt : k < b - a
      · obtain ⟨b', o', x, hp, hbl, hxx, c1, c2, c3⟩ := (HW.out.below hB).at (i := a + k) (by omega)
        injection hp with hp; injection hp with hp1 hp2 _
        subst hp1; subst hp2
        have hxm : x ∈ t.words := by rw [hxx]; exact getD_mem default (by omega)
        obtain ⟨x1, x2, _, _⟩ := HOK.out.word x hxm
        have hxs : x = (slice t.words a b).getD k default := by rw [slice_getD _ _ hlt hb]; exact hxx
        have hsum : isum (((slice t.words a b).take (k + 1)).map (·.syl)) = isum (((slice t.words a b).take k).map (·.syl)) + x.syl := by
          rw [take_snocD default (by rw [HLEN.out]; exact hlt), List.map_append, List.map_cons, List.map_nil, isum_snoc, hxs]
        have HS := Lib.hid hsum
        have hbd := isum_bd (((slice t.words a b).take k).map (·.syl)) 0 9 (fun y hy => by
          obtain ⟨z, hz, rfl⟩ := List.mem_map.1 hy
          have := HOK.out.word z (List.mem_of_mem_drop (List.mem_of_mem_take (List.mem_of_mem_take hz))); omega)
        have hlk : (((slice t.words a b).take k).map (·.syl)).length = k := by rw [List.length_map, List.length_take, HLEN.out]; omega
        rw [hlk] at hbd
        generalize hsk : isum (((slice t.words a b).take k).map (·.syl)) = sk at hbd HS ⊢
        have hadd : o + (a + k) * 3 = o + a * 3 + k * 3 := by omega
        rw [hadd] at c1 c2 c3
        clear hsk hsum hxs hxx hlk hadd hB hxm
        go_wp2
        all_goals
          go_roundw
          case rel => exact ⟨k + 1, by omega, by go_num, by rw [HS.out], (join HB.out (below1 _ _))⟩
          case measure => simp [intOf]; omega
      · obtain rfl : k = b - a := by omega
        have hfull : (slice t.words a b).take (b - a) = slice t.words a b := by rw [← HLEN.out, List.take_length]
        have HF := Lib.hid hfull
        clear hfull hB
        go_wp2
        go_ret
        exact ⟨ret_int (by rw [HF.out]; rfl), HB.out⟩

theorem allow_any (t : Text) (ok : Text.Ok t) (pw : Option Addr) (cw : Nat) (v1 v2 v3 : Value) (p : Nat) (hp : p ≤ t.words.length) (w : World) (hW : Wds w pw t.words) :
    Calls Tryz.prog 144 #[.agg #[.slice pw t.words.length cw, v1, v2, v3], .int .i64 p] w fun e w' => e = .returned (.bool (t.allow p)) ∧ Below w.heap.size w w' := by
  have hn := ok.n12
  by_cases h0 : p = 0
  · subst h0
    have hb : t.allow 0 = true := by simp [Text.allow]
    have HB := Lib.hid hb
    clear hb
    go_enter Tryz.func144, Tryz.ntmps144
    go_wp2
    go_ret
    exact ⟨by rw [HB.out]; rfl, below1 _ _⟩
  · have h0' : ((p : Int) == 0) = false := by rw [beq_eq_false_iff_ne]; omega
    by_cases h1 : p = t.words.length
    · have hb : t.allow p = true := by simp [Text.allow, Text.len, h1]
      have HB := Lib.hid hb
      have h1' : ((p : Int) == (t.words.length : Int)) = true := by rw [beq_iff_eq]; omega
      have H1 := Lib.hid h1
      clear hb h1
      go_enter Tryz.func144, Tryz.ntmps144
      go_wp2_with fail
      refine (end_any _ _ _ _ _ _ _).mono ?_
      rintro e w' ⟨rfl, rfl⟩
      go_wp2
      go_ret
      exact ⟨by rw [HB.out]; rfl, (below1 _ _).alloc (by simp) _⟩
    · have h1' : ((p : Int) == (t.words.length : Int)) = false := by rw [beq_eq_false_iff_ne]; omega
      obtain ⟨q, rfl⟩ : ∃ q, p = q + 1 := ⟨p - 1, by omega⟩
      have hqn : q < t.words.length := by omega
      obtain ⟨bb, o, x, rfl, hbb, hxx, c1, c2, c3⟩ := hW.at hqn
      have hb : t.allow (q + 1) = x.stop := by rw [hxx]; simp [Text.allow, Text.len, h1]
      have HB := Lib.hid hb
      have h1a : ((q : Int) + 1 == (t.words.length : Int)) = false := by rw [beq_eq_false_iff_ne]; omega
      have h1b : ¬ ((q : Int) + 1 = (t.words.length : Int)) := by omega
      have h0a : ((q : Int) + 1 == 0) = false := by rw [beq_eq_false_iff_ne]; omega
      have h2 : ((q + 1 : Nat) : Int) - 1 = q := by omega
      clear hb hxx h1
      go_enter Tryz.func144, Tryz.ntmps144
      go_wp2_with fail
      refine (end_any _ _ _ _ _ _ _).mono ?_
      rintro e w' ⟨rfl, rfl⟩
      go_wp2
      go_ret
      exact ⟨by rw [HB.out]; rfl, (below1 _ _).alloc (by simp) _⟩

/-- what is owned, and told -/
def RowPost (l : List Int) (w : World) (e : Ending) (w' : World) : Prop := ∃ v, e = .returned v ∧ w'.ownsRow w.heap.size 3 1 v l.length (l.map (Value.int .i64)) ∧ Below w.heap.size w w'

set_option maxHeartbeats 800000 in
theorem turnsOther_any (t : Text) (hm : t.turns.length ≤ 1000000) (pt : Option Addr) (ct : Nat) (v0 v2 v3 : Value) (lo hi : Int) (w : World) (hT : Tns w pt t.turns) :
    Calls Tryz.prog 104 #[.agg #[v0, .slice pt t.turns.length ct, v2, v3], .agg #[.int .i64 lo, .int .i64 hi]] w (RowPost (t.said lo hi) w) := by
  obtain ⟨i0, hi0, hz0, hz1, hz2⟩ := info_parts A_infoI
  have HT := Lib.hid hT
  clear hT
  have HB2 := Lib.hid ((below1 w (.cells #[v0, .slice pt t.turns.length ct, v2, v3] 84)).alloc (by simp) (.cells #[.int .i64 lo, .int .i64 hi] 58))
  have x1 : ((w.alloc (.cells #[v0, .slice pt t.turns.length ct, v2, v3] 84)).alloc (.cells #[.int .i64 lo, .int .i64 hi] 58)).heap[w.heap.size + 1]? = some (.cells #[.int .i64 lo, .int .i64 hi] 58 (0, 0)) := by
    have := heap_last (w.alloc (.cells #[v0, .slice pt t.turns.length ct, v2, v3] 84)) (.cells #[.int .i64 lo, .int .i64 hi] 58)
    rwa [World.size_alloc] at this
  have c0 := blk_cells x1 0 _ rfl
  have c1 := blk_cells x1 1 _ rfl
  have hsz : ((w.alloc (.cells #[v0, .slice pt t.turns.length ct, v2, v3] 84)).alloc (.cells #[.int .i64 lo, .int .i64 hi] 58)).heap.size = w.heap.size + 2 := by simp
  go_enter Tryz.func104, Tryz.ntmps104
  go_wp2_with fail
  generalize (w.alloc (.cells #[v0, .slice pt t.turns.length ct, v2, v3] 84)).alloc (.cells #[.int .i64 lo, .int .i64 hi] 58) = W1 at *
  have hw1 : w.heap.size + 2 ≤ W1.heap.size := by omega
  clear x1 hsz
  go_loopw [5, 12] (fun v i wr => ∃ k : Nat, k ≤ t.turns.length ∧ i = .int .i64 k ∧ wr.ownsRow W1.heap.size 3 1 v (idx (fun u => u.says lo hi) 0 (t.turns.take k)).length ((idx (fun u => u.says lo hi) 0 (t.turns.take k)).map (Value.int .i64)) ∧ Below W1.heap.size W1 wr) (fun _ i _ => t.turns.length - (intOf i).toNat)
  case atStart => exact ⟨0, Nat.zero_le _, rfl, own_none _ _ _ _, Below.refl _ _⟩
  case round =>
    obtain ⟨k, hk, rfl, hown, hBr⟩ := hrel
    have HO := Lib.hid hown
    have HBr := Lib.hid hBr
    have hlen : (idx (fun u => u.says lo hi) 0 (t.turns.take k)).length ≤ 1000000 := by rw [idx_length]; exact Nat.le_trans List.countP_le_length (by simp; omega)
    have hz7 := hBr.size
    by_cases hlt : k < t.turns.length
    · obtain ⟨b, o, x, rfl, hb, hxx, d1, d2, d3⟩ := ((HT.out.below HB2.out).below hBr).at hlt
      have HX := Lib.hid hxx
      have hk' : (k : Int) < t.turns.length := by omega
      have g0 : wr.cell? ⟨w.heap.size + 1, 0, none⟩ = some (.int .i64 lo) := (hBr.cell (p := ⟨w.heap.size + 1, 0, none⟩) (show w.heap.size + 1 < W1.heap.size by omega)).trans c0
      have g1 : wr.cell? ⟨w.heap.size + 1, 1, none⟩ = some (.int .i64 hi) := (hBr.cell (p := ⟨w.heap.size + 1, 1, none⟩) (show w.heap.size + 1 < W1.heap.size by omega)).trans c1
      have hs1 : w.heap.size + 1 < wr.heap.size := by omega
      clear hxx hown hBr c0 c1
      go_wp2_with fail
      refine (says_any x _ _ _).mono ?_
      rintro e w5 ⟨rfl, hB5⟩
      have HB5 := Lib.hid (join HBr.out ((below1 _ _).trans (hB5.mono (by simp))))
      have hz5 : wr.heap.size + 1 ≤ w5.heap.size := by have := hB5.size; simpa using this
      have HO5 := Lib.hid (own_below HO.out ((below1 _ _).trans (hB5.mono (by simp))))
      cases hbad : x.says lo hi with
      | true =>
        have HBAD := Lib.hid hbad
        clear hbad hB5
        go_wp2_with (at_builtin; refine wpList_append_own _ rfl _ _ 34 rfl W1.heap.size 3 i0 (.int .i64 0) 1 8 A_undI hi0 hz0 hz1 hz2 rfl (by decide) _ _ _ rfl (HO5.out.alloc _) ⟨w5.heap.size, 0, none⟩ 1 1 [.int .i64 (k : Int)] rfl rfl ?d1 ?d2 ?d3 ?d4 ?d5 ?_)
        case d1 => exact cell_one_new _ _ _
        case d2 => first | rfl | (intro u hu; simp at hu; subst hu; rfl)
        case d3 => unfold maxLen; omega
        case d4 => omega
        case d5 => first | omega | (simp; omega)
        intro v' w8 hown8 hgrow _
        have hB8 := below_grown (al2 HB5.out (by omega) _) (HO5.out.alloc _) (Nat.le_refl _) (by simp; omega) hgrow
        have hsnoc : idx (fun u => u.says lo hi) 0 (t.turns.take (k + 1)) = idx (fun u => u.says lo hi) 0 (t.turns.take k) ++ [(k : Int)] := by
          rw [take_snocD default hlt, idx_snoc, ← HX.out, if_pos HBAD.out]; simp; omega
        have HSN := Lib.hid hsnoc
        have HO8 := Lib.hid hown8
        have HB8 := Lib.hid hB8
        clear hgrow hown8 hB8 hsnoc
        go_wp2
        go_roundw
        case rel => exact ⟨k + 1, by omega, by simp, by rw [HSN.out]; simpa using HO8.out, HB8.out⟩
        case measure => simp [intOf]; omega
      | false =>
        have hsnoc : idx (fun u => u.says lo hi) 0 (t.turns.take (k + 1)) = idx (fun u => u.says lo hi) 0 (t.turns.take k) := by
          rw [take_snocD default hlt, idx_snoc, ← HX.out, if_neg (by rw [hbad]; decide), List.append_nil]
        have HSN := Lib.hid hsnoc
        clear hsnoc hbad hB5
        go_wp2
        go_roundw
        case rel => exact ⟨k + 1, by omega, by simp, by rw [HSN.out]; exact HO5.out, HB5.out⟩
        case measure => simp [intOf]; omega
    · obtain rfl : k = t.turns.length := by omega
      have hfull : t.turns.take t.turns.length = t.turns := List.take_length
      have HF := Lib.hid hfull
      clear hfull hown hBr c0 c1
      go_wp2
      go_ret
      exact ⟨_, rfl, by have := own_base HO.out (base' := w.heap.size) (by omega); rw [HF.out] at this; exact this, HB2.out.trans (HBr.out.mono (by omega))⟩
end Go.Proofs.YtadnggecnjdhiaaGreat
set_option linter.unusedSimpArgs false
set_option linter.unusedVariables false
namespace Go.Proofs.YtadnggecnjdhiaaGreat
open Go.RowKit Tx

set_option maxHeartbeats 800000 in
theorem is0_any (t : Text) (ok : Text.Ok t) (pw pt : Option Addr) (cw ct : Nat) (mf : Value) (a b : Nat) (hab : a ≤ b) (hb : b ≤ t.words.length) (hcw : t.words.length ≤ cw ∧ cw ≤ maxLen) (w : World) (hW : TxAt w t pw pt) :
    Calls Tryz.prog 126 #[.agg #[.slice pw t.words.length cw, .slice pt t.turns.length ct, .int .i64 t.breath, mf], .int .i64 0, .int .i64 a, .int .i64 b] w fun e w' => e = .returned (.bool (t.isLong a b)) ∧ Below w.heap.size w w' := by
  have HS := Lib.hid (fun W (h : Below w.heap.size w W) => syl_any t ok pw cw (.slice pt t.turns.length ct) (.int .i64 t.breath) mf a b hab hb hcw W (hW.words.below h))
  have hx : ∀ o, (w.alloc o).heap.size = w.heap.size + 1 := fun o => by simp
  clear hW hcw
  go_enter Tryz.func126, Tryz.ntmps126
  go_wp2_with fail
  go_region_with (go_at_call 93; refine (HS.out _ (by first | exact below1 _ _ | exact (below1 _ _).drew)).mono ?_; rintro e w5 ⟨rfl, hB5⟩; obtain ⟨hc5, hf5⟩ := bcell hB5; have hz5 : w.heap.size < w5.heap.size := by have := hB5.size; simp at this; omega)
  all_goals go_wp2
  all_goals go_ret
  all_goals exact ⟨rfl, join (below1 _ _).drew hB5⟩

set_option maxHeartbeats 800000 in
theorem is1_any (t : Text) (ok : Text.Ok t) (pw pt : Option Addr) (cw ct : Nat) (mf : Value) (a b : Nat) (hab : a ≤ b) (hb : b ≤ t.words.length) (w : World) (hW : TxAt w t pw pt) :
    Calls Tryz.prog 126 #[.agg #[.slice pw t.words.length cw, .slice pt t.turns.length ct, .int .i64 t.breath, mf], .int .i64 1, .int .i64 a, .int .i64 b] w fun e w' => e = .returned (.bool (t.isCut a b)) ∧ Below w.heap.size w w' := by
  have HS := Lib.hid (fun W (h : Below w.heap.size w W) (p : Nat) (hp : p ≤ t.words.length) => allow_any t ok pw cw (.slice pt t.turns.length ct) (.int .i64 t.breath) mf p hp W (hW.words.below h))
  clear hW
  cases h1 : t.allow a with
  | true =>
    have hfin : t.isCut a b = !t.allow b := by simp [Text.isCut, h1]
    have HF := Lib.hid hfin
    have H1 := Lib.hid h1
    clear hfin h1
    go_enter Tryz.func126, Tryz.ntmps126
    go_wp2_with fail
    refine (HS.out _ (below1 _ _) a (by omega)).mono ?_
    rintro e w5 ⟨rfl, hB5⟩
    obtain ⟨hc5, hf5⟩ := bcell hB5
    have hz5 : w.heap.size < w5.heap.size := by have := hB5.size; simp at this; omega
    have HB5 := Lib.hid (join (below1 _ _) hB5)
    rw [H1.out]
    clear hB5
    go_wp2_with fail
    refine (HS.out _ HB5.out b hb).mono ?_
    rintro e w6 ⟨rfl, hB6⟩
    go_wp2
    go_ret
    exact ⟨by rw [HF.out]; rfl, join HB5.out hB6⟩
  | false =>
    have hfin : t.isCut a b = true := by simp [Text.isCut, h1]
    have HF := Lib.hid hfin
    have H1 := Lib.hid h1
    clear hfin h1
    go_enter Tryz.func126, Tryz.ntmps126
    go_wp2_with fail
    refine (HS.out _ (below1 _ _) a (by omega)).mono ?_
    rintro e w5 ⟨rfl, hB5⟩
    rw [H1.out]
    go_wp2
    go_ret
    exact ⟨by rw [HF.out]; rfl, join (below1 _ _) hB5⟩

set_option maxHeartbeats 800000 in
theorem is2_any (t : Text) (ok : Text.Ok t) (pw pt : Option Addr) (cw ct : Nat) (mf : Value) (a b : Nat) (hab : a ≤ b) (hb : b ≤ t.words.length) (w : World) (hW : TxAt w t pw pt) :
    Calls Tryz.prog 126 #[.agg #[.slice pw t.words.length cw, .slice pt t.turns.length ct, .int .i64 t.breath, mf], .int .i64 2, .int .i64 a, .int .i64 b] w fun e w' => e = .returned (.bool (t.isOther a b)) ∧ Below w.heap.size w w' := by
  have HS := Lib.hid (fun W (h : Below w.heap.size w W) => turnsOther_any t (by have := ok.m6; omega) pt ct (.slice pw t.words.length cw) (.int .i64 t.breath) mf (a : Int) ((b : Int) - 1) W (hW.turns.below h))
  have hfin : t.isOther a b = decide (0 < (t.said a ((b : Int) - 1)).length) := by unfold Text.isOther Text.said; rw [idx_any]
  have HF := Lib.hid hfin
  have hn := ok.n12
  clear hW hfin
  go_enter Tryz.func126, Tryz.ntmps126
  go_wp2_with fail
  go_region_with (first | (go_at_call 128; refine (wordsBetween_any _ _ _ (by omega) (by omega)).mono ?_; rintro e w' ⟨rfl, rfl⟩) | (go_at_call 104; refine (HS.out _ (by first | exact ((below1 _ _).drew).alloc (by simp) _ | exact ((below1 _ _).alloc (by simp) _).drew)).mono ?_; rintro e w5 ⟨v, rfl, hown, hB5⟩; obtain ⟨pq, cq, rfl, _⟩ := own_rd hown rfl; have HB5 := Lib.hid hB5; clear hB5 hown))
  all_goals go_wp2
  all_goals go_ret
  all_goals exact ⟨by rw [HF.out]; rfl, join (by first | exact ((below1 _ _).drew).alloc (by simp) _ | exact ((below1 _ _).alloc (by simp) _).drew) HB5.out⟩
end Go.Proofs.YtadnggecnjdhiaaGreat
set_option linter.unusedSimpArgs false
set_option linter.unusedVariables false
namespace Go.Proofs.YtadnggecnjdhiaaGreat
open Go.RowKit Tx

/-- what right readings are asked of: a text at work -/
structure WkAt (w : World) (t : Text) (pw pt : Option Addr) (cw : Nat) : Prop where
  ok : Text.Ok t
  at_ : TxAt w t pw pt
  cap : t.words.length ≤ cw ∧ cw ≤ maxLen
theorem WkAt.below {w w' : World} {t : Text} {pw pt : Option Addr} {cw : Nat} (h : WkAt w t pw pt cw) (hb : Below w.heap.size w w') : WkAt w' t pw pt cw := ⟨h.ok, h.at_.below hb, h.cap⟩

set_option maxHeartbeats 800000 in
theorem right_any (t : Text) (pw pt : Option Addr) (cw ct : Nat) (mf : Value) (a b : Nat) (hab : a ≤ b) (hb : b ≤ t.words.length) (w : World) (hW : WkAt w t pw pt cw) :
    Calls Tryz.prog 91 #[.agg #[.slice pw t.words.length cw, .slice pt t.turns.length ct, .int .i64 t.breath, mf], .int .i64 a, .int .i64 b] w fun e w' => e = .returned (.bool (t.right a b)) ∧ Below w.heap.size w w' := by
  have HS0 := Lib.hid (fun W (h : Below w.heap.size w W) => is0_any t hW.ok pw pt cw ct mf a b hab hb hW.cap W (hW.at_.below h))
  have HS1 := Lib.hid (fun W (h : Below w.heap.size w W) => is1_any t hW.ok pw pt cw ct mf a b hab hb W (hW.at_.below h))
  have HS2 := Lib.hid (fun W (h : Below w.heap.size w W) => is2_any t hW.ok pw pt cw ct mf a b hab hb W (hW.at_.below h))
  clear hW
  cases h1 : t.isLong a b with
  | true =>
    have hfin : t.right a b = false := by simp [Text.right, h1]
    have HF := Lib.hid hfin
    have H1 := Lib.hid h1
    clear hfin h1
    go_enter Tryz.func91, Tryz.ntmps91
    go_wp2_with fail
    refine (HS0.out _ (below1 _ _)).mono ?_
    rintro e w5 ⟨rfl, hB5⟩
    rw [H1.out]
    go_wp2
    go_ret
    exact ⟨by rw [HF.out]; rfl, join (below1 _ _) hB5⟩
  | false =>
    cases h2 : t.isCut a b with
    | true =>
      have hfin : t.right a b = false := by simp [Text.right, h2]
      have HF := Lib.hid hfin
      have H1 := Lib.hid h1
      have H2 := Lib.hid h2
      clear hfin h1 h2
      go_enter Tryz.func91, Tryz.ntmps91
      go_wp2_with fail
      refine (HS0.out _ (below1 _ _)).mono ?_
      rintro e w5 ⟨rfl, hB5⟩
      obtain ⟨hc5, hf5⟩ := bcell hB5
      have hz5 : w.heap.size < w5.heap.size := by have := hB5.size; simp at this; omega
      have HB5 := Lib.hid (join (below1 _ _) hB5)
      rw [H1.out]
      clear hB5
      go_wp2_with fail
      refine (HS1.out _ HB5.out).mono ?_
      rintro e w6 ⟨rfl, hB6⟩
      rw [H2.out]
      go_wp2
      go_ret
      exact ⟨by rw [HF.out]; rfl, join HB5.out hB6⟩
    | false =>
      have hfin : t.right a b = !t.isOther a b := by simp [Text.right, h1, h2]
      have HF := Lib.hid hfin
      have H1 := Lib.hid h1
      have H2 := Lib.hid h2
      clear hfin h1 h2
      go_enter Tryz.func91, Tryz.ntmps91
      go_wp2_with fail
      refine (HS0.out _ (below1 _ _)).mono ?_
      rintro e w5 ⟨rfl, hB5⟩
      obtain ⟨hc5, hf5⟩ := bcell hB5
      have hz5 : w.heap.size < w5.heap.size := by have := hB5.size; simp at this; omega
      have HB5 := Lib.hid (join (below1 _ _) hB5)
      rw [H1.out]
      clear hB5
      go_wp2_with fail
      refine (HS1.out _ HB5.out).mono ?_
      rintro e w6 ⟨rfl, hB6⟩
      obtain ⟨hc6, hf6⟩ := bcell hB6
      have hz6 : w.heap.size < w6.heap.size := by have := hB6.size; omega
      have HB6 := Lib.hid (join HB5.out hB6)
      rw [H2.out]
      clear hB6
      go_wp2_with fail
      refine (HS2.out _ HB6.out).mono ?_
      rintro e w7 ⟨rfl, hB7⟩
      go_wp2
      go_ret
      exact ⟨by rw [HF.out]; rfl, join HB6.out hB7⟩

/-- is, of any kind that there is -/
theorem isK_any (t : Text) (pw pt : Option Addr) (cw ct : Nat) (mf : Value) (k : Nat) (hk : k ≤ 2) (a b : Nat) (hab : a ≤ b) (hb : b ≤ t.words.length) (w : World) (hW : WkAt w t pw pt cw) :
    Calls Tryz.prog 126 #[.agg #[.slice pw t.words.length cw, .slice pt t.turns.length ct, .int .i64 t.breath, mf], .int .i64 k, .int .i64 a, .int .i64 b] w fun e w' => e = .returned (.bool (t.isK k a b)) ∧ Below w.heap.size w w' := by
  have : k = 0 ∨ k = 1 ∨ k = 2 := by omega
  rcases this with rfl | rfl | rfl
  · exact is0_any t hW.ok pw pt cw ct mf a b hab hb hW.cap w hW.at_
  · exact is1_any t hW.ok pw pt cw ct mf a b hab hb w hW.at_
  · exact is2_any t hW.ok pw pt cw ct mf a b hab hb w hW.at_
end Go.Proofs.YtadnggecnjdhiaaGreat
set_option linter.unusedSimpArgs false
set_option linter.unusedVariables false
namespace Go.Proofs.YtadnggecnjdhiaaGreat
open Go.RowKit Tx
attribute [local go_sem] Oper.semAt_some

/-- a closure that tells which breaths may be -/
def MayAt (mv : Value) (may : Nat → Nat → Bool) (n : Nat) (Kp : Nat → Prop) (w : World) : Prop :=
  ∃ F first caps, mv = .func (.func F) first caps ∧ Entered F ∧ ∀ W, Hold Kp w W → ∀ a b : Nat, a < b → b ≤ n → Calls Tryz.prog F (first ++ (#[.int .i64 a, .int .i64 b] ++ caps)) W fun e w' => e = .returned (.bool (may a b)) ∧ Below W.heap.size W w'
theorem MayAt.hold {mv : Value} {may : Nat → Nat → Bool} {n : Nat} {Kp : Nat → Prop} {w w' : World} (h : MayAt mv may n Kp w) (hh : Hold Kp w w') : MayAt mv may n Kp w' := by
  obtain ⟨F, first, caps, h1, h2, h3⟩ := h
  exact ⟨F, first, caps, h1, h2, fun W hW => h3 W (hh.trans hW)⟩
theorem MayAt.mono {mv : Value} {may : Nat → Nat → Bool} {n : Nat} {Kp Kq : Nat → Prop} {w : World} (h : MayAt mv may n Kp w) (hq : ∀ k, Kp k → k < w.heap.size → Kq k) : MayAt mv may n Kq w := by
  obtain ⟨F, first, caps, h1, h2, h3⟩ := h
  exact ⟨F, first, caps, h1, h2, fun W hW => h3 W (hW.mono hq)⟩
theorem Hold.below {Kp : Nat → Prop} {A C : World} (h : Below A.heap.size A C) : Hold Kp A C := .of_below h (fun _ _ hl => hl)

/-- what the iterator has captured -/
structure BrCap (w : World) (n cw : Nat) (pw : Option Addr) (v1 v2 mv : Value) (a A1 A2 : Nat) : Prop where
  fr : w.heap[A1]? = some (.cells #[.int .i64 a] 3 (0, 0))
  wk : w.heap[A2]? = some (.cells #[.slice pw n cw, v1, v2, mv] 84 (0, 0))
theorem BrCap.hold {Kp : Nat → Prop} {w w' : World} {n cw : Nat} {pw : Option Addr} {v1 v2 mv : Value} {a A1 A2 : Nat} (h : BrCap w n cw pw v1 v2 mv a A1 A2) (hh : Hold Kp w w') (hA : Kp A1 ∧ Kp A2) : BrCap w' n cw pw v1 v2 mv a A1 A2 :=
  ⟨(hh.same A1 hA.1 (Array.getElem?_eq_some_iff.1 h.fr).1).trans h.fr, (hh.same A2 hA.2 (Array.getElem?_eq_some_iff.1 h.wk).1).trans h.wk⟩
theorem BrCap.below {w w' : World} {n cw : Nat} {pw : Option Addr} {v1 v2 mv : Value} {a A1 A2 : Nat} (h : BrCap w n cw pw v1 v2 mv a A1 A2) (hb : Below w.heap.size w w') : BrCap w' n cw pw v1 v2 mv a A1 A2 :=
  h.hold (Kp := fun _ => True) (.below hb) ⟨trivial, trivial⟩

/-- the breaths before a place -/
def brsTo (may : Nat → Nat → Bool) (a b : Nat) : List Nat := (List.range' (a + 1) (b - (a + 1))).filter (may a)
theorem brsTo_succ (may : Nat → Nat → Bool) {a b : Nat} (h : a + 1 ≤ b) : brsTo may a (b + 1) = brsTo may a b ++ (if may a b then [b] else []) := by
  unfold brsTo
  rw [show b + 1 - (a + 1) = (b - (a + 1)) + 1 by omega, List.range'_concat, List.filter_append]
  rw [show a + 1 + 1 * (b - (a + 1)) = b by omega]
  cases h : may a b <;> simp [h]
theorem brsTo_end (may : Nat → Nat → Bool) (n a : Nat) : brsTo may a (n + 1) = brs may n a := by
  unfold brsTo brs; rw [show n + 1 - (a + 1) = n - a by omega]
theorem brs_split (may : Nat → Nat → Bool) {n a b : Nat} (h : a + 1 ≤ b) (hb : b ≤ n) (hm : may a b = true) : ∃ post, brs may n a = brsTo may a b ++ b :: post := by
  refine ⟨(List.range' (b + 1) (n - b)).filter (may a), ?_⟩
  unfold brs brsTo
  have : List.range' (a + 1) (n - a) = List.range' (a + 1) (b - (a + 1)) ++ b :: List.range' (b + 1) (n - b) := by
    rw [show n - a = (b - (a + 1)) + (n - b + 1) by omega, ← List.range'_append]
    rw [show a + 1 + 1 * (b - (a + 1)) = b by omega, List.range'_succ]
  rw [this, List.filter_append, List.filter_cons, if_pos hm]

abbrev SeeN (x : Nat) (vs : Array Value) (w : World) : Prop := vs = #[.int .i64 x]

set_option maxHeartbeats 1000000 in
set_option maxRecDepth 100000 in
theorem breaths1_in (m : Nat) (l : Nat) (Kp : Nat → Prop) (may : Nat → Nat → Bool) (n cw : Nat) (hn : n ≤ 12) (pw : Option Addr) (v1 v2 mv : Value) (a A1 A2 : Nat) (han : a ≤ n)
    (hA : Kp A1 ∧ Kp A2)
    (J Jx : List Nat → World → Prop)
    (hY : ∀ pre x post vs W, brs may n a = pre ++ x :: post → SeeN x vs W → J pre W → YieldAt Fence.wide (m - 1) Tryz.prog l vs W fun e W' =>
      (e = .returned (.bool true) ∧ J (pre ++ [x]) W' ∧ Hold Kp W W') ∨ (e = .returned (.bool false) ∧ Jx (pre ++ [x]) W' ∧ Hold Kp W W'))
    (W : World) (hC : BrCap W n cw pw v1 v2 mv a A1 A2) (hM : MayAt mv may n Kp W) (h0 : J [] W) (hab : Low W.heap.size J) :
    CallsIn Fence.wide m Tryz.prog 143 #[.func (.yield l) #[] #[], .pointer (some ⟨A1, 0, none⟩), .pointer (some ⟨A2, 0, none⟩)] W fun e W' => (∃ v, e = .returned v) ∧ (J (brs may n a) W' ∨ (∃ pre, Jx pre W')) := by
  obtain ⟨F, first, caps, rfl, hF, hM⟩ := hM
  refine callsIn_of_wp Tryz.func143 rfl trivial ?_ rfl
  simp only [Tryz.ntmps143, List.size_toArray, List.length_cons, List.length_nil, Nat.reduceAdd, Nat.reduceSub, Array.replicate_succ, Array.replicate_zero, List.push_toArray, List.append_toArray, List.nil_append, List.cons_append]
  have c1 := blk_cells hC.fr 0 _ rfl
  have hA1l := (Array.getElem?_eq_some_iff.1 hC.fr).1
  have HF := Lib.hid hF
  have HM := Lib.hid hM
  clear hF hM
  gi_wp2_with fail
  gi_loopw [4] (fun d wr => ∃ b : Nat, d = .int .i64 b ∧ a + 1 ≤ b ∧ b ≤ n + 1 ∧ J (brsTo may a b) wr ∧ BrCap wr n cw pw v1 v2 (.func (.func F) first caps) a A1 A2 ∧ Hold Kp W wr) (fun d _ => n + 1 - (intOf d).toNat)
  case atStart => exact ⟨a + 1, by simp, by omega, by omega, by unfold brsTo; simpa using h0, hC, Hold.refl _ _⟩
  case round =>
    obtain ⟨b, rfl, hb1, hb2, hJ, hCr, hH⟩ := hrel
    have hsz := hH.size
    have HH := Lib.hid hH
    have HJ := Lib.hid hJ
    have HC := Lib.hid hCr
    have d1 := blk_cells hCr.fr 0 _ rfl
    have e0 := blk_cells hCr.wk 0 _ rfl
    have e1 := blk_cells hCr.wk 1 _ rfl
    have e2 := blk_cells hCr.wk 2 _ rfl
    have e3 := blk_cells hCr.wk 3 _ rfl
    have hA1r := (Array.getElem?_eq_some_iff.1 hCr.fr).1
    have hA2r := (Array.getElem?_eq_some_iff.1 hCr.wk).1
    clear c1 hC hJ hCr hH
    gi_wp2_with fail
    refine ⟨trivial, (fun h => by cases h), ?_⟩
    refine (callsIn_wide.2 (end_any _ _ _ _ _ _ _)).mono ?_
    rintro e w' ⟨rfl, rfl⟩
    by_cases hlt : b ≤ n
    · have hlt' : (b : Int) ≤ n := by omega
      have HB := Lib.hid (below1 wr (.cells #[.slice pw n cw, v1, v2, .func (.func F) first caps] 84))
      have hask := HM.out (wr.alloc (.cells #[.slice pw n cw, v1, v2, .func (.func F) first caps] 84)) (HH.out.trans (.below HB.out)) a b (by omega) hlt
      have HASK := Lib.hid hask
      clear hask
      gi_wp2_with fail
      refine ⟨trivial, ?_⟩
      rw [HF.out, Oper.uponIn_enter]
      refine ⟨(fun h => by cases h), ?_⟩
      refine (callsIn_wide.2 HASK.out).mono ?_
      rintro e w2 ⟨rfl, hB2⟩
      clear HASK
      have HB2 := Lib.hid (join HB.out hB2)
      obtain ⟨bc2, bf2⟩ := bcell HB2.out
      have HJ2 := Lib.hid (hab _ _ _ HJ.out (HB2.out.mono hsz))
      have HC2 := Lib.hid (HC.out.below HB2.out)
      have HH2 := Lib.hid (HH.out.trans (.below HB2.out))
      clear hB2 bf2
      cases hmay : may a b with
      | true =>
        obtain ⟨post, hsplit⟩ := brs_split may hb1 hlt hmay
        obtain ⟨fn, tmps, assign, body, hy, hR⟩ := hY _ b post _ w2 hsplit rfl HJ2.out
        have HS := Lib.hid (brsTo_succ may (a := a) (b := b) hb1)
        have HMAY := Lib.hid hmay
        clear hmay hsplit
        gi_wp2
        refine ⟨(fun h => by cases h), hR.mono ?_⟩
        rintro e W3 (⟨rfl, hJ3, hk3⟩ | ⟨rfl, hJx3, hk3⟩)
        · gi_wp2
          go_roundw
          case rel => exact ⟨b + 1, by go_num, by omega, by omega, by rw [HS.out, HMAY.out]; exact hJ3, HC2.out.hold hk3 hA, HH2.out.trans hk3⟩
          case measure => simp [intOf]; omega
        · gi_wp2
          refine bodyPost_ret (results_none rfl _ _ _) rfl ?_
          exact ⟨⟨_, rfl⟩, .inr ⟨_, hJx3⟩⟩
      | false =>
        have HS := Lib.hid (brsTo_succ may (a := a) (b := b) hb1)
        have HMAY := Lib.hid hmay
        clear hmay
        gi_wp2
        refine ⟨fun _ h => (by cases h), ?_⟩
        gi_wp2
        go_roundw
        case rel => exact ⟨b + 1, by go_num, by omega, by omega, by rw [HS.out, HMAY.out]; simpa using HJ2.out, HC2.out, HH2.out⟩
        case measure => simp [intOf]; omega
    · obtain rfl : b = n + 1 := by omega
      have hend := brsTo_end may n a
      have hJe : J (brs may n a) (wr.alloc (.cells #[.slice pw n cw, v1, v2, .func (.func F) first caps] 84)) := hab _ _ _ (hend ▸ HJ.out) ((below1 _ _).mono hsz)
      have HJE := Lib.hid hJe
      clear hend hJe
      gi_wp2
      go_end0
      exact ⟨⟨_, rfl⟩, .inl HJE.out⟩

theorem breaths_seq (m : Nat) (Kp : Nat → Prop) (may : Nat → Nat → Bool) (n cw : Nat) (hn : n ≤ 12) (pw : Option Addr) (v1 v2 mv : Value) (a A1 A2 : Nat) (han : a ≤ n) (w : World) (hA : Kp A1 ∧ Kp A2)
    (hC : BrCap w n cw pw v1 v2 mv a A1 A2) (hM : MayAt mv may n (fun k => Kp k ∧ k < w.heap.size) w) :
    SeqOf m Tryz.prog 143 #[.pointer (some ⟨A1, 0, none⟩), .pointer (some ⟨A2, 0, none⟩)] SeeN Kp (brs may n a) w :=
  fun l J Jx W hb hJ hY h0 =>
    have h1 := (Array.getElem?_eq_some_iff.1 hC.fr).1
    have h2 := (Array.getElem?_eq_some_iff.1 hC.wk).1
    breaths1_in m l _ may n cw hn pw v1 v2 mv a A1 A2 han ⟨.inl ⟨hA.1, h1⟩, .inl ⟨hA.2, h2⟩⟩ J Jx hY W (hC.below hb) ((hM.hold (.below hb)).mono (fun k hk _ => .inl hk)) h0 hJ

/-- breaths: a closure over two boxes -/
theorem breaths_any (v0 v1 v2 mv : Value) (a : Int) (w : World) :
    Calls Tryz.prog 123 #[.agg #[v0, v1, v2, mv], .int .i64 a] w fun e w' =>
      e = .returned (.func (.func 143) #[] #[.pointer (some ⟨w.heap.size + 1, 0, none⟩), .pointer (some ⟨w.heap.size, 0, none⟩)]) ∧ (w.alloc (.cells #[v0, v1, v2, mv] 84)).alloc (.cells #[.int .i64 a] 3) = w' := by
  have hmf := mf
  go_enter Tryz.func123, Tryz.ntmps123
  go_wp2
  go_ret
  exact ⟨rfl, rfl⟩
end Go.Proofs.YtadnggecnjdhiaaGreat
set_option linter.unusedSimpArgs false
set_option linter.unusedVariables false
namespace Go.Proofs.YtadnggecnjdhiaaGreat
open Go.RowKit Tx
attribute [local go_sem] Oper.semAt_some

/-- an array of numbers, as a value -/
def arrOf (M : List Int) : Array Value := (M.map (Value.int .i64)).toArray
theorem arrOf_size (M : List Int) : (arrOf M).size = M.length := by simp [arrOf]
theorem arrOf_get {M : List Int} {k : Nat} (h : k < M.length) : (arrOf M)[k]? = some (.int .i64 (M.getD k 0)) := by simp [arrOf, h]
theorem arrOf_set (M : List Int) (k : Nat) (x : Int) : (arrOf M).setIfInBounds k (.int .i64 x) = arrOf (M.set k x) := by simp [arrOf, List.map_set]
theorem arrOf_one (M : List Int) : (arrOf M).all (·.oneCell') = true := by
  unfold arrOf
  rw [Array.all_eq_true]
  intro i hi
  simp [Value.oneCell']
theorem und_marks : Tryz.prog.underlying 116 = some (.array 13 3) := by kernel_rfl
theorem size_marks {A : Array Value} (h : A.size = 13) : (Tryz.prog.info? 116).map (·.size) = some A.size := by rw [h]; kernel_rfl
theorem mixed : Tryz.prog.follows .mixedOrders = true := by kernel_rfl

/-- the marks that loops over a function have left, the latest first, between B and C -/
def Ends (B : Nat) (w : World) : Nat → List Deferred → Prop
  | _, [] => True
  | C, d :: ds => ∃ D, d = { target := .collected D, args := #[] } ∧ B ≤ D ∧ D < C ∧ w.heap[D]? = some (.deferred (some [])) ∧ Ends B w D ds
theorem Ends.mono {B : Nat} {w : World} : ∀ {ds : List Deferred} {C C' : Nat}, Ends B w C ds → C ≤ C' → Ends B w C' ds
  | [], _, _, _, _ => trivial
  | _ :: _, _, _, ⟨D, h1, h2, h3, h4, h5⟩, hc => ⟨D, h1, h2, Nat.lt_of_lt_of_le h3 hc, h4, h5⟩
theorem Ends.keep {B : Nat} {w w' : World} : ∀ {ds : List Deferred} {C : Nat}, Ends B w C ds → (∀ k, B ≤ k → k < C → w'.heap[k]? = w.heap[k]?) → Ends B w' C ds
  | [], _, _, _ => trivial
  | _ :: _, _, ⟨D, h1, h2, h3, h4, h5⟩, hk => ⟨D, h1, h2, h3, (hk D h2 h3).trans h4, h5.keep (fun k hb hc => hk k hb (Nat.lt_trans hc h3))⟩
theorem leaves_ends {F : Fence} {n : Nat} {P : Program} {fn : Func} {tmps : Array Value} {R : Ending → World → Prop} {B : Nat} {u : FrameMode} (hu : u ≠ .run) : ∀ (ds : List Deferred) (C : Nat) (w : World), Ends B w C ds → C ≤ w.heap.size →
    (∀ w', Hold (fun k => k < B) w w' → LeavesIn F n P fn tmps R [] u w') → LeavesInM F n P fn tmps R ds u w
  | [], _, w, _, _, hR => hR w (Hold.refl _ _)
  | d :: ds, C, w, ⟨D, h1, h2, h3, h4, h5⟩, hC, hR => by
    subst h1
    refine ⟨hu, .inl ⟨D, _, rfl, run_takeDeferred h4, leaves_ends hu ds D _ (h5.keep (fun k _ hk => World.putObj_heap_other (by omega))) (by simp; omega) (fun w' hh => hR w' (Hold.trans ?_ hh))⟩⟩
    exact .of_below (putObj_below (B := B) _ _ _ h2 (by omega)) (fun k hk _ => hk)
theorem Hold.setCell {Kp : Nat → Prop} (w : World) (a : Addr) (v : Value) (h : ¬ Kp a.block) : Hold Kp w (w.setCell a v) := ⟨rfl, rfl, rfl, by simp, fun k hk _ => Below.heap_setCell _ _ _ _ (fun e => h (e ▸ hk))⟩

theorem hold_setCells (g : Nat) : ∀ (vs : List Value) (o : Nat) (w : World), Hold (fun j => j ≠ g) w (w.setCells g o vs)
  | [], _, w => Hold.refl _ w
  | v :: r, o, w => (Hold.setCell w ⟨g, o, none⟩ v (fun h => h rfl)).trans (hold_setCells g r (o + 1) _)
theorem low1_len (m : Marks) (a b : Nat) : (low1 m a b).length = m.length := by simp [low1]
/-- marks that aren't great -/
def Small (m : Marks) : Prop := m.length = 13 ∧ ∀ k, k < 13 → 0 ≤ m.getD k 0 ∧ m.getD k 0 ≤ 1000
theorem Small.low1 {m : Marks} (h : Small m) (a b : Nat) (ha : a < 13) : Small (low1 m a b) := by
  refine ⟨by rw [low1_len]; exact h.1, fun k hk => ?_⟩
  unfold Tx.low1
  have h1 := h.2 k hk
  have h2 := h.2 a ha
  simp only [List.getD_eq_getElem?_getD, List.getElem?_set] at *
  by_cases hkb : b = k
  · subst hkb; rw [if_pos rfl, if_pos (by rw [h.1]; exact hk)]; simp; omega
  · rw [if_neg hkb]; exact h1
theorem Small.row {may : Nat → Nat → Bool} {n : Nat} {m : Marks} (h : Small m) (a : Nat) (ha : a < 13) : ∀ l : List Nat, Small (l.foldl (fun m b => Tx.low1 m a b) m) := by
  intro l
  induction l generalizing m with
  | nil => exact h
  | cons x l ih => exact ih (h.low1 a x ha)

/-- what holds in lowered -/
structure LwC (n cw : Nat) (pw : Option Addr) (v1 v2 mv : Value) (w W : World) (M : Marks) (C : Nat) (ds : List Deferred) : Prop where
  wk : W.heap[w.heap.size]? = some (.cells #[.slice pw n cw, v1, v2, mv] 84 (0, 0))
  mks : W.heap[w.heap.size + 1]? = some (.cells (arrOf M) 116 (0, 0))
  res : W.heap[w.heap.size + 1 + 1]? = some (.cells (arrOf (List.replicate 13 0)) 116 (0, 0))
  bel : Below w.heap.size w W
  ends : Ends (w.heap.size + 1 + 1 + 1) W C ds
  sz : w.heap.size + 1 + 1 + 1 ≤ W.heap.size ∧ C ≤ W.heap.size
  small : Small M
theorem LwC.below {n cw : Nat} {pw : Option Addr} {v1 v2 mv : Value} {w W W' : World} {M : Marks} {C : Nat} {ds : List Deferred} (h : LwC n cw pw v1 v2 mv w W M C ds) {B : Nat} (h3 : w.heap.size + 1 + 1 + 1 ≤ B) (hC : C ≤ B) (hB : Below B W W') : LwC n cw pw v1 v2 mv w W' M C ds :=
  ⟨(hB.block _ (by omega)).trans h.wk, (hB.block _ (by omega)).trans h.mks, (hB.block _ (by omega)).trans h.res, h.bel.trans (hB.mono (by omega)), h.ends.keep (fun k _ hk => hB.block k (by omega)),
    ⟨Nat.le_trans h.sz.1 hB.size, Nat.le_trans h.sz.2 hB.size⟩, h.small⟩
theorem run_min (P : Program) (x y : Int) (w : World) : True := trivial
def spLw (Mb a b : Nat) (ma mb : Int) : Nat → List Value → Value → World → Prop
  | 0, _, v, _ => v = .int .i64 b
  | 1, _, v, _ => v = .int .i64 b
  | 2, _, v, _ => v = .pointer (some ⟨Mb, b, none⟩)
  | 3, _, v, _ => v = .int .i64 mb
  | 4, _, v, _ => v = .int .i64 a
  | 5, _, v, _ => v = .pointer (some ⟨Mb, a, none⟩)
  | 6, _, v, _ => v = .int .i64 ma
  | 7, _, v, _ => v = .int .i64 (ma + 1)
  | 8, _, v, _ => v = .int .i64 (min mb (ma + 1))
  | 9, _, v, _ => v = .pointer (some ⟨Mb, b, none⟩)
  | _, _, _, _ => False
theorem spLw_stable (Mb a b : Nat) (ma mb : Int) : ∀ i L v w w', spLw Mb a b ma mb i L v w → (∃ nq, w' = w.drewN nq) → spLw Mb a b ma mb i L v w' := by
  intro i L v w w' h hg
  match i with
  | 0 => exact h
  | 1 => exact h
  | 2 => exact h
  | 3 => exact h
  | 4 => exact h
  | 5 => exact h
  | 6 => exact h
  | 7 => exact h
  | 8 => exact h
  | 9 => exact h

set_option maxHeartbeats 2000000 in
set_option maxRecDepth 100000 in
theorem lowered_any (may : Nat → Nat → Bool) (n cw : Nat) (hn : n ≤ 12) (pw : Option Addr) (v1 v2 mv : Value) (M : Marks) (hM : Small M) (w : World) (hMay : MayAt mv may n (fun k => k < w.heap.size) w) :
    Calls Tryz.prog 119 #[.agg #[.slice pw n cw, v1, v2, mv], .agg (arrOf M)] w fun e w' => e = .returned (.agg (arrOf (Tx.lowered may n M))) ∧ Below w.heap.size w w' := by
  have HMAY := Lib.hid hMay
  have HSM := Lib.hid hM
  have hAsz := size_marks (by rw [arrOf_size, hM.1] : (arrOf M).size = 13)
  have HASZ := Lib.hid hAsz
  clear hMay hM hAsz
  obtain ⟨m, hm9⟩ : ∃ m : Nat, 9 ≤ m := ⟨9, Nat.le_refl _⟩
  refine (callsIn_wide (n := m)).1 ?_
  refine callsIn_of_wp_marks Tryz.func119 rfl trivial ?_ rfl
  simp only [Tryz.ntmps119, List.size_toArray, List.length_cons, List.length_nil, Nat.reduceAdd, Nat.reduceSub, Array.replicate_succ, Array.replicate_zero, List.push_toArray, List.append_toArray, List.nil_append, List.cons_append]
  gi_wp2_with fail
  refine ⟨trivial, (fun h => by cases h), ?_⟩
  refine (callsIn_wide.2 (end_any _ _ _ _ _ _ _)).mono ?_
  rintro e w' ⟨rfl, rfl⟩
  have hB4 : ∀ o1 o2 o3 o4, Below w.heap.size w ((((w.alloc o1).alloc o2).alloc o3).alloc o4) := fun o1 o2 o3 o4 => (((below1 _ _).alloc (by simp) _).alloc (by simp; omega) _).alloc (by simp; omega) _
  generalize hW3 : (((w.alloc (Obj.cells #[Value.slice pw n cw, v1, v2, mv] 84)).alloc (Obj.cells (arrOf M) 116)).alloc (Obj.cells #[Value.int IntKind.i64 0, Value.int IntKind.i64 0, Value.int IntKind.i64 0, Value.int IntKind.i64 0, Value.int IntKind.i64 0, Value.int IntKind.i64 0, Value.int IntKind.i64 0, Value.int IntKind.i64 0, Value.int IntKind.i64 0, Value.int IntKind.i64 0, Value.int IntKind.i64 0, Value.int IntKind.i64 0, Value.int IntKind.i64 0] 116)).alloc (Obj.cells #[Value.slice pw n cw, v1, v2, mv] 84) = W3
  have hA3 : LwC n cw pw v1 v2 mv w W3 M W3.heap.size [] := by
    have hb3 : Below w.heap.size w W3 := by rw [← hW3]; exact hB4 _ _ _ _
    refine ⟨?_, ?_, ?_, hb3, trivial, ⟨?_, Nat.le_refl _⟩, HSM.out⟩
    · rw [← hW3, Below.heap_alloc _ _ _ (by first | (simp; done) | (simp; omega)), Below.heap_alloc _ _ _ (by first | (simp; done) | (simp; omega)), Below.heap_alloc _ _ _ (by simp)]; exact heap_last _ _
    · rw [← hW3, Below.heap_alloc _ _ _ (by first | (simp; done) | (simp; omega)), Below.heap_alloc _ _ _ (by simp)]
      have := heap_last (w.alloc (Obj.cells #[Value.slice pw n cw, v1, v2, mv] 84)) (Obj.cells (arrOf M) 116)
      rwa [World.size_alloc] at this
    · rw [← hW3, Below.heap_alloc _ _ _ (by simp)]
      have := heap_last ((w.alloc (Obj.cells #[Value.slice pw n cw, v1, v2, mv] 84)).alloc (Obj.cells (arrOf M) 116)) (Obj.cells (arrOf (List.replicate 13 0)) 116)
      rwa [World.size_alloc, World.size_alloc] at this
    · rw [← hW3]; simp
  clear hW3 hB4
  gi_wp2_with fail
  refine wpIn_loop (fun a' w' => ∃ (k : Nat) (ds : List Deferred) (u5 u6 u10 u11 u12 u13 u14 u15 u16 u17 u18 u19 u20 u21 u22 u23 u24 u25 u26 u27 : Value), k ≤ n ∧ a' = { tmps := #[.agg #[.slice pw n cw, v1, v2, mv], .agg (arrOf M), .pointer (some ⟨w.heap.size, 0, none⟩), .pointer (some ⟨w.heap.size + 1, 0, none⟩), .pointer (some ⟨w.heap.size + 1 + 1, 0, none⟩), u5, u6, .agg #[.slice pw n cw, v1, v2, mv], .int .i64 n, .int .i64 k, u10, u11, u12, u13, u14, u15, u16, u17, u18, u19, u20, u21, u22, u23, u24, u25, u26, u27], defers := ds } ∧ LwC n cw pw v1 v2 mv w w' ((List.range k).foldl (lowRow may n) M) w'.heap.size ds) (fun a' _ => n - (intOf (a'.tmps.getD 9 undef)).toNat) ⟨0, [], _, _, _, _, _, _, _, _, _, _, _, _, _, _, _, _, _, _, _, _, Nat.zero_le _, rfl, hA3⟩ ?_
  clear hA3
  rintro a' wr ⟨k, ds, u5, u6, u10, u11, u12, u13, u14, u15, u16, u17, u18, u19, u20, u21, u22, u23, u24, u25, u26, u27, hk, rfl, hA⟩
  have HA := Lib.hid hA
  have hsz0 := hA.sz.1
  have f0 := blk_cells hA.wk 0 _ rfl
  have f1 := blk_cells hA.wk 1 _ rfl
  have f2 := blk_cells hA.wk 2 _ rfl
  have f3 := blk_cells hA.wk 3 _ rfl
  clear hA
  generalize hMk : (List.range k).foldl (lowRow may n) M = Mk at HA
  have HMK := Lib.hid hMk
  clear hMk
  by_cases hlt : k < n
  · have hlt' : (k : Int) < n := by omega
    have hs0 : w.heap.size < wr.heap.size := by omega
    gi_wp2_with fail
    refine ⟨trivial, (fun h => by cases h), ?_⟩
    refine (callsIn_wide.2 (breaths_any _ _ _ _ _ _)).mono ?_
    rintro e W4 ⟨rfl, hW4⟩
    have hB4 : Below wr.heap.size wr W4 := by rw [← hW4]; exact (((below1 _ _).alloc (by simp) _).alloc (by simp; omega) _)
    have hs4 : W4.heap.size = wr.heap.size + 3 := by rw [← hW4]; simp
    have k0 : W4.cell? ⟨wr.heap.size, 0, none⟩ = some (.int .i64 k) := by rw [← hW4]; clear hW4; go_simp
    have hC4 : BrCap W4 n cw pw v1 v2 mv k (wr.heap.size + 1 + 1) (wr.heap.size + 1) := by
      refine ⟨?_, ?_⟩
      · rw [← hW4]
        have := heap_last ((wr.alloc (Obj.cells #[Value.int IntKind.i64 k] 3)).alloc (Obj.cells #[Value.slice pw n cw, v1, v2, mv] 84)) (Obj.cells #[Value.int IntKind.i64 k] 3)
        rwa [World.size_alloc, World.size_alloc] at this
      · rw [← hW4, Below.heap_alloc _ _ _ (by simp)]
        have := heap_last (wr.alloc (Obj.cells #[Value.int IntKind.i64 k] 3)) (Obj.cells #[Value.slice pw n cw, v1, v2, mv] 84)
        rwa [World.size_alloc] at this
    have hM4 : MayAt mv may n (fun j => j ≠ w.heap.size + 1 ∧ j < W4.heap.size) W4 :=
      (HMAY.out.hold (.of_below (HA.out.bel.trans (hB4.mono (by omega))) (fun _ h _ => h))).mono (fun j hj _ => ⟨by omega, by omega⟩)
    have hA4 := HA.out.below (C := wr.heap.size) hsz0 (Nat.le_refl _) hB4
    clear hW4 f0 f1 f2 f3
    gi_wp2_with fail
    refine range_of (gf := 143) (lb := #[.pointer (some ⟨wr.heap.size + 1 + 1, 0, none⟩), .pointer (some ⟨wr.heap.size + 1, 0, none⟩)]) rfl (enters_of Tryz.func143 (by kernel_rfl) rfl)
      (breaths_seq (m - 1) (fun j => j ≠ w.heap.size + 1) may n cw hn pw v1 v2 mv k _ _ hk W4 ⟨by omega, by omega⟩ hC4 hM4) (Below.refl _ _) (fun x vs W h => by rw [h]; rfl)
      (fun pre W' => LwC n cw pw v1 v2 mv w W' (pre.foldl (fun m b => low1 m k b) Mk) W4.heap.size ds ∧ W'.cell? ⟨wr.heap.size, 0, none⟩ = some (.int .i64 k) ∧ W4.heap.size ≤ W'.heap.size)
      (fun _ _ _ => False) ?lwI ?lwX ⟨⟨hA4.wk, hA4.mks, hA4.res, hA4.bel, hA4.ends.mono (by omega), ⟨by omega, Nat.le_refl _⟩, hA4.small⟩, k0, Nat.le_refl _⟩ ?round ?done ?stop
    case lwI =>
      rintro s' X Y ⟨i1, i2, i3⟩ hb
      exact ⟨i1.below (by omega) (Nat.le_refl _) hb, (hb.cell (p := ⟨wr.heap.size, 0, none⟩) (show wr.heap.size < W4.heap.size by omega)).trans i2, Nat.le_trans i3 hb.size⟩
    case lwX => rintro c s' X Y h; exact h.elim
    case stop => rintro D c pre W' hD h; exact h.elim
    case done =>
      rintro D W' hD ⟨i1, i2, i3⟩ hK
      have hDl := (Array.getElem?_eq_some_iff.1 hK).1
      have hnext : (List.range (k + 1)).foldl (lowRow may n) M = (brs may n k).foldl (fun m b => low1 m k b) Mk := by
        rw [List.range_succ, List.foldl_append, HMK.out]; rfl
      gi_wp2
      refine ⟨⟨k + 1, _, _, _, _, _, _, _, _, _, _, _, _, _, _, _, _, _, _, _, _, _, by omega, rfl, by rw [hnext]; exact ⟨i1.wk, i1.mks, i1.res, i1.bel, ⟨D, rfl, by omega, hDl, hK, i1.ends.mono (Nat.le_of_eq hD.symm)⟩, ⟨i1.sz.1, Nat.le_refl _⟩, i1.small⟩⟩, ?_⟩
      simp [intOf]
      omega
    case round =>
      rintro lq pre b post vs W5 hl1 hl2 - hL rfl ⟨i1, i2, i3⟩
      have hb : k < b ∧ b ≤ n := by
        have : b ∈ brs may n k := by rw [hL]; simp
        unfold brs at this
        have := (List.mem_filter.1 this).1
        rw [List.mem_range'_1] at this; omega
      obtain ⟨hb1, hb2⟩ := hb
      clear i1 i2 i3 hA4 hC4 hM4
      gi_wp2
      refine ⟨Below.refl _ _, ?_⟩
      rintro Wb hg hsz ⟨j1, j2, j3⟩
      have hcb := blk_cells j1.mks b _ (arrOf_get (by rw [j1.small.1]; omega))
      have hca := blk_cells j1.mks k _ (arrOf_get (by rw [j1.small.1]; omega))
      have hba := j1.small.2 k (by omega)
      have hbb := j1.small.2 b (by omega)
      have HL1 := Lib.hid (show low1 (pre.foldl (fun m b => low1 m k b) Mk) k b = (pre.foldl (fun m b => low1 m k b) Mk).set b (min ((pre.foldl (fun m b => low1 m k b) Mk).getD b 0) ((pre.foldl (fun m b => low1 m k b) Mk).getD k 0 + 1)) from rfl)
      generalize (pre.foldl (fun m b => low1 m k b) Mk).getD k 0 = ma at hca hba HL1
      generalize (pre.foldl (fun m b => low1 m k b) Mk).getD b 0 = mb at hcb hbb HL1
      have hsum : IntKind.i64.wrap (ma + 1) = ma + 1 := IntWalk.i64_in _ (by omega)
      have hmin : (if ma + 1 < mb then ma + 1 else mb) = min mb (ma + 1) := by rw [Int.min_def]; split <;> split <;> omega
      have hb13 : b < 13 := by omega
      have hk13 : k < 13 := by omega
      have hb13' : (b : Int) < 13 := by omega
      have hk13' : (k : Int) < 13 := by omega
      obtain ⟨Mb, hMb⟩ : ∃ Mb, Mb = w.heap.size + 1 := ⟨_, rfl⟩
      have J1 := Lib.hid j1
      have HMb := Lib.hid hMb
      have hca0 := j2
      have hfz : Wb.frozen? ⟨Mb, b, none⟩ = false := by simp [World.frozen?, hMb, j1.mks]
      rw [← hMb] at hcb hca
      clear j1 hg
      gi_wp2_with fail
      rw [← hMb]
      clear hMb
      refine Rg.region_genI lq (by kernel_rfl) Rg.qt 10 [[], [], [1], [1, 2], [], [4], [4, 5], [4, 5, 6], [1, 2, 3, 4, 5, 6, 7], [0, 1, 2, 3, 4, 5, 6, 7, 8]] [some 16, some 17, some 18, some 19, some 20, some 21, some 22, some 23, some 24, some 25] (spLw Mb k b ma mb) (by kernel_rfl) (by kernel_rfl) rfl (spLw_stable _ _ _ _ _) ?_ ?_
      · refine ⟨fun V w' hG hs => ?_, fun V w' hG hs => ?_, fun V w' hG hs => ?_, fun V w' hG hs => ?_, fun V w' hG hs => ?_, fun V w' hG hs => ?_, fun V w' hG hs => ?_, fun V w' hG hs => ?_, fun V w' hG hs => ?_, fun V w' hG hs => ?_, trivial⟩
        all_goals
          obtain ⟨nq, rfl⟩ := hG
        · rw [if_pos (by rfl)]
          exact Rg.GrowL.value (v := .int .i64 b) (w' := Wb.drewN nq) (by simp [go_sem, Rs.look]) (Rg.qt.refl _) rfl
        · rw [if_pos (by rfl)]
          exact Rg.GrowL.value (v := .int .i64 b) (w' := Wb.drewN nq) (by simp [go_sem, Rs.look]) (Rg.qt.refl _) rfl
        · have e1 : V 1 = .int .i64 b := hs 1 (by simp)
          rw [if_pos (by rfl)]
          exact Rg.GrowL.value (v := .pointer (some ⟨Mb, b, none⟩)) (w' := Wb.drewN nq) (by simp [go_sem, Rs.look, e1, hb13']) (Rg.qt.refl _) rfl
        · have e1 : V 1 = .int .i64 b := hs 1 (by simp)
          have e2 : V 2 = .pointer (some ⟨Mb, b, none⟩) := hs 2 (by simp)
          rw [if_pos (by rfl)]
          exact Rg.GrowL.value (v := .int .i64 mb) (w' := Wb.drewN nq) (by simp [go_sem, Rs.look, e1, e2, hcb]) (Rg.qt.refl _) rfl
        · rw [if_pos (by rfl)]
          exact Rg.GrowL.value (v := .int .i64 k) (w' := Wb.drewN nq) (by simp [go_sem, Rs.look, hca0]) (Rg.qt.refl _) rfl
        · have e4 : V 4 = .int .i64 k := hs 4 (by simp)
          rw [if_pos (by rfl)]
          exact Rg.GrowL.value (v := .pointer (some ⟨Mb, k, none⟩)) (w' := Wb.drewN nq) (by simp [go_sem, Rs.look, e4, hk13']) (Rg.qt.refl _) rfl
        · have e4 : V 4 = .int .i64 k := hs 4 (by simp)
          have e5 : V 5 = .pointer (some ⟨Mb, k, none⟩) := hs 5 (by simp)
          rw [if_pos (by rfl)]
          exact Rg.GrowL.value (v := .int .i64 ma) (w' := Wb.drewN nq) (by simp [go_sem, Rs.look, e4, e5, hca]) (Rg.qt.refl _) rfl
        · have e4 : V 4 = .int .i64 k := hs 4 (by simp)
          have e5 : V 5 = .pointer (some ⟨Mb, k, none⟩) := hs 5 (by simp)
          have e6 : V 6 = .int .i64 ma := hs 6 (by simp)
          rw [if_pos (by rfl)]
          exact Rg.GrowL.value (v := .int .i64 (ma + 1)) (w' := Wb.drewN nq) (by simp [go_sem, Rs.look, e4, e5, e6, hsum]) (Rg.qt.refl _) rfl
        · have e1 : V 1 = .int .i64 b := hs 1 (by simp)
          have e2 : V 2 = .pointer (some ⟨Mb, b, none⟩) := hs 2 (by simp)
          have e3 : V 3 = .int .i64 mb := hs 3 (by simp)
          have e4 : V 4 = .int .i64 k := hs 4 (by simp)
          have e5 : V 5 = .pointer (some ⟨Mb, k, none⟩) := hs 5 (by simp)
          have e6 : V 6 = .int .i64 ma := hs 6 (by simp)
          have e7 : V 7 = .int .i64 (ma + 1) := hs 7 (by simp)
          rw [if_pos (by rfl)]
          exact Rg.GrowL.value (v := .int .i64 (min mb (ma + 1))) (w' := Wb.drewN nq) (by simp [go_sem, Rs.look, e1, e2, e3, e4, e5, e6, e7, hmin]) (Rg.qt.refl _) rfl
        · have e0 : V 0 = .int .i64 b := hs 0 (by simp)
          have e1 : V 1 = .int .i64 b := hs 1 (by simp)
          have e2 : V 2 = .pointer (some ⟨Mb, b, none⟩) := hs 2 (by simp)
          have e3 : V 3 = .int .i64 mb := hs 3 (by simp)
          have e4 : V 4 = .int .i64 k := hs 4 (by simp)
          have e5 : V 5 = .pointer (some ⟨Mb, k, none⟩) := hs 5 (by simp)
          have e6 : V 6 = .int .i64 ma := hs 6 (by simp)
          have e7 : V 7 = .int .i64 (ma + 1) := hs 7 (by simp)
          have e8 : V 8 = .int .i64 (min mb (ma + 1)) := hs 8 (by simp)
          rw [if_pos (by rfl)]
          exact Rg.GrowL.value (v := .pointer (some ⟨Mb, b, none⟩)) (w' := Wb.drewN nq) (by simp [go_sem, Rs.look, e0, e1, e2, e3, e4, e5, e6, e7, e8, hb13']) (Rg.qt.refl _) rfl
      · intro V w' hG hs
        have e0 : V 0 = .int .i64 b := hs 0 (by omega)
        have e1 : V 1 = .int .i64 b := hs 1 (by omega)
        have e2 : V 2 = .pointer (some ⟨Mb, b, none⟩) := hs 2 (by omega)
        have e3 : V 3 = .int .i64 mb := hs 3 (by omega)
        have e4 : V 4 = .int .i64 k := hs 4 (by omega)
        have e5 : V 5 = .pointer (some ⟨Mb, k, none⟩) := hs 5 (by omega)
        have e6 : V 6 = .int .i64 ma := hs 6 (by omega)
        have e7 : V 7 = .int .i64 (ma + 1) := hs 7 (by omega)
        have e8 : V 8 = .int .i64 (min mb (ma + 1)) := hs 8 (by omega)
        have e9 : V 9 = .pointer (some ⟨Mb, b, none⟩) := hs 9 (by omega)
        simp only [Rs.canon, Rs.dstOf, List.range_succ, List.range_zero, List.nil_append, List.cons_append, List.foldl_cons, List.foldl_nil, List.drop_succ_cons, List.drop_zero, List.drop_nil, List.getElem?_toArray, List.getElem?_cons_succ, List.getElem?_cons_zero, Option.bind_some, Act.put, List.getD_cons_succ, List.getD_cons_zero, List.setIfInBounds_toArray, List.set_cons_succ, List.set_cons_zero]
        rw [e0, e1, e2, e3, e4, e5, e6, e7, e8, e9]
        clear e0 e1 e2 e3 e4 e5 e6 e7 e8 e9 hs
        clear hca hca0 hsum hmin
        obtain ⟨nq, rfl⟩ := hG
        gi_wp2
        have hz := J1.out.sz.1
        have hH : Hold (fun j => j ≠ Mb) Wb ((Wb.drewN nq).setCell ⟨Mb, b, none⟩ (.int .i64 (min mb (ma + 1)))) :=
          Hold.trans (.below (below_drewN' (Below.refl _ _) nq)) (Hold.setCell _ _ _ (fun h => h rfl))
        have hblk := heap_set_same (w := Wb.drewN nq) (g := Mb) (o := b) (.int .i64 (min mb (ma + 1))) (cs := arrOf (pre.foldl (fun m b => low1 m k b) Mk)) (t := 116) (by rw [HMb.out]; exact J1.out.mks)
        have hnew : (pre ++ [b]).foldl (fun m b => low1 m k b) Mk = (pre.foldl (fun m b => low1 m k b) Mk).set b (min mb (ma + 1)) := by rw [List.foldl_append]; exact HL1.out
        have hsm : Small ((pre ++ [b]).foldl (fun m b => low1 m k b) Mk) := by rw [List.foldl_append]; exact J1.out.small.low1 k b hk13
        have hMb := HMb.out
        refine ⟨hH.mono (fun j hj _ => by rcases hj with h | h <;> omega), ⟨(hH.same _ (by omega) (by omega)).trans J1.out.wk, by rw [hnew, ← hMb, hblk, arrOf_set], (hH.same _ (by omega) (by omega)).trans J1.out.res, ?_, J1.out.ends.keep (fun j h1 h2 => hH.same j (by omega) (by omega)), ⟨by have := hH.size; omega, by have := hH.size; omega⟩, hsm⟩,
          (hH.cell (p := ⟨wr.heap.size, 0, none⟩) (show wr.heap.size ≠ Mb by omega) (show wr.heap.size < Wb.heap.size by omega)).trans j2, by have := hH.size; omega⟩
        exact (below_drewN' J1.out.bel nq).setCell (p := ⟨Mb, b, none⟩) (show w.heap.size ≤ Mb by omega) _
  · obtain rfl : k = n := by omega
    have hAsz : (arrOf Mk).size = 13 := by rw [arrOf_size]; exact HA.out.small.1
    have hi := size_marks hAsz
    have hone := arrOf_one Mk
    have hthere : wr.there (w.heap.size + 1 + 1) 0 (arrOf Mk).size := fun j hj => by
      have hr := HA.out.res
      rw [Nat.zero_add, blk_cells hr j _ (arrOf_get (by simp; omega))]
      exact ⟨by simp, by simp [World.frozen?, hr]⟩
    have HROW := Lib.hid HA.out.mks
    have HI := Lib.hid hi
    have HTH := Lib.hid hthere
    have HON := Lib.hid hone
    have HSZ := Lib.hid hAsz
    clear hi hthere hone hAsz f0 f1 f2 f3
    generalize hBA : arrOf Mk = BA at HROW HI HTH HON HSZ
    have HBA := Lib.hid hBA
    clear hBA
    refine wpIn_wide.2 ?_
    go_wp2
    refine wpIn_wide.2 ?_
    go_wp2_with (first | (with_reducible refine wpList_load_row rfl 116 _ rfl (w.heap.size + 1) rfl 116 BA (0, 0) _ HROW.out und_marks rfl HI.out ?_) | (with_reducible refine wpList_store_mid rfl 116 _ _ rfl (w.heap.size + 1 + 1) 0 BA rfl rfl HTH.out HI.out HON.out ?_))
    have hz := HA.out.sz.1
    have hH : Hold (fun j => j ≠ w.heap.size + 1 + 1) wr (wr.setCells (w.heap.size + 1 + 1) 0 BA.toList) := hold_setCells _ _ _ _
    have hres2 : (wr.setCells (w.heap.size + 1 + 1) 0 BA.toList).heap[w.heap.size + 1 + 1]? = some (.cells BA 116 (0, 0)) := by
      rw [heap_setCells _ _ _ _ _ _ _ HA.out.res, setFrom_all _ _ (by rw [Array.length_toList, HSZ.out]; simp [arrOf_size])]
    refine leaves_ends (B := w.heap.size + 1 + 1 + 1) (by simp) _ wr.heap.size _ (HA.out.ends.keep (fun j h1 h2 => hH.same j (by omega) h2)) hH.size (fun w' hh => ?_)
    have hres := (hh.same _ (show w.heap.size + 1 + 1 < w.heap.size + 1 + 1 + 1 by omega) (by have := hH.size; omega)).trans hres2
    refine ⟨.agg BA, results_cell_row rfl _ _ (w.heap.size + 1 + 1) 116 BA (0, 0) _ rfl hres und_marks rfl HI.out, ?_⟩
    exact ⟨by rw [← HBA.out, ← HMK.out]; rfl, (below_setCells' (by omega) _ _ _ HA.out.bel).trans ((hh.to_below (by have := hH.size; omega)).mono (by omega))⟩
end Go.Proofs.YtadnggecnjdhiaaGreat
