/- Contracts and mathematics that the last laws of layer 1 share. -/
import Derived.Test.YtimedmkpenbmkaaFy
import Derived.Test.YtimedmkpenbmkaaT9
import Derived.Test.YtimedmkpenbmkaaLd
import Derived.Test.YtimedmkpenbmkaaPh
import Derived.Test.YtimedmkpenbmkaaRows
import Derived.ProofKit
import Derived.OpenShut
import Derived.ShutString
import Derived.ChangeOld
import Derived.Below
import Derived.Lib.SmallJoins
namespace Go.Proofs.Ytimedmkpenbmkaa
open Go.RowKit Go.Shelf
set_option linter.unusedSimpArgs false
set_option linter.unusedVariables false

/-! append, and whether it goes on in the same row -/
theorem append_which (w : World) (base : Nat) (tv : Value) (n : Nat) (xs : List Value) (x : Value) (hx1 : x.oneCell' = true) (hown : w.ownsRow base 3 1 tv n xs) (hb : base ≤ w.heap.size) (hn : n ≤ 1000) (a : Addr) (ha : w.cell? (a.add 0) = some x) :
    ∃ v' w', (Builtin.append_ #[31, 31] 31 #[tv, .slice (some a) 1 1]).run Try.prog w = .ok v' w' ∧ w'.ownsRow base 3 1 v' (n + 1) (xs ++ [x]) ∧ w.grownBy w' tv.ownBlock ∧ w'.ownsRow base 3 1 tv n xs ∧ (v'.ownBlock = tv.ownBlock ∨ v'.ownBlock = some w.heap.size) := by
  obtain ⟨i0, hi, hz0, hz1, hz2⟩ := info_parts A_info3
  have hnews : ∀ j u, [x][j]? = some u → w.cell? (a.add j) = some u := fun j u hj => by
    match j, hj with
    | 0, hj => simp at hj; subst hj; exact ha
  obtain ⟨v', w', hr, h2, h3, h4⟩ := run_append_own (P := Try.prog) w base 31 31 3 i0 (.int .i64 0) 1 8 A_und31 hi hz0 hz1 hz2 rfl (by decide) tv n xs hown a 1 1 [x] rfl hnews (by simpa using hx1) (by unfold maxLen; omega) (by omega) hb
  refine ⟨v', w', hr, h2, h3, ?_⟩
  rcases hown.2 with ⟨rfl, rfl⟩ | ⟨g, cap, cur, rfl, hbg, hg, hnc, hcm, hcs, htake⟩
  · have hx : xs = [] := List.eq_nil_of_length_eq_zero (by simpa using hown.1)
    subst hx
    refine ⟨World.ownsRow_nil _ _ _ _, ?_⟩
    have hr2 := run_append_nil (P := Try.prog) w 31 31 3 i0 (.int .i64 0) A_und31 hi hz0 a 1 1 [x] (by rw [hz1]; rfl) hnews (by omega) (by omega) (by rw [hz2]; omega)
    rw [hr2] at hr
    injection hr with hv hw
    right; rw [← hv]; rfl
  · by_cases hroom : n + 1 ≤ cap
    · have hr2 := run_append_room (P := Try.prog) w 31 31 3 i0 A_und31 hi g n cap cur hg a 1 1 [x] (by rw [hz1]; rfl) hnews (by simpa using hx1) hroom (by rw [hcs, hz1]; simp; omega)
      rw [hr2] at hr
      injection hr with hv hw
      subst hv
      refine ⟨?_, .inl rfl⟩
      refine ⟨hown.1, .inr ?_⟩
      rcases h2.2 with ⟨h5, _⟩ | ⟨g', cap', cur', h5, h6, h7, h8, h9, h10, h11⟩
      · cases h5
      · injection h5 with e1 e2 e3
        injection e1 with e1
        injection e1 with e1
        subst e1 e3
        refine ⟨_, _, cur', rfl, hbg, h7, hnc, hcm, h10, ?_⟩
        have h12 : (cur'.toList.take ((n + 1) * 1)).take (n * 1) = xs := by
          rw [h11, List.take_append_of_le_length (by rw [hown.1]; exact Nat.le_refl _), List.take_of_length_le (by rw [hown.1]; exact Nat.le_refl _)]
        rw [List.take_take, Nat.min_eq_left (by omega)] at h12
        exact h12
    · have holds : ∀ j u, xs[j]? = some u → w.cell? ((⟨g, 0, none⟩ : Addr).add j) = some u := hown.cells (g := g) rfl
      have hr2 := run_append_grow (P := Try.prog) w 31 31 3 i0 (.int .i64 0) A_und31 hi hz0 ⟨g, 0, none⟩ n cap xs (by rw [hz1]; exact hown.1) holds a 1 1 [x] (by rw [hz1]; rfl) hnews (by omega) (by omega) (by rw [hz2]; exact growslice_fits (by omega) (by omega))
      rw [hr2] at hr
      injection hr with hv hw
      refine ⟨?_, .inr (by rw [← hv]; rfl)⟩
      rw [← hw]
      exact hown.kept (row := none) ⟨rfl, rfl, rfl, by simp, fun k hk _ => heap_alloc_old w.drew _ k hk⟩ (by right; simp [Value.ownBlock])

/-! apart: the function that calls itself -/
def takeF (LB BB TB : Nat) : Value := .func (.func 145) #[] #[.pointer (some ⟨LB, 0, none⟩), .pointer (some ⟨BB, 0, none⟩), .pointer (some ⟨TB, 0, none⟩)]
/-- a row of ints that is owned -/
def OwnN (W : World) (base : Nat) (v : Value) (l : List Nat) : Prop := W.ownsRow base 3 1 v l.length (l.map fun (x : Nat) => Value.int .i64 x)
structure ApI (W : World) (LB BB TB : Nat) (ob : Option Addr) (cap : Nat) (l : List (Nat × List Bool)) (bv : Value) : Prop where
  lb : W.heap[LB]? = some (.cells #[.slice ob l.length cap] 132 (0, 0))
  bb : W.heap[BB]? = some (.cells #[bv] 31 (0, 0))
  tb : W.heap[TB]? = some (.cells #[takeF LB BB TB] 179 (0, 0))
  li : LiIn W ob l
/-- all but one box and one row is as it was -/
structure ApF (BB : Nat) (row : Option Nat) (W W' : World) : Prop where
  os : W'.os = W.os
  tape : W'.tape = W.tape
  output : W'.output = W.output
  size : W.heap.size ≤ W'.heap.size
  block : ∀ k, k < W.heap.size → k ≠ BB → some k ≠ row → W'.heap[k]? = W.heap[k]?
theorem ApF.refl (BB : Nat) (row : Option Nat) (W : World) : ApF BB row W W := ⟨rfl, rfl, rfl, Nat.le_refl _, fun _ _ _ _ => rfl⟩
theorem ApF.of_below {BB : Nat} {row : Option Nat} {W W' : World} (h : Below W.heap.size W W') : ApF BB row W W' := ⟨h.os, h.tape, h.output, h.size, fun k hk _ _ => h.block k hk⟩
theorem ApF.of_grown {BB : Nat} {row : Option Nat} {W W' : World} (h : W.grownBy W' row) : ApF BB row W W' := ⟨h.os, h.tape, h.output, h.size, fun k hk _ hr => h.block k hk hr⟩
theorem ApF.trans {BB : Nat} {row : Option Nat} {W W1 W2 : World} (h : ApF BB row W W1) (k : ApF BB row W1 W2) : ApF BB row W W2 :=
  ⟨k.os.trans h.os, k.tape.trans h.tape, k.output.trans h.output, Nat.le_trans h.size k.size, fun i hi h1 h2 => (k.block i (Nat.lt_of_lt_of_le hi h.size) h1 h2).trans (h.block i hi h1 h2)⟩
/-- a row that is new counts for nothing -/
theorem ApF.fresh {BB g : Nat} {row : Option Nat} {W W' : World} (h : ApF BB (some g) W W') (hg : W.heap.size ≤ g) : ApF BB row W W' :=
  ⟨h.os, h.tape, h.output, h.size, fun k hk h1 _ => h.block k hk h1 (by intro e; injection e; omega)⟩
theorem OwnN.kept {W W' : World} {base BB : Nat} {row : Option Nat} {v : Value} {l : List Nat} (h : OwnN W base v l) (hF : ApF BB row W W') (hB : BB < base) (hne : v.ownBlock = none ∨ v.ownBlock ≠ row) : OwnN W' base v l := by
  refine ⟨h.1, ?_⟩
  rcases h.2 with hn | ⟨g, cap, cur, rfl, hb, hgg, rest⟩
  · exact .inl hn
  · refine .inr ⟨g, cap, cur, rfl, hb, ?_, rest⟩
    rw [hF.block g (Array.getElem?_eq_some_iff.1 hgg).1 (by omega) (by simpa [Value.ownBlock] using hne)]
    exact hgg
theorem LiIn.apf {W W' : World} {BB base : Nat} {row : Option Nat} {ob : Option Addr} {l : List (Nat × List Bool)} (h : LiIn W ob l) (hF : ApF BB row W W') (hB : ∀ g, ob = some ⟨g, 0, none⟩ → l ≠ [] → g < base ∧ g ≠ BB) (hr : ∀ k, row = some k → base ≤ k) : LiIn W' ob l := fun k c hc => by
  obtain ⟨g, h1, h2, h3⟩ := h k c hc
  obtain ⟨b1, b2⟩ := hB g h1 (by intro e; rw [e] at hc; simp at hc)
  have hb := hF.block g h2 b2 (by intro e; have := hr g e.symm; omega)
  exact ⟨g, h1, Nat.lt_of_lt_of_le h2 hF.size, fun j u hu => (World.cell?_of_block (a := ⟨g, k * 31 + j, none⟩) hb).trans (h3 j u hu)⟩
structure ApB (LB BB TB base : Nat) (ob : Option Addr) (l : List (Nat × List Bool)) : Prop where
  lb : LB < base
  bb : BB < base
  tb : TB < base
  n1 : LB ≠ BB
  n2 : TB ≠ BB
  ob : ∀ g, ob = some ⟨g, 0, none⟩ → l ≠ [] → g < base ∧ g ≠ BB
theorem ApI.apf {W W' : World} {LB BB TB base : Nat} {ob : Option Addr} {cap : Nat} {l : List (Nat × List Bool)} {bv bv' : Value} {row : Option Nat} (h : ApI W LB BB TB ob cap l bv) (hb : ApB LB BB TB base ob l) (hF : ApF BB row W W') (hr : ∀ k, row = some k → base ≤ k) (hbb : W'.heap[BB]? = some (.cells #[bv'] 31 (0, 0))) : ApI W' LB BB TB ob cap l bv' :=
  ⟨(hF.block LB (Array.getElem?_eq_some_iff.1 h.lb).1 hb.n1 (by intro e; have := hr _ e.symm; have := hb.lb; omega)).trans h.lb, hbb, (hF.block TB (Array.getElem?_eq_some_iff.1 h.tb).1 hb.n2 (by intro e; have := hr _ e.symm; have := hb.tb; omega)).trans h.tb, h.li.apf hF hb.ob hr⟩
/-- what a call of take is good for -/
structure ApPost (LB BB TB base : Nat) (ob : Option Addr) (cap : Nat) (l : List (Nat × List Bool)) (tv : Value) (taken : List Nat) (bv : Value) (res : List Nat) (W w' : World) : Prop where
  ex : ∃ bv', ApI w' LB BB TB ob cap l bv' ∧ OwnN w' base bv' res ∧ (bv' = bv ∨ ∃ g, bv'.ownBlock = some g ∧ W.heap.size ≤ g)
  tk : OwnN w' base tv taken
  fr : ApF BB tv.ownBlock W w'
def TakeCall (LB BB TB base : Nat) (ob : Option Addr) (cap : Nat) (l : List (Nat × List Bool)) (i : Nat) : Prop :=
  ∀ (W : World) (tv : Value) (taken : List Nat) (heard : List Bool) (bv : Value) (best : List Nat), ApI W LB BB TB ob cap l bv → base ≤ W.heap.size → OwnN W base tv taken → OwnN W base bv best → (bv.ownBlock = none ∨ bv.ownBlock ≠ tv.ownBlock) → heard.length = 30 → taken.length ≤ i → best.length ≤ 30 →
    Calls Try.prog 145 #[.int .i64 i, tv, .agg (heard.map Value.bool).toArray, .pointer (some ⟨LB, 0, none⟩), .pointer (some ⟨BB, 0, none⟩), .pointer (some ⟨TB, 0, none⟩)] W fun e w' =>
      (∃ r, e = .returned r) ∧ ApPost LB BB TB base ob cap l tv taken bv (takeP (l.drop i) taken heard best) W w'

theorem ApF.join {BB : Nat} {row row' : Option Nat} {W W7 w6 : World} (h : ApF BB row W W7) (k : ApF BB row' W7 w6) (hr : row' = row ∨ ∃ g, row' = some g ∧ W.heap.size ≤ g) : ApF BB row W w6 :=
  ⟨k.os.trans h.os, k.tape.trans h.tape, k.output.trans h.output, Nat.le_trans h.size k.size, fun i hi h1 h2 => by
    refine (k.block i (Nat.lt_of_lt_of_le hi h.size) h1 ?_).trans (h.block i hi h1 h2)
    rcases hr with rfl | ⟨g, rfl, hg⟩
    · exact h2
    · intro e; injection e; omega⟩
theorem below_grownBy {a b : World} {row : Option Nat} (h : Below a.heap.size a b) : a.grownBy b row := ⟨h.os, h.tape, h.output, h.size, fun k hk _ => h.block k hk⟩
theorem own_below' {W W' : World} {base : Nat} {v : Value} {n : Nat} {xs : List Value} (h : W.ownsRow base 3 1 v n xs) (hB : Below W.heap.size W W') : W'.ownsRow base 3 1 v n xs :=
  h.kept (row := none) (below_grownBy hB) (by cases hv : v.ownBlock <;> simp)
theorem OwnN.below {W W' : World} {base : Nat} {v : Value} {l : List Nat} (h : OwnN W base v l) (hB : Below W.heap.size W W') : OwnN W' base v l := own_below' h hB
/-- one row grows, and what it held it holds -/
def GT7 (base : Nat) (tv : Value) (taken : List Nat) (a b : World) : Prop := a.grownBy b tv.ownBlock ∧ (OwnN a base tv taken → OwnN b base tv taken)
def gT7 (base : Nat) (tv : Value) (taken : List Nat) (i : Nat) (a b : World) : Prop := if i = 7 then GT7 base tv taken a b else Below a.heap.size a b
theorem grown_isGr (base : Nat) (tv : Value) (taken : List Nat) : Rg.IsGr (GT7 base tv taken) where
  refl w := ⟨⟨rfl, rfl, rfl, Nat.le_refl _, fun _ _ _ => rfl⟩, fun h => h⟩
  drew w := ⟨⟨rfl, rfl, rfl, Nat.le_refl _, fun _ _ _ => rfl⟩, fun h => h⟩
  trans h k := ⟨grown_trans h.1 k.1, fun o => k.2 (h.2 o)⟩
theorem gT7_all (base : Nat) (tv : Value) (taken : List Nat) (i : Nat) (a b : World) (h : gT7 base tv taken i a b) : GT7 base tv taken a b := by
  unfold gT7 at h
  split at h
  · exact h
  · exact ⟨below_grownBy h, fun o => o.below h⟩
theorem gT7_refl (base : Nat) (tv : Value) (taken : List Nat) (i : Nat) (a : World) : gT7 base tv taken i a a := by
  unfold gT7
  split
  · exact (grown_isGr base tv taken).refl a
  · exact Below.refl _ _
theorem gT7_of {base : Nat} {tv : Value} {taken : List Nat} {i : Nat} {a b : World} (hi : i ≠ 7) (h : Below a.heap.size a b) : gT7 base tv taken i a b := by unfold gT7; rw [if_neg hi]; exact h
/-- what the region of the inner call leaves -/
def spT7 (LB BB TB i base B g9 : Nat) (tv both : Value) (taken : List Nat) (x : Nat) : Nat → Bool → List Value → Value → World → Prop
  | 0, _, _, v, _ => v = takeF LB BB TB
  | 1, _, _, v, _ => v = .int .i64 i
  | 2, _, _, v, _ => v = .int .i64 ((i + 1 : Nat) : Int)
  | 3, _, _, v, _ => v = tv
  | 4, _, _, v, _ => v = .pointer (some ⟨g9, 0, none⟩)
  | 5, _, _, v, _ => v = .int .i64 x
  | 6, c, _, v, w => c = false → ∃ g, v = .slice (some ⟨g, 0, none⟩) 1 1 ∧ g < w.heap.size ∧ w.cell? ⟨g, 0, none⟩ = some (.int .i64 x)
  | 7, c, _, v, w => c = true ∧ OwnN w base v (taken ++ [x]) ∧ (v.ownBlock = tv.ownBlock ∨ ∃ g, v.ownBlock = some g ∧ B ≤ g)
  | 8, _, _, v, _ => v = both
  | _, _, _, _, _ => False
theorem spT7_stable (LB BB TB i base B g9 : Nat) (tv both : Value) (taken : List Nat) (x : Nat) : ∀ i' c w w', (i' = 7 → c = false) → gT7 base tv taken i' w w' → ∀ k D v, spT7 LB BB TB i base B g9 tv both taken x k c D v w → spT7 LB BB TB i base B g9 tv both taken x k (c || i' == 7) D v w' := by
  intro i' c w w' hc hg k D v h
  by_cases hi : i' = 7
  · have hcf := hc hi
    subst hcf
    subst hi
    match k with
    | 0 => exact h
    | 1 => exact h
    | 2 => exact h
    | 3 => exact h
    | 4 => exact h
    | 5 => exact h
    | 6 => exact fun e => by cases e
    | 7 => exact absurd h.1 (by simp)
    | 8 => exact h
    | _ + 9 => exact h.elim
  · have e1 : (c || i' == 7) = c := by simp [hi]
    rw [e1]
    have hb : Below w.heap.size w w' := by unfold gT7 at hg; rw [if_neg hi] at hg; exact hg
    match k with
    | 0 => exact h
    | 1 => exact h
    | 2 => exact h
    | 3 => exact h
    | 4 => exact h
    | 5 => exact h
    | 6 => exact fun e => by obtain ⟨g, h1, h2, h3⟩ := h e; exact ⟨g, h1, Nat.lt_of_lt_of_le h2 hb.size, (World.cell?_of_block (hb.block g h2)).trans h3⟩
    | 7 => exact ⟨h.1, h.2.1.below hb, h.2.2⟩
    | 8 => exact h
    | _ + 9 => exact h.elim

/-- what is a part of a longer list in the same row -/
theorem own_prefix {w w8 : World} {base : Nat} {tv v7 : Value} {taken : List Nat} {x : Nat} (h7 : OwnN w base v7 (taken ++ [x])) (ht : OwnN w base tv taken) (hb : v7.ownBlock = tv.ownBlock) (h8 : OwnN w8 base v7 (taken ++ [x])) : OwnN w8 base tv taken := by
  have hl : (taken ++ [x]).length = taken.length + 1 := by simp
  rcases ht.2 with hn | ⟨g, cap, cur, rfl, hbg, hg, hnc, hcm, hcs, _⟩
  · exact ⟨ht.1, .inl hn⟩
  · rcases h7.2 with ⟨h1, h2⟩ | ⟨g2, cap2, cur2, rfl, _, hg2, _, _, hcs2, _⟩
    · rw [hl] at h2; omega
    · rcases h8.2 with ⟨h1, h2⟩ | ⟨g3, cap3, cur3, h3, _, hg3, _, _, hcs3, ht3⟩
      · rw [hl] at h2; omega
      · simp only [Value.ownBlock] at hb
        injection hb with hb
        subst hb
        injection h3 with e1 e2 e3
        injection e1 with e1
        injection e1 with e1
        subst e1 e3
        rw [hg] at hg2
        injection hg2 with hg2
        injection hg2 with e4
        subst e4
        have hcc : cap = cap2 := by omega
        subst hcc
        refine ⟨ht.1, .inr ⟨_, _, cur3, rfl, hbg, hg3, hnc, hcm, hcs3, ?_⟩⟩
        have h12 := congrArg (List.take (taken.length * 1)) ht3
        have h13 : ((taken ++ [x]).map fun (x : Nat) => Value.int .i64 x).take (taken.length * 1) = taken.map fun (x : Nat) => Value.int .i64 x := by
          rw [List.map_append]; exact List.take_left' (by simp)
        rw [h13, List.take_take, Nat.min_eq_left (by rw [hl]; omega)] at h12
        exact h12

set_option maxHeartbeats 4000000 in
set_option maxRecDepth 100000 in
theorem take_step (LB BB TB base : Nat) (ob : Option Addr) (cap : Nat) (l : List (Nat × List Bool)) (hl30 : ∀ y ∈ l, y.2.length = 30) (hlen : l.length ≤ 30) (hb : ApB LB BB TB base ob l) (i : Nat) (hi : i ≤ l.length) (ih : i < l.length → TakeCall LB BB TB base ob cap l (i + 1)) : TakeCall LB BB TB base ob cap l i := by
  intro W tv taken heard bv best hI hbW ht hbo hdis hhl htl hbl
  obtain ⟨ta, tc, rfl⟩ := own_slice ht
  obtain ⟨ba, bc, rfl⟩ := own_slice hbo
  have lLB := (Array.getElem?_eq_some_iff.1 hI.lb).1
  have lBB := (Array.getElem?_eq_some_iff.1 hI.bb).1
  have lTB := (Array.getElem?_eq_some_iff.1 hI.tb).1
  have c1 : ∀ o, (W.alloc o).cell? ⟨LB, 0, none⟩ = some (.slice ob l.length cap) := fun o => by rw [cell_of_row _ _ _ _ _ _ ((Below.heap_alloc _ _ _ lLB).trans hI.lb)]; rfl
  have c2 : ∀ o, (W.alloc o).cell? ⟨BB, 0, none⟩ = some (.slice ba best.length bc) := fun o => by rw [cell_of_row _ _ _ _ _ _ ((Below.heap_alloc _ _ _ lBB).trans hI.bb)]; rfl
  have hd1 : ∀ d, decide (taken.length + (l.length - i) ≤ best.length) = d → decide ((taken.length : Int) + l.length - i ≤ best.length) = d := fun d h => by rw [← h]; congr 1; apply propext; omega
  have HI := Lib.hid hI
  have HT := Lib.hid ht
  have HBO := Lib.hid hbo
  have HDIS := Lib.hid hdis
  have HB := Lib.hid hb
  have HIH := Lib.hid ih
  have HHL := Lib.hid hhl
  have HL30 := Lib.hid hl30
  clear hI ht hbo hdis hb ih hhl hl30
  by_cases h0 : taken.length + (l.length - i) ≤ best.length
  · have hd := hd1 true (by simpa using h0)
    have hres : takeP (l.drop i) taken heard best = best := by
      have hdl : (l.drop i).length = l.length - i := List.length_drop
      match hD : l.drop i with
      | [] => rw [hD] at hdl; unfold takeP; rw [if_pos (by simp at hdl; omega)]
      | x :: r => rw [hD] at hdl; unfold takeP; rw [if_pos (by simp at hdl; omega)]
    rw [hres]
    clear hres hd1
    go_enter Try.func145, Try.ntmps145
    go_wp2_with fail
    refine bodyPost_ret (results_none rfl _ _ _) rfl ?_
    exact ⟨⟨_, rfl⟩, ⟨_, HI.out.apf HB.out (ApF.of_below (row := none) (below1 _ _)) (by simp) ((Below.heap_alloc _ _ _ lBB).trans HI.out.bb), HBO.out.below (below1 _ _), .inl rfl⟩, HT.out.below (below1 _ _), ApF.of_below (below1 _ _)⟩
  · have hd := hd1 false (by simpa using h0)
    clear hd1
    by_cases hil : i = l.length
    · have hres : takeP (l.drop i) taken heard best = taken := by
        rw [hil, List.drop_length]; unfold takeP; rw [if_neg (by omega)]
      rw [hres]
      have htn : taken ≠ [] := by rintro rfl; simp at h0; omega
      have HTN := Lib.hid htn
      clear hres htn
      have hil' : ((i : Int) == (l.length : Int)) = true := by rw [hil]; simp
      obtain ⟨gt, rfl, hgt, hgl, hcells⟩ : ∃ gt, ta = some ⟨gt, 0, none⟩ ∧ base ≤ gt ∧ gt < W.heap.size ∧ ∀ j u, (taken.map fun (x : Nat) => Value.int .i64 x)[j]? = some u → W.cell? ((⟨gt, 0, none⟩ : Addr).add j) = some u := by
        have h2 := HT.out.2
        rcases h2 with ⟨h3, h4⟩ | ⟨g, cp, cur, h3, h4, h5, _⟩
        · exact absurd (List.length_eq_zero_iff.1 h4) HTN.out
        · injection h3 with e1
          exact ⟨g, e1, h4, (Array.getElem?_eq_some_iff.1 h5).1, HT.out.cells (by rw [e1]; rfl)⟩
      obtain ⟨i0, hi, hz0, hz1, hz2⟩ := info_parts A_info3
      have hone : ∀ u ∈ (taken.map fun (x : Nat) => Value.int .i64 x), u.oneCell' = true := fun u hu => by obtain ⟨x, _, rfl⟩ := List.mem_map.1 hu; rfl
      have HCE := Lib.hid hcells
      have HON := Lib.hid hone
      clear hcells hone
      go_enter Try.func145, Try.ntmps145
      go_wp2_with (at_builtin; refine wpList_append_own _ rfl _ _ 31 rfl W.heap.size 3 i0 (.int .i64 0) 1 8 A_und31 hi hz0 hz1 hz2 rfl (by decide) (.slice (some ⟨W.heap.size + 1, 0, none⟩) 0 0) 0 [] rfl ?f0 ⟨gt, 0, none⟩ taken.length tc (taken.map fun (x : Nat) => Value.int .i64 x) rfl ?f6 ?f1 HON.out ?f3 ?f4 ?f5 ?_)
      case f0 =>
        refine ⟨by simp, .inr ⟨W.heap.size + 1, 0, #[], rfl, by omega, ?_, Nat.le_refl _, by unfold maxLen; omega, by simp, by simp⟩⟩
        have := heap_alloc_last (W.alloc (.cells (heard.map Value.bool).toArray 128)) (.cells #[] 3); simpa using this
      case f6 => simp
      case f1 =>
        intro j u hj
        have hab : ((⟨gt, 0, none⟩ : Addr).add j).block = gt := by unfold Addr.add; split <;> rfl
        exact ((World.cell?_of_block (by rw [hab, Below.heap_alloc _ _ _ (by simp; omega), Below.heap_alloc _ _ _ hgl])).trans (HCE.out j u hj))
      case f3 => unfold maxLen; omega
      case f4 => omega
      case f5 => simp; omega
      intro v' w' hown hgrow _
      obtain ⟨va, vc, rfl⟩ := own_slice hown
      have hB1 : Below W.heap.size W ((W.alloc (.cells (heard.map Value.bool).toArray 128)).alloc (.cells #[] 3)) := al (al (Below.refl _ _) _) _
      have hF : Below W.heap.size W w' := ⟨hgrow.os.trans hB1.os, hgrow.tape.trans hB1.tape, hgrow.output.trans hB1.output, Nat.le_trans hB1.size hgrow.size, fun k hk => (hgrow.block k (Nat.lt_of_lt_of_le hk hB1.size) (by show some k ≠ some (W.heap.size + 1); intro e; injection e; omega)).trans (hB1.block k hk)⟩
      have hbb := (hF.block _ lBB).trans HI.out.bb
      have hbc : w'.cell? ⟨BB, 0, none⟩ = some (.slice ba best.length bc) := by rw [cell_of_row _ _ _ _ _ _ hbb]; rfl
      have hbf := frozen_of_row w' BB 0 _ _ hbb
      have hblt : BB < w'.heap.size := Nat.lt_of_lt_of_le lBB hF.size
      have HF := Lib.hid hF
      have HOW := Lib.hid hown
      have HBB := Lib.hid hbb
      clear hF hown hbb hB1 hgrow
      go_wp2_with fail
      refine bodyPost_ret (results_none rfl _ _ _) rfl ?_
      have hS : ApF BB (some gt) w' (w'.setCell ⟨BB, 0, none⟩ (.slice va taken.length vc)) := ⟨rfl, rfl, rfl, by simp, fun k hk h1 _ => Below.heap_setCell _ _ _ _ h1⟩
      have hFS : ApF BB (some gt) W (w'.setCell ⟨BB, 0, none⟩ (.slice va taken.length vc)) := (ApF.of_below HF.out).trans hS
      have hv : ∀ k, (Value.slice va taken.length vc).ownBlock = some k → W.heap.size ≤ k := fun k hk => (HOW.out.lt k hk).1
      refine ⟨⟨_, rfl⟩, ⟨_, HI.out.apf HB.out hFS (fun k hk => by injection hk with hk; rw [← hk]; exact hgt) (heap_set_same _ HBB.out), ?_, ?_⟩, ?_, hFS⟩
      · have := OwnN.kept (l := taken) (own_base HOW.out hbW) hS HB.out.bb (by
          cases hob : (Value.slice va taken.length vc).ownBlock with
          | none => exact .inl rfl
          | some k => right; intro e; injection e with e; have := hv k hob; omega)
        exact this
      · right
        rcases HOW.out.2 with ⟨_, h4⟩ | ⟨g, cp, cur, h3, h4, _⟩
        · exact absurd (List.length_eq_zero_iff.1 h4) HTN.out
        · exact ⟨g, by rw [h3]; rfl, h4⟩
      · have h1 : OwnN w' base (.slice (some ⟨gt, 0, none⟩) taken.length tc) taken := HT.out.kept (ApF.of_below (row := none) HF.out) HB.out.bb (by right; simp [Value.ownBlock])
        refine h1.kept (row := none) ⟨hS.os, hS.tape, hS.output, hS.size, fun k hk hk1 _ => Below.heap_setCell _ _ _ _ hk1⟩ HB.out.bb (by right; simp [Value.ownBlock])
    · have hlt : i < l.length := by omega
      obtain ⟨x, hx⟩ : ∃ x, l[i]? = some x := ⟨_, List.getElem?_eq_getElem hlt⟩
      have hdrop : l.drop i = x :: l.drop (i + 1) := by
        rw [List.drop_eq_getElem_cons hlt]
        rw [List.getElem?_eq_getElem hlt] at hx
        injection hx with hx
        rw [hx]
      have hx30 := HL30.out x (List.mem_of_getElem? hx)
      obtain ⟨gl, rfl, hgl, hrg⟩ := HI.out.li i x hx
      have hres : takeP (l.drop i) taken heard best = takeP (l.drop (i + 1)) taken heard (if clashTo heard x.2 30 then best else takeP (l.drop (i + 1)) (taken ++ [x.1]) (mixTo heard x.2 30) best) := by
        rw [hdrop]
        have hdl : (l.drop (i + 1)).length = l.length - (i + 1) := List.length_drop
        conv => lhs; unfold takeP
        rw [if_neg (by omega)]
      obtain ⟨RES, hRES⟩ : ∃ RES, RES = takeP (l.drop (i + 1)) taken heard (if clashTo heard x.2 30 then best else takeP (l.drop (i + 1)) (taken ++ [x.1]) (mixTo heard x.2 30) best) := ⟨_, rfl⟩
      rw [hres, ← hRES]
      have HRES := Lib.hid hRES
      clear hRES
      have HIH1 := Lib.hid (HIH.out hlt)
      have hil' : ((i : Int) == (l.length : Int)) = false := by simp; omega
      have hli : (i : Int) < l.length := by omega
      obtain ⟨HA, hHA⟩ : ∃ HA, HA = (heard.map Value.bool).toArray := ⟨_, rfl⟩
      obtain ⟨es, hes⟩ : ∃ es, es = x.2.map Value.bool := ⟨_, rfl⟩
      obtain ⟨row, hrow⟩ : ∃ row, row = Value.int .i64 (x.1 : Int) :: es := ⟨_, rfl⟩
      have hrowx : lisRow x = row := by rw [hrow, hes]; rfl
      rw [hrowx] at hrg
      rw [← hHA]
      have hsz : (Try.prog.info? 135).map (·.size) = some row.length := by rw [← hrowx, lisRow_len hx30]; exact size135
      have hesz : (Try.prog.info? 128).map (·.size) = some es.length := by rw [hes, List.length_map, hx30]; exact size128
      have hHsz : (Try.prog.info? 128).map (·.size) = some HA.size := by rw [hHA, List.size_toArray, List.length_map, HHL.out]; exact size128
      have hone : row.toArray.all (·.oneCell') = true := by
        rw [Array.all_eq_true]; intro k hk
        have hm : ∀ v ∈ row, v.oneCell' = true := fun v hv => by
          rw [hrow, hes] at hv
          rcases List.mem_cons.1 hv with e | e
          · rw [e]; rfl
          · obtain ⟨b, _, e⟩ := List.mem_map.1 e; rw [← e]; rfl
        exact hm _ (by simp)
      have hrg1 : (W.alloc (.cells HA 128)).rangeAt gl (i * 31) row := fun j u hu => (World.cell?_of_block (a := ⟨gl, i * 31 + j, none⟩) (Below.heap_alloc _ _ _ hgl)).trans (hrg j u hu)
      have HRG1 := Lib.hid hrg1
      have HSZ := Lib.hid hsz
      have HESZ := Lib.hid hesz
      have HHSZ := Lib.hid hHsz
      have HONE := Lib.hid hone
      have HSZA : Hid ((Try.prog.info? 135).map (·.size) = some row.toArray.size) := Lib.hid (by rw [List.size_toArray]; exact HSZ.out)
      have HROW := Lib.hid hrow
      have HES := Lib.hid hes
      have HHA := Lib.hid hHA
      have HX30 := Lib.hid hx30
      clear hrg hrg1 hsz hesz hHsz hone hrow hes hHA hx30 hdrop hrowx hx hres
      obtain ⟨W2, hW2⟩ : ∃ W2 : World, W2 = (W.alloc (.cells HA 128)).alloc (.cells row.toArray 135) := ⟨_, rfl⟩
      have hB2 : Below W.heap.size W W2 := by rw [hW2]; exact al (al (Below.refl _ _) _) _
      have hs2 : W2.heap.size = W.heap.size + 2 := by rw [hW2]; simp
      have hh0 : W2.heap[W.heap.size]? = some (.cells HA 128 (0, 0)) := by rw [hW2, Below.heap_alloc _ _ _ (by simp)]; exact heap_alloc_last _ _
      have hh1 : W2.heap[W.heap.size + 1]? = some (.cells row.toArray 135 (0, 0)) := by rw [hW2]; have := heap_alloc_last (W.alloc (.cells HA 128)) (.cells row.toArray 135); simpa using this
      have hr1 : W2.rangeAt (W.heap.size + 1) 1 es := fun j u hu => by
        rw [cell_of_row _ _ _ _ _ _ hh1, HROW.out, Nat.add_comm]; simpa using hu
      have HW2 := Lib.hid hW2
      have HB2 := Lib.hid hB2
      have HH0 := Lib.hid hh0
      have HH1 := Lib.hid hh1
      have HR1 := Lib.hid hr1
      have HTO := Lib.hid (together_any heard x.2 HHL.out HX30.out W2)
      rw [← HHA.out, ← HES.out] at HTO
      clear hW2 hB2 hh0 hh1 hr1
      go_enter Try.func145, Try.ntmps145
      go_upto_region 5 with (first
        | (with_reducible refine wpList_load_mid rfl 135 _ rfl gl (i * 31) rfl row _ HRG1.out und135 rfl HSZ.out ?_)
        | (with_reducible refine wpList_store_new2 rfl 135 _ _ rfl (W.heap.size + 1) _ row.toArray rfl ?hb rfl HSZA.out ?hs HONE.out ?_))
      case hb => simp
      case hs => have := HSZA.out; rw [size135] at this; injection this
      rw [← HW2.out]
      clear HW2 HRG1
      go_wp2_with (first
        | (with_reducible refine wpList_load_row rfl 128 _ rfl W.heap.size rfl 128 HA (0, 0) _ HH0.out und128 rfl HHSZ.out ?_)
        | (with_reducible refine wpList_load_mid rfl 128 _ rfl (W.heap.size + 1) 1 rfl es _ HR1.out und128 rfl HESZ.out ?_))
      refine HTO.out.mono ?_
      rintro e w5 ⟨rfl, hB5⟩
      obtain ⟨cl, hcl⟩ : ∃ cl, cl = clashTo heard x.2 30 := ⟨_, rfl⟩
      rw [← hcl]
      obtain ⟨MX, hMX⟩ : ∃ MX, MX = mixTo heard x.2 30 := ⟨_, rfl⟩
      rw [← hMX]
      have hMl : MX.length = 30 := by rw [hMX]; exact mix_len _ _ _
      have HMX := Lib.hid hMX
      have HML := Lib.hid hMl
      have HCL := Lib.hid hcl
      have HB5 := Lib.hid (join HB2.out hB5)
      have hs5 := hB5.size
      have HH0 := Lib.hid ((hB5.block _ (by omega)).trans HH0.out)
      have HH1 := Lib.hid ((hB5.block _ (by omega)).trans HH1.out)
      have HTA := Lib.hid (HT.out.below HB5.out)
      have HBA := Lib.hid (HBO.out.below HB5.out)
      have HIA := Lib.hid (HI.out.apf HB.out (ApF.of_below (row := none) HB5.out) (by simp) ((HB5.out.block _ lBB).trans HI.out.bb))
      clear hcl hMX hMl hB5 HTO HB2 HR1
      obtain ⟨BA, hBA⟩ : ∃ BA, BA = if cl then ((List.replicate 30 false).map Value.bool).toArray else (MX.map Value.bool).toArray := ⟨_, rfl⟩
      have hBsz : (Try.prog.info? 128).map (·.size) = some BA.size := by rw [hBA]; cases cl <;> simp [HML.out, size128]
      have hBon : BA.all (·.oneCell') = true := by rw [hBA]; cases cl <;> exact bools_all _
      have heq : (if cl then .tuple #[.agg ((List.replicate 30 false).map Value.bool).toArray, .bool false] else .tuple #[.agg (MX.map Value.bool).toArray, .bool true] : Value) = .tuple #[.agg BA, .bool (!cl)] := by rw [hBA]; cases cl <;> rfl
      rw [heq]
      have HBSZ := Lib.hid hBsz
      have HBON := Lib.hid hBon
      obtain ⟨W6, hW6⟩ : ∃ W6 : World, W6 = w5.alloc (.cells BA 128) := ⟨_, rfl⟩
      have h56 : Below w5.heap.size w5 W6 := by rw [hW6]; exact below1 _ _
      have hs6 : W6.heap.size = w5.heap.size + 1 := by rw [hW6]; simp
      have HB6 := Lib.hid (join HB5.out h56)
      have H60 := Lib.hid ((h56.block _ (by omega)).trans HH0.out)
      have H61 := Lib.hid ((h56.block _ (by omega)).trans HH1.out)
      have H62 : Hid (W6.heap[w5.heap.size]? = some (.cells BA 128 (0, 0))) := Lib.hid (by rw [hW6]; exact heap_alloc_last _ _)
      have HT6 := Lib.hid (HTA.out.below h56)
      have HBO6 := Lib.hid (HBA.out.below h56)
      have HI6 := Lib.hid (HIA.out.apf HB.out (ApF.of_below (row := none) h56) (by simp) ((h56.block _ (by have := HB5.out.size; omega)).trans HIA.out.bb))
      have c3 : W6.cell? ⟨TB, 0, none⟩ = some (takeF LB BB TB) := by rw [cell_of_row _ _ _ _ _ _ HI6.out.tb]; rfl
      have l6 : TB < W6.heap.size := (Array.getElem?_eq_some_iff.1 HI6.out.tb).1
      have HW6 := Lib.hid hW6
      have HBA2 := Lib.hid hBA
      unfold takeF at c3
      clear hBA heq hBsz hBon h56 HTA HBA HIA hW6 c1 c2
      cases cl with
      | true =>
        go_upto_region 8 with (with_reducible refine wpList_store_new rfl 128 _ _ rfl _ BA rfl rfl HBSZ.out ?hs HBON.out ?_)
        case hs => have := HBSZ.out; rw [size128] at this; injection this
        rw [← HW6.out]
        have hq := HIH1.out W6 _ taken heard _ best HI6.out (by omega) HT6.out HBO6.out HDIS.out HHL.out (by omega) hbl
        rw [← HHA.out] at hq
        have HQ := Lib.hid hq
        clear hq
        go_wp2_with (with_reducible refine wpList_load_row rfl 128 _ rfl W.heap.size rfl 128 HA (0, 0) _ H60.out und128 rfl HHSZ.out ?_)
        refine HQ.out.mono ?_
        rintro e w7 ⟨⟨r, rfl⟩, hP⟩
        have HP := Lib.hid hP
        clear hP HQ
        go_wp2_with fail
        refine bodyPost_end (results_none rfl _ _ _) rfl ?_
        obtain ⟨bv', e1, e2, e3⟩ := HP.out.ex
        have hR : RES = takeP (l.drop (i + 1)) taken heard best := by rw [HRES.out, ← HCL.out]; rfl
        rw [hR]
        refine ⟨⟨_, rfl⟩, ⟨bv', e1, e2, ?_⟩, HP.out.tk, ApF.join (ApF.of_below HB6.out) HP.out.fr (.inl rfl)⟩
        rcases e3 with e3 | ⟨g, e3, e4⟩
        · exact .inl e3
        · exact .inr ⟨g, e3, Nat.le_trans HB6.out.size e4⟩
      | false =>
        go_upto_region 7 with (with_reducible refine wpList_store_new rfl 128 _ _ rfl _ BA rfl rfl HBSZ.out ?hs HBON.out ?_)
        case hs => have := HBSZ.out; rw [size128] at this; injection this
        rw [← HW6.out]
        have hrl : ∀ k, (Value.slice ta taken.length tc).ownBlock = some k → base ≤ k ∧ k < W.heap.size := HT.out.lt
        have hsB := HB6.out.size
        have hs56 := HB5.out.size
        have hk1 : W6.cell? ⟨W.heap.size + 1, 0, none⟩ = some (.int .i64 x.1) := by rw [cell_of_row _ _ _ _ _ _ H61.out, HROW.out]; rfl
        have hwi : IntKind.wrap .i64 ((i : Int) + 1) = ((i + 1 : Nat) : Int) := wrap_nat (n := i + 1) (by omega)
        have hBl : BA.toList.toArray = BA := by simp
        have hBr : W6.rangeAt w5.heap.size 0 BA.toList := fun j u hu => by rw [cell_of_row _ _ _ _ _ _ H62.out, Nat.zero_add]; simpa using hu
        have hBz : (Try.prog.info? 128).map (·.size) = some BA.toList.length := by rw [Array.length_toList]; exact HBSZ.out
        have HRL := Lib.hid hrl
        have HBL := Lib.hid hBl
        have HBR := Lib.hid hBr
        have HBZ := Lib.hid hBz
        have HK1 := Lib.hid hk1
        have HC3 := Lib.hid c3
        clear hrl hBl hBr hBz hk1 c3
        refine Rk.region_gen 7 (gT7 base (.slice ta taken.length tc) taken) (grown_isGr base (.slice ta taken.length tc) taken) (fun i a b h => gT7_all _ _ _ i a b h) (fun i a => gT7_refl _ _ _ i a) 9 [[], [], [1], [], [], [4], [4, 5], [3, 4, 5, 6], []] [some 41, some 42, some 43, some 44, some 45, some 46, some 47, some 48, some 49] (by omega)
          (spT7 LB BB TB i base W6.heap.size (W.heap.size + 1) (.slice ta taken.length tc) (.agg BA) taken x.1) (by kernel_rfl) (by kernel_rfl) rfl (spT7_stable _ _ _ _ _ _ _ _ _ _ _) ?_ ?_
        · refine ⟨fun V w' c hG hc hs => ?_, fun V w' c hG hc hs => ?_, fun V w' c hG hc hs => ?_, fun V w' c hG hc hs => ?_, fun V w' c hG hc hs => ?_, fun V w' c hG hc hs => ?_, fun V w' c hG hc hs => ?_, fun V w' c hG hc hs => ?_, fun V w' c hG hc hs => ?_, trivial⟩
          all_goals
            have k3 : w'.cell? ⟨TB, 0, none⟩ = some (takeF LB BB TB) := (World.cell?_of_block (hG.1.block TB l6 (by intro e; have := HRL.out _ e.symm; have := HB.out.tb; omega))).trans HC3.out
            have k1 : w'.cell? ⟨W.heap.size + 1, 0, none⟩ = some (.int .i64 x.1) := (World.cell?_of_block (hG.1.block (W.heap.size + 1) (by omega) (by intro e; have := HRL.out _ e.symm; omega))).trans HK1.out
            rw [if_pos (by rfl)]
          · unfold takeF at k3
            exact Rk.GrowL.value (v := takeF LB BB TB) (w' := w') (by simp [go_sem, Rs.look, k3, takeF]) (gT7_refl _ _ _ _ _) rfl
          · exact Rk.GrowL.value (v := .int .i64 i) (w' := w') (by simp [go_sem, Rs.look]) (gT7_refl _ _ _ _ _) rfl
          · have e1 : V 1 = .int .i64 i := hs 1 (by simp)
            exact Rk.GrowL.value (v := .int .i64 ((i + 1 : Nat) : Int)) (w' := w') (by simp [go_sem, Rs.look, e1, hwi]) (gT7_refl _ _ _ _ _) rfl
          · exact Rk.GrowL.value (v := .slice ta taken.length tc) (w' := w') (by simp [go_sem, Rs.look]) (gT7_refl _ _ _ _ _) rfl
          · exact Rk.GrowL.value (v := .pointer (some ⟨W.heap.size + 1, 0, none⟩)) (w' := w') (by simp [go_sem, Rs.look]) (gT7_refl _ _ _ _ _) rfl
          · have e4 : V 4 = .pointer (some ⟨W.heap.size + 1, 0, none⟩) := hs 4 (by simp)
            exact Rk.GrowL.value (v := .int .i64 x.1) (w' := w') (by simp [go_sem, Rs.look, e4, k1]) (gT7_refl _ _ _ _ _) rfl
          · have e5 : V 5 = .int .i64 x.1 := hs 5 (by simp)
            refine Rk.GrowL.value (v := .slice (some ⟨w'.heap.size, 0, none⟩) 1 1) (w' := w'.alloc (.cells #[.int .i64 x.1] 3)) (by simp [go_sem, Rs.look, e5]) (gT7_of (by decide) (below1 _ _)) (fun _ => ⟨_, rfl, by simp, ?_⟩)
            rw [cell_of_row _ _ _ _ _ _ (heap_alloc_last _ _)]; rfl
          · have e3 : V 3 = .slice ta taken.length tc := hs 3 (by simp)
            have r6 : c = false → ∃ g, V 6 = .slice (some ⟨g, 0, none⟩) 1 1 ∧ g < w'.heap.size ∧ w'.cell? ⟨g, 0, none⟩ = some (.int .i64 x.1) := hs 6 (by simp)
            obtain ⟨g, e6, hg, hcg⟩ := r6 (hc rfl)
            obtain ⟨v', w8, hr, hown, hgr, hold, hwh⟩ := append_which w' base (.slice ta taken.length tc) taken.length _ (.int .i64 x.1) rfl (hG.2 HT6.out) (by have := hG.1.size; omega) (by omega) ⟨g, 0, none⟩ (by simpa [Addr.add] using hcg)
            refine Rk.GrowL.value (v := v') (w' := w8) (exec_append2 rfl rfl (by simp [Rs.look, e3]) (by simp [Rs.look, e6]) hr) (by unfold gT7; rw [if_pos rfl]; exact ⟨hgr, fun _ => hold⟩) ⟨by simp, ?_, ?_⟩
            · unfold OwnN
              rw [List.length_append, List.map_append]
              exact hown
            · rcases hwh with h | h
              · exact .inl h
              · exact .inr ⟨_, h, hG.1.size⟩
          · have k8 : w'.rangeAt w5.heap.size 0 BA.toList := fun j u hu => (World.cell?_of_block (a := ⟨w5.heap.size, 0 + j, none⟩) (hG.1.block w5.heap.size (by omega) (by intro e; have := HRL.out _ e.symm; omega))).trans (HBR.out j u hu)
            refine Rk.GrowL.value (v := .agg BA.toList.toArray) (w' := w') (exec_load_mid 128 _ rfl rfl k8 und128 rfl HBZ.out) (gT7_refl _ _ _ _ _) ?_
            show Value.agg BA.toList.toArray = .agg BA
            rw [HBL.out]
        · intro V w' hG hs
          have e0 : V 0 = takeF LB BB TB := hs 0 (by omega)
          have e1 : V 1 = .int .i64 i := hs 1 (by omega)
          have e2 : V 2 = .int .i64 ((i + 1 : Nat) : Int) := hs 2 (by omega)
          have e3 : V 3 = .slice ta taken.length tc := hs 3 (by omega)
          have e4 : V 4 = .pointer (some ⟨W.heap.size + 1, 0, none⟩) := hs 4 (by omega)
          have e5 : V 5 = .int .i64 x.1 := hs 5 (by omega)
          obtain ⟨-, r7, r7b⟩ : true = true ∧ OwnN w' base (V 7) (taken ++ [x.1]) ∧ ((V 7).ownBlock = (Value.slice ta taken.length tc).ownBlock ∨ ∃ g, (V 7).ownBlock = some g ∧ W6.heap.size ≤ g) := hs 7 (by omega)
          have e8 : V 8 = .agg BA := hs 8 (by omega)
          simp only [Rs.canon, Rs.dstOf, List.range_succ, List.range_zero, List.nil_append, List.cons_append, List.foldl_cons, List.foldl_nil, List.drop_succ_cons, List.drop_zero, List.drop_nil, List.getElem?_toArray, List.getElem?_cons_succ, List.getElem?_cons_zero, Option.bind_some, Act.put, List.getD_cons_succ, List.getD_cons_zero, List.setIfInBounds_toArray, List.set_cons_succ, List.set_cons_zero]
          rw [e0, e1, e2, e3, e4, e5, e8]
          generalize V 6 = y6
          generalize V 7 = v7 at r7 r7b ⊢
          clear e0 e1 e2 e3 e4 e5 e8 hs
          have hG1 := hG.1
          have hTd := hG.2 HT6.out
          have hF : ApF BB (Value.slice ta taken.length tc).ownBlock W6 w' := ApF.of_grown hG1
          have hbl7 : ∀ k, (Value.slice ba best.length bc).ownBlock = some k → k < W6.heap.size := fun k hk => (HBO6.out.lt k hk).2
          have hI7 := HI6.out.apf HB.out hF (fun k hk => (HRL.out k hk).1) ((hG1.block BB (by have := (Array.getElem?_eq_some_iff.1 HI6.out.bb).1; exact this) (by intro e; have := HRL.out _ e.symm; have := HB.out.bb; omega)).trans HI6.out.bb)
          have hO7 : OwnN w' base (.slice ba best.length bc) best := HBO6.out.kept hF HB.out.bb HDIS.out
          have hdis7 : (Value.slice ba best.length bc).ownBlock = none ∨ (Value.slice ba best.length bc).ownBlock ≠ v7.ownBlock := by
            cases hob : (Value.slice ba best.length bc).ownBlock with
            | none => exact .inl rfl
            | some k =>
              right
              rcases r7b with h | ⟨g, h, hg⟩
              · rw [h, ← hob]
                rcases HDIS.out with h2 | h2
                · rw [h2] at hob; cases hob
                · exact h2
              · rw [h]; intro e; injection e; have := hbl7 k hob; omega
          have hq := HIH1.out w' v7 (taken ++ [x.1]) MX _ best hI7 (by have := hG1.size; omega) r7 hO7 hdis7 HML.out (by rw [List.length_append, List.length_singleton]; omega) hbl
          have hlen7 : (taken ++ [x.1]).length = taken.length + 1 := by simp
          obtain ⟨va7, vc7, rfl⟩ := own_slice r7
          have hBt : (MX.map Value.bool).toArray = BA := by rw [HBA2.out]; rfl
          rw [hBt] at hq
          rw [hlen7] at hq r7b r7
          have HQ := Lib.hid hq
          have HO7 := Lib.hid r7
          have HG := Lib.hid hG
          have HR7 := Lib.hid r7b
          have HTD := Lib.hid hTd
          have HF7 := Lib.hid hF
          clear hq hG hG1 r7 r7b hTd hF hbl7 hI7 hO7 hdis7
          unfold takeF
          go_wp2_with fail
          refine HQ.out.mono ?_
          rintro e w8 ⟨⟨r, rfl⟩, hP⟩
          obtain ⟨bv1, i1, o1, f1⟩ := hP.ex
          have hG1 := HG.out.1
          have hb8 : ∀ k, k < W6.heap.size → k ≠ BB → some k ≠ (Value.slice ta taken.length tc).ownBlock → w8.heap[k]? = W6.heap[k]? := fun k hk h1 h2 => by
            refine (hP.fr.block k (Nat.lt_of_lt_of_le hk hG1.size) h1 ?_).trans (hG1.block k hk h2)
            rcases HR7.out with h | ⟨g, h, hg⟩
            · rw [h]; exact h2
            · rw [h]; intro e; injection e; omega
          have hn0 : some W.heap.size ≠ (Value.slice ta taken.length tc).ownBlock := by intro e; have := HRL.out _ e.symm; omega
          have h80 := (hb8 W.heap.size (by omega) (by omega) hn0).trans H60.out
          have hnT : some TB ≠ (Value.slice ta taken.length tc).ownBlock := by intro e; have := HRL.out _ e.symm; have := HB.out.tb; omega
          have c8 : w8.cell? ⟨TB, 0, none⟩ = some (takeF LB BB TB) := (World.cell?_of_block (hb8 TB l6 HB.out.n2 hnT)).trans HC3.out
          have l8 : TB < w8.heap.size := (Array.getElem?_eq_some_iff.1 i1.tb).1
          have ot8 : OwnN w8 base (.slice ta taken.length tc) taken := by
            rcases HR7.out with h | ⟨g, h, hg⟩
            · refine own_prefix (x := x.1) (v7 := .slice va7 (taken.length + 1) vc7) ?_ HTD.out h ?_
              · exact HO7.out
              · exact hP.tk
            · refine HTD.out.kept hP.fr HB.out.bb ?_
              cases hob : (Value.slice ta taken.length tc).ownBlock with
              | none => exact .inl rfl
              | some k => right; rw [h]; intro e; injection e; have := HRL.out k hob; omega
          have hdis8 : bv1.ownBlock = none ∨ bv1.ownBlock ≠ (Value.slice ta taken.length tc).ownBlock := by
            rcases f1 with rfl | ⟨g, h, hg⟩
            · exact HDIS.out
            · right; rw [h]; intro e; have := HRL.out g e.symm; have := hG1.size; omega
          obtain ⟨R1, hR1⟩ : ∃ R1, R1 = takeP (l.drop (i + 1)) (taken ++ [x.1]) MX best := ⟨_, rfl⟩
          rw [← hR1] at o1
          have hR1l : R1.length ≤ 30 := by
            have := take_len (l.drop (i + 1)) (taken ++ [x.1]) MX best
            rw [← hR1, hlen7, List.length_drop] at this
            omega
          have hq := HIH1.out w8 _ taken heard bv1 R1 i1 (by have := hG1.size; have := hP.fr.size; omega) ot8 o1 hdis8 HHL.out (by omega) hR1l
          rw [← HHA.out] at hq
          have HQ2 := Lib.hid hq
          have HFR := Lib.hid hP.fr
          have HF1 := Lib.hid f1
          have HR1 := Lib.hid hR1
          have H80 := Lib.hid h80
          have hs8 := hP.fr.size
          unfold takeF at c8
          clear hq hP i1 o1 f1 hG1 hb8 hn0 h80 hnT ot8 hdis8 hR1 hR1l HQ
          go_wp2_with (with_reducible refine wpList_load_row rfl 128 _ rfl W.heap.size rfl 128 HA (0, 0) _ H80.out und128 rfl HHSZ.out ?_)
          refine HQ2.out.mono ?_
          rintro e w9 ⟨⟨r, rfl⟩, hP⟩
          have HP := Lib.hid hP
          clear hP HQ2
          go_wp2_with fail
          refine bodyPost_end (results_none rfl _ _ _) rfl ?_
          obtain ⟨bv', e1, e2, e3⟩ := HP.out.ex
          have hR : RES = takeP (l.drop (i + 1)) taken heard R1 := by rw [HRES.out, ← HCL.out, HR1.out, HMX.out]; rfl
          rw [hR]
          have hfr1 : ApF BB (Value.slice ta taken.length tc).ownBlock W w8 := ApF.join ((ApF.of_below HB6.out).trans HF7.out) HFR.out (by
            rcases HR7.out with h | ⟨g, h, hg⟩
            · exact .inl h
            · exact .inr ⟨g, h, by omega⟩)
          refine ⟨⟨_, rfl⟩, ⟨bv', e1, e2, ?_⟩, HP.out.tk, hfr1.trans HP.out.fr⟩
          rcases e3 with rfl | ⟨g, e3, e4⟩
          · rcases HF1.out with e5 | ⟨g, e5, e6⟩
            · exact .inl e5
            · exact .inr ⟨g, e5, by have := HF7.out.size; omega⟩
          · exact .inr ⟨g, e3, by have := hfr1.size; omega⟩
theorem take_all (LB BB TB base : Nat) (ob : Option Addr) (cap : Nat) (l : List (Nat × List Bool)) (hl30 : ∀ y ∈ l, y.2.length = 30) (hlen : l.length ≤ 30) (hb : ApB LB BB TB base ob l) : ∀ k i, i + k = l.length → TakeCall LB BB TB base ob cap l i
  | 0, i, h => take_step LB BB TB base ob cap l hl30 hlen hb i (by omega) (fun h2 => by omega)
  | k + 1, i, h => take_step LB BB TB base ob cap l hl30 hlen hb i (by omega) (fun _ => take_all LB BB TB base ob cap l hl30 hlen hb k (i + 1) (by omega))
end Go.Proofs.Ytimedmkpenbmkaa

namespace Go.Proofs.Ytimedmkpenbmkaa
open Go.RowKit Go.Shelf
set_option linter.unusedSimpArgs false
set_option linter.unusedVariables false

set_option maxHeartbeats 2000000 in
set_option maxRecDepth 100000 in
theorem apart_any (ob : Option Addr) (cap : Nat) (l : List (Nat × List Bool)) (hl30 : ∀ y ∈ l, y.2.length = 30) (hlen : l.length ≤ 30) (w : World) (hI : LiIn w ob l) :
    Calls Try.prog 114 #[.slice ob l.length cap] w fun e w' => ∃ v, e = .returned v ∧ OwnN w' w.heap.size v (apartP l) ∧ Below w.heap.size w w' := by
  obtain ⟨W, hW⟩ : ∃ W : World, W = ((w.alloc (.cells #[.slice ob l.length cap] 132)).alloc (.cells #[.slice none 0 0] 31)).alloc (.cells #[takeF w.heap.size (w.heap.size + 1) (w.heap.size + 2)] 179) := ⟨_, rfl⟩
  have hs : W.heap.size = w.heap.size + 3 := by rw [hW]; simp
  have hB : Below w.heap.size w W := by rw [hW]; exact al (al (al (Below.refl _ _) _) _) _
  have h0 : W.heap[w.heap.size]? = some (.cells #[.slice ob l.length cap] 132 (0, 0)) := by
    rw [hW, Below.heap_alloc _ _ _ (by simp; omega), Below.heap_alloc _ _ _ (by simp)]; exact heap_alloc_last _ _
  have h1 : W.heap[w.heap.size + 1]? = some (.cells #[.slice none 0 0] 31 (0, 0)) := by
    rw [hW, Below.heap_alloc _ _ _ (by simp)]; have := heap_alloc_last (w.alloc (.cells #[.slice ob l.length cap] 132)) (.cells #[.slice none 0 0] 31); simpa using this
  have h2 : W.heap[w.heap.size + 2]? = some (.cells #[takeF w.heap.size (w.heap.size + 1) (w.heap.size + 2)] 179 (0, 0)) := by
    rw [hW]; have := heap_alloc_last ((w.alloc (.cells #[.slice ob l.length cap] 132)).alloc (.cells #[.slice none 0 0] 31)) (.cells #[takeF w.heap.size (w.heap.size + 1) (w.heap.size + 2)] 179); simpa using this
  have hob : ∀ g, ob = some ⟨g, 0, none⟩ → l ≠ [] → g < w.heap.size := fun g e hne => by
    obtain ⟨c, hc⟩ : ∃ c, l[0]? = some c := by cases l with
      | nil => exact absurd rfl hne
      | cons c l => exact ⟨c, rfl⟩
    obtain ⟨g', e1, e2, _⟩ := hI 0 c hc
    rw [e] at e1; injection e1 with e1; injection e1 with e1; omega
  have hA : ApB w.heap.size (w.heap.size + 1) (w.heap.size + 2) (w.heap.size + 3) ob l := ⟨by omega, by omega, by omega, by omega, by omega, fun g e hne => by have := hob g e hne; omega⟩
  have hAI : ApI W w.heap.size (w.heap.size + 1) (w.heap.size + 2) ob cap l (.slice none 0 0) := ⟨h0, h1, h2, hI.below hB⟩
  have hnil : OwnN W (w.heap.size + 3) (.slice none 0 0) [] := World.ownsRow_nil _ _ _ _
  have hq := take_all w.heap.size (w.heap.size + 1) (w.heap.size + 2) (w.heap.size + 3) ob cap l hl30 hlen hA l.length 0 (by omega) W (.slice none 0 0) [] (List.replicate 30 false) (.slice none 0 0) [] hAI (by omega) hnil hnil (.inl rfl) (by simp) (by simp) (by simp)
  rw [show ((List.replicate 30 false).map Value.bool).toArray = #[Value.bool false, Value.bool false, Value.bool false, Value.bool false, Value.bool false, Value.bool false, Value.bool false, Value.bool false, Value.bool false, Value.bool false, Value.bool false, Value.bool false, Value.bool false, Value.bool false, Value.bool false, Value.bool false, Value.bool false, Value.bool false, Value.bool false, Value.bool false, Value.bool false, Value.bool false, Value.bool false, Value.bool false, Value.bool false, Value.bool false, Value.bool false, Value.bool false, Value.bool false, Value.bool false] from rfl] at hq
  have HQ := Lib.hid hq
  have HB := Lib.hid hB
  have HW := Lib.hid hW
  have c2 : W.cell? ⟨w.heap.size + 2, 0, none⟩ = some (takeF w.heap.size (w.heap.size + 1) (w.heap.size + 2)) := by rw [cell_of_row _ _ _ _ _ _ h2]; rfl
  have hWt : ((w.alloc (.cells #[.slice ob l.length cap] 132)).alloc (.cells #[.slice none 0 0] 31)).alloc (.cells #[.func (.func 145) #[] #[.pointer (some ⟨w.heap.size, 0, none⟩), .pointer (some ⟨w.heap.size + 1, 0, none⟩), .pointer (some ⟨w.heap.size + 1 + 1, 0, none⟩)]] 179) = W := by rw [hW]; rfl
  have HWT := Lib.hid hWt
  unfold takeF at c2
  clear hq hB hW h0 h1 h2 hob hA hAI hnil hWt
  go_enter Try.func114, Try.ntmps114
  go_upto_region 4 with fail
  rw [HWT.out]
  clear HWT
  have hl2 : w.heap.size + 1 + 1 < W.heap.size := by omega
  have c2' : W.cell? ⟨w.heap.size + 1 + 1, 0, none⟩ = some (.func (.func 145) #[] #[.pointer (some ⟨w.heap.size, 0, none⟩), .pointer (some ⟨w.heap.size + 1, 0, none⟩), .pointer (some ⟨w.heap.size + 1 + 1, 0, none⟩)]) := c2
  clear c2
  go_wp2_with fail
  refine HQ.out.mono ?_
  rintro e w8 ⟨⟨r, rfl⟩, hP⟩
  obtain ⟨bv', i1, o1, f1⟩ := hP.ex
  have hfr := hP.fr
  have c1 : w8.cell? ⟨w.heap.size + 1, 0, none⟩ = some bv' := by rw [cell_of_row _ _ _ _ _ _ i1.bb]; rfl
  have hl1 : w.heap.size + 1 < w8.heap.size := (Array.getElem?_eq_some_iff.1 i1.bb).1
  obtain ⟨bb, bc, rfl⟩ := own_slice o1
  have HO := Lib.hid o1
  have HFR := Lib.hid hfr
  clear i1 o1 f1 hP hfr HQ c2'
  go_wp2_with fail
  go_ret
  have hBB : Below w.heap.size w w8 := ⟨HFR.out.os.trans HB.out.os, HFR.out.tape.trans HB.out.tape, HFR.out.output.trans HB.out.output, Nat.le_trans HB.out.size HFR.out.size, fun k hk => (HFR.out.block k (Nat.lt_of_lt_of_le hk HB.out.size) (by omega) (by show some k ≠ none; simp)).trans (HB.out.block k hk)⟩
  exact ⟨_, rfl, own_base HO.out (by omega), hBB⟩

set_option maxHeartbeats 1000000 in
set_option maxRecDepth 100000 in
theorem Apart_err (wd wind voice : Int) (pl : Value) (hv : Value) (E : Int) (w : World) (hOQ : OQerr w wd wind voice pl hv E) :
    Calls Try.prog 50 #[.agg #[.int .i64 wd, pl], .agg #[.int .i64 wind, .int .i64 voice], hv] w fun e w' => e = .returned (.tuple #[.slice none 0 0, .int .i64 E]) ∧ Below w.heap.size w w' := by
  have hE : (E != 0) = true := by simpa using hOQ.1
  have HOQ := Lib.hid hOQ.2
  clear hOQ
  have hB2 : ∀ o1 o2, Below w.heap.size w ((w.alloc o1).alloc o2) := fun o1 o2 => al (al (Below.refl _ _) _) _
  unfold zeroWork at HOQ
  go_enter Try.func50, Try.ntmps50
  go_wp2_with fail
  refine (HOQ.out _ (hB2 _ _)).mono ?_
  rintro e w1 ⟨rfl, hB⟩
  have HB := Lib.hid (join (hB2 _ _) hB)
  clear hB hB2
  go_wp2
  go_ret2
  exact ⟨rfl, al HB.out _⟩

/-- what is left of the region 'apart(listeners(w, tables(w)))' -/
def spAp (t : Hr.Town) (wind voice : Int) (cnt : Nat → Bool) (wk : Value) (B : Nat) : Nat → List Value → Value → World → Prop
  | 0, _, v, _ => v = wk
  | 1, _, v, _ => v = wk
  | 2, _, v, w => ∃ vs, v = .agg vs ∧ TabsTo t wind 30 w vs
  | 3, _, v, w => w.ownsRow B 135 31 v (lis t wind voice cnt).length (lisV (lis t wind voice cnt))
  | 4, _, v, w => OwnN w B v (apartP (lis t wind voice cnt))
  | 5, _, v, w => OwnN w B v (apartP (lis t wind voice cnt))
  | 6, _, v, _ => v = .int .i64 0
  | _, _, _, _ => False
theorem spAp_stable (t : Hr.Town) (wind voice : Int) (cnt : Nat → Bool) (wk : Value) (B : Nat) : ∀ i L v w w', spAp t wind voice cnt wk B i L v w → Rs.Gr w w' → spAp t wind voice cnt wk B i L v w' := by
  intro i L v w w' h hg
  match i with
  | 0 => exact h
  | 1 => exact h
  | 2 => obtain ⟨vs, h1, h2⟩ := h; exact ⟨vs, h1, h2.below hg⟩
  | 3 => exact own_below h hg
  | 4 => exact OwnN.below h hg
  | 5 => exact OwnN.below h hg
  | 6 => exact h
  | _ + 7 => exact h.elim

set_option maxHeartbeats 2000000 in
set_option maxRecDepth 100000 in
theorem Apart_ok (t : Hr.Town) (hok : t.Ok) (wind voice : Int) (hw0 : 0 ≤ wind) (hw4 : wind ≤ 4) (b o cap : Nat) (hv : Value) (nm : List Bool) (hnl : nm.length = 30) (w : World) (hI : Ints w b o t.plots)
    (hOQ : OQ w t.wide wind voice (.slice (some ⟨b, o, none⟩) t.plots.length cap) hv nm) :
    Calls Try.prog 50 #[.agg #[.int .i64 t.wide, .slice (some ⟨b, o, none⟩) t.plots.length cap], .agg #[.int .i64 wind, .int .i64 voice], hv] w fun e w' =>
      ∃ v, e = .returned (.tuple #[v, .int .i64 0]) ∧ Below w.heap.size w w' ∧ OwnN w' w.heap.size v (apartP (lis t wind voice (nm.getD · false))) := by
  have HI := Lib.hid hI
  have HOQ := Lib.hid hOQ
  have hbl := hI.1
  clear hI hOQ
  have hB2 : ∀ o1 o2, Below w.heap.size w ((w.alloc o1).alloc o2) := fun o1 o2 => al (al (Below.refl _ _) _) _
  go_enter Try.func50, Try.ntmps50
  go_wp2_with fail
  refine (HOQ.out _ (hB2 _ _)).mono ?_
  rintro e w1 ⟨r, N, rfl, hD, hr, hN0, hN, hB⟩
  unfold qWork
  have HB := Lib.hid (join (hB2 _ _) hB)
  have HD := Lib.hid hD
  have HN := Lib.hid hN
  have hrl : r < w1.heap.size := dir_lt hD
  have hNl : N < w1.heap.size := (Array.getElem?_eq_some_iff.1 hN).1
  have hz1 : w.heap.size + 1 + 1 ≤ w1.heap.size := by have := hB.size; simp at this; omega
  clear hD hN hB hr
  go_wp2_with fail
  obtain ⟨wk, hwk⟩ : ∃ wk : Value, wk = .agg #[.int .i64 t.wide, .slice (some ⟨b, o, none⟩) t.plots.length cap, .int .i64 wind, .int .i64 voice, .map (some r), .func (.func 144) #[] #[.pointer (some ⟨N, 0, none⟩)]] := ⟨_, rfl⟩
  refine Rs.region_gen 7 [[], [], [1], [0, 1, 2], [0, 1, 2, 3], [0, 1, 2, 3, 4], [0, 1, 2, 3, 4, 5]] [some 20, some 21, some 22, some 23, some 24, some 6, some 7] (spAp t wind voice (nm.getD · false) wk w.heap.size) (by kernel_rfl) (by kernel_rfl) rfl (spAp_stable _ _ _ _ _ _) ?_ ?_
  · refine ⟨fun V w' hG hs => ?_, fun V w' hG hs => ?_, fun V w' hG hs => ?_, fun V w' hG hs => ?_, fun V w' hG hs => ?_, fun V w' hG hs => ?_, fun V w' hG hs => ?_, trivial⟩
    all_goals
      have hb0 := (hG.block w1.heap.size (by simp)).trans (heap_alloc_last _ _)
      obtain ⟨⟨k0, k1, k2, k3, k4, k5⟩, _, kl⟩ := blk_cells6 hb0
      rw [if_pos (by rfl)]
    · refine Rs.GrowL.value (v := wk) (w' := w') ?_ (Rs.Gr.refl _) rfl
      rw [hwk]
      simp [go_sem, Rs.look, k0, k1, k2, k3, k4, k5]
    · refine Rs.GrowL.value (v := wk) (w' := w') ?_ (Rs.Gr.refl _) rfl
      rw [hwk]
      simp [go_sem, Rs.look, k0, k1, k2, k3, k4, k5]
    · have e1 : V 1 = wk := hs 1 (by simp)
      refine Rs.GrowL.call (f := 101) (args := #[wk]) (by simp [go_sem, Rs.look, e1]) ?_
      have hBw := join (al HB.out _) hG
      rw [hwk]
      refine (tables_any t hok wind voice hw0 hw4 b o cap r _ _ _ w' (HI.out.below hBw hbl) ((hG.block r (by simp; omega)).trans (dir_al HD.out hrl _))).mono ?_
      rintro e w2 ⟨vs, rfl, hT, hB2⟩
      exact ⟨_, rfl, hB2, vs, rfl, hT⟩
    · have e0 : V 0 = wk := hs 0 (by simp)
      obtain ⟨vs, e2, hT⟩ : ∃ vs, V 2 = .agg vs ∧ TabsTo t wind 30 w' vs := hs 2 (by simp)
      refine Rs.GrowL.call (f := 102) (args := #[wk, .agg vs]) (by simp [go_sem, Rs.look, e0, e2]) ?_
      have hBw := join (al HB.out _) hG
      rw [hwk]
      have hN' := (hG.block N (by simp; omega)).trans ((Below.heap_alloc _ _ _ hNl).trans HN.out)
      refine (listeners_any t hok wind voice b o cap _ 144 _ (nm.getD · false) vs w' (HI.out.below hBw hbl) hT callF144 (fun p hp => cntQ_call N nm hnl w' hN' p (by have := hok.n30; omega))).mono ?_
      rintro e w2 ⟨v, rfl, hown, hB2⟩
      exact ⟨_, rfl, hB2, own_base hown (by have := hBw.size; omega)⟩
    · have r3 : w'.ownsRow w.heap.size 135 31 (V 3) (lis t wind voice (nm.getD · false)).length (lisV (lis t wind voice (nm.getD · false))) := hs 3 (by simp)
      obtain ⟨ob, cp, e3⟩ := own_slice r3
      rw [e3] at r3
      refine Rs.GrowL.call (f := 114) (args := #[.slice ob (lis t wind voice (nm.getD · false)).length cp]) (by simp [go_sem, Rs.look, e3]) ?_
      have hBw := join (al HB.out _) hG
      refine (apart_any ob cp (lis t wind voice (nm.getD · false)) (lis_row _ _ _ _).1 (Nat.le_trans (lisTo_len t wind voice _ t.len) hok.n30) w' (LiIn.of_own (lis_row _ _ _ _).1 r3)).mono ?_
      rintro e w2 ⟨v, rfl, hown, hB2⟩
      exact ⟨_, rfl, hB2, own_base hown (by have := hBw.size; omega)⟩
    · have r4 : OwnN w' w.heap.size (V 4) (apartP (lis t wind voice (nm.getD · false))) := hs 4 (by simp)
      exact Rs.GrowL.value (v := V 4) (w' := w') (by simp [go_sem, Rs.look]) (Rs.Gr.refl _) r4
    · exact Rs.GrowL.value (v := .int .i64 0) (w' := w') (by simp [go_sem, Rs.look]) (Rs.Gr.refl _) rfl
  · intro V w' hG hs
    have r5 : OwnN w' w.heap.size (V 5) (apartP (lis t wind voice (nm.getD · false))) := hs 5 (by omega)
    have e6 : V 6 = .int .i64 0 := hs 6 (by omega)
    have hBw := join (al HB.out (.cells #[.int .i64 t.wide, .slice (some ⟨b, o, none⟩) t.plots.length cap, .int .i64 wind, .int .i64 voice, .map (some r), .func (.func 144) #[] #[.pointer (some ⟨N, 0, none⟩)]] 119)) hG
    simp only [Rs.canon, Rs.dstOf, List.range_succ, List.range_zero, List.nil_append, List.cons_append, List.foldl_cons, List.foldl_nil, List.drop_succ_cons, List.drop_zero, List.drop_nil, List.getElem?_toArray, List.getElem?_cons_succ, List.getElem?_cons_zero, Option.bind_some, Act.put, List.getD_cons_succ, List.getD_cons_zero, List.setIfInBounds_toArray, List.set_cons_succ, List.set_cons_zero]
    rw [e6]
    generalize V 0 = y0
    generalize V 1 = y1
    generalize V 2 = y2
    generalize V 3 = y3
    generalize V 4 = y4
    generalize V 5 = v at r5 ⊢
    have H5 := Lib.hid r5
    have HBW := Lib.hid hBw
    clear hs e6 r5 hBw hG hwk
    go_wp2_with fail
    go_ret2
    exact ⟨_, rfl, HBW.out, H5.out⟩
end Go.Proofs.Ytimedmkpenbmkaa

namespace Go.Proofs.Ytimedmkpenbmkaa
open Go.RowKit Go.Shelf
set_option linter.unusedSimpArgs false
set_option linter.unusedVariables false

set_option maxHeartbeats 1000000 in
set_option maxRecDepth 100000 in
theorem Best_err (wd wind voice : Int) (pl : Value) (hv : Value) (E : Int) (w : World) (st : Int) (hOQ : OQerr w wd wind voice pl hv E) :
    Calls Try.prog 52 #[.agg #[.int .i64 wd, pl], .agg #[.int .i64 wind, .int .i64 voice], hv, .int .i64 st] w fun e w' => e = .returned (.tuple #[.slice none 0 0, .int .i64 0, .int .i64 E]) ∧ Below w.heap.size w w' := by
  have hE : (E != 0) = true := by simpa using hOQ.1
  have HOQ := Lib.hid hOQ.2
  clear hOQ
  have hB2 : ∀ o1 o2, Below w.heap.size w ((w.alloc o1).alloc o2) := fun o1 o2 => al (al (Below.refl _ _) _) _
  unfold zeroWork at HOQ
  go_enter Try.func52, Try.ntmps52
  go_wp2_with fail
  refine (HOQ.out _ (hB2 _ _)).mono ?_
  rintro e w1 ⟨rfl, hB⟩
  have HB := Lib.hid (join (hB2 _ _) hB)
  clear hB hB2
  go_wp2
  go_ret3
  exact ⟨rfl, al HB.out _⟩

/-- what is left of the region 'choose(listeners(w, tables(w)), stands)' -/
def spBe (t : Hr.Town) (wind voice : Int) (cnt : Nat → Bool) (wk : Value) (B : Nat) (st : Nat) (X : List Int) (N : Int) : Nat → List Value → Value → World → Prop
  | 0, _, v, _ => v = wk
  | 1, _, v, _ => v = wk
  | 2, _, v, w => ∃ vs, v = .agg vs ∧ TabsTo t wind 30 w vs
  | 3, _, v, w => w.ownsRow B 135 31 v (lis t wind voice cnt).length (lisV (lis t wind voice cnt))
  | 4, _, v, _ => v = .int .i64 st
  | 5, _, v, w => ∃ u, v = .tuple #[u, .int .i64 N] ∧ w.ownsRow B 3 1 u X.length (X.map (Value.int .i64))
  | 6, _, v, w => ∃ u, v = .tuple #[u, .int .i64 N] ∧ w.ownsRow B 3 1 u X.length (X.map (Value.int .i64))
  | 7, _, v, w => w.ownsRow B 3 1 v X.length (X.map (Value.int .i64))
  | 8, _, v, _ => v = .int .i64 N
  | 9, _, v, w => w.ownsRow B 3 1 v X.length (X.map (Value.int .i64))
  | 10, _, v, _ => v = .int .i64 N
  | _, _, _, _ => False
theorem spBe_stable (t : Hr.Town) (wind voice : Int) (cnt : Nat → Bool) (wk : Value) (B : Nat) (st : Nat) (X : List Int) (N : Int) : ∀ i L v w w', spBe t wind voice cnt wk B st X N i L v w → Rs.Gr w w' → spBe t wind voice cnt wk B st X N i L v w' := by
  intro i L v w w' h hg
  match i with
  | 0 => exact h
  | 1 => exact h
  | 2 => obtain ⟨vs, h1, h2⟩ := h; exact ⟨vs, h1, h2.below hg⟩
  | 3 => exact own_below h hg
  | 4 => exact h
  | 5 => obtain ⟨u, h1, h2⟩ := h; exact ⟨u, h1, own_below h2 hg⟩
  | 6 => obtain ⟨u, h1, h2⟩ := h; exact ⟨u, h1, own_below h2 hg⟩
  | 7 => exact own_below h hg
  | 8 => exact h
  | 9 => exact own_below h hg
  | 10 => exact h
  | _ + 11 => exact h.elim

/-- too many stands, or fewer than none -/
theorem Best_rng_dec {st : Int} (h : ¬ (0 ≤ st ∧ st ≤ 30)) : decide (st < 0) = true ∨ (decide (st < 0) = false ∧ decide (st > 30) = true) := by
  by_cases h1 : st < 0
  · left; simpa using h1
  · right; exact ⟨by simpa using h1, by simp; omega⟩
set_option maxHeartbeats 2000000 in
set_option maxRecDepth 100000 in
theorem Best_ok (t : Hr.Town) (hok : t.Ok) (wind voice : Int) (hw0 : 0 ≤ wind) (hw4 : wind ≤ 4) (b o cap : Nat) (hv : Value) (nm : List Bool) (hnl : nm.length = 30) (st : Nat) (hst : st ≤ 30) (w : World) (hI : Ints w b o t.plots)
    (hOQ : OQ w t.wide wind voice (.slice (some ⟨b, o, none⟩) t.plots.length cap) hv nm) :
    Calls Try.prog 52 #[.agg #[.int .i64 t.wide, .slice (some ⟨b, o, none⟩) t.plots.length cap], .agg #[.int .i64 wind, .int .i64 voice], hv, .int .i64 st] w fun e w' =>
      ∃ v, e = .returned (.tuple #[v, .int .i64 (chooseP (lis t wind voice (nm.getD · false)) st).2, .int .i64 0]) ∧ Below w.heap.size w w' ∧ w'.ownsRow w.heap.size 3 1 v (chooseP (lis t wind voice (nm.getD · false)) st).1.length ((chooseP (lis t wind voice (nm.getD · false)) st).1.map (Value.int .i64)) := by
  have hs1 : decide ((st : Int) < 0) = false := by simp
  have hs2 : decide ((st : Int) > 30) = false := by simp; omega
  have HCH := Lib.hid (fun ob cp w' hI => choose_any ob cp (lis t wind voice (nm.getD · false)) (lis_row _ _ _ _).1 (Nat.le_trans (lisTo_len t wind voice _ t.len) hok.n30) st (by omega) w' hI)
  obtain ⟨X, hX⟩ : ∃ X, X = (chooseP (lis t wind voice (nm.getD · false)) st).1 := ⟨_, rfl⟩
  obtain ⟨M, hM⟩ : ∃ M, M = (chooseP (lis t wind voice (nm.getD · false)) st).2 := ⟨_, rfl⟩
  rw [← hX, ← hM] at HCH ⊢
  clear hX hM
  have HI := Lib.hid hI
  have HOQ := Lib.hid hOQ
  have hbl := hI.1
  clear hI hOQ
  have hB2 : ∀ o1 o2, Below w.heap.size w ((w.alloc o1).alloc o2) := fun o1 o2 => al (al (Below.refl _ _) _) _
  go_enter Try.func52, Try.ntmps52
  go_wp2_with fail
  refine (HOQ.out _ (hB2 _ _)).mono ?_
  rintro e w1 ⟨r, N, rfl, hD, hr, hN0, hN, hB⟩
  unfold qWork
  have HB := Lib.hid (join (hB2 _ _) hB)
  have HD := Lib.hid hD
  have HN := Lib.hid hN
  have hrl : r < w1.heap.size := dir_lt hD
  have hNl : N < w1.heap.size := (Array.getElem?_eq_some_iff.1 hN).1
  have hz1 : w.heap.size + 1 + 1 ≤ w1.heap.size := by have := hB.size; simp at this; omega
  clear hD hN hB hr
  go_wp2_with fail
  obtain ⟨wk, hwk⟩ : ∃ wk : Value, wk = .agg #[.int .i64 t.wide, .slice (some ⟨b, o, none⟩) t.plots.length cap, .int .i64 wind, .int .i64 voice, .map (some r), .func (.func 144) #[] #[.pointer (some ⟨N, 0, none⟩)]] := ⟨_, rfl⟩
  refine Rs.region_gen 11 [[], [], [1], [0, 1, 2], [], [0, 1, 2, 3, 4], [0, 1, 2, 3, 4, 5], [0, 1, 2, 3, 4, 5, 6], [0, 1, 2, 3, 4, 5, 6], [0, 1, 2, 3, 4, 5, 6, 7], [0, 1, 2, 3, 4, 5, 6, 7, 8, 9]] [some 32, some 33, some 34, some 35, some 36, some 37, some 31, some 38, some 39, some 13, some 14] (spBe t wind voice (nm.getD · false) wk w.heap.size st X M) (by kernel_rfl) (by kernel_rfl) rfl (spBe_stable _ _ _ _ _ _ _ _ _) ?_ ?_
  · refine ⟨fun V w' hG hs => ?_, fun V w' hG hs => ?_, fun V w' hG hs => ?_, fun V w' hG hs => ?_, fun V w' hG hs => ?_, fun V w' hG hs => ?_, fun V w' hG hs => ?_, fun V w' hG hs => ?_, fun V w' hG hs => ?_, fun V w' hG hs => ?_, fun V w' hG hs => ?_, trivial⟩
    all_goals
      have hb0 := (hG.block w1.heap.size (by simp)).trans (heap_alloc_last _ _)
      obtain ⟨⟨k0, k1, k2, k3, k4, k5⟩, _, kl⟩ := blk_cells6 hb0
      rw [if_pos (by rfl)]
    · refine Rs.GrowL.value (v := wk) (w' := w') ?_ (Rs.Gr.refl _) rfl
      rw [hwk]
      simp [go_sem, Rs.look, k0, k1, k2, k3, k4, k5]
    · refine Rs.GrowL.value (v := wk) (w' := w') ?_ (Rs.Gr.refl _) rfl
      rw [hwk]
      simp [go_sem, Rs.look, k0, k1, k2, k3, k4, k5]
    · have e1 : V 1 = wk := hs 1 (by simp)
      refine Rs.GrowL.call (f := 101) (args := #[wk]) (by simp [go_sem, Rs.look, e1]) ?_
      have hBw := join (al HB.out _) hG
      rw [hwk]
      refine (tables_any t hok wind voice hw0 hw4 b o cap r _ _ _ w' (HI.out.below hBw hbl) ((hG.block r (by simp; omega)).trans (dir_al HD.out hrl _))).mono ?_
      rintro e w2 ⟨vs, rfl, hT, hB2⟩
      exact ⟨_, rfl, hB2, vs, rfl, hT⟩
    · have e0 : V 0 = wk := hs 0 (by simp)
      obtain ⟨vs, e2, hT⟩ : ∃ vs, V 2 = .agg vs ∧ TabsTo t wind 30 w' vs := hs 2 (by simp)
      refine Rs.GrowL.call (f := 102) (args := #[wk, .agg vs]) (by simp [go_sem, Rs.look, e0, e2]) ?_
      have hBw := join (al HB.out _) hG
      rw [hwk]
      have hN' := (hG.block N (by simp; omega)).trans ((Below.heap_alloc _ _ _ hNl).trans HN.out)
      refine (listeners_any t hok wind voice b o cap _ 144 _ (nm.getD · false) vs w' (HI.out.below hBw hbl) hT callF144 (fun p hp => cntQ_call N nm hnl w' hN' p (by have := hok.n30; omega))).mono ?_
      rintro e w2 ⟨v, rfl, hown, hB2⟩
      exact ⟨_, rfl, hB2, own_base hown (by have := hBw.size; omega)⟩
    · exact Rs.GrowL.value (v := .int .i64 st) (w' := w') (by simp [go_sem, Rs.look]) (Rs.Gr.refl _) rfl
    · have r3 : w'.ownsRow w.heap.size 135 31 (V 3) (lis t wind voice (nm.getD · false)).length (lisV (lis t wind voice (nm.getD · false))) := hs 3 (by simp)
      have e4 : V 4 = .int .i64 st := hs 4 (by simp)
      obtain ⟨ob, cp, e3⟩ := own_slice r3
      rw [e3] at r3
      refine Rs.GrowL.call (f := 106) (args := #[.slice ob (lis t wind voice (nm.getD · false)).length cp, .int .i64 st]) (by simp [go_sem, Rs.look, e3, e4]) ?_
      have hBw := join (al HB.out _) hG
      refine (HCH.out ob cp w' (LiIn.of_own (lis_row _ _ _ _).1 r3)).mono ?_
      rintro e w2 ⟨v, rfl, hown, hB2⟩
      exact ⟨_, rfl, hB2, v, rfl, own_base hown (by have := hBw.size; omega)⟩
    · obtain ⟨u, e5, r5⟩ : ∃ u, V 5 = .tuple #[u, .int .i64 M] ∧ w'.ownsRow w.heap.size 3 1 u X.length (X.map (Value.int .i64)) := hs 5 (by simp)
      exact Rs.GrowL.value (v := .tuple #[u, .int .i64 M]) (w' := w') (by simp [go_sem, Rs.look, e5]) (Rs.Gr.refl _) ⟨u, rfl, r5⟩
    · obtain ⟨u, e6, r6⟩ : ∃ u, V 6 = .tuple #[u, .int .i64 M] ∧ w'.ownsRow w.heap.size 3 1 u X.length (X.map (Value.int .i64)) := hs 6 (by simp)
      exact Rs.GrowL.value (v := u) (w' := w') (by simp [go_sem, Rs.look, e6]) (Rs.Gr.refl _) r6
    · obtain ⟨u, e6, r6⟩ : ∃ u, V 6 = .tuple #[u, .int .i64 M] ∧ w'.ownsRow w.heap.size 3 1 u X.length (X.map (Value.int .i64)) := hs 6 (by simp)
      exact Rs.GrowL.value (v := .int .i64 M) (w' := w') (by simp [go_sem, Rs.look, e6]) (Rs.Gr.refl _) rfl
    · have r7 : w'.ownsRow w.heap.size 3 1 (V 7) X.length (X.map (Value.int .i64)) := hs 7 (by simp)
      exact Rs.GrowL.value (v := V 7) (w' := w') (by simp [go_sem, Rs.look]) (Rs.Gr.refl _) r7
    · have e8 : V 8 = .int .i64 M := hs 8 (by simp)
      exact Rs.GrowL.value (v := .int .i64 M) (w' := w') (by simp [go_sem, Rs.look, e8]) (Rs.Gr.refl _) rfl
  · intro V w' hG hs
    have r9 : w'.ownsRow w.heap.size 3 1 (V 9) X.length (X.map (Value.int .i64)) := hs 9 (by omega)
    have e10 : V 10 = .int .i64 M := hs 10 (by omega)
    have hBw := join (al HB.out (.cells #[.int .i64 t.wide, .slice (some ⟨b, o, none⟩) t.plots.length cap, .int .i64 wind, .int .i64 voice, .map (some r), .func (.func 144) #[] #[.pointer (some ⟨N, 0, none⟩)]] 119)) hG
    simp only [Rs.canon, Rs.dstOf, List.range_succ, List.range_zero, List.nil_append, List.cons_append, List.foldl_cons, List.foldl_nil, List.drop_succ_cons, List.drop_zero, List.drop_nil, List.getElem?_toArray, List.getElem?_cons_succ, List.getElem?_cons_zero, Option.bind_some, Act.put, List.getD_cons_succ, List.getD_cons_zero, List.setIfInBounds_toArray, List.set_cons_succ, List.set_cons_zero]
    rw [e10]
    generalize V 0 = y0
    generalize V 1 = y1
    generalize V 2 = y2
    generalize V 3 = y3
    generalize V 4 = y4
    generalize V 5 = y5
    generalize V 6 = y6
    generalize V 7 = y7
    generalize V 8 = y8
    generalize V 9 = v at r9 ⊢
    have H5 := Lib.hid r9
    have HBW := Lib.hid hBw
    clear hs e10 r9 hBw hG hwk
    go_wp2_with fail
    go_ret3
    exact ⟨_, rfl, HBW.out, H5.out⟩
end Go.Proofs.Ytimedmkpenbmkaa

namespace Go.Proofs.Ytimedmkpenbmkaa
open Go.RowKit Go.Shelf
set_option linter.unusedSimpArgs false
set_option linter.unusedVariables false

/-! DeleteFunc of a list that may have room behind it -/
def TabQ (w : World) (b : Nat) (xs : List Int) : Prop := ∃ cur : Array Value, w.heap[b]? = some (.cells cur 3 (0, 0)) ∧ cur.toList.take xs.length = xs.map (Value.int .i64)
theorem TabQ.lt {w : World} {b : Nat} {xs : List Int} (h : TabQ w b xs) : b < w.heap.size := by obtain ⟨cur, h, _⟩ := h; exact (Array.getElem?_eq_some_iff.1 h).1
theorem TabQ.cell {w : World} {b : Nat} {xs : List Int} (h : TabQ w b xs) {i : Nat} (hi : i < xs.length) : w.cell? ⟨b, i, none⟩ = some (.int .i64 (xs.getD i 0)) := by
  obtain ⟨cur, h, ht⟩ := h
  rw [cell_of_row _ _ _ _ _ _ h]
  have h2 : (cur.toList.take xs.length)[i]? = (xs.map (Value.int .i64))[i]? := by rw [ht]
  rw [List.getElem?_take, if_pos hi, List.getElem?_map, List.getElem?_eq_getElem hi] at h2
  rw [List.getD_eq_getElem?_getD, List.getElem?_eq_getElem hi]
  simpa using h2
theorem TabQ.free {w : World} {b : Nat} {xs : List Int} (h : TabQ w b xs) (i : Nat) : w.frozen? ⟨b, i, none⟩ = false := by
  obtain ⟨cur, h, ht⟩ := h
  exact frozen_of_row _ _ _ _ _ h
theorem TabQ.below {w w' : World} {b : Nat} {xs : List Int} (h : TabQ w b xs) {B : Nat} (hh : Below B w w') (hk : b < B) : TabQ w' b xs := by
  obtain ⟨cur, h, ht⟩ := h; exact ⟨cur, (hh.block b hk).trans h, ht⟩
theorem TabQ.set {w : World} {b : Nat} {xs : List Int} (h : TabQ w b xs) {i : Nat} (hi : i < xs.length) (x : Int) : TabQ (w.setCell ⟨b, i, none⟩ (.int .i64 x)) b (xs.set i x) := by
  obtain ⟨cur, h, ht⟩ := h
  refine ⟨_, heap_set_same _ h, ?_⟩
  rw [List.length_set, Array.toList_setIfInBounds, List.take_set, ht, List.map_set]
theorem TabQ.ints {w : World} {b : Nat} {T : List Int} (h : TabQ w b T) : Ints w b 0 T := ⟨h.lt, fun i hi => by rw [Nat.zero_add]; exact h.cell hi⟩
theorem TabQ.of_own {w : World} {base : Nat} {e : Option Addr} {cap : Nat} {xs : List Int} (h : w.ownsRow base 3 1 (.slice e xs.length cap) xs.length (xs.map (Value.int .i64))) (hne : xs ≠ []) : ∃ g, e = some ⟨g, 0, none⟩ ∧ base ≤ g ∧ xs.length ≤ cap ∧ TabQ w g xs := by
  rcases h.2 with ⟨h1, h0⟩ | ⟨g, cap', cur, h1, hb, hg, hn, hm, hs, ht⟩
  · exact absurd (List.length_eq_zero_iff.1 h0) hne
  · injection h1 with e1 e2 e3
    subst e1 e3
    exact ⟨g, rfl, hb, hn, cur, hg, by simpa using ht⟩
theorem tabq_zeros (g : Nat) : ∀ (l o : Nat) (w : World) (T : List Int), TabQ w g T → o + l ≤ T.length → ∃ T', T'.length = T.length ∧ T'.take o = T.take o ∧ TabQ (w.setCells g o (List.replicate l (.int .i64 0))) g T'
  | 0, o, w, T, h, _ => ⟨T, rfl, rfl, h⟩
  | l + 1, o, w, T, h, hl => by
    obtain ⟨T', h1, h2, h3⟩ := tabq_zeros g l (o + 1) _ _ (h.set (i := o) (by omega) 0) (by rw [List.length_set]; omega)
    refine ⟨T', by rw [h1, List.length_set], ?_, h3⟩
    have := congrArg (List.take o) h2
    rw [List.take_take, List.take_take, Nat.min_eq_left (by omega), List.take_set_of_le (Nat.le_refl _)] at this
    exact this

theorem wpList_clear_tabq {ops : Array Oper} {rest : List Oper} {op : Oper} {a : Act} {w : World} {Q : Exit → Act → World → Prop} (hgd : op.guard = none) (x : Operand) (t : TypeId) (ho : op.op = .call { callee := .builtin .clear, args := #[x], argTypes := #[t] })
    (ht : Try.prog.underlying t = some (.slice 3)) (g o n c : Nat) (T : List Int) (hx : a.eval x = .slice (some ⟨g, o, none⟩) n c) (hn : 0 < n) (hT : TabQ w g T) (hb : o + n ≤ T.length)
    (h : wpList Try.prog ops Q rest (a.put op.dst (.tuple #[])) (w.setCells g o (List.replicate n (.int .i64 0)))) : wpList Try.prog ops Q (op :: rest) a w := by
  refine wpList_plain hgd fun K hK => ?_
  have hrun := Lib.run_clear_slice (P := Try.prog) w t 3 op.type (.int .i64 0) ht (fun w => by kernel_rfl) rfl rfl g o n c hn (fun j hj => by rw [hT.cell (by omega)]; rfl) (fun j hj => hT.free _)
  unfold Oper.wp
  simp [execOp, ho, resolve, invoke, builtin, hx, hrun, Result.andThen]
  exact hK _ _ h

set_option maxHeartbeats 2000000 in
set_option maxRecDepth 100000 in
theorem deleteFuncQ (F : FuncId) (hF : Entered F) (E : Value) (p : Int → Bool) (g n c : Nat) (hnc : n ≤ c) (xs : List Int) (hn : n = xs.length) (hl : xs.length ≤ 1000000) (w : World) (hT : TabQ w g xs) (hp : ∀ W, Aft g w W → AskI F E p W) :
    Calls Try.prog 72 #[.slice (some ⟨g, 0, none⟩) n c, .func (.func F) #[] #[E]] w fun e w' => e = .returned (.slice (some ⟨g, 0, none⟩) (keptTo p xs n).length c) ∧ Ints w' g 0 (keptTo p xs n) ∧ Aft g w w' := by
  have HT := Lib.hid hT
  have HP := Lib.hid hp
  have HN := Lib.hid hn
  have HIX := Lib.hid (indexFuncI F hF E p g 0 n c xs hn hl w hT.ints (fun W hB => hp W (Aft.below (Aft.of (Hold.refl _ _)) hB)))
  rw [← hn] at hl
  obtain ⟨R, hR⟩ : ∃ R, R = keptTo p xs n := ⟨_, rfl⟩
  rw [← hR]
  have HR := Lib.hid hR
  clear hT hp hn hR
  go_enter Try.func72, Try.ntmps72
  go_wp2_with fail
  refine HIX.out.mono ?_
  rintro e w1 ⟨z, rfl, hz, hB⟩
  have HB := Lib.hid hB
  have hT1 := HT.out.below hB HT.out.lt
  have HT1 := Lib.hid hT1
  have HA1 : Hid (Aft g w w1) := Lib.hid (Aft.below (Aft.of (Hold.refl _ _)) hB)
  clear hB hT1 HIX
  rcases hz with ⟨hz0, hz⟩ | ⟨k, rfl, hk, hk1, hk0⟩
  · have e1 : R = xs := by rw [HR.out, HN.out, keptTo_all (Nat.le_refl _) hz, List.take_length]
    have e2 : R.length = n := by rw [e1, HN.out]
    have E1 := Lib.hid e1
    have E2 := Lib.hid e2
    have hkz : (z == -1) = true := by rw [hz0]; rfl
    clear hz e1 e2 hz0
    go_wp2_with fail
    go_ret
    exact ⟨by rw [E2.out]; rfl, by rw [E1.out]; exact HT1.out.ints, HA1.out⟩
  · have HK := Lib.hid (KeptAt2.start hk hk1 hk0)
    rw [← HN.out] at hk
    clear hk1 hk0
    have hkz : ((k : Int) == -1) = false := by simp
    go_wp2_with fail
    go_loopw [5, 6] (fun i5 i6 wr => ∃ (i j : Nat) (T : List Int), i5 = .int .i64 i ∧ i6 = .int .i64 j ∧ KeptAt2 p xs T i j ∧ TabQ wr g T ∧ Aft g w wr) (fun _ i6 _ => n - (intOf i6).toNat)
    case atStart => exact ⟨k, k + 1, xs, rfl, rfl, HK.out, HT1.out, HA1.out⟩
    case round =>
      obtain ⟨i, j, T, rfl, rfl, hK, hTT, hA⟩ := hrel
      obtain ⟨wk, rfl⟩ : ∃ wk : World, wk = wr := ⟨_, rfl⟩
      have HK := Lib.hid hK
      have HTT := Lib.hid hTT
      have HA := Lib.hid hA
      have hij := hK.lt
      have hjn := hK.le
      rw [← HN.out] at hjn
      have hTl := hK.len
      rw [← HN.out] at hTl
      have hbl := hTT.lt
      clear hK hTT hA
      by_cases hlt : j < n
      · have hlt' : (j : Int) < n := by omega
        obtain ⟨h, hh⟩ : ∃ h, h = xs.getD j 0 := ⟨_, rfl⟩
        have hcell := HTT.out.cell (i := j) (by omega)
        rw [HK.out.back j (Nat.le_refl _) (by have := HN.out; omega), ← hh] at hcell
        have HH := Lib.hid hh
        have HASK := Lib.hid (HP.out wk HA.out h)
        have HTL := Lib.hid hTl
        clear hh hTl
        go_wp2_with fail
        rw [hF, Oper.upon_enter]
        refine HASK.out.mono ?_
        rintro e w5 ⟨rfl, hB5⟩
        have HA5 := Lib.hid (Aft.below HA.out hB5)
        have hT5 := HTT.out.below hB5 HTT.out.lt
        have HT5 := Lib.hid hT5
        have hbl5 := hT5.lt
        have hc5 := hT5.cell (i := i) (by have := HTL.out; omega)
        have hf5 := hT5.free i
        obtain ⟨d, hd⟩ : ∃ d, d = p h := ⟨_, rfl⟩
        have HD := Lib.hid hd
        rw [← hd]
        clear hB5 hT5 hcell hd HASK
        cases d with
        | false =>
          have HK1 := Lib.hid (HK.out.take (by have := HN.out; omega) (by rw [← HH.out]; exact HD.out.symm))
          have hi' : (i : Int) < n := by omega
          go_wp2_with fail
          go_roundw
          case rel =>
            refine ⟨i + 1, j + 1, _, by simp, by simp, HK1.out, ?_, ?_⟩
            · rw [← HH.out]; exact HT5.out.set (by have := HTL.out; omega) _
            · exact Hold.trans HA5.out (Hold.set _ _ _ _)
          case measure => simp [intOf]; omega
        | true =>
          have HK1 := Lib.hid (HK.out.skip (by have := HN.out; omega) (by rw [← HH.out]; exact HD.out.symm))
          clear hc5 hf5
          go_wp2_with fail
          go_roundw
          case rel => exact ⟨i, j + 1, T, rfl, by simp, HK1.out, HT5.out, HA5.out⟩
          case measure => simp [intOf]; omega
      · obtain rfl : j = n := by omega
        have hin : i ≤ j := by omega
        obtain ⟨T', l1, l2, l3⟩ := tabq_zeros g (j - i) i wk T HTT.out (by omega)
        have e1 : R = T'.take i := by rw [l2, HK.out.front, HR.out]
        have e2 : R.length = i := by rw [HK.out.num, HR.out]
        have HTN := Lib.hid l3
        have E1 := Lib.hid e1
        have E2 := Lib.hid e2
        have L1 := Lib.hid l1
        have HTL := Lib.hid hTl
        clear l1 l2 l3 e1 e2 hTl
        go_wp2_with (with_reducible refine wpList_clear_tabq rfl _ 31 rfl A_und31 g i (j - i) (c - i) T (by first | rfl | simp [go_sem]) (by omega) HTT.out (by have := HTL.out; omega) ?_)
        go_ret
        refine ⟨by rw [E2.out]; rfl, ?_, Hold.trans HA.out (aft_setCells _ _ _ _)⟩
        have hI := HTN.out.ints
        refine ⟨hI.1, fun q hq => ?_⟩
        rw [E2.out] at hq
        rw [hI.2 q (by have := HTL.out; have := L1.out; omega), E1.out]
        simp [List.getD_eq_getElem?_getD, List.getElem?_take, hq]
end Go.Proofs.Ytimedmkpenbmkaa

namespace Go.Proofs.Ytimedmkpenbmkaa
open Go.RowKit Go.Shelf
set_option linter.unusedSimpArgs false
set_option linter.unusedVariables false

/-! IndexFunc, ContainsFunc and DeleteFunc of any list that can be read -/
set_option maxHeartbeats 1000000 in
set_option maxRecDepth 100000 in
theorem indexFuncE (F : FuncId) (E : Value) (a : Option Addr) (cap : Nat) (w : World) :
    Calls Try.prog 119 #[.slice a 0 cap, .func (.func F) #[] #[E]] w fun e w' => e = .returned (.int .i64 (-1)) ∧ Below w.heap.size w w' := by
  go_enter Try.func119, Try.ntmps119
  go_wp2_with fail
  go_loopw [8] (fun i wr => i = .int .i64 0 ∧ Below w.heap.size w wr) (fun i _ => 0)
  case atStart => exact ⟨rfl, Below.refl _ _⟩
  case round =>
    obtain ⟨rfl, hB⟩ := hrel
    go_wp2_with fail
    go_ret
    exact ⟨rfl, hB⟩
theorem indexFuncR (F : FuncId) (hF : Entered F) (E : Value) (p : Int → Bool) (v : Value) (xs : List Int) (hl : xs.length ≤ 1000000) (w : World) (hR : RdI w v xs) (hp : ∀ W, Below w.heap.size w W → AskI F E p W) :
    Calls Try.prog 119 #[v, .func (.func F) #[] #[E]] w fun e w' => ∃ z : Int, e = .returned (.int .i64 z) ∧ idxOk p xs z ∧ Below w.heap.size w w' := by
  obtain ⟨_, a, cap, rfl, hI⟩ := hR
  by_cases h0 : xs = []
  · subst h0
    refine (indexFuncE F E a cap w).mono ?_
    rintro e w' ⟨rfl, hB⟩
    exact ⟨-1, rfl, .inl ⟨rfl, fun i hi => absurd hi (Nat.not_lt_zero _)⟩, hB⟩
  · obtain ⟨b, o, rfl, hI2⟩ := hI h0
    exact indexFuncI F hF E p b o xs.length cap xs rfl hl w hI2 hp
theorem idx_any {p : Int → Bool} {xs : List Int} {z : Int} (h : idxOk p xs z) : decide (z ≥ 0) = xs.any p := by
  rcases h with ⟨rfl, h⟩ | ⟨k, rfl, hk, h1, _⟩
  · have : xs.any p = false := by
      rw [List.any_eq_false]
      intro x hx
      obtain ⟨i, hi, rfl⟩ := List.getElem_of_mem hx
      have := h i hi
      rw [List.getD_eq_getElem?_getD, List.getElem?_eq_getElem hi] at this
      simpa using this
    rw [this]; simp
  · have : xs.any p = true := by
      rw [List.any_eq_true]
      refine ⟨xs.getD k 0, ?_, h1⟩
      rw [List.getD_eq_getElem?_getD, List.getElem?_eq_getElem hk]
      exact List.getElem_mem hk
    rw [this]; simp
set_option maxHeartbeats 1000000 in
theorem containsFuncR (F : FuncId) (hF : Entered F) (E : Value) (p : Int → Bool) (v : Value) (xs : List Int) (hl : xs.length ≤ 1000000) (w : World) (hR : RdI w v xs) (hp : ∀ W, Below w.heap.size w W → AskI F E p W) :
    Calls Try.prog 64 #[v, .func (.func F) #[] #[E]] w fun e w' => e = .returned (.bool (xs.any p)) ∧ Below w.heap.size w w' := by
  have HX := Lib.hid (indexFuncR F hF E p v xs hl w hR hp)
  clear hR hp
  go_enter Try.func64, Try.ntmps64
  go_wp2_with fail
  refine HX.out.mono ?_
  rintro e w1 ⟨z, rfl, hz, hB⟩
  have HZ := Lib.hid (idx_any hz)
  have HB := Lib.hid hB
  clear hz hB HX
  go_wp2
  go_ret
  exact ⟨by show Ending.returned (.bool (decide (z ≥ 0))) = _; rw [HZ.out], HB.out⟩
set_option maxHeartbeats 1000000 in
set_option maxRecDepth 100000 in
theorem deleteFuncE (F : FuncId) (E : Value) (a : Option Addr) (cap : Nat) (w : World) :
    Calls Try.prog 72 #[.slice a 0 cap, .func (.func F) #[] #[E]] w fun e w' => e = .returned (.slice a 0 cap) ∧ Below w.heap.size w w' := by
  have HX := Lib.hid (indexFuncE F E a cap w)
  go_enter Try.func72, Try.ntmps72
  go_wp2_with fail
  refine HX.out.mono ?_
  rintro e w1 ⟨rfl, hB⟩
  go_wp2_with fail
  go_ret
  exact ⟨rfl, hB⟩
/-- what DeleteFunc leaves of a list that is owned; only its own row is written -/
theorem deleteFuncR (F : FuncId) (hF : Entered F) (E : Value) (p : Int → Bool) (base : Nat) (a : Option Addr) (cap : Nat) (xs : List Int) (hl : xs.length ≤ 1000000) (w : World) (hO : w.ownsRow base 3 1 (.slice a xs.length cap) xs.length (xs.map (Value.int .i64)))
    (hp : xs ≠ [] → ∀ W g, a = some ⟨g, 0, none⟩ → base ≤ g → g < w.heap.size → (∃ cur, w.heap[g]? = some (.cells cur 3 (0, 0))) → Aft g w W → AskI F E p W) :
    Calls Try.prog 72 #[.slice a xs.length cap, .func (.func F) #[] #[E]] w fun e w' => e = .returned (.slice a (keptTo p xs xs.length).length cap) ∧ RdI w' (.slice a (keptTo p xs xs.length).length cap) (keptTo p xs xs.length) ∧ ∃ g, base ≤ g ∧ (xs ≠ [] → a = some ⟨g, 0, none⟩ ∧ g < w.heap.size ∧ ∃ cur, w.heap[g]? = some (.cells cur 3 (0, 0))) ∧ (xs = [] → w.heap.size ≤ g) ∧ Aft g w w' := by
  by_cases h0 : xs = []
  · subst h0
    refine (deleteFuncE F E a cap w).mono ?_
    rintro e w' ⟨rfl, hB⟩
    exact ⟨rfl, ⟨by simp [keptTo], a, cap, rfl, fun hn => absurd rfl hn⟩, base + w.heap.size, by omega, fun hn => absurd rfl hn, fun _ => by omega, Aft.below (Aft.of (Hold.refl _ _)) hB⟩
  · obtain ⟨g, rfl, hb, hc, hT⟩ := TabQ.of_own hO h0
    have hcur : ∃ cur, w.heap[g]? = some (.cells cur 3 (0, 0)) := by obtain ⟨cur, h, _⟩ := hT; exact ⟨cur, h⟩
    refine (deleteFuncQ F hF E p g xs.length cap hc xs rfl hl w hT (fun W hA => hp h0 W g rfl hb hT.lt hcur hA)).mono ?_
    rintro e w' ⟨rfl, hI, hA⟩
    refine ⟨rfl, RdI.mk' hI ?_, g, hb, fun _ => ⟨rfl, hT.lt, hcur⟩, fun e => absurd e h0, hA⟩
    have : (keptTo p xs xs.length).length ≤ xs.length := by unfold keptTo; rw [List.take_length]; exact List.length_filter_le _ _
    omega

theorem entered74 : Entered 74 := fun args W => by kernel_rfl
theorem entered76 : Entered 76 := fun args W => by kernel_rfl
theorem entered77 : Entered 77 := fun args W => by kernel_rfl
set_option maxHeartbeats 1000000 in
theorem ask74 (c : Nat) (v : Value) (D : List Int) (W : World) (h : W.cell? ⟨c, 0, none⟩ = some v) (hR : RdI W v D) : AskI 74 (.pointer (some ⟨c, 0, none⟩)) (fun h => D.contains h) W := by
  intro x
  have hl : c < W.heap.size := by
    rcases Nat.lt_or_ge c W.heap.size with h' | h'
    · exact h'
    · simp [World.cell?, Array.getElem?_eq_none h'] at h
  have HC := Lib.hid (contains_rd v D x W hR)
  obtain ⟨_, a, cap, rfl, -⟩ := hR
  go_enter Try.func74, Try.ntmps74
  go_wp2_with fail
  refine HC.out.mono ?_
  rintro e w1 ⟨rfl, hB⟩
  have HB := Lib.hid hB
  clear HC hB
  go_wp2_with fail
  go_ret
  refine ⟨?_, HB.out⟩
  show Ending.returned (.bool (decide (x ∈ D))) = Ending.returned (.bool (D.contains x))
  congr 2; rw [Bool.eq_iff_iff]; simp
set_option maxHeartbeats 1000000 in
theorem ask76 (c : Nat) (v : Value) (D : List Int) (W : World) (h : W.cell? ⟨c, 0, none⟩ = some v) (hR : RdI W v D) : AskI 76 (.pointer (some ⟨c, 0, none⟩)) (fun h => !D.contains h) W := by
  intro x
  have hl : c < W.heap.size := by
    rcases Nat.lt_or_ge c W.heap.size with h' | h'
    · exact h'
    · simp [World.cell?, Array.getElem?_eq_none h'] at h
  have HC := Lib.hid (contains_rd v D x W hR)
  obtain ⟨_, a, cap, rfl, -⟩ := hR
  go_enter Try.func76, Try.ntmps76
  go_wp2_with fail
  refine HC.out.mono ?_
  rintro e w1 ⟨rfl, hB⟩
  have HB := Lib.hid hB
  clear HC hB
  go_wp2_with fail
  go_ret
  refine ⟨?_, HB.out⟩
  show Ending.returned (.bool (!decide (x ∈ D))) = Ending.returned (.bool (!D.contains x))
  congr 3; rw [Bool.eq_iff_iff]; simp
set_option maxHeartbeats 1000000 in
theorem ask77 (c : Nat) (v : Value) (D : List Int) (W : World) (h : W.cell? ⟨c, 0, none⟩ = some v) (hR : RdI W v D) : AskI 77 (.pointer (some ⟨c, 0, none⟩)) (fun h => !D.contains h) W := by
  intro x
  have hl : c < W.heap.size := by
    rcases Nat.lt_or_ge c W.heap.size with h' | h'
    · exact h'
    · simp [World.cell?, Array.getElem?_eq_none h'] at h
  have HC := Lib.hid (contains_rd v D x W hR)
  obtain ⟨_, a, cap, rfl, -⟩ := hR
  go_enter Try.func77, Try.ntmps77
  go_wp2_with fail
  refine HC.out.mono ?_
  rintro e w1 ⟨rfl, hB⟩
  have HB := Lib.hid hB
  clear HC hB
  go_wp2_with fail
  go_ret
  refine ⟨?_, HB.out⟩
  show Ending.returned (.bool (!decide (x ∈ D))) = Ending.returned (.bool (!D.contains x))
  congr 3; rw [Bool.eq_iff_iff]; simp
end Go.Proofs.Ytimedmkpenbmkaa

namespace Go.Proofs.Ytimedmkpenbmkaa
open Go.RowKit Go.Shelf
set_option linter.unusedSimpArgs false
set_option linter.unusedVariables false

/-! the calls for houses that are named, in whatever order -/
theorem kind_count : ∀ (xs : List Int), (kindIdx xs 1).length = cnt1 xs := by
  intro xs
  have h : ∀ k, k ≤ xs.length → (kindTo xs 1 k).length = cnt1 (xs.take k) := by
    intro k
    induction k with
    | zero => intro _; rfl
    | succ k ih =>
      intro hk
      have e1 : xs.take (k + 1) = xs.take k ++ [xs[k]'(by omega)] := List.take_succ_eq_append_getElem (by omega)
      have e2 : xs.getD k 0 = xs[k]'(by omega) := by rw [List.getD_eq_getElem?_getD, List.getElem?_eq_getElem (by omega)]; rfl
      have ih := ih (by omega)
      unfold cnt1 at ih ⊢
      rw [e1, List.countP_append]
      by_cases e : (xs.getD k 0 == 1) = true
      · rw [kindTo_yes e, List.length_append, ih, List.countP_cons_of_pos (by rw [← e2]; exact e)]; rfl
      · rw [kindTo_no (by simpa using e), ih, List.countP_cons_of_neg (by rw [← e2]; exact e)]; rfl
  have := h xs.length (Nat.le_refl _)
  rwa [List.take_length] at this
theorem houses_ten {t : Hr.Town} (hc : checkErr t.wide t.plots = 0) : (kindIdx t.plots 1).length ≤ 10 := by
  rw [kind_count]
  unfold checkErr at hc
  by_cases h1 : ((t.wide : Int) < 1 ∨ 6 < (t.wide : Int) ∨ t.plots.length < 1 ∨ 30 < t.plots.length ∨ (t.plots.length : Int) % (t.wide : Int) ≠ 0)
  · rw [if_pos h1] at hc; cases hc
  · rw [if_neg h1] at hc
    by_cases h2 : t.plots.any badPlot = true
    · rw [if_pos h2] at hc; cases hc
    · rw [if_neg h2] at hc
      by_cases h3 : 10 < cnt1 t.plots
      · rw [if_pos h3] at hc; cases hc
      · omega
theorem kind_nodup (xs : List Int) (k : Int) : (kindIdx xs k).Nodup := by
  unfold kindIdx kindTo List.Nodup
  rw [List.pairwise_map]
  exact (List.Pairwise.filter _ List.nodup_range).imp fun h => by omega

/-- houses of a town, each at most once -/
structure Named (t : Hr.Town) (hs : List Int) : Prop where
  ok : t.Ok
  chk : checkErr t.wide t.plots = 0
  all : ∀ h ∈ hs, h ∈ kindIdx t.plots 1
  nd : hs.Nodup
theorem Named.len {t : Hr.Town} {hs : List Int} (h : Named t hs) : hs.length ≤ 10 := by
  have le : ∀ {A B : List Int}, A.Nodup → (∀ a ∈ A, a ∈ B) → A.length ≤ B.length := by
    intro A
    induction A with
    | nil => intro B _ _; simp
    | cons a A ih =>
      intro B hn hs
      rw [List.nodup_cons] at hn
      have h1 := ih (B := B.erase a) hn.2 fun x hx => by
        have hne : x ≠ a := fun e => hn.1 (by rw [← e]; exact hx)
        exact (List.mem_erase_of_ne hne).2 (hs x (by simp [hx]))
      have h2 := hs a (by simp)
      rw [List.length_erase_of_mem h2] at h1
      have : 0 < B.length := List.length_pos_of_mem h2
      simp; omega
  exact Nat.le_trans (le h.nd h.all) (houses_ten h.chk)
theorem Named.lis {t : Hr.Town} {hs : List Int} (h : Named t hs) (wind voice : Int) : (lis t wind voice (inL hs)).length ≤ 10 := by
  rw [lis_count h.all h.nd]; exact h.len
def qN (t : Hr.Town) (hs : List Int) : List Bool := (qAll t.plots (List.replicate 30 false) hs).2
theorem named_OQ {t : Hr.Town} {hs : List Int} (h : Named t hs) (wind voice : Int) (ha : airErr wind voice = 0) (b o cap : Nat) (a : Option Addr) (hcap : Nat) (w : World) (hP : RdI w (.slice (some ⟨b, o, none⟩) t.plots.length cap) t.plots)
    (hR : RdI w (.slice a hs.length hcap) hs) :
    Ints w b o t.plots ∧ OQ w t.wide wind voice (.slice (some ⟨b, o, none⟩) t.plots.length cap) (.slice a hs.length hcap) (qN t hs) := by
  have hne : t.plots ≠ [] := by intro e; have := (check_len h.chk).2; rw [e] at this; simp at this
  obtain ⟨b', o', e', -, hI⟩ := rd_ints hP hne
  cases e'
  have hn30 : t.plots.length ≤ 30 := h.ok.n30
  have := h.len
  exact ⟨hI, oq_of t h.chk wind voice ha b o cap a hcap hs (by omega) w (rd_plots hP (by omega)) hI hR (lis_named h.ok wind voice h.all h.nd).1⟩
theorem Few_n {t : Hr.Town} {hs : List Int} (h : Named t hs) (wind voice : Int) (ha : airErr wind voice = 0) (hh : Heard (lis t wind voice (inL hs))) (b o cap : Nat) (a : Option Addr) (hcap : Nat) (w : World) (hP : RdI w (.slice (some ⟨b, o, none⟩) t.plots.length cap) t.plots)
    (hR : RdI w (.slice a hs.length hcap) hs) :
    Calls Try.prog 46 #[.agg #[.int .i64 t.wide, .slice (some ⟨b, o, none⟩) t.plots.length cap], .agg #[.int .i64 wind, .int .i64 voice], .slice a hs.length hcap] w fun e w' =>
      ∃ v, e = .returned (.tuple #[v, .int .i64 0]) ∧ Below w.heap.size w w' ∧ RdI w' v (chooseP (lis t wind voice (inL hs)) 30).1 := by
  obtain ⟨hI, hOQ⟩ := named_OQ h wind voice ha b o cap a hcap w hP hR
  obtain ⟨w0, w4, v1, v40⟩ := wind_ok ha
  obtain ⟨-, hnl, hl⟩ := lis_named h.ok wind voice h.all h.nd
  refine (Fewest_ok t h.ok wind voice w0 w4 b o cap _ (qN t hs) hnl w hI hOQ).mono ?_
  rintro e w' ⟨v, rfl, hB, h1, h2⟩
  change lis t wind voice ((qN t hs).getD · false) = _ at hl
  rw [hl] at h1 h2 ⊢
  rw [heard_err hh] at h2 ⊢
  exact ⟨v, rfl, hB, RdI.own rfl rfl (h2 rfl)⟩
theorem Must_n {t : Hr.Town} {hs : List Int} (h : Named t hs) (wind voice : Int) (ha : airErr wind voice = 0) (hh : Heard (lis t wind voice (inL hs))) (b o cap : Nat) (a : Option Addr) (hcap : Nat) (w : World) (hP : RdI w (.slice (some ⟨b, o, none⟩) t.plots.length cap) t.plots)
    (hR : RdI w (.slice a hs.length hcap) hs) :
    Calls Try.prog 48 #[.agg #[.int .i64 t.wide, .slice (some ⟨b, o, none⟩) t.plots.length cap], .agg #[.int .i64 wind, .int .i64 voice], .slice a hs.length hcap] w fun e w' =>
      ∃ v, e = .returned (.tuple #[v, .int .i64 0]) ∧ Below w.heap.size w w' ∧ RdI w' v (mustTo (lis t wind voice (inL hs)) t.plots.length) := by
  obtain ⟨hI, hOQ⟩ := named_OQ h wind voice ha b o cap a hcap w hP hR
  obtain ⟨w0, w4, v1, v40⟩ := wind_ok ha
  obtain ⟨-, hnl, hl⟩ := lis_named h.ok wind voice h.all h.nd
  refine (Must_ok t h.ok wind voice w0 w4 b o cap _ (qN t hs) hnl w hI hOQ).mono ?_
  rintro e w' ⟨v, rfl, hB, h1, h2⟩
  change lis t wind voice ((qN t hs).getD · false) = _ at hl
  rw [hl] at h1 h2 ⊢
  rw [heard_err hh] at h2 ⊢
  exact ⟨v, rfl, hB, RdI.own rfl rfl (h2 rfl)⟩
def natI (l : List Nat) : List Int := l.map fun (x : Nat) => (x : Int)
theorem natI_len (l : List Nat) : (natI l).length = l.length := by simp [natI]
theorem OwnN.rd {W : World} {base : Nat} {v : Value} {l : List Nat} (h : OwnN W base v l) : RdI W v (natI l) :=
  RdI.own (by simp [natI]) (by simp [natI]) h
theorem Apart_n {t : Hr.Town} {hs : List Int} (h : Named t hs) (wind voice : Int) (ha : airErr wind voice = 0) (b o cap : Nat) (a : Option Addr) (hcap : Nat) (w : World) (hP : RdI w (.slice (some ⟨b, o, none⟩) t.plots.length cap) t.plots)
    (hR : RdI w (.slice a hs.length hcap) hs) :
    Calls Try.prog 50 #[.agg #[.int .i64 t.wide, .slice (some ⟨b, o, none⟩) t.plots.length cap], .agg #[.int .i64 wind, .int .i64 voice], .slice a hs.length hcap] w fun e w' =>
      ∃ v, e = .returned (.tuple #[v, .int .i64 0]) ∧ Below w.heap.size w w' ∧ RdI w' v (natI (apartP (lis t wind voice (inL hs)))) := by
  obtain ⟨hI, hOQ⟩ := named_OQ h wind voice ha b o cap a hcap w hP hR
  obtain ⟨w0, w4, v1, v40⟩ := wind_ok ha
  obtain ⟨-, hnl, hl⟩ := lis_named h.ok wind voice h.all h.nd
  refine (Apart_ok t h.ok wind voice w0 w4 b o cap _ (qN t hs) hnl w hI hOQ).mono ?_
  rintro e w' ⟨v, rfl, hB, h1⟩
  change lis t wind voice ((qN t hs).getD · false) = _ at hl
  rw [hl] at h1
  exact ⟨v, rfl, hB, h1.rd⟩
theorem Best_n {t : Hr.Town} {hs : List Int} (h : Named t hs) (wind voice : Int) (ha : airErr wind voice = 0) (b o cap : Nat) (a : Option Addr) (hcap : Nat) (st : Nat) (hst : st ≤ 30) (w : World) (hP : RdI w (.slice (some ⟨b, o, none⟩) t.plots.length cap) t.plots)
    (hR : RdI w (.slice a hs.length hcap) hs) :
    Calls Try.prog 52 #[.agg #[.int .i64 t.wide, .slice (some ⟨b, o, none⟩) t.plots.length cap], .agg #[.int .i64 wind, .int .i64 voice], .slice a hs.length hcap, .int .i64 st] w fun e w' =>
      ∃ v, e = .returned (.tuple #[v, .int .i64 (chooseP (lis t wind voice (inL hs)) st).2, .int .i64 0]) ∧ Below w.heap.size w w' ∧ RdI w' v (chooseP (lis t wind voice (inL hs)) st).1 := by
  obtain ⟨hI, hOQ⟩ := named_OQ h wind voice ha b o cap a hcap w hP hR
  obtain ⟨w0, w4, v1, v40⟩ := wind_ok ha
  obtain ⟨-, hnl, hl⟩ := lis_named h.ok wind voice h.all h.nd
  refine (Best_ok t h.ok wind voice w0 w4 b o cap _ (qN t hs) hnl st hst w hI hOQ).mono ?_
  rintro e w' ⟨v, rfl, hB, h1⟩
  change lis t wind voice ((qN t hs).getD · false) = _ at hl
  rw [hl] at h1 ⊢
  exact ⟨v, rfl, hB, RdI.own rfl rfl h1⟩

/-! what the law of a house more compares -/
/-- the houses of a town that are not deaf -/
def notDeaf (t : Hr.Town) (wind voice : Int) : List Int := keptTo (fun h => (deafOf t wind voice).contains h) (kindIdx t.plots 1) (kindIdx t.plots 1).length
theorem mem_notDeaf {t : Hr.Town} {wind voice x : Int} : x ∈ notDeaf t wind voice ↔ x ∈ kindIdx t.plots 1 ∧ x ∉ deafOf t wind voice := by
  unfold notDeaf keptTo
  rw [List.take_length, List.mem_filter]
  simp
theorem notDeaf_named {t : Hr.Town} (ok : t.Ok) (hc : checkErr t.wide t.plots = 0) (wind voice : Int) : Named t (notDeaf t wind voice) :=
  ⟨ok, hc, fun h hh => (mem_notDeaf.1 hh).1, by
    unfold notDeaf keptTo
    rw [List.take_length]
    exact (kind_nodup _ _).filter _⟩
theorem mem_deafOf {t : Hr.Town} {wind voice x : Int} : x ∈ deafOf t wind voice ↔ ∃ y ∈ lis t wind voice fun _ => true, deafB y.2 = true ∧ x = (y.1 : Int) := by
  unfold deafOf deafTo
  rw [List.take_length, List.mem_map]
  constructor
  · rintro ⟨y, hy, rfl⟩
    rw [List.mem_filter] at hy
    exact ⟨y, hy.1, hy.2, rfl⟩
  · rintro ⟨y, hy, hd, rfl⟩
    exact ⟨y, by rw [List.mem_filter]; exact ⟨hy, hd⟩, rfl⟩
theorem lis_all {t : Hr.Town} {wind voice : Int} {hs : List Int} {x : Nat × List Bool} (h : x ∈ lis t wind voice (inL hs)) : x ∈ lis t wind voice fun _ => true := by
  unfold lis lisTo at h ⊢
  rw [List.mem_map] at h ⊢
  obtain ⟨q, hq, rfl⟩ := h
  rw [List.mem_filter, Bool.and_eq_true] at hq
  exact ⟨q, by rw [List.mem_filter, Bool.and_eq_true]; exact ⟨hq.1, hq.2.1, rfl⟩, rfl⟩
theorem heard_of {t : Hr.Town} {wind voice : Int} {hs : List Int} (h : ∀ x ∈ hs, x ∉ deafOf t wind voice) : Heard (lis t wind voice (inL hs)) := fun x hx => by
  refine ⟨lis_30 _ _ _ _ x hx, ?_⟩
  cases hd : deafB x.2
  · rfl
  · exact absurd (mem_deafOf.2 ⟨x, lis_all hx, hd, rfl⟩) (h _ (mem_lisN.1 hx).2.2.1)
theorem Named.perm {t : Hr.Town} {A M : List Int} (h : Named t A) (hp : M.Perm A) : Named t M :=
  ⟨h.ok, h.chk, fun x hx => h.all x (hp.mem_iff.1 hx), hp.nodup_iff.2 h.nd⟩
theorem Named.tail {t : Hr.Town} {m : Int} {M : List Int} (h : Named t (m :: M)) : Named t M :=
  ⟨h.ok, h.chk, fun x hx => h.all x (List.mem_cons_of_mem _ hx), (List.nodup_cons.1 h.nd).2⟩
def cX (t : Hr.Town) (wind voice : Int) (A : List Int) : List Int := (chooseP (lis t wind voice (inL A)) 30).1
def cU (t : Hr.Town) (wind voice : Int) (A : List Int) : List Int := natI (apartP (lis t wind voice (inL A)))
def cM (t : Hr.Town) (wind voice : Int) (A : List Int) : List Int := mustTo (lis t wind voice (inL A)) t.plots.length
def cN (t : Hr.Town) (wind voice : Int) (A : List Int) (st : Nat) : Int := (chooseP (lis t wind voice (inL A)) st).2
theorem lis_perm {t : Hr.Town} {wind voice : Int} {A M : List Int} (hp : M.Perm A) : lis t wind voice (inL M) = lis t wind voice (inL A) := lis_congr fun x => hp.mem_iff
theorem cX_perm {t : Hr.Town} {wind voice : Int} {A M : List Int} (hp : M.Perm A) : cX t wind voice M = cX t wind voice A := by unfold cX; rw [lis_perm hp]
theorem cU_perm {t : Hr.Town} {wind voice : Int} {A M : List Int} (hp : M.Perm A) : cU t wind voice M = cU t wind voice A := by unfold cU; rw [lis_perm hp]
theorem cM_perm {t : Hr.Town} {wind voice : Int} {A M : List Int} (hp : M.Perm A) : cM t wind voice M = cM t wind voice A := by unfold cM; rw [lis_perm hp]
theorem cX_nil (t : Hr.Town) (wind voice : Int) : cX t wind voice [] = [] := by
  have e : lis t wind voice (inL []) = [] := by
    rw [List.eq_nil_iff_forall_not_mem]
    intro x hx
    have := (mem_lisN.1 hx).2.2.1
    cases this
  obtain ⟨ch, n, h1, h2, hc⟩ := chosen (lis t wind voice (inL [])) (by rw [e]; simp) 30
  unfold cX
  rw [h1]
  have h3 := hc.short [] (by simp) (by rw [← hc.cnt, e]; simp [cntS])
  have : ch = [] := List.length_eq_zero_iff.1 (by simpa using h3)
  rw [this]; rfl
theorem any_no {A B : List Int} (h : ∀ s ∈ A, s ∈ B) : A.any (fun s => !B.contains s) = false := by
  rw [List.any_eq_false]
  intro s hs
  simp [h s hs]
theorem more_must {t : Hr.Town} {A : List Int} (h : Named t A) (wind voice : Int) (hh : Heard (lis t wind voice (inL A))) : (cM t wind voice A).any (fun s => !(cX t wind voice A).contains s) = false := by
  obtain ⟨ch, n, h1, h2, hc⟩ := chosen (lis t wind voice (inL A)) (h.lis wind voice) 30
  refine any_no fun s hs => ?_
  unfold cX
  rw [h1]
  unfold cM at hs
  obtain ⟨p, rfl⟩ : ∃ p : Nat, s = p := by
    unfold mustTo at hs
    obtain ⟨p, _, e⟩ := List.mem_map.1 hs
    exact ⟨p, e.symm⟩
  exact List.mem_map.2 ⟨p, must_in hh (Nat.le_refl _) hc hs, rfl⟩
/-- a house more, or less -/
structure MoreLaw (t : Hr.Town) (wind voice : Int) (M less : List Int) : Prop where
  n : cN t wind voice M (cX t wind voice M).length = (M.length : Nat)
  x30 : (cX t wind voice M).length ≤ 30
  z1 : (cX t wind voice less).length ≤ (cX t wind voice M).length
  z2 : (cX t wind voice M).length ≤ (cX t wind voice less).length + 1
  w1 : (cU t wind voice less).length ≤ (cU t wind voice M).length
  w2 : (cU t wind voice M).length ≤ (cU t wind voice less).length + 1
  u30 : (cU t wind voice M).length ≤ 30
  few : (cM t wind voice less).any (fun s => !(cM t wind voice M).contains s) = false
theorem more_law {t : Hr.Town} {m : Int} {M : List Int} (h : Named t (m :: M)) (wind voice : Int) (hh : Heard (lis t wind voice (inL (m :: M)))) : MoreLaw t wind voice (m :: M) M := by
  obtain ⟨p, rfl, hp1, hp2⟩ := mem_kindIdx.1 (h.all m (by simp))
  have hnd := List.nodup_cons.1 h.nd
  obtain ⟨m2, hm2⟩ : ∃ m2, m2 = lis t wind voice (inL ((p : Int) :: M)) := ⟨_, rfl⟩
  obtain ⟨l2, hl2⟩ : ∃ l2, l2 = lis t wind voice (inL M) := ⟨_, rfl⟩
  have hsub : l2.Sublist m2 := by rw [hm2, hl2]; exact lis_sub fun x hx => List.mem_cons_of_mem _ hx
  have hlen : m2.length = M.length + 1 := by rw [hm2, lis_count h.all h.nd]; rfl
  have hms : (fsts m2).Pairwise (· < ·) := by rw [hm2]; exact lis_sorted _ _ _ _
  have hls : (fsts l2).Pairwise (· < ·) := by rw [hl2]; exact lis_sorted _ _ _ _
  obtain ⟨x0, hx0⟩ : ∃ x0 : Nat × List Bool, x0 = (p, ears t wind voice p) := ⟨_, rfl⟩
  have hin : x0 ∈ m2 := by rw [hx0, hm2]; exact mem_lisN.2 ⟨hp1, hp2, by simp, rfl⟩
  have hor : ∀ x ∈ m2, x ∈ l2 ∨ x = x0 := fun x hx => by
    rw [hm2, mem_lisN] at hx
    obtain ⟨a, b, c, d⟩ := hx
    rcases List.mem_cons.1 c with e | e
    · right
      have e2 : x.1 = p := by omega
      rw [hx0, ← e2, ← d]
    · left; rw [hl2, mem_lisN]; exact ⟨a, b, e, d⟩
  have hmn : m2.Nodup := List.Pairwise.of_map (fun x : Nat × List Bool => x.1) (fun a b (h : a.1 ≠ b.1) (e : a = b) => h (by rw [e])) (sorted_nodup hms)
  have hfl : l2 = m2.filter fun x => decide (x ≠ x0) := by
    rw [hl2, hm2]
    unfold lis lisTo
    rw [List.filter_map]
    congr 1
    rw [List.filter_filter]
    apply List.filter_congr
    intro q hq
    show (t.at q == 1 && inL M q) = (decide ((q, ears t wind voice q) ≠ x0) && (t.at q == 1 && inL ((p : Int) :: M) q))
    unfold inL
    rw [hx0]
    by_cases e : q = p
    · subst e
      have : ¬ ((q : Int) ∈ M) := hnd.1
      simp [this]
    · have e2 : ¬ ((q : Int) = (p : Int)) := by omega
      have e3 : ((q, ears t wind voice q) ≠ (p, ears t wind voice p)) := fun h => e (congrArg Prod.fst h)
      simp [e2, e3, e]
  rw [← hm2] at hh
  have h10 := h.lis wind voice
  rw [← hm2] at h10
  have hl10 : l2.length ≤ 10 := Nat.le_trans hsub.length_le h10
  obtain ⟨ch, n, h1, h2, hc⟩ := chosen m2 h10 30
  obtain ⟨ch2, n2, g1, g2, hc2⟩ := chosen l2 hl10 30
  obtain ⟨ch3, n3, k1, k2, hc3⟩ := chosen m2 h10 ch.length
  obtain ⟨E, a1, a2⟩ := aparts m2 hms
  obtain ⟨F, b1, b2⟩ := aparts l2 hls
  have hX : cX t wind voice ((p : Int) :: M) = ch.map fun (x : Nat) => (x : Int) := by unfold cX; rw [← hm2, h1]
  have hX2 : cX t wind voice M = ch2.map fun (x : Nat) => (x : Int) := by unfold cX; rw [← hl2, g1]
  have hXl : (cX t wind voice ((p : Int) :: M)).length = ch.length := by rw [hX, List.length_map]
  have hU : (cU t wind voice ((p : Int) :: M)).length = E.length := by unfold cU; rw [natI_len, ← hm2, a1]; simp [fsts]
  have hU2 : (cU t wind voice M).length = F.length := by unfold cU; rw [natI_len, ← hl2, b1]; simp [fsts]
  have hmf := more_few hsub hh hor hin hc hc2
  have hma := more_apart hsub hmn hfl a2 b2
  refine ⟨?_, ?_, ?_, ?_, ?_, ?_, ?_, ?_⟩
  · unfold cN
    rw [hXl, ← hm2, k2, chosen_enough hh (Nat.le_refl _) hc hc3, hlen]; rfl
  · rw [hXl]; exact hc.len
  · rw [hXl, hX2, List.length_map]; exact hmf.1
  · rw [hXl, hX2, List.length_map]; exact hmf.2
  · rw [hU, hU2]; exact hma.1
  · rw [hU, hU2]; exact hma.2
  · rw [hU]; have := a2.sub.length_le; omega
  · refine any_no fun s hs => ?_
    unfold cM at hs ⊢
    rw [← hm2]
    rw [← hl2] at hs
    exact must_sub hsub s hs
end Go.Proofs.Ytimedmkpenbmkaa

/- The first region of a law: an air of a bell into its box, streets of a town: worlds go on by new memory, by the bell, and by filling a box. -/
namespace Go.Proofs.Ytimedmkpenbmkaa.Rg
open Go
theorem GrowL.skipA {P : Program} {G : World → World → Prop} {o : Oper} {ρ : Operand → Value} {w w' : World} {Φ : Value → World → Prop} (h : (execOp ρ o).run P w = .ok .skip w') (hg : G w w') (hv : Φ undef w') : GrowL G P o ρ w Φ := by
  unfold GrowL; rw [h]; exact ⟨hg, hv⟩
end Go.Proofs.Ytimedmkpenbmkaa.Rg
namespace Go.Proofs.Ytimedmkpenbmkaa
open Go.RowKit Go.Shelf
set_option linter.unusedSimpArgs false
set_option linter.unusedVariables false

def AirV (wind voice : Int) : Prop := 0 ≤ wind ∧ wind ≤ 4 ∧ 1 ≤ voice ∧ voice ≤ 16
structure Ax (QB : Nat) (ma : Option Addr) (n mc : Nat) (B : Nat) (a b : World) : Prop where
  os : b.os = a.os
  tape : b.tape = a.tape
  output : b.output = a.output
  size : a.heap.size ≤ b.heap.size
  bell : BellOk a QB ma n mc → BellOk b QB ma n mc
  same : ∀ k, k < a.heap.size → k ≠ QB → b.heap[k]? = a.heap[k]? ∨ (B ≤ k ∧ ∃ cs wind voice, AirV wind voice ∧ a.heap[k]? = some (.cells cs 27 (0, 0)) ∧ b.heap[k]? = some (.cells #[.int .i64 wind, .int .i64 voice] 27 (0, 0)))
section
variable {QB : Nat} {ma : Option Addr} {n mc B : Nat} {a b : World}
theorem Ax.of_gr (h : Below a.heap.size a b) : Ax QB ma n mc B a b := ⟨h.os, h.tape, h.output, h.size, fun hb => hb.below h, fun k hk _ => .inl (h.block k hk)⟩
theorem Ax.of_bell (h : Hold (fun k => k ≠ QB) a b) (hb : BellOk b QB ma n mc) : Ax QB ma n mc B a b := ⟨h.os, h.tape, h.output, h.size, fun _ => hb, fun k hk hn => .inl (h.same k hn hk)⟩
theorem Ax.aft (h : Ax QB ma n mc a.heap.size a b) : Aft QB a b := ⟨h.os, h.tape, h.output, h.size, fun k hk hl => by
  rcases h.same k hl hk with e | ⟨e, _⟩
  · exact e
  · omega⟩
theorem Ax.row {B0 : Nat} (h : Ax QB ma n mc B a b) (hq : QB < B0) {v : Value} {m : Nat} {l : List Value} (ho : a.ownsRow B0 3 1 v m l) : b.ownsRow B0 3 1 v m l := by
  refine ⟨ho.1, ?_⟩
  rcases ho.2 with h1 | ⟨g, cap, cur, h1, h2, h3, h4⟩
  · exact .inl h1
  · refine .inr ⟨g, cap, cur, h1, h2, ?_, h4⟩
    rcases h.same g (Array.getElem?_eq_some_iff.1 h3).1 (by omega) with e1 | ⟨_, cs, wind, voice, _, e1, _⟩
    · rw [e1]; exact h3
    · rw [h3] at e1
      injection e1 with e1
      injection e1 with _ e1
      cases e1
theorem Ax.isGr (QB : Nat) (ma : Option Addr) (n mc B : Nat) : Rg.IsGr (Ax QB ma n mc B) where
  refl w := .of_gr (Below.refl _ _)
  drew w := .of_gr ((Below.refl _ _).drew)
  trans {a b c} h k := ⟨k.os.trans h.os, k.tape.trans h.tape, k.output.trans h.output, Nat.le_trans h.size k.size, fun hb => k.bell (h.bell hb), fun i hi hn => by
    rcases k.same i (Nat.lt_of_lt_of_le hi h.size) hn with e1 | ⟨hB, cs, wd, vc, hA, e1, e2⟩
    · rcases h.same i hi hn with e2 | ⟨hB, cs, wd, vc, hA, e2, e3⟩
      · exact .inl (e1.trans e2)
      · exact .inr ⟨hB, cs, wd, vc, hA, e2, e1.trans e3⟩
    · rcases h.same i hi hn with e4 | ⟨_, cs', wd', vc', hA', e4, e5⟩
      · exact .inr ⟨hB, cs, wd, vc, hA, e4.symm.trans e1, e2⟩
      · exact .inr ⟨hB, cs', wd, vc, hA, e4, e2⟩⟩
theorem Ax.fill {p : Nat} {c0 c1 : Value} {wind voice : Int} (hA : AirV wind voice) (hQ : QB < B) (hm : n ≠ 0 → ∀ mb mo, ma = some ⟨mb, mo, none⟩ → mb < B) (hp : B ≤ p) (hb : a.heap[p]? = some (.cells #[c0, c1] 27 (0, 0))) :
    Ax QB ma n mc B a ((a.setCell ⟨p, 0, none⟩ (.int .i64 wind)).setCell ⟨p, 1, none⟩ (.int .i64 voice)) ∧ ((a.setCell ⟨p, 0, none⟩ (.int .i64 wind)).setCell ⟨p, 1, none⟩ (.int .i64 voice)).heap[p]? = some (.cells #[.int .i64 wind, .int .i64 voice] 27 (0, 0)) := by
  have h1 := heap_set_same (o := 0) (.int .i64 wind) hb
  have h2 := heap_set_same (o := 1) (.int .i64 voice) h1
  have h3 : ((a.setCell ⟨p, 0, none⟩ (.int .i64 wind)).setCell ⟨p, 1, none⟩ (.int .i64 voice)).heap[p]? = some (.cells #[.int .i64 wind, .int .i64 voice] 27 (0, 0)) := h2
  have hS : Hold (fun k => k ≠ p) a ((a.setCell ⟨p, 0, none⟩ (.int .i64 wind)).setCell ⟨p, 1, none⟩ (.int .i64 voice)) := (Hold.set _ _ _ _).trans (Hold.set _ _ _ _)
  refine ⟨⟨rfl, rfl, rfl, by simp, fun hbl => hbl.hold hS (by omega) (fun hn mb mo e => by have := hm hn mb mo e; show mb ≠ p; omega), fun k hk _ => ?_⟩, h3⟩
  by_cases e2 : k = p
  · subst e2
    exact .inr ⟨hp, _, wind, voice, hA, hb, h3⟩
  · exact .inl (hS.same k e2 hk)

def spA3 (t : Hr.Town) (pv : Value) (QB B : Nat) : Nat → List Value → Value → World → Prop
  | 0, _, v, _ => v = .pointer (some ⟨QB, 0, none⟩)
  | 1, _, v, _ => ∃ wind voice, AirV wind voice ∧ v = .agg #[.int .i64 wind, .int .i64 voice]
  | 2, _, v, _ => v = .agg #[.int .i64 t.wide, pv]
  | 3, _, v, w => QB < B ∧ w.ownsRow B 3 1 v (kindIdx t.plots 0).length ((kindIdx t.plots 0).map (Value.int .i64))
  | 4, _, v, w => ∃ p c0 c1, v = .pointer (some ⟨p, 0, none⟩) ∧ QB < B ∧ B ≤ p ∧ w.heap[p]? = some (.cells #[c0, c1] 27 (0, 0))
  | 5, L, v, w => ∃ p wind voice, L.getD 4 undef = .pointer (some ⟨p, 0, none⟩) ∧ AirV wind voice ∧ QB < B ∧ B ≤ p ∧ w.heap[p]? = some (.cells #[.int .i64 wind, .int .i64 voice] 27 (0, 0))
  | _, _, _, _ => False
theorem spA3_stable (t : Hr.Town) (pv : Value) (QB : Nat) (ma : Option Addr) (n mc B : Nat) : ∀ i L v w w', spA3 t pv QB B i L v w → Ax QB ma n mc B w w' → spA3 t pv QB B i L v w' := by
  intro i L v w w' h hg
  match i with
  | 0 => exact h
  | 1 => exact h
  | 2 => exact h
  | 3 => exact ⟨h.1, hg.row h.1 h.2⟩
  | 4 =>
    obtain ⟨p, c0, c1, h1, hq, h2, h3⟩ := h
    rcases hg.same p (Array.getElem?_eq_some_iff.1 h3).1 (by omega) with e | ⟨_, cs, wd, vc, _, e1, e2⟩
    · exact ⟨p, c0, c1, h1, hq, h2, e.trans h3⟩
    · exact ⟨p, _, _, h1, hq, h2, e2⟩
  | 5 =>
    obtain ⟨p, c0, c1, h1, hA, hq, h2, h3⟩ := h
    rcases hg.same p (Array.getElem?_eq_some_iff.1 h3).1 (by omega) with e | ⟨_, cs, wd, vc, hA', e1, e2⟩
    · exact ⟨p, c0, c1, h1, hA, hq, h2, e.trans h3⟩
    · exact ⟨p, _, _, h1, hA', hq, h2, e2⟩
end
end Go.Proofs.Ytimedmkpenbmkaa

namespace Go.Proofs.Ytimedmkpenbmkaa
open Go.RowKit Go.Shelf
set_option linter.unusedSimpArgs false
set_option linter.unusedVariables false

/-! a louder voice -/
theorem hearB_mono {t : Hr.Town} {wind v v' : Int} {h s : Nat} (hv : v ≤ v') (hb : hearB t wind v h s = true) : hearB t wind v' h s = true := by
  unfold hearB at hb ⊢
  simp only [Bool.and_eq_true, decide_eq_true_iff] at hb ⊢
  exact ⟨hb.1, hb.2.1, by omega⟩
theorem housesOf_mono {t : Hr.Town} {wind v v' : Int} {s : Nat} (hv : v ≤ v') : ∀ x ∈ housesOf t wind v s, x ∈ housesOf t wind v' s := fun x hx => by
  obtain ⟨p, rfl⟩ : ∃ p : Nat, x = p := by
    unfold housesOf housesTo at hx
    obtain ⟨p, _, e⟩ := List.mem_map.1 hx
    exact ⟨p, e.symm⟩
  rw [mem_housesOf] at hx ⊢
  exact ⟨hx.1, hx.2.1, hearB_mono hv hx.2.2⟩
theorem ears_get {t : Hr.Town} {wind voice : Int} {h s : Nat} : (ears t wind voice h).getD s false = (decide (s < 30) && hearB t wind voice h s) := by
  unfold ears
  rw [List.getD_eq_getElem?_getD, List.getElem?_map]
  by_cases e : s < 30
  · simp [List.getElem?_range, e]
  · simp [e]
theorem hit_ears {t : Hr.Town} {wind voice : Int} {S : List Nat} {h : Nat} : hit S (ears t wind voice h) = true ↔ ∃ s ∈ S, s < 30 ∧ hearB t wind voice h s = true := by
  unfold hit
  rw [List.any_eq_true]
  constructor
  · rintro ⟨s, hs, e⟩
    rw [ears_get, Bool.and_eq_true, decide_eq_true_iff] at e
    exact ⟨s, hs, e⟩
  · rintro ⟨s, hs, e⟩
    exact ⟨s, hs, by rw [ears_get, Bool.and_eq_true, decide_eq_true_iff]; exact e⟩
theorem hit_mono {t : Hr.Town} {wind v v' : Int} (hv : v ≤ v') {S : List Nat} {h : Nat} (hb : hit S (ears t wind v h) = true) : hit S (ears t wind v' h) = true := by
  rw [hit_ears] at hb ⊢
  obtain ⟨s, a, b, c⟩ := hb
  exact ⟨s, a, b, hearB_mono hv c⟩
theorem cnt_lis (t : Hr.Town) (wind voice : Int) (cnt : Nat → Bool) (S : List Nat) : cntS (lis t wind voice cnt) S = ((List.range t.len).filter fun p => t.at p == 1 && cnt p).countP fun p => hit S (ears t wind voice p) := by
  unfold cntS lis lisTo
  rw [List.filter_map, List.length_map, List.countP_eq_length_filter]
  rfl
theorem cnt_mono {t : Hr.Town} {wind v v' : Int} (hv : v ≤ v') (cnt : Nat → Bool) (S : List Nat) : cntS (lis t wind v cnt) S ≤ cntS (lis t wind v' cnt) S := by
  rw [cnt_lis, cnt_lis]
  exact List.countP_mono_left fun p _ h => hit_mono hv h
theorem lis_length (t : Hr.Town) (wind voice : Int) (cnt : Nat → Bool) : (lis t wind voice cnt).length = ((List.range t.len).filter fun p => t.at p == 1 && cnt p).length := by
  unfold lis lisTo; rw [List.length_map]
theorem no_deaf {e : List Bool} {s : Nat} (h : e.getD s false = true) : deafB e = false := by
  cases hd : deafB e
  · rfl
  · unfold deafB at hd
    rw [decide_eq_true_iff] at hd
    rw [hd, List.getD_eq_getElem?_getD, List.getElem?_replicate] at h
    split at h <;> cases h
theorem heard_mono {t : Hr.Town} {wind v v' : Int} (hv : v ≤ v') {cnt : Nat → Bool} (h : Heard (lis t wind v cnt)) : Heard (lis t wind v' cnt) := fun x hx => by
  refine ⟨lis_30 _ _ _ _ x hx, ?_⟩
  unfold lis lisTo at hx
  obtain ⟨p, hp, rfl⟩ := List.mem_map.1 hx
  have h1 := h (p, ears t wind v p) (List.mem_map.2 ⟨p, hp, rfl⟩)
  obtain ⟨s, hs, he⟩ := deaf_hit h1.1 h1.2
  have he2 : (ears t wind v p).getD s false = true := he
  rw [ears_get, Bool.and_eq_true] at he2
  exact no_deaf (s := s) (by show (ears t wind v' p).getD s false = true; rw [ears_get, Bool.and_eq_true]; exact ⟨he2.1, hearB_mono hv he2.2⟩)
theorem lis_ten {t : Hr.Town} (hc : checkErr t.wide t.plots = 0) (wind voice : Int) : (lis t wind voice fun _ => true).length ≤ 10 := by
  have h := houses_ten hc
  rw [lis_length]
  have e : (kindIdx t.plots 1).length = ((List.range t.len).filter fun p => t.at p == 1 && true).length := by
    unfold kindIdx kindTo
    rw [List.length_map]
    congr 1
    apply List.filter_congr
    intro p _
    rw [Bool.and_true]; rfl
  rw [← e]; exact h
theorem lis_houses_len (t : Hr.Town) (wind voice : Int) : (lis t wind voice fun _ => true).length = (kindIdx t.plots 1).length := by
  rw [lis_length]
  unfold kindIdx kindTo
  rw [List.length_map]
  congr 1
  apply List.filter_congr
  intro p _
  rw [Bool.and_true]; rfl
/-- a louder voice needs no more stands -/
theorem louder_few {t : Hr.Town} (hc : checkErr t.wide t.plots = 0) {wind v v' : Int} (hv : v ≤ v') (h0 : firstE (lis t wind v fun _ => true) = 0) :
    firstE (lis t wind v' fun _ => true) = 0 ∧ (chooseP (lis t wind v' fun _ => true) 30).1.length ≤ (chooseP (lis t wind v fun _ => true) 30).1.length := by
  have hh := err_heard (lis_30 t wind v fun _ => true) h0
  have hh' := heard_mono hv hh
  refine ⟨heard_err hh', ?_⟩
  obtain ⟨ch, n, h1, h2, hch⟩ := chosen (lis t wind v fun _ => true) (lis_ten hc wind v) 30
  obtain ⟨ch', n', h1', h2', hch'⟩ := chosen (lis t wind v' fun _ => true) (lis_ten hc wind v') 30
  rw [h1, h1', List.length_map, List.length_map]
  refine hch'.short ch hch.bd ?_
  have e1 := chosen_all hh (Nat.le_refl _) hch
  have e2 := chosen_all hh' (Nat.le_refl _) hch'
  have e3 := cnt_mono hv (fun _ => true) ch (t := t) (wind := wind)
  rw [hch.cnt, e1] at e3
  rw [e2]
  rw [lis_houses_len] at e3 ⊢
  exact e3
/-- stands that are chosen are streets -/
theorem chosen_street {t : Hr.Town} {wind voice : Int} {cnt : Nat → Bool} {st : Nat} {ch : List Nat} {n : Nat} (hc : Chosen (lis t wind voice cnt) st ch n) : ∀ s ∈ ch, s < t.len ∧ t.at s = 0 := by
  intro s hs
  false_or_by_contra
  rename_i hno
  have hb : ∀ h, hearB t wind voice h s = false := fun h => by
    unfold hearB
    rw [decide_eq_false hno, Bool.false_and]
  have e : cntS (lis t wind voice cnt) (ch.erase s) = n := by
    rw [← hc.cnt, cnt_lis, cnt_lis]
    apply List.countP_congr
    intro p _
    rw [hit_ears, hit_ears]
    constructor
    · rintro ⟨q, hq, h1, h2⟩
      exact ⟨q, List.mem_of_mem_erase hq, h1, h2⟩
    · rintro ⟨q, hq, h1, h2⟩
      have hne : q ≠ s := fun e => by rw [e, hb p] at h2; cases h2
      exact ⟨q, (List.mem_erase_of_ne hne).2 hq, h1, h2⟩
  have h1 := hc.short (ch.erase s) (fun q hq => hc.bd q (List.mem_of_mem_erase hq)) (by omega)
  rw [List.length_erase_of_mem hs] at h1
  have : 0 < ch.length := List.length_pos_of_mem hs
  omega
/-- how many houses are served by stands of a list -/
theorem served_cnt {t : Hr.Town} (ok : t.Ok) (hc : checkErr t.wide t.plots = 0) {wind voice : Int} (ha : airErr wind voice = 0) (ch : List Nat) (hS : ∀ s ∈ ch, s < t.len ∧ t.at s = 0) :
    countTo (heardTo t.wide t.plots wind voice (natI ch) (natI ch).length) (kindIdx t.plots 1) (kindIdx t.plots 1).length = cntS (lis t wind voice fun _ => true) ch := by
  have h30 : t.len ≤ 30 := ok.n30
  have hat : ∀ s : Nat, s < t.len → t.at s = 0 → housesL t.wide t.plots wind voice s = housesOf t wind voice s := fun s hs h0 => by
    unfold housesL
    have : atE t.wide t.plots wind voice s 0 = 0 := by
      unfold atE openErr plotErr
      rw [hc, ha]
      have hs' : s < t.plots.length := hs
      have h0' : t.plots.getD s 0 = 0 := h0
      rw [if_neg (by simp), if_neg (by omega), Int.toNat_natCast, if_pos h0']
    rw [if_pos this, townOf_self, Int.toNat_natCast]
  have hA : ∀ h : Nat, h < t.len → t.at h = 1 → ((h : Int) ∈ heardTo t.wide t.plots wind voice (natI ch) (natI ch).length ↔ hit ch (ears t wind voice h) = true) := fun h hl h1 => by
    unfold heardTo
    rw [List.take_length, List.mem_flatMap, hit_ears]
    constructor
    · rintro ⟨s, hs, hm⟩
      obtain ⟨q, hq, rfl⟩ := List.mem_map.1 hs
      obtain ⟨a, b⟩ := hS q hq
      rw [hat q a b, mem_housesOf] at hm
      exact ⟨q, hq, by omega, hm.2.2⟩
    · rintro ⟨s, hs, _, hh⟩
      obtain ⟨a, b⟩ := hS s hs
      exact ⟨(s : Int), List.mem_map.2 ⟨s, hs, rfl⟩, by rw [hat s a b, mem_housesOf]; exact ⟨hl, h1, hh⟩⟩
  rw [cnt_lis]
  unfold countTo
  rw [List.take_length]
  generalize heardTo t.wide t.plots wind voice (natI ch) (natI ch).length = A at hA
  unfold kindIdx kindTo
  rw [List.filter_map, List.length_map, ← List.countP_eq_length_filter]
  have e : (List.range t.plots.length).filter (fun p => t.plots.getD p 0 == 1) = (List.range t.len).filter fun p => t.at p == 1 && true := by
    apply List.filter_congr
    intro p _
    rw [Bool.and_true]; rfl
  rw [e]
  apply List.countP_congr
  intro p hp
  rw [List.mem_filter, List.mem_range, Bool.and_true, beq_iff_eq] at hp
  show decide ((p : Int) ∈ A) = true ↔ _
  rw [decide_eq_true_iff]
  exact hA p hp.1 hp.2
/-- just if all houses are served, the voice is loud enough -/
theorem okV_eq {t : Hr.Town} (hc : checkErr t.wide t.plots = 0) (wind voice : Int) (st : Nat) : okV (lis t wind voice fun _ => true) st = decide ((chooseP (lis t wind voice fun _ => true) st).2 = ((lis t wind voice fun _ => true).length : Nat)) := by
  unfold okV
  obtain ⟨ch, n, h1, h2, hch⟩ := chosen (lis t wind voice fun _ => true) (lis_ten hc wind voice) st
  by_cases e : (chooseP (lis t wind voice fun _ => true) st).2 = ((lis t wind voice fun _ => true).length : Nat)
  · rw [decide_eq_true e, Bool.and_true, List.all_eq_true]
    intro x hx
    rw [h2] at e
    have e2 : cntS (lis t wind voice fun _ => true) ch = (lis t wind voice fun _ => true).length := by rw [hch.cnt]; omega
    have h3 := cnt_all.1 e2 x hx
    unfold hit at h3
    obtain ⟨s, _, hs⟩ := List.any_eq_true.1 h3
    rw [no_deaf hs]; rfl
  · rw [decide_eq_false e, Bool.and_false]
theorem lvF_spec (t : Hr.Town) (wind : Int) (cnt : Nat → Bool) (st : Nat) : ∀ f v, (lvF t wind cnt st f v = -1 ∧ ∀ u, v ≤ u → u < v + f → okV (lis t wind (u : Nat) cnt) st = false) ∨ (∃ x : Nat, lvF t wind cnt st f v = x ∧ v ≤ x ∧ x < v + f ∧ okV (lis t wind x cnt) st = true ∧ ∀ u, v ≤ u → u < x → okV (lis t wind (u : Nat) cnt) st = false)
  | 0, v => .inl ⟨rfl, fun u h1 h2 => by omega⟩
  | f + 1, v => by
    rw [lvF]
    by_cases e : okV (lis t wind v cnt) st = true
    · rw [if_pos e]
      exact .inr ⟨v, rfl, Nat.le_refl _, by omega, e, fun u h1 h2 => by omega⟩
    · rw [if_neg e]
      have e' : okV (lis t wind v cnt) st = false := by simpa using e
      rcases lvF_spec t wind cnt st f (v + 1) with ⟨h1, h2⟩ | ⟨x, h1, h2, h3, h4, h5⟩
      · refine .inl ⟨h1, fun u a b => ?_⟩
        by_cases hu : u = v
        · rw [hu]; exact e'
        · exact h2 u (by omega) (by omega)
      · refine .inr ⟨x, h1, by omega, by omega, h4, fun u a b => ?_⟩
        by_cases hu : u = v
        · rw [hu]; exact e'
        · exact h5 u (by omega) b
/-- the least voice: it is enough, and one less is not -/
theorem leastV_spec (t : Hr.Town) (wind : Int) (cnt : Nat → Bool) (st : Nat) : (leastV t wind cnt st = -1 ∧ okV (lis t wind 40 cnt) st = false) ∨ (∃ x : Nat, leastV t wind cnt st = x ∧ 1 ≤ x ∧ x ≤ 40 ∧ okV (lis t wind x cnt) st = true ∧ (1 < x → okV (lis t wind ((x : Int) - 1) cnt) st = false)) := by
  rcases lvF_spec t wind cnt st 40 1 with ⟨h1, h2⟩ | ⟨x, h1, h2, h3, h4, h5⟩
  · exact .inl ⟨h1, h2 40 (by omega) (by omega)⟩
  · refine .inr ⟨x, h1, h2, by omega, h4, fun h => ?_⟩
    have := h5 (x - 1) (by omega) (by omega)
    rwa [show ((x - 1 : Nat) : Int) = (x : Int) - 1 by omega] at this
/-- no stands that are tried do better than those that are told -/
theorem chosen_best {l : List (Nat × List Bool)} {st : Nat} {ch : List Nat} {n : Nat} (hc : Chosen l st ch n) {O : List Nat} (hO : O.Pairwise (· < ·)) (hb : ∀ s ∈ O, s < 30) (hl : O.length ≤ st) :
    cntS l O ≤ n ∧ (cntS l O = n → ch.length ≤ O.length ∧ (O.length = ch.length → ch = O ∨ Bef ch O)) :=
  ⟨hc.most O hb hl, fun e => ⟨hc.short O hb (by omega), fun e2 => hc.first O hO hb e2 e⟩⟩
end Go.Proofs.Ytimedmkpenbmkaa

namespace Go.Proofs.Ytimedmkpenbmkaa
open Go.RowKit Go.Shelf
set_option linter.unusedSimpArgs false
set_option linter.unusedVariables false

/-! a town in a mirror -/
def mirP (t : Hr.Town) (down : Bool) (p : Nat) : Nat := if down then (t.rows - 1 - p / t.wide) * t.wide + p % t.wide else p / t.wide * t.wide + (t.wide - 1 - p % t.wide)
def mirT (t : Hr.Town) (down : Bool) : Hr.Town := ⟨t.wide, (List.range t.len).map fun q => t.at (mirP t down q)⟩
def mirW (down : Bool) (wind : Int) : Int := if down then (if wind = 1 ∨ wind = 3 then 4 - wind else wind) else (if wind = 2 ∨ wind = 4 then 6 - wind else wind)
theorem mir_row {t : Hr.Town} (ok : t.Ok) {p : Nat} (hp : p < t.len) : p / t.wide < t.rows := Nat.div_lt_of_lt_mul (by rw [Nat.mul_comm, ← ok.whole]; exact hp)
theorem mir_parts {a b w : Nat} (hb : b < w) : (a * w + b) / w = a ∧ (a * w + b) % w = b := by
  have hw : 0 < w := by omega
  rw [Nat.mul_comm a w]
  exact ⟨by rw [Nat.mul_add_div hw, Nat.div_eq_of_lt hb, Nat.add_zero], by rw [Nat.mul_add_mod, Nat.mod_eq_of_lt hb]⟩
theorem mir_div {t : Hr.Town} (ok : t.Ok) (down : Bool) {p : Nat} (hp : p < t.len) : mirP t down p / t.wide = (if down then t.rows - 1 - p / t.wide else p / t.wide) ∧ mirP t down p % t.wide = (if down then p % t.wide else t.wide - 1 - p % t.wide) := by
  have hw := ok.w1
  have hm : p % t.wide < t.wide := Nat.mod_lt _ (by omega)
  unfold mirP
  cases down
  · simp only [Bool.false_eq_true, if_false]
    exact mir_parts (by omega)
  · simp only [if_true]
    exact mir_parts hm
theorem mir_lt {t : Hr.Town} (ok : t.Ok) (down : Bool) {p : Nat} (hp : p < t.len) : mirP t down p < t.len := by
  have hw := ok.w1
  have hm : p % t.wide < t.wide := Nat.mod_lt _ (by omega)
  have hr := mir_row ok hp
  have key : ∀ a b, a < t.rows → b < t.wide → a * t.wide + b < t.len := fun a b ha hb => by
    rw [ok.whole]
    have := Nat.mul_le_mul_right t.wide (show a + 1 ≤ t.rows by omega)
    rw [Nat.succ_mul] at this
    omega
  unfold mirP
  cases down
  · simp only [Bool.false_eq_true, if_false]
    exact key _ _ hr (by omega)
  · simp only [if_true]
    generalize p / t.wide = q at hr ⊢
    exact key _ _ (by omega) hm
theorem mir_mir {t : Hr.Town} (ok : t.Ok) (down : Bool) {p : Nat} (hp : p < t.len) : mirP t down (mirP t down p) = p := by
  have hw := ok.w1
  have hm : p % t.wide < t.wide := Nat.mod_lt _ (by omega)
  have hr := mir_row ok hp
  have e : p / t.wide * t.wide + p % t.wide = p := Nat.div_add_mod' p t.wide
  obtain ⟨h1, h2⟩ := mir_div ok down hp
  have : mirP t down (mirP t down p) = (if down then (t.rows - 1 - mirP t down p / t.wide) * t.wide + mirP t down p % t.wide else mirP t down p / t.wide * t.wide + (t.wide - 1 - mirP t down p % t.wide)) := rfl
  rw [this, h1, h2]
  cases down
  · simp only [Bool.false_eq_true, if_false]
    rw [show t.wide - 1 - (t.wide - 1 - p % t.wide) = p % t.wide by omega, e]
  · simp only [if_true]
    rw [show t.rows - 1 - (t.rows - 1 - p / t.wide) = p / t.wide by generalize p / t.wide = q at hr ⊢; omega, e]
theorem mirT_len (t : Hr.Town) (down : Bool) : (mirT t down).len = t.len := by unfold mirT Hr.Town.len; simp
theorem mirT_rows (t : Hr.Town) (down : Bool) : (mirT t down).rows = t.rows := by
  unfold Hr.Town.rows; rw [mirT_len]; rfl
theorem mirT_P (t : Hr.Town) (down : Bool) (p : Nat) : mirP (mirT t down) down p = mirP t down p := by
  unfold mirP; rw [mirT_rows]; rfl
theorem mirT_at {t : Hr.Town} (down : Bool) {p : Nat} (hp : p < t.len) : (mirT t down).at p = t.at (mirP t down p) := by
  unfold mirT Hr.Town.at
  rw [List.getD_eq_getElem?_getD, List.getElem?_map, List.getElem?_range hp]
  rfl
theorem mirT_ok {t : Hr.Town} (ok : t.Ok) (down : Bool) : (mirT t down).Ok :=
  ⟨ok.w1, ok.w6, by rw [mirT_len]; exact ok.n1, by rw [mirT_len]; exact ok.n30, by rw [mirT_len, mirT_rows]; exact ok.whole, fun p hp => by
    rw [mirT_len] at hp
    rw [mirT_at down hp]; exact ok.kinds _ (mir_lt ok down hp)⟩
theorem mirT_mirT {t : Hr.Town} (ok : t.Ok) (down : Bool) : mirT (mirT t down) down = t := by
  have e : (mirT (mirT t down) down).plots = t.plots := by
    show (List.range (mirT t down).len).map (fun q => (mirT t down).at (mirP (mirT t down) down q)) = t.plots
    rw [mirT_len]
    apply List.ext_getElem (by simp [Hr.Town.len])
    intro p h1 h2
    have hp : p < t.len := h2
    rw [List.getElem_map, List.getElem_range, mirT_P, mirT_at down (mir_lt ok down hp), mir_mir ok down hp]
    unfold Hr.Town.at
    rw [List.getD_eq_getElem?_getD, List.getElem?_eq_getElem h2]; rfl
  cases t
  exact congr (congrArg Hr.Town.mk rfl) e
theorem mirW_mirW (down : Bool) (wind : Int) : mirW down (mirW down wind) = wind := by
  unfold mirW
  cases down
  · simp only [Bool.false_eq_true, if_false]
    by_cases h : wind = 2 ∨ wind = 4
    · rw [if_pos h, if_pos (by omega)]; omega
    · rw [if_neg h, if_neg h]
  · simp only [if_true]
    by_cases h : wind = 1 ∨ wind = 3
    · rw [if_pos h, if_pos (by omega)]; omega
    · rw [if_neg h, if_neg h]
open Hr in
theorem stepI_mir {t : Hr.Town} (ok : t.Ok) (down : Bool) (wind : Int) {p q : Nat} (hp : p < t.len) (hq : q < t.len) : Hr.stepI (mirT t down) (mirW down wind) (mirP t down p) (mirP t down q) = Hr.stepI t wind p q := by
  have hw := ok.w1
  obtain ⟨p1, p2⟩ := mir_div ok down hp
  obtain ⟨q1, q2⟩ := mir_div ok down hq
  have rp := mir_row ok hp
  have rq := mir_row ok hq
  have mp : p % t.wide < t.wide := Nat.mod_lt _ (by omega)
  have mq : q % t.wide < t.wide := Nat.mod_lt _ (by omega)
  have ap : (mirT t down).at (mirP t down p) = t.at p := by rw [mirT_at down (mir_lt ok down hp), mir_mir ok down hp]
  have aq : (mirT t down).at (mirP t down q) = t.at q := by rw [mirT_at down (mir_lt ok down hq), mir_mir ok down hq]
  unfold Hr.stepI
  rw [ap, aq]
  have ew : (mirT t down).wide = t.wide := rfl
  rw [ew, p1, p2, q1, q2]
  generalize p / t.wide = a at *
  generalize q / t.wide = b at *
  generalize p % t.wide = c at *
  generalize q % t.wide = d at *
  cases down
  · simp only [Bool.false_eq_true, if_false]
    have e1 : ((t.wide - 1 - d : Nat) : Int) - ((t.wide - 1 - c : Nat) : Int) = -((d : Int) - (c : Int)) := by omega
    rw [e1]
    generalize (d : Int) - (c : Int) = X
    generalize (b : Int) - (a : Int) = D
    rw [Int.neg_mul_neg]
    have e2 : Hr.stepI.alongI (mirW false wind) D (-X) = Hr.stepI.alongI wind D X := by
      unfold Hr.stepI.alongI mirW
      simp only [Bool.false_eq_true, if_false]
      split <;> repeat (first | omega | split)
    rw [e2]
  · simp only [if_true]
    have e1 : ((t.rows - 1 - b : Nat) : Int) - ((t.rows - 1 - a : Nat) : Int) = -((b : Int) - (a : Int)) := by omega
    rw [e1]
    generalize (d : Int) - (c : Int) = X
    generalize (b : Int) - (a : Int) = D
    rw [Int.neg_mul_neg]
    have e2 : Hr.stepI.alongI (mirW true wind) (-D) X = Hr.stepI.alongI wind D X := by
      unfold Hr.stepI.alongI mirW
      simp only [if_true]
      split <;> repeat (first | omega | split)
    rw [e2]
theorem way_mir {t : Hr.Town} (ok : t.Ok) (down : Bool) {wind : Int} {s : Nat} (hs : s < t.len) {p : Nat} {c : Int} (h : t.Way wind s p c) : (mirT t down).Way (mirW down wind) (mirP t down s) (mirP t down p) c := by
  induction h with
  | here => exact .here
  | @on p q c n w hm ih =>
    have hp := Hr.way_lt ok hs w
    have hq := Hr.steps_lt ok hm
    refine .on ih ?_
    have h1 := (Hr.stepI_iff ok hp hq n).1 hm
    rw [Hr.stepI_iff (mirT_ok ok down) (by rw [mirT_len]; exact mir_lt ok down hp) (by rw [mirT_len]; exact mir_lt ok down hq), stepI_mir ok down wind hp hq]
    exact h1
theorem needs_mir {t : Hr.Town} (ok : t.Ok) (down : Bool) (wind : Int) {s p : Nat} (hs : s < t.len) (hp : p < t.len) : ((mirT t down).needs (mirW down wind) (mirP t down s)).getD (mirP t down p) 0 = (t.needs wind s).getD p 0 := by
  have key : ∀ {t : Hr.Town} (ok : t.Ok) (wind : Int) {s p : Nat} (hs : s < t.len) (hp : p < t.len), (t.needs wind s).getD p 0 ≠ -1 → ((mirT t down).needs (mirW down wind) (mirP t down s)).getD (mirP t down p) 0 ≠ -1 ∧ ((mirT t down).needs (mirW down wind) (mirP t down s)).getD (mirP t down p) 0 ≤ (t.needs wind s).getD p 0 := by
    intro t ok wind s p hs hp hn
    have hw := (Hr.needs_fix ok wind hs).inv.way p hp hn
    have hsl : mirP t down s < (mirT t down).len := by rw [mirT_len]; exact mir_lt ok down hs
    exact (Hr.needs_fix (mirT_ok ok down) (mirW down wind) hsl).le (mirT_ok ok down) hsl (way_mir ok down hs hw)
  have k1 := key ok wind hs hp
  have k2 := key (mirT_ok ok down) (mirW down wind) (s := mirP t down s) (p := mirP t down p) (by rw [mirT_len]; exact mir_lt ok down hs) (by rw [mirT_len]; exact mir_lt ok down hp)
  rw [mirT_mirT ok down, mirW_mirW, mirT_P, mirT_P, mir_mir ok down hs, mir_mir ok down hp] at k2
  by_cases a : (t.needs wind s).getD p 0 = -1
  · by_cases b : ((mirT t down).needs (mirW down wind) (mirP t down s)).getD (mirP t down p) 0 = -1
    · rw [a, b]
    · exact absurd a (k2 b).1
  · obtain ⟨b1, b2⟩ := k1 a
    have := (k2 b1).2
    omega
theorem hearB_mir {t : Hr.Town} (ok : t.Ok) (down : Bool) (wind voice : Int) {h s : Nat} (hh : h < t.len) (hs : s < t.len) : hearB (mirT t down) (mirW down wind) voice (mirP t down h) (mirP t down s) = hearB t wind voice h s := by
  unfold hearB
  rw [needs_mir ok down wind hs hh, mirT_len, mirT_at down (mir_lt ok down hs), mir_mir ok down hs]
  have := mir_lt ok down hs
  congr 1
  by_cases h0 : t.at s = 0 <;> simp [h0, this, hs]
theorem hearB_lt {t : Hr.Town} {wind voice : Int} {h s : Nat} (e : hearB t wind voice h s = true) : s < t.len := by
  unfold hearB at e
  rw [Bool.and_eq_true, decide_eq_true_iff] at e
  exact e.1.1
theorem hit_mir {t : Hr.Town} (ok : t.Ok) (down : Bool) (wind voice : Int) {h : Nat} (hh : h < t.len) (S : List Nat) (e : hit S (ears t wind voice h) = true) : hit (S.map (mirP t down)) (ears (mirT t down) (mirW down wind) voice (mirP t down h)) = true := by
  rw [hit_ears] at e ⊢
  obtain ⟨s, h1, h2, h3⟩ := e
  have hs := hearB_lt h3
  exact ⟨mirP t down s, List.mem_map.2 ⟨s, h1, rfl⟩, by have := mir_lt ok down hs; have := ok.n30; omega, by rw [hearB_mir ok down wind voice hh hs]; exact h3⟩
theorem mir_nodup {t : Hr.Town} (ok : t.Ok) (down : Bool) {A : List Nat} (hA : A.Nodup) (hl : ∀ a ∈ A, a < t.len) : (A.map (mirP t down)).Nodup := by
  unfold List.Nodup at hA ⊢
  rw [List.pairwise_map]
  refine List.Pairwise.imp_of_mem (fun ha hb hne e => hne ?_) hA
  rw [← mir_mir ok down (hl _ ha), e, mir_mir ok down (hl _ hb)]
theorem cnt_mir {t : Hr.Town} (ok : t.Ok) (down : Bool) (wind voice : Int) (S : List Nat) : cntS (lis t wind voice fun _ => true) S ≤ cntS (lis (mirT t down) (mirW down wind) voice fun _ => true) (S.map (mirP t down)) := by
  rw [cnt_lis, cnt_lis, List.countP_eq_length_filter, List.countP_eq_length_filter, ← List.length_map (f := mirP t down)]
  refine len_le_of_sub (mir_nodup ok down ((List.nodup_range.filter _).filter _) fun a ha => ?_) fun a ha => ?_
  · exact List.mem_range.1 (List.mem_filter.1 (List.mem_filter.1 ha).1).1
  · obtain ⟨p, hp, rfl⟩ := List.mem_map.1 ha
    rw [List.mem_filter, List.mem_filter, List.mem_range, Bool.and_true, beq_iff_eq] at hp
    rw [List.mem_filter, List.mem_filter, List.mem_range, Bool.and_true, beq_iff_eq, mirT_len]
    have hl := mir_lt ok down hp.1.1
    exact ⟨⟨hl, by rw [mirT_at down hl, mir_mir ok down hp.1.1]; exact hp.1.2⟩, hit_mir ok down wind voice hp.1.1 S hp.2⟩
theorem lis_mir_len {t : Hr.Town} (ok : t.Ok) (down : Bool) (wind voice : Int) : (lis (mirT t down) (mirW down wind) voice fun _ => true).length = (lis t wind voice fun _ => true).length := by
  have key : ∀ {t : Hr.Town} (ok : t.Ok) (wind : Int), (lis t wind voice fun _ => true).length ≤ (lis (mirT t down) (mirW down wind) voice fun _ => true).length := by
    intro t ok wind
    rw [lis_length, lis_length, ← List.length_map (f := mirP t down)]
    refine len_le_of_sub (mir_nodup ok down (List.nodup_range.filter _) fun a ha => ?_) fun a ha => ?_
    · exact List.mem_range.1 (List.mem_filter.1 ha).1
    · obtain ⟨p, hp, rfl⟩ := List.mem_map.1 ha
      rw [List.mem_filter, List.mem_range, Bool.and_true, beq_iff_eq] at hp
      rw [List.mem_filter, List.mem_range, Bool.and_true, beq_iff_eq, mirT_len]
      have hl := mir_lt ok down hp.1
      exact ⟨hl, by rw [mirT_at down hl, mir_mir ok down hp.1]; exact hp.2⟩
  have k2 := key (mirT_ok ok down) (mirW down wind)
  rw [mirT_mirT ok down, mirW_mirW] at k2
  exact Nat.le_antisymm k2 (key ok wind)
/-- the most that can be served, and the fewest stands, are the same in a mirror -/
theorem choose_mir {t : Hr.Town} (ok : t.Ok) (hc : checkErr t.wide t.plots = 0) (down : Bool) (hcu : checkErr (mirT t down).wide (mirT t down).plots = 0) (wind voice : Int) (st : Nat) :
    (chooseP (lis (mirT t down) (mirW down wind) voice fun _ => true) st).2 = (chooseP (lis t wind voice fun _ => true) st).2 ∧ (chooseP (lis (mirT t down) (mirW down wind) voice fun _ => true) st).1.length = (chooseP (lis t wind voice fun _ => true) st).1.length := by
  obtain ⟨ch, n, h1, h2, hch⟩ := chosen (lis t wind voice fun _ => true) (lis_ten hc wind voice) st
  obtain ⟨ch', n', h1', h2', hch'⟩ := chosen (lis (mirT t down) (mirW down wind) voice fun _ => true) (lis_ten hcu _ voice) st
  rw [h1, h2, h1', h2', List.length_map, List.length_map]
  have hb : ∀ s ∈ ch.map (mirP t down), s < 30 := fun s hs => by
    obtain ⟨q, hq, rfl⟩ := List.mem_map.1 hs
    have := mir_lt ok down (chosen_street hch q hq).1
    have := ok.n30
    omega
  have hb' : ∀ s ∈ ch'.map (mirP t down), s < 30 := fun s hs => by
    obtain ⟨q, hq, rfl⟩ := List.mem_map.1 hs
    have h2 := (chosen_street hch' q hq).1
    rw [mirT_len] at h2
    have := mir_lt ok down h2
    have := ok.n30
    omega
  have e1 := cnt_mir ok down wind voice ch
  have e2 := cnt_mir (mirT_ok ok down) down (mirW down wind) voice ch'
  rw [mirT_mirT ok down, mirW_mirW] at e2
  have eP : ch'.map (mirP (mirT t down) down) = ch'.map (mirP t down) := List.map_congr_left fun p _ => mirT_P t down p
  rw [eP] at e2
  rw [hch.cnt] at e1
  rw [hch'.cnt] at e2
  have m1 := hch'.most _ hb (by rw [List.length_map]; exact hch.len)
  have m2 := hch.most _ hb' (by rw [List.length_map]; exact hch'.len)
  have en : n' = n := by omega
  refine ⟨by rw [en], ?_⟩
  have s1 := hch'.short _ hb (by omega)
  have s2 := hch.short _ hb' (by omega)
  rw [List.length_map] at s1 s2
  omega
theorem firstE_okv {l : List (Nat × List Bool)} (hl : ∀ x ∈ l, x.2.length = 30) : firstE l = 0 ↔ ∀ x ∈ l, ∃ s, s < 30 ∧ x.2.getD s false = true := by
  constructor
  · intro h x hx
    have := err_heard hl h x hx
    exact deaf_hit this.1 this.2
  · intro h
    rw [firstE_eq, if_neg]
    intro e
    obtain ⟨x, hx, hd⟩ := List.any_eq_true.1 e
    obtain ⟨s, _, hs⟩ := h x hx
    rw [no_deaf hs] at hd; cases hd
theorem firstE_mir {t : Hr.Town} (ok : t.Ok) (down : Bool) (wind voice : Int) : firstE (lis (mirT t down) (mirW down wind) voice fun _ => true) = firstE (lis t wind voice fun _ => true) := by
  have key : ∀ {t : Hr.Town} (ok : t.Ok) (wind : Int), firstE (lis t wind voice fun _ => true) = 0 → firstE (lis (mirT t down) (mirW down wind) voice fun _ => true) = 0 := by
    intro t ok wind h
    rw [firstE_okv (lis_30 _ _ _ _)] at h ⊢
    intro x hx
    obtain ⟨a, b, c⟩ := mem_lis.1 hx
    rw [mirT_len] at a
    rw [mirT_at down a] at b
    have hl := mir_lt ok down a
    obtain ⟨s, h1, h2⟩ := h (mirP t down x.1, ears t wind voice (mirP t down x.1)) (mem_lis.2 ⟨hl, b, rfl⟩)
    have h2 : (ears t wind voice (mirP t down x.1)).getD s false = true := h2
    rw [ears_get, Bool.and_eq_true] at h2
    have hs := hearB_lt h2.2
    have h3 := hearB_mir ok down wind voice hl hs
    rw [mir_mir ok down a] at h3
    have := mir_lt ok down hs
    have := ok.n30
    refine ⟨mirP t down s, by omega, ?_⟩
    rw [c, ears_get, Bool.and_eq_true, decide_eq_true_iff]
    exact ⟨by omega, by rw [h3]; exact h2.2⟩
  have k1 := key ok wind
  have k2 := key (mirT_ok ok down) (mirW down wind)
  rw [mirT_mirT ok down, mirW_mirW] at k2
  rcases firstE_or (lis t wind voice fun _ => true) with h | h
  · rw [h, k1 h]
  · rcases firstE_or (lis (mirT t down) (mirW down wind) voice fun _ => true) with g | g
    · rw [k2 g] at h; cases h
    · rw [g, h]
theorem lvF_congr {t u : Hr.Town} {w1 w2 : Int} {c1 c2 : Nat → Bool} {st : Nat} (h : ∀ v : Nat, okV (lis t w1 v c1) st = okV (lis u w2 v c2) st) : ∀ f v, lvF t w1 c1 st f v = lvF u w2 c2 st f v
  | 0, _ => rfl
  | f + 1, v => by rw [lvF, lvF, h, lvF_congr h f]
theorem leastV_mir {t : Hr.Town} (ok : t.Ok) (hc : checkErr t.wide t.plots = 0) (down : Bool) (hcu : checkErr (mirT t down).wide (mirT t down).plots = 0) (wind : Int) (st : Nat) : leastV (mirT t down) (mirW down wind) (fun _ => true) st = leastV t wind (fun _ => true) st := by
  unfold leastV
  refine lvF_congr (fun v => ?_) _ _
  rw [okV_eq hc, okV_eq hcu, (choose_mir ok hc down hcu wind v st).1, lis_mir_len ok down]
theorem pair_all {α : Type} {R : α → α → Prop} (hs : ∀ x y, R x y → R y x) : ∀ {l : List α}, l.Pairwise R → ∀ x ∈ l, ∀ y ∈ l, x ≠ y → R x y
  | [], _, x, hx, _, _, _ => absurd hx (by simp)
  | a :: l, h, x, hx, y, hy, hne => by
    rw [List.pairwise_cons] at h
    rcases List.mem_cons.1 hx with e | hx'
    · rcases List.mem_cons.1 hy with e' | hy'
      · exact absurd (e.trans e'.symm) hne
      · rw [e]; exact h.1 y hy'
    · rcases List.mem_cons.1 hy with e' | hy'
      · rw [e']; exact hs _ _ (h.1 x hx')
      · exact pair_all hs h.2 x hx' y hy' hne
theorem clash_symm {us es : List Bool} (h : clashTo us es 30 = false) : clashTo es us 30 = false := by
  rw [clash_no] at h ⊢
  intro s hs h1
  cases h2 : us.getD s false
  · rfl
  · rw [h s hs h2] at h1; cases h1
theorem clash_mir {t : Hr.Town} (ok : t.Ok) (down : Bool) (wind voice : Int) {p q : Nat} (hp : p < t.len) (hq : q < t.len) (h : clashTo (ears t wind voice (mirP t down p)) (ears t wind voice (mirP t down q)) 30 = false) : clashTo (ears (mirT t down) (mirW down wind) voice p) (ears (mirT t down) (mirW down wind) voice q) 30 = false := by
  rw [clash_no] at h ⊢
  intro s hs h1
  rw [ears_get, Bool.and_eq_true] at h1
  have hsl := hearB_lt h1.2
  rw [mirT_len] at hsl
  have hm := mir_lt ok down hsl
  have h30 := ok.n30
  have a1 := hearB_mir ok down wind voice (mir_lt ok down hp) hm
  have a2 := hearB_mir ok down wind voice (mir_lt ok down hq) hm
  rw [mir_mir ok down hp, mir_mir ok down hsl] at a1
  rw [mir_mir ok down hq, mir_mir ok down hsl] at a2
  have h3 := h (mirP t down s) (by omega) (by rw [ears_get, Bool.and_eq_true, decide_eq_true_iff]; exact ⟨by omega, by rw [← a1]; exact h1.2⟩)
  rw [ears_get, Bool.and_eq_false_iff] at h3
  rw [ears_get]
  rcases h3 with h3 | h3
  · rw [decide_eq_false_iff_not] at h3; omega
  · rw [a2, h3, Bool.and_false]
theorem apart_mir {t : Hr.Town} (ok : t.Ok) (down : Bool) (wind voice : Int) : (apartP (lis (mirT t down) (mirW down wind) voice fun _ => true)).length = (apartP (lis t wind voice fun _ => true)).length := by
  have key : ∀ {t : Hr.Town} (ok : t.Ok) (wind : Int), (apartP (lis t wind voice fun _ => true)).length ≤ (apartP (lis (mirT t down) (mirW down wind) voice fun _ => true)).length := by
    intro t ok wind
    obtain ⟨E, a1, a2⟩ := aparts (lis t wind voice fun _ => true) (lis_sorted _ _ _ _)
    obtain ⟨F, b1, b2⟩ := aparts (lis (mirT t down) (mirW down wind) voice fun _ => true) (lis_sorted _ _ _ _)
    rw [a1, b1]
    have hE : ∀ x ∈ E, x.1 < t.len ∧ t.at x.1 = 1 ∧ x.2 = ears t wind voice x.1 := fun x hx => mem_lis.1 (a2.sub.subset hx)
    have hms := lis_sorted (mirT t down) (mirW down wind) voice fun _ => true
    have hG : Apt ((lis (mirT t down) (mirW down wind) voice fun _ => true).filter fun x => decide (mirP t down x.1 ∈ fsts E)) := by
      unfold fsts at hms
      rw [List.pairwise_map] at hms
      refine List.Pairwise.imp_of_mem (fun {x y} hx hy hlt => ?_) (hms.filter _)
      rw [List.mem_filter, decide_eq_true_iff] at hx hy
      obtain ⟨x1, x2, x3⟩ := mem_lis.1 hx.1
      obtain ⟨y1, y2, y3⟩ := mem_lis.1 hy.1
      rw [mirT_len] at x1 y1
      obtain ⟨u, hu, eu⟩ := List.mem_map.1 hx.2
      obtain ⟨v, hv, ev⟩ := List.mem_map.1 hy.2
      have hne : u ≠ v := fun e => by
        have : mirP t down x.1 = mirP t down y.1 := by rw [← eu, ← ev, e]
        have : x.1 = y.1 := by rw [← mir_mir ok down x1, this, mir_mir ok down y1]
        omega
      have hcl := pair_all (fun _ _ h => clash_symm h) a2.apt u hu v hv hne
      rw [(hE u hu).2.2, (hE v hv).2.2, eu, ev] at hcl
      rw [x3, y3]
      exact clash_mir ok down wind voice x1 y1 hcl
    have hm := b2.most _ List.filter_sublist hG
    have hn : (fsts E).Nodup := sorted_nodup ((lis_sorted t wind voice fun _ => true).sublist (a2.sub.map _))
    have hEl : ∀ p ∈ fsts E, p < t.len := fun p hp => by
      obtain ⟨x, hx, rfl⟩ := List.mem_map.1 hp
      exact (hE x hx).1
    have h2 := len_le_of_sub (mir_nodup ok down hn hEl) (B := fsts ((lis (mirT t down) (mirW down wind) voice fun _ => true).filter fun x => decide (mirP t down x.1 ∈ fsts E))) (fun a ha => by
      obtain ⟨p, hp, rfl⟩ := List.mem_map.1 ha
      obtain ⟨x, hx, e⟩ := List.mem_map.1 hp
      have hpl := hEl p hp
      have hl := mir_lt ok down hpl
      refine List.mem_map.2 ⟨(mirP t down p, ears (mirT t down) (mirW down wind) voice (mirP t down p)), ?_, rfl⟩
      rw [List.mem_filter, decide_eq_true_iff]
      refine ⟨mem_lis.2 ⟨by rw [mirT_len]; exact hl, ?_, rfl⟩, ?_⟩
      · rw [mirT_at down hl, mir_mir ok down hpl, ← e]; exact (hE x hx).2.1
      · show mirP t down (mirP t down p) ∈ fsts E
        rw [mir_mir ok down hpl]; exact hp)
    rw [List.length_map] at h2
    have e3 : ∀ (G : List (Nat × List Bool)), (fsts G).length = G.length := fun G => by simp [fsts]
    rw [e3, e3] at h2
    rw [e3 F, e3 E]
    omega
  have k2 := key (mirT_ok ok down) (mirW down wind)
  rw [mirT_mirT ok down, mirW_mirW] at k2
  exact Nat.le_antisymm k2 (key ok wind)
end Go.Proofs.Ytimedmkpenbmkaa

/- What came in, as what the contracts ask for: helpers of the lifted theorems. -/
namespace Go.Proofs.Ytimedmkpenbmkaa
open Go.ChangeShapes Go.WideShapes Go.ChangeAt Go.RowKit Go.Joins
set_option linter.unusedVariables false
set_option linter.unusedSimpArgs false

theorem Try.own : ownKnob Try.prog.godebug = none := by kernel_rfl
theorem Try.laidOut : laidOutB Try.prog = true := by kernel_rfl

theorem cells24 : Try.prog.cellsOf 24 = 2 := by kernel_rfl
theorem cells27 : Try.prog.cellsOf 27 = 2 := by kernel_rfl
theorem cells102 : Try.prog.cellsOf 102 = 1 := by kernel_rfl
theorem cells3 : Try.prog.cellsOf 3 = 1 := by kernel_rfl
section
variable {H : Type} {enc : TypeId × Value → H} {W : World} {base : Nat} {spare : Nat → Bool} {held : Bool}
set_option maxRecDepth 100000 in
/-- a slice of numbers that came in, as a list that is read -/
theorem rd_of_trod {t e : TypeId} (hsp : ∀ b, spare b = true) (ht : Try.prog.underlying t = some (.slice e)) (he : Try.prog.underlying e = some (.int .i64)) (hc : Try.prog.cellsOf e = 1) {fuel : Nat} {v : Value} {x : DataW H × List MemPlace}
    (h : DataW.trod enc Try.prog W base spare held fuel t [v] = some x) : ∃ a cap, ∃ xs : List Int, v = .slice a xs.length cap ∧ RdI W v xs := by
  rcases open_ints ht he hc h with ⟨hcs, _⟩ | ⟨a, l, c, zs, hcs, _, hl, hm, hz, _, hcell, hwz⟩
  · injection hcs with hcs
    subst hcs
    exact ⟨none, 0, [], rfl, by simp, none, 0, rfl, fun h => absurd rfl h⟩
  · injection hcs with hcs
    subst hcs
    rw [hsp, if_pos rfl] at hz
    have hxl : (zs.take l).length = l := by rw [List.length_take]; omega
    have hm' : l ≤ 9223372036854775807 := by have : maxLen = 9223372036854775807 := rfl; omega
    refine ⟨some a, c, zs.take l, by rw [hxl], by omega, some a, c, by rw [hxl], fun hne => ?_⟩
    have hl0 : 0 < l := by
      rcases Nat.eq_zero_or_pos l with h0 | h0
      · subst h0; simp at hne
      · exact h0
    obtain ⟨b, off, rfl, hc⟩ := ints_at hcell (by omega)
    refine ⟨b, off, rfl, ?_, fun i hi => ?_⟩
    · have := hc 0 (by omega)
      rcases Nat.lt_or_ge b W.heap.size with h' | h'
      · exact h'
      · simp [World.cell?, Array.getElem?_eq_none h'] at this
    · have hi2 : i < l := by omega
      rw [hc i (by omega)]
      congr 2
      simp only [List.getD_eq_getElem?_getD, List.getElem?_take, hi2, if_true]

set_option maxRecDepth 100000 in
/-- a town that came in -/
theorem town_of_trod (hsp : ∀ b, spare b = true) {v : Value} {d : DataW H} {p : List MemPlace} {r : Reach} {b0 : Nat} (hv : Value.okWide Try.prog W r b0 24 v) (h : DataW.Trod enc Try.prog W base spare held 24 v d p) :
    ∃ wd a cap, ∃ xs : List Int, v = .agg #[.int .i64 wd, .slice a xs.length cap] ∧ RdI W (.slice a xs.length cap) xs := by
  obtain ⟨c0, c1, y0, y1, m, rfl, rfl, rfl, hy0, hy1⟩ := open_agg2 Try.underlying24 (by kernel_rfl) cells24 hv h
  obtain ⟨wd, e0, _, _⟩ := DataW.trod_int Try.underlying3 hy0
  obtain ⟨a, cap, xs, e1, hR⟩ := rd_of_trod hsp Try.underlying22 Try.underlying102 cells102 hy1
  simp at e0
  subst e0
  subst e1
  exact ⟨wd, a, cap, xs, rfl, hR⟩
set_option maxRecDepth 100000 in
/-- an air that came in -/
theorem air_of_trod {v : Value} {d : DataW H} {p : List MemPlace} {r : Reach} {b0 : Nat} (hv : Value.okWide Try.prog W r b0 27 v) (h : DataW.Trod enc Try.prog W base spare held 27 v d p) :
    ∃ wind voice : Int, v = .agg #[.int .i64 wind, .int .i64 voice] := by
  obtain ⟨c0, c1, y0, y1, m, rfl, rfl, rfl, hy0, hy1⟩ := open_agg2 Try.underlying27 (by kernel_rfl) cells27 hv h
  obtain ⟨x, e0, _, _⟩ := DataW.trod_int Try.underlying25 hy0
  obtain ⟨y, e1, _, _⟩ := DataW.trod_int Try.underlying3 hy1
  simp at e0 e1
  subst e0
  subst e1
  exact ⟨x, y, rfl⟩
theorem lt_of_trod {t : TypeId} {v : Value} {d : DataW H} {p : List MemPlace} (h : DataW.Trod enc Try.prog W 0 spare held t v d p) : ∀ x ∈ p, x.block < W.heap.size := by obtain ⟨m, hm⟩ := h; exact DataW.trod_lt m _ _ _ hm
end

theorem cells5 : Try.prog.cellsOf 5 = 1 := by kernel_rfl
section
variable {H : Type} {enc : TypeId × Value → H} {W : World} {base : Nat} {spare : Nat → Bool} {held : Bool}
set_option maxRecDepth 100000 in
/-- bytes that came in -/
theorem rdB_of_trod {t e : TypeId} (hsp : ∀ b, spare b = true) (ht : Try.prog.underlying t = some (.slice e)) (he : Try.prog.underlying e = some (.int .u8)) (hc : Try.prog.cellsOf e = 1) {fuel : Nat} {v : Value} {x : DataW H × List MemPlace}
    (h : DataW.trod enc Try.prog W base spare held fuel t [v] = some x) : ∃ ma n mc, v = .slice ma n mc ∧ RdB W ma n := by
  rcases open_ints ht he hc h with ⟨hcs, _⟩ | ⟨a, l, c, zs, hcs, _, hl, hm, hz, _, hcell, hwz⟩
  · injection hcs with hcs
    subst hcs
    exact ⟨none, 0, 0, rfl, by omega, fun h => absurd rfl h, fun h => absurd rfl h⟩
  · injection hcs with hcs
    subst hcs
    rw [hsp, if_pos rfl] at hz
    have hm' : l ≤ 9223372036854775807 := by have : maxLen = 9223372036854775807 := rfl; omega
    have key : l ≠ 0 → ∃ b off, a = ⟨b, off, none⟩ ∧ b < W.heap.size ∧ ∀ i, i < l → ∃ x : Int, 0 ≤ x ∧ x ≤ 255 ∧ W.cell? ⟨b, off + i, none⟩ = some (.int .u8 x) := fun hn => by
      obtain ⟨b, off, rfl, hc⟩ := ints_at hcell (by omega)
      refine ⟨b, off, rfl, ?_, fun i hi => ?_⟩
      · have := hc 0 (by omega)
        rcases Nat.lt_or_ge b W.heap.size with h' | h'
        · exact h'
        · simp [World.cell?, Array.getElem?_eq_none h'] at this
      · have hw : (Lit.int .u8 (zs.getD i 0)).wf = true := by
          have hi2 : i < zs.length := by omega
          rw [List.getD_eq_getElem?_getD, List.getElem?_eq_getElem hi2]
          exact hwz _ (List.getElem_mem hi2)
        have := bounds_u8 hw
        exact ⟨_, this.1, this.2, hc i (by omega)⟩
    refine ⟨some a, l, c, rfl, hm', fun hn mb mo e => ?_, fun hn => ?_⟩
    · obtain ⟨b, off, e2, h1, _⟩ := key hn
      rw [e2] at e
      injection e with e
      injection e with e
      omega
    · obtain ⟨b, off, e2, h1, h2⟩ := key hn
      exact ⟨b, off, by rw [e2], h1, h2⟩
end

end Go.Proofs.Ytimedmkpenbmkaa
