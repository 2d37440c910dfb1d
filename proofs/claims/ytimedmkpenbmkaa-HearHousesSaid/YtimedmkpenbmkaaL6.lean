import Derived.Test.YtimedmkpenbmkaaHh
import Derived.Test.YtimedmkpenbmkaaBx
import Derived.Deep.CutRange
import Derived.Deep.DeepCutAuto
namespace Go.Proofs.Ytimedmkpenbmkaa
open Go.RowKit Go.Shelf
set_option linter.unusedSimpArgs false
set_option linter.unusedVariables false

/-- what stands in the law: both towns in their boxes, what was passed in in its boxes -/
structure Ho6 (wd : Int) (xs : List Int) (sv : Value) (wind voice : Int) (c7 : Nat) (u7 : Value) (c8 : Nat) (u8 : Value) (w W : World) : Prop where
  lw : LwT wd xs c7 u7 c8 u8 W
  x0 : W.heap[w.heap.size]? = some (.cells #[.int .i64 wd, sv] 24 (0, 0))
  x1 : W.heap[w.heap.size + 1]? = some (.cells #[.int .i64 wind, .int .i64 voice] 27 (0, 0))
  rs : RdI W sv xs
  bel : Below w.heap.size w W
theorem Ho6.below {wd : Int} {xs : List Int} {sv : Value} {wind voice : Int} {c7 : Nat} {u7 : Value} {c8 : Nat} {u8 : Value} {w W W' : World} (h : Ho6 wd xs sv wind voice c7 u7 c8 u8 w W) (hB : Below W.heap.size W W') : Ho6 wd xs sv wind voice c7 u7 c8 u8 w W' :=
  ⟨h.lw.below hB, (hB.block _ (Array.getElem?_eq_some_iff.1 h.x0).1).trans h.x0, (hB.block _ (Array.getElem?_eq_some_iff.1 h.x1).1).trans h.x1, h.rs.below hB, join h.bel hB⟩
theorem Ho6.cs {wd : Int} {xs : List Int} {sv : Value} {wind voice : Int} {c7 : Nat} {u7 : Value} {c8 : Nat} {u8 : Value} {w W : World} (h : Ho6 wd xs sv wind voice c7 u7 c8 u8 w W) :
    W.cell? ⟨c7, 0, none⟩ = some (.int .i64 wd) ∧ W.cell? ⟨c7, 1, none⟩ = some u7 ∧ W.cell? ⟨c8, 0, none⟩ = some (.int .i64 wd) ∧ W.cell? ⟨c8, 1, none⟩ = some u8 ∧ W.cell? ⟨w.heap.size + 1, 0, none⟩ = some (.int .i64 wind) ∧ W.cell? ⟨w.heap.size + 1, 1, none⟩ = some (.int .i64 voice) ∧ W.cell? ⟨w.heap.size, 0, none⟩ = some (.int .i64 wd) ∧ W.cell? ⟨w.heap.size, 1, none⟩ = some sv ∧ c8 < W.heap.size ∧ w.heap.size + 1 < W.heap.size := by
  obtain ⟨⟨a, b⟩, c, d⟩ := h.lw.cs
  obtain ⟨e, f⟩ := blk_cells2 h.x1
  obtain ⟨g, i⟩ := blk_cells2 h.x0
  exact ⟨a, b, c, d, e, f, g, i, (Array.getElem?_eq_some_iff.1 h.lw.b8).1, (Array.getElem?_eq_some_iff.1 h.x1).1⟩

def spH3 (wd : Int) (sv : Value) (xs : List Int) (wind : Int) (C1 B : Nat) : Nat → List Value → Value → World → Prop
  | 0, _, v, _ => v = .agg #[.int .i64 wd, sv]
  | 1, L, v, w => ∃ u, v = .agg #[.int .i64 wd, u] ∧ w.ownsRow B 102 1 u xs.length (xs.map (Value.int .i64))
  | 2, _, v, _ => v = .agg #[.int .i64 wd, sv]
  | 3, L, v, w => ∃ u, v = .agg #[.int .i64 wd, u] ∧ w.ownsRow B 3 1 u xs.length (xs.map (Value.int .i64))
  | 4, _, v, _ => v = .pointer (some ⟨C1, 0, none⟩)
  | 5, _, v, _ => v = .int .i64 wind
  | 6, L, v, w => ∃ p c0 c1, v = .pointer (some ⟨p, 0, none⟩) ∧ B ≤ p ∧ w.heap[p]? = some (.cells #[c0, c1] 24 (0, 0))
  | 7, L, v, w => ∃ p c0 c1, v = .pointer (some ⟨p, 0, none⟩) ∧ B ≤ p ∧ w.heap[p]? = some (.cells #[c0, c1] 33 (0, 0))
  | 8, L, v, w => ∃ p u, L.getD 4 undef = .pointer (some ⟨p, 0, none⟩) ∧ w.heap[p]? = some (.cells #[.int .i64 wd, u] 24 (0, 0)) ∧ w.ownsRow B 102 1 u xs.length (xs.map (Value.int .i64))
  | 9, L, v, w => ∃ p u, L.getD 5 undef = .pointer (some ⟨p, 0, none⟩) ∧ w.heap[p]? = some (.cells #[.int .i64 wd, u] 33 (0, 0)) ∧ w.ownsRow B 3 1 u xs.length (xs.map (Value.int .i64))
  | 10, _, v, _ => v = .int .i64 wind
  | _, _, _, _ => False
theorem spH3_stable (wd : Int) (sv : Value) (xs : List Int) (wind : Int) (C1 B : Nat) : ∀ i L v w w', spH3 wd sv xs wind C1 B i L v w → Bx wd xs B w w' → spH3 wd sv xs wind C1 B i L v w' := by
  intro i L v w w' h hg
  match i with
  | 0 => exact h
  | 1 => obtain ⟨u, h1, h2⟩ := h; exact ⟨u, h1, hg.row (.inl rfl) h2⟩
  | 2 => exact h
  | 3 => obtain ⟨u, h1, h2⟩ := h; exact ⟨u, h1, hg.row (.inr rfl) h2⟩
  | 4 => exact h
  | 5 => exact h
  | 6 => 
    obtain ⟨p, c0, c1, h1, h2, h3⟩ := h
    rcases hg.same p (Array.getElem?_eq_some_iff.1 h3).1 with e | ⟨_, T, e, u, cs, hT, e1, e2, _⟩
    · exact ⟨p, c0, c1, h1, h2, e.trans h3⟩
    · rw [h3] at e1; injection e1 with e1; injection e1 with _ e1; subst e1; exact ⟨p, _, u, h1, h2, e2⟩
  | 7 => 
    obtain ⟨p, c0, c1, h1, h2, h3⟩ := h
    rcases hg.same p (Array.getElem?_eq_some_iff.1 h3).1 with e | ⟨_, T, e, u, cs, hT, e1, e2, _⟩
    · exact ⟨p, c0, c1, h1, h2, e.trans h3⟩
    · rw [h3] at e1; injection e1 with e1; injection e1 with _ e1; subst e1; exact ⟨p, _, u, h1, h2, e2⟩
  | 8 => 
    obtain ⟨p, u, h1, h2, h3⟩ := h
    rcases hg.same p (Array.getElem?_eq_some_iff.1 h2).1 with e | ⟨_, T, e, u', cs, hT, e1, e2, e3⟩
    · exact ⟨p, u, h1, e.trans h2, hg.row (.inl rfl) h3⟩
    · rw [h2] at e1; injection e1 with e1; injection e1 with _ e1; subst e1
      rcases hT with ⟨h4, h5⟩ | ⟨h4, h5⟩ <;> first | (cases h4; done) | (subst h5; exact ⟨p, u', h1, e2, e3⟩)
  | 9 => 
    obtain ⟨p, u, h1, h2, h3⟩ := h
    rcases hg.same p (Array.getElem?_eq_some_iff.1 h2).1 with e | ⟨_, T, e, u', cs, hT, e1, e2, e3⟩
    · exact ⟨p, u, h1, e.trans h2, hg.row (.inr rfl) h3⟩
    · rw [h2] at e1; injection e1 with e1; injection e1 with _ e1; subst e1
      rcases hT with ⟨h4, h5⟩ | ⟨h4, h5⟩ <;> first | (cases h4; done) | (subst h5; exact ⟨p, u', h1, e2, e3⟩)
  | 10 => exact h

def spH10 (wk : Value) (st hs Pu Pv : Int) : Nat → List Value → Value → World → Prop
  | 0, _, v, _ => v = wk
  | 1, _, v, _ => v = .int .i64 st
  | 2, _, v, _ => v = .int .i64 Pu
  | 3, _, v, _ => v = wk
  | 4, _, v, _ => v = .int .i64 hs
  | 5, _, v, _ => v = .int .i64 Pv
  | _, _, _, _ => False
theorem spH10_stable (wk : Value) (st hs Pu Pv : Int) : ∀ i L v w w', spH10 wk st hs Pu Pv i L v w → Rs.Gr w w' → spH10 wk st hs Pu Pv i L v w' := by
  intro i L v w w' h hg
  match i with
  | 0 => exact h
  | 1 => exact h
  | 2 => exact h
  | 3 => exact h
  | 4 => exact h
  | 5 => exact h

set_option maxHeartbeats 8000000 in
set_option maxRecDepth 100000 in
theorem HearHouses_any (wd : Int) (a : Option Addr) (cap : Nat) (xs : List Int) (wind voice stand house : Int) (w : World) (hR : RdI w (.slice a xs.length cap) xs) :
    Calls Try.prog 6 #[.agg #[.int .i64 wd, .slice a xs.length cap], .agg #[.int .i64 wind, .int .i64 voice], .int .i64 stand, .int .i64 house] w fun e w' => e = .returned (.bool true) ∧ Below w.heap.size w w' := by
  obtain ⟨i0, hi, hz0, hz1, hz2⟩ := info_parts A_info3
  have HR := Lib.hid hR
  have HB0 := Lib.hid (al (below1 w (.cells #[.int .i64 wd, .slice a xs.length cap] 24)) (.cells #[.int .i64 wind, .int .i64 voice] 27))
  have hx0 : ((w.alloc (.cells #[.int .i64 wd, .slice a xs.length cap] 24)).alloc (.cells #[.int .i64 wind, .int .i64 voice] 27)).heap[w.heap.size]? = some (.cells #[.int .i64 wd, .slice a xs.length cap] 24 (0, 0)) := (Below.heap_alloc _ _ _ (by simp)).trans (heap_alloc_last _ _)
  have hx1 : ((w.alloc (.cells #[.int .i64 wd, .slice a xs.length cap] 24)).alloc (.cells #[.int .i64 wind, .int .i64 voice] 27)).heap[w.heap.size + 1]? = some (.cells #[.int .i64 wind, .int .i64 voice] 27 (0, 0)) := by
    have := heap_alloc_last (w.alloc (.cells #[.int .i64 wd, .slice a xs.length cap] 24)) (.cells #[.int .i64 wind, .int .i64 voice] 27); simpa using this
  have HX0 := Lib.hid hx0
  have HX1 := Lib.hid hx1
  have hl9 : xs.length ≤ 9223372036854775807 := hR.1
  clear hR hx0 hx1
  by_cases hgr : 40 < xs.length
  · have hg : decide (40 < (xs.length : Int)) = true := by simp; omega
    have HG := Lib.hid (fun W => great_any a wd xs.length cap W)
    rw [hg] at HG
    clear hg
    go_enter Try.func6, Try.ntmps6
    go_wp2_with fail
    refine (HG.out _).mono ?_
    rintro e w1 ⟨rfl, hB⟩
    have HB1 := Lib.hid (join HB0.out hB)
    clear hB
    go_wp2_with fail
    refine (awake_any w1).mono ?_
    rintro e w2 ⟨rfl, hB⟩
    have HB2 := Lib.hid (join HB1.out hB)
    clear hB
    go_wp2
    go_ret
    exact ⟨rfl, HB2.out⟩
  · have hg : decide (40 < (xs.length : Int)) = false := by simp; omega
    have HG := Lib.hid (fun W => great_any a wd xs.length cap W)
    rw [hg] at HG
    have hl : xs.length ≤ 1000000 := by omega
    clear hg
    go_enter Try.func6, Try.ntmps6
    go_wp2_with fail
    refine (HG.out _).mono ?_
    rintro e w1 ⟨rfl, hB⟩
    have HX0 := (hB.block w.heap.size (by simp; omega)).trans HX0.out
    have HX1 := (hB.block (w.heap.size + 1) (by simp)).trans HX1.out
    have HZ0 : w.heap.size < w1.heap.size := (Array.getElem?_eq_some_iff.1 HX0).1
    have HZ1 : w.heap.size + 1 < w1.heap.size := (Array.getElem?_eq_some_iff.1 HX1).1
    have HB := Lib.hid (join HB0.out hB)
    clear hB HB0
    go_wp2_with fail
    refine Rg.region_gen (Bx.isGr wd xs w1.heap.size) 11 [[], [0], [], [0, 1, 2], [], [4], [], [], [0, 1, 2, 3, 6, 7], [0, 1, 2, 3, 6, 7, 8], [0, 1, 2, 3, 4, 5, 6, 7, 8, 9]] [some 34, some 35, some 36, some 37, some 38, some 39, some 9, some 10, none, none, some 11] (spH3 wd (.slice a xs.length cap) xs wind (w.heap.size + 1) w1.heap.size) (by kernel_rfl) (by kernel_rfl) rfl (spH3_stable _ _ _ _ _ _) ?_ ?_
    · refine ⟨fun V w' hG hs => ?_, fun V w' hG hs => ?_, fun V w' hG hs => ?_, fun V w' hG hs => ?_, fun V w' hG hs => ?_, fun V w' hG hs => ?_, fun V w' hG hs => ?_, fun V w' hG hs => ?_, fun V w' hG hs => ?_, fun V w' hG hs => ?_, fun V w' hG hs => ?_, trivial⟩
      all_goals
        have hGb := hG.low (Nat.le_refl _)
        obtain ⟨k0, k1⟩ := blk_cells2 ((hGb.block w.heap.size HZ0).trans HX0)
        obtain ⟨k4, k5⟩ := blk_cells2 ((hGb.block (w.heap.size + 1) HZ1).trans HX1)
      · rw [if_pos (by rfl)]
        exact Rg.GrowL.value (v := .agg #[.int .i64 wd, (.slice a xs.length cap)]) (w' := w') (by simp [go_sem, Rs.look, k0, k1]) ((Bx.isGr wd xs w1.heap.size).refl _) rfl
      · have e0 : V 0 = .agg #[.int .i64 wd, (.slice a xs.length cap)] := hs 0 (by simp)
        rw [if_pos (by rfl)]
        refine Rg.GrowL.call (Bx.isGr wd xs w1.heap.size) (f := 17) (args := #[.agg #[.int .i64 wd, .slice a xs.length cap]]) (by simp [go_sem, Rs.look, e0]) ?_
        refine (Own_any wd a cap xs hl w' (HR.out.below (join HB.out hGb))).mono ?_
        rintro e w2 ⟨u, rfl, ho, hB2⟩
        exact ⟨_, rfl, .of_gr hB2, u, rfl, own_base ho hGb.size⟩
      · rw [if_pos (by rfl)]
        exact Rg.GrowL.value (v := .agg #[.int .i64 wd, (.slice a xs.length cap)]) (w' := w') (by simp [go_sem, Rs.look, k0, k1]) ((Bx.isGr wd xs w1.heap.size).refl _) rfl
      · have e0 : V 0 = .agg #[.int .i64 wd, (.slice a xs.length cap)] := hs 0 (by simp)
        have r1 := hs 1 (by simp)
        have e2 : V 2 = .agg #[.int .i64 wd, (.slice a xs.length cap)] := hs 2 (by simp)
        rw [if_pos (by rfl)]
        refine Rg.GrowL.call (Bx.isGr wd xs w1.heap.size) (f := 18) (args := #[.agg #[.int .i64 wd, .slice a xs.length cap]]) (by simp [go_sem, Rs.look, e2]) ?_
        refine (theirs_any wd a cap xs hl w' (HR.out.below (join HB.out hGb))).mono ?_
        rintro e w2 ⟨u, rfl, ho, hB2⟩
        exact ⟨_, rfl, .of_gr hB2, u, rfl, own_base ho hGb.size⟩
      · rw [if_pos (by rfl)]
        exact Rg.GrowL.value (v := .pointer (some ⟨(w.heap.size + 1), 0, none⟩)) (w' := w') (by simp [go_sem, Rs.look]) ((Bx.isGr wd xs w1.heap.size).refl _) rfl
      · have e4 : V 4 = .pointer (some ⟨(w.heap.size + 1), 0, none⟩) := hs 4 (by simp)
        rw [if_pos (by rfl)]
        exact Rg.GrowL.value (v := .int .i64 wind) (w' := w') (by simp [go_sem, Rs.look, e4, k4, k5]) ((Bx.isGr wd xs w1.heap.size).refl _) rfl
      · rw [if_pos (by rfl)]
        exact Rg.GrowL.value (v := .pointer (some ⟨w'.heap.size, 0, none⟩)) (w' := w'.alloc (.cells #[.int .i64 0, .slice none 0 0] 24)) (by simp [go_sem, Rs.look]) (.of_gr (below1 _ _)) ⟨_, _, _, rfl, hGb.size, heap_alloc_last _ _⟩
      · rw [if_pos (by rfl)]
        exact Rg.GrowL.value (v := .pointer (some ⟨w'.heap.size, 0, none⟩)) (w' := w'.alloc (.cells #[.int .i64 0, .slice none 0 0] 33)) (by simp [go_sem, Rs.look]) (.of_gr (below1 _ _)) ⟨_, _, _, rfl, hGb.size, heap_alloc_last _ _⟩
      · have e0 : V 0 = .agg #[.int .i64 wd, (.slice a xs.length cap)] := hs 0 (by simp)
        have r1 := hs 1 (by simp)
        have e2 : V 2 = .agg #[.int .i64 wd, (.slice a xs.length cap)] := hs 2 (by simp)
        have r3 := hs 3 (by simp)
        have r6 := hs 6 (by simp)
        have r7 := hs 7 (by simp)
        rw [if_pos (by rfl)]
        obtain ⟨c7, x0, x1, e6, hc7, x7⟩ : ∃ p c0 c1, V 6 = .pointer (some ⟨p, 0, none⟩) ∧ w1.heap.size ≤ p ∧ w'.heap[p]? = some (.cells #[c0, c1] 24 (0, 0)) := r6
        obtain ⟨u7, e1, o7⟩ : ∃ u, V 1 = .agg #[.int .i64 wd, u] ∧ w'.ownsRow w1.heap.size 102 1 u xs.length (xs.map (Value.int .i64)) := r1
        obtain ⟨a7, p7, rfl⟩ := own_slice o7
        obtain ⟨q0, q1⟩ := blk_cells2 x7
        have f0 := frozen_of_row w' c7 0 _ _ x7
        have f1 := frozen_of_row w' c7 1 _ _ x7
        have hf := Bx.fill (wd := wd) (xs := xs) (.inl ⟨rfl, rfl⟩) hc7 x7 o7
        exact Rg.GrowL.skip (w' := (w'.setCell ⟨c7, 0, none⟩ (.int .i64 wd)).setCell ⟨c7, 1, none⟩ (.slice a7 xs.length p7)) (by simp [go_sem, Rs.look, e6, e1, q0, q1, f0, f1]) hf.1 ⟨c7, _, e6, hf.2.1, hf.2.2⟩
      · have e0 : V 0 = .agg #[.int .i64 wd, (.slice a xs.length cap)] := hs 0 (by simp)
        have r1 := hs 1 (by simp)
        have e2 : V 2 = .agg #[.int .i64 wd, (.slice a xs.length cap)] := hs 2 (by simp)
        have r3 := hs 3 (by simp)
        have r6 := hs 6 (by simp)
        have r7 := hs 7 (by simp)
        have r8 := hs 8 (by simp)
        rw [if_pos (by rfl)]
        obtain ⟨c7, x0, x1, e7, hc7, x7⟩ : ∃ p c0 c1, V 7 = .pointer (some ⟨p, 0, none⟩) ∧ w1.heap.size ≤ p ∧ w'.heap[p]? = some (.cells #[c0, c1] 33 (0, 0)) := r7
        obtain ⟨u7, e3, o7⟩ : ∃ u, V 3 = .agg #[.int .i64 wd, u] ∧ w'.ownsRow w1.heap.size 3 1 u xs.length (xs.map (Value.int .i64)) := r3
        obtain ⟨a7, p7, rfl⟩ := own_slice o7
        obtain ⟨q0, q1⟩ := blk_cells2 x7
        have f0 := frozen_of_row w' c7 0 _ _ x7
        have f1 := frozen_of_row w' c7 1 _ _ x7
        have hf := Bx.fill (wd := wd) (xs := xs) (.inr ⟨rfl, rfl⟩) hc7 x7 o7
        exact Rg.GrowL.skip (w' := (w'.setCell ⟨c7, 0, none⟩ (.int .i64 wd)).setCell ⟨c7, 1, none⟩ (.slice a7 xs.length p7)) (by simp [go_sem, Rs.look, e7, e3, q0, q1, f0, f1]) hf.1 ⟨c7, _, e7, hf.2.1, hf.2.2⟩
      · have e0 : V 0 = .agg #[.int .i64 wd, (.slice a xs.length cap)] := hs 0 (by simp)
        have r1 := hs 1 (by simp)
        have e2 : V 2 = .agg #[.int .i64 wd, (.slice a xs.length cap)] := hs 2 (by simp)
        have r3 := hs 3 (by simp)
        have e4 : V 4 = .pointer (some ⟨(w.heap.size + 1), 0, none⟩) := hs 4 (by simp)
        have e5 : V 5 = .int .i64 wind := hs 5 (by simp)
        have r6 := hs 6 (by simp)
        have r7 := hs 7 (by simp)
        have r8 := hs 8 (by simp)
        have r9 := hs 9 (by simp)
        rw [if_pos (by rfl)]
        exact Rg.GrowL.value (v := .int .i64 wind) (w' := w') (by simp [go_sem, Rs.look, e0, e2, e4, e5]) ((Bx.isGr wd xs w1.heap.size).refl _) rfl
    · intro V w' hG hs
      have e0 : V 0 = .agg #[.int .i64 wd, (.slice a xs.length cap)] := hs 0 (by omega)
      have r1 := hs 1 (by omega)
      have e2 : V 2 = .agg #[.int .i64 wd, (.slice a xs.length cap)] := hs 2 (by omega)
      have r3 := hs 3 (by omega)
      have e4 : V 4 = .pointer (some ⟨(w.heap.size + 1), 0, none⟩) := hs 4 (by omega)
      have e5 : V 5 = .int .i64 wind := hs 5 (by omega)
      have r6 := hs 6 (by omega)
      have r7 := hs 7 (by omega)
      have r8 := hs 8 (by omega)
      have r9 := hs 9 (by omega)
      have e10 : V 10 = .int .i64 wind := hs 10 (by omega)
      obtain ⟨c7, u7, e6, x7, o7⟩ : ∃ p u, V 6 = .pointer (some ⟨p, 0, none⟩) ∧ w'.heap[p]? = some (.cells #[.int .i64 wd, u] 24 (0, 0)) ∧ w'.ownsRow w1.heap.size 102 1 u xs.length (xs.map (Value.int .i64)) := r8
      obtain ⟨c8, u8, e7, x8, o8⟩ : ∃ p u, V 7 = .pointer (some ⟨p, 0, none⟩) ∧ w'.heap[p]? = some (.cells #[.int .i64 wd, u] 33 (0, 0)) ∧ w'.ownsRow w1.heap.size 3 1 u xs.length (xs.map (Value.int .i64)) := r9
      simp only [Rs.canon, Rs.dstOf, List.range_succ, List.range_zero, List.nil_append, List.cons_append, List.foldl_cons, List.foldl_nil, List.drop_succ_cons, List.drop_zero, List.drop_nil, List.getElem?_toArray, List.getElem?_cons_succ, List.getElem?_cons_zero, Option.bind_some, Act.put, List.getD_cons_succ, List.getD_cons_zero, List.setIfInBounds_toArray, List.set_cons_succ, List.set_cons_zero]
      rw [e0, e2, e4, e5, e6, e7, e10]
      generalize V 1 = y1
      generalize V 3 = y3
      have hGb := hG.low (Nat.le_refl _)
      obtain ⟨a7, p7, rfl⟩ := own_slice o7
      obtain ⟨a8, p8, rfl⟩ := own_slice o8
      have HBW := join HB.out hGb
      have HH : Hid (Ho6 wd xs (.slice a xs.length cap) wind voice c7 (.slice a7 xs.length p7) c8 (.slice a8 xs.length p8) w w') := Lib.hid ⟨⟨x7, x8, RdI.own rfl rfl o7, RdI.own rfl rfl o8⟩, (hGb.block _ HZ0).trans HX0, (hGb.block _ HZ1).trans HX1, HR.out.below HBW, HBW⟩
      obtain ⟨k0, k1, k2, k3, k4, k5, j0, j1, j2, j3⟩ := HH.out.cs
      clear e0 e2 e4 e5 e6 e7 e10 hs r1 r3 r6 r7 hG hGb x7 x8 o7 o8 HBW HX0 HX1 HZ0 HZ1 HB
      go_wp2_with fail

      obtain ⟨E, hE⟩ : ∃ E, E = checkErr wd xs := ⟨_, rfl⟩
      obtain ⟨A, hA⟩ : ∃ A, A = airErr wind voice := ⟨_, rfl⟩
      obtain ⟨O, hO⟩ : ∃ O, O = openErr wd xs wind voice := ⟨_, rfl⟩
      obtain ⟨U, hU⟩ : ∃ U, U = atE wd xs wind voice stand 0 := ⟨_, rfl⟩
      obtain ⟨V0, hV⟩ : ∃ V0, V0 = atE wd xs wind voice house 1 := ⟨_, rfl⟩
      obtain ⟨LH, hLH⟩ : ∃ LH, LH = housesL wd xs wind voice stand := ⟨_, rfl⟩
      obtain ⟨LS, hLS⟩ : ∃ LS, LS = standsL wd xs wind voice house := ⟨_, rfl⟩
      obtain ⟨LD, hLD⟩ : ∃ LD, LD = deafL wd xs wind voice := ⟨_, rfl⟩
      have C20 := Lib.hid (fun W hR => refCheck_any wd a8 p8 xs hl W hR)
      have C22 := Lib.hid (fun W => refAir_any wind voice W)
      have C39 := Lib.hid (fun W hR => Houses_any wd wind voice stand a7 p7 xs hl W hR)
      have C40 := Lib.hid (fun W hR => Stands_any wd wind voice house a7 p7 xs hl W hR)
      have C41 := Lib.hid (fun W hR => Deaf_any wd wind voice a7 p7 xs hl W hR)
      rw [← hE] at C20
      rw [← hA] at C22
      rw [← hU, ← hLH] at C39
      rw [← hV, ← hLS] at C40
      rw [← hO, ← hLD] at C41
      have HE := Lib.hid hE
      have HA := Lib.hid hA
      have HO := Lib.hid hO
      have HU := Lib.hid hU
      have HV := Lib.hid hV
      have HLH := Lib.hid hLH
      have HLS := Lib.hid hLS
      have HLD := Lib.hid hLD
      clear hE hA hO hU hV hLH hLS hLD k0 k1 k2 k3 k4 k5 j0 j1 j2 j3
      refine (C20.out _ HH.out.lw.r8).mono ?_
      rintro e w2 ⟨rfl, hB⟩
      have HH := Lib.hid (HH.out.below hB)
      clear hB
      obtain ⟨k0, k1, k2, k3, k4, k5, j0, j1, j2, j3⟩ := HH.out.cs
      go_upto_if 43 with fail
      go_cut [12] from 42 to 47 (fun s12 wx => s12 = .int .i64 O ∧ wx = w2)
      case first =>
        by_cases h0 : E = 0
        · have e1 : O = A := by rw [HO.out, HA.out]; unfold openErr; rw [← HE.out, if_neg (by rw [h0]; simp)]
          subst h0
          go_wp2_with fail
          refine (C22.out _).mono ?_
          rintro e w3 ⟨rfl, rfl⟩
          go_wp2_with fail
          go_meet
          exact ⟨by rw [e1], rfl⟩
        · have e1 : O = E := by rw [HO.out, HE.out]; unfold openErr; rw [if_pos (by rw [← HE.out]; exact h0)]
          have d : (E == 0) = false := by simpa using h0
          go_wp2_with fail
          go_meet
          exact ⟨by rw [e1], rfl⟩
      case rest =>
        obtain ⟨rfl, rfl⟩ := hcut
        obtain ⟨w2, rfl⟩ : ∃ w2 : World, w2 = wc := ⟨_, rfl⟩
        go_upto_if 51 with fail
        go_cut [13, 14, 15, 16, 17] from 48 to 103 (fun s13 s14 s15 s16 s17 wx => ∃ b1 b2 b3 : Value, b1 = s13 ∧ b2 = s14 ∧ b3 = s15 ∧ s16 = .int .i64 U ∧ s17 = .int .i64 V0 ∧ Hid (U = 0 → RdI wx b1 LH) ∧ Hid (V0 = 0 → RdI wx b2 LS) ∧ Hid (RdI wx b3 LD) ∧ Hid (Below w2.heap.size w2 wx))
        case first =>
          by_cases h0 : O = 0
          · obtain ⟨h1, h2⟩ := openErr_ok (HO.out.symm.trans h0)
            have he := HO.out.symm.trans h0
            obtain ⟨t, -, hw, hx, ok⟩ := town_name h1
            subst hw hx
            subst h0
            have h30 : t.plots.length ≤ 30 := ok.n30
            have hne : t.plots ≠ [] := by intro e; have := (check_len h1).2; rw [e] at this; simp at this
            obtain ⟨b8, o8, rfl, -, hI8⟩ := rd_ints HH.out.lw.r8 hne
            obtain ⟨Pu, hPu⟩ : ∃ Pu, Pu = plotErr t.plots stand 0 := ⟨_, rfl⟩
            obtain ⟨Pv, hPv⟩ : ∃ Pv, Pv = plotErr t.plots house 1 := ⟨_, rfl⟩
            have CU := Lib.hid (fun W hR => refIs_any t.wide (some ⟨b8, o8, none⟩) p8 t.plots stand 0 hl W hR)
            have CV := Lib.hid (fun W hR => refIs_any t.wide (some ⟨b8, o8, none⟩) p8 t.plots house 1 hl W hR)
            rw [← hPu] at CU
            rw [← hPv] at CV
            have eU : U = Pu := by rw [HU.out, hPu]; unfold atE; rw [if_neg (by rw [he]; simp)]
            have eV : V0 = Pv := by rw [HV.out, hPv]; unfold atE; rw [if_neg (by rw [he]; simp)]
            have HPU := Lib.hid (And.intro hPu eU)
            have HPV := Lib.hid (And.intro hPv eV)
            have CE := Lib.hid (fun W (hI : Ints W b8 o8 t.plots) => refEars_yes t ok wind voice he b8 o8 p8 W hI)
            have HI8 := Lib.hid hI8
            have HOK := Lib.hid ok
            have HC0 := Lib.hid h1
            have HE0 := Lib.hid he
            clear h1 h2 he hne hI8 hPu hPv eU eV k0 k1 k2 k3 k4 k5 j0 j1 j2 j3
            go_wp2_with fail
            refine Rs.region_gen 6 [[], [], [0, 1], [], [], [0, 1, 2, 3, 4]] [some 52, some 53, some 54, some 55, some 56, some 57] (spH10 (.agg #[.int .i64 t.wide, .slice (some ⟨b8, o8, none⟩) t.plots.length p8]) stand house Pu Pv) (by kernel_rfl) (by kernel_rfl) rfl (spH10_stable _ _ _ _ _) ?_ ?_
            · refine ⟨fun V w' hG hs => ?_, fun V w' hG hs => ?_, fun V w' hG hs => ?_, fun V w' hG hs => ?_, fun V w' hG hs => ?_, fun V w' hG hs => ?_, trivial⟩
              all_goals
                obtain ⟨k0, k1, k2, k3, k4, k5, j0, j1, j2, j3⟩ := (HH.out.below hG).cs
              · rw [if_pos (by rfl)]
                exact Rs.GrowL.value (v := (.agg #[.int .i64 t.wide, .slice (some ⟨b8, o8, none⟩) t.plots.length p8])) (w' := w') (by simp [go_sem, Rs.look, k2, k3]) (Rs.Gr.refl _) rfl
              · rw [if_pos (by rfl)]
                exact Rs.GrowL.value (v := .int .i64 stand) (w' := w') (by simp [go_sem, Rs.look]) (Rs.Gr.refl _) rfl
              · have e0 : V 0 = (.agg #[.int .i64 t.wide, .slice (some ⟨b8, o8, none⟩) t.plots.length p8]) := hs 0 (by simp)
                have e1 : V 1 = .int .i64 stand := hs 1 (by simp)
                rw [if_pos (by rfl)]
                refine Rs.GrowL.call (f := 37) (args := #[.agg #[.int .i64 t.wide, .slice (some ⟨b8, o8, none⟩) t.plots.length p8], .int .i64 stand, .int .i64 0]) (by simp [go_sem, Rs.look, e0, e1]) ?_
                refine (CU.out w' ((HH.out.below hG).lw.r8)).mono ?_
                rintro e w3 ⟨rfl, hB3⟩
                exact ⟨_, rfl, hB3, rfl⟩
              · rw [if_pos (by rfl)]
                exact Rs.GrowL.value (v := (.agg #[.int .i64 t.wide, .slice (some ⟨b8, o8, none⟩) t.plots.length p8])) (w' := w') (by simp [go_sem, Rs.look, k2, k3]) (Rs.Gr.refl _) rfl
              · rw [if_pos (by rfl)]
                exact Rs.GrowL.value (v := .int .i64 house) (w' := w') (by simp [go_sem, Rs.look]) (Rs.Gr.refl _) rfl
              · have e0 : V 0 = (.agg #[.int .i64 t.wide, .slice (some ⟨b8, o8, none⟩) t.plots.length p8]) := hs 0 (by simp)
                have e1 : V 1 = .int .i64 stand := hs 1 (by simp)
                have e2 : V 2 = .int .i64 Pu := hs 2 (by simp)
                have e3 : V 3 = (.agg #[.int .i64 t.wide, .slice (some ⟨b8, o8, none⟩) t.plots.length p8]) := hs 3 (by simp)
                have e4 : V 4 = .int .i64 house := hs 4 (by simp)
                rw [if_pos (by rfl)]
                refine Rs.GrowL.call (f := 37) (args := #[.agg #[.int .i64 t.wide, .slice (some ⟨b8, o8, none⟩) t.plots.length p8], .int .i64 house, .int .i64 1]) (by simp [go_sem, Rs.look, e3, e4]) ?_
                refine (CV.out w' ((HH.out.below hG).lw.r8)).mono ?_
                rintro e w3 ⟨rfl, hB3⟩
                exact ⟨_, rfl, hB3, rfl⟩
            · intro V w' hG hs
              have e0 : V 0 = (.agg #[.int .i64 t.wide, .slice (some ⟨b8, o8, none⟩) t.plots.length p8]) := hs 0 (by omega)
              have e1 : V 1 = .int .i64 stand := hs 1 (by omega)
              have e2 : V 2 = .int .i64 Pu := hs 2 (by omega)
              have e3 : V 3 = (.agg #[.int .i64 t.wide, .slice (some ⟨b8, o8, none⟩) t.plots.length p8]) := hs 3 (by omega)
              have e4 : V 4 = .int .i64 house := hs 4 (by omega)
              have e5 : V 5 = .int .i64 Pv := hs 5 (by omega)
              simp only [Rs.canon, Rs.dstOf, List.range_succ, List.range_zero, List.nil_append, List.cons_append, List.foldl_cons, List.foldl_nil, List.drop_succ_cons, List.drop_zero, List.drop_nil, List.getElem?_toArray, List.getElem?_cons_succ, List.getElem?_cons_zero, Option.bind_some, Act.put, List.getD_cons_succ, List.getD_cons_zero, List.setIfInBounds_toArray, List.set_cons_succ, List.set_cons_zero]
              rw [e0, e1, e2, e3, e4, e5]
              clear e0 e1 e2 e3 e4 e5 hs
              have hI5 := HI8.out.below hG HI8.out.1
              have HG := Lib.hid hG
              obtain ⟨k0, k1, k2, k3, k4, k5, j0, j1, j2, j3⟩ := (HH.out.below hG).cs
              clear hG
              go_wp2_with fail
              refine (CE.out _ hI5).mono ?_
              rintro e w5 ⟨EO, vs, rfl, hE, hO, hB⟩
              have HEr := Lib.hid hE
              have HG5 := Lib.hid (join HG.out hB)
              have HH5 := Lib.hid (HH.out.below HG5.out)
              have hEO := hE.lt
              clear hE hO hB hI5 k0 k1 k2 k3 k4 k5 j0 j1 j2 j3 HG CE CU CV
              go_wp2_with fail
              go_loopw [13, 14, 15, 64] (fun s13 s14 s15 i wr => ∃ (k : Nat) (c1 c2 c3 : Value), k ≤ t.plots.length ∧ i = .int .i64 k ∧ c1 = s13 ∧ c2 = s14 ∧ c3 = s15 ∧ R3 w5.heap.size c1 c2 c3 (byTo t wind voice stand k) (ofTo t wind voice house k) (noTo t wind voice k) wr ∧ Below w5.heap.size w5 wr) (fun _ _ _ i _ => t.plots.length - (intOf i).toNat)
              case atStart => exact ⟨0, _, _, _, Nat.zero_le _, rfl, rfl, rfl, rfl, R3.nil _ _, Below.refl _ _⟩
              case round =>
                obtain ⟨k, c1, c2, c3, hk, rfl, rfl, rfl, rfl, hR, hB⟩ := hrel
                obtain ⟨wk, rfl⟩ : ∃ wk : World, wk = wr := ⟨_, rfl⟩
                have HRk := Lib.hid hR
                have HBk := Lib.hid hB
                have HEk := Lib.hid (HEr.out.below hB)
                have HHk := Lib.hid (HH5.out.below hB)
                have hwk : w5.heap.size ≤ wk.heap.size := hB.size
                have hl1 := byTo_len t wind voice stand k
                have hl2 := ofTo_len t wind voice house k
                have hl3 := noTo_len t wind voice k
                have hl1 : (byTo t wind voice stand k).length ≤ 900 := Nat.le_trans hl1 (Nat.le_trans (Nat.mul_le_mul h30 (Nat.le_trans hk h30)) (by omega))
                have hl2 : (ofTo t wind voice house k).length ≤ 900 := Nat.le_trans hl2 (Nat.le_trans (Nat.mul_le_mul h30 (Nat.le_trans hk h30)) (by omega))
                clear hR hB
                by_cases hlt : k < t.plots.length
                · have hlt' : (k : Int) < t.plots.length := by omega
                  obtain ⟨k0, k1, k2, k3, k4, k5, j0, j1, j2, j3⟩ := HHk.out.cs
                  have hI8 := (HI8.out.below HG5.out HI8.out.1).below HBk.out (Nat.lt_of_lt_of_le HI8.out.1 HG5.out.size)
                  have hcp := hI8.2 k hlt
                  have hbl := hI8.1
                  obtain ⟨kd, hkd⟩ : ∃ kd, t.plots.getD k 0 = kd := ⟨_, rfl⟩
                  rw [hkd] at hcp
                  have HKD : Hid (t.at k = kd) := Lib.hid hkd
                  have cO := HEk.out.cell hlt
                  have hEl := HEk.out.lt
                  have hown := HEk.out.own k hlt
                  obtain ⟨vk, hvk⟩ : ∃ vk, vs.getD k (.slice none 0 0) = vk := ⟨_, rfl⟩
                  rw [hvk] at cO hown
                  obtain ⟨obk, cpk, rfl⟩ := own_slice hown
                  obtain ⟨l, hll⟩ : ∃ l, l = earsE t wind voice t.plots.length k := ⟨_, rfl⟩
                  have hlen30 : l.length ≤ 30 := by rw [hll]; have := earsE_len t wind voice t.plots.length k; omega
                  have hby : byTo t wind voice stand (k + 1) = byTo t wind voice stand k ++ byAt stand k l := by rw [hll]; exact byTo_succ _ _ _ _ _
                  have hof : ofTo t wind voice house (k + 1) = ofTo t wind voice house k ++ ofAt house k l := by rw [hll]; exact ofTo_succ _ _ _ _ _
                  have hny : t.at k = 1 → l = [] → noTo t wind voice (k + 1) = noTo t wind voice k ++ [(k : Int)] := fun h h' => noTo_yes h (hll.symm.trans h')
                  have hnn : t.at k ≠ 1 ∨ l ≠ [] → noTo t wind voice (k + 1) = noTo t wind voice k := fun h => noTo_no (h.imp id (fun h2 h3 => h2 (hll.trans h3)))
                  have hl0 : t.at k ≠ 1 → l = [] := fun h => hll.trans (earsE_nil h)
                  have hown5 := HEr.out.own k hlt
                  rw [hvk] at hown5
                  rw [← hll] at hown cO hown5
                  have HOW5 := Lib.hid hown5
                  have HRL := Lib.hid (RdI.own (xs := l) rfl rfl hown)
                  have HBY := Lib.hid hby
                  have HOF := Lib.hid hof
                  have HNY := Lib.hid hny
                  have HNN := Lib.hid hnn
                  have HL0 := Lib.hid hl0
                  clear hI8 hkd hvk hll hby hof hny hnn hl0 hown hown5
                  by_cases h1 : kd = 1
                  · subst h1
                    by_cases hle : l = []
                    · subst hle
                      have HBY' : Hid (byTo t wind voice stand (k + 1) = byTo t wind voice stand k) := Lib.hid (by rw [HBY.out]; simp [byAt])
                      have HOF' : Hid (ofTo t wind voice house (k + 1) = ofTo t wind voice house k) := Lib.hid (by rw [HOF.out]; simp [ofAt])
                      go_wp2_with (at_builtin; refine wpList_append_own_at _ rfl _ _ 31 rfl w5.heap.size 3 i0 (.int .i64 0) 1 8 A_und31 hi hz0 hz1 hz2 rfl (by decide) _ _ _ rfl (HRk.out.o3.alloc _) ⟨wk.heap.size, 0, none⟩ 1 1 [.int .i64 (k : Int)] rfl rfl ?d1 ?d2 ?d3 ?d4 ?d5 ?_)
                      case d2 => first | rfl | (intro u hu; simp at hu; subst hu; rfl)
                      case d3 => unfold maxLen; omega
                      case d4 => omega
                      case d5 => first | omega | (simp; omega)
                      intro v' w8 hown8 hgrow _ hat
                      have hR8 := (HRk.out.swap13.app (below1 wk (.cells #[.int .i64 (k : Int)] 3)) hown8 hgrow (by simpa using hat)).swap13
                      rw [← HNY.out HKD.out (by first | rfl | trivial), ← HBY'.out, ← HOF'.out] at hR8
                      have HR8 := Lib.hid hR8
                      have HB8 := Lib.hid (below_grown (al2 HBk.out (by omega) (.cells #[.int .i64 (k : Int)] 3)) (HRk.out.o3.alloc _) (Nat.le_refl _) (by simp; omega) hgrow)
                      clear hown8 hgrow hat hR8
                      go_wp2_with fail
                      refine wp_loop_rounds 1 ?_
                      rw [rounds_succ]
                      go_wp2_with fail
                      go_roundw
                      case rel => exact ⟨k + 1, _, _, _, by omega, by simp, rfl, rfl, rfl, HR8.out, HB8.out⟩
                      case measure => simp [intOf]; omega
                    · have hlp : 0 < l.length := List.length_pos_iff.2 hle
                      have hle0 : ((l.length : Int) == 0) = false := beq_eq_false_iff_ne.2 (by omega)
                      have HNO : Hid (noTo t wind voice (k + 1) = noTo t wind voice k) := Lib.hid (HNN.out (.inr hle))
                      have hR1 : R3 w5.heap.size c1 c2 c3 (byTo t wind voice stand k ++ byAt stand k (l.take 0)) (ofTo t wind voice house k ++ ofAt house k (l.take 0)) (noTo t wind voice (k + 1)) wk := by
                        rw [HNO.out]
                        have e1 : byAt stand k (l.take 0) = [] := by simp [byAt]
                        have e2 : ofAt house k (l.take 0) = [] := by simp [ofAt]
                        rw [e1, e2, List.append_nil, List.append_nil]
                        exact HRk.out
                      have HR1 := Lib.hid hR1
                      have hlne : l ≠ [] := hle
                      obtain ⟨lb, lo, rfl, -, hIL⟩ := rd_ints HRL.out hlne
                      have HIL := Lib.hid hIL
                      have HIK : Hid (∀ W, Below w5.heap.size w5 W → Ints W lb lo l) := Lib.hid (fun W hW => by
                        have h5 := RdI.own (xs := l) rfl rfl HOW5.out
                        obtain ⟨lb', lo', e', -, hI5⟩ := rd_ints h5 hlne
                        injection e' with e'; injection e' with q1 q2
                        subst q1 q2
                        exact hI5.below hW hI5.1)
                      clear hR1 hle HRk HRL HNY HNN HL0 hIL
                      go_wp2_with fail
                      clear k0 k1 k2 k3 k4 k5 j0 j1 j2 j3 hcp cO hbl hEl
                      go_loopw [13, 14, 84] (fun s13 s14 i wr => ∃ (j : Nat) (d1 d2 : Value), j ≤ l.length ∧ i = .int .i64 j ∧ d1 = s13 ∧ d2 = s14 ∧ R3 w5.heap.size d1 d2 c3 (byTo t wind voice stand k ++ byAt stand k (l.take j)) (ofTo t wind voice house k ++ ofAt house k (l.take j)) (noTo t wind voice (k + 1)) wr ∧ Below w5.heap.size w5 wr ∧ Ints wr lb lo l) (fun _ _ i _ => l.length - (intOf i).toNat)
                      case atStart => exact ⟨0, _, _, Nat.zero_le _, rfl, rfl, rfl, HR1.out, HBk.out, HIL.out⟩
                      case round =>
                        obtain ⟨j, d1, d2, hj, rfl, rfl, rfl, hR, hB, hI⟩ := hrel
                        obtain ⟨wj, rfl⟩ : ∃ wj : World, wj = wr := ⟨_, rfl⟩
                        have HRj := Lib.hid hR
                        have HBj := Lib.hid hB
                        have HIj := Lib.hid hI
                        have hwj : w5.heap.size ≤ wj.heap.size := hB.size
                        have hbl : lb < wj.heap.size := hI.1
                        clear hR hB hI
                        by_cases hlj : j < l.length
                        · have hlj' : (j : Int) < l.length := by omega
                          have hcs := HIj.out.2 j hlj
                          obtain ⟨s, hs⟩ : ∃ s, l.getD j 0 = s := ⟨_, rfl⟩
                          rw [hs] at hcs
                          have htk : l.take (j + 1) = l.take j ++ [s] := by
                            rw [List.take_add_one, ← hs]; simp [List.getElem?_eq_getElem hlj]
                          have HTK := Lib.hid htk
                          have hb1 : (byTo t wind voice stand k ++ byAt stand k (l.take j)).length ≤ 1000 := by
                            have : (byAt stand k (l.take j)).length ≤ (l.take j).length := by unfold byAt; rw [List.length_map]; exact List.length_filter_le _ _
                            rw [List.length_append]; have := List.length_take_le j l; omega
                          have hb2 : (ofTo t wind voice house k ++ ofAt house k (l.take j)).length ≤ 1000 := by
                            have : (ofAt house k (l.take j)).length ≤ (l.take j).length := by unfold ofAt; split <;> simp
                            rw [List.length_append]; have := List.length_take_le j l; omega
                          clear hs htk
                          by_cases hst : s = stand
                          · have HBY1 : Hid (byAt stand k (l.take (j + 1)) = byAt stand k (l.take j) ++ [(k : Int)]) := Lib.hid (by rw [HTK.out]; exact byAt_yes hst)
                            subst hst
                            go_wp2_with (at_builtin; refine wpList_append_own_at _ rfl _ _ 31 rfl w5.heap.size 3 i0 (.int .i64 0) 1 8 A_und31 hi hz0 hz1 hz2 rfl (by decide) _ _ _ rfl (HRj.out.o1.alloc _) ⟨wj.heap.size, 0, none⟩ 1 1 [.int .i64 (k : Int)] rfl rfl ?f1 ?f2 ?f3 ?f4 ?f5 ?_)
                            (try (case f1 => exact cell_one_new _ _ _))
                            case f2 => first | rfl | (intro u hu; simp at hu; subst hu; rfl)
                            case f3 => unfold maxLen; omega
                            case f4 => omega
                            case f5 => first | omega | (simp; omega)
                            intro v' w8 hown8 hgrow _ hat
                            have hR8 := HRj.out.app (x := k) (below1 wj (.cells #[.int .i64 (k : Int)] 3)) (by simpa using hown8) hgrow (by simpa using hat)
                            rw [List.append_assoc, ← HBY1.out] at hR8
                            have HR8 := Lib.hid hR8
                            have hb8 := below_grown (al2 HBj.out (by omega) (.cells #[.int .i64 (k : Int)] 3)) (HRj.out.o1.alloc _) (Nat.le_refl _) (by simp; omega) hgrow
                            have HB8 := Lib.hid hb8
                            have HI8b : Hid (Ints w8 lb lo l) := Lib.hid (HIK.out _ hb8)
                            clear hown8 hgrow hat hR8 hb8
                            by_cases hho : (k : Int) = house
                            · have HOF1 : Hid (ofAt house k (l.take (j + 1)) = ofAt house k (l.take j) ++ [s]) := Lib.hid (by rw [HTK.out]; exact ofAt_yes hho)
                              have hho' : ((k : Int) == house) = true := by simpa using hho
                              have hsz8 : w5.heap.size ≤ w8.heap.size := HB8.out.size
                              clear hho
                              go_wp2_with (at_builtin; refine wpList_append_own_at _ rfl _ _ 31 rfl w5.heap.size 3 i0 (.int .i64 0) 1 8 A_und31 hi hz0 hz1 hz2 rfl (by decide) _ _ _ rfl (HR8.out.o2.alloc _) ⟨w8.heap.size, 0, none⟩ 1 1 [.int .i64 s] rfl rfl ?g1 ?g2 ?g3 ?g4 ?g5 ?_)
                              (try (case g1 => exact cell_one_new _ _ _))
                              case g2 => first | rfl | (intro u hu; simp at hu; subst hu; rfl)
                              case g3 => unfold maxLen; omega
                              case g4 => omega
                              case g5 => first | omega | (simp; omega)
                              intro v2 w9 hown9 hgrow9 _ hat9
                              have hR9 := (HR8.out.swap12.app (x := s) (below1 w8 (.cells #[.int .i64 s] 3)) (by simpa using hown9) hgrow9 (by simpa using hat9)).swap12
                              rw [List.append_assoc, ← HOF1.out] at hR9
                              have HR9 := Lib.hid hR9
                              have HB9 := Lib.hid (below_grown (al2 HB8.out (by omega) (.cells #[.int .i64 s] 3)) (HR8.out.o2.alloc _) (Nat.le_refl _) (by simp; omega) hgrow9)
                              have HI9 : Hid (Ints w9 lb lo l) := Lib.hid (HIK.out _ HB9.out)
                              clear hown9 hgrow9 hat9 hR9
                              go_wp2_with fail
                              go_roundw
                              case rel => exact ⟨j + 1, _, _, by omega, by simp, rfl, rfl, HR9.out, HB9.out, HI9.out⟩
                              case measure => simp [intOf]; omega
                            · have HOF1 : Hid (ofAt house k (l.take (j + 1)) = ofAt house k (l.take j)) := Lib.hid (by rw [HTK.out]; exact ofAt_no hho)
                              have hho' : ((k : Int) == house) = false := by simpa using hho
                              have hR9 := HR8.out
                              rw [← HOF1.out] at hR9
                              have HR9 := Lib.hid hR9
                              clear hho hR9
                              go_wp2_with fail
                              go_roundw
                              case rel => exact ⟨j + 1, _, _, by omega, by simp, rfl, rfl, HR9.out, HB8.out, HI8b.out⟩
                              case measure => simp [intOf]; omega
                          · have HBY1 : Hid (byAt stand k (l.take (j + 1)) = byAt stand k (l.take j)) := Lib.hid (by rw [HTK.out]; exact byAt_no hst)
                            have hst' : (s == stand) = false := by simpa using hst
                            have hR8 := HRj.out
                            rw [← HBY1.out] at hR8
                            have HR8 := Lib.hid hR8
                            clear hst hR8
                            by_cases hho : (k : Int) = house
                            · have HOF1 : Hid (ofAt house k (l.take (j + 1)) = ofAt house k (l.take j) ++ [s]) := Lib.hid (by rw [HTK.out]; exact ofAt_yes hho)
                              have hho' : ((k : Int) == house) = true := by simpa using hho
                              have hsz8 : w5.heap.size ≤ wj.heap.size := HBj.out.size
                              clear hho
                              go_wp2_with (at_builtin; refine wpList_append_own_at _ rfl _ _ 31 rfl w5.heap.size 3 i0 (.int .i64 0) 1 8 A_und31 hi hz0 hz1 hz2 rfl (by decide) _ _ _ rfl (HR8.out.o2.alloc _) ⟨wj.heap.size, 0, none⟩ 1 1 [.int .i64 s] rfl rfl ?h1 ?h2 ?h3 ?h4 ?h5 ?_)
                              (try (case h1 => exact cell_one_new _ _ _))
                              case h2 => first | rfl | (intro u hu; simp at hu; subst hu; rfl)
                              case h3 => unfold maxLen; omega
                              case h4 => omega
                              case h5 => first | omega | (simp; omega)
                              intro v2 w9 hown9 hgrow9 _ hat9
                              have hR9 := (HR8.out.swap12.app (x := s) (below1 wj (.cells #[.int .i64 s] 3)) (by simpa using hown9) hgrow9 (by simpa using hat9)).swap12
                              rw [List.append_assoc, ← HOF1.out] at hR9
                              have HR9 := Lib.hid hR9
                              have HB9 := Lib.hid (below_grown (al2 HBj.out (by omega) (.cells #[.int .i64 s] 3)) (HR8.out.o2.alloc _) (Nat.le_refl _) (by simp; omega) hgrow9)
                              have HI9 : Hid (Ints w9 lb lo l) := Lib.hid (HIK.out _ HB9.out)
                              clear hown9 hgrow9 hat9 hR9
                              go_wp2_with fail
                              go_roundw
                              case rel => exact ⟨j + 1, _, _, by omega, by simp, rfl, rfl, HR9.out, HB9.out, HI9.out⟩
                              case measure => simp [intOf]; omega
                            · have HOF1 : Hid (ofAt house k (l.take (j + 1)) = ofAt house k (l.take j)) := Lib.hid (by rw [HTK.out]; exact ofAt_no hho)
                              have hho' : ((k : Int) == house) = false := by simpa using hho
                              have hR9 := HR8.out
                              rw [← HOF1.out] at hR9
                              have HR9 := Lib.hid hR9
                              clear hho hR9
                              go_wp2_with fail
                              go_roundw
                              case rel => exact ⟨j + 1, _, _, by omega, by simp, rfl, rfl, HR9.out, HBj.out, HIj.out⟩
                              case measure => simp [intOf]; omega
                        · obtain rfl : j = l.length := by omega
                          have hR9 := HRj.out
                          rw [List.take_length, ← HBY.out, ← HOF.out] at hR9
                          have HR9 := Lib.hid hR9
                          clear hR9
                          go_wp2_with fail
                          go_roundw
                          case rel => exact ⟨k + 1, _, _, _, by omega, by simp, rfl, rfl, rfl, HR9.out, HBj.out⟩
                          case measure => simp [intOf]; omega
                  · have hl00 := HL0.out (by rw [HKD.out]; exact h1)
                    subst hl00
                    have h1' : (kd != 1) = true := by simpa using h1
                    have hR9 := HRk.out
                    have e1 : byTo t wind voice stand (k + 1) = byTo t wind voice stand k := by rw [HBY.out]; simp [byAt]
                    have e2 : ofTo t wind voice house (k + 1) = ofTo t wind voice house k := by rw [HOF.out]; simp [ofAt]
                    rw [← e1, ← e2, ← HNN.out (.inl (by rw [HKD.out]; exact h1))] at hR9
                    have HR9 := Lib.hid hR9
                    clear hR9 e1 e2 h1
                    go_wp2_with fail
                    go_roundw
                    case rel => exact ⟨k + 1, _, _, _, by omega, by simp, rfl, rfl, rfl, HR9.out, HBk.out⟩
                    case measure => simp [intOf]; omega
                · obtain rfl : k = t.plots.length := by omega
                  go_wp2_with fail
                  go_meet
                  refine ⟨c1, c2, c3, rfl, rfl, rfl, by rw [HPU.out.2], by rw [HPV.out.2], Lib.hid (fun h => ?_), Lib.hid (fun h => ?_), Lib.hid ?_, Lib.hid (join HG5.out HBk.out)⟩
                  · have hp : plotErr t.plots stand 0 = 0 := HPU.out.1.symm.trans (HPU.out.2.symm.trans h)
                    obtain ⟨s, hs', hs, hs0⟩ := plot_ok hp
                    have e1 : LH = byTo t wind voice stand t.plots.length := by
                      rw [HLH.out]
                      unfold housesL
                      rw [if_pos (HU.out.symm.trans h), townOf_self, hs', Int.toNat_natCast]
                      exact (by_all hs t.len).symm
                    rw [e1]
                    exact RdI.own rfl rfl HRk.out.o1
                  · have hp : plotErr t.plots house 1 = 0 := HPV.out.1.symm.trans (HPV.out.2.symm.trans h)
                    obtain ⟨s, hs', hs, hs1⟩ := plot_ok hp
                    have e1 : LS = ofTo t wind voice house t.plots.length := by
                      rw [HLS.out]
                      unfold standsL
                      rw [if_pos (HV.out.symm.trans h), townOf_self, hs', Int.toNat_natCast, of_all hs1, if_pos hs]
                      exact stands_more t wind voice s 30 h30
                    rw [e1]
                    exact RdI.own rfl rfl HRk.out.o2
                  · have e1 : LD = noTo t wind voice t.plots.length := by
                      rw [HLD.out]
                      unfold deafL
                      rw [if_pos HE0.out, townOf_self]
                      exact deaf_all t wind voice h30
                    rw [e1]
                    exact RdI.own rfl rfl HRk.out.o3
          · have d : (O == 0) = false := by simpa using h0
            have eU : U = O := by rw [HU.out, HO.out]; unfold atE; rw [if_pos (by rw [← HO.out]; exact h0)]
            have eV : V0 = O := by rw [HV.out, HO.out]; unfold atE; rw [if_pos (by rw [← HO.out]; exact h0)]
            have eD : LD = [] := by rw [HLD.out]; unfold deafL; rw [if_neg (by rw [← HO.out]; exact h0)]
            have HZ := Lib.hid h0
            have HEU := Lib.hid (And.intro eU (And.intro eV eD))
            clear h0 eU eV eD
            go_wp2_with fail
            go_meet
            refine ⟨_, _, _, rfl, rfl, rfl, by rw [HEU.out.1], by rw [HEU.out.2.1], Lib.hid (fun h => absurd (HEU.out.1.symm.trans h) HZ.out), Lib.hid (fun h => absurd (HEU.out.2.1.symm.trans h) HZ.out), Lib.hid (by rw [HEU.out.2.2]; exact RdI.own rfl rfl (own_none _ 0 3 1)), Lib.hid (Below.refl _ _)⟩
        case rest =>
          obtain ⟨b1, b2, b3, rfl, rfl, rfl, rfl, rfl, H1, H2, H3, HBx⟩ := hcut
          obtain ⟨wx, rfl⟩ : ∃ wx : World, wx = wc := ⟨_, rfl⟩
          have HH := Lib.hid (HH.out.below HBx.out)
          clear HBx k0 k1 k2 k3 k4 k5 j0 j1 j2 j3
          go_upto_if 105 with fail
          go_cut [13] from 105 to 105 (fun s13 wy => ∃ b : Value, b = s13 ∧ Hid (RdI wx b LH) ∧ wy = wx)
          case first =>
            by_cases h0 : U = 0
            · have d : (U != 0) = false := by simp [h0]
              have H1' := Lib.hid (H1.out h0)
              clear h0
              go_wp2_with fail
              go_meet
              exact ⟨_, rfl, H1', rfl⟩
            · have d : (U != 0) = true := by simpa using h0
              have H1' : Hid (RdI wx (.slice none 0 0) LH) := Lib.hid (by
                have e1 : LH = [] := by rw [HLH.out]; unfold housesL; rw [if_neg (by rw [← HU.out]; exact h0)]
                rw [e1]; exact RdI.own rfl rfl (own_none _ 0 3 1))
              clear h0
              go_wp2_with fail
              go_meet
              exact ⟨_, rfl, H1', rfl⟩
          case rest =>
            obtain ⟨c1, rfl, H1, hw⟩ := hcut
            subst hw
            go_upto_if 107 with fail
            go_cut [14] from 107 to 107 (fun s14 wy => ∃ b : Value, b = s14 ∧ Hid (RdI wc b LS) ∧ wy = wc)
            case first =>
              by_cases h0 : V0 = 0
              · have d : (V0 != 0) = false := by simp [h0]
                have H2' := Lib.hid (H2.out h0)
                clear h0
                go_wp2_with fail
                go_meet
                exact ⟨_, rfl, H2', rfl⟩
              · have d : (V0 != 0) = true := by simpa using h0
                have H2' : Hid (RdI wc (.slice none 0 0) LS) := Lib.hid (by
                  have e1 : LS = [] := by rw [HLS.out]; unfold standsL; rw [if_neg (by rw [← HV.out]; exact h0)]
                  rw [e1]; exact RdI.own rfl rfl (own_none _ 0 3 1))
                clear h0
                go_wp2_with fail
                go_meet
                exact ⟨_, rfl, H2', rfl⟩
            case rest =>
              rename_i wprev
              obtain ⟨c2, rfl, H2, hw⟩ := hcut
              subst hw
              obtain ⟨wx, rfl⟩ : ∃ wx : World, wx = wc := ⟨_, rfl⟩
              obtain ⟨k0, k1, k2, k3, k4, k5, j0, j1, j2, j3⟩ := HH.out.cs
              go_wp2_with fail
              refine (C39.out _ HH.out.lw.r7).mono ?_
              rintro e w3 ⟨v22, rfl, ho, hB⟩
              have H1 := Lib.hid (H1.out.below hB)
              have H2 := Lib.hid (H2.out.below hB)
              have H3 := Lib.hid (H3.out.below hB)
              have HH := Lib.hid (HH.out.below hB)
              have R22 := Lib.hid (RdI.own rfl rfl ho)
              clear hB ho k0 k1 k2 k3 k4 k5 j0 j1 j2 j3
              obtain ⟨k0, k1, k2, k3, k4, k5, j0, j1, j2, j3⟩ := HH.out.cs
              go_wp2_with fail
              refine (C40.out _ HH.out.lw.r7).mono ?_
              rintro e w3 ⟨v24, rfl, ho, hB⟩
              have H1 := Lib.hid (H1.out.below hB)
              have H2 := Lib.hid (H2.out.below hB)
              have H3 := Lib.hid (H3.out.below hB)
              have R22 := Lib.hid (R22.out.below hB)
              have HH := Lib.hid (HH.out.below hB)
              have R24 := Lib.hid (RdI.own rfl rfl ho)
              clear hB ho k0 k1 k2 k3 k4 k5 j0 j1 j2 j3
              obtain ⟨k0, k1, k2, k3, k4, k5, j0, j1, j2, j3⟩ := HH.out.cs
              go_wp2_with fail
              refine (C41.out _ HH.out.lw.r7).mono ?_
              rintro e w3 ⟨v26, rfl, ho, hB⟩
              have H1 := Lib.hid (H1.out.below hB)
              have H2 := Lib.hid (H2.out.below hB)
              have H3 := Lib.hid (H3.out.below hB)
              have R22 := Lib.hid (R22.out.below hB)
              have R24 := Lib.hid (R24.out.below hB)
              have HH := Lib.hid (HH.out.below hB)
              have R26 := Lib.hid (RdI.own rfl rfl ho)
              clear hB ho k0 k1 k2 k3 k4 k5 j0 j1 j2 j3
              obtain ⟨k0, k1, k2, k3, k4, k5, j0, j1, j2, j3⟩ := HH.out.cs
              go_wp2_with fail
              refine (Like_int v22 c1 LH LH true (by simp) _ R22.out H1.out).mono ?_
              rintro e w3 ⟨rfl, hB⟩
              have H1 := Lib.hid (H1.out.below hB)
              have H2 := Lib.hid (H2.out.below hB)
              have H3 := Lib.hid (H3.out.below hB)
              have R22 := Lib.hid (R22.out.below hB)
              have R24 := Lib.hid (R24.out.below hB)
              have R26 := Lib.hid (R26.out.below hB)
              have HH := Lib.hid (HH.out.below hB)
              clear hB k0 k1 k2 k3 k4 k5 j0 j1 j2 j3
              clear R22
              clear H1
              obtain ⟨k0, k1, k2, k3, k4, k5, j0, j1, j2, j3⟩ := HH.out.cs
              go_wp2_with fail
              refine (Like_int v24 c2 LS LS true (by simp) _ R24.out H2.out).mono ?_
              rintro e w3 ⟨rfl, hB⟩
              have H2 := Lib.hid (H2.out.below hB)
              have H3 := Lib.hid (H3.out.below hB)
              have R24 := Lib.hid (R24.out.below hB)
              have R26 := Lib.hid (R26.out.below hB)
              have HH := Lib.hid (HH.out.below hB)
              clear hB k0 k1 k2 k3 k4 k5 j0 j1 j2 j3
              clear R24
              clear H2
              obtain ⟨k0, k1, k2, k3, k4, k5, j0, j1, j2, j3⟩ := HH.out.cs
              go_wp2_with fail
              refine (Like_int v26 b3 LD LD true (by simp) _ R26.out H3.out).mono ?_
              rintro e w3 ⟨rfl, hB⟩
              have H3 := Lib.hid (H3.out.below hB)
              have R26 := Lib.hid (R26.out.below hB)
              have HH := Lib.hid (HH.out.below hB)
              clear hB k0 k1 k2 k3 k4 k5 j0 j1 j2 j3
              clear R26
              clear H3
              obtain ⟨O2, hO2⟩ : ∃ O2, O2 = openErr wd xs 0 voice := ⟨_, rfl⟩
              obtain ⟨A2, hA2⟩ : ∃ A2, A2 = airErr 0 voice := ⟨_, rfl⟩
              obtain ⟨WE, hWE⟩ : ∃ WE, WE = windsE wd xs voice stand house := ⟨_, rfl⟩
              obtain ⟨LW, hLW⟩ : ∃ LW, LW = windsL wd xs voice stand house := ⟨_, rfl⟩
              obtain ⟨P0, hP0⟩ : ∃ P0, P0 = plotErr xs stand 0 := ⟨_, rfl⟩
              obtain ⟨P1, hP1⟩ : ∃ P1, P1 = plotErr xs house 1 := ⟨_, rfl⟩
              have D22 := Lib.hid (fun W => refAir_any 0 voice W)
              have D37 := Lib.hid (fun W hR => refIs_any wd a8 p8 xs stand 0 hl W hR)
              have D38 := Lib.hid (fun W hR => refIs_any wd a8 p8 xs house 1 hl W hR)
              have D42 := Lib.hid (fun (d : Int) W hR => refHears_any wd d voice stand house a8 p8 xs hl W hR)
              have D43 := Lib.hid (fun W hR => Winds_any wd voice stand house a7 p7 xs hl W hR)
              rw [← hA2] at D22
              rw [← hP0] at D37
              rw [← hP1] at D38
              rw [← hWE, ← hLW] at D43
              have HO2 := Lib.hid (And.intro hO2 (And.intro hA2 (And.intro hP0 hP1)))
              have HWE := Lib.hid (And.intro hWE hLW)
              clear hO2 hA2 hWE hLW hP0 hP1 C22 C39 C40 C41
              obtain ⟨k0, k1, k2, k3, k4, k5, j0, j1, j2, j3⟩ := HH.out.cs
              go_wp2_with fail
              refine (C20.out _ HH.out.lw.r8).mono ?_
              rintro e w3 ⟨rfl, hB⟩
              have HH := Lib.hid (HH.out.below hB)
              clear hB k0 k1 k2 k3 k4 k5 j0 j1 j2 j3
              obtain ⟨k0, k1, k2, k3, k4, k5, j0, j1, j2, j3⟩ := HH.out.cs
              go_upto_if 162 with fail
              go_cut [12] from 161 to 165 (fun s12 wy => s12 = .int .i64 O2 ∧ wy = w3)
              case first =>
                by_cases h0 : E = 0
                · have e1 : O2 = A2 := by rw [HO2.out.1, HO2.out.2.1]; unfold openErr; rw [if_neg (by rw [← HE.out, h0]; simp)]
                  have d : (E == 0) = true := by simp [h0]
                  have HE1 := Lib.hid e1
                  clear h0 e1
                  go_wp2_with fail
                  refine (D22.out _).mono ?_
                  rintro e w4 ⟨rfl, rfl⟩
                  go_wp2_with fail
                  go_meet
                  exact ⟨by rw [HE1.out], rfl⟩
                · have e1 : O2 = E := by rw [HO2.out.1, HE.out]; unfold openErr; rw [if_pos (by rw [← HE.out]; exact h0)]
                  have d : (E == 0) = false := by simpa using h0
                  have HE1 := Lib.hid e1
                  clear h0 e1
                  go_wp2_with fail
                  go_meet
                  exact ⟨by rw [HE1.out], rfl⟩
              case rest =>
                obtain ⟨rfl, hw⟩ := hcut
                subst hw
                obtain ⟨wx, rfl⟩ : ∃ wx : World, wx = wc := ⟨_, rfl⟩
                clear k0 k1 k2 k3 k4 k5 j0 j1 j2 j3
                go_upto_if 167 with fail
                go_cut [12] from 166 to 175 (fun s12 wy => s12 = .int .i64 WE ∧ Hid (Below wx.heap.size wx wy))
                case first =>
                  by_cases h0 : O2 = 0
                  · have d : (O2 == 0) = true := by simp [h0]
                    have e1 : WE = if P0 ≠ 0 then P0 else P1 := by
                      have hA : atE wd xs 0 voice stand 0 = P0 := by unfold atE; rw [if_neg (by rw [← HO2.out.1, h0]; simp), HO2.out.2.2.1]
                      rw [HWE.out.1]; unfold windsE; rw [hA, ← HO2.out.2.2.2]
                    have HWE1 := Lib.hid e1
                    obtain ⟨k0, k1, k2, k3, k4, k5, j0, j1, j2, j3⟩ := HH.out.cs
                    clear h0 e1
                    go_wp2_with fail
                    refine (D37.out _ HH.out.lw.r8).mono ?_
                    rintro e w4 ⟨rfl, hB⟩
                    have HB4 := Lib.hid hB
                    have HH := Lib.hid (HH.out.below hB)
                    clear hB k0 k1 k2 k3 k4 k5 j0 j1 j2 j3
                    obtain ⟨k0, k1, k2, k3, k4, k5, j0, j1, j2, j3⟩ := HH.out.cs
                    by_cases h1 : P0 = 0
                    · have d2 : (P0 == 0) = true := by simp [h1]
                      have e2 : WE = P1 := by rw [HWE1.out, if_neg (by rw [h1]; simp)]
                      have HE2 := Lib.hid e2
                      clear h1 e2
                      go_wp2_with fail
                      refine (D38.out _ HH.out.lw.r8).mono ?_
                      rintro e w5 ⟨rfl, hB⟩
                      have HB5 := Lib.hid (join HB4.out hB)
                      clear hB
                      go_wp2_with fail
                      go_meet
                      exact ⟨by rw [HE2.out], HB5⟩
                    · have d2 : (P0 == 0) = false := by simpa using h1
                      have e2 : WE = P0 := by rw [HWE1.out, if_pos h1]
                      have HE2 := Lib.hid e2
                      clear h1 e2
                      go_wp2_with fail
                      go_meet
                      exact ⟨by rw [HE2.out], HB4⟩
                  · have d : (O2 == 0) = false := by simpa using h0
                    have e1 : WE = O2 := by
                      rw [HWE.out.1, HO2.out.1]; unfold windsE atE
                      rw [← HO2.out.1, if_pos h0, if_pos h0]
                    have HE2 := Lib.hid e1
                    clear h0 e1
                    go_wp2_with fail
                    go_meet
                    exact ⟨by rw [HE2.out], Lib.hid (Below.refl _ _)⟩
                case rest =>
                  obtain ⟨rfl, HBc⟩ := hcut
                  obtain ⟨w6, rfl⟩ : ∃ w6 : World, w6 = wc := ⟨_, rfl⟩
                  have HH := Lib.hid (HH.out.below HBc.out)
                  obtain ⟨i1, gi, gz0, gz1, gz2⟩ := info_parts A_info25
                  clear HBc
                  go_wp2_with fail
                  go_loopw [28, 176] (fun s28 i wr => ∃ (k : Nat) (c : Value), k ≤ 5 ∧ i = .int .i64 k ∧ c = s28 ∧ wr.ownsRow w6.heap.size 25 1 c (wiTo WE wd xs voice stand house k).length ((wiTo WE wd xs voice stand house k).map (Value.int .i64)) ∧ Below w6.heap.size w6 wr) (fun _ i _ => 5 - (intOf i).toNat)
                  case atStart => exact ⟨0, _, by omega, rfl, rfl, own_none _ _ _ _, Below.refl _ _⟩
                  case round =>
                    obtain ⟨k, c, hk, rfl, rfl, hown, hB⟩ := hrel
                    obtain ⟨wk, rfl⟩ : ∃ wk : World, wk = wr := ⟨_, rfl⟩
                    have HOk := Lib.hid hown
                    have HBk := Lib.hid hB
                    have HHk := Lib.hid (HH.out.below hB)
                    have hlen := wiTo_len WE wd xs voice stand house k
                    have hsz := hB.size
                    clear hown hB
                    by_cases hlt : k < 5
                    · have hlt' : (k : Int) < 5 := by omega
                      obtain ⟨k0, k1, k2, k3, k4, k5, j0, j1, j2, j3⟩ := HHk.out.cs
                      by_cases h0 : WE = 0
                      · have d : (WE == 0) = true := by simp [h0]
                        have DH := Lib.hid (D42.out k)
                        generalize hhb : hearsR wd xs k voice stand house = hb at DH
                        have HHB : Hid ((decide (WE = 0) && hearsR wd xs k voice stand house) = hb) := Lib.hid (by rw [hhb, h0]; simp)
                        clear h0 hhb
                        go_wp2_with fail
                        refine (DH.out _ HHk.out.lw.r8).mono ?_
                        rintro e w7 ⟨rfl, hB⟩
                        have HB7 := Lib.hid (HBk.out.trans (hB.mono hsz))
                        have HO7 := Lib.hid (own_below HOk.out hB)
                        have hz7 := Nat.le_trans hsz hB.size
                        clear hB k0 k1 k2 k3 k4 k5 j0 j1 j2 j3
                        cases hb with
                        | false =>
                          go_wp2_with fail
                          go_roundw
                          case rel => exact ⟨k + 1, _, by omega, by simp, rfl, by rw [wiTo_no HHB.out]; exact HO7.out, HB7.out⟩
                          case measure => simp [intOf]; omega
                        | true =>
                          go_wp2_with (at_builtin; refine wpList_append_own _ rfl _ _ 66 rfl w6.heap.size 25 i1 (.int .i64 0) 1 8 A_und66 gi gz0 gz1 gz2 rfl (by decide) _ _ _ rfl (HO7.out.alloc _) ⟨w7.heap.size, 0, none⟩ 1 1 [.int .i64 (k : Int)] rfl rfl ?q1 ?q2 ?q3 ?q4 ?q5 ?_)
                          (try (case q1 => exact cell_one_new _ _ _))
                          case q2 => first | rfl | (intro u hu; simp at hu; subst hu; rfl)
                          case q3 => unfold maxLen; omega
                          case q4 => omega
                          case q5 => first | omega | (simp; omega)
                          intro v' w8 hown8 hgrow _
                          have HB8 := Lib.hid (below_grown (al2 HB7.out hz7 (.cells #[.int .i64 (k : Int)] 25)) (HO7.out.alloc _) (Nat.le_refl _) (by simp; omega) hgrow)
                          have HO8 := Lib.hid hown8
                          clear hown8 hgrow
                          go_wp2_with fail
                          go_roundw
                          case rel => exact ⟨k + 1, _, by omega, by simp, rfl, by rw [wiTo_yes HHB.out]; simpa using HO8.out, HB8.out⟩
                          case measure => simp [intOf]; omega
                      · have d : (WE == 0) = false := by simpa using h0
                        have HHB : Hid ((decide (WE = 0) && hearsR wd xs k voice stand house) = false) := Lib.hid (by rw [decide_eq_false h0]; rfl)
                        clear h0
                        go_wp2_with fail
                        go_roundw
                        case rel => exact ⟨k + 1, _, by omega, by simp, rfl, by rw [wiTo_no HHB.out]; exact HOk.out, HBk.out⟩
                        case measure => simp [intOf]; omega
                    · obtain rfl : k = 5 := by omega
                      have HW : Hid (LW = wiTo WE wd xs voice stand house 5) := Lib.hid (by rw [HWE.out.2, HWE.out.1]; exact winds_law wd xs voice stand house)
                      have HC := Lib.hid (RdI.own rfl rfl HOk.out)
                      rw [← HW.out] at HC
                      have HH := HHk
                      clear HHk HOk HBk D22 D37 D38 D42 HW hlen
                      obtain ⟨k0, k1, k2, k3, k4, k5, j0, j1, j2, j3⟩ := HH.out.cs
                      go_wp2_with fail
                      refine (D43.out _ HH.out.lw.r7).mono ?_
                      rintro e w3 ⟨v30, rfl, ho, hB⟩
                      have HC := Lib.hid (HC.out.below hB)
                      have HH := Lib.hid (HH.out.below hB)
                      have R30 := Lib.hid (RdI.own rfl rfl ho)
                      clear hB ho k0 k1 k2 k3 k4 k5 j0 j1 j2 j3
                      obtain ⟨k0, k1, k2, k3, k4, k5, j0, j1, j2, j3⟩ := HH.out.cs
                      go_wp2_with fail
                      refine (Like_dir v30 c LW LW true (by simp) _ R30.out HC.out).mono ?_
                      rintro e w3 ⟨rfl, hB⟩
                      have HC := Lib.hid (HC.out.below hB)
                      have R30 := Lib.hid (R30.out.below hB)
                      have HH := Lib.hid (HH.out.below hB)
                      clear hB k0 k1 k2 k3 k4 k5 j0 j1 j2 j3
                      clear R30
                      clear HC
                      obtain ⟨k0, k1, k2, k3, k4, k5, j0, j1, j2, j3⟩ := HH.out.cs
                      go_wp2_with fail
                      refine (same_yes wd a7 a xs.length p7 cap xs.length xs _ HH.out.lw.r7 HH.out.rs).mono ?_
                      rintro e w3 ⟨rfl, hB⟩
                      have HH := Lib.hid (HH.out.below hB)
                      clear hB k0 k1 k2 k3 k4 k5 j0 j1 j2 j3
                      go_wp2_with fail
                      refine (awake_any _).mono ?_
                      rintro e w10 ⟨rfl, hB10⟩
                      have HBe := Lib.hid (join HH.out.bel hB10)
                      clear hB10
                      go_wp2
                      go_ret
                      exact ⟨rfl, HBe.out⟩
end Go.Proofs.Ytimedmkpenbmkaa
