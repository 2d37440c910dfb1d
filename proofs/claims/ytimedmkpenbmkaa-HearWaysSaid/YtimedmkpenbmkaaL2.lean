import Derived.Test.YtimedmkpenbmkaaRh
import Derived.Test.YtimedmkpenbmkaaL1
namespace Go.Proofs.Ytimedmkpenbmkaa
open Go.RowKit Go.Shelf
set_option linter.unusedSimpArgs false
set_option linter.unusedVariables false

theorem own_box {W : World} {B c : Nat} {e ty : TypeId} {v : Value} {n : Nat} {xs : List Value} {cs : Array Value} (hc : W.heap[c]? = some (.cells cs ty (0, 0))) (hT : ty ≠ e) (h : W.ownsRow B e 1 v n xs) (o : Nat) (x : Value) : (W.setCell ⟨c, o, none⟩ x).ownsRow B e 1 v n xs := by
  refine h.kept (grown_set W c o x) ?_
  rcases h.2 with ⟨h1, _⟩ | ⟨g, cap, cur, h1, _, hg, _⟩
  · exact .inl (by rw [h1]; rfl)
  · right; rw [h1]; show some g ≠ some c; intro e2; injection e2 with e2
    rw [e2, hc] at hg; injection hg with hg; injection hg with _ hg; exact hT hg
theorem own_boxes {w : World} {B c7 c8 : Nat} {e t7 t8 : TypeId} {v : Value} {n : Nat} {xs : List Value} {cs7 cs8 : Array Value} (h7 : w.heap[c7]? = some (.cells cs7 t7 (0, 0))) (h8 : w.heap[c8]? = some (.cells cs8 t8 (0, 0))) (hne : c7 ≠ c8) (n7 : t7 ≠ e) (n8 : t8 ≠ e) (x0 x1 y0 y1 : Value) (h : w.ownsRow B e 1 v n xs) :
    ((((w.setCell ⟨c7, 0, none⟩ x0).setCell ⟨c7, 1, none⟩ x1).setCell ⟨c8, 0, none⟩ y0).setCell ⟨c8, 1, none⟩ y1).ownsRow B e 1 v n xs := by
  have hw1 := heap_set_same (o := 0) x0 h7
  have h81 := (Below.heap_setCell w ⟨c7, 0, none⟩ x0 c8 (Ne.symm hne)).trans h8
  have h82 := (Below.heap_setCell (w.setCell ⟨c7, 0, none⟩ x0) ⟨c7, 1, none⟩ x1 c8 (Ne.symm hne)).trans h81
  have hw3 := heap_set_same (o := 0) y0 h82
  exact own_box hw3 n8 (own_box h82 n8 (own_box hw1 n7 (own_box h7 n7 h 0 x0) 1 x1) 0 y0) 1 y1

def spN3 (wd : Int) (sv : Value) (xs : List Int) (tv : Value) (T : List Int) (B : Nat) : Nat → List Value → Value → World → Prop
  | 0, _, v, _ => v = .agg #[.int .i64 wd, sv]
  | 1, L, v, w => ∃ u, v = .agg #[.int .i64 wd, u] ∧ w.ownsRow B 102 1 u xs.length (xs.map (Value.int .i64))
  | 2, _, v, _ => v = tv
  | 3, L, v, w => w.ownsRow B 3 1 v T.length (T.map (Value.int .i64))
  | 4, _, v, _ => v = .agg #[.int .i64 wd, sv]
  | 5, L, v, w => ∃ u, v = .agg #[.int .i64 wd, u] ∧ w.ownsRow B 3 1 u xs.length (xs.map (Value.int .i64))
  | 6, L, v, w => ∃ p, v = .pointer (some ⟨p, 0, none⟩) ∧ B ≤ p ∧ w.heap[p]? = some (.cells #[.int .i64 0, .slice none 0 0] 24 (0, 0))
  | 7, L, v, w => ∃ p, v = .pointer (some ⟨p, 0, none⟩) ∧ B ≤ p ∧ w.heap[p]? = some (.cells #[.int .i64 0, .slice none 0 0] 33 (0, 0))
  | _, _, _, _ => False
theorem spN3_stable (wd : Int) (sv : Value) (xs : List Int) (tv : Value) (T : List Int) (B : Nat) : ∀ i L v w w', spN3 wd sv xs tv T B i L v w → Rs.Gr w w' → spN3 wd sv xs tv T B i L v w' := by
  intro i L v w w' h hg
  match i with
  | 0 => exact h
  | 1 => obtain ⟨u, h1, h2⟩ := h; exact ⟨u, h1, own_below h2 hg⟩
  | 2 => exact h
  | 3 => exact own_below h hg
  | 4 => exact h
  | 5 => obtain ⟨u, h1, h2⟩ := h; exact ⟨u, h1, own_below h2 hg⟩
  | 6 => obtain ⟨p, h1, h2, h3⟩ := h; exact ⟨p, h1, h2, (hg.block p (Array.getElem?_eq_some_iff.1 h3).1).trans h3⟩
  | 7 => obtain ⟨p, h1, h2, h3⟩ := h; exact ⟨p, h1, h2, (hg.block p (Array.getElem?_eq_some_iff.1 h3).1).trans h3⟩

set_option maxHeartbeats 1000000 in
set_option maxRecDepth 100000 in
theorem HearNeeds_any (wd : Int) (a : Option Addr) (cap : Nat) (xs : List Int) (wind s p : Int) (a2 : Option Addr) (cap2 : Nat) (T : List Int) (w : World) (hR : RdI w (.slice a xs.length cap) xs) (hT : RdI w (.slice a2 T.length cap2) T) (hF : ∀ i, i < T.length → -9223372036854775808 ≤ T.getD i 0 ∧ T.getD i 0 ≤ 9223372036854775807) :
    Calls Try.prog 4 #[.agg #[.int .i64 wd, .slice a xs.length cap], .int .i64 wind, .int .i64 s, .int .i64 p, .slice a2 T.length cap2] w fun e w' => e = .returned (.bool true) ∧ Below w.heap.size w w' := by
  have HR := Lib.hid hR
  have HT := Lib.hid hT
  have HF := Lib.hid hF
  have HB0 := Lib.hid (below1 w (.cells #[.int .i64 wd, .slice a xs.length cap] 24))
  have hx0 : (w.alloc (.cells #[.int .i64 wd, .slice a xs.length cap] 24)).heap[w.heap.size]? = some (.cells #[.int .i64 wd, .slice a xs.length cap] 24 (0, 0)) := heap_alloc_last _ _
  have HX0 := Lib.hid hx0
  have hl9 : xs.length ≤ 9223372036854775807 := hR.1
  have hl8 : T.length ≤ 9223372036854775807 := hT.1
  clear hR hx0 hT hF
  by_cases hgr : 40 < xs.length
  · have hg : decide (40 < (xs.length : Int)) = true := by simp; omega
    have HG := Lib.hid (fun W => great_any a wd xs.length cap W)
    rw [hg] at HG
    clear hg
    go_enter Try.func4, Try.ntmps4
    go_wp2_with fail
    refine (HG.out _).mono ?_
    rintro e w1 ⟨rfl, hB⟩
    have HB1 := Lib.hid (join HB0.out hB)
    clear hB
    go_wp2_with fail
    refine (awake_any w1).mono ?_
    rintro e w2 ⟨rfl, hB⟩
    have HB2 := Lib.hid (join HB1.out hB)
    clear hB
    go_wp2
    go_ret
    exact ⟨rfl, HB2.out⟩
  have hg : decide (40 < (xs.length : Int)) = false := by simp; omega
  have HG := Lib.hid (fun W => great_any a wd xs.length cap W)
  rw [hg] at HG
  have hl : xs.length ≤ 1000000 := by omega
  clear hg
  by_cases hgt : 40 < T.length
  · have hgt' : (40 : Int) < T.length := by omega
    go_enter Try.func4, Try.ntmps4
    go_wp2_with fail
    refine (HG.out _).mono ?_
    rintro e w1 ⟨rfl, hB⟩
    have HB1 := Lib.hid (join HB0.out hB)
    clear hB
    go_wp2_with fail
    refine (awake_any w1).mono ?_
    rintro e w2 ⟨rfl, hB⟩
    have HB2 := Lib.hid (join HB1.out hB)
    clear hB
    go_wp2
    go_ret
    exact ⟨rfl, HB2.out⟩
  · have hgt' : (T.length : Int) ≤ 40 := by omega
    have hl2 : T.length ≤ 1000000 := by omega
    obtain ⟨nv, hnv⟩ : ∃ x, x = needV wd xs wind s p := ⟨_, rfl⟩
    obtain ⟨ne, hne⟩ : ∃ x, x = needE wd xs wind s p := ⟨_, rfl⟩
    obtain ⟨se, hse⟩ : ∃ x, x = needsErr wd xs wind s := ⟨_, rfl⟩
    obtain ⟨sl, hsl⟩ : ∃ x, x = needsL wd xs wind s := ⟨_, rfl⟩
    obtain ⟨hv, hhv⟩ : ∃ x, x = holdsV wd xs wind s T := ⟨_, rfl⟩
    obtain ⟨he, hhe⟩ : ∃ x, x = holdsE wd xs wind s T := ⟨_, rfl⟩
    have C28 := Lib.hid (fun a7 p7 W hR => Need_any wd wind s p a7 p7 xs hl W hR)
    have C29 := Lib.hid (fun a8 p8 W hR => refNeed_any wd wind s p a8 p8 xs hl W hR)
    have C30 := Lib.hid (fun a7 p7 W hR => Needs_any wd wind s a7 p7 xs hl W hR)
    have C31 := Lib.hid (fun a8 p8 W hR => refNeeds_any wd wind s a8 p8 xs hl W hR)
    have C32 := Lib.hid (fun a7 a3 p7 p3 W hR hT => Holds_any wd wind s a7 a3 p7 p3 xs T hl HF.out W hR hT)
    have C33 := Lib.hid (fun a8 p8 W hR hT => refHolds_any wd wind s a8 a2 p8 cap2 xs T hl hl2 HF.out W hR hT)
    rw [← hnv, ← hne] at C28 C29
    rw [← hse, ← hsl] at C30 C31
    rw [← hhv, ← hhe] at C32 C33
    clear hnv hne hse hsl hhv hhe
    go_enter Try.func4, Try.ntmps4
    go_wp2_with fail
    refine (HG.out _).mono ?_
    rintro e w1 ⟨rfl, hB⟩
    have HX0 := (hB.block w.heap.size (by simp)).trans HX0.out
    have HZ0 : w.heap.size < w1.heap.size := (Array.getElem?_eq_some_iff.1 HX0).1
    have HB := Lib.hid (join HB0.out hB)
    clear hB HB0
    go_wp2_with fail
    refine Rs.region_gen 8 [[], [0], [], [0, 1, 2], [], [0, 1, 2, 3, 4], [], []] [some 30, some 31, some 32, some 33, some 34, some 35, some 11, some 13] (spN3 wd (.slice a xs.length cap) xs (.slice a2 T.length cap2) T w1.heap.size) (by kernel_rfl) (by kernel_rfl) rfl (spN3_stable _ _ _ _ _ _) ?_ ?_
    · refine ⟨fun V w' hG hs => ?_, fun V w' hG hs => ?_, fun V w' hG hs => ?_, fun V w' hG hs => ?_, fun V w' hG hs => ?_, fun V w' hG hs => ?_, fun V w' hG hs => ?_, fun V w' hG hs => ?_, trivial⟩
      all_goals
        obtain ⟨k0, k1⟩ := blk_cells2 ((hG.block w.heap.size HZ0).trans HX0)
      · rw [if_pos (by rfl)]
        exact Rs.GrowL.value (v := .agg #[.int .i64 wd, (.slice a xs.length cap)]) (w' := w') (by simp [go_sem, Rs.look, k0, k1]) (Rs.Gr.refl _) rfl
      · have e0 : V 0 = .agg #[.int .i64 wd, (.slice a xs.length cap)] := hs 0 (by simp)
        rw [if_pos (by rfl)]
        refine Rs.GrowL.call (f := 17) (args := #[.agg #[.int .i64 wd, .slice a xs.length cap]]) (by simp [go_sem, Rs.look, e0]) ?_
        refine (Own_any wd a cap xs hl w' (HR.out.below (join HB.out hG))).mono ?_
        rintro e w2 ⟨u, rfl, ho, hB2⟩
        exact ⟨_, rfl, hB2, u, rfl, own_base ho hG.size⟩
      · rw [if_pos (by rfl)]
        exact Rs.GrowL.value (v := (.slice a2 T.length cap2)) (w' := w') (by simp [go_sem, Rs.look]) (Rs.Gr.refl _) rfl
      · have e0 : V 0 = .agg #[.int .i64 wd, (.slice a xs.length cap)] := hs 0 (by simp)
        have r1 := hs 1 (by simp)
        have e2 : V 2 = (.slice a2 T.length cap2) := hs 2 (by simp)
        rw [if_pos (by rfl)]
        refine Rs.GrowL.call (f := 27) (args := #[.slice a2 T.length cap2]) (by simp [go_sem, Rs.look, e2]) ?_
        refine (copy_int _ T hl2 w' (HT.out.below (join HB.out hG))).mono ?_
        rintro e w2 ⟨u, rfl, ho, hB2⟩
        exact ⟨_, rfl, hB2, own_base ho hG.size⟩
      · rw [if_pos (by rfl)]
        exact Rs.GrowL.value (v := .agg #[.int .i64 wd, (.slice a xs.length cap)]) (w' := w') (by simp [go_sem, Rs.look, k0, k1]) (Rs.Gr.refl _) rfl
      · have e0 : V 0 = .agg #[.int .i64 wd, (.slice a xs.length cap)] := hs 0 (by simp)
        have r1 := hs 1 (by simp)
        have e2 : V 2 = (.slice a2 T.length cap2) := hs 2 (by simp)
        have r3 := hs 3 (by simp)
        have e4 : V 4 = .agg #[.int .i64 wd, (.slice a xs.length cap)] := hs 4 (by simp)
        rw [if_pos (by rfl)]
        refine Rs.GrowL.call (f := 18) (args := #[.agg #[.int .i64 wd, .slice a xs.length cap]]) (by simp [go_sem, Rs.look, e4]) ?_
        refine (theirs_any wd a cap xs hl w' (HR.out.below (join HB.out hG))).mono ?_
        rintro e w2 ⟨u, rfl, ho, hB2⟩
        exact ⟨_, rfl, hB2, u, rfl, own_base ho hG.size⟩
      · rw [if_pos (by rfl)]
        exact Rs.GrowL.value (v := .pointer (some ⟨w'.heap.size, 0, none⟩)) (w' := w'.alloc (.cells #[.int .i64 0, .slice none 0 0] 24)) (by simp [go_sem, Rs.look]) (below1 _ _) ⟨_, rfl, hG.size, heap_alloc_last _ _⟩
      · rw [if_pos (by rfl)]
        exact Rs.GrowL.value (v := .pointer (some ⟨w'.heap.size, 0, none⟩)) (w' := w'.alloc (.cells #[.int .i64 0, .slice none 0 0] 33)) (by simp [go_sem, Rs.look]) (below1 _ _) ⟨_, rfl, hG.size, heap_alloc_last _ _⟩
    · intro V w' hG hs
      have e0 : V 0 = .agg #[.int .i64 wd, (.slice a xs.length cap)] := hs 0 (by omega)
      have r1 := hs 1 (by omega)
      have e2 : V 2 = (.slice a2 T.length cap2) := hs 2 (by omega)
      have r3 := hs 3 (by omega)
      have e4 : V 4 = .agg #[.int .i64 wd, (.slice a xs.length cap)] := hs 4 (by omega)
      have r5 := hs 5 (by omega)
      have r6 := hs 6 (by omega)
      have r7 := hs 7 (by omega)
      obtain ⟨u7, e1, o7⟩ : ∃ u, V 1 = .agg #[.int .i64 wd, u] ∧ w'.ownsRow w1.heap.size 102 1 u xs.length (xs.map (Value.int .i64)) := r1
      have o3 : w'.ownsRow w1.heap.size 3 1 (V 3) T.length (T.map (Value.int .i64)) := r3
      obtain ⟨u8, e5, o8⟩ : ∃ u, V 5 = .agg #[.int .i64 wd, u] ∧ w'.ownsRow w1.heap.size 3 1 u xs.length (xs.map (Value.int .i64)) := r5
      obtain ⟨c7, e6, hc7, x7⟩ : ∃ p, V 6 = .pointer (some ⟨p, 0, none⟩) ∧ w1.heap.size ≤ p ∧ w'.heap[p]? = some (.cells #[.int .i64 0, .slice none 0 0] 24 (0, 0)) := r6
      obtain ⟨c8, e7, hc8, x8⟩ : ∃ p, V 7 = .pointer (some ⟨p, 0, none⟩) ∧ w1.heap.size ≤ p ∧ w'.heap[p]? = some (.cells #[.int .i64 0, .slice none 0 0] 33 (0, 0)) := r7
      simp only [Rs.canon, Rs.dstOf, List.range_succ, List.range_zero, List.nil_append, List.cons_append, List.foldl_cons, List.foldl_nil, List.drop_succ_cons, List.drop_zero, List.drop_nil, List.getElem?_toArray, List.getElem?_cons_succ, List.getElem?_cons_zero, Option.bind_some, Act.put, List.getD_cons_succ, List.getD_cons_zero, List.setIfInBounds_toArray, List.set_cons_succ, List.set_cons_zero]
      rw [e0, e1, e2, e4, e5, e6, e7]
      generalize V 3 = m3 at o3 ⊢
      clear e0 e1 e2 e4 e5 e6 e7 hs
      obtain ⟨a7, p7, rfl⟩ := own_slice o7
      obtain ⟨a8, p8, rfl⟩ := own_slice o8
      obtain ⟨a3, p3, rfl⟩ := own_slice o3
      have hne : c7 ≠ c8 := fun e => by rw [e, x8] at x7; injection x7 with h; injection h with _ h; cases h
      obtain ⟨q0, q1⟩ := blk_cells2 x7
      obtain ⟨q2, q3⟩ := blk_cells2 x8
      have f0 := frozen_of_row w' c7 0 _ _ x7
      have f1 := frozen_of_row w' c7 1 _ _ x7
      have f2 := frozen_of_row w' c8 0 _ _ x8
      have f3 := frozen_of_row w' c8 1 _ _ x8
      have HL := Lib.hid (LwT.start (wd := wd) x7 x8 o7 o8)
      have HM := Lib.hid (RdI.own rfl rfl (own_boxes x7 x8 hne (by decide) (by decide) (.int .i64 wd) (.slice a7 xs.length p7) (.int .i64 wd) (.slice a8 xs.length p8) o3))
      have HB := Lib.hid (setc (setc (setc (setc (join HB.out hG) (v := .int .i64 wd) (p := ⟨c7, 0, none⟩) (by have := HB.out.size; simp; omega)) (v := .slice a7 xs.length p7) (p := ⟨c7, 1, none⟩) (by have := HB.out.size; simp; omega)) (v := .int .i64 wd) (p := ⟨c8, 0, none⟩) (by have := HB.out.size; simp; omega)) (v := .slice a8 xs.length p8) (p := ⟨c8, 1, none⟩) (by have := HB.out.size; simp; omega))
      have hX0 := (hG.block w.heap.size HZ0).trans HX0
      have n0 : ∀ c, w1.heap.size ≤ c → w.heap.size ≠ c := fun c hc => by omega
      have HX0 := Lib.hid ((Below.heap_setCell ((( w'.setCell ⟨c7, 0, none⟩ (.int .i64 wd)).setCell ⟨c7, 1, none⟩ (.slice a7 xs.length p7)).setCell ⟨c8, 0, none⟩ (.int .i64 wd)) ⟨c8, 1, none⟩ (.slice a8 xs.length p8) _ (n0 c8 hc8)).trans ((Below.heap_setCell _ _ _ _ (n0 c8 hc8)).trans ((Below.heap_setCell _ _ _ _ (n0 c7 hc7)).trans ((Below.heap_setCell _ _ _ _ (n0 c7 hc7)).trans hX0))))
      clear o7 o8 o3 x7 x8 hX0 n0
      clear hG
      go_wp2_with fail
      refine calls_named fun W hW => ?_
      rw [← hW] at HL HB HX0 HM
      clear hW f0 f1 f2 f3 q0 q1 q2 q3
      obtain ⟨⟨k0, k1⟩, k2, k3⟩ := HL.out.cs
      obtain ⟨k4, k5⟩ := blk_cells2 HX0.out
      refine (C28.out a7 p7 _ HL.out.r7).mono ?_
      rintro e w2 ⟨rfl, hB⟩
      have HL := Lib.hid (HL.out.below hB)
      have HM := Lib.hid (HM.out.below hB)
      have HX0 := Lib.hid ((hB.block _ (Array.getElem?_eq_some_iff.1 HX0.out).1).trans HX0.out)
      have HB := Lib.hid (join HB.out hB)
      clear hB k0 k1 k2 k3 k4 k5
      obtain ⟨⟨k0, k1⟩, k2, k3⟩ := HL.out.cs
      obtain ⟨k4, k5⟩ := blk_cells2 HX0.out
      go_wp2_with fail
      refine (C29.out a8 p8 _ HL.out.r8).mono ?_
      rintro e w2 ⟨rfl, hB⟩
      have HL := Lib.hid (HL.out.below hB)
      have HM := Lib.hid (HM.out.below hB)
      have HX0 := Lib.hid ((hB.block _ (Array.getElem?_eq_some_iff.1 HX0.out).1).trans HX0.out)
      have HB := Lib.hid (join HB.out hB)
      clear hB k0 k1 k2 k3 k4 k5
      obtain ⟨⟨k0, k1⟩, k2, k3⟩ := HL.out.cs
      obtain ⟨k4, k5⟩ := blk_cells2 HX0.out
      go_wp2_with fail
      refine (C30.out a7 p7 _ HL.out.r7).mono ?_
      rintro e w2 ⟨v18, rfl, ho, hB⟩
      have H18 := Lib.hid (RdI.own rfl rfl ho)
      have HL := Lib.hid (HL.out.below hB)
      have HM := Lib.hid (HM.out.below hB)
      have HX0 := Lib.hid ((hB.block _ (Array.getElem?_eq_some_iff.1 HX0.out).1).trans HX0.out)
      have HB := Lib.hid (join HB.out hB)
      clear hB k0 k1 k2 k3 k4 k5 ho
      obtain ⟨⟨k0, k1⟩, k2, k3⟩ := HL.out.cs
      obtain ⟨k4, k5⟩ := blk_cells2 HX0.out
      go_wp2_with fail
      refine (C31.out a8 p8 _ HL.out.r8).mono ?_
      rintro e w2 ⟨v19, rfl, ho, hB⟩
      have H18 := Lib.hid (H18.out.below hB)
      have H19 := Lib.hid (RdI.own rfl rfl ho)
      have HL := Lib.hid (HL.out.below hB)
      have HM := Lib.hid (HM.out.below hB)
      have HX0 := Lib.hid ((hB.block _ (Array.getElem?_eq_some_iff.1 HX0.out).1).trans HX0.out)
      have HB := Lib.hid (join HB.out hB)
      clear hB k0 k1 k2 k3 k4 k5 ho
      obtain ⟨⟨k0, k1⟩, k2, k3⟩ := HL.out.cs
      obtain ⟨k4, k5⟩ := blk_cells2 HX0.out
      go_wp2_with fail
      refine (Like_int v18 v19 sl sl true (by simp) _ H18.out H19.out).mono ?_
      rintro e w2 ⟨rfl, hB⟩
      have HL := Lib.hid (HL.out.below hB)
      have HM := Lib.hid (HM.out.below hB)
      have HX0 := Lib.hid ((hB.block _ (Array.getElem?_eq_some_iff.1 HX0.out).1).trans HX0.out)
      have HB := Lib.hid (join HB.out hB)
      clear hB k0 k1 k2 k3 k4 k5 H18 H19
      obtain ⟨⟨k0, k1⟩, k2, k3⟩ := HL.out.cs
      obtain ⟨k4, k5⟩ := blk_cells2 HX0.out
      go_wp2_with fail
      refine (C32.out a7 a3 p7 p3 _ HL.out.r7 HM.out).mono ?_
      rintro e w2 ⟨rfl, hB⟩
      have HL := Lib.hid (HL.out.below hB)
      have HM := Lib.hid (HM.out.below hB)
      have HX0 := Lib.hid ((hB.block _ (Array.getElem?_eq_some_iff.1 HX0.out).1).trans HX0.out)
      have HB := Lib.hid (join HB.out hB)
      clear hB k0 k1 k2 k3 k4 k5
      obtain ⟨⟨k0, k1⟩, k2, k3⟩ := HL.out.cs
      obtain ⟨k4, k5⟩ := blk_cells2 HX0.out
      go_wp2_with fail
      refine (C33.out a8 p8 _ HL.out.r8 (HT.out.below HB.out)).mono ?_
      rintro e w2 ⟨rfl, hB⟩
      have HL := Lib.hid (HL.out.below hB)
      have HM := Lib.hid (HM.out.below hB)
      have HX0 := Lib.hid ((hB.block _ (Array.getElem?_eq_some_iff.1 HX0.out).1).trans HX0.out)
      have HB := Lib.hid (join HB.out hB)
      clear hB k0 k1 k2 k3 k4 k5
      obtain ⟨⟨k0, k1⟩, k2, k3⟩ := HL.out.cs
      obtain ⟨k4, k5⟩ := blk_cells2 HX0.out
      go_wp2_with fail
      refine (same_yes wd a7 a xs.length p7 cap xs.length xs _ HL.out.r7 (HR.out.below HB.out)).mono ?_
      rintro e w2 ⟨rfl, hB⟩
      have HL := Lib.hid (HL.out.below hB)
      have HM := Lib.hid (HM.out.below hB)
      have HX0 := Lib.hid ((hB.block _ (Array.getElem?_eq_some_iff.1 HX0.out).1).trans HX0.out)
      have HB := Lib.hid (join HB.out hB)
      clear hB k0 k1 k2 k3 k4 k5
      obtain ⟨⟨k0, k1⟩, k2, k3⟩ := HL.out.cs
      obtain ⟨k4, k5⟩ := blk_cells2 HX0.out
      go_wp2_with fail
      refine (Like_int (.slice a3 T.length p3) (.slice a2 T.length cap2) T T true (by simp) _ HM.out (HT.out.below HB.out)).mono ?_
      rintro e w2 ⟨rfl, hB⟩
      have HL := Lib.hid (HL.out.below hB)
      have HM := Lib.hid (HM.out.below hB)
      have HX0 := Lib.hid ((hB.block _ (Array.getElem?_eq_some_iff.1 HX0.out).1).trans HX0.out)
      have HB := Lib.hid (join HB.out hB)
      clear hB k0 k1 k2 k3 k4 k5
      go_wp2_with fail
      refine (awake_any _).mono ?_
      rintro e w10 ⟨rfl, hB10⟩
      have HB := Lib.hid (join HB.out hB10)
      clear hB10
      go_wp2
      go_ret
      exact ⟨rfl, HB.out⟩
end Go.Proofs.Ytimedmkpenbmkaa
