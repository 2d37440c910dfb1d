import Derived.Test.YtimedmkpenbmkaaWy
import Derived.Test.YtimedmkpenbmkaaL2
namespace Go.Proofs.Ytimedmkpenbmkaa
open Go.RowKit Go.Shelf
set_option linter.unusedSimpArgs false
set_option linter.unusedVariables false

theorem own_cap {w : World} {base : Nat} {e : TypeId} {ob : Option Addr} {cp : Nat} {xs : List Int} (h : w.ownsRow base e 1 (.slice ob xs.length cp) xs.length (xs.map (Value.int .i64))) : xs.length ≤ cp := by
  by_cases h0 : xs = []
  · subst h0; simp
  · obtain ⟨g, k, h1, _, _, h2, _⟩ := own_ints rfl h h0
    injection h1 with _ _ h3
    omega

set_option maxHeartbeats 1000000 in
set_option maxRecDepth 100000 in
theorem HearWays_any (wd : Int) (a : Option Addr) (cap : Nat) (xs : List Int) (wind s p : Int) (a2 : Option Addr) (cap2 : Nat) (T : List Int) (w : World) (hR : RdI w (.slice a xs.length cap) xs) (hT : RdI w (.slice a2 T.length cap2) T) :
    Calls Try.prog 5 #[.agg #[.int .i64 wd, .slice a xs.length cap], .int .i64 wind, .int .i64 s, .int .i64 p, .slice a2 T.length cap2] w fun e w' => e = .returned (.bool true) ∧ Below w.heap.size w w' := by
  have HR := Lib.hid hR
  have HT := Lib.hid hT
  have HB0 := Lib.hid (below1 w (.cells #[.int .i64 wd, .slice a xs.length cap] 24))
  have hx0 : (w.alloc (.cells #[.int .i64 wd, .slice a xs.length cap] 24)).heap[w.heap.size]? = some (.cells #[.int .i64 wd, .slice a xs.length cap] 24 (0, 0)) := heap_alloc_last _ _
  have HX0 := Lib.hid hx0
  have hl9 : xs.length ≤ 9223372036854775807 := hR.1
  have hl8 : T.length ≤ 9223372036854775807 := hT.1
  clear hR hx0 hT
  by_cases hgr : 40 < xs.length
  · have hg : decide (40 < (xs.length : Int)) = true := by simp; omega
    have HG := Lib.hid (fun W => great_any a wd xs.length cap W)
    rw [hg] at HG
    clear hg
    go_enter Try.func5, Try.ntmps5
    go_wp2_with fail
    refine (HG.out _).mono ?_
    rintro e w1 ⟨rfl, hB⟩
    have HB1 := Lib.hid (join HB0.out hB)
    clear hB
    go_wp2_with fail
    refine (awake_any w1).mono ?_
    rintro e w2 ⟨rfl, hB⟩
    have HB2 := Lib.hid (join HB1.out hB)
    clear hB
    go_wp2
    go_ret
    exact ⟨rfl, HB2.out⟩
  have hg : decide (40 < (xs.length : Int)) = false := by simp; omega
  have HG := Lib.hid (fun W => great_any a wd xs.length cap W)
  rw [hg] at HG
  have hl : xs.length ≤ 1000000 := by omega
  clear hg
  by_cases hgt : 60 < T.length
  · have hgt' : (60 : Int) < T.length := by omega
    go_enter Try.func5, Try.ntmps5
    go_wp2_with fail
    refine (HG.out _).mono ?_
    rintro e w1 ⟨rfl, hB⟩
    have HB1 := Lib.hid (join HB0.out hB)
    clear hB
    go_wp2_with fail
    refine (awake_any w1).mono ?_
    rintro e w2 ⟨rfl, hB⟩
    have HB2 := Lib.hid (join HB1.out hB)
    clear hB
    go_wp2
    go_ret
    exact ⟨rfl, HB2.out⟩
  · have hgt' : (T.length : Int) ≤ 60 := by omega
    have hl2 : T.length ≤ 1000000 := by omega
    obtain ⟨nv, hnv⟩ : ∃ x, x = needV wd xs wind s p := ⟨_, rfl⟩
    obtain ⟨ne, hne⟩ : ∃ x, x = needE wd xs wind s p := ⟨_, rfl⟩
    obtain ⟨tv, htv⟩ : ∃ x, x = takesV wd xs wind T := ⟨_, rfl⟩
    obtain ⟨te, hte⟩ : ∃ x, x = takesE wd xs wind T := ⟨_, rfl⟩
    obtain ⟨wl, hwl⟩ : ∃ x, x = wayL wd xs wind s p := ⟨_, rfl⟩
    have C34 := Lib.hid (fun a7 a3 p7 p3 W hc hR hT => Takes_any wd wind a7 a3 p7 p3 xs T hl (by omega) hc W hR hT)
    have C35 := Lib.hid (fun a8 p8 W hR hT => refTakes_any wd wind a8 a2 p8 cap2 xs T hl (by omega) W hR hT)
    have C36 := Lib.hid (fun a7 p7 W hR => Way_any wd wind s p a7 p7 xs hl W hR)
    have C29 := Lib.hid (fun a8 p8 W hR => refNeed_any wd wind s p a8 p8 xs hl W hR)
    have CWT := Lib.hid (fun h : needE wd xs wind s p = 0 => way_takes h)
    have CWN := Lib.hid (fun h : needE wd xs wind s p ≠ 0 => (show wayL wd xs wind s p = [] from if_neg h))
    have C35b := Lib.hid (fun a8 p8 a9 p9 W hw hR hT => refTakes_any wd wind a8 a9 p8 p9 xs (wayL wd xs wind s p) hl hw W hR hT)
    rw [← hnv, ← hne] at C29
    rw [← hne, ← hwl] at C36
    rw [← htv, ← hte] at C34 C35
    rw [← hnv, ← hne, ← hwl] at CWT
    rw [← hne, ← hwl] at CWN
    rw [← hwl] at C35b
    clear hnv hne htv hte hwl
    go_enter Try.func5, Try.ntmps5
    go_wp2_with fail
    refine (HG.out _).mono ?_
    rintro e w1 ⟨rfl, hB⟩
    have HX0 := (hB.block w.heap.size (by simp)).trans HX0.out
    have HZ0 : w.heap.size < w1.heap.size := (Array.getElem?_eq_some_iff.1 HX0).1
    have HB := Lib.hid (join HB0.out hB)
    clear hB HB0
    go_wp2_with fail
    refine Rs.region_gen 8 [[], [0], [], [0, 1, 2], [], [0, 1, 2, 3, 4], [], []] [some 27, some 28, some 29, some 30, some 31, some 32, some 11, some 13] (spN3 wd (.slice a xs.length cap) xs (.slice a2 T.length cap2) T w1.heap.size) (by kernel_rfl) (by kernel_rfl) rfl (spN3_stable _ _ _ _ _ _) ?_ ?_
    · refine ⟨fun V w' hG hs => ?_, fun V w' hG hs => ?_, fun V w' hG hs => ?_, fun V w' hG hs => ?_, fun V w' hG hs => ?_, fun V w' hG hs => ?_, fun V w' hG hs => ?_, fun V w' hG hs => ?_, trivial⟩
      all_goals
        obtain ⟨k0, k1⟩ := blk_cells2 ((hG.block w.heap.size HZ0).trans HX0)
      · rw [if_pos (by rfl)]
        exact Rs.GrowL.value (v := .agg #[.int .i64 wd, (.slice a xs.length cap)]) (w' := w') (by simp [go_sem, Rs.look, k0, k1]) (Rs.Gr.refl _) rfl
      · have e0 : V 0 = .agg #[.int .i64 wd, (.slice a xs.length cap)] := hs 0 (by simp)
        rw [if_pos (by rfl)]
        refine Rs.GrowL.call (f := 17) (args := #[.agg #[.int .i64 wd, .slice a xs.length cap]]) (by simp [go_sem, Rs.look, e0]) ?_
        refine (Own_any wd a cap xs hl w' (HR.out.below (join HB.out hG))).mono ?_
        rintro e w2 ⟨u, rfl, ho, hB2⟩
        exact ⟨_, rfl, hB2, u, rfl, own_base ho hG.size⟩
      · rw [if_pos (by rfl)]
        exact Rs.GrowL.value (v := (.slice a2 T.length cap2)) (w' := w') (by simp [go_sem, Rs.look]) (Rs.Gr.refl _) rfl
      · have e0 : V 0 = .agg #[.int .i64 wd, (.slice a xs.length cap)] := hs 0 (by simp)
        have r1 := hs 1 (by simp)
        have e2 : V 2 = (.slice a2 T.length cap2) := hs 2 (by simp)
        rw [if_pos (by rfl)]
        refine Rs.GrowL.call (f := 27) (args := #[.slice a2 T.length cap2]) (by simp [go_sem, Rs.look, e2]) ?_
        refine (copy_int _ T hl2 w' (HT.out.below (join HB.out hG))).mono ?_
        rintro e w2 ⟨u, rfl, ho, hB2⟩
        exact ⟨_, rfl, hB2, own_base ho hG.size⟩
      · rw [if_pos (by rfl)]
        exact Rs.GrowL.value (v := .agg #[.int .i64 wd, (.slice a xs.length cap)]) (w' := w') (by simp [go_sem, Rs.look, k0, k1]) (Rs.Gr.refl _) rfl
      · have e0 : V 0 = .agg #[.int .i64 wd, (.slice a xs.length cap)] := hs 0 (by simp)
        have r1 := hs 1 (by simp)
        have e2 : V 2 = (.slice a2 T.length cap2) := hs 2 (by simp)
        have r3 := hs 3 (by simp)
        have e4 : V 4 = .agg #[.int .i64 wd, (.slice a xs.length cap)] := hs 4 (by simp)
        rw [if_pos (by rfl)]
        refine Rs.GrowL.call (f := 18) (args := #[.agg #[.int .i64 wd, .slice a xs.length cap]]) (by simp [go_sem, Rs.look, e4]) ?_
        refine (theirs_any wd a cap xs hl w' (HR.out.below (join HB.out hG))).mono ?_
        rintro e w2 ⟨u, rfl, ho, hB2⟩
        exact ⟨_, rfl, hB2, u, rfl, own_base ho hG.size⟩
      · rw [if_pos (by rfl)]
        exact Rs.GrowL.value (v := .pointer (some ⟨w'.heap.size, 0, none⟩)) (w' := w'.alloc (.cells #[.int .i64 0, .slice none 0 0] 24)) (by simp [go_sem, Rs.look]) (below1 _ _) ⟨_, rfl, hG.size, heap_alloc_last _ _⟩
      · rw [if_pos (by rfl)]
        exact Rs.GrowL.value (v := .pointer (some ⟨w'.heap.size, 0, none⟩)) (w' := w'.alloc (.cells #[.int .i64 0, .slice none 0 0] 33)) (by simp [go_sem, Rs.look]) (below1 _ _) ⟨_, rfl, hG.size, heap_alloc_last _ _⟩
    · intro V w' hG hs
      have e0 : V 0 = .agg #[.int .i64 wd, (.slice a xs.length cap)] := hs 0 (by omega)
      have r1 := hs 1 (by omega)
      have e2 : V 2 = (.slice a2 T.length cap2) := hs 2 (by omega)
      have r3 := hs 3 (by omega)
      have e4 : V 4 = .agg #[.int .i64 wd, (.slice a xs.length cap)] := hs 4 (by omega)
      have r5 := hs 5 (by omega)
      have r6 := hs 6 (by omega)
      have r7 := hs 7 (by omega)
      obtain ⟨u7, e1, o7⟩ : ∃ u, V 1 = .agg #[.int .i64 wd, u] ∧ w'.ownsRow w1.heap.size 102 1 u xs.length (xs.map (Value.int .i64)) := r1
      have o3 : w'.ownsRow w1.heap.size 3 1 (V 3) T.length (T.map (Value.int .i64)) := r3
      obtain ⟨u8, e5, o8⟩ : ∃ u, V 5 = .agg #[.int .i64 wd, u] ∧ w'.ownsRow w1.heap.size 3 1 u xs.length (xs.map (Value.int .i64)) := r5
      obtain ⟨c7, e6, hc7, x7⟩ : ∃ p, V 6 = .pointer (some ⟨p, 0, none⟩) ∧ w1.heap.size ≤ p ∧ w'.heap[p]? = some (.cells #[.int .i64 0, .slice none 0 0] 24 (0, 0)) := r6
      obtain ⟨c8, e7, hc8, x8⟩ : ∃ p, V 7 = .pointer (some ⟨p, 0, none⟩) ∧ w1.heap.size ≤ p ∧ w'.heap[p]? = some (.cells #[.int .i64 0, .slice none 0 0] 33 (0, 0)) := r7
      simp only [Rs.canon, Rs.dstOf, List.range_succ, List.range_zero, List.nil_append, List.cons_append, List.foldl_cons, List.foldl_nil, List.drop_succ_cons, List.drop_zero, List.drop_nil, List.getElem?_toArray, List.getElem?_cons_succ, List.getElem?_cons_zero, Option.bind_some, Act.put, List.getD_cons_succ, List.getD_cons_zero, List.setIfInBounds_toArray, List.set_cons_succ, List.set_cons_zero]
      rw [e0, e1, e2, e4, e5, e6, e7]
      generalize V 3 = m3 at o3 ⊢
      clear e0 e1 e2 e4 e5 e6 e7 hs
      obtain ⟨a7, p7, rfl⟩ := own_slice o7
      obtain ⟨a8, p8, rfl⟩ := own_slice o8
      obtain ⟨a3, p3, rfl⟩ := own_slice o3
      have hcap3 := own_cap o3
      have hne : c7 ≠ c8 := fun e => by rw [e, x8] at x7; injection x7 with h; injection h with _ h; cases h
      obtain ⟨q0, q1⟩ := blk_cells2 x7
      obtain ⟨q2, q3⟩ := blk_cells2 x8
      have f0 := frozen_of_row w' c7 0 _ _ x7
      have f1 := frozen_of_row w' c7 1 _ _ x7
      have f2 := frozen_of_row w' c8 0 _ _ x8
      have f3 := frozen_of_row w' c8 1 _ _ x8
      have HL := Lib.hid (LwT.start (wd := wd) x7 x8 o7 o8)
      have HM := Lib.hid (RdI.own rfl rfl (own_boxes x7 x8 hne (by decide) (by decide) (.int .i64 wd) (.slice a7 xs.length p7) (.int .i64 wd) (.slice a8 xs.length p8) o3))
      have HB := Lib.hid (setc (setc (setc (setc (join HB.out hG) (v := .int .i64 wd) (p := ⟨c7, 0, none⟩) (by have := HB.out.size; simp; omega)) (v := .slice a7 xs.length p7) (p := ⟨c7, 1, none⟩) (by have := HB.out.size; simp; omega)) (v := .int .i64 wd) (p := ⟨c8, 0, none⟩) (by have := HB.out.size; simp; omega)) (v := .slice a8 xs.length p8) (p := ⟨c8, 1, none⟩) (by have := HB.out.size; simp; omega))
      have hX0 := (hG.block w.heap.size HZ0).trans HX0
      have n0 : ∀ c, w1.heap.size ≤ c → w.heap.size ≠ c := fun c hc => by omega
      have HX0 := Lib.hid ((Below.heap_setCell ((( w'.setCell ⟨c7, 0, none⟩ (.int .i64 wd)).setCell ⟨c7, 1, none⟩ (.slice a7 xs.length p7)).setCell ⟨c8, 0, none⟩ (.int .i64 wd)) ⟨c8, 1, none⟩ (.slice a8 xs.length p8) _ (n0 c8 hc8)).trans ((Below.heap_setCell _ _ _ _ (n0 c8 hc8)).trans ((Below.heap_setCell _ _ _ _ (n0 c7 hc7)).trans ((Below.heap_setCell _ _ _ _ (n0 c7 hc7)).trans hX0))))
      clear o7 o8 o3 x7 x8 hX0 n0
      clear hG
      go_wp2_with fail
      refine calls_named fun W hW => ?_
      rw [← hW] at HL HB HX0 HM
      clear hW f0 f1 f2 f3 q0 q1 q2 q3
      obtain ⟨⟨k0, k1⟩, k2, k3⟩ := HL.out.cs
      obtain ⟨k4, k5⟩ := blk_cells2 HX0.out
      refine (C34.out a7 a3 p7 p3 _ hcap3 HL.out.r7 HM.out).mono ?_
      rintro e w2 ⟨rfl, hB⟩
      have HL := Lib.hid (HL.out.below hB)
      have HM := Lib.hid (HM.out.below hB)
      have HX0 := Lib.hid ((hB.block _ (Array.getElem?_eq_some_iff.1 HX0.out).1).trans HX0.out)
      have HB := Lib.hid (join HB.out hB)
      clear hB k0 k1 k2 k3 k4 k5
      obtain ⟨⟨k0, k1⟩, k2, k3⟩ := HL.out.cs
      obtain ⟨k4, k5⟩ := blk_cells2 HX0.out
      go_wp2_with fail
      refine (C35.out a8 p8 _ HL.out.r8 (HT.out.below HB.out)).mono ?_
      rintro e w2 ⟨rfl, hB⟩
      have HL := Lib.hid (HL.out.below hB)
      have HM := Lib.hid (HM.out.below hB)
      have HX0 := Lib.hid ((hB.block _ (Array.getElem?_eq_some_iff.1 HX0.out).1).trans HX0.out)
      have HB := Lib.hid (join HB.out hB)
      clear hB k0 k1 k2 k3 k4 k5
      obtain ⟨⟨k0, k1⟩, k2, k3⟩ := HL.out.cs
      obtain ⟨k4, k5⟩ := blk_cells2 HX0.out
      go_wp2_with fail
      refine (C36.out a7 p7 _ HL.out.r7).mono ?_
      rintro e w2 ⟨v18, rfl, ho, hB⟩
      obtain ⟨o18, q18, rfl⟩ := own_slice ho
      have H18 := Lib.hid (RdI.own rfl rfl ho)
      have HL := Lib.hid (HL.out.below hB)
      have HM := Lib.hid (HM.out.below hB)
      have HX0 := Lib.hid ((hB.block _ (Array.getElem?_eq_some_iff.1 HX0.out).1).trans HX0.out)
      have HB := Lib.hid (join HB.out hB)
      clear hB k0 k1 k2 k3 k4 k5 ho
      obtain ⟨⟨k0, k1⟩, k2, k3⟩ := HL.out.cs
      obtain ⟨k4, k5⟩ := blk_cells2 HX0.out
      go_wp2_with fail
      refine (C29.out a8 p8 _ HL.out.r8).mono ?_
      rintro e w2 ⟨rfl, hB⟩
      have H18 := Lib.hid (H18.out.below hB)
      have HL := Lib.hid (HL.out.below hB)
      have HM := Lib.hid (HM.out.below hB)
      have HX0 := Lib.hid ((hB.block _ (Array.getElem?_eq_some_iff.1 HX0.out).1).trans HX0.out)
      have HB := Lib.hid (join HB.out hB)
      clear hB k0 k1 k2 k3 k4 k5
      by_cases hne : ne = 0
      · have HNE := Lib.hid hne
        subst hne
        obtain ⟨⟨k0, k1⟩, k2, k3⟩ := HL.out.cs
        obtain ⟨k4, k5⟩ := blk_cells2 HX0.out
        go_wp2_with fail
        refine (C35b.out a8 p8 o18 q18 _ (CWT.out HNE.out).2.2.2.1 HL.out.r8 H18.out).mono ?_
        rintro e w2 ⟨rfl, hB⟩
        have H18 := Lib.hid (H18.out.below hB)
        have HL := Lib.hid (HL.out.below hB)
        have HM := Lib.hid (HM.out.below hB)
        have HX0 := Lib.hid ((hB.block _ (Array.getElem?_eq_some_iff.1 HX0.out).1).trans HX0.out)
        have HB := Lib.hid (join HB.out hB)
        clear hB k0 k1 k2 k3 k4 k5
        obtain ⟨t1, t2, t3, t4, t5, t6⟩ := CWT.out HNE.out
        obtain ⟨m, hm⟩ : ∃ m, wl.length = m + 1 := ⟨wl.length - 1, by omega⟩
        have hwne : wl ≠ [] := by rintro rfl; simp at hm
        obtain ⟨g, oo, rfl, _, hI18⟩ := rd_ints H18.out hwne
        have q0 := hI18.2 0 (by omega)
        have qm := hI18.2 m (by omega)
        rw [t5, Nat.add_zero] at q0
        rw [show wl.getD m 0 = p by rw [← t6, hm]; rfl] at qm
        have hgl := hI18.1
        rw [t1, t2, hm]
        have hm1 : (0 : Int) < (m : Int) + 1 := by omega
        have hmm : (m : Int) < (m : Int) + 1 := by omega
        have hm2 : (m : Int) + 1 - 1 = m := by omega
        have hm3 : (m : Int) ≤ 2000 := by omega
        clear t1 t2 t3 t4 t5 t6 hm hwne hI18 H18 CWT CWN C34 C35 C36 C29 C35b HNE HG
        obtain ⟨⟨k0, k1⟩, k2, k3⟩ := HL.out.cs
        obtain ⟨k4, k5⟩ := blk_cells2 HX0.out
        go_wp2_with fail
        refine (same_yes wd a7 a xs.length p7 cap xs.length xs _ HL.out.r7 (HR.out.below HB.out)).mono ?_
        rintro e w2 ⟨rfl, hB⟩
        have HL := Lib.hid (HL.out.below hB)
        have HM := Lib.hid (HM.out.below hB)
        have HX0 := Lib.hid ((hB.block _ (Array.getElem?_eq_some_iff.1 HX0.out).1).trans HX0.out)
        have HB := Lib.hid (join HB.out hB)
        clear hB k0 k1 k2 k3 k4 k5 q0 qm hgl hm1 hmm hm2
        obtain ⟨⟨k0, k1⟩, k2, k3⟩ := HL.out.cs
        obtain ⟨k4, k5⟩ := blk_cells2 HX0.out
        go_wp2_with fail
        refine (Like_int (.slice a3 T.length p3) (.slice a2 T.length cap2) T T true (by simp) _ HM.out (HT.out.below HB.out)).mono ?_
        rintro e w2 ⟨rfl, hB⟩
        have HL := Lib.hid (HL.out.below hB)
        have HM := Lib.hid (HM.out.below hB)
        have HX0 := Lib.hid ((hB.block _ (Array.getElem?_eq_some_iff.1 HX0.out).1).trans HX0.out)
        have HB := Lib.hid (join HB.out hB)
        clear hB k0 k1 k2 k3 k4 k5
        go_wp2_with fail
        refine (awake_any _).mono ?_
        rintro e w10 ⟨rfl, hB10⟩
        have HB := Lib.hid (join HB.out hB10)
        clear hB10
        go_wp2
        go_ret
        exact ⟨rfl, HB.out⟩
      · have hne' : (ne != 0) = true := by simpa using hne
        have hne2 : (ne == 0) = false := by simpa using hne
        have hw0 := CWN.out hne
        have hwl0 : wl.length = 0 := by rw [hw0]; rfl
        rw [hwl0]
        clear hne hw0 hwl0 H18 CWT CWN C34 C35 C36 C29 C35b HG
        obtain ⟨⟨k0, k1⟩, k2, k3⟩ := HL.out.cs
        obtain ⟨k4, k5⟩ := blk_cells2 HX0.out
        go_wp2_with fail
        refine (same_yes wd a7 a xs.length p7 cap xs.length xs _ HL.out.r7 (HR.out.below HB.out)).mono ?_
        rintro e w2 ⟨rfl, hB⟩
        have HL := Lib.hid (HL.out.below hB)
        have HM := Lib.hid (HM.out.below hB)
        have HX0 := Lib.hid ((hB.block _ (Array.getElem?_eq_some_iff.1 HX0.out).1).trans HX0.out)
        have HB := Lib.hid (join HB.out hB)
        clear hB k0 k1 k2 k3 k4 k5
        obtain ⟨⟨k0, k1⟩, k2, k3⟩ := HL.out.cs
        obtain ⟨k4, k5⟩ := blk_cells2 HX0.out
        go_wp2_with fail
        refine (Like_int (.slice a3 T.length p3) (.slice a2 T.length cap2) T T true (by simp) _ HM.out (HT.out.below HB.out)).mono ?_
        rintro e w2 ⟨rfl, hB⟩
        have HL := Lib.hid (HL.out.below hB)
        have HM := Lib.hid (HM.out.below hB)
        have HX0 := Lib.hid ((hB.block _ (Array.getElem?_eq_some_iff.1 HX0.out).1).trans HX0.out)
        have HB := Lib.hid (join HB.out hB)
        clear hB k0 k1 k2 k3 k4 k5
        go_wp2_with fail
        refine (awake_any _).mono ?_
        rintro e w10 ⟨rfl, hB10⟩
        have HB := Lib.hid (join HB.out hB10)
        clear hB10
        go_wp2
        go_ret
        exact ⟨rfl, HB.out⟩
end Go.Proofs.Ytimedmkpenbmkaa
