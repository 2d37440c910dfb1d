import Derived.Test.YtimedmkpenbmkaaRn
namespace Go.Proofs.Ytimedmkpenbmkaa
open Go.RowKit Go.Shelf
set_option linter.unusedSimpArgs false
set_option linter.unusedVariables false

/-- what holds in the reference's Holds -/
structure RhI (t : Hr.Town) (b o cap : Nat) (w : World) (tb oo : Nat) (T : List Int) (W : World) : Prop where
  box : W.heap[w.heap.size]? = some (.cells #[.int .i64 t.wide, .slice (some ⟨b, o, none⟩) t.plots.length cap] 33 (0, 0))
  ints : Ints W b o t.plots
  tab : Ints W tb oo T
  bel : Below w.heap.size w W
theorem RhI.below {t : Hr.Town} {b o cap : Nat} {w : World} {tb oo : Nat} {T : List Int} {W W' : World} (h : RhI t b o cap w tb oo T W) (hB : Below W.heap.size W W') : RhI t b o cap w tb oo T W' :=
  ⟨(hB.block _ (Array.getElem?_eq_some_iff.1 h.box).1).trans h.box, h.ints.below hB h.ints.1, h.tab.below hB h.tab.1, join h.bel hB⟩
theorem RhI.drewN {t : Hr.Town} {b o cap : Nat} {w : World} {tb oo : Nat} {T : List Int} {W : World} (h : RhI t b o cap w tb oo T W) (n : Nat) : RhI t b o cap w tb oo T (W.drewN n) :=
  ⟨h.box, ⟨h.ints.1, h.ints.2⟩, ⟨h.tab.1, h.tab.2⟩, below_drewN' h.bel n⟩
theorem RhI.cs {t : Hr.Town} {b o cap : Nat} {w : World} {tb oo : Nat} {T : List Int} {W : World} (h : RhI t b o cap w tb oo T W) :
    W.cell? ⟨w.heap.size, 0, none⟩ = some (.int .i64 t.wide) ∧ W.cell? ⟨w.heap.size, 1, none⟩ = some (.slice (some ⟨b, o, none⟩) t.plots.length cap) := blk_cells2 h.box
theorem stand_call (t : Hr.Town) (wind : Int) (s : Nat) (h30 : t.len ≤ 30) (he : needsErr t.wide t.plots wind s = 0) (b o cap : Nat) (w : World) (hI : Ints w b o t.plots) (W : World) (hB : Below w.heap.size w W) :
    Calls Try.prog 92 #[.agg #[.int .i64 t.wide, .slice (some ⟨b, o, none⟩) t.plots.length cap], .int .i64 wind, .int .i64 s] W fun e w' => e = .returned (.int .i64 0) ∧ Below W.heap.size W w' := by
  have := refStand_any t.wide (some ⟨b, o, none⟩) cap t.plots wind s (by have : t.plots.length = t.len := rfl; omega) W (RdI.mk' (hI.below hB hI.1) (by have : t.plots.length = t.len := rfl; omega))
  rwa [standE_eq, he] at this
theorem above_call (t : Hr.Town) (ok : t.Ok) (wind : Int) (T : List Int) (hF : ∀ i, i < t.len → -9223372036854775808 ≤ T.getD i 0 ∧ T.getD i 0 ≤ 9223372036854775807) (p q : Nat) (hp : p < t.len) (hq : q < t.len) (c : Bool) (hc : decide (T.getD p 0 + Hr.stepI t wind p q < T.getD q 0) = c) (W : World) :
    Calls Try.prog 95 #[.int .i64 (T.getD q 0), .int .i64 (T.getD p 0), .int .i64 (Hr.stepI t wind p q)] W fun e w' => e = .returned (.bool c) ∧ W = w' := by
  subst hc
  obtain ⟨n0, n5⟩ := Hr.stepI_nn ok (wind := wind) hp hq
  obtain ⟨n, hn⟩ : ∃ n : Nat, Hr.stepI t wind p q = n := ⟨(Hr.stepI t wind p q).toNat, by omega⟩
  rw [hn]
  exact above_any _ _ n (by omega) (hF q hq).2 (hF p hp).1 (hF p hp).2 W

set_option maxHeartbeats 2000000 in
set_option maxRecDepth 100000 in
theorem refHolds_loop (t : Hr.Town) (ok : t.Ok) (wind : Int) (s : Nat) (hs : s < t.len) (he : needsErr t.wide t.plots wind s = 0) (b o cap tb oo cap2 : Nat) (T : List Int) (hT : T.length = t.len) (hF : ∀ i, i < t.len → -9223372036854775808 ≤ T.getD i 0 ∧ T.getD i 0 ≤ 9223372036854775807) (h0 : T.getD s 0 = 0) (w : World) (hI : Ints w b o t.plots) (hI2 : Ints w tb oo T) :
    Calls Try.prog 33 #[.agg #[.int .i64 t.wide, .slice (some ⟨b, o, none⟩) t.plots.length cap], .int .i64 wind, .int .i64 s, .slice (some ⟨tb, oo, none⟩) t.plots.length cap2] w fun e w' => e = .returned (.tuple #[.bool (agreesAll t wind T), .int .i64 0]) ∧ Below w.heap.size w w' := by
  have h30 := ok.n30
  have HB := Lib.hid (below1 w (.cells #[.int .i64 t.wide, .slice (some ⟨b, o, none⟩) t.plots.length cap] 33))
  have hH : RhI t b o cap w tb oo T (w.alloc (.cells #[.int .i64 t.wide, .slice (some ⟨b, o, none⟩) t.plots.length cap] 33)) := ⟨heap_alloc_last _ _, hI.below HB.out hI.1, hI2.below HB.out hI2.1, HB.out⟩
  have HH := Lib.hid hH
  have HSD := Lib.hid (stand_call t wind s h30 he b o cap w hI)
  have HIF := Lib.hid (agrees_iff t ok wind T hF)
  have HF := Lib.hid hF
  have hlen : (t.plots.length : Int) = t.len := rfl
  have HT := Lib.hid hT
  have H0 := Lib.hid h0
  obtain ⟨ag, hag⟩ : ∃ ag, ag = agreesAll t wind T := ⟨_, rfl⟩
  rw [← hag]
  have HAG := Lib.hid hag
  clear hI hI2 he hF hH hT h0 hlen hag
  go_enter Try.func33, Try.ntmps33
  go_wp2_with fail
  refine (HSD.out _ HB.out).mono ?_
  rintro e w1 ⟨rfl, hB⟩
  have hH1 := HH.out.below hB
  obtain ⟨k0, k1⟩ := hH1.cs
  have hcs := hH1.tab.2 s (by rw [HT.out]; exact hs)
  rw [H0.out] at hcs
  have hs' : (s : Int) < t.plots.length := by have : t.plots.length = t.len := rfl; omega
  have HH1 := Lib.hid hH1
  clear hB HB HH HSD hH1
  go_wp2
  clear k0 k1 hcs
  go_loopw [11] (fun i wi => ∃ k : Nat, k ≤ t.len ∧ i = .int .i64 k ∧ RhI t b o cap w tb oo T wi ∧ (∀ p q, p < k → q < t.len → ¬ badStep t wind T p q)) (fun i _ => t.len - (intOf i).toNat)
  case atStart => exact ⟨0, Nat.zero_le _, rfl, HH1.out, fun p q hp => absurd hp (by omega)⟩
  case round =>
    obtain ⟨k, hk, rfl, hN1, hno1⟩ := hrel
    have HN1 := Lib.hid hN1
    have HNO1 := Lib.hid hno1
    obtain ⟨wk, rfl⟩ : ∃ wk : World, wk = wr := ⟨_, rfl⟩
    clear hN1 hno1 HH1
    have hpl : (t.plots.length : Int) = (t.len : Nat) := rfl
    have HPL := Lib.hid hpl
    by_cases hlt : k < t.len
    · have hkl : (k : Int) < t.plots.length := by omega
      clear hpl
      go_wp2
      go_loopw [12] (fun i wi => ∃ q : Nat, q ≤ t.len ∧ i = .int .i64 q ∧ RhI t b o cap w tb oo T wi ∧ (∀ q', q' < q → ¬ badStep t wind T k q')) (fun i _ => t.len - (intOf i).toNat)
      case atStart => exact ⟨0, Nat.zero_le _, rfl, HN1.out, fun q hq => absurd hq (by omega)⟩
      case round =>
        obtain ⟨q, hq, rfl, hN2, hno2⟩ := hrel
        obtain ⟨wq, rfl⟩ : ∃ wq : World, wq = wr := ⟨_, rfl⟩
        by_cases hlq : q < t.len
        · have hST := refStep_any t ok wind k q b o cap wq hN2.ints
          rw [stepZ_in t wind hlt hlq] at hST
          have hss := Hr.stepI_nn ok (wind := wind) hlt hlq
          have ck := fun (W : World) (hB : Below wq.heap.size wq W) => (hN2.below hB).tab.2 k (by rw [HT.out]; exact hlt)
          have cq := fun (W : World) (hB : Below wq.heap.size wq W) => (hN2.below hB).tab.2 q (by rw [HT.out]; exact hlq)
          obtain ⟨k0, k1⟩ := hN2.cs
          have hAB := fun c hc => above_call t ok wind T HF.out k q hlt hlq c hc
          have hbad : badStep t wind T k q ↔ 0 < Hr.stepI t wind k q ∧ T.getD k 0 + Hr.stepI t wind k q < T.getD q 0 := Iff.rfl
          generalize hn : Hr.stepI t wind k q = n at hST hss hAB hbad
          generalize htk : T.getD k 0 = tk at ck hAB hbad
          generalize htq : T.getD q 0 = tq at cq hAB hbad
          have HST := Lib.hid hST
          have HAB := Lib.hid hAB
          have HBAD := Lib.hid hbad
          have HN2 := Lib.hid hN2
          have HNO2 := Lib.hid hno2
          have HCK := Lib.hid ck
          have HCQ := Lib.hid cq
          have hlq' : (q : Int) < t.plots.length := by have := HPL.out; omega
          obtain ⟨n0, n5⟩ := hss
          clear hST hAB hbad hN2 hno2 ck cq hn htk htq
          go_wp2_with fail
          refine HST.out.mono ?_
          rintro e w5 ⟨rfl, hB5⟩
          have ck := HCK.out _ hB5
          have cq := HCQ.out _ hB5
          have HN5 := Lib.hid (HN2.out.below hB5)
          clear hB5 k0 k1 HCK HCQ HN2 HST
          by_cases g1 : 0 < n
          · have d1 : decide (n > 0) = true := by simpa using g1
            by_cases g2 : tk + n < tq
            · have HAB := Lib.hid (HAB.out true (by simpa using g2))
              have hr : agreesAll t wind T = false := by
                cases he : agreesAll t wind T with
                | false => rfl
                | true => exact absurd (HBAD.out.2 ⟨g1, g2⟩) (HIF.out.1 he k q hlt hlq)
              have hr' : ag = false := by rw [HAG.out, hr]
              have HRF := Lib.hid hr'
              clear hr hr'
              go_wp2
              go_quiet ((go_at_call 95; exact Calls.quiet_of_same ((HAB.out _).mono fun _ _ ⟨he, hw⟩ => ⟨he, hw.symm⟩)))
              go_wp2
              go_ret2
              exact ⟨by rw [HRF.out]; rfl, below_drewN' HN5.out.bel _⟩
            · have HAB := Lib.hid (HAB.out false (by simpa using g2))
              have HNB : Hid (¬ badStep t wind T k q) := Lib.hid (fun h => g2 (HBAD.out.1 h).2)
              go_wp2
              go_quiet ((go_at_call 95; exact Calls.quiet_of_same ((HAB.out _).mono fun _ _ ⟨he, hw⟩ => ⟨he, hw.symm⟩)))
              go_wp2
              go_roundw
              case rel => exact ⟨q + 1, by omega, by go_num, HN5.out.drewN _, fun q' hq' => by rcases Nat.lt_succ_iff_lt_or_eq.1 hq' with h | rfl; exact HNO2.out q' h; exact HNB.out⟩
              case measure => simp [intOf]; omega
          · have d1 : decide (n > 0) = false := by simp; omega
            have HNB : Hid (¬ badStep t wind T k q) := Lib.hid (fun h => g1 (HBAD.out.1 h).1)
            go_wp2
            go_quiet (fail)
            go_wp2
            go_roundw
            case rel => exact ⟨q + 1, by omega, by go_num, HN5.out.drewN _, fun q' hq' => by rcases Nat.lt_succ_iff_lt_or_eq.1 hq' with h | rfl; exact HNO2.out q' h; exact HNB.out⟩
            case measure => simp [intOf]; omega
        · obtain rfl : q = t.len := by omega
          have HN2 := Lib.hid hN2
          have HNO2 := Lib.hid hno2
          clear hN2 hno2
          have hge : ¬ ((t.len : Int) < (t.plots.length : Int)) := by have := HPL.out; omega
          go_wp2
          go_roundw
          case rel => exact ⟨k + 1, by omega, by go_num, HN2.out, fun p q' hp hq' => by rcases Nat.lt_succ_iff_lt_or_eq.1 hp with h | rfl; exact HNO1.out p q' h hq'; exact HNO2.out q' hq'⟩
          case measure => simp [intOf]; omega
    · obtain rfl : k = t.len := by omega
      have hr : agreesAll t wind T = true := HIF.out.2 HNO1.out
      have hr' : ag = true := by rw [HAG.out, hr]
      have HRF := Lib.hid hr'
      clear hr hr' hpl
      go_wp2
      go_ret2
      exact ⟨by rw [HRF.out]; rfl, HN1.out.bel⟩

set_option maxHeartbeats 2000000 in
set_option maxRecDepth 100000 in
theorem refHolds_any (wd wind p : Int) (a a2 : Option Addr) (cap cap2 : Nat) (xs T : List Int) (hl : xs.length ≤ 1000000) (hl2 : T.length ≤ 1000000) (hF : ∀ i, i < T.length → -9223372036854775808 ≤ T.getD i 0 ∧ T.getD i 0 ≤ 9223372036854775807) (w : World) (hR : RdI w (.slice a xs.length cap) xs) (hT : RdI w (.slice a2 T.length cap2) T) :
    Calls Try.prog 33 #[.agg #[.int .i64 wd, .slice a xs.length cap], .int .i64 wind, .int .i64 p, .slice a2 T.length cap2] w fun e w' => e = .returned (.tuple #[.bool (holdsV wd xs wind p T), .int .i64 (holdsE wd xs wind p T)]) ∧ Below w.heap.size w w' := by
  have HB := Lib.hid (below1 w (.cells #[.int .i64 wd, .slice a xs.length cap] 33))
  by_cases h : needsErr wd xs wind p = 0
  · obtain ⟨h1, h2, h3⟩ := needs_ok0 h
    have h30 := (check_len h1).1
    have hne : xs ≠ [] := by rintro rfl; have := (check_len h1).2; simp at this
    obtain ⟨b, o, rfl, _, hI⟩ := rd_ints hR hne
    obtain ⟨t, -, hw, hx, ok⟩ := town_name h1
    subst hw hx
    obtain ⟨s, rfl, hs, _⟩ := plot_ok h3
    have HSD := Lib.hid (stand_call t wind s h30 h b o cap w hI)
    have hx : (w.alloc (.cells #[.int .i64 t.wide, .slice (some ⟨b, o, none⟩) t.plots.length cap] 33)).heap[w.heap.size]? = some (.cells #[.int .i64 t.wide, .slice (some ⟨b, o, none⟩) t.plots.length cap] 33 (0, 0)) := heap_alloc_last _ _
    have HX := Lib.hid hx
    by_cases hc : T.length = t.plots.length
    · have e1 : holdsE t.wide t.plots wind s T = 0 := by unfold holdsE; rw [if_neg (by rw [h]; simp), if_neg (by simpa using hc)]
      have hTne : T ≠ [] := by rintro rfl; exact hne (List.length_eq_zero_iff.1 hc.symm)
      obtain ⟨tb, oo, rfl, _, hI2⟩ := rd_ints hT hTne
      by_cases h0 : T.getD s 0 = 0
      · rw [hc]
        refine (refHolds_loop t ok wind s hs h b o cap tb oo cap2 T hc (fun i hi => hF i (by rw [hc]; exact hi)) h0 w hI hI2).mono ?_
        rintro e w' ⟨rfl, hB⟩
        refine ⟨?_, hB⟩
        unfold holdsV
        rw [e1, townOf_self, Int.toNat_natCast, h0]
        simp
      · have e2 : holdsV t.wide t.plots wind s T = false := by unfold holdsV; rw [Int.toNat_natCast, decide_eq_false h0]; simp
        rw [e1, e2]
        have hcT := fun (W : World) (hB : Below w.heap.size w W) => (hI2.below hB hI2.1).2 s (by rw [hc]; exact hs)
        generalize T.getD s 0 = x at h0 hcT
        have HCT := Lib.hid hcT
        have h0' : (x != 0) = true := by simpa using h0
        have hs' : (s : Int) < t.plots.length := by have : t.plots.length = t.len := rfl; omega
        have hs2 : (s : Int) < T.length := by omega
        have hcc : ((T.length : Int) != (t.plots.length : Int)) = false := by rw [hc]; simp
        have HC := Lib.hid hc
        clear hcT h0 hI hI2 hR hT h1 h2 h3 e1 e2 h hx hc hF
        go_enter Try.func33, Try.ntmps33
        go_wp2_with fail
        refine (HSD.out _ HB.out).mono ?_
        rintro e w1 ⟨rfl, hB⟩
        have HB1 := Lib.hid (join HB.out hB)
        have hx1 := (hB.block w.heap.size (by simp)).trans HX.out
        obtain ⟨k0, k1⟩ := blk_cells2 hx1
        have hct := HCT.out _ HB1.out
        clear hB HB HX HSD hx1 HCT
        go_wp2
        go_ret2
        exact ⟨rfl, HB1.out⟩
    · have e1 : holdsE t.wide t.plots wind s T = 2 := by unfold holdsE; rw [if_neg (by rw [h]; simp), if_pos hc]
      have e2 : holdsV t.wide t.plots wind s T = false := by unfold holdsV; rw [e1]; simp
      rw [e1, e2]
      have hcc : ((T.length : Int) != (t.plots.length : Int)) = true := by simp; omega
      clear hI hR hT h1 h2 h3 e1 e2 h hx hc hF
      go_enter Try.func33, Try.ntmps33
      go_wp2_with fail
      refine (HSD.out _ HB.out).mono ?_
      rintro e w1 ⟨rfl, hB⟩
      have HB1 := Lib.hid (join HB.out hB)
      have hx1 := (hB.block w.heap.size (by simp)).trans HX.out
      obtain ⟨k0, k1⟩ := blk_cells2 hx1
      clear hB HB HX HSD hx1
      go_wp2
      go_ret2
      exact ⟨rfl, HB1.out⟩
  · have e1 : holdsE wd xs wind p T = needsErr wd xs wind p := by unfold holdsE; rw [if_pos h]
    have e2 : holdsV wd xs wind p T = false := by unfold holdsV; rw [e1]; simp [h]
    rw [e1, e2]
    have HSD := Lib.hid (refStand_any wd a cap xs wind p hl _ (hR.below HB.out))
    rw [standE_eq] at HSD
    clear e1 e2 hF hT hR
    generalize needsErr wd xs wind p = E at h HSD ⊢
    have h1 : (E != 0) = true := by simpa using h
    clear h
    go_enter Try.func33, Try.ntmps33
    go_wp2_with fail
    refine HSD.out.mono ?_
    rintro e w1 ⟨rfl, hB⟩
    have HB1 := Lib.hid (join HB.out hB)
    clear hB HB HSD
    go_wp2
    go_ret2
    exact ⟨rfl, HB1.out⟩

set_option maxHeartbeats 2000000 in
set_option maxRecDepth 100000 in
theorem refNeed_any (wd wind p q : Int) (a : Option Addr) (cap : Nat) (xs : List Int) (hl : xs.length ≤ 1000000) (w : World) (hR : RdI w (.slice a xs.length cap) xs) :
    Calls Try.prog 29 #[.agg #[.int .i64 wd, .slice a xs.length cap], .int .i64 wind, .int .i64 p, .int .i64 q] w fun e w' => e = .returned (.tuple #[.int .i64 (needV wd xs wind p q), .int .i64 (needE wd xs wind p q)]) ∧ Below w.heap.size w w' := by
  have HB := Lib.hid (below1 w (.cells #[.int .i64 wd, .slice a xs.length cap] 33))
  have hx : (w.alloc (.cells #[.int .i64 wd, .slice a xs.length cap] 33)).heap[w.heap.size]? = some (.cells #[.int .i64 wd, .slice a xs.length cap] 33 (0, 0)) := heap_alloc_last _ _
  have HX := Lib.hid hx
  have HN := Lib.hid (refNeeds_any wd wind p a cap xs hl _ (hR.below HB.out))
  by_cases h : needsErr wd xs wind p = 0
  · obtain ⟨h1, h2, h3⟩ := needs_ok0 h
    obtain ⟨t, -, hw, hx', ok⟩ := town_name h1
    subst hw hx'
    obtain ⟨s, rfl, hs, _⟩ := plot_ok h3
    have e1 : needE t.wide t.plots wind s q = reachErr (t.needs wind s) q := by unfold needE; rw [if_neg (by rw [h]; simp), needsL_ok t h]
    have e2 : needV t.wide t.plots wind s q = if reachErr (t.needs wind s) q = 0 then (t.needs wind s).getD q.toNat 0 else 0 := by unfold needV; rw [e1, needsL_ok t h]
    rw [needsL_ok t h, h] at HN
    have hnl := needs_len ok wind hs
    have hbd : ∀ i, i < t.len → -1 ≤ (t.needs wind s).getD i 0 := fun i hi => by have := (Hr.needs_fix ok wind hs).inv.nn i hi; omega
    rw [e1, e2]
    generalize t.needs wind s = T at hnl hbd HN ⊢
    have hTne : T ≠ [] := by rintro rfl; have := ok.n1; simp at hnl; omega
    have hpl : (t.plots.length : Int) = T.length := by rw [hnl]; rfl
    have n1 : 1 ≤ T.length := by have := ok.n1; omega
    have n30 : T.length ≤ 30 := by have := ok.n30; omega
    by_cases g1 : q < 0 ∨ (T.length : Int) ≤ q
    · have hr : reachErr T q = 1 := by unfold reachErr; rw [if_pos g1]
      rw [hr, if_neg (by decide)]
      have HO := Lib.hid (fun W => off_any q 0 ((t.plots.length : Int) - 1) W true (offB_yes (by omega)))
      have hl1 : 1 ≤ t.plots.length := by omega
      have hl30 : t.plots.length ≤ 30 := by omega
      clear hr g1 e1 e2 h1 h2 h3 h hR hx hpl hbd hnl
      go_enter Try.func29, Try.ntmps29
      go_wp2_with fail
      refine HN.out.mono ?_
      rintro e w1 ⟨v, rfl, ho, hB⟩
      have HB1 := Lib.hid (join HB.out hB)
      obtain ⟨k0, k1⟩ := blk_cells2 ((hB.block w.heap.size (by simp)).trans HX.out)
      clear ho hB HB HX HN
      go_wp2_with fail
      refine (HO.out _).mono ?_
      rintro e w' ⟨rfl, rfl⟩
      go_wp2
      go_ret2
      exact ⟨rfl, HB1.out⟩
    · obtain ⟨j, rfl⟩ : ∃ j : Nat, q = j := ⟨q.toNat, by omega⟩
      have hj : j < T.length := by omega
      have hj' : (j : Int) < T.length := by omega
      have HO := Lib.hid (fun W => off_any j 0 ((t.plots.length : Int) - 1) W false (offB_no (by omega) (by omega)))
      have hl1 : 1 ≤ t.plots.length := by omega
      have hl30 : t.plots.length ≤ 30 := by omega
      have hbj := hbd j (by omega)
      have hr : reachErr T j = if T.getD j 0 = -1 then 6 else 0 := by unfold reachErr; rw [if_neg g1]; simp
      rw [hr, Int.toNat_natCast]
      have hcell : ∀ W : World, ∀ v, W.ownsRow (w.alloc (.cells #[.int .i64 t.wide, .slice a t.plots.length cap] 33)).heap.size 3 1 v T.length (T.map (Value.int .i64)) → ∃ g k, v = .slice (some ⟨g, 0, none⟩) T.length k ∧ W.cell? ⟨g, j, none⟩ = some (.int .i64 (T.getD j 0)) := fun W v ho => by
        obtain ⟨g, k, e, _, hI, _⟩ := own_ints rfl ho hTne
        exact ⟨g, k, e, by have := hI.2 j hj; rwa [Nat.zero_add] at this⟩
      have HCELL := Lib.hid hcell
      generalize T.getD j 0 = x at hbj HCELL ⊢
      clear hr g1 e1 e2 h1 h2 h3 h hR hx hpl hbd hnl hcell
      by_cases g2 : x < 0
      · have hx1 : x = -1 := by omega
        subst hx1
        rw [if_pos rfl, if_neg (by decide)]
        go_enter Try.func29, Try.ntmps29
        go_wp2_with fail
        refine HN.out.mono ?_
        rintro e w1 ⟨v, rfl, ho, hB⟩
        have HB1 := Lib.hid (join HB.out hB)
        obtain ⟨k0, k1⟩ := blk_cells2 ((hB.block w.heap.size (by simp)).trans HX.out)
        obtain ⟨g, k, rfl, hc⟩ := HCELL.out _ _ ho
        clear ho hB HB HX HN HCELL
        go_wp2_with fail
        refine (HO.out _).mono ?_
        rintro e w' ⟨rfl, rfl⟩
        go_wp2
        go_ret2
        exact ⟨rfl, HB1.out⟩
      · have hx1 : x ≠ -1 := by omega
        rw [if_neg hx1, if_pos rfl]
        have d2 : decide (x < 0) = false := by simp; omega
        clear hx1
        go_enter Try.func29, Try.ntmps29
        go_wp2_with fail
        refine HN.out.mono ?_
        rintro e w1 ⟨v, rfl, ho, hB⟩
        have HB1 := Lib.hid (join HB.out hB)
        obtain ⟨k0, k1⟩ := blk_cells2 ((hB.block w.heap.size (by simp)).trans HX.out)
        obtain ⟨g, k, rfl, hc⟩ := HCELL.out _ _ ho
        clear ho hB HB HX HN HCELL
        go_wp2_with fail
        refine (HO.out _).mono ?_
        rintro e w' ⟨rfl, rfl⟩
        go_wp2
        go_ret2
        exact ⟨rfl, HB1.out⟩
  · have e1 : needE wd xs wind p q = needsErr wd xs wind p := by unfold needE; rw [if_pos h]
    have e2 : needV wd xs wind p q = 0 := by unfold needV; rw [e1, if_neg h]
    rw [e1, e2]
    clear e1 e2 hR hx
    generalize needsErr wd xs wind p = E at h HN ⊢
    have h1 : (E != 0) = true := by simpa using h
    clear h
    go_enter Try.func29, Try.ntmps29
    go_wp2_with fail
    refine HN.out.mono ?_
    rintro e w1 ⟨v, rfl, _, hB⟩
    have HB1 := Lib.hid (join HB.out hB)
    clear hB HB HN HX
    go_wp2
    go_ret2
    exact ⟨rfl, HB1.out⟩
end Go.Proofs.Ytimedmkpenbmkaa
