import Derived.Test.YtimedmkpenbmkaaUn
namespace Go.Proofs.Ytimedmkpenbmkaa
open Go.RowKit Go.Shelf
set_option linter.unusedSimpArgs false
set_option linter.unusedVariables false

/-- what holds in the reference's Needs -/
structure RnI (t : Hr.Town) (b o cap : Nat) (w : World) (tb : Nat) (T : List Int) (W : World) : Prop where
  tab : TabAt W tb T
  box : W.heap[w.heap.size]? = some (.cells #[.int .i64 t.wide, .slice (some ⟨b, o, none⟩) t.plots.length cap] 33 (0, 0))
  ints : Ints W b o t.plots
  bel : Below w.heap.size w W
  lt : w.heap.size < tb
  blt : b < w.heap.size
theorem RnI.below {t : Hr.Town} {b o cap : Nat} {w : World} {tb : Nat} {T : List Int} {W W' : World} (h : RnI t b o cap w tb T W) (hB : Below W.heap.size W W') : RnI t b o cap w tb T W' :=
  ⟨h.tab.below hB h.tab.lt, (hB.block _ (Array.getElem?_eq_some_iff.1 h.box).1).trans h.box, h.ints.below hB h.ints.1, join h.bel hB, h.lt, h.blt⟩
theorem RnI.drewN {t : Hr.Town} {b o cap : Nat} {w : World} {tb : Nat} {T : List Int} {W : World} (h : RnI t b o cap w tb T W) (n : Nat) : RnI t b o cap w tb T (W.drewN n) :=
  ⟨h.tab, h.box, ⟨h.ints.1, h.ints.2⟩, below_drewN' h.bel n, h.lt, h.blt⟩
theorem RnI.set {t : Hr.Town} {b o cap : Nat} {w : World} {tb : Nat} {T : List Int} {W : World} (h : RnI t b o cap w tb T W) {i : Nat} (hi : i < T.length) (x : Int) : RnI t b o cap w tb (T.set i x) (W.setCell ⟨tb, i, none⟩ (.int .i64 x)) := by
  have hlt := h.lt
  refine ⟨h.tab.set hi x, (Below.heap_setCell _ _ _ _ (show w.heap.size ≠ tb by omega)).trans h.box, ?_, setc h.bel (show w.heap.size ≤ tb by omega), h.lt, h.blt⟩
  have hh : Below tb W (W.setCell ⟨tb, i, none⟩ (.int .i64 x)) := (Below.refl tb W).setCell (p := ⟨tb, i, none⟩) (Nat.le_refl tb) _
  exact h.ints.below hh (by have := h.blt; omega)
theorem RnI.cs {t : Hr.Town} {b o cap : Nat} {w : World} {tb : Nat} {T : List Int} {W : World} (h : RnI t b o cap w tb T W) :
    W.cell? ⟨w.heap.size, 0, none⟩ = some (.int .i64 t.wide) ∧ W.cell? ⟨w.heap.size, 1, none⟩ = some (.slice (some ⟨b, o, none⟩) t.plots.length cap) := blk_cells2 h.box
theorem stepZ_in (t : Hr.Town) (wind : Int) {p q : Nat} (hp : p < t.len) (hq : q < t.len) : stepZ t wind p q = Hr.stepI t wind p q := by
  unfold stepZ; rw [if_neg (by omega)]; simp

set_option maxHeartbeats 2000000 in
set_option maxRecDepth 100000 in
theorem refNeeds_yes (t : Hr.Town) (ok : t.Ok) (wind : Int) (s : Nat) (hs : s < t.len) (he : needsErr t.wide t.plots wind s = 0) (b o cap : Nat) (w : World) (hI : Ints w b o t.plots) :
    Calls Try.prog 31 #[.agg #[.int .i64 t.wide, .slice (some ⟨b, o, none⟩) t.plots.length cap], .int .i64 wind, .int .i64 s] w fun e w' => ∃ tb, e = .returned (.tuple #[.slice (some ⟨tb, 0, none⟩) t.len t.len, .int .i64 0]) ∧ TabAt w' tb (t.needs wind s) ∧ w.heap.size ≤ tb ∧ Below w.heap.size w w' := by
  have h30 := ok.n30
  have hmk := make31 t.len (by omega)
  have hmk' : ∀ W, (Instr.makeSlice 31 (.int .i64 (t.plots.length : Int)) (.int .i64 (t.plots.length : Int))).run Try.prog W = .ok (.slice (some ⟨W.heap.size, 0, none⟩) t.len t.len) (W.alloc (tabObj (List.replicate t.len 0))) := hmk
  have HB := Lib.hid (below1 w (.cells #[.int .i64 t.wide, .slice (some ⟨b, o, none⟩) t.plots.length cap] 33))
  have HI := Lib.hid hI
  have hx : (w.alloc (.cells #[.int .i64 t.wide, .slice (some ⟨b, o, none⟩) t.plots.length cap] 33)).heap[w.heap.size]? = some (.cells #[.int .i64 t.wide, .slice (some ⟨b, o, none⟩) t.plots.length cap] 33 (0, 0)) := heap_alloc_last _ _
  have HX := Lib.hid hx
  have HSD := Lib.hid (fun W (hB : Below w.heap.size w W) => refStand_any t.wide (some ⟨b, o, none⟩) cap t.plots wind s (by have : t.plots.length = t.len := rfl; omega) W (RdI.mk' (hI.below hB hI.1) (by have : t.plots.length = t.len := rfl; omega)))
  rw [standE_eq, he] at HSD
  clear hI hx hmk he
  go_enter Try.func31, Try.ntmps31
  go_wp2_with fail
  refine (HSD.out _ HB.out).mono ?_
  rintro e w1 ⟨rfl, hB⟩
  have HB1 := Lib.hid (join HB.out hB)
  have hb1 := (hB.block w.heap.size (by simp)).trans HX.out
  have HX1 := Lib.hid hb1
  obtain ⟨k0, k1⟩ := blk_cells2 hb1
  clear hB HB HX HSD hb1
  go_wp2
  have hN0 : RnI t b o cap w w1.heap.size (List.replicate t.len 0) (w1.alloc (tabObj (List.replicate t.len 0))) := by
    have hlt : w.heap.size < w1.heap.size := (Array.getElem?_eq_some_iff.1 HX1.out).1
    exact ⟨heap_alloc_last _ _, (Below.heap_alloc _ _ _ hlt).trans HX1.out, HI.out.below (al HB1.out _) HI.out.1, al HB1.out _, hlt, HI.out.1⟩
  generalize hTB : w1.heap.size = tb at hN0 ⊢
  generalize hW2 : w1.alloc (tabObj (List.replicate t.len 0)) = W2 at hN0 ⊢
  clear hW2 hTB hmk' k0 k1 HB1 HX1 HI
  go_loopw [10] (fun i wr => ∃ k : Nat, k ≤ t.len ∧ i = .int .i64 k ∧ RnI t b o cap w tb (List.replicate k (-1) ++ List.replicate (t.len - k) 0) wr) (fun i _ => t.len - (intOf i).toNat)
  case atStart => exact ⟨0, Nat.zero_le _, rfl, by simpa using hN0⟩
  case round =>
    obtain ⟨k, hk, rfl, hN⟩ := hrel
    clear hN0
    by_cases hlt : k < t.len
    · have hkl : k < (List.replicate k (-1 : Int) ++ List.replicate (t.len - k) 0).length := by simp; omega
      have hc := hN.tab.cell hkl
      have hf := hN.tab.free k
      have hset := hN.set hkl (-1)
      rw [fill_step _ _ hlt] at hset
      have HS := Lib.hid hset
      generalize (List.replicate k (-1 : Int) ++ List.replicate (t.len - k) 0).getD k 0 = x0 at hc
      clear hN hset
      go_wp2
      go_roundw
      case rel => exact ⟨k + 1, by omega, by go_num, HS.out⟩
      case measure => simp [intOf]; omega
    · obtain rfl : k = t.len := by omega
      rw [Nat.sub_self, List.replicate_zero, List.append_nil] at hN
      have hsl : s < (List.replicate t.len (-1 : Int)).length := by simpa using hs
      have hc := hN.tab.cell hsl
      have hf := hN.tab.free s
      have hN3 : RnI t b o cap w tb (t.start s) (wr.setCell ⟨tb, s, none⟩ (.int .i64 0)) := hN.set hsl 0
      have HN3 := Lib.hid hN3
      have hs' : (s : Int) < t.len := by omega
      generalize (List.replicate t.len (-1 : Int)).getD s 0 = x0 at hc
      have HST := Lib.hid (Hr.RN.start (wind := wind) ok hs)
      clear hN hN3 hsl
      go_wp2
      generalize wr.setCell ⟨tb, s, none⟩ (.int .i64 0) = W3 at HN3 ⊢
      clear hc hf
      go_loopg [11] 5000 (fun g lw wo => ∃ (T : List Int) (bl : Bool), lw = .bool bl ∧ Hr.RN t wind s T T false 0 0 ∧ RnI t b o cap w tb T wo ∧ (bl = true → Hr.mu T < (g : Int)) ∧ (bl = false → t.Fix wind s T))
      case atStart => exact ⟨t.start s, true, rfl, HST.out, HN3.out, fun _ => by have := HST.out.inv.mu_le ok; omega, (fun h => by cases h)⟩
      case round =>
        obtain ⟨T, bl, rfl, hRN, hNd, hgo, hend⟩ := hrel
        clear HST HN3
        cases bl with
        | false =>
          have HE := Lib.hid (hend rfl)
          have HND := Lib.hid hNd
          clear hgo hend hNd hRN
          go_wp2
          go_ret2
          exact ⟨tb, rfl, by rw [← HE.out.uniq ok hs (Hr.needs_fix ok wind hs)]; exact HND.out.tab, Nat.le_of_lt HND.out.lt, HND.out.bel⟩
        | true =>
          have hmu := hgo rfl
          have hmu0 := (hRN.inv.mu_le ok).1
          obtain ⟨m, rfl⟩ : ∃ m, gk = m + 1 := ⟨gk - 1, by omega⟩
          have HMU := Lib.hid hmu
          have HRN := Lib.hid hRN
          have HND := Lib.hid hNd
          obtain ⟨wo, rfl⟩ : ∃ wo : World, wo = wr := ⟨_, rfl⟩
          clear hgo hend hRN hNd hmu hlt
          have hmu1 : True := trivial
          go_wp2
          go_loopw [11, 12] (fun ch i wi => ∃ (k : Nat) (T1 : List Int) (c1 : Bool), k ≤ t.len ∧ i = .int .i64 k ∧ ch = .bool c1 ∧ Hr.RN t wind s T T1 c1 k 0 ∧ RnI t b o cap w tb T1 wi) (fun _ i _ => t.len - (intOf i).toNat)
          case atStart => exact ⟨0, T, false, Nat.zero_le _, rfl, rfl, HRN.out, HND.out⟩
          case round =>
            obtain ⟨k, T1, c1, hk, rfl, rfl, hR1, hN1⟩ := hrel
            have HR1 := Lib.hid hR1
            have HN1 := Lib.hid hN1
            have hlen1 : T1.length = t.len := hR1.inv.len
            have HL1 := Lib.hid hlen1
            obtain ⟨wk, rfl⟩ : ∃ wk : World, wk = wr := ⟨_, rfl⟩
            clear hR1 hN1 hlen1
            by_cases hlt : k < t.len
            · go_wp2
              go_loopw [11, 13] (fun ch i wi => ∃ (q : Nat) (T2 : List Int) (c2 : Bool), q ≤ t.len ∧ i = .int .i64 q ∧ ch = .bool c2 ∧ Hr.RN t wind s T T2 c2 k q ∧ RnI t b o cap w tb T2 wi) (fun _ i _ => t.len - (intOf i).toNat)
              case atStart => exact ⟨0, T1, c1, Nat.zero_le _, rfl, rfl, HR1.out, HN1.out⟩
              case round =>
                obtain ⟨q, T2, c2, hq, rfl, rfl, hR2, hN2⟩ := hrel
                obtain ⟨wq, rfl⟩ : ∃ wq : World, wq = wr := ⟨_, rfl⟩
                by_cases hlq : q < t.len
                · have hlen2 : T2.length = t.len := hR2.inv.len
                  have hST := refStep_any t ok wind k q b o cap wq hN2.ints
                  rw [stepZ_in t wind hlt hlq] at hST
                  have hss := Hr.stepI_nn ok (wind := wind) hlt hlq
                  have hbk := hR2.bd ok k hlt
                  have hbq := hR2.bd ok q hlq
                  have hkeep := fun hu => hR2.keep (q := q) hu
                  have hset := fun hu => hR2.set ok hlt hlq hu
                  unfold Hr.upd at hkeep hset
                  have ck := fun (W : World) (hB : Below wq.heap.size wq W) => (hN2.below hB).tab.cell (i := k) (by omega)
                  have cq := fun (W : World) (hB : Below wq.heap.size wq W) => (hN2.below hB).tab.cell (i := q) (by omega)
                  obtain ⟨k0, k1⟩ := hN2.cs
                  generalize hn : Hr.stepI t wind k q = n at hST hss hkeep hset
                  generalize htk : T2.getD k 0 = tk at hbk hkeep hset ck
                  generalize htq : T2.getD q 0 = tq at hbq hkeep hset cq
                  have HST := Lib.hid hST
                  have HKEEP := Lib.hid hkeep
                  have HSET := Lib.hid hset
                  have HN2 := Lib.hid hN2
                  have HCK := Lib.hid ck
                  have HCQ := Lib.hid cq
                  have hlq' : (q : Int) < t.len := by omega
                  have hlk' : (k : Int) < t.len := by omega
                  obtain ⟨n0, n5⟩ := hss
                  obtain ⟨tk0, tk1⟩ := hbk
                  obtain ⟨tq0, tq1⟩ := hbq
                  have HL2 := Lib.hid hlen2
                  clear hST hkeep hset hN2 ck cq hR2 hn htk htq hlen2
                  go_wp2_with fail
                  refine HST.out.mono ?_
                  rintro e w5 ⟨rfl, hB5⟩
                  have ck := HCK.out _ hB5
                  have cq := HCQ.out _ hB5
                  have hN5 := HN2.out.below hB5
                  have fq := hN5.tab.free q
                  have HN5 := Lib.hid hN5
                  clear hB5 k0 k1 HCK HCQ HN2 HST hN5
                  have hwr : IntKind.i64.wrap (tk + n) = tk + n := IntWalk.i64_in _ (by omega)
                  by_cases g1 : 0 < n
                  · have d1 : decide (n > 0) = true := by simpa using g1
                    by_cases g2 : 0 ≤ tk
                    · have d2 : decide (tk ≥ 0) = true := by simpa using g2
                      by_cases g3 : tq < 0
                      · have d3 : decide (tq < 0) = true := by simpa using g3
                        have HRS := Lib.hid (HSET.out ⟨g1, g2, .inl g3⟩)
                        have hqt : q < T2.length := by have := HL2.out; omega
                        have HN6 := Lib.hid (HN5.out.set hqt (tk + n))
                        clear HKEEP HSET HL2
                        go_wp2
                        go_quiet (fail)
                        go_wp2
                        go_roundw
                        case rel => exact ⟨q + 1, _, true, by omega, by go_num, rfl, HRS.out, HN6.out.drewN _⟩
                        case measure => simp [intOf]; omega
                      · have d3 : decide (tq < 0) = false := by simp; omega
                        by_cases g4 : tk + n < tq
                        · have d4 : decide (tk + n < tq) = true := by simpa using g4
                          have HRS := Lib.hid (HSET.out ⟨g1, g2, .inr g4⟩)
                          have hqt : q < T2.length := by have := HL2.out; omega
                          have HN6 := Lib.hid (HN5.out.set hqt (tk + n))
                          clear HKEEP HSET HL2
                          go_wp2
                          go_quiet (fail)
                          go_wp2
                          go_roundw
                          case rel => exact ⟨q + 1, _, true, by omega, by go_num, rfl, HRS.out, HN6.out.drewN _⟩
                          case measure => simp [intOf]; omega
                        · have d4 : decide (tk + n < tq) = false := by simp; omega
                          have HRS := Lib.hid (HKEEP.out (by omega))
                          clear HKEEP HSET HL2
                          go_wp2
                          go_quiet (fail)
                          go_wp2
                          go_roundw
                          case rel => exact ⟨q + 1, _, _, by omega, by go_num, rfl, HRS.out, HN5.out.drewN _⟩
                          case measure => simp [intOf]; omega
                    · have d2 : decide (tk ≥ 0) = false := by simp; omega
                      have HRS := Lib.hid (HKEEP.out (by omega))
                      clear HKEEP HSET HL2
                      go_wp2
                      go_quiet (fail)
                      go_wp2
                      go_roundw
                      case rel => exact ⟨q + 1, _, _, by omega, by go_num, rfl, HRS.out, HN5.out.drewN _⟩
                      case measure => simp [intOf]; omega
                  · have d1 : decide (n > 0) = false := by simp; omega
                    have HRS := Lib.hid (HKEEP.out (by omega))
                    clear HKEEP HSET HL2
                    go_wp2
                    go_quiet (fail)
                    go_wp2
                    go_roundw
                    case rel => exact ⟨q + 1, _, _, by omega, by go_num, rfl, HRS.out, HN5.out.drewN _⟩
                    case measure => simp [intOf]; omega
                · obtain rfl : q = t.len := by omega
                  have HR2 := Lib.hid hR2
                  have HN2 := Lib.hid hN2
                  clear hR2 hN2
                  go_wp2
                  go_roundw
                  case rel => exact ⟨k + 1, T2, c2, by omega, by go_num, rfl, HR2.out.next, HN2.out⟩
                  case measure => simp [intOf]; omega
            · obtain rfl : k = t.len := by omega
              go_wp2
              go_roundg m
              case measure => omega
              case rel =>
                refine ⟨T1, c1, rfl, HR1.out.again, HN1.out, fun hb => ?_, fun hb => ?_⟩
                · have := HR1.out.yes hb; have := HMU.out; omega
                · subst hb; exact HR1.out.fin ok
theorem refNeeds_no (wd wind p : Int) (a : Option Addr) (cap : Nat) (xs : List Int) (hl : xs.length ≤ 1000000) (w : World) (hR : RdI w (.slice a xs.length cap) xs) (h : needsErr wd xs wind p ≠ 0) :
    Calls Try.prog 31 #[.agg #[.int .i64 wd, .slice a xs.length cap], .int .i64 wind, .int .i64 p] w fun e w' => e = .returned (.tuple #[.slice none 0 0, .int .i64 (needsErr wd xs wind p)]) ∧ Below w.heap.size w w' := by
  have HB := Lib.hid (below1 w (.cells #[.int .i64 wd, .slice a xs.length cap] 33))
  have HSD := Lib.hid (refStand_any wd a cap xs wind p hl _ (hR.below HB.out))
  rw [standE_eq] at HSD
  generalize needsErr wd xs wind p = E at h HSD ⊢
  have h1 : (E != 0) = true := by simpa using h
  clear hR h
  go_enter Try.func31, Try.ntmps31
  go_wp2_with fail
  refine HSD.out.mono ?_
  rintro e w1 ⟨rfl, hB⟩
  have HB1 := Lib.hid (join HB.out hB)
  clear hB HB HSD
  go_wp2
  go_ret2
  exact ⟨rfl, HB1.out⟩
/-- the reference's Needs, whatever comes in -/
theorem refNeeds_any (wd wind p : Int) (a : Option Addr) (cap : Nat) (xs : List Int) (hl : xs.length ≤ 1000000) (w : World) (hR : RdI w (.slice a xs.length cap) xs) :
    Calls Try.prog 31 #[.agg #[.int .i64 wd, .slice a xs.length cap], .int .i64 wind, .int .i64 p] w fun e w' => ∃ v, e = .returned (.tuple #[v, .int .i64 (needsErr wd xs wind p)]) ∧
      w'.ownsRow w.heap.size 3 1 v (needsL wd xs wind p).length ((needsL wd xs wind p).map (Value.int .i64)) ∧ Below w.heap.size w w' := by
  by_cases h : needsErr wd xs wind p = 0
  · obtain ⟨h1, h2, h3⟩ := needs_ok0 h
    obtain ⟨t, ht, hw, hx, ok⟩ := town_name h1
    subst hw hx
    obtain ⟨s, rfl, hs, _⟩ := plot_ok h3
    have hne : t.plots ≠ [] := by intro e; have := (check_len h1).2; rw [e] at this; simp at this
    obtain ⟨b, o, rfl, _, hI⟩ := rd_ints hR hne
    rw [needsL_ok t h, h]
    refine (refNeeds_yes t ok wind s hs h b o cap w hI).mono ?_
    rintro e w' ⟨tb, rfl, hT, htb, hB⟩
    refine ⟨_, rfl, ?_, hB⟩
    have hn := needs_len ok wind hs
    rw [← hn]
    exact tab_own hT htb (by rw [hn]; have := ok.n30; omega)
  · rw [needsL_no h]
    refine (refNeeds_no wd wind p a cap xs hl w hR h).mono ?_
    rintro e w' ⟨rfl, hB⟩
    exact ⟨_, rfl, own_none _ _ _ _, hB⟩
end Go.Proofs.Ytimedmkpenbmkaa
