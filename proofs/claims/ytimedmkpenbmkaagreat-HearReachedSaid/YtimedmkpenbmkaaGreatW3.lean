import Derived.Test.YtimedmkpenbmkaaGreatW1
import Derived.Test.YtimedmkpenbmkaaGreatD12
namespace Go.Proofs.YtimedmkpenbmkaaGreat
open Go.RowKit Go.Shelf
set_option linter.unusedSimpArgs false
set_option linter.unusedVariables false

theorem way_call (t : Hr.Town) (hok : t.Ok) (wind voice : Int) (hw0 : 0 ≤ wind) (hw4 : wind ≤ 4) (b o cap r : Nat) (f1 : Fn) (f2 f3 : Array Value) (tb cap2 : Nat) (T : List Int) (s z : Nat) (hs : s < t.len) (hz : z < t.len) (hFx : t.Fix wind s T) (hne : T.getD z 0 ≠ -1)
    (w W : World) (HB : Below w.heap.size w W) (hI : Ints w b o t.plots) (hD : DirMap W r) (hT : TabAt W tb T) :
    Calls Tryz.prog 101 #[.agg #[.int .i64 t.wide, .slice (some ⟨b, o, none⟩) t.plots.length cap, .int .i64 wind, .int .i64 voice, .map (some r), .func f1 f2 f3], .slice (some ⟨tb, 0, none⟩) T.length cap2, .int .i64 s, .int .i64 z] W fun e w' => ∃ v,
      e = .returned v ∧ Hid (w'.ownsRow w.heap.size 3 1 v (wayP t wind T s z).length (ofNats (wayP t wind T s z))) ∧ Hid (Below w.heap.size w w') := by
  refine (way_loop t hok wind voice hw0 hw4 b o cap r f1 f2 f3 tb 0 cap2 T s z hs hz hFx hne W (hI.below HB hI.1) hD ⟨hT.lt, fun i hi => by rw [Nat.zero_add]; exact hT.cell hi⟩).mono ?_
  rintro e w' ⟨v, rfl, hown, hB⟩
  refine ⟨v, rfl, Lib.hid ⟨hown.1, ?_⟩, Lib.hid (join HB hB)⟩
  rcases hown.2 with h | ⟨g, cp, cur, h1, h2, h3⟩
  · exact .inl h
  · exact .inr ⟨g, cp, cur, h1, by have := HB.size; omega, h3⟩

/-- what Way answers if there is no error of a town or a stand -/
def wayErr (T : List Int) (q : Int) : Int := reachErr T q

set_option maxHeartbeats 2000000 in
set_option maxRecDepth 100000 in
theorem Way_ok (t : Hr.Town) (hok : t.Ok) (wind : Int) (hw0 : 0 ≤ wind) (hw4 : wind ≤ 4) (s b o cap : Nat) (q : Int) (hs : s < t.len) (T : List Int) (hTN : T = t.needs wind s) (w : World) (h : Plots w (some ⟨b, o, none⟩) t.plots) (hI : Ints w b o t.plots) (hn : t.plots.length ≤ 40) (hc : checkErr t.wide t.plots = 0) (ha : airErr wind 40 = 0) (hp : plotErr t.plots s 0 = 0) :
    Calls Tryz.prog 49 #[.agg #[.int .i64 t.wide, .slice (some ⟨b, o, none⟩) t.plots.length cap], .int .i64 wind, .int .i64 s, .int .i64 q] w fun e w' =>
      ∃ v, e = .returned (.tuple #[v, .int .i64 (reachErr T q)]) ∧ Below w.heap.size w w' ∧ (reachErr T q ≠ 0 → v = .slice none 0 0) ∧
        (reachErr T q = 0 → w'.ownsRow w.heap.size 3 1 v (wayP t wind T s q.toNat).length (ofNats (wayP t wind T s q.toNat))) := by
  have HP := Lib.hid (fun W (hB : Below w.heap.size w W) => openAt_ok t.wide wind 40 s 0 b o cap t.plots W (h.below hB) (hI.below hB hI.1) hn hc ha hp)
  have HI := Lib.hid hI
  have HT0 := Lib.hid hTN
  have hFx : t.Fix wind s T := by rw [hTN]; exact Hr.needs_fix hok wind hs
  have hT40 : T.length ≤ 40 := by have := hFx.inv.len; have := hok.n30; omega
  have HFx := Lib.hid hFx
  have hle : w.heap.size ≤ w.heap.size := Nat.le_refl _
  clear hc h hI ha hp hTN hFx
  go_enter Tryz.func49, Tryz.ntmps49
  go_upto_region 1 with fail
  go_cut [10, 11] from 12 to 21 (fun s10 s11 wx => ∃ c r, s10 = .pointer (some ⟨c, 0, none⟩) ∧ s11 = .int .i64 0 ∧ Opened t wind 40 b o cap r w c wx)
  case first =>
    go_region_with (first | (go_at_call 94; refine (windOnly_eq _ _).mono ?_; rintro e w' ⟨rfl, rfl⟩) | (go_at_call 78; refine (HP.out _ (by repeat (first | exact Below.refl _ _ | refine Below.drew ?_ | refine al ?_ _))).mono ?_; rintro e w5 ⟨r, rfl, hD5, hr5, hB5⟩; have HBW := Lib.hid (join (a := w) (by repeat (first | exact Below.refl _ _ | refine Below.drew ?_ | refine al ?_ _)) hB5); obtain ⟨hc5, hf5⟩ := kept hB5; have hz5 := hB5.size; have HD := Lib.hid hD5; clear hD5))
    all_goals go_wp2_with fail
    all_goals go_meet
    all_goals refine ⟨_, r, rfl, rfl, ?_⟩
    all_goals (first
      | (with_reducible refine opened_alloc HBW.out ?_ HI.out HD.out ?_)
      | (with_reducible refine opened_set (z0 := .int .i64 0) (z1 := .slice none 0 0) (z2 := .int .i64 0) (z3 := .int .i64 0) (z4 := .map none) (z5 := .nilFunc) HBW.out ?_ ?_ HI.out HD.out ?_ ?_ ?_ ?_ ?_ ?_ ?_))
    all_goals first
      | omega
      | (simp at hz5; omega)
      | (simp at hr5; omega)
      | (rw [hc5 _ _ (by simp <;> omega)]; clear hc5 hf5 hB5; go_simp; done)
  case rest =>
    obtain ⟨c, r, rfl, rfl, hO⟩ := hcut
    have HB := Lib.hid hO.bel
    have HD := Lib.hid hO.wk.dir
    have c0 := hO.wk.c0
    have c1 := hO.wk.c1
    have c2 := hO.wk.c2
    have c3 := hO.wk.c3
    have c4 := hO.wk.c4
    have c5 := hO.wk.c5
    have hcl := hO.wk.lt.1
    clear hO
    go_wp2_with fail
    refine (needs_callT t hok wind 40 hw0 hw4 b o cap r _ _ _ s hs T HT0.out w _ HB.out HI.out HD.out).mono ?_
    rintro e w6 ⟨tb, rfl, HT, HL, HB6⟩
    obtain ⟨hc6, hf6⟩ := kept HB6.out
    have hz6 := HB6.out.size
    go_wp2_with fail
    refine (reachError_any tb 0 _ T _ q hT40 HT.out.ints).mono ?_
    rintro e w7 ⟨rfl, rfl⟩
    have HBZ := Lib.hid (join HB.out HB6.out)
    by_cases h0 : reachErr T q = 0
    · have hq : 0 ≤ q ∧ q < T.length ∧ T.getD q.toNat 0 ≠ -1 := by
        unfold reachErr at h0
        by_cases h1 : q < 0 ∨ (T.length : Int) ≤ q
        · rw [if_pos h1] at h0; cases h0
        · rw [if_neg h1] at h0
          refine ⟨by omega, by omega, fun e => ?_⟩
          rw [if_pos e] at h0; cases h0
      obtain ⟨k, rfl⟩ := Int.eq_ofNat_of_zero_le hq.1
      rw [Int.toNat_natCast] at hq
      have hk : k < t.len := by rw [← HFx.out.inv.len]; omega
      have hne := hq.2.2
      have hD7 := Lib.hid ((HB6.out.block r (dir_lt HD.out)).trans HD.out)
      have H0 := Lib.hid h0
      rw [h0]
      clear h0 hq
      go_wp2_with fail
      refine (way_call t hok wind 40 hw0 hw4 b o cap r _ _ _ tb _ T s k hs hk HFx.out hne w _ HBZ.out HI.out hD7.out HT.out).mono ?_
      rintro e w8 ⟨v, rfl, HW, HB8⟩
      go_wp2
      go_ret2
      exact ⟨v, by rw [H0.out]; rfl, HB8.out, fun h => absurd H0.out h, fun _ => by rw [Int.toNat_natCast]; exact HW.out⟩
    · have h0' : (reachErr T q != 0) = true := by simpa using h0
      have H0 := Lib.hid h0
      obtain ⟨E, hE⟩ : ∃ E, E = reachErr T q := ⟨_, rfl⟩
      rw [← hE] at h0' ⊢
      have HE := Lib.hid hE
      clear h0 hE
      go_wp2
      go_ret2
      exact ⟨.slice none 0 0, by rw [← HE.out]; rfl, HBZ.out, fun _ => rfl, fun h => absurd h H0.out⟩
end Go.Proofs.YtimedmkpenbmkaaGreat
