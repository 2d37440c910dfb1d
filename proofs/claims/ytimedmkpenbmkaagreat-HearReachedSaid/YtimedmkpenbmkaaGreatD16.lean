import Derived.Test.YtimedmkpenbmkaaGreatD13
import Derived.Test.YtimedmkpenbmkaaGreatD12
namespace Go.Proofs.YtimedmkpenbmkaaGreat
open Go.RowKit Go.Shelf
set_option linter.unusedSimpArgs false
set_option linter.unusedVariables false

set_option maxHeartbeats 2000000 in
set_option maxRecDepth 100000 in
theorem Holds_count (t : Hr.Town) (wind p : Int) (b o cap : Nat) (a2 : Option Addr) (n2 cap2 : Nat) (w : World) (hne : n2 ≠ t.plots.length) (h : Plots w (some ⟨b, o, none⟩) t.plots) (hI : Ints w b o t.plots) (hn : t.plots.length ≤ 40) (hc : checkErr t.wide t.plots = 0) (ha : airErr wind 40 = 0) (hp : plotErr t.plots p 0 = 0) :
    Calls Tryz.prog 45 #[.agg #[.int .i64 t.wide, .slice (some ⟨b, o, none⟩) t.plots.length cap], .int .i64 wind, .int .i64 p, .slice a2 n2 cap2] w fun e w' => e = .returned (.tuple #[.bool false, .int .i64 2]) ∧ Below w.heap.size w w' := by
  have HP := Lib.hid (fun W (hB : Below w.heap.size w W) => openAt_ok t.wide wind 40 p 0 b o cap t.plots W (h.below hB) (hI.below hB hI.1) hn hc ha hp)
  have hle : w.heap.size ≤ w.heap.size := Nat.le_refl _
  have hne1 : ((n2 : Int) != (t.plots.length : Int)) = true := by simp; omega
  have HI := Lib.hid hI
  clear hc h hI ha hp
  go_enter Tryz.func45, Tryz.ntmps45
  go_upto_region 1 with fail
  go_cut [10, 11] from 12 to 19 (fun s10 s11 wx => ∃ c r, s10 = .pointer (some ⟨c, 0, none⟩) ∧ s11 = .int .i64 0 ∧ Opened t wind 40 b o cap r w c wx)
  case first =>
    go_region_with (first | (go_at_call 94; refine (windOnly_eq _ _).mono ?_; rintro e w' ⟨rfl, rfl⟩) | (go_at_call 78; refine (HP.out _ (by repeat (first | exact Below.refl _ _ | refine Below.drew ?_ | refine al ?_ _))).mono ?_; rintro e w5 ⟨r, rfl, hD5, hr5, hB5⟩; have HBW := Lib.hid (join (a := w) (by repeat (first | exact Below.refl _ _ | refine Below.drew ?_ | refine al ?_ _)) hB5); obtain ⟨hc5, hf5⟩ := kept hB5; have hz5 := hB5.size; have HD := Lib.hid hD5; clear hD5))
    all_goals go_wp2_with fail
    all_goals go_meet
    all_goals refine ⟨_, r, rfl, rfl, ?_⟩
    all_goals (first
      | (with_reducible refine opened_alloc HBW.out ?_ HI.out HD.out ?_)
      | (with_reducible refine opened_set (z0 := .int .i64 0) (z1 := .slice none 0 0) (z2 := .int .i64 0) (z3 := .int .i64 0) (z4 := .map none) (z5 := .nilFunc) HBW.out ?_ ?_ HI.out HD.out ?_ ?_ ?_ ?_ ?_ ?_ ?_))
    all_goals first
      | omega
      | (simp at hz5; omega)
      | (simp at hr5; omega)
      | (rw [hc5 _ _ (by simp <;> omega)]; clear hc5 hf5 hB5; go_simp; done)
  case rest =>
    obtain ⟨c, r, rfl, rfl, hO⟩ := hcut
    have t1 := hO.t1
    have HB := Lib.hid hO.bel
    clear hO
    go_wp2
    all_goals go_ret2
    all_goals exact ⟨rfl, HB.out⟩
end Go.Proofs.YtimedmkpenbmkaaGreat
