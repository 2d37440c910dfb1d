import Derived.Test.YtimedmkpenbmkaaGreatD12
namespace Go.Proofs.YtimedmkpenbmkaaGreat
open Go.RowKit Go.Shelf
set_option linter.unusedSimpArgs false
set_option linter.unusedVariables false

set_option maxHeartbeats 2000000 in
set_option maxRecDepth 100000 in
theorem Holds_err (wd wind p : Int) (a : Option Addr) (cap : Nat) (xs : List Int) (tv : Value) (w : World) (h : Plots w a xs) (hc : openErr wd xs wind 40 ≠ 0) :
    Calls Tryz.prog 45 #[.agg #[.int .i64 wd, .slice a xs.length cap], .int .i64 wind, .int .i64 p, tv] w fun e w' => e = .returned (.tuple #[.bool false, .int .i64 (openErr wd xs wind 40)]) ∧ Below w.heap.size w w' := by
  have hc1 : (openErr wd xs wind 40 != 0) = true := by simpa using hc
  have HC := Lib.hid hc
  have HP := Lib.hid (fun W (hB : Below w.heap.size w W) => openAt_err wd wind 40 p 0 a cap xs W (h.below hB) hc)
  have hle : w.heap.size ≤ w.heap.size := Nat.le_refl _
  unfold zeroWork at HP
  clear hc h
  go_enter Tryz.func45, Tryz.ntmps45
  go_wp2
  go_region_with (first | (go_at_call 94; refine (windOnly_eq _ _).mono ?_; rintro e w' ⟨rfl, rfl⟩) | (go_at_call 78; refine (HP.out _ (by repeat (first | exact Below.refl _ _ | refine Below.drew ?_ | refine al ?_ _))).mono ?_; rintro e w5 ⟨rfl, hB5⟩; have HBW := Lib.hid (join (a := w) (by repeat (first | exact Below.refl _ _ | refine Below.drew ?_ | refine al ?_ _)) hB5); obtain ⟨hc5, hf5⟩ := kept hB5; have hz5 := hB5.size))
  all_goals go_wp2
  all_goals go_ret2
  all_goals exact ⟨rfl, by first | (with_reducible exact al HBW.out _) | (with_reducible refine setc6 HBW.out ?_; omega)⟩

set_option maxHeartbeats 2000000 in
set_option maxRecDepth 100000 in
theorem Holds_plot (wd wind p : Int) (b o cap : Nat) (xs : List Int) (tv : Value) (w : World) (h : Plots w (some ⟨b, o, none⟩) xs) (hI : Ints w b o xs) (hn : xs.length ≤ 40) (hc : checkErr wd xs = 0) (ha : airErr wind 40 = 0) (hp : plotErr xs p 0 ≠ 0) :
    Calls Tryz.prog 45 #[.agg #[.int .i64 wd, .slice (some ⟨b, o, none⟩) xs.length cap], .int .i64 wind, .int .i64 p, tv] w fun e w' => e = .returned (.tuple #[.bool false, .int .i64 (plotErr xs p 0)]) ∧ Below w.heap.size w w' := by
  have hc1 : (plotErr xs p 0 != 0) = true := by simpa using hp
  have HP := Lib.hid (fun W (hB : Below w.heap.size w W) => openAt_plot wd wind 40 p 0 b o cap xs W (h.below hB) (hI.below hB hI.1) hn hc ha hp)
  have hle : w.heap.size ≤ w.heap.size := Nat.le_refl _
  unfold zeroWork at HP
  clear hc h hI ha hp
  go_enter Tryz.func45, Tryz.ntmps45
  go_wp2
  go_region_with (first | (go_at_call 94; refine (windOnly_eq _ _).mono ?_; rintro e w' ⟨rfl, rfl⟩) | (go_at_call 78; refine (HP.out _ (by repeat (first | exact Below.refl _ _ | refine Below.drew ?_ | refine al ?_ _))).mono ?_; rintro e w5 ⟨rfl, hB5⟩; have HBW := Lib.hid (join (a := w) (by repeat (first | exact Below.refl _ _ | refine Below.drew ?_ | refine al ?_ _)) hB5); obtain ⟨hc5, hf5⟩ := kept hB5; have hz5 := hB5.size))
  all_goals go_wp2
  all_goals go_ret2
  all_goals exact ⟨rfl, by first | (with_reducible exact al HBW.out _) | (with_reducible refine setc6 HBW.out ?_; omega)⟩

end Go.Proofs.YtimedmkpenbmkaaGreat
