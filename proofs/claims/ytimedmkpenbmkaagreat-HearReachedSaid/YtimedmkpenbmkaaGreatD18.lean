import Derived.Test.YtimedmkpenbmkaaGreatD13
import Derived.Test.YtimedmkpenbmkaaGreatD12
namespace Go.Proofs.YtimedmkpenbmkaaGreat
open Go.RowKit Go.Shelf
set_option linter.unusedSimpArgs false
set_option linter.unusedVariables false

theorem agrees_call (t : Hr.Town) (hok : t.Ok) (wind voice : Int) (hw0 : 0 ≤ wind) (hw4 : wind ≤ 4) (b o cap r : Nat) (f1 : Fn) (f2 f3 : Array Value) (tb oo cap2 : Nat) (T : List Int) (hT : T.length = t.len) (hF : ∀ i, i < T.length → -9223372036854775808 ≤ T.getD i 0 ∧ T.getD i 0 ≤ 9223372036854775807)
    (w W : World) (HB : Below w.heap.size w W) (hI : Ints w b o t.plots) (hI2 : Ints w tb oo T) (hD : DirMap W r) :
    Calls Tryz.prog 98 #[.agg #[.int .i64 t.wide, .slice (some ⟨b, o, none⟩) t.plots.length cap, .int .i64 wind, .int .i64 voice, .map (some r), .func f1 f2 f3], .slice (some ⟨tb, oo, none⟩) T.length cap2] W fun e w' =>
      e = .returned (.bool (agreesAll t wind T)) ∧ Hid (Below w.heap.size w w') := by
  refine (agrees_any t hok wind voice hw0 hw4 b o cap r f1 f2 f3 tb oo cap2 T hT hF W (hI.below HB hI.1) hD (hI2.below HB hI2.1)).mono ?_
  rintro e w' ⟨rfl, hB⟩
  exact ⟨rfl, Lib.hid (join HB hB)⟩

set_option maxHeartbeats 2000000 in
set_option maxRecDepth 100000 in
theorem Holds_ok (t : Hr.Town) (hok : t.Ok) (wind : Int) (hw0 : 0 ≤ wind) (hw4 : wind ≤ 4) (s b o cap : Nat) (tb oo cap2 : Nat) (T : List Int) (hT : T.length = t.len) (hF : ∀ i, i < T.length → -9223372036854775808 ≤ T.getD i 0 ∧ T.getD i 0 ≤ 9223372036854775807) (hs : s < t.len) (w : World) (h0 : T.getD s 0 = 0) (h : Plots w (some ⟨b, o, none⟩) t.plots) (hI : Ints w b o t.plots) (hI2 : Ints w tb oo T) (hn : t.plots.length ≤ 40) (hc : checkErr t.wide t.plots = 0) (ha : airErr wind 40 = 0) (hp : plotErr t.plots s 0 = 0) :
    Calls Tryz.prog 45 #[.agg #[.int .i64 t.wide, .slice (some ⟨b, o, none⟩) t.plots.length cap], .int .i64 wind, .int .i64 s, .slice (some ⟨tb, oo, none⟩) T.length cap2] w fun e w' => e = .returned (.tuple #[.bool (agreesAll t wind T), .int .i64 0]) ∧ Below w.heap.size w w' := by
  have HP := Lib.hid (fun W (hB : Below w.heap.size w W) => openAt_ok t.wide wind 40 s 0 b o cap t.plots W (h.below hB) (hI.below hB hI.1) hn hc ha hp)
  have HX := Lib.hid (fun W (hB : Below w.heap.size w W) => (hI2.below hB hI2.1).2 s (by omega))
  have HC := Lib.hid (fun r W HB hD => agrees_call t hok wind 40 hw0 hw4 b o cap r (.func 121) #[] #[] tb oo cap2 T hT hF w W HB hI hI2 hD)
  have hle : w.heap.size ≤ w.heap.size := Nat.le_refl _
  have HI := Lib.hid hI
  have HT := Lib.hid hT
  have H0 := Lib.hid h0
  clear hc h hI ha hp hI2 hT h0 hF
  go_enter Tryz.func45, Tryz.ntmps45
  go_upto_region 1 with fail
  go_cut [10, 11] from 12 to 19 (fun s10 s11 wx => ∃ c r, s10 = .pointer (some ⟨c, 0, none⟩) ∧ s11 = .int .i64 0 ∧ Opened t wind 40 b o cap r w c wx)
  case first =>
    go_region_with (first | (go_at_call 94; refine (windOnly_eq _ _).mono ?_; rintro e w' ⟨rfl, rfl⟩) | (go_at_call 78; refine (HP.out _ (by repeat (first | exact Below.refl _ _ | refine Below.drew ?_ | refine al ?_ _))).mono ?_; rintro e w5 ⟨r, rfl, hD5, hr5, hB5⟩; have HBW := Lib.hid (join (a := w) (by repeat (first | exact Below.refl _ _ | refine Below.drew ?_ | refine al ?_ _)) hB5); obtain ⟨hc5, hf5⟩ := kept hB5; have hz5 := hB5.size; have HD := Lib.hid hD5; clear hD5))
    all_goals go_wp2_with fail
    all_goals go_meet
    all_goals refine ⟨_, r, rfl, rfl, ?_⟩
    all_goals (first
      | (with_reducible refine opened_alloc HBW.out ?_ HI.out HD.out ?_)
      | (with_reducible refine opened_set (z0 := .int .i64 0) (z1 := .slice none 0 0) (z2 := .int .i64 0) (z3 := .int .i64 0) (z4 := .map none) (z5 := .nilFunc) HBW.out ?_ ?_ HI.out HD.out ?_ ?_ ?_ ?_ ?_ ?_ ?_))
    all_goals first
      | omega
      | (simp at hz5; omega)
      | (simp at hr5; omega)
      | (rw [hc5 _ _ (by simp <;> omega)]; clear hc5 hf5 hB5; go_simp; done)
  case rest =>
    obtain ⟨c, r, rfl, rfl, hO⟩ := hcut
    have t1 := hO.t1
    have HB := Lib.hid hO.bel
    have hcx := HX.out _ hO.bel
    rw [H0.out] at hcx
    have hlen : T.length = t.plots.length := HT.out
    have hs' : (s : Int) < t.plots.length := by have : t.plots.length = t.len := rfl; omega
    rw [hlen]
    have HCC := HC.out r _ hO.bel hO.wk.dir
    rw [hlen] at HCC
    have HK := Lib.hid HCC
    have c0 := hO.wk.c0
    have c1 := hO.wk.c1
    have c2 := hO.wk.c2
    have c3 := hO.wk.c3
    have c4 := hO.wk.c4
    have c5 := hO.wk.c5
    clear hO hlen HCC
    go_wp2_with fail
    refine HK.out.mono ?_
    rintro e w6 ⟨rfl, HB6⟩
    go_wp2
    all_goals go_ret2
    all_goals exact ⟨rfl, HB6.out⟩
end Go.Proofs.YtimedmkpenbmkaaGreat
