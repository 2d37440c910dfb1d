import Derived.Test.YtimedmkpenbmkaaGreatB8
import Derived.Test.YtimedmkpenbmkaaGreatD12
namespace Go.Proofs.YtimedmkpenbmkaaGreat
open Go.RowKit Go.Shelf
set_option linter.unusedSimpArgs false
set_option linter.unusedVariables false

/-- behind the opening of a quarter: the box of the town at work -/
structure QOp (t : Hr.Town) (wind voice : Int) (b o cap r N : Nat) (nm : List Bool) (w : World) (c : Nat) (W : World) : Prop where
  wk : WkBox W t.wide wind voice b o cap r (.func (.func 125) #[] #[.pointer (some ⟨N, 0, none⟩)]) t.plots c
  named : W.heap[N]? = some (.cells (nm.map Value.bool).toArray 123 (0, 0))
  bel : Below w.heap.size w W
  lo : w.heap.size < c

theorem qop_alloc {t : Hr.Town} {wind voice : Int} {b o cap r N : Nat} {nm : List Bool} {w w5 : World} (h5 : Below w.heap.size w w5) (hlt : w.heap.size < w5.heap.size) (hI : Ints w b o t.plots) (hD : DirMap w5 r)
    (hN : w5.heap[N]? = some (.cells (nm.map Value.bool).toArray 123 (0, 0))) :
    QOp t wind voice b o cap r N nm w w5.heap.size (w5.alloc (.cells #[.int .i64 t.wide, .slice (some ⟨b, o, none⟩) t.plots.length cap, .int .i64 wind, .int .i64 voice, .map (some r), .func (.func 125) #[] #[.pointer (some ⟨N, 0, none⟩)]] 117)) := by
  have hB := al h5 (.cells #[.int .i64 t.wide, .slice (some ⟨b, o, none⟩) t.plots.length cap, .int .i64 wind, .int .i64 voice, .map (some r), .func (.func 125) #[] #[.pointer (some ⟨N, 0, none⟩)]] 117)
  have hI5 := hI.below hB hI.1
  have hD5 := dir_al hD (dir_lt hD) (.cells #[.int .i64 t.wide, .slice (some ⟨b, o, none⟩) t.plots.length cap, .int .i64 wind, .int .i64 voice, .map (some r), .func (.func 125) #[] #[.pointer (some ⟨N, 0, none⟩)]] 117)
  have hN5 := (Below.heap_alloc w5 (.cells #[.int .i64 t.wide, .slice (some ⟨b, o, none⟩) t.plots.length cap, .int .i64 wind, .int .i64 voice, .map (some r), .func (.func 125) #[] #[.pointer (some ⟨N, 0, none⟩)]] 117) N (Array.getElem?_eq_some_iff.1 hN).1).trans hN
  exact ⟨⟨by go_simp, by go_simp, by go_simp, by go_simp, by go_simp, by go_simp, hI5, hD5⟩, hN5, hB, hlt⟩

theorem qop_set {t : Hr.Town} {wind voice : Int} {b o cap r N c : Nat} {nm : List Bool} {w w5 : World} {z0 z1 z2 z3 z4 z5 : Value} (h5 : Below w.heap.size w w5) (lo : w.heap.size < c) (hrc : r ≠ c) (hnc : N ≠ c) (hI : Ints w b o t.plots) (hD : DirMap w5 r)
    (hN : w5.heap[N]? = some (.cells (nm.map Value.bool).toArray 123 (0, 0)))
    (e0 : w5.cell? ⟨c, 0, none⟩ = some z0) (e1 : w5.cell? ⟨c, 1, none⟩ = some z1) (e2 : w5.cell? ⟨c, 2, none⟩ = some z2) (e3 : w5.cell? ⟨c, 3, none⟩ = some z3) (e4 : w5.cell? ⟨c, 4, none⟩ = some z4) (e5 : w5.cell? ⟨c, 5, none⟩ = some z5) :
    QOp t wind voice b o cap r N nm w c ((((((w5.setCell ⟨c, 0, none⟩ (.int .i64 t.wide)).setCell ⟨c, 1, none⟩ (.slice (some ⟨b, o, none⟩) t.plots.length cap)).setCell ⟨c, 2, none⟩ (.int .i64 wind)).setCell ⟨c, 3, none⟩ (.int .i64 voice)).setCell ⟨c, 4, none⟩ (.map (some r))).setCell ⟨c, 5, none⟩ (.func (.func 125) #[] #[.pointer (some ⟨N, 0, none⟩)])) := by
  have hB := setc6 (v0 := .int .i64 t.wide) (v1 := .slice (some ⟨b, o, none⟩) t.plots.length cap) (v2 := .int .i64 wind) (v3 := .int .i64 voice) (v4 := .map (some r)) (v5 := .func (.func 125) #[] #[.pointer (some ⟨N, 0, none⟩)]) h5 (Nat.le_of_lt lo)
  have hI5 := hI.below hB hI.1
  have hD5 := dir_setc6 (v0 := .int .i64 t.wide) (v1 := .slice (some ⟨b, o, none⟩) t.plots.length cap) (v2 := .int .i64 wind) (v3 := .int .i64 voice) (v4 := .map (some r)) (v5 := .func (.func 125) #[] #[.pointer (some ⟨N, 0, none⟩)]) hD hrc
  refine ⟨⟨?_, ?_, ?_, ?_, ?_, ?_, hI5, hD5⟩, (hs6 hnc).trans hN, hB, lo⟩
  all_goals go_simp

def louderAns (v : Int) : Value := if v = -1 then .tuple #[.int .i64 0, .int .i64 6] else .tuple #[.int .i64 v, .int .i64 0]

set_option maxHeartbeats 2000000 in
set_option maxRecDepth 100000 in
theorem Louder_err (wd wind : Int) (pl : Value) (hv : Value) (st : Int) (E : Int) (w : World) (hOQ : OQerr w wd wind 40 pl hv E) :
    Calls Tryz.prog 62 #[.agg #[.int .i64 wd, pl], .int .i64 wind, hv, .int .i64 st] w fun e w' => e = .returned (.tuple #[.int .i64 0, .int .i64 E]) ∧ Below w.heap.size w w' := by
  have hE : (E != 0) = true := by simpa using hOQ.1
  have HOQ := Lib.hid hOQ
  clear hOQ
  have hle : w.heap.size ≤ w.heap.size := Nat.le_refl _
  unfold OQerr zeroWork at HOQ
  go_enter Tryz.func62, Tryz.ntmps62
  go_wp2
  go_region_with (first | (go_at_call 94; refine (windOnly_eq _ _).mono ?_; rintro e w' ⟨rfl, rfl⟩) | (go_at_call 76; refine (HOQ.out.2 _ (by repeat (first | exact Below.refl _ _ | refine Below.drew ?_ | refine al ?_ _))).mono ?_; rintro e w5 ⟨rfl, hB5⟩; have HBW := Lib.hid (join (a := w) (by repeat (first | exact Below.refl _ _ | refine Below.drew ?_ | refine al ?_ _)) hB5); obtain ⟨hc5, hf5⟩ := kept hB5; have hz5 := hB5.size))
  all_goals go_wp2
  all_goals go_ret2
  all_goals exact ⟨rfl, by first | (with_reducible exact al HBW.out _) | (with_reducible refine setc6 HBW.out ?_; omega)⟩

set_option maxHeartbeats 2000000 in
set_option maxRecDepth 100000 in
theorem Louder_ok (t : Hr.Town) (hok : t.Ok) (wind : Int) (hw0 : 0 ≤ wind) (hw4 : wind ≤ 4) (b o cap : Nat) (hv : Value) (nm : List Bool) (hnl : nm.length = 30) (st : Nat) (hst : st ≤ 30) (w : World) (hI : Ints w b o t.plots)
    (hOQ : OQ w t.wide wind 40 (.slice (some ⟨b, o, none⟩) t.plots.length cap) hv nm) :
    Calls Tryz.prog 62 #[.agg #[.int .i64 t.wide, .slice (some ⟨b, o, none⟩) t.plots.length cap], .int .i64 wind, hv, .int .i64 st] w fun e w' => e = .returned (louderAns (leastV t wind (nm.getD · false) st)) ∧ Below w.heap.size w w' := by
  have HI := Lib.hid hI
  have HOQ := Lib.hid hOQ
  have hle : w.heap.size ≤ w.heap.size := Nat.le_refl _
  have hbl := hI.1
  clear hI hOQ
  unfold OQ qWork at HOQ
  go_enter Tryz.func62, Tryz.ntmps62
  go_upto_region 1 with fail
  go_cut [10, 11] from 13 to 21 (fun s10 s11 wx => ∃ c r N, s10 = .pointer (some ⟨c, 0, none⟩) ∧ s11 = .int .i64 0 ∧ QOp t wind 40 b o cap r N nm w c wx)
  case first =>
    go_region_with (first | (go_at_call 94; refine (windOnly_eq _ _).mono ?_; rintro e w' ⟨rfl, rfl⟩) | (go_at_call 76; refine (HOQ.out _ (by repeat (first | exact Below.refl _ _ | refine Below.drew ?_ | refine al ?_ _))).mono ?_; rintro e w5 ⟨r, N, rfl, hD5, hr5, hN5, hNN, hB5⟩; have HBW := Lib.hid (join (a := w) (by repeat (first | exact Below.refl _ _ | refine Below.drew ?_ | refine al ?_ _)) hB5); obtain ⟨hc5, hf5⟩ := kept hB5; have hz5 := hB5.size; have HD := Lib.hid hD5; have HNN := Lib.hid hNN; clear hD5 hNN))
    all_goals go_wp2_with fail
    all_goals go_meet
    all_goals refine ⟨_, r, N, rfl, rfl, ?_⟩
    all_goals (first
      | (with_reducible refine qop_alloc HBW.out ?_ HI.out HD.out HNN.out)
      | (with_reducible refine qop_set (z0 := .int .i64 0) (z1 := .slice none 0 0) (z2 := .int .i64 0) (z3 := .int .i64 0) (z4 := .map none) (z5 := .nilFunc) HBW.out ?_ ?_ ?_ HI.out HD.out HNN.out ?_ ?_ ?_ ?_ ?_ ?_))
    all_goals first
      | omega
      | (simp at hz5; omega)
      | (simp at hr5; omega)
      | (simp at hN5; omega)
      | (rw [hc5 _ _ (by simp <;> omega)]; clear hc5 hf5 hB5; go_simp; done)
  case rest =>
    obtain ⟨c, r, N, rfl, rfl, hO⟩ := hcut
    have HB := Lib.hid hO.bel
    have HO := Lib.hid hO
    have c0 := hO.wk.c0
    have c1 := hO.wk.c1
    have c2 := hO.wk.c2
    have c3 := hO.wk.c3
    have c4 := hO.wk.c4
    have c5 := hO.wk.c5
    have hcl := hO.wk.lt.1
    have hs1 : decide ((st : Int) < 0) = false := by simp
    have hs2 : decide ((st : Int) > 30) = false := by simp; omega
    clear hO
    go_wp2_with fail
    refine (leastVoice_any t hok wind 40 hw0 hw4 b o cap r 125 _ (nm.getD · false) st (by omega) wc HO.out.wk.ints HO.out.wk.dir callF144 (fun p hp => cntQ_call N nm hnl wc HO.out.named p (by have := hok.n30; omega))).mono ?_
    rintro e w6 ⟨rfl, hB6⟩
    have HB6 := Lib.hid (join HB.out hB6)
    obtain ⟨v, hv⟩ : ∃ v, v = leastV t wind (nm.getD · false) st := ⟨_, rfl⟩
    rw [← hv]
    have HV := Lib.hid hv
    clear hv hB6
    by_cases h1 : v = -1
    · subst h1
      go_wp2
      go_ret2
      exact ⟨by rw [← HV.out]; rfl, HB6.out⟩
    · have h1' : (v == -1) = false := by simpa using h1
      have H1 := Lib.hid h1
      clear h1
      go_wp2
      go_ret2
      exact ⟨by rw [← HV.out]; simp [louderAns, H1.out], HB6.out⟩
end Go.Proofs.YtimedmkpenbmkaaGreat
