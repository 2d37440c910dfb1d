import Derived.Test.YtimedmkpenbmkaaTk2
import Derived.Test.YtimedmkpenbmkaaRh
namespace Go.Proofs.Ytimedmkpenbmkaa
open Go.RowKit Go.Shelf
set_option linter.unusedSimpArgs false
set_option linter.unusedVariables false

/-- what Takes tells -/
def takesE (wd : Int) (xs : List Int) (wind : Int) (ws : List Int) : Int :=
  if openErr wd xs wind 40 ≠ 0 then openErr wd xs wind 40 else match ws with | [] => 2 | q :: L => if plotErr xs q 0 ≠ 0 then 8 else (tkAll (townOf wd xs) wind q.toNat 0 L).1
def takesV (wd : Int) (xs : List Int) (wind : Int) (ws : List Int) : Int :=
  if takesE wd xs wind ws = 0 then match ws with | [] => 0 | q :: L => (tkAll (townOf wd xs) wind q.toNat 0 L).2 else 0

set_option maxHeartbeats 2000000 in
set_option maxRecDepth 100000 in
theorem Takes_err (wd wind : Int) (a : Option Addr) (cap : Nat) (xs : List Int) (tv : Value) (w : World) (h : Plots w a xs) (hc : openErr wd xs wind 40 ≠ 0) :
    Calls Try.prog 34 #[.agg #[.int .i64 wd, .slice a xs.length cap], .int .i64 wind, tv] w fun e w' => e = .returned (.tuple #[.int .i64 0, .int .i64 (openErr wd xs wind 40)]) ∧ Below w.heap.size w w' := by
  have hc1 : (openErr wd xs wind 40 != 0) = true := by simpa using hc
  have HC := Lib.hid hc
  have HP := Lib.hid (fun W (hB : Below w.heap.size w W) => open_err wd wind 40 a cap xs W (h.below hB) hc)
  have hle : w.heap.size ≤ w.heap.size := Nat.le_refl _
  unfold zeroWork at HP
  clear hc h
  go_enter Try.func34, Try.ntmps34
  go_wp2
  go_region_with (first | (go_at_call 90; refine (windOnly_eq _ _).mono ?_; rintro e w' ⟨rfl, rfl⟩) | (go_at_call 96; refine (HP.out _ (by repeat (first | exact Below.refl _ _ | refine Below.drew ?_ | refine al ?_ _))).mono ?_; rintro e w5 ⟨rfl, hB5⟩; have HBW := Lib.hid (join (a := w) (by repeat (first | exact Below.refl _ _ | refine Below.drew ?_ | refine al ?_ _)) hB5); obtain ⟨hc5, hf5⟩ := kept hB5; have hz5 := hB5.size))
  all_goals go_wp2
  all_goals go_ret2
  all_goals exact ⟨rfl, by first | (with_reducible exact al HBW.out _) | (with_reducible refine setc6 HBW.out ?_; omega)⟩

set_option maxHeartbeats 2000000 in
set_option maxRecDepth 100000 in
theorem Takes_open (t : Hr.Town) (ok : t.Ok) (wind : Int) (b o cap : Nat) (a2 : Option Addr) (n2 cap2 : Nat) (E V : Int) (w : World) (h : Plots w (some ⟨b, o, none⟩) t.plots) (hI : Ints w b o t.plots) (hc : checkErr t.wide t.plots = 0) (ha : airErr wind 40 = 0)
    (hno : n2 = 0 → E = 2 ∧ V = 0)
    (hyes : n2 ≠ 0 → ∀ W r, Below w.heap.size w W → DirMap W r → Calls Try.prog 97 #[.agg #[.int .i64 t.wide, .slice (some ⟨b, o, none⟩) t.plots.length cap, .int .i64 wind, .int .i64 40, .map (some r), .func (.func 128) #[] #[]], .slice a2 n2 cap2] W fun e w' => e = .returned (.tuple #[.int .i64 V, .int .i64 E]) ∧ Below W.heap.size W w') :
    Calls Try.prog 34 #[.agg #[.int .i64 t.wide, .slice (some ⟨b, o, none⟩) t.plots.length cap], .int .i64 wind, .slice a2 n2 cap2] w fun e w' => e = .returned (.tuple #[.int .i64 V, .int .i64 E]) ∧ Below w.heap.size w w' := by
  have HP := Lib.hid (fun W (hB : Below w.heap.size w W) => open_ok t.wide wind 40 b o cap t.plots W (h.below hB) hc ha)
  have hle : w.heap.size ≤ w.heap.size := Nat.le_refl _
  have HI := Lib.hid hI
  have HNO := Lib.hid hno
  have HYES := Lib.hid hyes
  clear hc h hI ha hno hyes
  go_enter Try.func34, Try.ntmps34
  go_upto_region 1 with fail
  go_cut [8, 9] from 10 to 16 (fun s10 s11 wx => ∃ c r, s10 = .pointer (some ⟨c, 0, none⟩) ∧ s11 = .int .i64 0 ∧ Opened t wind 40 b o cap r w c wx)
  case first =>
    go_region_with (first | (go_at_call 90; refine (windOnly_eq _ _).mono ?_; rintro e w' ⟨rfl, rfl⟩) | (go_at_call 96; refine (HP.out _ (by repeat (first | exact Below.refl _ _ | refine Below.drew ?_ | refine al ?_ _))).mono ?_; rintro e w5 ⟨r, rfl, hD5, hr5, hB5⟩; have HBW := Lib.hid (join (a := w) (by repeat (first | exact Below.refl _ _ | refine Below.drew ?_ | refine al ?_ _)) hB5); obtain ⟨hc5, hf5⟩ := kept hB5; have hz5 := hB5.size; have HD := Lib.hid hD5; clear hD5))
    all_goals go_wp2_with fail
    all_goals go_meet
    all_goals refine ⟨_, r, rfl, rfl, ?_⟩
    all_goals (first
      | (with_reducible refine opened_alloc HBW.out ?_ HI.out HD.out ?_)
      | (with_reducible refine opened_set (z0 := .int .i64 0) (z1 := .slice none 0 0) (z2 := .int .i64 0) (z3 := .int .i64 0) (z4 := .map none) (z5 := .nilFunc) HBW.out ?_ ?_ HI.out HD.out ?_ ?_ ?_ ?_ ?_ ?_ ?_))
    all_goals first
      | omega
      | (simp at hz5; omega)
      | (simp at hr5; omega)
      | (rw [hc5 _ _ (by simp <;> omega)]; clear hc5 hf5 hB5; go_simp; done)
  case rest =>
    obtain ⟨c, r, rfl, rfl, hO⟩ := hcut
    have HB := Lib.hid hO.bel
    have HD := Lib.hid hO.wk.dir
    by_cases hn : n2 = 0
    · obtain ⟨rfl, rfl⟩ := HNO.out hn
      subst hn
      clear hO HYES HNO
      go_wp2
      go_ret2
      exact ⟨rfl, HB.out⟩
    · have hn' : ((n2 : Int) == 0) = false := by simp; omega
      have HC := Lib.hid (HYES.out hn _ r HB.out HD.out)
      have c0 := hO.wk.c0
      have c1 := hO.wk.c1
      have c2 := hO.wk.c2
      have c3 := hO.wk.c3
      have c4 := hO.wk.c4
      have c5 := hO.wk.c5
      clear hO HYES HNO hn
      go_wp2_with fail
      refine HC.out.mono ?_
      rintro e w6 ⟨rfl, hB6⟩
      have HB6 := Lib.hid (join HB.out hB6)
      clear hB6
      go_wp2
      go_ret2
      exact ⟨rfl, HB6.out⟩

/-- Takes, whatever comes in -/
theorem Takes_any (wd wind : Int) (a a2 : Option Addr) (cap cap2 : Nat) (xs ws : List Int) (hl : xs.length ≤ 1000000) (hw : ws.length ≤ 1000) (hcap : ws.length ≤ cap2) (w : World) (hR : RdI w (.slice a xs.length cap) xs) (hT : RdI w (.slice a2 ws.length cap2) ws) :
    Calls Try.prog 34 #[.agg #[.int .i64 wd, .slice a xs.length cap], .int .i64 wind, .slice a2 ws.length cap2] w fun e w' => e = .returned (.tuple #[.int .i64 (takesV wd xs wind ws), .int .i64 (takesE wd xs wind ws)]) ∧ Below w.heap.size w w' := by
  by_cases h : openErr wd xs wind 40 = 0
  · obtain ⟨h1, h2⟩ := openErr_ok h
    have hne : xs ≠ [] := by rintro rfl; have := (check_len h1).2; simp at this
    obtain ⟨b, o, rfl, _, hI⟩ := rd_ints hR hne
    obtain ⟨t, -, hw', hx, ok⟩ := town_name h1
    subst hw' hx
    obtain ⟨w0, w4, _, _⟩ := wind_ok h2
    refine Takes_open t ok wind b o cap a2 ws.length cap2 _ _ w (rd_plots hR hl) hI h1 h2 (fun hn => ?_) (fun hn W r hB hD => ?_)
    · obtain rfl := List.length_eq_zero_iff.1 hn
      have e1 : takesE t.wide t.plots wind [] = 2 := by unfold takesE; rw [if_neg (by rw [h]; simp)]
      exact ⟨e1, by unfold takesV; rw [e1]; rfl⟩
    · cases ws with
      | nil => simp at hn
      | cons q L =>
        obtain ⟨wb, wo, rfl, _, hI2⟩ := rd_ints hT (by simp)
        simp only [List.length_cons] at hw hcap ⊢
        by_cases hp : plotErr t.plots q 0 = 0
        · have e1 : takesE t.wide t.plots wind (q :: L) = (tkAll t wind q.toNat 0 L).1 := by unfold takesE; simp [h, hp, townOf_self]
          have e2 : takesV t.wide t.plots wind (q :: L) = if (tkAll t wind q.toNat 0 L).1 = 0 then (tkAll t wind q.toNat 0 L).2 else 0 := by unfold takesV; rw [e1, townOf_self]
          rw [e1, e2]
          obtain ⟨p, rfl, hp2, _⟩ := plot_ok hp
          rw [Int.toNat_natCast]
          exact takes_yes t ok wind 40 w0 w4 b o cap r _ _ _ wb wo cap2 p hp2 L (by omega) hcap hp W (hI.below hB hI.1) (hI2.below hB hI2.1) hD
        · have e1 : takesE t.wide t.plots wind (q :: L) = 8 := by unfold takesE; simp [h, hp]
          have e2 : takesV t.wide t.plots wind (q :: L) = 0 := by unfold takesV; rw [e1]; rfl
          rw [e1, e2]
          exact takes_no t ok wind 40 b o cap r _ _ _ wb wo cap2 q L (by omega) hp W (hI.below hB hI.1) (hI2.below hB hI2.1)
  · have e1 : takesE wd xs wind ws = openErr wd xs wind 40 := by unfold takesE; rw [if_pos h]
    have e2 : takesV wd xs wind ws = 0 := by unfold takesV; rw [e1, if_neg h]
    rw [e1, e2]
    exact Takes_err wd wind a cap xs _ w (rd_plots hR hl) h
end Go.Proofs.Ytimedmkpenbmkaa
