import Derived.Test.YtimedmkpenbmkaaGreatD16
import Derived.Test.YtimedmkpenbmkaaGreatD17
import Derived.Test.YtimedmkpenbmkaaGreatD18
import Derived.Test.YtimedmkpenbmkaaGreatE5
import Derived.Test.YtimedmkpenbmkaaGreatR1
namespace Go.Proofs.YtimedmkpenbmkaaGreat
open Go.RowKit Go.Shelf
set_option linter.unusedSimpArgs false
set_option linter.unusedVariables false

theorem air40 (wind : Int) : airErr wind 40 = windE wind := by
  unfold airErr windE
  by_cases h : wind < 0 ∨ 4 < wind
  · rw [if_pos h, if_pos (by omega)]
  · rw [if_neg h, if_neg (by omega)]
theorem standE_eq (wd : Int) (xs : List Int) (wind p : Int) : standE wd xs wind p = needsErr wd xs wind p := by
  unfold standE needsErr openErr
  rw [air40]
  by_cases h1 : checkErr wd xs = 0
  · by_cases h2 : windE wind = 0
    · simp [h1, h2]
    · simp [h1, h2]
  · simp [h1]
theorem needs_ok0 {wd : Int} {xs : List Int} {wind p : Int} (h : needsErr wd xs wind p = 0) : checkErr wd xs = 0 ∧ airErr wind 40 = 0 ∧ plotErr xs p 0 = 0 := by
  unfold needsErr openErr at h
  by_cases h1 : checkErr wd xs = 0
  · by_cases h2 : airErr wind 40 = 0
    · simp [h1, h2] at h; exact ⟨h1, h2, h⟩
    · simp [h1, h2] at h
  · simp [h1] at h
theorem openErr_ok {wd : Int} {xs : List Int} {wind voice : Int} (h : openErr wd xs wind voice = 0) : checkErr wd xs = 0 ∧ airErr wind voice = 0 := by
  unfold openErr at h
  by_cases h1 : checkErr wd xs = 0
  · simp [h1] at h; exact ⟨h1, h⟩
  · simp [h1] at h
theorem plot_ok {xs : List Int} {p k : Int} (h : plotErr xs p k = 0) : ∃ s : Nat, p = s ∧ s < xs.length ∧ xs.getD s 0 = k := by
  unfold plotErr at h
  by_cases h1 : p < 0 ∨ (xs.length : Int) ≤ p
  · rw [if_pos h1] at h; omega
  · rw [if_neg h1] at h
    by_cases h2 : xs.getD p.toNat 0 = k
    · exact ⟨p.toNat, by omega, by omega, h2⟩
    · rw [if_neg h2] at h; omega
theorem wind_ok {wind voice : Int} (h : airErr wind voice = 0) : 0 ≤ wind ∧ wind ≤ 4 ∧ 1 ≤ voice ∧ voice ≤ 40 := by
  unfold airErr at h
  by_cases h1 : wind < 0 ∨ 4 < wind ∨ voice < 1 ∨ 40 < voice
  · rw [if_pos h1] at h; omega
  · omega
theorem townOf_self (t : Hr.Town) : townOf t.wide t.plots = t := by unfold townOf; simp
theorem rd_plots {W : World} {a : Option Addr} {cap : Nat} {xs : List Int} (h : RdI W (.slice a xs.length cap) xs) (hl : xs.length ≤ 1000000) : Plots W a xs := by
  obtain ⟨_, a', cap', e1, hI⟩ := h
  injection e1 with e1 _ e3
  subst e1
  exact ⟨hI, by omega⟩
theorem rd_ints {W : World} {a : Option Addr} {n cap : Nat} {xs : List Int} (h : RdI W (.slice a n cap) xs) (h0 : xs ≠ []) : ∃ b o, a = some ⟨b, o, none⟩ ∧ n = xs.length ∧ Ints W b o xs := by
  obtain ⟨_, a', cap', e1, hI⟩ := h
  injection e1 with e1 e2 e3
  subst e1
  obtain ⟨b, o, e, hi⟩ := hI h0
  exact ⟨b, o, e, e2, hi⟩
/-- a town that is right, by name -/
theorem town_name {wd : Int} {xs : List Int} (h : checkErr wd xs = 0) : ∃ t : Hr.Town, t = townOf wd xs ∧ (t.wide : Int) = wd ∧ t.plots = xs ∧ t.Ok := by
  obtain ⟨h1, h2, _, _⟩ := town_ok h
  exact ⟨townOf wd xs, rfl, h2, rfl, h1⟩
theorem tab_own {w : World} {base tb : Nat} {T : List Int} (h : TabAt w tb T) (hb : base ≤ tb) (hl : T.length ≤ 1000000) : w.ownsRow base 3 1 (.slice (some ⟨tb, 0, none⟩) T.length T.length) T.length (T.map (Value.int .i64)) :=
  own_of_cells (g := tb) (e := 3) h hb (by simp) (by unfold maxLen; omega)
theorem own_none (w : World) (base : Nat) (e : TypeId) (size : Nat) : w.ownsRow base e size (.slice none 0 0) 0 [] := ⟨by simp, .inl ⟨rfl, rfl⟩⟩

/-- what Needs tells -/
def needsL (wd : Int) (xs : List Int) (wind p : Int) : List Int := if needsErr wd xs wind p = 0 then (townOf wd xs).needs wind p.toNat else []
theorem needsL_no {wd : Int} {xs : List Int} {wind p : Int} (h : needsErr wd xs wind p ≠ 0) : needsL wd xs wind p = [] := if_neg h
theorem needsL_ok (t : Hr.Town) {wind : Int} {s : Nat} (h : needsErr t.wide t.plots wind s = 0) : needsL t.wide t.plots wind s = t.needs wind s := by
  unfold needsL; rw [if_pos h, townOf_self]; simp
theorem needs_len {t : Hr.Town} (ok : t.Ok) (wind : Int) {s : Nat} (hs : s < t.len) : (t.needs wind s).length = t.len := (Hr.needs_fix ok wind hs).inv.len
theorem needs_errs {wd : Int} {xs : List Int} {wind p : Int} (h : needsErr wd xs wind p ≠ 0) : openErr wd xs wind 40 ≠ 0 ∧ needsErr wd xs wind p = openErr wd xs wind 40 ∨ checkErr wd xs = 0 ∧ airErr wind 40 = 0 ∧ plotErr xs p 0 ≠ 0 ∧ needsErr wd xs wind p = plotErr xs p 0 := by
  unfold needsErr at *
  by_cases h1 : openErr wd xs wind 40 = 0
  · rw [if_neg (by rw [h1]; simp)] at h ⊢
    unfold openErr at h1
    by_cases h2 : checkErr wd xs = 0
    · rw [if_neg (by rw [h2]; simp)] at h1
      exact .inr ⟨h2, h1, h, rfl⟩
    · rw [if_pos h2] at h1; exact absurd h1 h2
  · rw [if_pos h1]; exact .inl ⟨h1, rfl⟩

theorem Needs_no (wd wind p : Int) (a : Option Addr) (cap : Nat) (xs : List Int) (hl : xs.length ≤ 1000000) (w : World) (hR : RdI w (.slice a xs.length cap) xs) (h : needsErr wd xs wind p ≠ 0) :
    Calls Tryz.prog 43 #[.agg #[.int .i64 wd, .slice a xs.length cap], .int .i64 wind, .int .i64 p] w fun e w' => e = .returned (.tuple #[.slice none 0 0, .int .i64 (needsErr wd xs wind p)]) ∧ Below w.heap.size w w' := by
  rcases needs_errs h with ⟨h1, h2⟩ | ⟨h1, h2, h3, h4⟩
  · rw [h2]; exact Needs_err wd wind p a cap xs w (rd_plots hR hl) h1
  · rw [h4]
    have hne : xs ≠ [] := by rintro rfl; have := (check_len h1).2; simp at this
    obtain ⟨b, o, rfl, _, hI⟩ := rd_ints hR hne
    exact Needs_plot wd wind p b o cap xs w (rd_plots hR hl) hI (by have := (check_len h1).1; omega) h1 h2 h3
theorem Needs_yes (t : Hr.Town) (ok : t.Ok) (wind : Int) (s : Nat) (hs : s < t.len) (h : needsErr t.wide t.plots wind s = 0) (a : Option Addr) (cap : Nat) (w : World) (hR : RdI w (.slice a t.plots.length cap) t.plots) :
    Calls Tryz.prog 43 #[.agg #[.int .i64 t.wide, .slice a t.plots.length cap], .int .i64 wind, .int .i64 s] w fun e w' => ∃ tb, e = .returned (.tuple #[.slice (some ⟨tb, 0, none⟩) (t.needs wind s).length (t.needs wind s).length, .int .i64 0]) ∧ TabAt w' tb (t.needs wind s) ∧ w.heap.size ≤ tb ∧ Below w.heap.size w w' := by
  obtain ⟨h1, h2, h3⟩ := needs_ok0 h
  have h30 := (check_len h1).1
  have hne : t.plots ≠ [] := by intro e; have := (check_len h1).2; rw [e] at this; simp at this
  obtain ⟨b, o, rfl, _, hI⟩ := rd_ints hR hne
  obtain ⟨w0, w4, _, _⟩ := wind_ok h2
  rw [needs_len ok wind hs]
  exact Needs_ok t ok wind w0 w4 s b o cap hs w (rd_plots hR (by omega)) hI (by omega) h1 h2 h3
/-- Needs, whatever comes in -/
theorem Needs_any (wd wind p : Int) (a : Option Addr) (cap : Nat) (xs : List Int) (hl : xs.length ≤ 1000000) (w : World) (hR : RdI w (.slice a xs.length cap) xs) :
    Calls Tryz.prog 43 #[.agg #[.int .i64 wd, .slice a xs.length cap], .int .i64 wind, .int .i64 p] w fun e w' => ∃ v, e = .returned (.tuple #[v, .int .i64 (needsErr wd xs wind p)]) ∧
      w'.ownsRow w.heap.size 3 1 v (needsL wd xs wind p).length ((needsL wd xs wind p).map (Value.int .i64)) ∧ Below w.heap.size w w' := by
  by_cases h : needsErr wd xs wind p = 0
  · obtain ⟨h1, h2, h3⟩ := needs_ok0 h
    obtain ⟨t, ht, hw, hx, ok⟩ := town_name h1
    subst hw hx
    obtain ⟨s, rfl, hs, _⟩ := plot_ok h3
    rw [needsL_ok t h, h]
    refine (Needs_yes t ok wind s hs h a cap w hR).mono ?_
    rintro e w' ⟨tb, rfl, hT, htb, hB⟩
    exact ⟨_, rfl, tab_own hT htb (by rw [needs_len ok wind hs]; have := ok.n30; omega), hB⟩
  · rw [needsL_no h]
    refine (Needs_no wd wind p a cap xs hl w hR h).mono ?_
    rintro e w' ⟨rfl, hB⟩
    exact ⟨_, rfl, own_none _ _ _ _, hB⟩

/-- what Need tells -/
def needE (wd : Int) (xs : List Int) (wind p q : Int) : Int := if needsErr wd xs wind p ≠ 0 then needsErr wd xs wind p else reachErr (needsL wd xs wind p) q
def needV (wd : Int) (xs : List Int) (wind p q : Int) : Int := if needE wd xs wind p q = 0 then (needsL wd xs wind p).getD q.toNat 0 else 0
theorem Need_any (wd wind p q : Int) (a : Option Addr) (cap : Nat) (xs : List Int) (hl : xs.length ≤ 1000000) (w : World) (hR : RdI w (.slice a xs.length cap) xs) :
    Calls Tryz.prog 41 #[.agg #[.int .i64 wd, .slice a xs.length cap], .int .i64 wind, .int .i64 p, .int .i64 q] w fun e w' => e = .returned (.tuple #[.int .i64 (needV wd xs wind p q), .int .i64 (needE wd xs wind p q)]) ∧ Below w.heap.size w w' := by
  by_cases h : needsErr wd xs wind p = 0
  · obtain ⟨h1, h2, h3⟩ := needs_ok0 h
    obtain ⟨t, ht, hw, hx, ok⟩ := town_name h1
    subst hw hx
    obtain ⟨s, rfl, hs, _⟩ := plot_ok h3
    have hT : (t.needs wind s).length ≤ 40 := by rw [needs_len ok wind hs]; have := ok.n30; omega
    refine (Need_ok t.wide wind s q (.slice a t.plots.length cap) (t.needs wind s) w hT (fun W hB => Needs_yes t ok wind s hs h a cap W (hR.below hB))).mono ?_
    rintro e w' ⟨rfl, hB⟩
    refine ⟨?_, hB⟩
    have e1 : needE t.wide t.plots wind s q = reachErr (t.needs wind s) q := by unfold needE; rw [if_neg (by rw [h]; simp), needsL_ok t h]
    unfold needAns needV
    rw [e1, needsL_ok t h]
    by_cases hr : reachErr (t.needs wind s) q = 0
    · rw [if_neg (by rw [hr]; simp), if_pos hr]
    · rw [if_pos hr, if_neg hr]
  · refine (Need_err wd wind p q (needsErr wd xs wind p) (.slice a xs.length cap) w h (fun W hB => Needs_no wd wind p a cap xs hl W (hR.below hB) h)).mono ?_
    rintro e w' ⟨rfl, hB⟩
    have e1 : needE wd xs wind p q = needsErr wd xs wind p := by unfold needE; rw [if_pos h]
    refine ⟨?_, hB⟩
    unfold needV
    rw [e1, if_neg h]

/-- what Holds tells -/
def holdsE (wd : Int) (xs : List Int) (wind p : Int) (T : List Int) : Int := if needsErr wd xs wind p ≠ 0 then needsErr wd xs wind p else if T.length ≠ xs.length then 2 else 0
def holdsV (wd : Int) (xs : List Int) (wind p : Int) (T : List Int) : Bool := decide (holdsE wd xs wind p T = 0) && (decide (T.getD p.toNat 0 = 0) && agreesAll (townOf wd xs) wind T)
theorem Holds_any (wd wind p : Int) (a a2 : Option Addr) (cap cap2 : Nat) (xs T : List Int) (hl : xs.length ≤ 1000000) (hF : ∀ i, i < T.length → -9223372036854775808 ≤ T.getD i 0 ∧ T.getD i 0 ≤ 9223372036854775807) (w : World) (hR : RdI w (.slice a xs.length cap) xs) (hT : RdI w (.slice a2 T.length cap2) T) :
    Calls Tryz.prog 45 #[.agg #[.int .i64 wd, .slice a xs.length cap], .int .i64 wind, .int .i64 p, .slice a2 T.length cap2] w fun e w' => e = .returned (.tuple #[.bool (holdsV wd xs wind p T), .int .i64 (holdsE wd xs wind p T)]) ∧ Below w.heap.size w w' := by
  by_cases h : needsErr wd xs wind p = 0
  · obtain ⟨h1, h2, h3⟩ := needs_ok0 h
    have h30 := (check_len h1).1
    have hne : xs ≠ [] := by rintro rfl; have := (check_len h1).2; simp at this
    obtain ⟨b, o, rfl, _, hI⟩ := rd_ints hR hne
    obtain ⟨w0, w4, _, _⟩ := wind_ok h2
    obtain ⟨t, ht, hw, hx, ok⟩ := town_name h1
    subst hw hx
    obtain ⟨s, rfl, hs, _⟩ := plot_ok h3
    by_cases hc : T.length = t.plots.length
    · have e1 : holdsE t.wide t.plots wind s T = 0 := by unfold holdsE; rw [if_neg (by rw [h]; simp), if_neg (by simpa using hc)]
      have hTne : T ≠ [] := by rintro rfl; exact hne (List.length_eq_zero_iff.1 hc.symm)
      obtain ⟨tb, oo, rfl, _, hI2⟩ := rd_ints hT hTne
      by_cases h0 : T.getD s 0 = 0
      · refine (Holds_ok t ok wind w0 w4 s b o cap tb oo cap2 T hc hF hs w h0 (rd_plots hR hl) hI hI2 (by omega) h1 h2 h3).mono ?_
        rintro e w' ⟨rfl, hB⟩
        refine ⟨?_, hB⟩
        unfold holdsV
        rw [e1, townOf_self, Int.toNat_natCast, h0]
        simp
      · refine (Holds_no t wind s b o cap tb oo cap2 T hc hs w h0 (rd_plots hR hl) hI hI2 (by omega) h1 h2 h3).mono ?_
        rintro e w' ⟨rfl, hB⟩
        refine ⟨?_, hB⟩
        unfold holdsV
        rw [e1, Int.toNat_natCast, decide_eq_false h0]
        simp
    · have e1 : holdsE t.wide t.plots wind s T = 2 := by unfold holdsE; rw [if_neg (by rw [h]; simp), if_pos hc]
      refine (Holds_count t wind s b o cap a2 T.length cap2 w hc (rd_plots hR hl) hI (by omega) h1 h2 h3).mono ?_
      rintro e w' ⟨rfl, hB⟩
      refine ⟨?_, hB⟩
      unfold holdsV
      rw [e1]
      simp
  · have e1 : holdsE wd xs wind p T = needsErr wd xs wind p := by unfold holdsE; rw [if_pos h]
    have e2 : holdsV wd xs wind p T = false := by unfold holdsV; rw [e1]; simp [h]
    rw [e1, e2]
    rcases needs_errs h with ⟨h1, h2⟩ | ⟨h1, h2, h3, h4⟩
    · rw [h2]; exact Holds_err wd wind p a cap xs _ w (rd_plots hR hl) h1
    · rw [h4]
      have hne : xs ≠ [] := by rintro rfl; have := (check_len h1).2; simp at this
      obtain ⟨b, o, rfl, _, hI⟩ := rd_ints hR hne
      exact Holds_plot wd wind p b o cap xs _ w (rd_plots hR hl) hI (by have := (check_len h1).1; omega) h1 h2 h3

/-- a step that leads to more than it may -/
def badStep (t : Hr.Town) (wind : Int) (T : List Int) (p q : Nat) : Prop := 0 < Hr.stepI t wind p q ∧ T.getD p 0 + Hr.stepI t wind p q < T.getD q 0
theorem agrees_iff (t : Hr.Town) (ok : t.Ok) (wind : Int) (T : List Int) (hF : ∀ i, i < t.len → -9223372036854775808 ≤ T.getD i 0 ∧ T.getD i 0 ≤ 9223372036854775807) : agreesAll t wind T = true ↔ ∀ p q, p < t.len → q < t.len → ¬ badStep t wind T p q := by
  constructor
  · intro h p q hp hq ⟨b1, b2⟩
    have h1 := (List.all_eq_true.1 h) p (List.mem_range.2 hp)
    have h2 := (List.all_eq_true.1 h1) (q, Hr.stepI t wind p q) ((Hr.stepI_iff ok hp hq _).2 ⟨rfl, by omega⟩)
    have hq2 := hF q hq
    unfold stepOk at h2
    simp only [Bool.not_eq_true', Bool.and_eq_false_iff, decide_eq_false_iff_not] at h2
    omega
  · intro h
    refine List.all_eq_true.2 fun p hp => List.all_eq_true.2 fun x hx => ?_
    have hp := List.mem_range.1 hp
    have hq := Hr.steps_lt ok hx
    obtain ⟨h1, h2⟩ := (Hr.stepI_iff ok hp hq x.2).1 hx
    have hb := h p x.1 hp hq
    have hs := (Hr.stepI_nn ok (wind := wind) hp hq).1
    unfold badStep at hb
    unfold stepOk
    simp only [Bool.not_eq_true', Bool.and_eq_false_iff, decide_eq_false_iff_not]
    right
    rw [h1]
    omega
end Go.Proofs.YtimedmkpenbmkaaGreat
