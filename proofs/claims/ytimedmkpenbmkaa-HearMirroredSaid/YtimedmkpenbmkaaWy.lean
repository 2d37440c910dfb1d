import Derived.Test.YtimedmkpenbmkaaTk4
import Derived.Test.YtimedmkpenbmkaaW2
namespace Go.Proofs.Ytimedmkpenbmkaa
open Go.RowKit Go.Shelf
set_option linter.unusedSimpArgs false
set_option linter.unusedVariables false

/-- a list of plots as numbers -/
def natInts (l : List Nat) : List Int := l.map fun (p : Nat) => (p : Int)
theorem ofNats_eq (l : List Nat) : ofNats l = (natInts l).map (Value.int .i64) := by unfold ofNats natInts; rw [List.map_map]; rfl
theorem back_step {t : Hr.Town} (ok : t.Ok) {wind : Int} {T : List Int} {z p : Nat} (hp : p < t.len) (h : backAt t wind T z p = true) : stepZ t wind p z ≠ 0 ∧ T.getD p 0 + stepZ t wind p z = T.getD z 0 ∧ 1 ≤ stepZ t wind p z := by
  unfold backAt at h
  rw [List.any_eq_true] at h
  obtain ⟨⟨q, m⟩, hm, hq⟩ := h
  simp only [stepBack, Bool.and_eq_true, decide_eq_true_eq] at hq
  obtain ⟨rfl, hq2⟩ := hq
  obtain ⟨h1, h2⟩ := stepZ_yes ok hp hm
  have := Hr.steps_pos hm
  rw [h1]
  exact ⟨h2, hq2, this.1⟩
theorem before_good {t : Hr.Town} (ok : t.Ok) {wind : Int} {s z : Nat} (hs : s < t.len) {T : List Int} (h : t.Fix wind s T) (hz : z < t.len) (hne : T.getD z 0 ≠ -1) (hzs : z ≠ s) :
    ∃ p : Nat, p < t.len ∧ beforeP t wind T z = some p ∧ T.getD p 0 ≠ -1 ∧ 0 ≤ T.getD p 0 ∧ backAt t wind T z p = true := by
  obtain ⟨p, n, h1, h2, h3, h4⟩ := h.back ok hs hz hne hzs
  have hb : backAt t wind T z p = true := by
    unfold backAt
    rw [List.any_eq_true]
    exact ⟨(z, n), h2, by simp only [stepBack, Bool.and_eq_true, decide_eq_true_eq, true_and]; exact h4⟩
  cases hf : beforeP t wind T z with
  | none =>
    unfold beforeP at hf
    rw [List.find?_eq_none] at hf
    exact absurd hb (hf p (List.mem_range.2 h1))
  | some k =>
    have hk := List.find?_some hf
    have hm := List.mem_of_find?_eq_some hf
    have hkl := List.mem_range.1 hm
    have hk2 := hk
    unfold backAt at hk2
    rw [List.any_eq_true] at hk2
    obtain ⟨⟨q, m⟩, hm2, hq⟩ := hk2
    simp only [stepBack, Bool.and_eq_true, decide_eq_true_eq] at hq
    obtain ⟨rfl, _⟩ := hq
    obtain ⟨r1, r2⟩ := h.reached ok hkl hm2 hne
    exact ⟨k, hkl, rfl, r1, r2, hk⟩
theorem wayTail_good {t : Hr.Town} (ok : t.Ok) {wind : Int} {s : Nat} (hs : s < t.len) {T : List Int} (h : t.Fix wind s T) : ∀ (n z : Nat), z < t.len → T.getD z 0 ≠ -1 → T.getD z 0 < n →
    ∃ R : List Nat, (z :: wayTail t wind T s n z).reverse = s :: R ∧ ∀ rest, tkAll t wind s 0 (natInts R ++ rest) = tkAll t wind z (T.getD z 0) rest
  | 0, z, hz, hne, hlt => by have := h.inv.nn z hz; omega
  | n + 1, z, hz, hne, hlt => by
    by_cases hzs : z = s
    · subst hzs
      exact ⟨[], by simp [wayTail], fun rest => by rw [h.zero]; rfl⟩
    · obtain ⟨p, hp, hb, hn, h0, hbk⟩ := before_good ok hs h hz hne hzs
      obtain ⟨g1, g2, g3⟩ := back_step ok hp hbk
      obtain ⟨R, hR, hC⟩ := wayTail_good ok hs h n p hp hn (by omega)
      refine ⟨R ++ [z], ?_, fun rest => ?_⟩
      · rw [wayTail, if_neg hzs, hb]
        simp only
        rw [List.reverse_cons, hR]; rfl
      · have : natInts (R ++ [z]) ++ rest = natInts R ++ ((z : Int) :: rest) := by simp [natInts]
        rw [this, hC, tkAll, if_neg g1, g2]
        simp
theorem wayP_good {t : Hr.Town} (ok : t.Ok) {wind : Int} {s z : Nat} (hs : s < t.len) {T : List Int} (h : t.Fix wind s T) (hz : z < t.len) (hne : T.getD z 0 ≠ -1) :
    ∃ R : List Nat, wayP t wind T s z = s :: R ∧ tkAll t wind s 0 (natInts R) = (0, T.getD z 0) ∧ (wayP t wind T s z).length ≤ 1001 ∧ (wayP t wind T s z).getD ((wayP t wind T s z).length - 1) 0 = z := by
  have hb := h.inv.mu_bd z hz
  have h30 := ok.n30
  obtain ⟨R, h1, h2⟩ := wayTail_good ok hs h 1000 z hz hne (by omega)
  have hlen : ∀ n z, (wayTail t wind T s n z).length ≤ n := by
    intro n
    induction n with
    | zero => intro z; simp [wayTail]
    | succ n ih =>
      intro z
      rw [wayTail]
      split
      · simp
      · split
        · simp; exact ih _
        · simp
  have := h2 []
  rw [List.append_nil] at this
  refine ⟨R, h1, by rw [this]; rfl, ?_, ?_⟩
  · unfold wayP wayRev; simp; have := hlen 1000 z; omega
  · unfold wayP wayRev
    rw [List.reverse_cons]
    simp

/-- what Way tells -/
def wayL (wd : Int) (xs : List Int) (wind s q : Int) : List Int := if needE wd xs wind s q = 0 then natInts (wayP (townOf wd xs) wind (needsL wd xs wind s) s.toNat q.toNat) else []
theorem Way_any (wd wind p q : Int) (a : Option Addr) (cap : Nat) (xs : List Int) (hl : xs.length ≤ 1000000) (w : World) (hR : RdI w (.slice a xs.length cap) xs) :
    Calls Try.prog 36 #[.agg #[.int .i64 wd, .slice a xs.length cap], .int .i64 wind, .int .i64 p, .int .i64 q] w fun e w' => ∃ v, e = .returned (.tuple #[v, .int .i64 (needE wd xs wind p q)]) ∧
      w'.ownsRow w.heap.size 3 1 v (wayL wd xs wind p q).length ((wayL wd xs wind p q).map (Value.int .i64)) ∧ Below w.heap.size w w' := by
  by_cases h : needsErr wd xs wind p = 0
  · obtain ⟨h1, h2, h3⟩ := needs_ok0 h
    have hne : xs ≠ [] := by rintro rfl; have := (check_len h1).2; simp at this
    obtain ⟨b, o, rfl, _, hI⟩ := rd_ints hR hne
    obtain ⟨w0, w4, _, _⟩ := wind_ok h2
    obtain ⟨t, -, hw, hx, ok⟩ := town_name h1
    subst hw hx
    obtain ⟨s, rfl, hs, _⟩ := plot_ok h3
    have e1 : needE t.wide t.plots wind s q = reachErr (t.needs wind s) q := by unfold needE; rw [if_neg (by rw [h]; simp), needsL_ok t h]
    refine (Way_ok t ok wind w0 w4 s b o cap q hs _ rfl w (rd_plots hR hl) hI (by have := ok.n30; have : t.plots.length = t.len := rfl; omega) h1 h2 h3).mono ?_
    rintro e w' ⟨v, rfl, hB, g1, g2⟩
    refine ⟨v, by rw [e1], ?_, hB⟩
    by_cases h0 : reachErr (t.needs wind s) q = 0
    · have e2 : wayL t.wide t.plots wind s q = natInts (wayP t wind (t.needs wind s) s q.toNat) := by unfold wayL; rw [e1, if_pos h0, needsL_ok t h, townOf_self]; simp
      have := g2 h0
      rw [e2, ← ofNats_eq]
      have hn : (natInts (wayP t wind (t.needs wind s) s q.toNat)).length = (wayP t wind (t.needs wind s) s q.toNat).length := by simp [natInts]
      rw [hn]; exact this
    · have e2 : wayL t.wide t.plots wind s q = [] := by unfold wayL; rw [e1, if_neg h0]
      rw [e2, g1 h0]
      exact own_none _ _ _ _
  · have e1 : needE wd xs wind p q = needsErr wd xs wind p := by unfold needE; rw [if_pos h]
    have e2 : wayL wd xs wind p q = [] := by unfold wayL; rw [e1, if_neg h]
    rw [e1, e2]
    rcases needs_errs h with ⟨h1, h2⟩ | ⟨h1, h2, h3, h4⟩
    · rw [h2]
      refine (Way_err wd wind p a cap xs q w (rd_plots hR hl) h1).mono ?_
      rintro e w' ⟨rfl, hB⟩
      exact ⟨_, rfl, own_none _ _ _ _, hB⟩
    · rw [h4]
      have hne : xs ≠ [] := by rintro rfl; have := (check_len h1).2; simp at this
      obtain ⟨b, o, rfl, _, hI⟩ := rd_ints hR hne
      refine (Way_plot wd wind p b o cap xs q w (rd_plots hR hl) hI (by have := (check_len h1).1; omega) h1 h2 h3).mono ?_
      rintro e w' ⟨rfl, hB⟩
      exact ⟨_, rfl, own_none _ _ _ _, hB⟩
/-- a way that is told is one, and needs what is told -/
theorem way_takes {wd : Int} {xs : List Int} {wind s q : Int} (h : needE wd xs wind s q = 0) : takesE wd xs wind (wayL wd xs wind s q) = 0 ∧ takesV wd xs wind (wayL wd xs wind s q) = needV wd xs wind s q ∧ 1 ≤ (wayL wd xs wind s q).length ∧ (wayL wd xs wind s q).length ≤ 1001 ∧
    (wayL wd xs wind s q).getD 0 0 = s ∧ (wayL wd xs wind s q).getD ((wayL wd xs wind s q).length - 1) 0 = q := by
  have hN : needsErr wd xs wind s = 0 := by
    by_cases h0 : needsErr wd xs wind s = 0
    · exact h0
    · unfold needE at h; rw [if_pos h0] at h; exact absurd h h0
  obtain ⟨h1, h2, h3⟩ := needs_ok0 hN
  obtain ⟨t, -, hw, hx, ok⟩ := town_name h1
  subst hw hx
  obtain ⟨p, rfl, hp, _⟩ := plot_ok h3
  have hr : reachErr (t.needs wind p) q = 0 := by unfold needE at h; rw [if_neg (by rw [hN]; simp), needsL_ok t hN] at h; exact h
  have hnl := needs_len ok wind hp
  obtain ⟨z, rfl, hz, hne⟩ : ∃ z : Nat, q = z ∧ z < t.len ∧ (t.needs wind p).getD z 0 ≠ -1 := by
    unfold reachErr at hr
    by_cases g : q < 0 ∨ ((t.needs wind p).length : Int) ≤ q
    · rw [if_pos g] at hr; cases hr
    · rw [if_neg g] at hr
      refine ⟨q.toNat, by omega, by omega, fun e => ?_⟩
      rw [if_pos e] at hr; cases hr
  have eV : needV t.wide t.plots wind p z = (t.needs wind p).getD z 0 := by unfold needV; rw [if_pos h, needsL_ok t hN]; simp
  have eL : wayL t.wide t.plots wind p z = natInts (wayP t wind (t.needs wind p) p z) := by unfold wayL; rw [if_pos h, needsL_ok t hN, townOf_self]; simp
  obtain ⟨R, g1, g2, g3, g4⟩ := wayP_good ok hp (Hr.needs_fix ok wind hp) hz hne
  have eO : openErr t.wide t.plots wind 40 = 0 := by unfold openErr; rw [if_neg (by rw [h1]; simp)]; exact h2
  have hlen : (natInts (wayP t wind (t.needs wind p) p z)).length = (wayP t wind (t.needs wind p) p z).length := by simp [natInts]
  have eT : takesE t.wide t.plots wind (wayL t.wide t.plots wind p z) = 0 := by
    rw [eL, g1]
    unfold takesE natInts
    rw [if_neg (by rw [eO]; simp)]
    simp only [List.map_cons]
    rw [if_neg (by rw [h3]; simp), townOf_self, Int.toNat_natCast]
    exact congrArg Prod.fst g2
  refine ⟨eT, ?_, ?_, ?_, ?_, ?_⟩
  · unfold takesV
    rw [if_pos eT, eL, g1, eV]
    unfold natInts
    simp only [List.map_cons]
    rw [townOf_self, Int.toNat_natCast]
    exact congrArg Prod.snd g2
  · rw [eL, hlen, g1]; simp
  · rw [eL, hlen]; exact g3
  · rw [eL, g1]; simp [natInts]
  · rw [eL, hlen]
    have : (natInts (wayP t wind (t.needs wind p) p z)).getD ((wayP t wind (t.needs wind p) p z).length - 1) 0 = (((wayP t wind (t.needs wind p) p z).getD ((wayP t wind (t.needs wind p) p z).length - 1) 0 : Nat) : Int) := by
      unfold natInts
      simp only [List.getD_eq_getElem?_getD, List.getElem?_map]
      cases (wayP t wind (t.needs wind p) p z)[(wayP t wind (t.needs wind p) p z).length - 1]? <;> simp
    rw [this, g4]
end Go.Proofs.Ytimedmkpenbmkaa
