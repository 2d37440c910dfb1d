import Derived.Test.YtimedmkpenbmkaaGreatMathR
namespace Go.Proofs.YtimedmkpenbmkaaGreat.Hr
set_option linter.unusedSimpArgs false
set_option linter.unusedVariables false

/-! ### ways back, and ways in other winds -/
def hs (t : Town) (q : Nat) : Int := if t.at q = 1 then 1 else 0
theorem stepOf_flip (wind : Int) : stepOf (flip wind) = back (stepOf wind) := by
  by_cases h1 : wind = 1
  · subst h1; rfl
  · by_cases h2 : wind = 2
    · subst h2; rfl
    · by_cases h3 : wind = 3
      · subst h3; rfl
      · by_cases h4 : wind = 4
        · subst h4; rfl
        · have e1 : stepOf wind = (0, 0) := by unfold stepOf; split <;> simp_all
          have e2 : flip wind = wind := by unfold flip; split <;> simp_all
          rw [e2, e1]; rfl
theorem flip_flip (wind : Int) : flip (flip wind) = wind := by
  by_cases h1 : wind = 1
  · subst h1; rfl
  · by_cases h2 : wind = 2
    · subst h2; rfl
    · by_cases h3 : wind = 3
      · subst h3; rfl
      · by_cases h4 : wind = 4
        · subst h4; rfl
        · have e2 : flip wind = wind := by unfold flip; split <;> simp_all
          rw [e2, e2]
theorem back_back (s : Int × Int) : back (back s) = s := by unfold back; simp
theorem back_inj {s u : Int × Int} : back s = back u ↔ s = u := ⟨fun h => by rw [← back_back s, h, back_back], fun h => by rw [h]⟩
theorem cost_rev (t : Town) (wind : Int) (s : Int × Int) (p q : Nat) : t.cost (flip wind) (back s) p = t.cost wind s q - hs t q + hs t p := by
  unfold Town.cost hs
  rw [stepOf_flip, back_back]
  have e : (back s = stepOf wind) ↔ (s = back (stepOf wind)) := ⟨fun h => by rw [← h, back_back], fun h => by rw [h, back_back]⟩
  by_cases h1 : s = stepOf wind
  · rw [if_pos (back_inj.2 h1), if_pos h1]; omega
  · rw [if_neg (fun h => h1 (back_inj.1 h)), if_neg h1]
    by_cases h2 : s = back (stepOf wind)
    · rw [if_pos (e.2 h2), if_pos h2]; omega
    · rw [if_neg (fun h => h2 (e.1 h)), if_neg h2]; omega
theorem steps_rev {t : Town} (ok : t.Ok) {wind : Int} {p q : Nat} {n : Int} (hp : p < t.len) (h : (q, n) ∈ t.steps wind p) : (p, n - hs t q + hs t p) ∈ t.steps (flip wind) q := by
  unfold Town.steps at *
  obtain ⟨⟨q', s⟩, h1, h2⟩ := List.mem_map.1 h
  simp only [Prod.mk.injEq] at h2
  obtain ⟨rfl, rfl⟩ := h2
  have hb := around_back ok hp h1
  refine List.mem_map.2 ⟨(p, back s), hb, ?_⟩
  simp only [Prod.mk.injEq, true_and]
  exact cost_rev t wind s p q'
theorem Town.Way.cons {t : Town} {wind : Int} {p q : Nat} {n : Int} (h : (q, n) ∈ t.steps wind p) {r : Nat} {c : Int} (w : t.Way wind q r c) : t.Way wind p r (n + c) := by
  induction w with
  | here => have := Town.Way.on (Town.Way.here (t := t) (wind := wind) (s := p)) h; rwa [Int.zero_add, ← Int.add_zero n] at this
  | on h1 h2 ih => have := Town.Way.on ih h2; rwa [Int.add_assoc] at this
theorem Town.Way.rev {t : Town} (ok : t.Ok) {wind : Int} {s : Nat} (hs' : s < t.len) {q : Nat} {c : Int} (w : t.Way wind s q c) : t.Way (flip wind) q s (c - hs t q + hs t s) := by
  induction w with
  | here => rw [show (0 : Int) - hs t s + hs t s = 0 by omega]; exact .here
  | @on p q c n h1 h2 ih =>
    have hr := steps_rev ok (way_lt ok hs' h1) h2
    have := Town.Way.cons hr ih
    rwa [show n - hs t q + hs t p + (c - hs t p + hs t s) = c + n - hs t q + hs t s by omega] at this
/-- back in the wind that blows the other way -/
theorem needs_rev {t : Town} (ok : t.Ok) (wind : Int) {s p : Nat} (hsl : s < t.len) (hpl : p < t.len) (h0 : t.at s = 0) (h1 : t.at p = 0) : (t.needs (flip wind) p).getD s 0 = (t.needs wind s).getD p 0 := by
  have key : ∀ (wd : Int) (a b : Nat), a < t.len → b < t.len → t.at a = 0 → t.at b = 0 → (t.needs wd a).getD b 0 ≠ -1 → (t.needs (flip wd) b).getD a 0 ≠ -1 ∧ (t.needs (flip wd) b).getD a 0 ≤ (t.needs wd a).getD b 0 := by
    intro wd a b ha hb h0 h1 hn
    have hw := (needs_fix ok wd ha).inv.way b hb hn
    have hr := hw.rev ok ha
    have e : (t.needs wd a).getD b 0 - hs t b + hs t a = (t.needs wd a).getD b 0 := by unfold hs; rw [h0, h1]; simp
    rw [e] at hr
    exact (needs_fix ok (flip wd) hb).le ok hb hr
  have k1 := key wind s p hsl hpl h0 h1
  have k2 := key (flip wind) p s hpl hsl h1 h0
  rw [flip_flip] at k2
  by_cases a : (t.needs wind s).getD p 0 = -1
  · by_cases b : (t.needs (flip wind) p).getD s 0 = -1
    · rw [a, b]
    · exact absurd a (k2 b).1
  · obtain ⟨b1, b2⟩ := k1 a
    have := (k2 b1).2
    omega
theorem around_step {t : Town} {p q : Nat} {s : Int × Int} (h : (q, s) ∈ t.around p) : s ≠ (0, 0) := by
  obtain ⟨_, d, hd, rfl, _⟩ := around_mem.1 h
  simp only [List.mem_cons, List.not_mem_nil, or_false] at hd
  rcases hd with rfl | rfl | rfl | rfl <;> decide
theorem steps_twice {t : Town} {w w' : Int} (hz : w = 0 ∨ w' = 0) {p q : Nat} {n : Int} (h : (q, n) ∈ t.steps w p) : ∃ n', (q, n') ∈ t.steps w' p ∧ n' ≤ 2 * n := by
  unfold Town.steps at *
  obtain ⟨⟨q', s⟩, h1, h2⟩ := List.mem_map.1 h
  simp only [Prod.mk.injEq] at h2
  obtain ⟨rfl, rfl⟩ := h2
  refine ⟨t.cost w' s q', List.mem_map.2 ⟨(q', s), h1, rfl⟩, ?_⟩
  have hs0 := around_step h1
  have hz0 : stepOf 0 = (0, 0) := rfl
  have hb0 : back (stepOf 0) = (0, 0) := rfl
  unfold Town.cost
  rcases hz with rfl | rfl
  · rw [hb0, hz0, if_neg hs0, if_neg hs0]
    split <;> split <;> (try split) <;> omega
  · rw [hb0, hz0, if_neg hs0, if_neg hs0]
    split <;> split <;> (try split) <;> omega
theorem Town.Way.twice {t : Town} {w w' : Int} (hz : w = 0 ∨ w' = 0) {s q : Nat} {c : Int} (h : t.Way w s q c) : ∃ c', t.Way w' s q c' ∧ c' ≤ 2 * c := by
  induction h with
  | here => exact ⟨0, .here, by omega⟩
  | on h1 h2 ih =>
    obtain ⟨c', hc, hle⟩ := ih
    obtain ⟨n', hn, hle2⟩ := steps_twice hz h2
    exact ⟨c' + n', .on hc hn, by omega⟩
theorem needs_twice {t : Town} (ok : t.Ok) {w w' : Int} (hz : w = 0 ∨ w' = 0) {s p : Nat} (hsl : s < t.len) (hpl : p < t.len) (hn : (t.needs w s).getD p 0 ≠ -1) : (t.needs w' s).getD p 0 ≠ -1 ∧ (t.needs w' s).getD p 0 ≤ 2 * (t.needs w s).getD p 0 := by
  obtain ⟨c', hc, hle⟩ := ((needs_fix ok w hsl).inv.way p hpl hn).twice hz
  have := (needs_fix ok w' hsl).le ok hsl hc
  exact ⟨this.1, by omega⟩
end Go.Proofs.YtimedmkpenbmkaaGreat.Hr
