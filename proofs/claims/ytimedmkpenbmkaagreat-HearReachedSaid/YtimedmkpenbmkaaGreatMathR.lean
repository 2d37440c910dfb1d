import Derived.Test.YtimedmkpenbmkaaGreatMath
namespace Go.Proofs.YtimedmkpenbmkaaGreat.Hr
set_option linter.unusedSimpArgs false
set_option linter.unusedVariables false

/-! ### the reference's step, and its tables -/
def stepI (t : Town) (wind : Int) (p q : Nat) : Int :=
  if t.at q = 2 ∨ t.at p = 2 then 0 else
  if (((q / t.wide : Nat) : Int) - (p / t.wide : Nat)) * (((q / t.wide : Nat) : Int) - (p / t.wide : Nat)) + (((q % t.wide : Nat) : Int) - (p % t.wide : Nat)) * (((q % t.wide : Nat) : Int) - (p % t.wide : Nat)) ≠ 1 then 0 else
  (if alongI wind (((q / t.wide : Nat) : Int) - (p / t.wide : Nat)) (((q % t.wide : Nat) : Int) - (p % t.wide : Nat)) = -1 then 4 else if alongI wind (((q / t.wide : Nat) : Int) - (p / t.wide : Nat)) (((q % t.wide : Nat) : Int) - (p % t.wide : Nat)) = 1 then 1 else 2) + t.at q % 2
where alongI (wind down right : Int) : Int := if wind = 1 then -down else if wind = 2 then right else if wind = 3 then down else if wind = 4 then -right else 0

theorem nbr_iff {t : Town} (ok : t.Ok) {p q : Nat} (hp : p < t.len) (hq : q < t.len) (s : Int × Int) : t.nbr p s = some q ↔ (((q / t.wide : Nat) : Int) - (p / t.wide : Nat) = s.1 ∧ ((q % t.wide : Nat) : Int) - (p % t.wide : Nat) = s.2) := by
  have hw := ok.w1
  have hrow : q / t.wide < t.rows := by
    rw [Nat.div_lt_iff_lt_mul (by omega)]; have := ok.whole; omega
  have hcol : q % t.wide < t.wide := Nat.mod_lt _ (by omega)
  unfold Town.nbr
  simp only
  constructor
  · intro h
    split at h
    · cases h
    · rename_i hc
      injection h with h
      rw [not_or, not_or, not_or] at hc
      obtain ⟨c1, c2, c3, c4⟩ := hc
      generalize hA : ((p / t.wide : Nat) : Int) + s.1 = A at *
      generalize hB : ((p % t.wide : Nat) : Int) + s.2 = B at *
      have h1 : A.toNat = q / t.wide ∧ B.toNat = q % t.wide := by
        have hlt : B.toNat < t.wide := by omega
        rw [← h]
        constructor
        · rw [Nat.mul_comm, Nat.mul_add_div (by omega), Nat.div_eq_of_lt hlt, Nat.add_zero]
        · rw [Nat.mul_comm, Nat.mul_add_mod, Nat.mod_eq_of_lt hlt]
      rw [← h1.1, ← h1.2]
      omega
  · rintro ⟨h1, h2⟩
    have e1 : ((p / t.wide : Nat) : Int) + s.1 = (q / t.wide : Nat) := by omega
    have e2 : ((p % t.wide : Nat) : Int) + s.2 = (q % t.wide : Nat) := by omega
    have hneg : ¬ (((q / t.wide : Nat) : Int) < 0 ∨ ((q / t.wide : Nat) : Int) ≥ (t.rows : Int) ∨ ((q % t.wide : Nat) : Int) < 0 ∨ ((q % t.wide : Nat) : Int) ≥ (t.wide : Int)) := by
      generalize q / t.wide = A at *
      generalize q % t.wide = B at *
      omega
    rw [e1, e2, if_neg hneg, Int.toNat_natCast, Int.toNat_natCast]
    congr 1
    have := Nat.div_add_mod q t.wide
    rw [Nat.mul_comm] at this
    exact this

theorem mem_steps {t : Town} {wind : Int} {p q : Nat} {n : Int} : (q, n) ∈ t.steps wind p ↔ t.at p ≠ 2 ∧ t.at q ≠ 2 ∧ ∃ d : Int, (d = 1 ∨ d = 2 ∨ d = 3 ∨ d = 4) ∧ t.nbr p (stepOf d) = some q ∧ n = t.cost wind (stepOf d) q := by
  unfold Town.steps Town.around
  constructor
  · intro h
    obtain ⟨⟨q', s⟩, hm, e⟩ := List.mem_map.1 h
    simp only [Prod.mk.injEq] at e
    obtain ⟨rfl, rfl⟩ := e
    by_cases hw : t.wall p = true
    · rw [if_pos hw] at hm; cases hm
    · rw [if_neg hw] at hm
      obtain ⟨d, hd, h2⟩ := List.mem_filterMap.1 hm
      unfold Town.aroundAt at h2
      cases hn : t.nbr p (stepOf d) with
      | none => rw [hn] at h2; cases h2
      | some x =>
        rw [hn] at h2
        simp only at h2
        by_cases hwx : t.wall x = true
        · rw [if_pos hwx] at h2; cases h2
        · rw [if_neg hwx] at h2
          injection h2 with h2
          simp only [Prod.mk.injEq] at h2
          obtain ⟨rfl, rfl⟩ := h2
          refine ⟨fun e => hw (by simp [Town.wall, e]), fun e => hwx (by simp [Town.wall, e]), d, by simpa using hd, hn, rfl⟩
  · rintro ⟨h1, h2, d, hd, hn, rfl⟩
    refine List.mem_map.2 ⟨(q, stepOf d), ?_, rfl⟩
    rw [if_neg (by simp [Town.wall, h1])]
    refine List.mem_filterMap.2 ⟨d, by simpa using hd, ?_⟩
    unfold Town.aroundAt
    rw [hn]
    simp only
    rw [if_neg (by simp [Town.wall, h2])]

theorem stepI_iff {t : Town} (ok : t.Ok) {wind : Int} {p q : Nat} (hp : p < t.len) (hq : q < t.len) (n : Int) : (q, n) ∈ t.steps wind p ↔ (n = stepI t wind p q ∧ stepI t wind p q ≠ 0) := by
  have hk := ok.kinds q hq
  have hc : t.at q ≠ 2 → t.at q % 2 = if t.at q = 1 then 1 else 0 := fun h => by
    rcases hk with h1 | h1 | h1
    · rw [h1]; rfl
    · rw [h1]; rfl
    · exact absurd h1 h
  rw [mem_steps]
  unfold stepI
  by_cases h2 : t.at q = 2 ∨ t.at p = 2
  · rw [if_pos h2]
    constructor
    · rintro ⟨a, b, _⟩; omega
    · rintro ⟨_, h⟩; exact absurd rfl h
  · rw [if_neg h2]
    have hcq := hc (by omega)
    have hnb := fun s => nbr_iff ok hp hq s
    generalize ((q / t.wide : Nat) : Int) - (p / t.wide : Nat) = down at *
    generalize ((q % t.wide : Nat) : Int) - (p % t.wide : Nat) = right at *
    constructor
    · rintro ⟨_, _, d, hd, hn, rfl⟩
      obtain ⟨e1, e2⟩ := (hnb _).1 hn
      have hs : down * down + right * right = 1 := by
        rw [e1, e2]; rcases hd with rfl | rfl | rfl | rfl <;> rfl
      rw [if_neg (by omega)]
      have hcost : t.cost wind (stepOf d) q = (if stepI.alongI wind down right = -1 then 4 else if stepI.alongI wind down right = 1 then 1 else 2) + t.at q % 2 := by
        unfold Town.cost
        rw [hcq, e1, e2]
        congr 1
        unfold stepI.alongI back stepOf
        rcases hd with rfl | rfl | rfl | rfl
        all_goals
          by_cases w1 : wind = 1
          · subst w1; decide
          · by_cases w2 : wind = 2
            · subst w2; decide
            · by_cases w3 : wind = 3
              · subst w3; decide
              · by_cases w4 : wind = 4
                · subst w4; decide
                · simp [w1, w2, w3, w4]
      refine ⟨hcost, ?_⟩
      rw [← hcost]
      have := (cost_pos t wind (stepOf d) q).1
      omega
    · rintro ⟨hn, h0⟩
      by_cases hs : down * down + right * right ≠ 1
      · rw [if_pos hs] at h0; exact absurd rfl h0
      · rw [if_neg hs] at hn
        have hd : ∃ d : Int, (d = 1 ∨ d = 2 ∨ d = 3 ∨ d = 4) ∧ down = (stepOf d).1 ∧ right = (stepOf d).2 := by
          have h1 : -1 ≤ down ∧ down ≤ 1 := by
            constructor
            · false_or_by_contra; rename_i h; have := Int.mul_self_le_mul_self (a := 2) (b := -down) (by omega) (by omega)
              have h3 : 0 ≤ right * right := by rcases Int.le_total 0 right with h4 | h4; exact Int.mul_nonneg h4 h4; exact Int.mul_nonneg_of_nonpos_of_nonpos h4 h4
              rw [Int.neg_mul_neg] at this; omega
            · false_or_by_contra; rename_i h; have := Int.mul_self_le_mul_self (a := 2) (b := down) (by omega) (by omega)
              have h3 : 0 ≤ right * right := by rcases Int.le_total 0 right with h4 | h4; exact Int.mul_nonneg h4 h4; exact Int.mul_nonneg_of_nonpos_of_nonpos h4 h4
              omega
          have h2 : -1 ≤ right ∧ right ≤ 1 := by
            constructor
            · false_or_by_contra; rename_i h; have := Int.mul_self_le_mul_self (a := 2) (b := -right) (by omega) (by omega)
              have h3 : 0 ≤ down * down := by rcases Int.le_total 0 down with h4 | h4; exact Int.mul_nonneg h4 h4; exact Int.mul_nonneg_of_nonpos_of_nonpos h4 h4
              rw [Int.neg_mul_neg] at this; omega
            · false_or_by_contra; rename_i h; have := Int.mul_self_le_mul_self (a := 2) (b := right) (by omega) (by omega)
              have h3 : 0 ≤ down * down := by rcases Int.le_total 0 down with h4 | h4; exact Int.mul_nonneg h4 h4; exact Int.mul_nonneg_of_nonpos_of_nonpos h4 h4
              omega
          have e1 : down = -1 ∨ down = 0 ∨ down = 1 := by omega
          have e2 : right = -1 ∨ right = 0 ∨ right = 1 := by omega
          rcases e1 with rfl | rfl | rfl <;> rcases e2 with rfl | rfl | rfl <;> first | (exfalso; revert hs; decide) | exact ⟨1, by decide, by decide, by decide⟩ | exact ⟨2, by decide, by decide, by decide⟩ | exact ⟨3, by decide, by decide, by decide⟩ | exact ⟨4, by decide, by decide, by decide⟩
        obtain ⟨d, hd, e1, e2⟩ := hd
        refine ⟨by omega, by omega, d, hd, (hnb _).2 ⟨e1, e2⟩, ?_⟩
        rw [hn]
        unfold Town.cost
        rw [hcq, e1, e2]
        congr 1
        unfold stepI.alongI back stepOf
        rcases hd with rfl | rfl | rfl | rfl
        all_goals
          by_cases w1 : wind = 1
          · subst w1; decide
          · by_cases w2 : wind = 2
            · subst w2; decide
            · by_cases w3 : wind = 3
              · subst w3; decide
              · by_cases w4 : wind = 4
                · subst w4; decide
                · simp [w1, w2, w3, w4]

theorem way_lt {t : Town} (ok : t.Ok) {wind : Int} {s : Nat} (hs : s < t.len) {p : Nat} {c : Int} (h : t.Way wind s p c) : p < t.len := by
  cases h with
  | here => exact hs
  | on _ h2 => exact steps_lt ok h2
theorem Town.Fix.le {t : Town} (ok : t.Ok) {wind : Int} {s : Nat} (hs : s < t.len) {T : List Int} (h : t.Fix wind s T) {p : Nat} {c : Int} (hw : t.Way wind s p c) : T.getD p 0 ≠ -1 ∧ T.getD p 0 ≤ c := by
  induction hw with
  | here => rw [h.zero]; omega
  | on h1 h2 ih =>
    obtain ⟨a, b⟩ := ih
    obtain ⟨c', d⟩ := h.low _ (way_lt ok hs h1) a _ _ h2
    exact ⟨c', by omega⟩
theorem Town.Fix.uniq {t : Town} (ok : t.Ok) {wind : Int} {s : Nat} (hs : s < t.len) {T U : List Int} (h : t.Fix wind s T) (k : t.Fix wind s U) : T = U := by
  apply List.ext_getElem (by rw [h.inv.len, k.inv.len])
  intro p h1 h2
  have hp : p < t.len := by rw [← h.inv.len]; exact h1
  have a : T.getD p 0 ≠ -1 → U.getD p 0 ≠ -1 ∧ U.getD p 0 ≤ T.getD p 0 := fun hn => k.le ok hs (h.inv.way p hp hn)
  have b : U.getD p 0 ≠ -1 → T.getD p 0 ≠ -1 ∧ T.getD p 0 ≤ U.getD p 0 := fun hn => h.le ok hs (k.inv.way p hp hn)
  have e : T.getD p 0 = U.getD p 0 := by
    by_cases hn : T.getD p 0 = -1
    · by_cases hm : U.getD p 0 = -1
      · omega
      · have := b hm; omega
    · have := a hn; have := b this.1; omega
  simpa [List.getElem?_eq_getElem h1, List.getElem?_eq_getElem h2] using e
/-! ### the reference's loudness: lowered pair by pair -/
def closedAt (t : Town) (wind : Int) (T : List Int) (p q : Nat) : Prop := 0 < stepI t wind p q → 0 ≤ T.getD p 0 → 0 ≤ T.getD q 0 ∧ T.getD q 0 ≤ T.getD p 0 + stepI t wind p q
def upd (t : Town) (wind : Int) (T : List Int) (p q : Nat) : Prop := 0 < stepI t wind p q ∧ 0 ≤ T.getD p 0 ∧ (T.getD q 0 < 0 ∨ T.getD p 0 + stepI t wind p q < T.getD q 0)
structure RN (t : Town) (wind : Int) (s : Nat) (T0 T : List Int) (ch : Bool) (p q : Nat) : Prop where
  inv : t.Inv wind s T
  zero : T.getD s 0 = 0
  yes : ch = true → mu T < mu T0
  no : ch = false → T = T0 ∧ ∀ p' q', q' < t.len → (p' < p ∨ (p' = p ∧ q' < q)) → closedAt t wind T p' q'
theorem stepI_nn {t : Town} (ok : t.Ok) {wind : Int} {p q : Nat} (hp : p < t.len) (hq : q < t.len) : 0 ≤ stepI t wind p q ∧ stepI t wind p q ≤ 5 := by
  by_cases h : stepI t wind p q = 0
  · omega
  · have := (stepI_iff ok hp hq (stepI t wind p q)).2 ⟨rfl, h⟩
    have := steps_pos this
    omega
theorem RN.keep {t : Town} {wind : Int} {s : Nat} {T0 T : List Int} {ch : Bool} {p q : Nat} (h : RN t wind s T0 T ch p q) (hu : ¬ upd t wind T p q) : RN t wind s T0 T ch p (q + 1) := by
  refine ⟨h.inv, h.zero, h.yes, fun hc => ⟨(h.no hc).1, fun p' q' hq' hh => ?_⟩⟩
  by_cases he : p' = p ∧ q' = q
  · obtain ⟨rfl, rfl⟩ := he
    intro h1 h2
    unfold upd at hu
    omega
  · exact (h.no hc).2 p' q' hq' (by omega)
theorem RN.set {t : Town} (ok : t.Ok) {wind : Int} {s : Nat} {T0 T : List Int} {ch : Bool} {p q : Nat} (h : RN t wind s T0 T ch p q) (hp : p < t.len) (hq : q < t.len) (hu : upd t wind T p q) :
    RN t wind s T0 (T.set q (T.getD p 0 + stepI t wind p q)) true p (q + 1) := by
  obtain ⟨u1, u2, u3⟩ := hu
  have hm := (stepI_iff ok hp hq (stepI t wind p q)).2 ⟨rfl, by omega⟩
  have hnn := h.inv.nn q hq
  have hlow := lower1_inv (b := false) ok h.inv hp (by omega) hm
  have hl1 : lower1 p (T, false) (q, stepI t wind p q) = (T.set q (T.getD p 0 + stepI t wind p q), true) := by
    unfold lower1
    simp only
    have hne : ¬ (T.getD q 0 ≠ -1 ∧ T.getD q 0 < T.getD p 0 + stepI t wind p q) := by omega
    rw [if_neg hne, if_pos (by omega)]
  rw [hl1] at hlow
  have hmu : mu (T.set q (T.getD p 0 + stepI t wind p q)) < mu T := by
    rcases hlow.2 with h1 | h1
    · injection h1 with _ h1; cases h1
    · exact h1.2
  refine ⟨hlow.1, ?_, fun _ => ?_, fun hc => by cases hc⟩
  · rw [getD_set _ _ _ _ (by rw [h.inv.len]; exact hq)]
    split
    · rename_i e; subst e; have := h.zero; omega
    · exact h.zero
  · cases ch with
    | true => have := h.yes rfl; omega
    | false => rw [← (h.no rfl).1]; exact hmu
theorem RN.next {t : Town} {wind : Int} {s : Nat} {T0 T : List Int} {ch : Bool} {p : Nat} (h : RN t wind s T0 T ch p t.len) : RN t wind s T0 T ch (p + 1) 0 :=
  ⟨h.inv, h.zero, h.yes, fun hc => ⟨(h.no hc).1, fun p' q' hq' hh => (h.no hc).2 p' q' hq' (by omega)⟩⟩
theorem RN.again {t : Town} {wind : Int} {s : Nat} {T0 T : List Int} {ch : Bool} {p q : Nat} (h : RN t wind s T0 T ch p q) : RN t wind s T T false 0 0 :=
  ⟨h.inv, h.zero, fun hc => (by cases hc), fun _ => ⟨rfl, fun p' q' _ hh => by omega⟩⟩
theorem RN.fin {t : Town} (ok : t.Ok) {wind : Int} {s : Nat} {T0 T : List Int} (h : RN t wind s T0 T false t.len 0) : t.Fix wind s T := by
  refine ⟨h.inv, h.zero, fun p hp hne q n hm => ?_⟩
  have hq := steps_lt ok hm
  obtain ⟨rfl, h0⟩ := (stepI_iff ok hp hq n).1 hm
  have hnn := h.inv.nn p hp
  have hs := (stepI_nn ok (wind := wind) hp hq).1
  obtain ⟨a, b⟩ := (h.no rfl).2 p q hq (.inl hp) (by omega) (by omega)
  omega
theorem RN.start {t : Town} (ok : t.Ok) {wind : Int} {s : Nat} (hs : s < t.len) : RN t wind s (t.start s) (t.start s) false 0 0 := by
  have h0 : (t.start s).getD s 0 = 0 := by unfold Town.start; rw [getD_set _ _ _ _ (by simpa using hs), if_pos rfl]
  exact ⟨start_inv ok hs, h0, fun hc => (by cases hc), fun _ => ⟨rfl, fun p' q' _ hh => by omega⟩⟩
theorem RN.bd {t : Town} (ok : t.Ok) {wind : Int} {s : Nat} {T0 T : List Int} {ch : Bool} {p q : Nat} (h : RN t wind s T0 T ch p q) : ∀ i, i < t.len → -1 ≤ T.getD i 0 ∧ T.getD i 0 ≤ 150 := fun i hi => by
  have a := h.inv.mu_bd i hi; have b := h.inv.nn i hi; have c := ok.n30; omega
end Go.Proofs.YtimedmkpenbmkaaGreat.Hr
namespace Go.Proofs.YtimedmkpenbmkaaGreat
/-- the reference's step, for any numbers -/
def stepZ (t : Hr.Town) (wind p q : Int) : Int := if p < 0 ∨ (t.len : Int) ≤ p ∨ q < 0 ∨ (t.len : Int) ≤ q then 0 else Hr.stepI t wind p.toNat q.toNat
end Go.Proofs.YtimedmkpenbmkaaGreat
