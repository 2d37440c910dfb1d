namespace Go.Proofs.YtimedmkpenbmkaaGreat.Hr
set_option linter.unusedSimpArgs false
set_option linter.unusedVariables false

/-- step of a wind: (south, east) -/
def stepOf : Int → Int × Int
  | 1 => (-1, 0)
  | 2 => (0, 1)
  | 3 => (1, 0)
  | 4 => (0, -1)
  | _ => (0, 0)

def back (s : Int × Int) : Int × Int := (-s.1, -s.2)

structure Town where
  wide : Nat
  plots : List Int

def Town.len (t : Town) : Nat := t.plots.length
def Town.at (t : Town) (p : Nat) : Int := t.plots.getD p 0
def Town.rows (t : Town) : Nat := t.len / t.wide

structure Town.Ok (t : Town) : Prop where
  w1 : 1 ≤ t.wide
  w6 : t.wide ≤ 6
  n1 : 1 ≤ t.len
  n30 : t.len ≤ 30
  whole : t.len = t.rows * t.wide
  kinds : ∀ p, p < t.len → t.at p = 0 ∨ t.at p = 1 ∨ t.at p = 2

/-- the neighbour of a plot in a direction -/
def Town.nbr (t : Town) (plot : Nat) (s : Int × Int) : Option Nat :=
  let row : Int := (plot / t.wide : Nat) + s.1
  let col : Int := (plot % t.wide : Nat) + s.2
  if row < 0 ∨ row ≥ (t.rows : Int) ∨ col < 0 ∨ col ≥ (t.wide : Int) then none else some (row.toNat * t.wide + col.toNat)

def Town.wall (t : Town) (p : Nat) : Bool := t.at p == 2

def Town.aroundAt (t : Town) (plot : Nat) (d : Int) : Option (Nat × (Int × Int)) :=
  match t.nbr plot (stepOf d) with
  | some q => if t.wall q then none else some (q, stepOf d)
  | none => none

def Town.around (t : Town) (plot : Nat) : List (Nat × (Int × Int)) :=
  if t.wall plot then [] else ([1, 2, 3, 4] : List Int).filterMap (t.aroundAt plot)

def Town.cost (t : Town) (wind : Int) (s : Int × Int) (to : Nat) : Int :=
  (if s = stepOf wind then 1 else if s = back (stepOf wind) then 4 else 2) + (if t.at to = 1 then 1 else 0)

def Town.steps (t : Town) (wind : Int) (from_ : Nat) : List (Nat × Int) :=
  (t.around from_).map fun (q, s) => (q, t.cost wind s q)

def lower1 (from_ : Nat) (tb : List Int × Bool) (x : Nat × Int) : List Int × Bool :=
  let need := tb.1.getD from_ 0 + x.2
  let old := tb.1.getD x.1 0
  let need := if old ≠ -1 ∧ old < need then old else need
  if need ≠ old then (tb.1.set x.1 need, true) else tb

def Town.lower (t : Town) (wind : Int) (tb : List Int) (from_ : Nat) : List Int × Bool :=
  (t.steps wind from_).foldl (lower1 from_) (tb, false)

def Town.roundStep (t : Town) (wind : Int) (s : List Int × Bool) (from_ : Nat) : List Int × Bool :=
  if s.1.getD from_ 0 ≠ -1 then
    let r := t.lower wind s.1 from_
    (r.1, s.2 || r.2)
  else s

def Town.round (t : Town) (wind : Int) (tb : List Int) : List Int × Bool :=
  (List.range t.len).foldl (t.roundStep wind) (tb, false)

def Town.iter (t : Town) (wind : Int) : Nat → List Int → List Int
  | 0, tb => tb
  | n + 1, tb => let r := t.round wind tb; if r.2 then t.iter wind n r.1 else r.1

def Town.start (t : Town) (stand : Nat) : List Int := (List.replicate t.len (-1)).set stand 0

def Town.needs (t : Town) (wind : Int) (stand : Nat) : List Int := t.iter wind 5000 (t.start stand)

/-! ### ways -/
inductive Town.Way (t : Town) (wind : Int) (s : Nat) : Nat → Int → Prop
  | here : t.Way wind s s 0
  | on {p q : Nat} {c n : Int} : t.Way wind s p c → (q, n) ∈ t.steps wind p → t.Way wind s q (c + n)

theorem cost_pos (t : Town) (wind : Int) (s) (q) : 1 ≤ t.cost wind s q ∧ t.cost wind s q ≤ 5 := by
  unfold Town.cost; repeat' split
  all_goals omega

theorem steps_pos {t : Town} {wind : Int} {p q : Nat} {n : Int} (h : (q, n) ∈ t.steps wind p) : 1 ≤ n ∧ n ≤ 5 := by
  unfold Town.steps at h
  obtain ⟨⟨q', s⟩, _, e⟩ := List.mem_map.1 h
  injection e with e1 e2
  rw [← e2]; exact cost_pos _ _ _ _

theorem nbr_lt {t : Town} (ok : t.Ok) {p q : Nat} {s} (h : t.nbr p s = some q) : q < t.len := by
  unfold Town.nbr at h
  simp only at h
  split at h
  · cases h
  · rename_i hc
    injection h with h
    have hr : ((p / t.wide : Nat) + s.1 : Int).toNat + 1 ≤ t.rows := by omega
    have hcol : ((p % t.wide : Nat) + s.2 : Int).toNat < t.wide := by omega
    have h1 := Nat.mul_le_mul_right t.wide hr
    rw [ok.whole, ← h]
    rw [Nat.add_mul] at h1
    omega

theorem around_lt {t : Town} (ok : t.Ok) {p q : Nat} {s} (h : (q, s) ∈ t.around p) : q < t.len := by
  unfold Town.around at h
  split at h
  · cases h
  · obtain ⟨d, _, hd⟩ := List.mem_filterMap.1 h
    unfold Town.aroundAt at hd
    split at hd
    · rename_i q' hq
      split at hd
      · cases hd
      · injection hd with hd; injection hd with h1 h2
        rw [← h1]; exact nbr_lt ok hq
    · cases hd

theorem steps_lt {t : Town} (ok : t.Ok) {wind : Int} {p q : Nat} {n : Int} (h : (q, n) ∈ t.steps wind p) : q < t.len := by
  unfold Town.steps at h
  obtain ⟨⟨q', s⟩, hm, e⟩ := List.mem_map.1 h
  injection e with e1 e2
  rw [← e1]; exact around_lt ok hm

def wt (v : Int) : Int := if v = -1 then 150 else v
def mu : List Int → Int
  | [] => 0
  | v :: l => wt v + mu l
def oneIf (v : Int) : Int := if v = -1 then 0 else 1
def cn : List Int → Int
  | [] => 0
  | v :: l => oneIf v + cn l

theorem mu_set (l : List Int) (i : Nat) (v : Int) (h : i < l.length) : mu (l.set i v) = mu l - wt (l.getD i 0) + wt v := by
  induction l generalizing i with
  | nil => simp at h
  | cons x l ih =>
    cases i with
    | zero => simp [mu]; omega
    | succ i => simp [mu] at h ⊢; have := ih i h; simp at this; rw [this]; omega

theorem cn_set (l : List Int) (i : Nat) (v : Int) (h : i < l.length) : cn (l.set i v) = cn l - oneIf (l.getD i 0) + oneIf v := by
  induction l generalizing i with
  | nil => simp at h
  | cons x l ih =>
    cases i with
    | zero => simp [cn]; omega
    | succ i => simp [cn] at h ⊢; have := ih i h; simp at this; rw [this]; omega

theorem cn_le (l : List Int) : 0 ≤ cn l ∧ cn l ≤ l.length := by
  induction l with
  | nil => simp [cn]
  | cons x l ih => simp [cn, oneIf]; split <;> omega

theorem getD_set (l : List Int) (i j : Nat) (v : Int) (h : i < l.length) : (l.set i v).getD j 0 = if i = j then v else l.getD j 0 := by
  simp only [List.getD_eq_getElem?_getD, List.getElem?_set]
  split
  · rename_i e; subst e; simp [h]
  · rfl

/-- what holds of a table while it is lowered -/
structure Town.Inv (t : Town) (wind : Int) (s : Nat) (tb : List Int) : Prop where
  len : tb.length = t.len
  way : ∀ p, p < t.len → tb.getD p 0 ≠ -1 → t.Way wind s p (tb.getD p 0)
  nn : ∀ p, p < t.len → tb.getD p 0 = -1 ∨ 0 ≤ tb.getD p 0
  low : ∀ p, p < t.len → tb.getD p 0 + 5 ≤ 5 * cn tb ∨ tb.getD p 0 = -1

theorem Town.Inv.mu_bd {t : Town} {wind : Int} {s : Nat} {tb : List Int} (h : t.Inv wind s tb) : ∀ p, p < t.len → tb.getD p 0 ≤ 5 * t.len - 5 ∨ tb.getD p 0 = -1 := fun p hp => by
  have := cn_le tb
  have hl := h.len
  rcases h.low p hp with h | h
  · left; rw [hl] at this; omega
  · exact .inr h

theorem wt_le {v : Int} (h : v = -1 ∨ 0 ≤ v) (h2 : v ≤ 145 ∨ v = -1) : 0 ≤ wt v ∧ wt v ≤ 150 := by
  unfold wt; split <;> omega

theorem mu_le (l : List Int) (h : ∀ p, p < l.length → 0 ≤ wt (l.getD p 0) ∧ wt (l.getD p 0) ≤ 150) : 0 ≤ mu l ∧ mu l ≤ 150 * l.length := by
  induction l with
  | nil => simp [mu]
  | cons x l ih =>
    have h0 := h 0 (by simp)
    have := ih (fun p hp => by have := h (p + 1) (by simp; omega); simpa using this)
    simp [mu] at h0 ⊢
    omega

theorem Town.Inv.mu_le {t : Town} (ok : t.Ok) {wind : Int} {s : Nat} {tb : List Int} (h : t.Inv wind s tb) : 0 ≤ mu tb ∧ mu tb ≤ 4500 := by
  have := Go.Proofs.YtimedmkpenbmkaaGreat.Hr.mu_le tb (fun p hp => by
    have hp' : p < t.len := by rw [← h.len]; exact hp
    have h1 := h.nn p hp'
    have h2 := h.mu_bd p hp'
    have := ok.n30
    exact wt_le h1 (by omega))
  have := ok.n30
  have := h.len
  omega

/-- one lowering keeps what holds; where it lowers, the measure is less -/
theorem lower1_inv {t : Town} (ok : t.Ok) {wind : Int} {s from_ : Nat} {tb : List Int} {b : Bool} {x : Nat × Int} (h : t.Inv wind s tb) (hf : from_ < t.len) (hn : tb.getD from_ 0 ≠ -1)
    (hx : x ∈ t.steps wind from_) : t.Inv wind s (lower1 from_ (tb, b) x).1 ∧ ((lower1 from_ (tb, b) x) = (tb, b) ∨ ((lower1 from_ (tb, b) x).2 = true ∧ mu (lower1 from_ (tb, b) x).1 < mu tb)) := by
  obtain ⟨q, n⟩ := x
  have hq := steps_lt ok hx
  have hp := steps_pos hx
  have hl := h.len
  have hw := h.way from_ hf hn
  have hnf := h.nn from_ hf
  have hnq := h.nn q hq
  have hlf := h.low from_ hf
  have hlq := h.low q hq
  have hcn := cn_le tb
  have h30 := ok.n30
  unfold lower1
  simp only
  generalize hneed : (if tb.getD q 0 ≠ -1 ∧ tb.getD q 0 < tb.getD from_ 0 + n then tb.getD q 0 else tb.getD from_ 0 + n) = need
  by_cases hne : need ≠ tb.getD q 0
  · rw [if_pos hne]
    have hneed' : need = tb.getD from_ 0 + n ∧ (tb.getD q 0 = -1 ∨ need < tb.getD q 0) := by
      split at hneed
      · omega
      · omega
    have hqt : q < tb.length := by omega
    have hcs := cn_set tb q need hqt
    have hms := mu_set tb q need hqt
    have ho : oneIf need = 1 := by unfold oneIf; rw [if_neg (by omega)]
    have ho2 : tb.getD q 0 = -1 ∧ oneIf (tb.getD q 0) = 0 ∨ oneIf (tb.getD q 0) = 1 ∧ tb.getD q 0 ≠ -1 := by unfold oneIf; split <;> omega
    refine ⟨⟨by simp [hl], fun p hp' => ?_, fun p hp' => ?_, fun p hp' => ?_⟩, .inr ⟨rfl, ?_⟩⟩
    · rw [getD_set _ _ _ _ hqt]
      split
      · rename_i e; subst e; intro _; rw [hneed'.1]; exact .on hw hx
      · intro hh; exact h.way p hp' hh
    · rw [getD_set _ _ _ _ hqt]
      split
      · omega
      · exact h.nn p hp'
    · rw [getD_set _ _ _ _ hqt, hcs]
      have := h.low p hp'
      split
      · omega
      · omega
    · rw [hms]
      have hc2 := cn_le (tb.set q need)
      rw [List.length_set] at hc2
      have hwn : wt need = need := by unfold wt; rw [if_neg (by omega)]
      have hwq : tb.getD q 0 = -1 ∧ wt (tb.getD q 0) = 150 ∨ wt (tb.getD q 0) = tb.getD q 0 ∧ tb.getD q 0 ≠ -1 := by unfold wt; split <;> omega
      omega
  · rw [if_neg hne]
    exact ⟨h, .inl rfl⟩

end Go.Proofs.YtimedmkpenbmkaaGreat.Hr

namespace Go.Proofs.YtimedmkpenbmkaaGreat.Hr
set_option linter.unusedSimpArgs false
set_option linter.unusedVariables false
set_option linter.unusedVariables false

theorem lower1_self {f : Nat} {T : List Int} {bb : Bool} {x : Nat × Int} (hT : T.getD f 0 ≠ -1) (hx : 1 ≤ x.2) (hq : x.1 < T.length) : (lower1 f (T, bb) x).1.getD f 0 = T.getD f 0 := by
  unfold lower1
  simp only
  generalize hneed : (if T.getD x.1 0 ≠ -1 ∧ T.getD x.1 0 < T.getD f 0 + x.2 then T.getD x.1 0 else T.getD f 0 + x.2) = need
  by_cases h : need ≠ T.getD x.1 0
  · rw [if_pos h]
    simp only
    rw [getD_set _ _ _ _ hq]
    split
    · rename_i h2
      subst h2
      exfalso; apply h
      rw [← hneed, if_pos ⟨hT, by omega⟩]
    · rfl
  · rw [if_neg h]

/-- steps from a plot: what holds stays, and either nothing turns or the measure is less -/
theorem foldl_lower {t : Town} (ok : t.Ok) {wind : Int} {s f : Nat} (hf : f < t.len) : ∀ (xs : List (Nat × Int)) (T : List Int) (bb : Bool), t.Inv wind s T → T.getD f 0 ≠ -1 → (∀ x ∈ xs, x ∈ t.steps wind f) →
    t.Inv wind s (xs.foldl (lower1 f) (T, bb)).1 ∧ (xs.foldl (lower1 f) (T, bb) = (T, bb) ∨ ((xs.foldl (lower1 f) (T, bb)).2 = true ∧ mu (xs.foldl (lower1 f) (T, bb)).1 < mu T)) := by
  intro xs
  induction xs with
  | nil => intro T bb h _ _; exact ⟨h, .inl rfl⟩
  | cons x xs ih =>
    intro T bb h hn hx
    have hx0 := hx x (by simp)
    obtain ⟨h1, h2⟩ := lower1_inv (b := bb) ok h hf hn hx0
    have h3 := lower1_self (bb := bb) hn (steps_pos (q := x.1) (n := x.2) hx0).1 (by rw [h.len]; exact steps_lt (q := x.1) (n := x.2) ok hx0)
    rw [List.foldl_cons]
    obtain ⟨a, b⟩ := ih (lower1 f (T, bb) x).1 (lower1 f (T, bb) x).2 h1 (by rw [h3]; exact hn) (fun y hy => hx y (by simp [hy]))
    refine ⟨a, ?_⟩
    rcases h2 with h2 | ⟨h2, h2'⟩
    · rw [h2] at b ⊢; exact b
    · right
      rcases b with b | ⟨b1, b2⟩
      · have e : xs.foldl (lower1 f) (lower1 f (T, bb) x) = lower1 f (T, bb) x := b
        rw [e]; exact ⟨h2, h2'⟩
      · exact ⟨b1, by have : mu (xs.foldl (lower1 f) (lower1 f (T, bb) x)).1 < mu (lower1 f (T, bb) x).1 := b2; omega⟩

theorem lower_spec {t : Town} (ok : t.Ok) {wind : Int} {s f : Nat} {T : List Int} (hf : f < t.len) (h : t.Inv wind s T) (hn : T.getD f 0 ≠ -1) :
    t.Inv wind s (t.lower wind T f).1 ∧ (t.lower wind T f = (T, false) ∨ ((t.lower wind T f).2 = true ∧ mu (t.lower wind T f).1 < mu T)) :=
  foldl_lower ok hf _ T false h hn (fun _ h => h)

theorem roundStep_spec {t : Town} (ok : t.Ok) {wind : Int} {s f : Nat} {T : List Int} {bb : Bool} (hf : f < t.len) (h : t.Inv wind s T) :
    t.Inv wind s (t.roundStep wind (T, bb) f).1 ∧ (t.roundStep wind (T, bb) f = (T, bb) ∨ ((t.roundStep wind (T, bb) f).2 = true ∧ mu (t.roundStep wind (T, bb) f).1 < mu T)) := by
  unfold Town.roundStep
  simp only
  by_cases hn : T.getD f 0 ≠ -1
  · rw [if_pos hn]
    obtain ⟨a, b⟩ := lower_spec ok hf h hn
    refine ⟨a, ?_⟩
    rcases b with b | ⟨b1, b2⟩
    · left; rw [b]; simp
    · right; exact ⟨by simp [b1], b2⟩
  · rw [if_neg hn]; exact ⟨h, .inl rfl⟩

/-- the round as far as it has come -/
def Town.roundTo (t : Town) (wind : Int) (T : List Int) (i : Nat) : List Int × Bool := (List.range i).foldl (t.roundStep wind) (T, false)
theorem roundTo_succ (t : Town) (wind : Int) (T : List Int) (i : Nat) : t.roundTo wind T (i + 1) = t.roundStep wind (t.roundTo wind T i) i := by
  unfold Town.roundTo; rw [List.range_succ, List.foldl_append]; rfl
theorem roundTo_spec {t : Town} (ok : t.Ok) {wind : Int} {s : Nat} {T : List Int} (h : t.Inv wind s T) : ∀ i, i ≤ t.len →
    t.Inv wind s (t.roundTo wind T i).1 ∧ (t.roundTo wind T i = (T, false) ∨ ((t.roundTo wind T i).2 = true ∧ mu (t.roundTo wind T i).1 < mu T))
  | 0, _ => ⟨h, .inl rfl⟩
  | i + 1, hi => by
    obtain ⟨a, b⟩ := roundTo_spec ok h i (by omega)
    rw [roundTo_succ]
    obtain ⟨c, d⟩ := roundStep_spec (bb := (t.roundTo wind T i).2) ok (f := i) (by omega) a
    refine ⟨c, ?_⟩
    rcases b with b | ⟨b1, b2⟩
    · rw [b] at d ⊢; exact d
    · right
      rcases d with d | ⟨d1, d2⟩
      · have e : t.roundStep wind (t.roundTo wind T i) i = t.roundTo wind T i := d
        rw [e]; exact ⟨b1, b2⟩
      · exact ⟨d1, by have : mu (t.roundStep wind (t.roundTo wind T i) i).1 < mu (t.roundTo wind T i).1 := d2; omega⟩

theorem start_inv {t : Town} (ok : t.Ok) {wind : Int} {s : Nat} (hs : s < t.len) : t.Inv wind s (t.start s) := by
  have hlen : (t.start s).length = t.len := by simp [Town.start]
  have hg : ∀ p, p < t.len → (t.start s).getD p 0 = if s = p then 0 else -1 := fun p hp => by
    unfold Town.start
    rw [getD_set _ _ _ _ (by simpa using hs)]
    split
    · rfl
    · simp [hp]
  have hcn : 1 ≤ cn (t.start s) := by
    unfold Town.start
    rw [cn_set _ _ _ (by simpa using hs)]
    have : (List.replicate t.len (-1 : Int)).getD s 0 = -1 := by simp [hs]
    rw [this]
    have := cn_le (List.replicate t.len (-1 : Int))
    simp [oneIf]; omega
  refine ⟨hlen, fun p hp => ?_, fun p hp => ?_, fun p hp => ?_⟩
  · rw [hg p hp]
    split
    · rename_i e; subst e; intro _; exact .here
    · intro h; exact absurd rfl h
  · rw [hg p hp]; split <;> omega
  · rw [hg p hp]; split <;> omega

end Go.Proofs.YtimedmkpenbmkaaGreat.Hr

namespace Go.Proofs.YtimedmkpenbmkaaGreat.Hr
set_option linter.unusedSimpArgs false
set_option linter.unusedVariables false
set_option linter.unusedVariables false

/-- no step lowers anything -/
structure Town.Fix (t : Town) (wind : Int) (s : Nat) (T : List Int) : Prop where
  inv : t.Inv wind s T
  zero : T.getD s 0 = 0
  low : ∀ p, p < t.len → T.getD p 0 ≠ -1 → ∀ q n, (q, n) ∈ t.steps wind p → T.getD q 0 ≠ -1 ∧ T.getD q 0 ≤ T.getD p 0 + n

theorem lower1_mono (f : Nat) (x : Nat × Int) (tb : List Int × Bool) (h : tb.2 = true) : (lower1 f tb x).2 = true := by
  unfold lower1; simp only
  generalize (if tb.1.getD x.1 0 ≠ -1 ∧ tb.1.getD x.1 0 < tb.1.getD f 0 + x.2 then tb.1.getD x.1 0 else tb.1.getD f 0 + x.2) = need
  by_cases h1 : need ≠ tb.1.getD x.1 0
  · rw [if_pos h1]
  · rw [if_neg h1]; exact h

theorem foldl_lower_true (f : Nat) : ∀ (xs : List (Nat × Int)) (tb : List Int × Bool), tb.2 = true → (xs.foldl (lower1 f) tb).2 = true
  | [], _, h => h
  | x :: xs, tb, h => foldl_lower_true f xs _ (lower1_mono f x tb h)

theorem lower1_same {f : Nat} {T : List Int} {x : Nat × Int} (h : (lower1 f (T, false) x).2 = false) : lower1 f (T, false) x = (T, false) ∧ (T.getD f 0 ≠ -1 → 0 ≤ T.getD f 0 → 1 ≤ x.2 → T.getD x.1 0 ≠ -1 ∧ T.getD x.1 0 ≤ T.getD f 0 + x.2) := by
  unfold lower1 at *
  simp only at h ⊢
  generalize hneed : (if T.getD x.1 0 ≠ -1 ∧ T.getD x.1 0 < T.getD f 0 + x.2 then T.getD x.1 0 else T.getD f 0 + x.2) = need at h ⊢
  by_cases h1 : need ≠ T.getD x.1 0
  · rw [if_pos h1] at h; cases h
  · rw [if_neg h1]
    refine ⟨rfl, fun h2 h3 h4 => ?_⟩
    split at hneed
    · rename_i h5; exact ⟨h5.1, by omega⟩
    · omega

theorem foldl_lower_false {f : Nat} {T : List Int} : ∀ (xs : List (Nat × Int)), (xs.foldl (lower1 f) (T, false)).2 = false →
    xs.foldl (lower1 f) (T, false) = (T, false) ∧ ∀ x ∈ xs, T.getD f 0 ≠ -1 → 0 ≤ T.getD f 0 → 1 ≤ x.2 → T.getD x.1 0 ≠ -1 ∧ T.getD x.1 0 ≤ T.getD f 0 + x.2
  | [], _ => ⟨rfl, fun _ h => by cases h⟩
  | x :: xs, h => by
    rw [List.foldl_cons] at h ⊢
    have h1 : (lower1 f (T, false) x).2 = false := by
      cases he : (lower1 f (T, false) x).2 with
      | false => rfl
      | true => rw [foldl_lower_true f xs _ he] at h; cases h
    obtain ⟨h2, h3⟩ := lower1_same h1
    rw [h2] at h ⊢
    obtain ⟨h4, h5⟩ := foldl_lower_false xs h
    exact ⟨h4, fun y hy => by
      rcases List.mem_cons.1 hy with rfl | hy
      · exact h3
      · exact h5 y hy⟩

theorem roundStep_true (t : Town) (wind : Int) (p : Nat) (tb : List Int × Bool) (h : tb.2 = true) : (t.roundStep wind tb p).2 = true := by
  unfold Town.roundStep; split <;> simp [h]
theorem roundTo_false {t : Town} {wind : Int} {T : List Int} {k : Nat} (h : (t.roundTo wind T k).2 = false) : ∀ i, i ≤ k → (t.roundTo wind T i).2 = false := by
  induction k with
  | zero => intro i hi; rw [Nat.le_zero.1 hi]; exact h
  | succ k ih =>
    intro i hi
    have hk : (t.roundTo wind T k).2 = false := by
      cases he : (t.roundTo wind T k).2 with
      | false => rfl
      | true => rw [roundTo_succ, roundStep_true _ _ _ _ he] at h; cases h
    rcases Nat.lt_or_ge i (k + 1) with hlt | hge
    · exact ih hk i (by omega)
    · rw [show i = k + 1 by omega]; exact h

theorem fix_of_round {t : Town} (ok : t.Ok) {wind : Int} {s : Nat} {T : List Int} (hs : s < t.len) (hz : T.getD s 0 = 0) (hi : t.Inv wind s T) (h : (t.round wind T).2 = false) : t.Fix wind s T := by
  have hall := roundTo_false (t := t) (wind := wind) (T := T) (k := t.len) h
  have heq : ∀ i, i ≤ t.len → t.roundTo wind T i = (T, false) := fun i hi' => by
    rcases (roundTo_spec ok hi i hi').2 with h1 | ⟨h1, _⟩
    · exact h1
    · rw [hall i hi'] at h1; cases h1
  refine ⟨hi, hz, fun p hp hne q n hm => ?_⟩
  have h1 := heq (p + 1) hp
  rw [roundTo_succ, heq p (by omega)] at h1
  unfold Town.roundStep at h1
  simp only [hne, ne_eq, not_false_eq_true, if_true, Bool.false_or] at h1
  have h2 : (t.lower wind T p).2 = false := by injection h1
  obtain ⟨_, h3⟩ := foldl_lower_false _ h2
  have h4 := hi.nn p hp
  exact h3 (q, n) hm hne (by omega) (steps_pos hm).1

theorem iter_fix {t : Town} (ok : t.Ok) {wind : Int} {s : Nat} (hs : s < t.len) : ∀ (n : Nat) (T : List Int), t.Inv wind s T → T.getD s 0 = 0 → mu T < n → t.Fix wind s (t.iter wind n T) := by
  intro n
  induction n with
  | zero => intro T hi _ hm; have := hi.mu_le ok; omega
  | succ n ih =>
    intro T hi hz hm
    have hr := roundTo_spec ok hi t.len (Nat.le_refl _)
    have hre : t.roundTo wind T t.len = t.round wind T := rfl
    rw [hre] at hr
    unfold Town.iter
    simp only
    rcases hr.2 with h | ⟨h1, h2⟩
    · rw [if_neg (by rw [h]; simp)]
      rw [h]
      exact fix_of_round ok hs hz hi (by rw [h])
    · rw [if_pos h1]
      refine ih _ hr.1 ?_ (by omega)
      have h0 : (t.round wind T).1.getD s 0 = 0 := by
        -- a lowered table is nowhere greater where it had a number
        have key : ∀ (xs : List Nat) (tb : List Int × Bool), tb.1.length = t.len → (∀ p ∈ xs, p < t.len) → tb.1.getD s 0 = 0 → (∀ p, p < t.len → tb.1.getD p 0 = -1 ∨ 0 ≤ tb.1.getD p 0) → (xs.foldl (t.roundStep wind) tb).1.getD s 0 = 0 := by
          have key1 : ∀ (f : Nat) (xs : List (Nat × Int)) (tb : List Int × Bool), tb.1.length = t.len → (∀ x ∈ xs, x.1 < t.len ∧ 1 ≤ x.2) → tb.1.getD s 0 = 0 → 0 ≤ tb.1.getD f 0 → (∀ p, p < t.len → tb.1.getD p 0 = -1 ∨ 0 ≤ tb.1.getD p 0) →
              ((xs.foldl (lower1 f) tb).1.length = t.len ∧ (xs.foldl (lower1 f) tb).1.getD s 0 = 0 ∧ (∀ p, p < t.len → (xs.foldl (lower1 f) tb).1.getD p 0 = -1 ∨ 0 ≤ (xs.foldl (lower1 f) tb).1.getD p 0)) := by
            intro f xs
            induction xs with
            | nil => intro tb a _ b _ c; exact ⟨a, b, c⟩
            | cons x xs ihx =>
              intro tb a hx b hf c
              rw [List.foldl_cons]
              obtain ⟨hx1, hx2⟩ := hx x (by simp)
              have hcx := c x.1 hx1
              refine ihx _ ?_ (fun y hy => hx y (by simp [hy])) ?_ ?_ ?_
              all_goals unfold lower1; simp only
              all_goals generalize hneed : (if tb.1.getD x.1 0 ≠ -1 ∧ tb.1.getD x.1 0 < tb.1.getD f 0 + x.2 then tb.1.getD x.1 0 else tb.1.getD f 0 + x.2) = need
              · split <;> simp [a]
              · split
                · simp only
                  rw [getD_set _ _ _ _ (by omega)]
                  split
                  · rename_i h5 h6; rw [h6] at hneed h5; rw [b] at hneed h5; split at hneed <;> omega
                  · exact b
                · exact b
              · split
                · simp only
                  rw [getD_set _ _ _ _ (by omega)]
                  split
                  · split at hneed <;> omega
                  · exact hf
                · exact hf
              · intro p hp
                split
                · simp only
                  rw [getD_set _ _ _ _ (by omega)]
                  split
                  · right; split at hneed <;> omega
                  · exact c p hp
                · exact c p hp
          intro xs
          induction xs with
          | nil => intro tb _ _ h _; exact h
          | cons x xs ihx =>
            intro tb a hx b c
            rw [List.foldl_cons]
            have hx1 := hx x (by simp)
            by_cases hne : tb.1.getD x 0 ≠ -1
            · have k1 := key1 x (t.steps wind x) (tb.1, false) a (fun y hy => ⟨steps_lt (q := y.1) (n := y.2) ok hy, (steps_pos (q := y.1) (n := y.2) hy).1⟩) b (by have := c x hx1; simp only; omega) c
              have e : t.roundStep wind tb x = ((t.lower wind tb.1 x).1, tb.2 || (t.lower wind tb.1 x).2) := by unfold Town.roundStep; rw [if_pos hne]
              rw [e]
              exact ihx _ k1.1 (fun p hp => hx p (by simp [hp])) k1.2.1 k1.2.2
            · have e : t.roundStep wind tb x = tb := by unfold Town.roundStep; rw [if_neg hne]
              rw [e]
              exact ihx _ a (fun p hp => hx p (by simp [hp])) b c
        exact key (List.range t.len) (T, false) hi.len (fun p hp => List.mem_range.1 hp) hz hi.nn
      exact h0

theorem needs_fix {t : Town} (ok : t.Ok) (wind : Int) {s : Nat} (hs : s < t.len) : t.Fix wind s (t.needs wind s) := by
  have hi := start_inv (wind := wind) ok hs
  refine iter_fix ok hs _ _ hi ?_ (by have := hi.mu_le ok; omega)
  unfold Town.start
  rw [getD_set _ _ _ _ (by simpa using hs), if_pos rfl]

/-- the table is below each way -/
theorem Town.Fix.least {t : Town} (ok : t.Ok) {wind : Int} {s : Nat} (hs : s < t.len) {T : List Int} (h : t.Fix wind s T) {q : Nat} {c : Int} (w : t.Way wind s q c) : q < t.len ∧ T.getD q 0 ≠ -1 ∧ 0 ≤ T.getD q 0 ∧ T.getD q 0 ≤ c := by
  induction w with
  | here => exact ⟨hs, by rw [h.zero]; omega, by rw [h.zero]; omega, by rw [h.zero]; omega⟩
  | @on p q c n w hm ih =>
    obtain ⟨h1, h2, h3, h4⟩ := ih
    obtain ⟨h5, h6⟩ := h.low p h1 h2 q n hm
    have hq := steps_lt ok hm
    have := h.inv.nn q hq
    exact ⟨hq, h5, by omega, by omega⟩

/-- the plot before one on a least way -/
theorem Town.Fix.back {t : Town} (ok : t.Ok) {wind : Int} {s : Nat} (hs : s < t.len) {T : List Int} (h : t.Fix wind s T) {z : Nat} (hz : z < t.len) (hne : T.getD z 0 ≠ -1) (hzs : z ≠ s) :
    ∃ p n, p < t.len ∧ (z, n) ∈ t.steps wind p ∧ T.getD p 0 ≠ -1 ∧ T.getD p 0 + n = T.getD z 0 := by
  have w := h.inv.way z hz hne
  generalize hc : T.getD z 0 = c at w
  cases w with
  | here => exact absurd rfl hzs
  | @on p _ c n w hm =>
    obtain ⟨h1, h2, h3, h4⟩ := h.least ok hs w
    obtain ⟨h5, h6⟩ := h.low p h1 h2 z n hm
    exact ⟨p, n, h1, hm, h2, by omega⟩

end Go.Proofs.YtimedmkpenbmkaaGreat.Hr

namespace Go.Proofs.YtimedmkpenbmkaaGreat.Hr
set_option linter.unusedSimpArgs false
set_option linter.unusedVariables false
set_option linter.unusedVariables false

theorem nbr_spec {t : Town} (ok : t.Ok) {p q : Nat} {s : Int × Int} (h : t.nbr p s = some q) :
    ((q / t.wide : Nat) : Int) = (p / t.wide : Nat) + s.1 ∧ ((q % t.wide : Nat) : Int) = (p % t.wide : Nat) + s.2 := by
  unfold Town.nbr at h
  simp only at h
  split at h
  · cases h
  · rename_i hc
    injection h with h
    have hw := ok.w1
    obtain ⟨a, ha⟩ : ∃ a : Nat, (a : Int) = (p / t.wide : Nat) + s.1 := ⟨((p / t.wide : Nat) + s.1).toNat, by omega⟩
    obtain ⟨b, hb⟩ : ∃ b : Nat, (b : Int) = (p % t.wide : Nat) + s.2 := ⟨((p % t.wide : Nat) + s.2).toNat, by omega⟩
    rw [← ha, ← hb] at h hc ⊢
    rw [Int.toNat_natCast, Int.toNat_natCast] at h
    have hbw : b < t.wide := by omega
    subst h
    constructor
    · congr 1
      rw [Nat.add_comm, Nat.add_mul_div_right _ _ (by omega), Nat.div_eq_of_lt hbw]; omega
    · congr 1
      rw [Nat.add_comm, Nat.add_mul_mod_self_right, Nat.mod_eq_of_lt hbw]

theorem nbr_back {t : Town} (ok : t.Ok) {p q : Nat} {s : Int × Int} (hp : p < t.len) (h : t.nbr p s = some q) : t.nbr q (back s) = some p := by
  obtain ⟨h1, h2⟩ := nbr_spec ok h
  have hw := ok.w1
  have hr : p / t.wide < t.rows := by
    rw [Nat.div_lt_iff_lt_mul (by omega)]
    have := ok.whole
    omega
  have hm : p % t.wide < t.wide := Nat.mod_lt _ (by omega)
  unfold Town.nbr back
  simp only
  have e1 : ((q / t.wide : Nat) : Int) + -s.1 = (p / t.wide : Nat) := by omega
  have e2 : ((q % t.wide : Nat) : Int) + -s.2 = (p % t.wide : Nat) := by omega
  rw [e1, e2, if_neg (by generalize p / t.wide = r at *; generalize p % t.wide = c at *; omega), Int.toNat_natCast, Int.toNat_natCast, Nat.mul_comm, Nat.div_add_mod]

def flip : Int → Int
  | 1 => 3
  | 2 => 4
  | 3 => 1
  | 4 => 2
  | d => d
theorem flip_step {d : Int} (h : d ∈ ([1, 2, 3, 4] : List Int)) : stepOf (flip d) = back (stepOf d) ∧ flip d ∈ ([1, 2, 3, 4] : List Int) := by
  simp only [List.mem_cons, List.not_mem_nil, or_false] at h
  rcases h with rfl | rfl | rfl | rfl <;> decide

theorem around_mem {t : Town} {p q : Nat} {s : Int × Int} : (q, s) ∈ t.around p ↔ t.wall p = false ∧ ∃ d ∈ ([1, 2, 3, 4] : List Int), s = stepOf d ∧ t.nbr p s = some q ∧ t.wall q = false := by
  unfold Town.around
  cases hw : t.wall p with
  | true => simp
  | false =>
    simp only [Bool.false_eq_true, if_false, List.mem_filterMap, true_and]
    constructor
    · rintro ⟨d, hd, h⟩
      unfold Town.aroundAt at h
      split at h
      · rename_i q' hq
        split at h
        · cases h
        · rename_i hw2
          injection h with h; injection h with h1 h2
          subst h1; subst h2
          exact ⟨d, hd, rfl, hq, by simpa using hw2⟩
      · cases h
    · rintro ⟨d, hd, rfl, h1, h2⟩
      exact ⟨d, hd, by unfold Town.aroundAt; rw [h1]; simp [h2]⟩

theorem around_back {t : Town} (ok : t.Ok) {p q : Nat} {s : Int × Int} (hp : p < t.len) (h : (q, s) ∈ t.around p) : (p, back s) ∈ t.around q := by
  rw [around_mem] at h ⊢
  obtain ⟨h1, d, hd, rfl, h2, h3⟩ := h
  exact ⟨h3, flip d, (flip_step hd).2, (flip_step hd).1.symm, nbr_back ok hp h2, h1⟩

theorem steps_back {t : Town} (ok : t.Ok) {wind : Int} {p q : Nat} {n : Int} (hp : p < t.len) (h : (q, n) ∈ t.steps wind p) : ∃ m, (p, m) ∈ t.steps wind q := by
  unfold Town.steps at h
  obtain ⟨⟨q', s⟩, hm, e⟩ := List.mem_map.1 h
  injection e with e1 e2
  subst e1
  exact ⟨_, List.mem_map.2 ⟨(p, back s), around_back ok hp hm, rfl⟩⟩

/-- who has a step to a plot that is reached is reached -/
theorem Town.Fix.reached {t : Town} (ok : t.Ok) {wind : Int} {s : Nat} {T : List Int} (h : t.Fix wind s T) {p q : Nat} {n : Int} (hp : p < t.len) (hs : (q, n) ∈ t.steps wind p) (hq : T.getD q 0 ≠ -1) : T.getD p 0 ≠ -1 ∧ 0 ≤ T.getD p 0 := by
  obtain ⟨m, hm⟩ := steps_back ok hp hs
  have h1 := (h.low q (steps_lt ok hs) hq p m hm).1
  have := h.inv.nn p hp
  exact ⟨h1, by omega⟩

end Go.Proofs.YtimedmkpenbmkaaGreat.Hr
