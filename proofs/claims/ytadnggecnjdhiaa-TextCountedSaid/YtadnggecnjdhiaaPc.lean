/- oyezlaw02.TextCounted: there are as many right readings as are told, and none of them breaks at the places that are told, for any bytes. No condition. -/
import Derived.Test.YtadnggecnjdhiaaZl
namespace Go.Proofs.Ytadnggecnjdhiaa
open Tx
set_option linter.unusedSimpArgs false
set_option linter.unusedVariables false

/-- the breaths that a set of places leaves, from a place on, behind the last break -/
def setGo : Nat → Nat → Nat → Nat → List Int
  | 0, _, _, _ => []
  | f + 1, a, b, s => if f = 0 ∨ s % 2 = 1 then ((a : Int) + 1 - b) :: setGo f (a + 1) (a + 1) (s / 2) else setGo f (a + 1) b (s / 2)
def setL (n s : Nat) : List Int := setGo n 0 0 s
theorem range_two (q : Nat → Bool) : ∀ m : Nat, (List.range (2 * m)).countP q = (List.range m).countP (fun s => q (2 * s)) + (List.range m).countP (fun s => q (2 * s + 1))
  | 0 => rfl
  | m + 1 => by
    rw [show 2 * (m + 1) = 2 * m + 1 + 1 by omega, List.range_succ, List.range_succ, List.range_succ]
    simp only [List.countP_append, List.countP_cons, List.countP_nil]
    rw [range_two q m]
    omega
theorem setGo_count : ∀ (f a b : Nat) (p : List Int → Bool), b ≤ a →
    (List.range (2 ^ f)).countP (fun s => p (setGo (f + 1) a b s)) = ((List.range' (a + 1 - b) (f + 1)).flatMap fun k => (compF (a + f + 1 - b - k) (a + f + 1 - b - k)).map fun l => (k : Int) :: l).countP p
  | 0, a, b, p, hb => by
    have e : setGo 1 a b 0 = [((a + 1 - b : Nat) : Int)] := by
      rw [setGo, if_pos (Or.inl rfl), setGo]
      congr 1; omega
    have e2 : a + 0 + 1 - b - (a + 1 - b) = 0 := by omega
    have e3 : List.range' (a + 1 - b) (0 + 1) = [a + 1 - b] := by simp
    rw [e3]
    simp only [Nat.pow_zero, List.range_one, List.countP_cons, List.countP_nil, e, List.flatMap_cons, List.flatMap_nil, e2, compF, if_true, List.map_cons, List.map_nil, List.append_nil]
  | f + 1, a, b, p, hb => by
    rw [Nat.pow_succ, Nat.mul_comm, range_two]
    have h1 : (fun s => p (setGo (f + 1 + 1) a b (2 * s))) = fun s => p (setGo (f + 1) (a + 1) b s) := by
      funext s
      rw [setGo, if_neg (by omega), show 2 * s / 2 = s by omega]
    have h2 : (fun s => p (setGo (f + 1 + 1) a b (2 * s + 1))) = fun s => (fun l => p (((a + 1 - b : Nat) : Int) :: l)) (setGo (f + 1) (a + 1) (a + 1) s) := by
      funext s
      rw [setGo, if_pos (by omega), show (2 * s + 1) / 2 = s by omega]
      dsimp only
      rw [show ((a : Int) + 1 - b) = ((a + 1 - b : Nat) : Int) by omega]
    rw [h1, h2, setGo_count f (a + 1) b p (by omega), setGo_count f (a + 1) (a + 1) (fun l => p (((a + 1 - b : Nat) : Int) :: l)) (Nat.le_refl _)]
    rw [show List.range' (a + 1 - b) (f + 1 + 1) = (a + 1 - b) :: List.range' (a + 1 + 1 - b) (f + 1) by rw [List.range'_succ]; congr 2; omega]
    rw [List.flatMap_cons, List.countP_append, Nat.add_comm]
    congr 1
    · rw [List.countP_map]
      have hc : compF (a + (f + 1) + 1 - b - (a + 1 - b)) (a + (f + 1) + 1 - b - (a + 1 - b)) = (List.range' 1 (f + 1)).flatMap fun k => (compF (f + 1 - k) (f + 1 - k)).map fun l => (k : Int) :: l := by
        rw [show a + (f + 1) + 1 - b - (a + 1 - b) = f + 1 by omega, compF, if_neg (by omega), List.flatMap_def, List.flatMap_def]
        congr 1
        apply List.map_congr_left
        intro k hk
        rw [List.mem_range'_1] at hk
        rw [compF_eq f (f + 1 - k) (f + 1 - k) (by omega) (Nat.le_refl _)]
      rw [hc, show a + 1 + 1 - (a + 1) = 1 by omega]
      have e3 : ∀ k, a + 1 + f + 1 - (a + 1) - k = f + 1 - k := fun k => by omega
      simp only [e3]
      rfl
    · have e4 : ∀ k, a + 1 + f + 1 - b - k = a + (f + 1) + 1 - b - k := fun k => by omega
      simp only [e4]
theorem setL_count (n : Nat) (hn : 1 ≤ n) (p : List Int → Bool) : (List.range (2 ^ (n - 1))).countP (fun s => p (setL n s)) = (compF n n).countP p := by
  obtain ⟨f, rfl⟩ : ∃ f, n = f + 1 := ⟨n - 1, by omega⟩
  have := setGo_count f 0 0 p (Nat.le_refl _)
  rw [show f + 1 - 1 = f by omega]
  unfold setL
  rw [this, compF, if_neg (by omega)]
  rw [List.flatMap_def, List.flatMap_def]
  congr 2
  rw [show 0 + 1 - 0 = 1 by omega]
  apply List.map_congr_left
  intro k hk
  rw [List.mem_range'_1] at hk
  rw [show 0 + f + 1 - 0 - k = f + 1 - k by omega, compF_eq f (f + 1 - k) (f + 1 - k) (by omega) (Nat.le_refl _)]
/-- as many right readings as Count tells -/
theorem setL_rights (may : Nat → Nat → Bool) (n : Nat) (hn : 1 ≤ n) : (List.range (2 ^ (n - 1))).countP (fun s => okFrom may 0 (setL n s)) = count may n 0 := by
  rw [setL_count n hn, count_rights]
  unfold rights
  rw [List.countP_eq_length_filter]
/-- the places at which some right reading breaks -/
theorem setL_met (may : Nat → Nat → Bool) (n p : Nat) (hn : 1 ≤ n) : (0 < (List.range (2 ^ (n - 1))).countP (fun s => okFrom may 0 (setL n s) && breaksAt (setL n s) p)) ↔ (rights may n).any (fun l => breaksAt l p) = true := by
  rw [setL_count n hn (fun l => okFrom may 0 l && breaksAt l p), List.countP_pos_iff, List.any_eq_true]
  unfold rights
  constructor
  · rintro ⟨l, hl, h⟩
    rw [Bool.and_eq_true] at h
    exact ⟨l, List.mem_filter.2 ⟨hl, h.1⟩, h.2⟩
  · rintro ⟨l, hl, h⟩
    rw [List.mem_filter] at hl
    exact ⟨l, hl.1, by rw [Bool.and_eq_true]; exact ⟨hl.2, h⟩⟩
theorem setGo_parts : ∀ (f a b s : Nat), b ≤ a → 1 ≤ f → Parts ((a : Int) + f - b) (setGo f a b s)
  | f + 1, a, b, s, hb, _ => by
    rw [setGo]
    split
    · rw [parts_cons]
      refine ⟨by omega, ?_⟩
      rcases Nat.eq_zero_or_pos f with h0 | h0
      · subst h0
        rw [show (a : Int) + ((0 + 1 : Nat) : Int) - b - (a + 1 - b) = 0 by omega]
        exact ⟨by simp [setGo], rfl⟩
      · have := setGo_parts f (a + 1) (a + 1) (s / 2) (Nat.le_refl _) h0
        rw [show (a : Int) + ((f + 1 : Nat) : Int) - b - (a + 1 - b) = ((a + 1 : Nat) : Int) + f - (a + 1 : Nat) by omega]
        exact this
    · rename_i h
      have := setGo_parts f (a + 1) b (s / 2) (by omega) (by omega)
      rw [show (a : Int) + ((f + 1 : Nat) : Int) - b = ((a + 1 : Nat) : Int) + f - b by omega]
      exact this
theorem setL_parts (n s : Nat) (hn : 1 ≤ n) : Parts n (setL n s) := by
  have := setGo_parts n 0 0 s (Nat.le_refl _) hn
  unfold setL
  simpa using this
end Go.Proofs.Ytadnggecnjdhiaa
namespace Go.Proofs.Ytadnggecnjdhiaa
open Tx
set_option linter.unusedSimpArgs false
set_option linter.unusedVariables false

/-- the longest breath of a reading that begins at a place -/
def longGo (t : Text) : Nat → List Int → Int
  | _, [] => 0
  | a, x :: l => max (t.syl a (a + x.toNat)) (longGo t (a + x.toNat) l)
/-- what Even tries: breaths of at most so many syllables -/
def evGo (t : Text) : List Nat → List Int × Int × Int
  | [] => ([], 0, 6)
  | m :: ms => if (fewest (t.within (m : Nat)) t.words.length).2 = 0 then ((fewest (t.within (m : Nat)) t.words.length).1, (m : Int), 0) else evGo t ms
def evR (t : Text) : List Int × Int × Int := if t.err = 0 then evGo t (List.range' 1 t.breath.toNat) else ([], 0, t.err)
theorem okFrom_within (t : Text) (m : Int) (hm : 0 ≤ m) : ∀ (l : List Int) (a : Nat), okFrom (t.within m) a l = (okFrom t.right a l && decide (longGo t a l ≤ m))
  | [], a => by simp [okFrom, longGo, hm]
  | x :: l, a => by
    rw [okFrom, okFrom, longGo, okFrom_within t m hm l]
    unfold Tx.Text.within
    rw [Bool.eq_iff_iff]
    simp only [Bool.and_eq_true, decide_eq_true_eq]
    constructor
    · rintro ⟨⟨h1, h2⟩, h3, h4⟩
      exact ⟨⟨h2, h3⟩, by omega⟩
    · rintro ⟨⟨h2, h3⟩, h4⟩
      exact ⟨⟨by omega, h2⟩, h3, by omega⟩
theorem syl_pos {t : Text} (hs : ∀ x ∈ t.words, 1 ≤ x.syl ∧ x.syl ≤ 9) {a b : Nat} (hab : a < b) (hb : b ≤ t.words.length) : 1 ≤ t.syl a b := by
  unfold Text.syl
  have hl : ((slice t.words a b).map (·.syl)).length = b - a := by simp [slice]; omega
  have := isum_ge (l := (slice t.words a b).map (·.syl)) (fun x hx => by
    obtain ⟨y, hy, rfl⟩ := List.mem_map.1 hx
    exact (hs y (List.mem_of_mem_drop (List.mem_of_mem_take hy))).1)
  omega
theorem longGo_pos {t : Text} (hs : ∀ x ∈ t.words, 1 ≤ x.syl ∧ x.syl ≤ 9) {l : List Int} (hl : Parts t.words.length l) (h1 : 1 ≤ t.words.length) : 1 ≤ longGo t 0 l := by
  cases l with
  | nil => have := hl.2; simp [isum] at this; omega
  | cons x l =>
    rw [longGo]
    rw [parts_cons] at hl
    have := parts_pos hl.2
    have := syl_pos hs (a := 0) (b := 0 + x.toNat) (by omega) (by omega)
    omega
theorem longGo_breath {t : Text} (hb : 0 ≤ t.breath) : ∀ (l : List Int) (a : Nat), okFrom t.right a l = true → longGo t a l ≤ t.breath
  | [], a, _ => hb
  | x :: l, a, h => by
    rw [okFrom, Bool.and_eq_true] at h
    have h2 := longGo_breath hb l _ h.2
    have h1 := h.1
    unfold Text.right Text.isLong at h1
    simp only [Bool.and_eq_true, Bool.not_eq_true', decide_eq_false_iff_not] at h1
    rw [longGo]
    omega
theorem evGo_spec (t : Text) : ∀ (ms : List Nat), (evGo t ms = ([], 0, 6) ∧ ∀ m ∈ ms, (fewest (t.within (m : Nat)) t.words.length).2 ≠ 0) ∨
    ∃ pre m post, ms = pre ++ m :: post ∧ evGo t ms = ((fewest (t.within (m : Nat)) t.words.length).1, (m : Int), 0) ∧ (fewest (t.within (m : Nat)) t.words.length).2 = 0 ∧ ∀ k ∈ pre, (fewest (t.within (k : Nat)) t.words.length).2 ≠ 0
  | [] => .inl ⟨rfl, by simp⟩
  | m :: ms => by
    rw [evGo]
    by_cases h : (fewest (t.within (m : Nat)) t.words.length).2 = 0
    · rw [if_pos h]
      exact .inr ⟨[], m, ms, rfl, rfl, h, by simp⟩
    · rw [if_neg h]
      rcases evGo_spec t ms with ⟨h1, h2⟩ | ⟨pre, k, post, h1, h2, h3, h4⟩
      · exact .inl ⟨h1, fun k hk => by rcases List.mem_cons.1 hk with rfl | hk; exact h; exact h2 k hk⟩
      · exact .inr ⟨m :: pre, k, post, by rw [h1]; rfl, h2, h3, fun j hj => by rcases List.mem_cons.1 hj with rfl | hj; exact h; exact h4 j hj⟩
/-- what Even tells, as its law asks -/
theorem evR_spec {t : Text} (he : t.err = 0) (hs : ∀ x ∈ t.words, 1 ≤ x.syl ∧ x.syl ≤ 9) (hn1 : 1 ≤ t.words.length) (hn : t.words.length ≤ 12) (hb : 1 ≤ t.breath) :
    ((evR t).2.2 = 6 ∧ (evR t).1 = [] ∧ ∀ l, Parts t.words.length l → okFrom t.right 0 l = true → False) ∨
    ((evR t).2.2 = 0 ∧ Parts t.words.length (evR t).1 ∧ okFrom t.right 0 (evR t).1 = true ∧ longGo t 0 (evR t).1 = (evR t).2.1 ∧ 1 ≤ (evR t).2.1 ∧ (evR t).2.1 ≤ t.breath ∧
      ∀ l, Parts t.words.length l → okFrom t.right 0 l = true → (evR t).2.1 ≤ longGo t 0 l ∧ (longGo t 0 l = (evR t).2.1 → (evR t).1.length ≤ l.length)) := by
  unfold evR
  rw [if_pos he]
  have hfr := fun m : Nat => fewest_rights (may := t.within (m : Nat)) hn1 hn
  have hno : ∀ (m : Nat) l, Parts t.words.length l → okFrom t.right 0 l = true → longGo t 0 l ≤ m → l ∈ rights (t.within (m : Nat)) t.words.length := fun m l h1 h2 h3 => by
    rw [mem_rights]
    exact ⟨h1, by rw [okFrom_within t _ (by omega), h2]; simpa using h3⟩
  have hnot : ∀ (m : Nat), (fewest (t.within (m : Nat)) t.words.length).2 ≠ 0 → ∀ l, Parts t.words.length l → okFrom t.right 0 l = true → ¬ longGo t 0 l ≤ m := fun m hm l h1 h2 h3 => by
    apply hm
    rw [(hfr m).2.2.2]
    intro e
    have := hno m l h1 h2 h3
    rw [e] at this; simp at this
  rcases evGo_spec t (List.range' 1 t.breath.toNat) with ⟨h1, h2⟩ | ⟨pre, m, post, h1, h2, h3, h4⟩
  · left
    rw [h1]
    refine ⟨rfl, rfl, fun l hl ho => ?_⟩
    refine hnot t.breath.toNat (h2 _ (by rw [List.mem_range'_1]; omega)) l hl ho ?_
    have := longGo_breath (by omega) l 0 ho
    omega
  · right
    rw [h2]
    have hin := (hfr m).2.2.1 h3
    obtain ⟨g1, g2⟩ := mem_rights.1 hin
    rw [okFrom_within t _ (by omega), Bool.and_eq_true, decide_eq_true_eq] at g2
    have hmem : m ∈ List.range' 1 t.breath.toNat := by rw [h1]; simp
    rw [List.mem_range'_1] at hmem
    have hlow : ∀ l, Parts t.words.length l → okFrom t.right 0 l = true → (m : Int) ≤ longGo t 0 l := fun l hl ho => by
      have hp := longGo_pos hs hl hn1
      have hlb := longGo_breath (by omega) l 0 ho
      rcases Nat.lt_or_ge (longGo t 0 l).toNat m with hlt | hge
      · exfalso
        have hk : (longGo t 0 l).toNat ∈ pre := by
          have hlen : m = 1 + pre.length := by
            have e : (List.range' 1 t.breath.toNat)[pre.length]? = some m := by rw [h1]; simp
            rw [List.getElem?_range'] at e
            · simp at e; omega
            · have := congrArg List.length h1; simp at this; omega
          have e2 : (List.range' 1 t.breath.toNat)[(longGo t 0 l).toNat - 1]? = some (longGo t 0 l).toNat := by
            rw [List.getElem?_range' (by omega)]
            congr 1; omega
          rw [h1, List.getElem?_append_left (by omega)] at e2
          exact List.mem_of_getElem? e2
        exact hnot _ (h4 _ hk) l hl ho (by omega)
      · omega
    refine ⟨rfl, g1, g2.1, ?_, by show (1 : Int) ≤ (m : Int); omega, by show (m : Int) ≤ _; omega, fun l hl ho => ⟨hlow l hl ho, fun e => ?_⟩⟩
    · have := hlow _ g1 g2.1
      have := g2.2
      dsimp only at *
      omega
    · have hl2 := hno m l hl ho (by dsimp only at e; omega)
      dsimp only
      rw [(hfr m).1]
      exact (bestLen_spec _ 0 (rights_ne hn1)).2.1 l hl2
end Go.Proofs.Ytadnggecnjdhiaa
namespace Go.Proofs.Ytadnggecnjdhiaa
open Tx
set_option linter.unusedSimpArgs false
set_option linter.unusedVariables false

theorem okFrom_mono {may may' : Nat → Nat → Bool} {n : Nat} (h : ∀ a b, a < b → b ≤ n → may a b = true → may' a b = true) : ∀ (l : List Int) (a : Nat), a ≤ n → Parts ((n : Int) - a) l → okFrom may a l = true → okFrom may' a l = true
  | [], a, _, _, _ => rfl
  | x :: l, a, ha, hp, ho => by
    rw [okFrom, Bool.and_eq_true] at ho ⊢
    rw [parts_cons] at hp
    have hp2 := parts_pos hp.2
    refine ⟨h a _ (by omega) (by omega) ho.1, okFrom_mono h l _ (by omega) ?_ ho.2⟩
    rw [show (n : Int) - ((a + x.toNat : Nat) : Int) = (n : Int) - a - x by omega]
    exact hp.2
theorem rights_mono {may may' : Nat → Nat → Bool} {n : Nat} (h : ∀ a b, a < b → b ≤ n → may a b = true → may' a b = true) {l : List Int} (hl : l ∈ rights may n) : l ∈ rights may' n := by
  rw [mem_rights] at hl ⊢
  exact ⟨hl.1, okFrom_mono h l 0 (Nat.zero_le _) (by simpa using hl.1) hl.2⟩
theorem count_mono {may may' : Nat → Nat → Bool} {n : Nat} (h : ∀ a b, a < b → b ≤ n → may a b = true → may' a b = true) : count may n 0 ≤ count may' n 0 := by
  rw [count_rights, count_rights]
  unfold rights
  rw [← List.countP_eq_length_filter, ← List.countP_eq_length_filter]
  apply List.countP_mono_left
  intro l hl ho
  exact okFrom_mono h l 0 (Nat.zero_le _) (by simpa using (compF_mem n n l (Nat.le_refl _)).1 hl) ho
theorem few_mono {may may' : Nat → Nat → Bool} {n : Nat} (hn1 : 1 ≤ n) (hn : n ≤ 12) (h : ∀ a b, a < b → b ≤ n → may a b = true → may' a b = true) (he : (fewest may n).2 = 0) :
    (fewest may' n).2 = 0 ∧ (fewest may' n).1.length ≤ (fewest may n).1.length := by
  have hin := (fewest_rights (may := may) hn1 hn).2.2.1 he
  have hin' := rights_mono h hin
  obtain ⟨f1, f2, f3, f4⟩ := fewest_rights (may := may') hn1 hn
  refine ⟨f4.2 (fun e => by rw [e] at hin'; simp at hin'), ?_⟩
  rw [f1]
  exact (bestLen_spec _ 0 (rights_ne hn1)).2.1 _ hin'
theorem fewest_err {may : Nat → Nat → Bool} {n : Nat} (hn1 : 1 ≤ n) (hn : n ≤ 12) : ((fewest may n).2 = 0 ∧ 0 < count may n 0) ∨ ((fewest may n).2 = 6 ∧ count may n 0 = 0) := by
  obtain ⟨f1, f2, f3, f4⟩ := fewest_rights (may := may) hn1 hn
  rw [count_rights]
  by_cases h : (fewest may n).2 = 0
  · exact .inl ⟨h, List.length_pos_iff.2 (f4.1 h)⟩
  · right
    rw [f2] at h ⊢
    have hz : bestLen (rights may n) 0 = 0 := by
      by_cases hz : bestLen (rights may n) 0 = 0
      · exact hz
      · rw [if_neg hz] at h; exact absurd rfl h
    rw [if_pos hz]
    refine ⟨rfl, ?_⟩
    rw [((bestLen_zero _ 0 (rights_ne hn1)).1 hz).2]
    rfl
theorem unbroken_err {may : Nat → Nat → Bool} {n : Nat} (hn1 : 1 ≤ n) (hn : n ≤ 12) : (unbroken may n).2 = (fewest may n).2 := by
  unfold unbroken
  rcases fewest_err (may := may) hn1 hn with ⟨h1, h2⟩ | ⟨h1, h2⟩
  · rw [if_neg (by omega), h1]
  · rw [if_pos h2, h1]
theorem mem_unbroken {may : Nat → Nat → Bool} {n : Nat} (hn1 : 1 ≤ n) (hn : n ≤ 12) (he : (fewest may n).2 = 0) {x : Int} : x ∈ (unbroken may n).1 ↔ ∃ p : Nat, x = p ∧ 1 ≤ p ∧ p < n ∧ ∀ l ∈ rights may n, breaksAt l p = false := by
  unfold unbroken
  rcases fewest_err (may := may) hn1 hn with ⟨h1, h2⟩ | ⟨h1, h2⟩
  · rw [if_neg (by omega)]
    simp only [List.mem_map, List.mem_filter, List.mem_range'_1]
    constructor
    · rintro ⟨p, ⟨hp1, hp2⟩, rfl⟩
      rw [unbr_rights hn (by omega) (by omega)] at hp2
      simp only [Bool.not_eq_true', List.any_eq_false, Bool.not_eq_true] at hp2
      exact ⟨p, rfl, by omega, by omega, hp2⟩
    · rintro ⟨p, rfl, hp1, hp2, hp3⟩
      refine ⟨p, ⟨by omega, ?_⟩, rfl⟩
      rw [unbr_rights hn hp1 hp2]
      simp only [Bool.not_eq_true', List.any_eq_false, Bool.not_eq_true]
      exact hp3
  · rw [he] at h1; simp at h1
theorem never_mono {may may' : Nat → Nat → Bool} {n : Nat} (hn1 : 1 ≤ n) (hn : n ≤ 12) (h : ∀ a b, a < b → b ≤ n → may a b = true → may' a b = true) (he : (fewest may n).2 = 0) {x : Int} (hx : x ∈ (unbroken may' n).1) : x ∈ (unbroken may n).1 := by
  rw [mem_unbroken hn1 hn (few_mono hn1 hn h he).1] at hx
  rw [mem_unbroken hn1 hn he]
  obtain ⟨p, h1, h2, h3, h4⟩ := hx
  exact ⟨p, h1, h2, h3, fun l hl => h4 l (rights_mono h hl)⟩
/-- in one text is right what is right in another one -/
structure More (t t' : Text) : Prop where
  len : t'.words.length = t.words.length
  syl : ∀ a b, t'.syl a b = t.syl a b
  right : ∀ a b, a < b → b ≤ t.words.length → t.right a b = true → t'.right a b = true
theorem longGo_more {t t' : Text} (h : More t t') : ∀ (l : List Int) (a : Nat), longGo t' a l = longGo t a l
  | [], _ => rfl
  | x :: l, a => by rw [longGo, longGo, h.syl, longGo_more h l]
theorem even_more {t t' : Text} (h : More t t') (he : t.err = 0) (he' : t'.err = 0) (hs : ∀ x ∈ t.words, 1 ≤ x.syl ∧ x.syl ≤ 9) (hs' : ∀ x ∈ t'.words, 1 ≤ x.syl ∧ x.syl ≤ 9) (hn1 : 1 ≤ t.words.length) (hn : t.words.length ≤ 12) (hb : 1 ≤ t.breath) (hb' : 1 ≤ t'.breath) (hz : (evR t).2.2 = 0) :
    (evR t').2.2 = 0 ∧ (evR t').2.1 ≤ (evR t).2.1 := by
  rcases evR_spec he hs hn1 hn hb with ⟨h1, _⟩ | ⟨_, h2, h3, h4, h5, h6, h7⟩
  · rw [hz] at h1; simp at h1
  · have ho : okFrom t'.right 0 (evR t).1 = true := okFrom_mono h.right _ 0 (Nat.zero_le _) (by simpa using h2) h3
    rcases evR_spec he' hs' (by rw [h.len]; exact hn1) (by rw [h.len]; exact hn) hb' with ⟨_, _, k3⟩ | ⟨k1, _, _, _, _, _, k7⟩
    · exact (k3 _ (by rw [h.len]; exact h2) ho).elim
    · refine ⟨k1, ?_⟩
      have := (k7 _ (by rw [h.len]; exact h2) ho).1
      rw [longGo_more h, h4] at this
      exact this
theorem even_err {t : Text} (he : t.err = 0) (hs : ∀ x ∈ t.words, 1 ≤ x.syl ∧ x.syl ≤ 9) (hn1 : 1 ≤ t.words.length) (hn : t.words.length ≤ 12) (hb : 1 ≤ t.breath) : (evR t).2.2 = (fewest t.right t.words.length).2 := by
  have f := fewest_rights (may := t.right) hn1 hn
  rcases evR_spec he hs hn1 hn hb with ⟨h1, h2, h3⟩ | ⟨h1, h2, h3, _⟩
  · rw [h1]
    rcases fewest_err (may := t.right) hn1 hn with ⟨g1, _⟩ | ⟨g1, _⟩
    · exfalso
      have := f.2.2.1 g1
      rw [mem_rights] at this
      exact h3 _ this.1 this.2
    · exact g1.symm
  · rw [h1]
    symm
    rw [f.2.2.2]
    intro e
    have := mem_rights.2 ⟨h2, h3⟩
    rw [e] at this
    simp at this
theorem more_stop (t : Text) (k : Nat) (hk : k < t.words.length) (t' : Text) (hw : t'.words = t.words.set k { t.words.getD k default with stop := true }) (ht : t'.turns = t.turns) (hb : t'.breath = t.breath) : More t t' := by
  have hlen : t'.words.length = t.words.length := by rw [hw]; simp
  have hg : ∀ i, (t'.words.getD i default).stop = (decide (i = k) || (t.words.getD i default).stop) := fun i => by
    rw [hw]
    by_cases h : i = k
    · subst h; simp [hk]
    · simp [List.getElem?_set, Ne.symm h, h]
  have hsyl : t'.words.map (·.syl) = t.words.map (·.syl) := by
    rw [hw]
    apply List.ext_getElem (by simp)
    intro i h1 h2
    simp only [List.getElem_map, List.getElem_set]
    split
    · rename_i e; subst e; simp [hk]
    · rfl
  have hs : ∀ a b, t'.syl a b = t.syl a b := fun a b => by
    unfold Text.syl slice
    rw [List.map_take, List.map_drop, hsyl, List.map_take, List.map_drop]
  refine ⟨hlen, hs, fun a b hab hbn hr => ?_⟩
  have hal : ∀ p, t.allow p = true → t'.allow p = true := fun p h => by
    unfold Text.allow Text.len at *
    rw [hlen, hg]
    simp only [Bool.or_eq_true] at *
    rcases h with h | h
    · exact .inl h
    · exact .inr (.inr h)
  unfold Text.right Text.isLong Text.isCut Text.isOther at *
  rw [hs, ht, hb]
  simp only [Bool.and_eq_true, Bool.not_eq_true', Bool.or_eq_false_iff, Bool.not_eq_false'] at hr ⊢
  exact ⟨⟨hr.1.1, hal a hr.1.2.1, hal b hr.1.2.2⟩, hr.2⟩
theorem more_breath (t : Text) (t' : Text) (hw : t'.words = t.words) (ht : t'.turns = t.turns) (hb : t.breath ≤ t'.breath) : More t t' := by
  have hs : ∀ a b, t'.syl a b = t.syl a b := fun a b => by unfold Text.syl; rw [hw]
  refine ⟨by rw [hw], hs, fun a b hab hbn hr => ?_⟩
  unfold Text.right Text.isLong Text.isCut Text.isOther Text.allow Text.len at *
  rw [hs, ht, hw]
  simp only [Bool.and_eq_true, Bool.not_eq_true', decide_eq_false_iff_not] at hr ⊢
  exact ⟨⟨by omega, hr.1.2⟩, hr.2⟩
theorem more_turn (t : Text) (t' : Text) (hw : t'.words = t.words) (ht : ∀ u ∈ t'.turns, u ∈ t.turns) (hb : t'.breath = t.breath) : More t t' := by
  have hs : ∀ a b, t'.syl a b = t.syl a b := fun a b => by unfold Text.syl; rw [hw]
  refine ⟨by rw [hw], hs, fun a b hab hbn hr => ?_⟩
  unfold Text.right Text.isLong Text.isCut Text.isOther Text.allow Text.len at *
  rw [hs, hw, hb]
  simp only [Bool.and_eq_true, Bool.not_eq_true', List.any_eq_false] at hr ⊢
  exact ⟨hr.1, fun u hu => hr.2 u (ht u hu)⟩
end Go.Proofs.Ytadnggecnjdhiaa
set_option linter.unusedSimpArgs false
set_option linter.unusedVariables false
namespace Go.Proofs.Ytadnggecnjdhiaa
open Go.RowKit Tx

theorem Ints.heap {w W : World} {p : Option Addr} {l : List Int} (h : Ints w p l) (e : W.heap = w.heap) : Ints W p l := by
  rcases h with h | ⟨b, o, rfl, hl, h⟩
  · exact .inl h
  · exact .inr ⟨b, o, rfl, by rw [e]; exact hl, fun i hi => by have := h i hi; unfold World.cell? at this ⊢; rw [e]; exact this⟩
theorem A_infoB : (Try.prog.info? 4).map (fun i => (i.zero, i.size, i.bytes)) = some (some (.bool false), 1, 1) := by kernel_rfl
theorem A_undB : Try.prog.underlying 113 = some (.slice 4) := by kernel_rfl
/-- a row of Booleans -/
def boolsOf (n : Nat) (f : Nat → Bool) : Array Value := ((List.range n).map fun i => Value.bool (f i)).toArray
theorem made_bool (n : Nat) : madeCells #[.bool false] n = boolsOf n (fun _ => false) := by
  unfold madeCells boolsOf
  apply Array.ext_getElem?
  intro i
  by_cases hi : i < n <;> simp [Nat.mod_one, hi, Array.getElem?_range]
theorem make_bools (n : Nat) (hn : n ≤ 1000000) (W : World) : (Instr.makeSlice 113 (.int .i64 (n : Int)) (.int .i64 (n : Int))).run Try.prog W = .ok (.slice (some ⟨W.heap.size, 0, none⟩) n n) (W.alloc (.cells (boolsOf n (fun _ => false)) 4)) := by
  have h := run_make_row' (P := Try.prog) 113 4 (.bool false) 1 A_undB A_infoB rfl .i64 .i64 n (by omega) (by omega) W
  rw [made_bool] at h
  exact h
theorem boolsOf_get {n : Nat} {f : Nat → Bool} {i : Nat} (h : i < n) : (boolsOf n f)[i]? = some (.bool (f i)) := by simp [boolsOf, h]
theorem boolsOf_set (n : Nat) (f : Nat → Bool) (i : Nat) (b : Bool) : (boolsOf n f).setIfInBounds i (.bool b) = boolsOf n (fun j => if j = i then b else f j) := by
  unfold boolsOf
  apply Array.ext_getElem?
  intro j
  by_cases hj : j < n
  · by_cases hji : j = i
    · subst hji; simp [Array.getElem?_setIfInBounds, hj]
    · simp [Array.getElem?_setIfInBounds, hj, hji, Ne.symm hji]
  · by_cases hji : j = i
    · subst hji; simp [Array.getElem?_setIfInBounds, hj]
    · simp [Array.getElem?_setIfInBounds, hj, Ne.symm hji]
theorem wrap_nat' {n : Nat} (h : n < 2 ^ 63) : IntKind.wrap .i64 (n : Int) = (n : Int) := by
  rw [IntWalk.i64_in _ (by omega)]
theorem shl_eq {i : Nat} (hi : i < 62) (W : World) : (Op.shift BinOp.shl IntKind.i64 1 IntKind.i64 (i : Int)).run Try.prog W = .ok (.int .i64 ((2 ^ i : Nat) : Int)) W := by
  have h3 : IntKind.wrap .i64 ((2 ^ i : Nat) : Int) = ((2 ^ i : Nat) : Int) := wrap_nat' (Nat.pow_lt_pow_right (by omega) (by omega))
  have hn : min (i : Int).toNat (IntKind.bits .i64) = i := by
    have : IntKind.bits .i64 = 64 := rfl
    omega
  simp only [Op.shift]
  rw [if_neg (by omega)]
  simp only [hn]
  rw [show (1 : Int) * 2 ^ i = ((2 ^ i : Nat) : Int) by rw [Int.one_mul]; exact (Int.natCast_pow 2 i).symm, h3]
  rfl
theorem shr_eq {s i : Nat} (hi : i < 62) (W : World) : (Op.shift BinOp.shr IntKind.i64 (s : Int) IntKind.i64 (i : Int)).run Try.prog W = .ok (.int .i64 ((s / 2 ^ i : Nat) : Int)) W := by
  have hn : min (i : Int).toNat (IntKind.bits .i64) = i := by
    have : IntKind.bits .i64 = 64 := rfl
    omega
  simp only [Op.shift]
  rw [if_neg (by omega)]
  simp only [hn]
  have : (s : Int).fdiv (2 ^ i) = ((s / 2 ^ i : Nat) : Int) := by
    rw [Int.fdiv_eq_ediv_of_nonneg _ (by exact Int.pow_nonneg (by omega)), Int.natCast_ediv, Int.natCast_pow]
    rfl
  rw [this]
  rfl
theorem bits_and {q : Nat} (hq : q < 2 ^ 62) : Go.bits BinOp.and IntKind.i64 (q : Int) 1 = ((q % 2 : Nat) : Int) := by
  have h1 : (BitVec.ofInt 64 (q : Int) &&& BitVec.ofInt 64 1).toNat = q % 2 := by
    rw [BitVec.toNat_and]
    have e1 : (BitVec.ofInt 64 (q : Int)).toNat = q := by
      rw [BitVec.toNat_ofInt]; omega
    have e2 : (BitVec.ofInt 64 (1 : Int)).toNat = 1 := by decide
    rw [e1, e2, Nat.and_one_is_mod]
  have h4 : Go.bits BinOp.and IntKind.i64 (q : Int) 1 = IntKind.wrap .i64 ((BitVec.ofInt 64 (q : Int) &&& BitVec.ofInt 64 1).toNat : Int) := rfl
  rw [h4, h1, wrap_nat' (by omega)]
theorem bits_div {s a : Nat} (hs : s < 2 ^ 62) : Go.bits BinOp.and IntKind.i64 ((s : Int) / 2 ^ a) 1 = ((s / 2 ^ a % 2 : Nat) : Int) := by
  rw [show (s : Int) / 2 ^ a = ((s / 2 ^ a : Nat) : Int) by rw [Int.natCast_ediv, Int.natCast_pow]; rfl]
  exact bits_and (Nat.lt_of_le_of_lt (Nat.div_le_self _ _) hs)
/-- a place is one of a right reading among the first sets -/
def metB (t : Text) (s p : Nat) : Bool := (List.range s).any fun k => okFrom t.right 0 (setL t.words.length k) && (placesL (setL t.words.length k)).contains (p : Int)
theorem metB_succ (t : Text) (s p : Nat) : metB t (s + 1) p = (metB t s p || (okFrom t.right 0 (setL t.words.length s) && (placesL (setL t.words.length s)).contains (p : Int))) := by
  unfold metB; rw [List.range_succ, List.any_append]; simp
def manyN (t : Text) (s : Nat) : Nat := (List.range s).countP fun k => okFrom t.right 0 (setL t.words.length k)
theorem manyN_succ (t : Text) (s : Nat) : manyN t (s + 1) = manyN t s + (if okFrom t.right 0 (setL t.words.length s) then 1 else 0) := by
  unfold manyN; rw [List.range_succ, List.countP_append]; simp [List.countP_cons]
theorem manyN_le (t : Text) (s : Nat) : manyN t s ≤ s := by
  unfold manyN; have := List.countP_le_length (p := fun k => okFrom t.right 0 (setL t.words.length k)) (l := List.range s); simpa using this
theorem places_breaks (l : List Int) {p : Nat} (hp : 1 ≤ p) : (placesL l).contains (p : Int) = breaksAt l p := by
  unfold placesL breaksAt
  rw [Bool.eq_iff_iff, List.contains_iff_mem, List.any_eq_true]
  simp only [List.mem_map, List.mem_range, beq_iff_eq]
  constructor
  · rintro ⟨k, hk, he⟩
    cases k with
    | zero => simp [isum] at he; omega
    | succ k => exact ⟨k, by omega, he⟩
  · rintro ⟨k, hk, he⟩
    exact ⟨k + 1, by omega, he⟩
/-- in the end as many right readings are met as are told, and the places are those at which some breaks -/
theorem met_end {t : Text} (ok : Text.Ok t) (he : t.err = 0) : ((manyN t (2 ^ (t.words.length - 1)) : Nat) : Int) = cntN t ∧
    (0 < cntN t → ∀ p, 1 ≤ p → p < t.words.length → metB t (2 ^ (t.words.length - 1)) p = !(nevL t).contains (p : Int)) := by
  have hc : cntN t = (Tx.count t.right t.words.length 0 : Int) := if_pos he
  have hn : nevL t = (Tx.unbroken t.right t.words.length).1 := if_pos he
  refine ⟨by rw [hc]; congr 1; exact setL_rights t.right _ ok.n1, fun h0 p hp hpn => ?_⟩
  rw [hc] at h0
  have hf : (Tx.fewest t.right t.words.length).2 = 0 := by
    rcases fewest_err (may := t.right) ok.n1 ok.n12 with ⟨h, _⟩ | ⟨_, h⟩
    · exact h
    · omega
  rw [Bool.eq_iff_iff, Bool.not_eq_true', hn]
  have hm : metB t (2 ^ (t.words.length - 1)) p = true ↔ (rights t.right t.words.length).any (fun l => breaksAt l p) = true := by
    rw [← setL_met t.right _ p ok.n1, List.countP_pos_iff]
    unfold metB
    rw [List.any_eq_true]
    simp only [places_breaks _ hp]
  rw [hm, ← Bool.not_eq_true, List.contains_iff_mem, mem_unbroken ok.n1 ok.n12 hf]
  rw [List.any_eq_true]
  constructor
  · rintro ⟨l, hl, hb⟩ ⟨x, e, _, _, hno⟩
    have : p = x := by omega
    subst this
    rw [hno l hl] at hb; cases hb
  · intro h
    apply Classical.byContradiction
    intro hno
    refine h ⟨p, rfl, hp, hpn, fun l hl => ?_⟩
    cases hb : breaksAt l p with
    | false => rfl
    | true => exact absurd ⟨l, hl, hb⟩ hno
set_option maxHeartbeats 8000000 in
set_option maxRecDepth 100000 in
theorem TextCounted_any (pn : Option Addr) (nn cn : Nat) (hnn : nn ≤ 9223372036854775807) (w : World) (hN : Bytes w pn nn) :
    Calls Try.prog 16 #[.slice pn nn cn] w fun e w' => e = .returned (.bool true) ∧ Below w.heap.size w w' := by
  have hmf := mf
  obtain ⟨hb0, hm0⟩ := hang_made pn nn cn hnn w hN
  have HB0 := Lib.hid hb0
  have HM0 := Lib.hid hm0
  have hal := below1 w (.cells #[.slice pn nn cn, .int .i64 0, .int .u32 0] 159)
  have HAL := Lib.hid hal
  have hz1 : (w.alloc (.cells #[.slice pn nn cn, .int .i64 0, .int .u32 0] 159)).heap.size = w.heap.size + 1 := by simp
  clear hb0 hm0 hN hal
  go_enter Try.func16, Try.ntmps16
  go_wp2_with fail
  refine (hang_any _ _ _ _).mono ?_
  rintro e w1 ⟨rfl, rfl⟩
  generalize w.alloc (.cells #[.slice pn nn cn, .int .i64 0, .int .u32 0] 159) = W1 at HB0 HM0 HAL hz1 ⊢
  go_wp2_with fail
  refine (made_ok (words := 8) (turns := 3) (by omega) (by omega) (by omega) _ HB0.out HM0.out).mono ?_
  rintro e W2 ⟨t, p, q, c, d, rfl, HT, HC, HD, HE, HOK, HW9, HT3, -, HH⟩
  have HWA := Lib.hid (HAL.out.trans (hold_below HH.out (by omega)))
  have hwA : w.heap.size ≤ W2.heap.size := by have := HH.out.size; omega
  clear HB0 HM0 HAL HH hz1
  have HT2 := Lib.hid (HT.out.below (below1 W2 (.cells #[.slice p t.words.length c, .slice q t.turns.length d, .int .i64 t.breath] 25)))
  have HBX := Lib.hid (heap_last W2 (.cells #[.slice p t.words.length c, .slice q t.turns.length d, .int .i64 t.breath] 25))
  obtain ⟨T, hTT⟩ : ∃ T, T = W2.heap.size := ⟨_, rfl⟩
  have hz3 : (W2.alloc (.cells #[.slice p t.words.length c, .slice q t.turns.length d, .int .i64 t.breath] 25)).heap.size = T + 1 := by rw [hTT]; simp
  have HW3 := Lib.hid (HWA.out.trans ((below1 W2 (.cells #[.slice p t.words.length c, .slice q t.turns.length d, .int .i64 t.breath] 25)).mono hwA))
  rw [← hTT] at HBX hwA
  clear HT HWA
  go_wp2_with fail
  rw [← hTT]
  clear hTT
  generalize W2.alloc (.cells #[.slice p t.words.length c, .slice q t.turns.length d, .int .i64 t.breath] 25) = W3 at HT2 HBX hz3 HW3 ⊢
  obtain ⟨k0, k1, k2⟩ := blk3 HBX.out
  have hn9 : t.words.length ≤ 1000000 := by have := HW9.out; omega
  have hn3 : t.turns.length ≤ 1000000 := by have := HT3.out; omega
  go_wp2_with fail
  refine (Count_any t hn9 hn3 p q c d HC.out _ HT2.out).mono ?_
  rintro e W4 ⟨rfl, hB4⟩
  rw [HE.out]
  obtain ⟨k0, k1, k2⟩ := blk3 ((hB4.block T (by omega)).trans HBX.out)
  have HB4 := Lib.hid hB4
  clear hB4
  go_wp2_with fail
  refine (Never_any t hn9 hn3 p q c d HC.out _ (HT2.out.below HB4.out)).mono ?_
  rintro e W5 ⟨v, rfl, hown, hB5⟩
  obtain ⟨pf, cf, rfl, hF, -, -⟩ := own_rd hown rfl
  have HF := Lib.hid hF
  obtain ⟨hE1, hE2⟩ := met_end HOK.out HE.out
  have HME := Lib.hid hE1
  have HMP := Lib.hid hE2
  have hcs : (nevE t = 0 ∧ 0 < cntN t) ∨ (nevE t = 6 ∧ cntN t = 0) := by
    have h1 : nevE t = (Tx.unbroken t.right t.words.length).2 := if_pos HE.out
    have h2 : cntN t = (Tx.count t.right t.words.length 0 : Int) := if_pos HE.out
    rw [h1, h2, unbroken_err HOK.out.n1 HOK.out.n12]
    rcases fewest_err (may := t.right) HOK.out.n1 HOK.out.n12 with ⟨h, h'⟩ | ⟨h, h'⟩
    · exact .inl ⟨h, by omega⟩
    · exact .inr ⟨h, by omega⟩
  obtain ⟨ne, hne⟩ : ∃ ne, ne = nevE t := ⟨_, rfl⟩
  obtain ⟨cn0, hcn⟩ : ∃ cn0, cn0 = cntN t := ⟨_, rfl⟩
  obtain ⟨nv, hnv⟩ : ∃ nv, nv = nevL t := ⟨_, rfl⟩
  rw [← hne, ← hcn] at hcs
  rw [← hcn] at HME HMP
  rw [← hnv] at HMP HF
  rw [← hne, ← hcn, ← hnv]
  have HBX5 := Lib.hid ((hB5.block T (by have := HB4.out.size; omega)).trans ((HB4.out.block T (by omega)).trans HBX.out))
  have HB5 := Lib.hid (join HB4.out hB5)
  have hz5 : T + 1 ≤ W5.heap.size := by have := HB5.out.size; omega
  have HT5 := Lib.hid (HT2.out.below HB5.out)
  have hnvl : nv.length ≤ 1000000 := by
    rw [hnv]
    have h1 : nevL t = (Tx.unbroken t.right t.words.length).1 := if_pos HE.out
    rw [h1]
    unfold Tx.unbroken
    have := HW9.out
    split
    · simp
    · rw [List.length_map]
      have h2 := List.length_filter_le (unbrP t.right t.words.length) (List.range' 1 (t.words.length - 1))
      rw [List.length_range'] at h2
      omega
  clear hown hF hE1 hE2 hne hcn hnv hB5 HB4 k0 k1 k2
  obtain ⟨k0, k1, k2⟩ := blk3 HBX5.out
  obtain ⟨i0, hi0, hz0, hz1', hz2⟩ := info_parts A_infoI
  rcases hcs with ⟨rfl, hpos⟩ | ⟨rfl, hzero⟩
  · have hpos' : cn0 > 0 := hpos
    have hw8 := HW9.out
    have hn1 := HOK.out.n1
    obtain ⟨N, hNe⟩ : ∃ N, N = 2 ^ (t.words.length - 1) := ⟨_, rfl⟩
    have hN128 : N ≤ 128 := by rw [hNe]; exact Nat.le_trans (Nat.pow_le_pow_right (by omega) (show t.words.length - 1 ≤ 7 by omega)) (by decide)
    have hmb : ∀ W, (Instr.makeSlice 113 (.int .i64 ((t.words.length : Int) + 1)) (.int .i64 ((t.words.length : Int) + 1))).run Try.prog W = .ok (.slice (some ⟨W.heap.size, 0, none⟩) (t.words.length + 1) (t.words.length + 1)) (W.alloc (.cells (boolsOf (t.words.length + 1) (fun _ => false)) 4)) := fun W => by
      have := make_bools (t.words.length + 1) (by omega) W
      rwa [show ((t.words.length + 1 : Nat) : Int) = (t.words.length : Int) + 1 by omega] at this
    have hsub : IntKind.i64.wrap ((t.words.length : Int) - 1) = ((t.words.length - 1 : Nat) : Int) := by rw [IntWalk.i64_in _ (by omega)]; omega
    have hshl : wrap64 ((2 : Int) ^ (t.words.length - 1)) = (N : Int) := by
      rw [show (2 : Int) ^ (t.words.length - 1) = (N : Int) by rw [hNe]; simp]
      unfold wrap64; omega
    rw [← hNe] at HME HMP
    have hqT : T < W5.heap.size := by omega
    have HM6 := Lib.hid (heap_last W5 (.cells (boolsOf (t.words.length + 1) (fun _ => false)) 4))
    have HB56 := Lib.hid (below1 W5 (.cells (boolsOf (t.words.length + 1) (fun _ => false)) 4))
    have HBX6 := Lib.hid ((HB56.out.block T hqT).trans HBX5.out)
    have hz6 : (W5.alloc (.cells (boolsOf (t.words.length + 1) (fun _ => false)) 4)).heap.size = W5.heap.size + 1 := by simp
    clear hNe
    go_wp2_with fail
    rw [hshl]
    clear hmb hshl hsub k0 k1 k2
    generalize W5.alloc (.cells (boolsOf (t.words.length + 1) (fun _ => false)) 4) = W6 at HM6 HB56 HBX6 hz6 ⊢
    obtain ⟨M, hM⟩ : ∃ M, M = W5.heap.size := ⟨_, rfl⟩
    have hTM : T ≠ M := by omega
    have hTM2 : T < M := by omega
    have HT6 := Lib.hid (HT5.out.below HB56.out)
    have HNF6 := Lib.hid (HF.out.below HB56.out)
    have HFIN := Lib.hid (show ∀ W', Hold (fun k => k ≠ M) W6 W' → Below w.heap.size w W' from fun W' h => HW3.out.trans ((HB5.out.mono (show w.heap.size ≤ W3.heap.size by omega)).trans ((HB56.out.mono (by omega)).trans (hold_below h (by omega) |>.mono (by omega)))))
    have HTH := Lib.hid (show ∀ W', Hold (fun k => k ≠ M) W6 W' → TxAt W' t p q from fun W' h => HT5.out.below ⟨(HB56.out.trans (hold_below h (by omega) |>.mono (by omega))).os, (HB56.out.trans (hold_below h (by omega) |>.mono (by omega))).tape, (HB56.out.trans (hold_below h (by omega) |>.mono (by omega))).output, (HB56.out.trans (hold_below h (by omega) |>.mono (by omega))).size, (HB56.out.trans (hold_below h (by omega) |>.mono (by omega))).block⟩)
    have HNH := Lib.hid (show ∀ W', Hold (fun k => k ≠ M) W6 W' → Ints W' pf nv from fun W' h => HF.out.below (HB56.out.trans (hold_below h (by omega) |>.mono (by omega))))
    rw [← hM] at HM6 hz6
    rw [← hM]
    clear hM HF HT5 HBX5
    go_loopw [8, 57] (fun m8 i wr => ∃ s : Nat, s ≤ N ∧ i = .int .i64 s ∧ m8 = .int .i64 ((manyN t s : Nat) : Int) ∧ Hid (wr.heap[M]? = some (.cells (boolsOf (t.words.length + 1) (fun p => metB t s p)) 4 (0, 0))) ∧ Hid (Hold (fun k => k ≠ M) W6 wr)) (fun _ i _ => N - (intOf i).toNat)
    case atStart => exact ⟨0, Nat.zero_le _, rfl, rfl, HM6, Lib.hid (Hold.refl _ _)⟩
    case round => as_aux_lemma =>
      obtain ⟨w7, rfl⟩ : ∃ w7 : World, w7 = wr := ⟨_, rfl⟩
      obtain ⟨s, hs, rfl, rfl, HMr, HHr⟩ := hrel
      have hz7 := HHr.out.size
      have HBX7 := Lib.hid ((HHr.out.same T hTM (by omega)).trans HBX6.out)
      obtain ⟨k0, k1, k2⟩ := blk3 HBX7.out
      have hmle := manyN_le t s
      by_cases hlt : s < N
      · have hlt' : (s : Int) < (N : Int) := by omega
        go_wp2_with fail
        go_loopw [11, 12, 13] (fun v b i wr => ∃ (ap a f : Nat) (dn : List Int), ap = a + 1 ∧ a ≤ t.words.length ∧ f ≤ a ∧ i = .int .i64 ap ∧ b = .int .i64 f ∧ dn.length ≤ a ∧ Hid (wr.ownsRow w7.heap.size 3 1 v dn.length (dn.map (Value.int .i64))) ∧ Hid (dn ++ setGo (t.words.length - a) a f (s / 2 ^ a) = setL t.words.length s) ∧ Hid (Below w7.heap.size w7 wr)) (fun _ _ i _ => t.words.length + 2 - (intOf i).toNat)
        case atStart => exact ⟨1, 0, 0, [], rfl, Nat.zero_le _, Nat.le_refl _, rfl, rfl, Nat.le_refl _, Lib.hid (own_none _ _ _ _), Lib.hid (by simp [setL]), Lib.hid (Below.refl _ _)⟩
        case round => as_aux_lemma =>
          clear k0 k1 k2
          obtain ⟨w8, rfl⟩ : ∃ w8 : World, w8 = wr := ⟨_, rfl⟩
          obtain ⟨ap, a, f, dn, hat, han, hfa, rfl, rfl, hdl, HO, HG, HB8⟩ := hrel
          have hz8 := HB8.out.size
          have HBX8 := Lib.hid ((HB8.out.block T (by omega)).trans HBX7.out)
          obtain ⟨k0, k1, k2⟩ := blk3 HBX8.out
          by_cases hle : ap ≤ t.words.length
          · have hle' : (ap : Int) ≤ t.words.length := by omega
            have hsubf : IntKind.i64.wrap ((ap : Int) - (f : Int)) = (ap : Int) - (f : Int) := by rw [IntWalk.i64_in _ (by omega)]
            have hfu : t.words.length - a = (t.words.length - ap) + 1 := by omega
            have HST : Hid (setGo (t.words.length - a) a f (s / 2 ^ a) = if t.words.length - ap = 0 ∨ s / 2 ^ a % 2 = 1 then ((a : Int) + 1 - f) :: setGo (t.words.length - ap) ap ap (s / 2 ^ ap) else setGo (t.words.length - ap) ap f (s / 2 ^ ap)) := Lib.hid (by rw [hfu, setGo, hat, Nat.div_div_eq_div_mul, ← Nat.pow_succ])
            have HAT := Lib.hid hat
            have hfat : f ≤ ap := by omega
            have hdl1 : dn.length + 1 ≤ ap := by omega
            clear hfu
            by_cases hend : ap = t.words.length
            · subst hend
              have HC1 : Hid (t.words.length - t.words.length = 0 ∨ s / 2 ^ a % 2 = 1) := Lib.hid (.inl (Nat.sub_self _))
              clear hat
              go_wp2_with (at_builtin; refine wpList_append_own _ rfl _ _ 28 rfl w7.heap.size 3 i0 (.int .i64 0) 1 8 A_undI hi0 hz0 hz1' hz2 rfl (by decide) _ _ _ rfl (HO.out.alloc _) ⟨w8.heap.size, 0, none⟩ 1 1 [.int .i64 ((t.words.length : Int) - (f : Int))] rfl rfl ?d1 ?d2 ?d3 ?d4 ?d5 ?_)
              case d1 => exact cell_one_new _ _ _
              case d2 => first | rfl | (intro u hu; simp at hu; subst hu; rfl)
              case d3 => unfold maxLen; omega
              case d4 => omega
              case d5 => first | omega | (simp; omega)
              intro v' w9 hown9 hgrow _
              have hB9 := below_grown (al2 HB8.out (by omega) _) (HO.out.alloc _) (Nat.le_refl _) (by simp; omega) hgrow
              have HO9 := Lib.hid hown9
              have HB9 := Lib.hid hB9
              clear hgrow hown9 hB9
              go_wp2
              go_roundw
              case rel => exact ⟨t.words.length + 1, t.words.length, t.words.length, dn ++ [(t.words.length : Int) - (f : Int)], rfl, hle, Nat.le_refl _, by go_num, rfl, by simp; omega, Lib.hid (by simpa using HO9.out), Lib.hid (by rw [← HG.out, HST.out, if_pos HC1.out, List.append_assoc, show (t.words.length : Int) - (f : Int) = (a : Int) + 1 - (f : Int) by have := HAT.out; omega]; rfl), HB9⟩
              case measure => simp [intOf] <;> omega
            · have hend1 : ((ap : Int) == (t.words.length : Int)) = false := by rw [beq_eq_false_iff_ne]; omega
              have hend2 : ¬ ((ap : Int) = (t.words.length : Int)) := by omega
              have hsub1 : IntKind.i64.wrap ((ap : Int) - 1) = (a : Int) := by rw [IntWalk.i64_in _ (by omega)]; omega
              have hbd := bits_div (s := s) (a := a) (by omega)
              have HEN := Lib.hid hend
              clear hend hat
              by_cases hbit : s / 2 ^ a % 2 = 1
              · have HC1 : Hid (t.words.length - ap = 0 ∨ s / 2 ^ a % 2 = 1) := Lib.hid (.inr hbit)
                have hbit1 : (Go.bits BinOp.and IntKind.i64 ((s : Int) / 2 ^ a) 1 == 1) = true := by rw [hbd, hbit]; rfl
                clear hbit hbd
                go_wp2_with (at_builtin; refine wpList_append_own _ rfl _ _ 28 rfl w7.heap.size 3 i0 (.int .i64 0) 1 8 A_undI hi0 hz0 hz1' hz2 rfl (by decide) _ _ _ rfl (HO.out.alloc _) ⟨w8.heap.size, 0, none⟩ 1 1 [.int .i64 ((ap : Int) - (f : Int))] rfl rfl ?d1 ?d2 ?d3 ?d4 ?d5 ?_)
                case d1 => exact cell_one_new _ _ _
                case d2 => first | rfl | (intro u hu; simp at hu; subst hu; rfl)
                case d3 => unfold maxLen; omega
                case d4 => omega
                case d5 => first | omega | (simp; omega)
                intro v' w9 hown9 hgrow _
                have hB9 := below_grown (al2 HB8.out (by omega) _) (HO.out.alloc _) (Nat.le_refl _) (by simp; omega) hgrow
                have HO9 := Lib.hid hown9
                have HB9 := Lib.hid hB9
                clear hgrow hown9 hB9
                go_wp2
                go_roundw
                case rel => exact ⟨ap + 1, ap, ap, dn ++ [(ap : Int) - (f : Int)], rfl, hle, Nat.le_refl _, by go_num, rfl, by simp; omega, Lib.hid (by simpa using HO9.out), Lib.hid (by rw [← HG.out, HST.out, if_pos HC1.out, List.append_assoc, show (ap : Int) - (f : Int) = (a : Int) + 1 - (f : Int) by have := HAT.out; omega]; rfl), HB9⟩
                case measure => simp [intOf] <;> omega
              · have HC1 : Hid (¬ (t.words.length - ap = 0 ∨ s / 2 ^ a % 2 = 1)) := Lib.hid (by have := HEN.out; have := HAT.out; omega)
                have hbit0 : s / 2 ^ a % 2 = 0 := by omega
                have hbit1 : (Go.bits BinOp.and IntKind.i64 ((s : Int) / 2 ^ a) 1 == 1) = false := by rw [hbd, hbit0]; rfl
                clear hbit hbit0 hbd
                go_wp2
                go_roundw
                case rel => exact ⟨ap + 1, ap, f, dn, rfl, hle, hfat, by go_num, rfl, by omega, HO, Lib.hid (by rw [← HG.out, HST.out, if_neg HC1.out]), HB8⟩
                case measure => simp [intOf]; omega
          · obtain rfl : a = t.words.length := by omega
            have hdn : dn = setL t.words.length s := by have := HG.out; rw [Nat.sub_self, setGo, List.append_nil] at this; exact this
            have HPT := Lib.hid (setL_parts t.words.length s hn1)
            have HSO := Lib.hid (sound_ok HPT.out)
            rw [← hdn] at HPT HSO
            have HDN := Lib.hid hdn
            obtain ⟨po, co, rfl, hio, -, -⟩ := own_rd HO.out rfl
            have HIO := Lib.hid hio
            have HH8 := Lib.hid (HHr.out.trans (Hold.below HB8.out))
            have HT8 := Lib.hid (HTH.out _ HH8.out)
            have hMl8 : M < w7.heap.size := by omega
            have HM8 := Lib.hid ((HB8.out.block M hMl8).trans HMr.out)
            clear hdn hio HO HG
            go_wp2_with fail
            refine (sound_any t HOK.out p q c d HC.out dn (by omega) po co _ HT8.out HIO.out).mono ?_
            rintro e w9 ⟨rfl, hB9⟩
            rw [HSO.out]
            have HH9 := Lib.hid (HH8.out.trans (Hold.below hB9))
            have HM9 := Lib.hid ((hB9.block M (by omega)).trans HM8.out)
            have HBX9 := Lib.hid ((hB9.block T (by omega)).trans HBX8.out)
            have HT9 := Lib.hid (HT8.out.below hB9)
            have HI9 := Lib.hid (HIO.out.below hB9)
            have hz9 := hB9.size
            clear hB9 k0 k1 k2
            obtain ⟨k0, k1, k2⟩ := blk3 HBX9.out
            have HMS := Lib.hid (manyN_succ t s)
            have HBS := Lib.hid (fun p => metB_succ t s p)
            rw [← HDN.out] at HMS HBS
            clear HMr HM8 HSO
            cases hok : okFrom t.right 0 dn with
            | false =>
              have HM1 : Hid (manyN t (s + 1) = manyN t s) := Lib.hid (by rw [HMS.out, hok]; rfl)
              have HB1 : Hid ((fun p => metB t (s + 1) p) = fun p => metB t s p) := Lib.hid (by funext p; rw [HBS.out, hok]; simp)
              clear hok HMS HBS
              go_wp2
              go_roundw
              case rel => exact ⟨s + 1, by omega, by go_num, by rw [HM1.out], Lib.hid (by rw [HB1.out]; exact HM9.out), HH9⟩
              case measure => simp [intOf]; omega
            | true =>
              have HM1 : Hid (manyN t (s + 1) = manyN t s + 1) := Lib.hid (by rw [HMS.out, hok]; rfl)
              have HB1 : Hid ((fun p => metB t (s + 1) p) = fun (p : Nat) => metB t s p || (placesL dn).contains (p : Int)) := Lib.hid (by funext p; rw [HBS.out, hok]; simp)
              have hpl : plcL (t.words.length : Int) dn = placesL dn := by unfold plcL; rw [if_pos ((partsB_iff _ _).2 HPT.out)]
              have HPLE := Lib.hid hpl
              clear hok HMS HBS hpl
              go_wp2_with fail
              refine (places_any t.words.length (by omega) p c (.slice q t.turns.length d) (.int .i64 t.breath) dn po co _ HI9.out (by omega)).mono ?_
              rintro e wP ⟨v, rfl, hownP, hBP⟩
              rw [HPLE.out] at hownP
              obtain ⟨pp, cp, rfl, hIP, -, hcp, hcp2⟩ := own_rd hownP rfl
              have hPl := placesL_len dn
              rcases hIP with h0 | ⟨gp, og, rfl, hgp, hcP⟩
              · rw [h0] at hPl; simp at hPl
              have HPB := Lib.hid (fun j (hj : j ≤ dn.length) => show 0 ≤ (placesL dn).getD j 0 ∧ (placesL dn).getD j 0 ≤ (t.words.length : Int) from by
                rw [placesL_get dn j hj]
                have h1 := isum_ge (l := dn.take j) (fun x hx => HPT.out.1 x (List.mem_of_mem_take hx))
                have h2 := parts_take HPT.out j
                omega)
              have HHP := Lib.hid (HH9.out.trans (Hold.below hBP))
              have HMP1 := Lib.hid ((hBP.block M (by omega)).trans HM9.out)
              have HBXP := Lib.hid ((hBP.block T (by omega)).trans HBX9.out)
              have hzP := hBP.size
              have hgM : gp ≠ M := by
                intro e
                rcases hownP.2 with ⟨hv, _⟩ | ⟨g, cap, cur, hv, _, _, _, hb, _⟩
                · injection hv with hv; cases hv
                · injection hv with hv; injection hv with hv; injection hv with hv _ _
                  omega
              obtain ⟨P, hPe⟩ : ∃ P, P = placesL dn := ⟨_, rfl⟩
              rw [← hPe] at HB1 HPB hcP hPl hcp2 ⊢
              have HCP := Lib.hid hcP
              have HPL := Lib.hid hPl
              have hP100 : P.length ≤ 1000 := by omega
              clear hownP hBP hPe hcP k0 k1 k2 hPl
              go_wp2_with fail
              go_loopw [97] (fun i wr => ∃ j : Nat, j ≤ P.length ∧ i = .int .i64 j ∧ Hid (wr.heap[M]? = some (.cells (boolsOf (t.words.length + 1) (fun (p : Nat) => metB t s p || (P.take j).contains (p : Int))) 4 (0, 0))) ∧ Hid (Hold (fun k => k ≠ M) wP wr)) (fun i _ => P.length - (intOf i).toNat)
              case atStart => exact ⟨0, Nat.zero_le _, rfl, Lib.hid (by rw [HMP1.out]; simp), Lib.hid (Hold.refl _ _)⟩
              case round => as_aux_lemma =>
                obtain ⟨wq, rfl⟩ : ∃ wq : World, wq = wr := ⟨_, rfl⟩
                obtain ⟨j, hj, rfl, HMq, HHq⟩ := hrel
                have hzq := HHq.out.size
                by_cases hjl : j < P.length
                · have hjl' : (j : Int) < P.length := by omega
                  have hc := (HHq.out.cell (p := ⟨gp, og + j, none⟩) hgM hgp).trans (HCP.out j hjl)
                  have hpb := HPB.out j (by have := HPL.out; omega)
                  obtain ⟨x, hx⟩ : ∃ x : Nat, P.getD j 0 = (x : Int) := ⟨(P.getD j 0).toNat, by omega⟩
                  rw [hx] at hc hpb
                  have HX := Lib.hid hx
                  have hxn : x < t.words.length + 1 := by omega
                  have hxn' : (x : Int) < ((t.words.length + 1 : Nat) : Int) := by omega
                  have hfz : wq.frozen? ⟨M, x, none⟩ = false := by simp [World.frozen?, HMq.out]
                  have hcm := blk_cells HMq.out x _ (boolsOf_get (f := fun (p : Nat) => metB t s p || (P.take j).contains (p : Int)) hxn)
                  have hMq : M < wq.heap.size := by omega
                  have HSET := Lib.hid (heap_set_same (o := x) (.bool true) HMq.out)
                  have HHS := Lib.hid (HHq.out.trans (Hold.setCell (Kp := fun k => k ≠ M) wq ⟨M, x, none⟩ (.bool true) (by simp)))
                  have HTK : Hid (boolsOf (t.words.length + 1) (fun i => if i = x then true else (metB t s i || (P.take j).contains (i : Int))) = boolsOf (t.words.length + 1) (fun (p : Nat) => metB t s p || (P.take (j + 1)).contains (p : Int))) := Lib.hid (by
                    congr 1
                    funext i
                    rw [take_snocD 0 hjl, HX.out]
                    by_cases hi : i = x
                    · subst hi; simp
                    · have : ((i : Int) == (x : Int)) = false := by rw [beq_eq_false_iff_ne]; omega
                      have h2 : ¬ (i : Int) = (x : Int) := by omega
                      simp [hi, h2])
                  rw [boolsOf_set] at HSET
                  clear hx hpb
                  go_wp2
                  go_roundw
                  case rel => exact ⟨j + 1, by omega, by go_num, Lib.hid (by rw [← HTK.out]; exact HSET.out), HHS⟩
                  case measure => simp [intOf]; omega
                · obtain rfl : j = P.length := by omega
                  rw [List.take_length] at HMq
                  go_wp2
                  go_roundw
                  case rel => exact ⟨s + 1, by omega, by go_num, by rw [HM1.out]; rfl, Lib.hid (by rw [HB1.out]; exact HMq.out), Lib.hid (HHP.out.trans HHq.out)⟩
                  case measure => simp [intOf]; omega
      · obtain rfl : s = N := by omega
        have hme := HME.out
        rw [hme]
        have hcc : (cn0 != cn0) = false := by simp
        clear hme
        go_wp2_with fail
        go_loopw [16] (fun i wr => ∃ a : Nat, 1 ≤ a ∧ a ≤ t.words.length ∧ i = .int .i64 a ∧ Hid (Below w7.heap.size w7 wr)) (fun i _ => t.words.length + 1 - (intOf i).toNat)
        case atStart => exact ⟨1, Nat.le_refl _, hn1, rfl, Lib.hid (Below.refl _ _)⟩
        case round => as_aux_lemma =>
          clear k0 k1 k2
          obtain ⟨w8, rfl⟩ : ∃ w8 : World, w8 = wr := ⟨_, rfl⟩
          obtain ⟨a, ha1, han, rfl, HB8⟩ := hrel
          have hz8 := HB8.out.size
          have HBX8 := Lib.hid ((HB8.out.block T (by omega)).trans HBX7.out)
          obtain ⟨k0, k1, k2⟩ := blk3 HBX8.out
          by_cases hal : a < t.words.length
          · have hal' : (a : Int) < t.words.length := by omega
            have hpos2 : cn0 > 0 := hpos
            have HNF := Lib.hid ((HNH.out _ HHr.out).below HB8.out)
            have hMl : M < w8.heap.size := by omega
            have HCELL := Lib.hid (blk_cells ((HB8.out.block M (by omega)).trans HMr.out) a _ (boolsOf_get (f := fun p => metB t s p) (by omega)))
            have hmp := HMP.out hpos a ha1 hal
            obtain ⟨mb, hmb⟩ : ∃ mb, mb = metB t s a := ⟨_, rfl⟩
            obtain ⟨cb, hcb⟩ : ∃ cb, cb = nv.contains (a : Int) := ⟨_, rfl⟩
            rw [← hmb, ← hcb] at hmp
            rw [← hmb] at HCELL
            have HCB := Lib.hid hcb
            have hne1 : (mb == cb) = false := by rw [hmp]; cases cb <;> rfl
            have hne2 : ¬ mb = cb := by rw [hmp]; cases cb <;> simp
            clear hmb hcb
            have hi1 : (a : Int) < (t.words.length : Int) + 1 := by omega
            have hi2 : (a : Int) < ((t.words.length + 1 : Nat) : Int) := by omega
            have hi3 : a < t.words.length + 1 := by omega
            have hi4 : 0 ≤ (a : Int) := by omega
            clear hmp
            have HCT := Lib.hid (fun W (h : W.heap = w8.heap) => contains_any nv hnvl pf cf (a : Int) W (HNF.out.heap h))
            rw [← HCB.out] at HCT
            have hcell := HCELL.out
            have hga : decide (cn0 > 0) = true := by simpa using hpos
            go_wp2_with fail
            go_quiet ((go_at_call 64; exact Calls.quiet_of_same (HCT.out _ (by exact rfl))))
            have HGG := Lib.hid (show Below w7.heap.size w7 (w8.drewN nq) from below_drewN' HB8.out nq)
            clear hi1 hi2 hi3 hi4 hpos2 hMl HCELL HNF HCB hcell HCT
            go_wp2
            go_roundw
            case rel => exact ⟨a + 1, by omega, by omega, by go_num, HGG⟩
            case measure => simp [intOf]; omega
          · have hal' : ¬ (a : Int) < t.words.length := by omega
            go_wp2_with fail
            refine (awake_any _).mono ?_
            rintro e wz ⟨rfl, hBz⟩
            have HBF := Lib.hid (HFIN.out _ (HHr.out.trans (Hold.below (join HB8.out hBz))))
            clear hBz
            go_wp2
            go_ret
            exact ⟨rfl, HBF.out⟩
  · subst hzero
    have hw8 := HW9.out
    have hn1 := HOK.out.n1
    obtain ⟨N, hNe⟩ : ∃ N, N = 2 ^ (t.words.length - 1) := ⟨_, rfl⟩
    have hN128 : N ≤ 128 := by rw [hNe]; exact Nat.le_trans (Nat.pow_le_pow_right (by omega) (show t.words.length - 1 ≤ 7 by omega)) (by decide)
    have hmb : ∀ W, (Instr.makeSlice 113 (.int .i64 ((t.words.length : Int) + 1)) (.int .i64 ((t.words.length : Int) + 1))).run Try.prog W = .ok (.slice (some ⟨W.heap.size, 0, none⟩) (t.words.length + 1) (t.words.length + 1)) (W.alloc (.cells (boolsOf (t.words.length + 1) (fun _ => false)) 4)) := fun W => by
      have := make_bools (t.words.length + 1) (by omega) W
      rwa [show ((t.words.length + 1 : Nat) : Int) = (t.words.length : Int) + 1 by omega] at this
    have hsub : IntKind.i64.wrap ((t.words.length : Int) - 1) = ((t.words.length - 1 : Nat) : Int) := by rw [IntWalk.i64_in _ (by omega)]; omega
    have hshl : wrap64 ((2 : Int) ^ (t.words.length - 1)) = (N : Int) := by
      rw [show (2 : Int) ^ (t.words.length - 1) = (N : Int) by rw [hNe]; simp]
      unfold wrap64; omega
    rw [← hNe] at HME HMP
    have hqT : T < W5.heap.size := by omega
    have HM6 := Lib.hid (heap_last W5 (.cells (boolsOf (t.words.length + 1) (fun _ => false)) 4))
    have HB56 := Lib.hid (below1 W5 (.cells (boolsOf (t.words.length + 1) (fun _ => false)) 4))
    have HBX6 := Lib.hid ((HB56.out.block T hqT).trans HBX5.out)
    have hz6 : (W5.alloc (.cells (boolsOf (t.words.length + 1) (fun _ => false)) 4)).heap.size = W5.heap.size + 1 := by simp
    clear hNe
    go_wp2_with fail
    rw [hshl]
    clear hmb hshl hsub k0 k1 k2
    generalize W5.alloc (.cells (boolsOf (t.words.length + 1) (fun _ => false)) 4) = W6 at HM6 HB56 HBX6 hz6 ⊢
    obtain ⟨M, hM⟩ : ∃ M, M = W5.heap.size := ⟨_, rfl⟩
    have hTM : T ≠ M := by omega
    have hTM2 : T < M := by omega
    have HT6 := Lib.hid (HT5.out.below HB56.out)
    have HNF6 := Lib.hid (HF.out.below HB56.out)
    have HFIN := Lib.hid (show ∀ W', Hold (fun k => k ≠ M) W6 W' → Below w.heap.size w W' from fun W' h => HW3.out.trans ((HB5.out.mono (show w.heap.size ≤ W3.heap.size by omega)).trans ((HB56.out.mono (by omega)).trans (hold_below h (by omega) |>.mono (by omega)))))
    have HTH := Lib.hid (show ∀ W', Hold (fun k => k ≠ M) W6 W' → TxAt W' t p q from fun W' h => HT5.out.below ⟨(HB56.out.trans (hold_below h (by omega) |>.mono (by omega))).os, (HB56.out.trans (hold_below h (by omega) |>.mono (by omega))).tape, (HB56.out.trans (hold_below h (by omega) |>.mono (by omega))).output, (HB56.out.trans (hold_below h (by omega) |>.mono (by omega))).size, (HB56.out.trans (hold_below h (by omega) |>.mono (by omega))).block⟩)
    have HNH := Lib.hid (show ∀ W', Hold (fun k => k ≠ M) W6 W' → Ints W' pf nv from fun W' h => HF.out.below (HB56.out.trans (hold_below h (by omega) |>.mono (by omega))))
    rw [← hM] at HM6 hz6
    rw [← hM]
    clear hM HF HT5 HBX5
    go_loopw [8, 57] (fun m8 i wr => ∃ s : Nat, s ≤ N ∧ i = .int .i64 s ∧ m8 = .int .i64 ((manyN t s : Nat) : Int) ∧ Hid (wr.heap[M]? = some (.cells (boolsOf (t.words.length + 1) (fun p => metB t s p)) 4 (0, 0))) ∧ Hid (Hold (fun k => k ≠ M) W6 wr)) (fun _ i _ => N - (intOf i).toNat)
    case atStart => exact ⟨0, Nat.zero_le _, rfl, rfl, HM6, Lib.hid (Hold.refl _ _)⟩
    case round => as_aux_lemma =>
      obtain ⟨w7, rfl⟩ : ∃ w7 : World, w7 = wr := ⟨_, rfl⟩
      obtain ⟨s, hs, rfl, rfl, HMr, HHr⟩ := hrel
      have hz7 := HHr.out.size
      have HBX7 := Lib.hid ((HHr.out.same T hTM (by omega)).trans HBX6.out)
      obtain ⟨k0, k1, k2⟩ := blk3 HBX7.out
      have hmle := manyN_le t s
      by_cases hlt : s < N
      · have hlt' : (s : Int) < (N : Int) := by omega
        go_wp2_with fail
        go_loopw [11, 12, 13] (fun v b i wr => ∃ (ap a f : Nat) (dn : List Int), ap = a + 1 ∧ a ≤ t.words.length ∧ f ≤ a ∧ i = .int .i64 ap ∧ b = .int .i64 f ∧ dn.length ≤ a ∧ Hid (wr.ownsRow w7.heap.size 3 1 v dn.length (dn.map (Value.int .i64))) ∧ Hid (dn ++ setGo (t.words.length - a) a f (s / 2 ^ a) = setL t.words.length s) ∧ Hid (Below w7.heap.size w7 wr)) (fun _ _ i _ => t.words.length + 2 - (intOf i).toNat)
        case atStart => exact ⟨1, 0, 0, [], rfl, Nat.zero_le _, Nat.le_refl _, rfl, rfl, Nat.le_refl _, Lib.hid (own_none _ _ _ _), Lib.hid (by simp [setL]), Lib.hid (Below.refl _ _)⟩
        case round => as_aux_lemma =>
          clear k0 k1 k2
          obtain ⟨w8, rfl⟩ : ∃ w8 : World, w8 = wr := ⟨_, rfl⟩
          obtain ⟨ap, a, f, dn, hat, han, hfa, rfl, rfl, hdl, HO, HG, HB8⟩ := hrel
          have hz8 := HB8.out.size
          have HBX8 := Lib.hid ((HB8.out.block T (by omega)).trans HBX7.out)
          obtain ⟨k0, k1, k2⟩ := blk3 HBX8.out
          by_cases hle : ap ≤ t.words.length
          · have hle' : (ap : Int) ≤ t.words.length := by omega
            have hsubf : IntKind.i64.wrap ((ap : Int) - (f : Int)) = (ap : Int) - (f : Int) := by rw [IntWalk.i64_in _ (by omega)]
            have hfu : t.words.length - a = (t.words.length - ap) + 1 := by omega
            have HST : Hid (setGo (t.words.length - a) a f (s / 2 ^ a) = if t.words.length - ap = 0 ∨ s / 2 ^ a % 2 = 1 then ((a : Int) + 1 - f) :: setGo (t.words.length - ap) ap ap (s / 2 ^ ap) else setGo (t.words.length - ap) ap f (s / 2 ^ ap)) := Lib.hid (by rw [hfu, setGo, hat, Nat.div_div_eq_div_mul, ← Nat.pow_succ])
            have HAT := Lib.hid hat
            have hfat : f ≤ ap := by omega
            have hdl1 : dn.length + 1 ≤ ap := by omega
            clear hfu
            by_cases hend : ap = t.words.length
            · subst hend
              have HC1 : Hid (t.words.length - t.words.length = 0 ∨ s / 2 ^ a % 2 = 1) := Lib.hid (.inl (Nat.sub_self _))
              clear hat
              go_wp2_with (at_builtin; refine wpList_append_own _ rfl _ _ 28 rfl w7.heap.size 3 i0 (.int .i64 0) 1 8 A_undI hi0 hz0 hz1' hz2 rfl (by decide) _ _ _ rfl (HO.out.alloc _) ⟨w8.heap.size, 0, none⟩ 1 1 [.int .i64 ((t.words.length : Int) - (f : Int))] rfl rfl ?d1 ?d2 ?d3 ?d4 ?d5 ?_)
              case d1 => exact cell_one_new _ _ _
              case d2 => first | rfl | (intro u hu; simp at hu; subst hu; rfl)
              case d3 => unfold maxLen; omega
              case d4 => omega
              case d5 => first | omega | (simp; omega)
              intro v' w9 hown9 hgrow _
              have hB9 := below_grown (al2 HB8.out (by omega) _) (HO.out.alloc _) (Nat.le_refl _) (by simp; omega) hgrow
              have HO9 := Lib.hid hown9
              have HB9 := Lib.hid hB9
              clear hgrow hown9 hB9
              go_wp2
              go_roundw
              case rel => exact ⟨t.words.length + 1, t.words.length, t.words.length, dn ++ [(t.words.length : Int) - (f : Int)], rfl, hle, Nat.le_refl _, by go_num, rfl, by simp; omega, Lib.hid (by simpa using HO9.out), Lib.hid (by rw [← HG.out, HST.out, if_pos HC1.out, List.append_assoc, show (t.words.length : Int) - (f : Int) = (a : Int) + 1 - (f : Int) by have := HAT.out; omega]; rfl), HB9⟩
              case measure => simp [intOf] <;> omega
            · have hend1 : ((ap : Int) == (t.words.length : Int)) = false := by rw [beq_eq_false_iff_ne]; omega
              have hend2 : ¬ ((ap : Int) = (t.words.length : Int)) := by omega
              have hsub1 : IntKind.i64.wrap ((ap : Int) - 1) = (a : Int) := by rw [IntWalk.i64_in _ (by omega)]; omega
              have hbd := bits_div (s := s) (a := a) (by omega)
              have HEN := Lib.hid hend
              clear hend hat
              by_cases hbit : s / 2 ^ a % 2 = 1
              · have HC1 : Hid (t.words.length - ap = 0 ∨ s / 2 ^ a % 2 = 1) := Lib.hid (.inr hbit)
                have hbit1 : (Go.bits BinOp.and IntKind.i64 ((s : Int) / 2 ^ a) 1 == 1) = true := by rw [hbd, hbit]; rfl
                clear hbit hbd
                go_wp2_with (at_builtin; refine wpList_append_own _ rfl _ _ 28 rfl w7.heap.size 3 i0 (.int .i64 0) 1 8 A_undI hi0 hz0 hz1' hz2 rfl (by decide) _ _ _ rfl (HO.out.alloc _) ⟨w8.heap.size, 0, none⟩ 1 1 [.int .i64 ((ap : Int) - (f : Int))] rfl rfl ?d1 ?d2 ?d3 ?d4 ?d5 ?_)
                case d1 => exact cell_one_new _ _ _
                case d2 => first | rfl | (intro u hu; simp at hu; subst hu; rfl)
                case d3 => unfold maxLen; omega
                case d4 => omega
                case d5 => first | omega | (simp; omega)
                intro v' w9 hown9 hgrow _
                have hB9 := below_grown (al2 HB8.out (by omega) _) (HO.out.alloc _) (Nat.le_refl _) (by simp; omega) hgrow
                have HO9 := Lib.hid hown9
                have HB9 := Lib.hid hB9
                clear hgrow hown9 hB9
                go_wp2
                go_roundw
                case rel => exact ⟨ap + 1, ap, ap, dn ++ [(ap : Int) - (f : Int)], rfl, hle, Nat.le_refl _, by go_num, rfl, by simp; omega, Lib.hid (by simpa using HO9.out), Lib.hid (by rw [← HG.out, HST.out, if_pos HC1.out, List.append_assoc, show (ap : Int) - (f : Int) = (a : Int) + 1 - (f : Int) by have := HAT.out; omega]; rfl), HB9⟩
                case measure => simp [intOf] <;> omega
              · have HC1 : Hid (¬ (t.words.length - ap = 0 ∨ s / 2 ^ a % 2 = 1)) := Lib.hid (by have := HEN.out; have := HAT.out; omega)
                have hbit0 : s / 2 ^ a % 2 = 0 := by omega
                have hbit1 : (Go.bits BinOp.and IntKind.i64 ((s : Int) / 2 ^ a) 1 == 1) = false := by rw [hbd, hbit0]; rfl
                clear hbit hbit0 hbd
                go_wp2
                go_roundw
                case rel => exact ⟨ap + 1, ap, f, dn, rfl, hle, hfat, by go_num, rfl, by omega, HO, Lib.hid (by rw [← HG.out, HST.out, if_neg HC1.out]), HB8⟩
                case measure => simp [intOf]; omega
          · obtain rfl : a = t.words.length := by omega
            have hdn : dn = setL t.words.length s := by have := HG.out; rw [Nat.sub_self, setGo, List.append_nil] at this; exact this
            have HPT := Lib.hid (setL_parts t.words.length s hn1)
            have HSO := Lib.hid (sound_ok HPT.out)
            rw [← hdn] at HPT HSO
            have HDN := Lib.hid hdn
            obtain ⟨po, co, rfl, hio, -, -⟩ := own_rd HO.out rfl
            have HIO := Lib.hid hio
            have HH8 := Lib.hid (HHr.out.trans (Hold.below HB8.out))
            have HT8 := Lib.hid (HTH.out _ HH8.out)
            have hMl8 : M < w7.heap.size := by omega
            have HM8 := Lib.hid ((HB8.out.block M hMl8).trans HMr.out)
            clear hdn hio HO HG
            go_wp2_with fail
            refine (sound_any t HOK.out p q c d HC.out dn (by omega) po co _ HT8.out HIO.out).mono ?_
            rintro e w9 ⟨rfl, hB9⟩
            rw [HSO.out]
            have HH9 := Lib.hid (HH8.out.trans (Hold.below hB9))
            have HM9 := Lib.hid ((hB9.block M (by omega)).trans HM8.out)
            have HBX9 := Lib.hid ((hB9.block T (by omega)).trans HBX8.out)
            have HT9 := Lib.hid (HT8.out.below hB9)
            have HI9 := Lib.hid (HIO.out.below hB9)
            have hz9 := hB9.size
            clear hB9 k0 k1 k2
            obtain ⟨k0, k1, k2⟩ := blk3 HBX9.out
            have HMS := Lib.hid (manyN_succ t s)
            have HBS := Lib.hid (fun p => metB_succ t s p)
            rw [← HDN.out] at HMS HBS
            clear HMr HM8 HSO
            cases hok : okFrom t.right 0 dn with
            | false =>
              have HM1 : Hid (manyN t (s + 1) = manyN t s) := Lib.hid (by rw [HMS.out, hok]; rfl)
              have HB1 : Hid ((fun p => metB t (s + 1) p) = fun p => metB t s p) := Lib.hid (by funext p; rw [HBS.out, hok]; simp)
              clear hok HMS HBS
              go_wp2
              go_roundw
              case rel => exact ⟨s + 1, by omega, by go_num, by rw [HM1.out], Lib.hid (by rw [HB1.out]; exact HM9.out), HH9⟩
              case measure => simp [intOf]; omega
            | true =>
              have HM1 : Hid (manyN t (s + 1) = manyN t s + 1) := Lib.hid (by rw [HMS.out, hok]; rfl)
              have HB1 : Hid ((fun p => metB t (s + 1) p) = fun (p : Nat) => metB t s p || (placesL dn).contains (p : Int)) := Lib.hid (by funext p; rw [HBS.out, hok]; simp)
              have hpl : plcL (t.words.length : Int) dn = placesL dn := by unfold plcL; rw [if_pos ((partsB_iff _ _).2 HPT.out)]
              have HPLE := Lib.hid hpl
              clear hok HMS HBS hpl
              go_wp2_with fail
              refine (places_any t.words.length (by omega) p c (.slice q t.turns.length d) (.int .i64 t.breath) dn po co _ HI9.out (by omega)).mono ?_
              rintro e wP ⟨v, rfl, hownP, hBP⟩
              rw [HPLE.out] at hownP
              obtain ⟨pp, cp, rfl, hIP, -, hcp, hcp2⟩ := own_rd hownP rfl
              have hPl := placesL_len dn
              rcases hIP with h0 | ⟨gp, og, rfl, hgp, hcP⟩
              · rw [h0] at hPl; simp at hPl
              have HPB := Lib.hid (fun j (hj : j ≤ dn.length) => show 0 ≤ (placesL dn).getD j 0 ∧ (placesL dn).getD j 0 ≤ (t.words.length : Int) from by
                rw [placesL_get dn j hj]
                have h1 := isum_ge (l := dn.take j) (fun x hx => HPT.out.1 x (List.mem_of_mem_take hx))
                have h2 := parts_take HPT.out j
                omega)
              have HHP := Lib.hid (HH9.out.trans (Hold.below hBP))
              have HMP1 := Lib.hid ((hBP.block M (by omega)).trans HM9.out)
              have HBXP := Lib.hid ((hBP.block T (by omega)).trans HBX9.out)
              have hzP := hBP.size
              have hgM : gp ≠ M := by
                intro e
                rcases hownP.2 with ⟨hv, _⟩ | ⟨g, cap, cur, hv, _, _, _, hb, _⟩
                · injection hv with hv; cases hv
                · injection hv with hv; injection hv with hv; injection hv with hv _ _
                  omega
              obtain ⟨P, hPe⟩ : ∃ P, P = placesL dn := ⟨_, rfl⟩
              rw [← hPe] at HB1 HPB hcP hPl hcp2 ⊢
              have HCP := Lib.hid hcP
              have HPL := Lib.hid hPl
              have hP100 : P.length ≤ 1000 := by omega
              clear hownP hBP hPe hcP k0 k1 k2 hPl
              go_wp2_with fail
              go_loopw [97] (fun i wr => ∃ j : Nat, j ≤ P.length ∧ i = .int .i64 j ∧ Hid (wr.heap[M]? = some (.cells (boolsOf (t.words.length + 1) (fun (p : Nat) => metB t s p || (P.take j).contains (p : Int))) 4 (0, 0))) ∧ Hid (Hold (fun k => k ≠ M) wP wr)) (fun i _ => P.length - (intOf i).toNat)
              case atStart => exact ⟨0, Nat.zero_le _, rfl, Lib.hid (by rw [HMP1.out]; simp), Lib.hid (Hold.refl _ _)⟩
              case round => as_aux_lemma =>
                obtain ⟨wq, rfl⟩ : ∃ wq : World, wq = wr := ⟨_, rfl⟩
                obtain ⟨j, hj, rfl, HMq, HHq⟩ := hrel
                have hzq := HHq.out.size
                by_cases hjl : j < P.length
                · have hjl' : (j : Int) < P.length := by omega
                  have hc := (HHq.out.cell (p := ⟨gp, og + j, none⟩) hgM hgp).trans (HCP.out j hjl)
                  have hpb := HPB.out j (by have := HPL.out; omega)
                  obtain ⟨x, hx⟩ : ∃ x : Nat, P.getD j 0 = (x : Int) := ⟨(P.getD j 0).toNat, by omega⟩
                  rw [hx] at hc hpb
                  have HX := Lib.hid hx
                  have hxn : x < t.words.length + 1 := by omega
                  have hxn' : (x : Int) < ((t.words.length + 1 : Nat) : Int) := by omega
                  have hfz : wq.frozen? ⟨M, x, none⟩ = false := by simp [World.frozen?, HMq.out]
                  have hcm := blk_cells HMq.out x _ (boolsOf_get (f := fun (p : Nat) => metB t s p || (P.take j).contains (p : Int)) hxn)
                  have hMq : M < wq.heap.size := by omega
                  have HSET := Lib.hid (heap_set_same (o := x) (.bool true) HMq.out)
                  have HHS := Lib.hid (HHq.out.trans (Hold.setCell (Kp := fun k => k ≠ M) wq ⟨M, x, none⟩ (.bool true) (by simp)))
                  have HTK : Hid (boolsOf (t.words.length + 1) (fun i => if i = x then true else (metB t s i || (P.take j).contains (i : Int))) = boolsOf (t.words.length + 1) (fun (p : Nat) => metB t s p || (P.take (j + 1)).contains (p : Int))) := Lib.hid (by
                    congr 1
                    funext i
                    rw [take_snocD 0 hjl, HX.out]
                    by_cases hi : i = x
                    · subst hi; simp
                    · have : ((i : Int) == (x : Int)) = false := by rw [beq_eq_false_iff_ne]; omega
                      have h2 : ¬ (i : Int) = (x : Int) := by omega
                      simp [hi, h2])
                  rw [boolsOf_set] at HSET
                  clear hx hpb
                  go_wp2
                  go_roundw
                  case rel => exact ⟨j + 1, by omega, by go_num, Lib.hid (by rw [← HTK.out]; exact HSET.out), HHS⟩
                  case measure => simp [intOf]; omega
                · obtain rfl : j = P.length := by omega
                  rw [List.take_length] at HMq
                  go_wp2
                  go_roundw
                  case rel => exact ⟨s + 1, by omega, by go_num, by rw [HM1.out]; rfl, Lib.hid (by rw [HB1.out]; exact HMq.out), Lib.hid (HHP.out.trans HHq.out)⟩
                  case measure => simp [intOf]; omega
      · obtain rfl : s = N := by omega
        have hme := HME.out
        rw [hme]
        have hcc : ((0 : Int) != (0 : Int)) = false := by simp
        clear hme
        go_wp2_with fail
        go_loopw [16] (fun i wr => ∃ a : Nat, 1 ≤ a ∧ a ≤ t.words.length ∧ i = .int .i64 a ∧ Hid (Below w7.heap.size w7 wr)) (fun i _ => t.words.length + 1 - (intOf i).toNat)
        case atStart => exact ⟨1, Nat.le_refl _, hn1, rfl, Lib.hid (Below.refl _ _)⟩
        case round => as_aux_lemma =>
          clear k0 k1 k2
          obtain ⟨w8, rfl⟩ : ∃ w8 : World, w8 = wr := ⟨_, rfl⟩
          obtain ⟨a, ha1, han, rfl, HB8⟩ := hrel
          have hz8 := HB8.out.size
          have HBX8 := Lib.hid ((HB8.out.block T (by omega)).trans HBX7.out)
          obtain ⟨k0, k1, k2⟩ := blk3 HBX8.out
          by_cases hal : a < t.words.length
          · have hal' : (a : Int) < t.words.length := by omega
            go_wp2_with fail
            go_quiet (fail)
            have HGG := Lib.hid (show Below w7.heap.size w7 (w8.drewN nq) from below_drewN' HB8.out nq)
            go_wp2
            go_roundw
            case rel => exact ⟨a + 1, by omega, by omega, by go_num, HGG⟩
            case measure => simp [intOf]; omega
          · have hal' : ¬ (a : Int) < t.words.length := by omega
            go_wp2_with fail
            refine (awake_any _).mono ?_
            rintro e wz ⟨rfl, hBz⟩
            have HBF := Lib.hid (HFIN.out _ (HHr.out.trans (Hold.below (join HB8.out hBz))))
            clear hBz
            go_wp2
            go_ret
            exact ⟨rfl, HBF.out⟩
end Go.Proofs.Ytadnggecnjdhiaa
namespace Go.Proofs.Ytadnggecnjdhiaa
open Go.ChangeShapes Go.WideShapes Go.ChangeAt Go.RowKit Go.Joins Tx
set_option linter.unusedVariables false
set_option linter.unusedSimpArgs false

set_option maxRecDepth 100000 in
theorem TextCounted_lifted (os : Os) (started : os.Started) (H : Type) (enc : TypeId × Value → H) :
    ReturnsInHanded {} Try.checked os 16 .any (Rows.textCountedSpec.pre6 enc Try.prog Try.f16 Rows.textCountedRow.domain false) (Rows.textCountedSpec.post enc Try.prog Try.f16 false true false false) := by
  refine returnsInHanded_of_change (C := Try.checked) Try.own started (by kernel_rfl) Try.func16
    (ChangeSpec.witness6 (enc := enc) (C := Try.checked) false ⟨#[], #[.slice none 0 0], []⟩ 8 (by kernel_rfl) (by kernel_rfl) (by kernel_rfl) (by kernel_rfl)) ?_
  intro W base args ds gs before hval0 hW hcnd _
  have hval : ∀ (j : Nat) t v, Try.f16.params[j]? = some t → args[j]? = some v → Value.okWide Try.prog W .any base t v := hval0
  have hW' := hW
  obtain ⟨p, q, hA0, hV, rfl, hfz, hnd⟩ := hW
  have hA : DataW.TrodAll enc Try.prog W 0 (fun _ => true) true Try.f16.params.toList args.toList ds p := hA0
  rw [Try.params16] at hA hval
  obtain ⟨v0, vs0, d0, ds0, p0, q0, hargs, rfl, rfl, h0, r0⟩ := trodAll_cons hA
  obtain ⟨rfl, rfl, rfl⟩ := trodAll_nil r0
  obtain rfl : args = #[v0] := by cases args; simp_all
  obtain ⟨rfl, rfl⟩ := trodVars_none hV
  have lt0 := lt_of_trod h0
  have k0 := h0
  obtain ⟨a0, n0, c0, e0, l0, hB0⟩ := bytes_of_Trod (fun _ => rfl) (hval 0 88 v0 rfl rfl) h0
  clear hA0 hval0
  subst e0
  refine (TextCounted_any a0 n0 c0 l0 W hB0).mono fun e W' ⟨he, bel⟩ => ?_
  subst he
  exact ⟨_, rfl, _, _, _, [], _, [], hW', trodAll_mk1 (shut_bool Try.underlying4 _), (trodAll_cons_mk (Below.trod Try.laidOut (by kernel_rfl) (of_decide_eq_true (by kernel_rfl)) k0 bel lt0) trodAll_mk0), rfl, bel.frame _, fun h => by cases h⟩

theorem TextCounted_holds : Rows.TextCountedSaid :=
  OpenClaim.holds_of_wide 16 Try.f16 rfl rfl rfl rfl rfl rfl rfl ⟨rfl, rfl, rfl, rfl, rfl⟩ rfl rfl rfl rfl rfl (by kernel_rfl) Try.func16 (by kernel_rfl)
    (of_decide_eq_true (by kernel_rfl)) (by unfold Func.isWrapper; first | (rw [if_pos (by decide +kernel)]; kernel_rfl) | (rw [if_neg (by decide +kernel)]; exact ⟨rfl, rfl⟩))
    (fun os started H enc _ => TextCounted_lifted os started H enc)
end Go.Proofs.Ytadnggecnjdhiaa
