/- Contracts of the code and of the reference, part 8. -/
import Derived.Test.YtadnggecnjdhiaaGreatZg
namespace Go.Proofs.YtadnggecnjdhiaaGreat
open Tx
set_option linter.unusedSimpArgs false
set_option linter.unusedVariables false

theorem mem_brs {may : Nat → Nat → Bool} {n a b : Nat} : b ∈ brs may n a ↔ a < b ∧ b ≤ n ∧ may a b = true := by
  unfold brs
  rw [List.mem_filter, List.mem_range'_1]
  constructor
  · rintro ⟨h1, h2⟩; exact ⟨by omega, by omega, h2⟩
  · rintro ⟨h1, h2, h3⟩; exact ⟨by omega, h3⟩
theorem low1_size (m : Marks) (a b : Nat) : (low1 m a b).length = m.length := by simp [low1]
theorem low1_get (m : Marks) (a b p : Nat) (hb : b < m.length) : (low1 m a b).getD p 0 = if p = b then min (m.getD b 0) (m.getD a 0 + 1) else m.getD p 0 := by
  unfold low1
  by_cases h : p = b
  · subst h; rw [if_pos rfl]; simp [List.getElem?_set, hb]
  · rw [if_neg h]; simp [List.getElem?_set, Ne.symm h]
theorem row_get (a : Nat) : ∀ (bs : List Nat) (m : Marks), (∀ b ∈ bs, a < b ∧ b < m.length) → (bs.foldl (fun m b => low1 m a b) m).length = m.length ∧
    ∀ p, (bs.foldl (fun m b => low1 m a b) m).getD p 0 = if p ∈ bs then min (m.getD p 0) (m.getD a 0 + 1) else m.getD p 0
  | [], m, _ => ⟨rfl, fun p => by simp⟩
  | b :: bs, m, h => by
    have hb := h b (by simp)
    obtain ⟨ih1, ih2⟩ := row_get a bs (low1 m a b) (fun x hx => by rw [low1_size]; exact h x (by simp [hx]))
    rw [List.foldl_cons]
    refine ⟨by rw [ih1, low1_size], fun p => ?_⟩
    rw [ih2 p, low1_get m a b p hb.2, low1_get m a b a hb.2, if_neg (show a ≠ b by omega)]
    by_cases h1 : p = b
    · subst h1
      by_cases h2 : p ∈ bs
      · simp [h2]
      · simp [h2]
    · by_cases h2 : p ∈ bs <;> simp [h1, h2]
structure MarkInv (may : Nat → Nat → Bool) (n a : Nat) (m : Marks) : Prop where
  len : m.length = 13
  zero : m.getD 0 0 = 0
  bd : ∀ p, 0 ≤ m.getD p 0 ∧ m.getD p 0 ≤ 99
  hold : ∀ x b, x < a → x < b → b ≤ n → may x b = true → m.getD b 0 ≤ m.getD x 0 + 1
  back : ∀ b, 1 ≤ b → b ≤ n → m.getD b 0 = 99 ∨ ∃ x, x < a ∧ x < b ∧ may x b = true ∧ m.getD x 0 + 1 = m.getD b 0
theorem MarkInv.step {may : Nat → Nat → Bool} {n a : Nat} {m : Marks} (hn : n ≤ 12) (ha : a < n) (h : MarkInv may n a m) : MarkInv may n (a + 1) (lowRow may n m a) := by
  obtain ⟨g1, g2⟩ := row_get a (brs may n a) m (fun b hb => by rw [mem_brs] at hb; rw [h.len]; omega)
  have g3 : ∀ p, p ≤ a → (lowRow may n m a).getD p 0 = m.getD p 0 := fun p hp => by
    unfold lowRow; rw [g2, if_neg (by rw [mem_brs]; omega)]
  have gle : ∀ p, (lowRow may n m a).getD p 0 ≤ m.getD p 0 := fun p => by
    unfold lowRow; rw [g2]; split <;> omega
  have ha0 := (h.bd a).1
  refine ⟨by unfold lowRow; rw [g1, h.len], by rw [g3 0 (by omega), h.zero], fun p => ?_, fun x b hx hxb hbn hm => ?_, fun b h1 hbn => ?_⟩
  · have := h.bd p
    unfold lowRow; rw [g2]; split <;> omega
  · rcases Nat.lt_succ_iff_lt_or_eq.1 hx with hx | rfl
    · rw [g3 x (by omega)]
      have := h.hold x b hx hxb hbn hm
      have := gle b
      omega
    · rw [g3 x (Nat.le_refl _)]
      unfold lowRow
      rw [g2, if_pos (by rw [mem_brs]; exact ⟨hxb, hbn, hm⟩)]
      omega
  · by_cases hb : b ∈ brs may n a
    · have hb' := mem_brs.1 hb
      have e : (lowRow may n m a).getD b 0 = min (m.getD b 0) (m.getD a 0 + 1) := by unfold lowRow; rw [g2, if_pos hb]
      by_cases hlt : m.getD a 0 + 1 < m.getD b 0
      · right
        exact ⟨a, by omega, hb'.1, hb'.2.2, by rw [e, g3 a (Nat.le_refl _)]; omega⟩
      · rw [e, show min (m.getD b 0) (m.getD a 0 + 1) = m.getD b 0 by omega]
        rcases h.back b h1 hbn with hx | ⟨x, x1, x2, x3, x4⟩
        · exact .inl hx
        · exact .inr ⟨x, by omega, x2, x3, by rw [g3 x (by omega), x4]⟩
    · have e : (lowRow may n m a).getD b 0 = m.getD b 0 := by unfold lowRow; rw [g2, if_neg hb]
      rw [e]
      rcases h.back b h1 hbn with hx | ⟨x, x1, x2, x3, x4⟩
      · exact .inl hx
      · exact .inr ⟨x, by omega, x2, x3, by rw [g3 x (by omega), x4]⟩
theorem top_get (n p : Nat) (hn : n ≤ 12) : (top n).getD p 0 = if 1 ≤ p ∧ p ≤ n then 99 else 0 := by
  unfold top
  by_cases hp : p < 13
  · simp [List.getElem?_range, hp]
  · rw [List.getD_eq_getElem?_getD, List.getElem?_eq_none (by simp; omega), if_neg (by omega)]; rfl
theorem greatest_inv (may : Nat → Nat → Bool) (n : Nat) (hn : n ≤ 12) : MarkInv may n n (greatest may n) := by
  have : ∀ k, k ≤ n → MarkInv may n k ((List.range k).foldl (lowRow may n) (top n)) := by
    intro k
    induction k with
    | zero =>
      intro _
      refine ⟨by simp [top], by simp only [List.range_zero, List.foldl_nil]; rw [top_get _ _ hn]; rfl, fun p => ?_, fun x b hx => by omega, fun b h1 h2 => ?_⟩
      · simp only [List.range_zero, List.foldl_nil]; rw [top_get _ _ hn]; split <;> omega
      · simp only [List.range_zero, List.foldl_nil]; rw [top_get _ _ hn, if_pos ⟨h1, h2⟩]; exact .inl rfl
    | succ k ih =>
      intro hk
      rw [List.range_succ, List.foldl_append, List.foldl_cons, List.foldl_nil]
      exact (ih (by omega)).step hn (by omega)
  exact this n (Nat.le_refl _)

/-- all breaths of a reading are allowed, from a place on -/
def okFrom (may : Nat → Nat → Bool) : Nat → List Int → Bool
  | _, [] => true
  | a, x :: l => may a (a + x.toNat) && okFrom may (a + x.toNat) l
/-- numbers of at least 1 that add up -/
def Parts (n : Int) (l : List Int) : Prop := (∀ x ∈ l, 1 ≤ x) ∧ isum l = n
theorem isum_ge {l : List Int} (h : ∀ x ∈ l, 1 ≤ x) : (l.length : Int) ≤ isum l := by
  induction l with
  | nil => simp [isum]
  | cons x l ih =>
    have h1 := h x (by simp)
    have h2 := ih fun y hy => h y (by simp [hy])
    rw [isum_cons, List.length_cons]; omega
theorem parts_nil {l : List Int} (h : Parts 0 l) : l = [] := by
  have h1 := isum_ge h.1
  have h2 := h.2
  exact List.length_eq_zero_iff.1 (by omega)
theorem parts_cons {n x : Int} {l : List Int} : Parts n (x :: l) ↔ 1 ≤ x ∧ Parts (n - x) l := by
  unfold Parts
  rw [isum_cons]
  constructor
  · rintro ⟨h1, h2⟩; exact ⟨h1 x (by simp), fun y hy => h1 y (by simp [hy]), by omega⟩
  · rintro ⟨h1, h2, h3⟩; exact ⟨fun y hy => (List.mem_cons.1 hy).elim (fun e => e ▸ h1) (h2 y), by omega⟩
theorem parts_pos {n : Int} {l : List Int} (h : Parts n l) : 0 ≤ n := by have := isum_ge h.1; have := h.2; omega
theorem parts_append {m n : Int} {k l : List Int} (h1 : Parts m k) (h2 : Parts n l) : Parts (m + n) (k ++ l) :=
  ⟨fun x hx => (List.mem_append.1 hx).elim (h1.1 x) (h2.1 x), by rw [isum_append, h1.2, h2.2]⟩
theorem okFrom_append (may : Nat → Nat → Bool) : ∀ (k l : List Int) (a : Nat), (∀ x ∈ k, 0 ≤ x) → okFrom may a (k ++ l) = (okFrom may a k && okFrom may (a + (isum k).toNat) l)
  | [], l, a, _ => by simp [okFrom, isum]
  | x :: k, l, a, h => by
    have hx := h x (by simp)
    have hk : 0 ≤ isum k := by
      have : ∀ (q : List Int), (∀ y ∈ q, 0 ≤ y) → 0 ≤ isum q := by
        intro q
        induction q with
        | nil => intro _; simp [isum]
        | cons y q ih => intro hq; rw [isum_cons]; have := hq y (by simp); have := ih (fun z hz => hq z (by simp [hz])); omega
      exact this k fun y hy => h y (by simp [hy])
    rw [List.cons_append, okFrom, okFrom, okFrom_append may k l _ (fun y hy => h y (by simp [hy])), isum_cons, Bool.and_assoc]
    congr 3
    omega
/-- no reading from a place to another one has fewer breaths than their marks say -/
theorem marks_low {may : Nat → Nat → Bool} {n : Nat} {m : Marks} (h : MarkInv may n n m) : ∀ (l : List Int) (a b : Nat), Parts ((b : Int) - a) l → b ≤ n → okFrom may a l = true → m.getD b 0 ≤ m.getD a 0 + l.length
  | [], a, b, hp, _, _ => by
    have := hp.2; simp [isum] at this
    have : a = b := by omega
    subst this; simp
  | x :: l, a, b, hp, hb, hok => by
    rw [parts_cons] at hp
    obtain ⟨h1, h2⟩ := hp
    have h3 := parts_pos h2
    rw [okFrom, Bool.and_eq_true] at hok
    have e : (b : Int) - ((a + x.toNat : Nat) : Int) = (b : Int) - a - x := by omega
    have ih := marks_low h l (a + x.toNat) b (by rw [e]; exact h2) hb hok.2
    have hh := h.hold a (a + x.toNat) (by omega) (by omega) (by omega) hok.1
    rw [List.length_cons]; push_cast; omega
theorem before_spec {may : Nat → Nat → Bool} {n : Nat} {m : Marks} (h : MarkInv may n n m) {b : Nat} (h1 : 1 ≤ b) (hb : b ≤ n) (hm : m.getD b 0 < 99) : Tx.before may m b < b ∧ may (Tx.before may m b) b = true ∧ m.getD (Tx.before may m b) 0 + 1 = m.getD b 0 := by
  unfold Tx.before
  cases hf : (List.range b).find? (befP may m b) with
  | some x =>
    have h2 := List.find?_some hf
    have h3 := List.mem_of_find?_eq_some hf
    simp only [Option.getD_some]
    unfold befP at h2
    rw [Bool.and_eq_true, beq_iff_eq] at h2
    exact ⟨List.mem_range.1 h3, h2.2, h2.1⟩
  | none =>
    exfalso
    rcases h.back b h1 hb with e | ⟨x, x1, x2, x3, x4⟩
    · omega
    · have := List.find?_eq_none.1 hf x (List.mem_range.2 x2)
      apply this
      unfold befP; rw [Bool.and_eq_true, beq_iff_eq]; exact ⟨x4, x3⟩
theorem walk_spec {may : Nat → Nat → Bool} {n : Nat} {m : Marks} (h : MarkInv may n n m) : ∀ (f b : Nat), b ≤ f → b ≤ n → m.getD b 0 < 99 → Parts b (walkBack may m f b).reverse ∧ okFrom may 0 (walkBack may m f b).reverse = true ∧ ((walkBack may m f b).length : Int) = m.getD b 0
  | 0, b, hf, _, _ => by
    have : b = 0 := by omega
    subst this
    refine ⟨⟨by simp [walkBack], by simp [walkBack, isum]⟩, by simp [walkBack, okFrom], ?_⟩
    rw [h.zero]; simp [walkBack]
  | f + 1, b, hf, hb, hm => by
    by_cases h0 : b = 0
    · subst h0
      refine ⟨⟨by simp [walkBack], by simp [walkBack, isum]⟩, by simp [walkBack, okFrom], ?_⟩
      rw [h.zero]; simp [walkBack]
    · obtain ⟨g1, g2, g3⟩ := before_spec h (by omega) hb hm
      rw [walkBack, if_neg h0]
      generalize Tx.before may m b = a at g1 g2 g3
      obtain ⟨i1, i2, i3⟩ := walk_spec h f a (by omega) (by omega) (by have := (h.bd a).2; omega)
      rw [List.reverse_cons]
      have hp : Parts ((b : Int) - a) [(b : Int) - (a : Int)] := ⟨fun x hx => by rw [List.mem_singleton.1 hx]; omega, by simp [isum]⟩
      refine ⟨?_, ?_, ?_⟩
      · have := parts_append i1 hp
        rwa [show (a : Int) + ((b : Int) - a) = b by omega] at this
      · rw [okFrom_append _ _ _ _ (fun x hx => by have := i1.1 x hx; omega), i2, i1.2, Bool.true_and, okFrom, okFrom, Bool.and_true]
        rw [show 0 + ((a : Int)).toNat = a by omega, show a + ((b : Int) - (a : Int)).toNat = b by omega]; exact g2
      · rw [List.length_cons]; push_cast; omega

/-- all readings of so many words, in order -/
def compF : Nat → Nat → List (List Int)
  | 0, n => if n = 0 then [[]] else []
  | f + 1, n => if n = 0 then [[]] else (List.range' 1 n).flatMap fun k => (compF f (n - k)).map fun l => (k : Int) :: l
theorem compF_mem : ∀ (f n : Nat) (l : List Int), n ≤ f → (l ∈ compF f n ↔ Parts n l)
  | 0, n, l, hf => by
    have : n = 0 := by omega
    subst this
    simp only [compF, if_true, List.mem_singleton]
    exact ⟨fun h => by subst h; exact ⟨by simp, rfl⟩, fun h => parts_nil h⟩
  | f + 1, n, l, hf => by
    rw [compF]
    by_cases h0 : n = 0
    · subst h0
      rw [if_pos rfl, List.mem_singleton]
      exact ⟨fun h => by subst h; exact ⟨by simp, rfl⟩, fun h => parts_nil h⟩
    · rw [if_neg h0, List.mem_flatMap]
      constructor
      · rintro ⟨k, hk, hl⟩
        obtain ⟨m, hm, rfl⟩ := List.mem_map.1 hl
        rw [List.mem_range'_1] at hk
        have := (compF_mem f (n - k) m (by omega)).1 hm
        rw [parts_cons]
        exact ⟨by omega, by rwa [show (n : Int) - (k : Int) = ((n - k : Nat) : Int) by omega]⟩
      · intro h
        cases l with
        | nil => have := h.2; simp [isum] at this; omega
        | cons x m =>
          rw [parts_cons] at h
          have h3 := parts_pos h.2
          refine ⟨x.toNat, by rw [List.mem_range'_1]; omega, List.mem_map.2 ⟨m, (compF_mem f _ m (by omega)).2 ?_, ?_⟩⟩
          · rw [show ((n - x.toNat : Nat) : Int) = (n : Int) - x by omega]; exact h.2
          · rw [show ((x.toNat : Nat) : Int) = x by omega]
theorem compF_eq : ∀ (f g n : Nat), n ≤ f → n ≤ g → compF f n = compF g n
  | 0, g, n, hf, _ => by
    have : n = 0 := by omega
    subst this
    cases g <;> simp [compF]
  | f + 1, 0, n, _, hg => by
    have : n = 0 := by omega
    subst this; simp [compF]
  | f + 1, g + 1, n, hf, hg => by
    rw [compF, compF]
    by_cases h0 : n = 0
    · rw [if_pos h0, if_pos h0]
    · rw [if_neg h0, if_neg h0]
      have e : ∀ k ∈ List.range' 1 n, ((compF f (n - k)).map fun l => (k : Int) :: l) = ((compF g (n - k)).map fun l => (k : Int) :: l) := fun k hk => by
        rw [List.mem_range'_1] at hk
        rw [compF_eq f g (n - k) (by omega) (by omega)]
      rw [List.flatMap_def, List.flatMap_def, List.map_congr_left e]
/-- all right readings, in order -/
def rights (may : Nat → Nat → Bool) (n : Nat) : List (List Int) := (compF n n).filter (okFrom may 0)
theorem mem_rights {may : Nat → Nat → Bool} {n : Nat} {l : List Int} : l ∈ rights may n ↔ Parts n l ∧ okFrom may 0 l = true := by
  unfold rights; rw [List.mem_filter, compF_mem n n l (Nat.le_refl _)]
theorem many_count (may : Nat → Nat → Bool) (n : Nat) : ∀ (f a : Nat), a ≤ n → n + 1 - a ≤ f → many may n f a = (compF (n - a) (n - a)).countP (okFrom may a)
  | 0, a, h1, h2 => by omega
  | f + 1, a, h1, h2 => by
    rw [many]
    by_cases h0 : a = n
    · subst h0
      rw [if_pos rfl, Nat.sub_self]; rfl
    · rw [if_neg h0]
      obtain ⟨q, hq⟩ : ∃ q, n - a = q + 1 := ⟨n - a - 1, by omega⟩
      rw [hq, compF, if_neg (by omega), List.countP_flatMap]
      unfold brs
      rw [hq]
      have : (List.range' (a + 1) (q + 1)) = (List.range' 1 (q + 1)).map (a + ·) := by
        rw [List.map_add_range']
      rw [this, List.filter_map, List.map_map]
      have key : ∀ (ks : List Nat), (∀ k ∈ ks, 1 ≤ k ∧ a + k ≤ n) → ((ks.filter (may a ∘ (a + ·))).map (many may n f ∘ (a + ·))).sum = (ks.map (List.countP (okFrom may a) ∘ fun k => (compF q (q + 1 - k)).map fun l => (k : Int) :: l)).sum := by
        intro ks
        induction ks with
        | nil => intro _; rfl
        | cons k ks ih =>
          intro hks
          have hk := hks k (by simp)
          have ih := ih fun x hx => hks x (by simp [hx])
          rw [List.map_cons, List.sum_cons, ← ih]
          have e : (List.countP (okFrom may a) ∘ fun k => (compF q (q + 1 - k)).map fun l => (k : Int) :: l) k = if may a (a + k) then many may n f (a + k) else 0 := by
            simp only [Function.comp_apply, List.countP_map]
            have e2 : (okFrom may a ∘ fun l => (k : Int) :: l) = fun l => may a (a + k) && okFrom may (a + k) l := by
              funext l; simp [okFrom]
            rw [e2]
            cases hm : may a (a + k) with
            | true =>
              simp only [Bool.true_and, if_true]
              rw [many_count may n f (a + k) (by omega) (by omega), compF_eq q (n - (a + k)) (q + 1 - k) (by omega) (by omega), show q + 1 - k = n - (a + k) by omega]
            | false => simp
          rw [e]
          cases hm : may a (a + k) with
          | true => rw [List.filter_cons_of_pos (by simpa using hm)]; simp
          | false => rw [List.filter_cons_of_neg (by simp [hm])]; simp
      exact key _ fun k hk => by rw [List.mem_range'_1] at hk; omega
theorem count_rights (may : Nat → Nat → Bool) (n : Nat) : count may n 0 = (rights may n).length := by
  unfold count rights
  rw [many_count may n _ 0 (by omega) (by omega), Nat.sub_zero, List.countP_eq_length_filter]
/-- the places at which a reading breaks -/
def breaksAt (l : List Int) (p : Nat) : Bool := (List.range l.length).any fun k => isum (l.take (k + 1)) == (p : Int)
theorem unbr_rights {may : Nat → Nat → Bool} {n p : Nat} (hn : n ≤ 12) (h1 : 1 ≤ p) (hp : p < n) : unbrP may n p = !(rights may n).any fun l => breaksAt l p := by
  have h := greatest_inv may n hn
  unfold unbrP
  rw [Bool.eq_iff_iff]
  simp only [Bool.or_eq_true, decide_eq_true_eq, beq_iff_eq, Bool.not_eq_true', List.any_eq_false]
  have hc : count may n p = (compF (n - p) (n - p)).countP (okFrom may p) := by
    unfold count; exact many_count may n _ p (by omega) (by omega)
  constructor
  · rintro hh l hl hb
    obtain ⟨g1, g2⟩ := mem_rights.1 hl
    unfold breaksAt at hb
    obtain ⟨k, hk, he⟩ := List.any_eq_true.1 hb
    rw [beq_iff_eq] at he
    have hs : l = l.take (k + 1) ++ l.drop (k + 1) := (List.take_append_drop _ _).symm
    have hp1 : Parts p (l.take (k + 1)) := ⟨fun x hx => g1.1 x (List.mem_of_mem_take hx), he⟩
    have hp2 : Parts (n - p : Nat) (l.drop (k + 1)) := ⟨fun x hx => g1.1 x (List.mem_of_mem_drop hx), by have := g1.2; rw [hs, isum_append, he] at this; omega⟩
    rw [hs, okFrom_append _ _ _ _ (fun x hx => by have := hp1.1 x hx; omega), Bool.and_eq_true, he, Int.toNat_natCast, Nat.zero_add] at g2
    rcases hh with hh | hh
    · have := marks_low h (l.take (k + 1)) 0 p (by simpa using hp1) (by omega) g2.1
      have h4 := isum_ge hp1.1
      rw [h.zero] at this
      have := hp1.2
      omega
    · rw [hc, List.countP_eq_zero] at hh
      exact hh _ ((compF_mem _ _ _ (Nat.le_refl _)).2 hp2) g2.2
  · intro hh
    by_cases h99 : 99 ≤ (greatest may n).getD p 0
    · exact .inl h99
    · right
      rw [hc, List.countP_eq_zero]
      intro l2 hl2 hok
      have hp2 := (compF_mem _ _ _ (Nat.le_refl _)).1 hl2
      obtain ⟨w1, w2, w3⟩ := walk_spec h p p (Nat.le_refl _) (by omega) (by omega)
      generalize (walkBack may (greatest may n) p p).reverse = l1 at w1 w2
      have hmem : l1 ++ l2 ∈ rights may n := mem_rights.2 ⟨by
        have := parts_append w1 hp2
        rwa [show (p : Int) + ((n - p : Nat) : Int) = n by omega] at this, by
        rw [okFrom_append _ _ _ _ (fun x hx => by have := w1.1 x hx; omega), w2, w1.2, Int.toNat_natCast, Nat.zero_add, hok]; rfl⟩
      apply hh _ hmem
      unfold breaksAt
      have hne : l1 ≠ [] := fun e => by subst e; have := w1.2; simp [isum] at this; omega
      have hlen : 0 < l1.length := List.length_pos_iff.2 hne
      refine List.any_eq_true.2 ⟨l1.length - 1, List.mem_range.2 (by rw [List.length_append]; omega), ?_⟩
      rw [show l1.length - 1 + 1 = l1.length by omega, List.take_left', beq_iff_eq]
      · exact w1.2
      · rfl
/-- the fewest breaths, in the reference's words -/
def bestLen : List (List Int) → Nat → Nat
  | [], b => b
  | l :: ls, b => bestLen ls (if b = 0 ∨ l.length < b then l.length else b)
theorem bestLen_zero : ∀ (ls : List (List Int)) (b : Nat), (∀ l ∈ ls, l ≠ []) → (bestLen ls b = 0 ↔ b = 0 ∧ ls = [])
  | [], b, _ => by simp [bestLen]
  | l :: ls, b, h => by
    rw [bestLen, bestLen_zero ls _ (fun x hx => h x (by simp [hx]))]
    have hl : 0 < l.length := List.length_pos_iff.2 (h l (by simp))
    constructor
    · rintro ⟨h1, h2⟩; split at h1 <;> omega
    · rintro ⟨_, h2⟩; cases h2
theorem bestLen_spec : ∀ (ls : List (List Int)) (b : Nat), (∀ l ∈ ls, l ≠ []) → (0 < b → bestLen ls b ≤ b) ∧ (∀ l ∈ ls, bestLen ls b ≤ l.length) ∧ (bestLen ls b = b ∨ ∃ l ∈ ls, bestLen ls b = l.length)
  | [], b, _ => ⟨fun _ => Nat.le_refl _, fun l hl => by simp at hl, .inl rfl⟩
  | l :: ls, b, h => by
    have hl : 0 < l.length := List.length_pos_iff.2 (h l (by simp))
    rw [bestLen]
    by_cases hc : b = 0 ∨ l.length < b
    · rw [if_pos hc]
      obtain ⟨i1, i2, i3⟩ := bestLen_spec ls l.length (fun x hx => h x (by simp [hx]))
      have := i1 hl
      refine ⟨fun hb => by omega, fun x hx => ?_, .inr ?_⟩
      · rcases List.mem_cons.1 hx with rfl | hx
        · exact this
        · exact i2 x hx
      · rcases i3 with e | ⟨x, hx, e⟩
        · exact ⟨l, by simp, e⟩
        · exact ⟨x, by simp [hx], e⟩
    · rw [if_neg hc]
      obtain ⟨i1, i2, i3⟩ := bestLen_spec ls b (fun x hx => h x (by simp [hx]))
      have := i1 (by omega)
      refine ⟨fun _ => this, fun x hx => ?_, ?_⟩
      · rcases List.mem_cons.1 hx with rfl | hx
        · omega
        · exact i2 x hx
      · rcases i3 with e | ⟨x, hx, e⟩
        · exact .inl e
        · exact .inr ⟨x, by simp [hx], e⟩
theorem rights_ne {may : Nat → Nat → Bool} {n : Nat} (hn1 : 1 ≤ n) : ∀ l ∈ rights may n, l ≠ [] := fun l hl e => by
  have := (mem_rights.1 hl).1.2
  subst e; simp [isum] at this; omega
/-- Fewest tells a right reading with the fewest breaths, or there is none -/
theorem fewest_rights {may : Nat → Nat → Bool} {n : Nat} (hn1 : 1 ≤ n) (hn : n ≤ 12) : ((fewest may n).1.length = bestLen (rights may n) 0) ∧ ((fewest may n).2 = if bestLen (rights may n) 0 = 0 then 6 else 0) ∧ ((fewest may n).2 = 0 → (fewest may n).1 ∈ rights may n) ∧ ((fewest may n).2 = 0 ↔ rights may n ≠ []) := by
  have h := greatest_inv may n hn
  have hne := rights_ne (may := may) hn1
  obtain ⟨b1, b2, b3⟩ := bestLen_spec (rights may n) 0 hne
  have b0 := bestLen_zero (rights may n) 0 hne
  have low : ∀ l ∈ rights may n, (greatest may n).getD n 0 ≤ l.length := fun l hl => by
    obtain ⟨g1, g2⟩ := mem_rights.1 hl
    have := marks_low h l 0 n (by simpa using g1) (Nat.le_refl _) g2
    rw [h.zero] at this; omega
  unfold fewest
  by_cases hm : (greatest may n).getD n 0 < 99
  · rw [if_pos hm]
    obtain ⟨w1, w2, w3⟩ := walk_spec h n n (Nat.le_refl _) (Nat.le_refl _) hm
    have hin : (walkBack may (greatest may n) n n).reverse ∈ rights may n := mem_rights.2 ⟨w1, w2⟩
    have hz : bestLen (rights may n) 0 ≠ 0 := fun e => by have := (b0.1 e).2; rw [this] at hin; simp at hin
    dsimp only
    refine ⟨?_, by rw [if_neg hz], fun _ => hin, ⟨fun _ e => by rw [e] at hin; simp at hin, fun _ => rfl⟩⟩
    rcases b3 with e | ⟨l, hl, e⟩
    · exact absurd e hz
    · have h1 := low l hl
      have h2 := b2 _ hin
      rw [List.length_reverse] at h2 ⊢
      omega
  · rw [if_neg hm]
    have hnil : rights may n = [] := by
      cases hr : rights may n with
      | nil => rfl
      | cons l ls =>
        exfalso
        have hl : l ∈ rights may n := by rw [hr]; simp
        have h1 := low l hl
        have h2 := isum_ge (mem_rights.1 hl).1.1
        have h3 := (mem_rights.1 hl).1.2
        omega
    have hz : bestLen (rights may n) 0 = 0 := b0.2 ⟨rfl, hnil⟩
    dsimp only
    exact ⟨by rw [hz]; rfl, by rw [if_pos hz], fun e => by omega, ⟨fun e => by omega, fun e => absurd hnil e⟩⟩
end Go.Proofs.YtadnggecnjdhiaaGreat
namespace Go.Proofs.YtadnggecnjdhiaaGreat
open Tx
set_option linter.unusedSimpArgs false
set_option linter.unusedVariables false

/-- the longest breath of a reading that begins at a place -/
def longGo (t : Text) : Nat → List Int → Int
  | _, [] => 0
  | a, x :: l => max (t.syl a (a + x.toNat)) (longGo t (a + x.toNat) l)
/-- what Even tries: breaths of at most so many syllables -/
def evGo (t : Text) : List Nat → List Int × Int × Int
  | [] => ([], 0, 6)
  | m :: ms => if (fewest (t.within (m : Nat)) t.words.length).2 = 0 then ((fewest (t.within (m : Nat)) t.words.length).1, (m : Int), 0) else evGo t ms
def evR (t : Text) : List Int × Int × Int := if t.err = 0 then evGo t (List.range' 1 t.breath.toNat) else ([], 0, t.err)
theorem okFrom_within (t : Text) (m : Int) (hm : 0 ≤ m) : ∀ (l : List Int) (a : Nat), okFrom (t.within m) a l = (okFrom t.right a l && decide (longGo t a l ≤ m))
  | [], a => by simp [okFrom, longGo, hm]
  | x :: l, a => by
    rw [okFrom, okFrom, longGo, okFrom_within t m hm l]
    unfold Tx.Text.within
    rw [Bool.eq_iff_iff]
    simp only [Bool.and_eq_true, decide_eq_true_eq]
    constructor
    · rintro ⟨⟨h1, h2⟩, h3, h4⟩
      exact ⟨⟨h2, h3⟩, by omega⟩
    · rintro ⟨⟨h2, h3⟩, h4⟩
      exact ⟨⟨by omega, h2⟩, h3, by omega⟩
theorem syl_pos {t : Text} (hs : ∀ x ∈ t.words, 1 ≤ x.syl ∧ x.syl ≤ 9) {a b : Nat} (hab : a < b) (hb : b ≤ t.words.length) : 1 ≤ t.syl a b := by
  unfold Text.syl
  have hl : ((slice t.words a b).map (·.syl)).length = b - a := by simp [slice]; omega
  have := isum_ge (l := (slice t.words a b).map (·.syl)) (fun x hx => by
    obtain ⟨y, hy, rfl⟩ := List.mem_map.1 hx
    exact (hs y (List.mem_of_mem_drop (List.mem_of_mem_take hy))).1)
  omega
theorem longGo_pos {t : Text} (hs : ∀ x ∈ t.words, 1 ≤ x.syl ∧ x.syl ≤ 9) {l : List Int} (hl : Parts t.words.length l) (h1 : 1 ≤ t.words.length) : 1 ≤ longGo t 0 l := by
  cases l with
  | nil => have := hl.2; simp [isum] at this; omega
  | cons x l =>
    rw [longGo]
    rw [parts_cons] at hl
    have := parts_pos hl.2
    have := syl_pos hs (a := 0) (b := 0 + x.toNat) (by omega) (by omega)
    omega
theorem longGo_breath {t : Text} (hb : 0 ≤ t.breath) : ∀ (l : List Int) (a : Nat), okFrom t.right a l = true → longGo t a l ≤ t.breath
  | [], a, _ => hb
  | x :: l, a, h => by
    rw [okFrom, Bool.and_eq_true] at h
    have h2 := longGo_breath hb l _ h.2
    have h1 := h.1
    unfold Text.right Text.isLong at h1
    simp only [Bool.and_eq_true, Bool.not_eq_true', decide_eq_false_iff_not] at h1
    rw [longGo]
    omega
theorem evGo_spec (t : Text) : ∀ (ms : List Nat), (evGo t ms = ([], 0, 6) ∧ ∀ m ∈ ms, (fewest (t.within (m : Nat)) t.words.length).2 ≠ 0) ∨
    ∃ pre m post, ms = pre ++ m :: post ∧ evGo t ms = ((fewest (t.within (m : Nat)) t.words.length).1, (m : Int), 0) ∧ (fewest (t.within (m : Nat)) t.words.length).2 = 0 ∧ ∀ k ∈ pre, (fewest (t.within (k : Nat)) t.words.length).2 ≠ 0
  | [] => .inl ⟨rfl, by simp⟩
  | m :: ms => by
    rw [evGo]
    by_cases h : (fewest (t.within (m : Nat)) t.words.length).2 = 0
    · rw [if_pos h]
      exact .inr ⟨[], m, ms, rfl, rfl, h, by simp⟩
    · rw [if_neg h]
      rcases evGo_spec t ms with ⟨h1, h2⟩ | ⟨pre, k, post, h1, h2, h3, h4⟩
      · exact .inl ⟨h1, fun k hk => by rcases List.mem_cons.1 hk with rfl | hk; exact h; exact h2 k hk⟩
      · exact .inr ⟨m :: pre, k, post, by rw [h1]; rfl, h2, h3, fun j hj => by rcases List.mem_cons.1 hj with rfl | hj; exact h; exact h4 j hj⟩
/-- what Even tells, as its law asks -/
theorem evR_spec {t : Text} (he : t.err = 0) (hs : ∀ x ∈ t.words, 1 ≤ x.syl ∧ x.syl ≤ 9) (hn1 : 1 ≤ t.words.length) (hn : t.words.length ≤ 12) (hb : 1 ≤ t.breath) :
    ((evR t).2.2 = 6 ∧ (evR t).1 = [] ∧ ∀ l, Parts t.words.length l → okFrom t.right 0 l = true → False) ∨
    ((evR t).2.2 = 0 ∧ Parts t.words.length (evR t).1 ∧ okFrom t.right 0 (evR t).1 = true ∧ longGo t 0 (evR t).1 = (evR t).2.1 ∧ 1 ≤ (evR t).2.1 ∧ (evR t).2.1 ≤ t.breath ∧
      ∀ l, Parts t.words.length l → okFrom t.right 0 l = true → (evR t).2.1 ≤ longGo t 0 l ∧ (longGo t 0 l = (evR t).2.1 → (evR t).1.length ≤ l.length)) := by
  unfold evR
  rw [if_pos he]
  have hfr := fun m : Nat => fewest_rights (may := t.within (m : Nat)) hn1 hn
  have hno : ∀ (m : Nat) l, Parts t.words.length l → okFrom t.right 0 l = true → longGo t 0 l ≤ m → l ∈ rights (t.within (m : Nat)) t.words.length := fun m l h1 h2 h3 => by
    rw [mem_rights]
    exact ⟨h1, by rw [okFrom_within t _ (by omega), h2]; simpa using h3⟩
  have hnot : ∀ (m : Nat), (fewest (t.within (m : Nat)) t.words.length).2 ≠ 0 → ∀ l, Parts t.words.length l → okFrom t.right 0 l = true → ¬ longGo t 0 l ≤ m := fun m hm l h1 h2 h3 => by
    apply hm
    rw [(hfr m).2.2.2]
    intro e
    have := hno m l h1 h2 h3
    rw [e] at this; simp at this
  rcases evGo_spec t (List.range' 1 t.breath.toNat) with ⟨h1, h2⟩ | ⟨pre, m, post, h1, h2, h3, h4⟩
  · left
    rw [h1]
    refine ⟨rfl, rfl, fun l hl ho => ?_⟩
    refine hnot t.breath.toNat (h2 _ (by rw [List.mem_range'_1]; omega)) l hl ho ?_
    have := longGo_breath (by omega) l 0 ho
    omega
  · right
    rw [h2]
    have hin := (hfr m).2.2.1 h3
    obtain ⟨g1, g2⟩ := mem_rights.1 hin
    rw [okFrom_within t _ (by omega), Bool.and_eq_true, decide_eq_true_eq] at g2
    have hmem : m ∈ List.range' 1 t.breath.toNat := by rw [h1]; simp
    rw [List.mem_range'_1] at hmem
    have hlow : ∀ l, Parts t.words.length l → okFrom t.right 0 l = true → (m : Int) ≤ longGo t 0 l := fun l hl ho => by
      have hp := longGo_pos hs hl hn1
      have hlb := longGo_breath (by omega) l 0 ho
      rcases Nat.lt_or_ge (longGo t 0 l).toNat m with hlt | hge
      · exfalso
        have hk : (longGo t 0 l).toNat ∈ pre := by
          have hlen : m = 1 + pre.length := by
            have e : (List.range' 1 t.breath.toNat)[pre.length]? = some m := by rw [h1]; simp
            rw [List.getElem?_range'] at e
            · simp at e; omega
            · have := congrArg List.length h1; simp at this; omega
          have e2 : (List.range' 1 t.breath.toNat)[(longGo t 0 l).toNat - 1]? = some (longGo t 0 l).toNat := by
            rw [List.getElem?_range' (by omega)]
            congr 1; omega
          rw [h1, List.getElem?_append_left (by omega)] at e2
          exact List.mem_of_getElem? e2
        exact hnot _ (h4 _ hk) l hl ho (by omega)
      · omega
    refine ⟨rfl, g1, g2.1, ?_, by show (1 : Int) ≤ (m : Int); omega, by show (m : Int) ≤ _; omega, fun l hl ho => ⟨hlow l hl ho, fun e => ?_⟩⟩
    · have := hlow _ g1 g2.1
      have := g2.2
      dsimp only at *
      omega
    · have hl2 := hno m l hl ho (by dsimp only at e; omega)
      dsimp only
      rw [(hfr m).1]
      exact (bestLen_spec _ 0 (rights_ne hn1)).2.1 l hl2
end Go.Proofs.YtadnggecnjdhiaaGreat
set_option linter.unusedSimpArgs false
set_option linter.unusedVariables false
namespace Go.Proofs.YtadnggecnjdhiaaGreat
open Tx

/-- what the reference's Even has behind a list more: how many breaths, how many syllables (none: no list yet) -/
def evStep (f : List Int → Int) (s : Option (Nat × Int)) (l : List Int) : Option (Nat × Int) :=
  match s with
  | none => some (l.length, f l)
  | some (m, n) => if f l < n ∨ (f l = n ∧ l.length < m) then some (l.length, f l) else some (m, n)
def evS (f : List Int → Int) (R : List (List Int)) : Option (Nat × Int) := R.foldl (evStep f) none
theorem evS_snoc (f : List Int → Int) (R : List (List Int)) (l : List Int) : evS f (R ++ [l]) = evStep f (evS f R) l := by
  unfold evS; rw [List.foldl_append]; rfl
/-- the best of the lists -/
theorem evS_spec (f : List Int → Int) (R : List (List Int)) (h : R ≠ []) : ∃ l ∈ R, evS f R = some (l.length, f l) ∧ ∀ m ∈ R, f l ≤ f m ∧ (f m = f l → l.length ≤ m.length) := by
  have key : ∀ n, 0 < n → n ≤ R.length → ∃ l ∈ R.take n, evS f (R.take n) = some (l.length, f l) ∧ ∀ m ∈ R.take n, f l ≤ f m ∧ (f m = f l → l.length ≤ m.length) := by
    intro n
    induction n with
    | zero => intro h0 _; omega
    | succ n ih =>
      intro _ hn
      have e : R.take (n + 1) = R.take n ++ [R[n]] := by rw [List.take_add_one, List.getElem?_eq_getElem (by omega)]; rfl
      rw [e, evS_snoc]
      rcases Nat.eq_zero_or_pos n with g | g
      · subst g
        exact ⟨R[0], by simp, by simp [evS, evStep], fun m hm => by
          have : m = R[0] := by simpa using hm
          subst this; exact ⟨Int.le_refl _, fun _ => Nat.le_refl _⟩⟩
      · obtain ⟨l, hl, h1, h2⟩ := ih g (by omega)
        rw [h1]
        by_cases hc : f R[n] < f l ∨ (f R[n] = f l ∧ R[n].length < l.length)
        · refine ⟨R[n], List.mem_append_right _ (List.mem_singleton.2 rfl), by unfold evStep; dsimp only; rw [if_pos hc], fun m hm => ?_⟩
          rcases List.mem_append.1 hm with q | q
          · obtain ⟨a1, a2⟩ := h2 m q
            rcases hc with c | ⟨c1, c2⟩
            · exact ⟨by omega, fun e => by omega⟩
            · exact ⟨by omega, fun e => by have := a2 (by omega); omega⟩
          · have : m = R[n] := by simpa using q
            subst this; exact ⟨Int.le_refl _, fun _ => Nat.le_refl _⟩
        · refine ⟨l, List.mem_append_left _ hl, by unfold evStep; dsimp only; rw [if_neg hc], fun m hm => ?_⟩
          rcases List.mem_append.1 hm with q | q
          · exact h2 m q
          · have : m = R[n] := by simpa using q
            subst this
            rw [not_or] at hc
            refine ⟨by omega, fun e => ?_⟩
            have := fun h => hc.2 ⟨e, h⟩
            omega
  have := key R.length (List.length_pos_iff.2 h) (Nat.le_refl _)
  rwa [List.take_length] at this
/-- the reference's answer is the code's -/
theorem even_ref {t : Text} (he : t.err = 0) (hs : ∀ x ∈ t.words, 1 ≤ x.syl ∧ x.syl ≤ 9) (hn1 : 1 ≤ t.words.length) (hn : t.words.length ≤ 12) (hb : 1 ≤ t.breath) :
    (rights t.right t.words.length = [] ∧ (evR t).2.2 = 6 ∧ (evR t).1 = []) ∨
    (rights t.right t.words.length ≠ [] ∧ (evR t).2.2 = 0 ∧ evS (longGo t 0) (rights t.right t.words.length) = some ((evR t).1.length, (evR t).2.1)) := by
  rcases evR_spec he hs hn1 hn hb with ⟨h1, h2, h3⟩ | ⟨h1, h2, h3, h4, h5, h6, h7⟩
  · left
    refine ⟨?_, h1, h2⟩
    apply List.eq_nil_iff_forall_not_mem.2
    intro l hl
    obtain ⟨a1, a2⟩ := mem_rights.1 hl
    exact h3 l a1 a2
  · right
    have hm : (evR t).1 ∈ rights t.right t.words.length := mem_rights.2 ⟨h2, h3⟩
    have hne : rights t.right t.words.length ≠ [] := fun e => by rw [e] at hm; simp at hm
    refine ⟨hne, h1, ?_⟩
    obtain ⟨l, hl, g1, g2⟩ := evS_spec (longGo t 0) _ hne
    obtain ⟨a1, a2⟩ := mem_rights.1 hl
    obtain ⟨b1, b2⟩ := h7 l a1 a2
    obtain ⟨c1, c2⟩ := g2 _ hm
    rw [h4] at c1 c2
    rw [g1]
    have e : longGo t 0 l = (evR t).2.1 := by omega
    have e2 : l.length = (evR t).1.length := by have := b2 e; have := c2 e.symm; omega
    rw [e, e2]
theorem evGo_six (t : Text) : ∀ ms : List Nat, (evGo t ms).2.2 = 6 → (evGo t ms).2.1 = 0
  | [], _ => rfl
  | m :: ms, h => by
    rw [evGo] at h ⊢
    split at h
    · have h : (0 : Int) = 6 := h
      omega
    · rename_i h2
      rw [if_neg h2]
      exact evGo_six t ms h
theorem evR_six {t : Text} (he : t.err = 0) (h : (evR t).2.2 = 6) : (evR t).2.1 = 0 := by
  unfold evR at h ⊢
  rw [if_pos he] at h ⊢
  exact evGo_six t _ h
/-- the sure ones of the right readings -/
theorem sure_rights (t : Text) (n : Nat) (q : List Int → Bool) (h : ∀ l, okFrom t.right 0 l = true → (q l = true ↔ okFrom t.sureB 0 l = true)) (hs : ∀ l, okFrom t.sureB 0 l = true → okFrom t.right 0 l = true) :
    (rights t.right n).filter q = rights t.sureB n := by
  unfold rights
  rw [List.filter_filter]
  refine List.filter_congr fun l _ => ?_
  rw [Bool.eq_iff_iff, Bool.and_eq_true]
  constructor
  · rintro ⟨a, b⟩; exact (h l b).1 a
  · intro a; exact ⟨(h l (hs l a)).2 a, hs l a⟩
theorem okFrom_sure_right (t : Text) : ∀ (l : List Int) (a : Nat), okFrom t.sureB a l = true → okFrom t.right a l = true
  | [], _, h => h
  | x :: l, a, h => by
    rw [okFrom] at h ⊢
    simp only [Bool.and_eq_true] at h ⊢
    refine ⟨?_, okFrom_sure_right t l _ h.2⟩
    have := h.1
    unfold Text.sureB at this
    rw [Bool.and_eq_true, Bool.and_eq_true] at this
    exact this.1.1
end Go.Proofs.YtadnggecnjdhiaaGreat
namespace Go.Proofs.YtadnggecnjdhiaaGreat
open Tx
set_option linter.unusedSimpArgs false
set_option linter.unusedVariables false

theorem even_odd (n : Nat) : ∃ k, n = 2 * k ∨ n = 2 * k + 1 := ⟨n / 2, by omega⟩
/-- strictly increasing, from lo up to less than hi -/
def Incr : Int → Int → List Int → Prop
  | _, _, [] => True
  | lo, hi, x :: l => lo ≤ x ∧ x < hi ∧ Incr (x + 1) hi l
theorem Incr.low {lo lo' hi : Int} (h : lo' ≤ lo) : ∀ {l : List Int}, Incr lo hi l → Incr lo' hi l
  | [], _ => trivial
  | _ :: _, ⟨h1, h2, h3⟩ => ⟨by omega, h2, h3⟩
theorem Incr.bd {hi : Int} : ∀ {lo : Int} {l : List Int}, Incr lo hi l → ∀ x ∈ l, lo ≤ x ∧ x < hi
  | _, [], _, x, hx => by simp at hx
  | lo, y :: l, ⟨h1, h2, h3⟩, x, hx => by
    rcases List.mem_cons.1 hx with rfl | hx
    · exact ⟨h1, h2⟩
    · have := Incr.bd h3 x hx; omega
theorem Incr.len {hi : Int} : ∀ {lo : Int} {l : List Int}, Incr lo hi l → (l.length : Int) ≤ hi - lo ∨ l = []
  | _, [], _ => .inr rfl
  | lo, y :: l, ⟨h1, h2, h3⟩ => by
    left
    rcases Incr.len h3 with h | rfl
    · simp only [List.length_cons]; omega
    · simp; omega
/-- the words that a number says, from the word w on -/
def bits (w n : Nat) : List Int := if h : n = 0 then [] else (if n % 2 = 1 then [(w : Int)] else []) ++ bits (w + 1) (n / 2)
termination_by n
decreasing_by omega
theorem bits_zero (w : Nat) : bits w 0 = [] := by rw [bits]; simp
theorem bits_step (w n : Nat) (h : n ≠ 0) : bits w n = (if n % 2 = 1 then [(w : Int)] else []) ++ bits (w + 1) (n / 2) := by rw [bits]; simp [h]
theorem bits_odd (w n : Nat) : bits w (2 * n + 1) = (w : Int) :: bits (w + 1) n := by
  rw [bits_step _ _ (by omega), if_pos (by omega), show (2 * n + 1) / 2 = n by omega]; rfl
theorem bits_even (w n : Nat) : bits w (2 * n) = bits (w + 1) n := by
  rcases Nat.eq_zero_or_pos n with rfl | h
  · rw [Nat.mul_zero, bits_zero, bits_zero]
  · rw [bits_step _ _ (by omega), if_neg (by omega), show (2 * n) / 2 = n by omega]; rfl
theorem bits_incr : ∀ (N w n : Nat), n < 2 ^ N → Incr w (w + N : Nat) (bits w n)
  | 0, w, n, h => by
    have : n = 0 := by simp at h; exact h
    subst this; rw [bits_zero]; trivial
  | N + 1, w, n, h => by
    rw [Nat.pow_succ] at h
    have ih := bits_incr N (w + 1) (n / 2) (by omega)
    rw [show w + 1 + N = w + (N + 1) by omega] at ih
    rcases even_odd n with ⟨k, rfl | rfl⟩
    · rw [bits_even]; rw [show 2 * k / 2 = k by omega] at ih
      exact ih.low (by omega)
    · rw [bits_odd]; rw [show (2 * k + 1) / 2 = k by omega] at ih
      exact ⟨by omega, by push_cast; omega, by rwa [show ((w : Int) + 1) = ((w + 1 : Nat) : Int) by omega]⟩
theorem bits_all : ∀ (N w : Nat) (l : List Int), Incr w (w + N : Nat) l → ∃ n, n < 2 ^ N ∧ bits w n = l
  | 0, w, l, h => by
    cases l with
    | nil => exact ⟨0, by simp, bits_zero _⟩
    | cons x l => obtain ⟨h1, h2, _⟩ := h; simp at h2; omega
  | N + 1, w, l, h => by
    rw [show w + (N + 1) = w + 1 + N by omega] at h
    cases l with
    | nil => exact ⟨0, by rw [Nat.pow_succ]; have := Nat.two_pow_pos N; omega, bits_zero _⟩
    | cons x l =>
      obtain ⟨h1, h2, h3⟩ := h
      by_cases hx : x = (w : Int)
      · subst hx
        obtain ⟨n, hn, e⟩ := bits_all N (w + 1) l (by rwa [show ((w + 1 : Nat) : Int) = (w : Int) + 1 by omega])
        exact ⟨2 * n + 1, by rw [Nat.pow_succ]; omega, by rw [bits_odd, e]⟩
      · obtain ⟨n, hn, e⟩ := bits_all N (w + 1) (x :: l) ⟨by omega, h2, h3⟩
        exact ⟨2 * n, by rw [Nat.pow_succ]; omega, by rw [bits_even, e]⟩
theorem bits_ne {w n : Nat} (h : n ≠ 0) : bits w n ≠ [] := by
  induction n using Nat.strongRecOn generalizing w with
  | _ n ih =>
    rcases even_odd n with ⟨k, rfl | rfl⟩
    · rw [bits_even]; exact ih k (by omega) (by omega)
    · rw [bits_odd]; simp
theorem lists_mem (N : Nat) : ∀ (k a : Nat) (l : List Int), l ∈ Tx.lists N k a ↔ l.length = k ∧ Incr a N l
  | 0, a, l => by
    simp only [Tx.lists, List.mem_singleton]
    constructor
    · rintro rfl; exact ⟨rfl, trivial⟩
    · rintro ⟨h, _⟩; exact List.length_eq_zero_iff.1 h
  | k + 1, a, l => by
    simp only [Tx.lists, List.mem_flatMap, List.mem_range'_1, List.mem_map]
    constructor
    · rintro ⟨x, hx, m, hm, rfl⟩
      obtain ⟨h1, h2⟩ := (lists_mem N k (x + 1) m).1 hm
      exact ⟨by simp [h1], by omega, by omega, by rwa [show ((x : Int) + 1) = ((x + 1 : Nat) : Int) by omega]⟩
    · rintro ⟨hl, h⟩
      cases l with
      | nil => simp at hl
      | cons y m =>
        obtain ⟨h1, h2, h3⟩ := h
        refine ⟨y.toNat, by omega, m, (lists_mem N k (y.toNat + 1) m).2 ⟨by simpa using hl, ?_⟩, ?_⟩
        · rwa [show ((y.toNat + 1 : Nat) : Int) = y + 1 by omega]
        · rw [show ((y.toNat : Nat) : Int) = y by omega]
/-- a list comes before another one of as many numbers -/
def lexB : List Int → List Int → Bool
  | x :: a, y :: b => if x ≠ y then decide (x < y) else lexB a b
  | _, _ => false
theorem lexB_irr : ∀ a : List Int, lexB a a = false
  | [] => rfl
  | x :: a => by rw [lexB, if_neg (by simp)]; exact lexB_irr a
theorem lexB_trans : ∀ {a b c : List Int}, a.length = b.length → b.length = c.length → lexB a b = true → lexB b c = true → lexB a c = true
  | [], b, c, _, _, h, _ => by simp [lexB] at h
  | x :: a, [], c, _, _, h, _ => by simp [lexB] at h
  | x :: a, y :: b, [], _, _, _, h => by simp [lexB] at h
  | x :: a, y :: b, z :: c, e1, e2, h1, h2 => by
    rw [lexB] at h1 h2 ⊢
    by_cases hxy : x = y
    · subst hxy
      rw [if_neg (by simp)] at h1
      by_cases hyz : x = z
      · subst hyz
        rw [if_neg (by simp)] at h2 ⊢
        exact lexB_trans (by simpa using e1) (by simpa using e2) h1 h2
      · rw [if_pos hyz] at h2 ⊢; exact h2
    · rw [if_pos hxy] at h1
      have h1' := of_decide_eq_true h1
      by_cases hyz : y = z
      · subst hyz; rw [if_pos hxy]; exact h1
      · rw [if_pos hyz] at h2
        have h2' := of_decide_eq_true h2
        rw [if_pos (by omega)]; exact decide_eq_true (by omega)
theorem lexB_total : ∀ {a b : List Int}, a.length = b.length → a = b ∨ lexB a b = true ∨ lexB b a = true
  | [], [], _ => .inl rfl
  | [], _ :: _, h => by simp at h
  | _ :: _, [], h => by simp at h
  | x :: a, y :: b, h => by
    by_cases hxy : x = y
    · subst hxy
      rcases lexB_total (a := a) (b := b) (by simpa using h) with rfl | h | h
      · exact .inl rfl
      · right; left; rw [lexB, if_neg (by simp)]; exact h
      · right; right; rw [lexB, if_neg (by simp)]; exact h
    · right
      rw [lexB, lexB, if_pos hxy, if_pos (Ne.symm hxy)]
      simp only [decide_eq_true_eq]; omega
theorem lists_sorted (N : Nat) : ∀ (k a : Nat), (Tx.lists N k a).Pairwise fun l m => lexB l m = true
  | 0, a => by simp [Tx.lists]
  | k + 1, a => by
    simp only [Tx.lists]
    rw [List.pairwise_flatMap]
    refine ⟨fun x hx => ?_, ?_⟩
    · rw [List.pairwise_map]
      refine (lists_sorted N k (x + 1)).imp fun h => ?_
      rw [lexB, if_neg (by simp)]; exact h
    · have : (List.range' a (N - a)).Pairwise (· < ·) := List.pairwise_lt_range'
      refine this.imp fun {x y} hxy l hl m hm => ?_
      obtain ⟨l', _, rfl⟩ := List.mem_map.1 hl
      obtain ⟨m', _, rfl⟩ := List.mem_map.1 hm
      rw [lexB, if_pos (by omega)]; exact decide_eq_true (by omega)
/-- a list is better than another one -/
def better (a b : List Int) : Prop := a.length < b.length ∨ (a.length = b.length ∧ lexB a b = true)
theorem better_trans {a b c : List Int} (h1 : better a b) (h2 : better b c) : better a c := by
  rcases h1 with h1 | ⟨h1, h1'⟩ <;> rcases h2 with h2 | ⟨h2, h2'⟩
  · exact .inl (by omega)
  · exact .inl (by omega)
  · exact .inl (by omega)
  · exact .inr ⟨by omega, lexB_trans h1 h2 h1' h2'⟩
theorem better_irr {a : List Int} (h : better a a) : False := by
  rcases h with h | ⟨_, h⟩
  · omega
  · rw [lexB_irr] at h; cases h
theorem better_total {a b : List Int} (h : ¬ better a b) : a = b ∨ better b a := by
  by_cases hl : a.length = b.length
  · rcases lexB_total hl with e | e | e
    · exact .inl e
    · exact absurd (.inr ⟨hl, e⟩) h
    · exact .inr (.inr ⟨hl.symm, e⟩)
  · have : ¬ a.length < b.length := fun e => h (.inl e)
    exact .inr (.inl (by omega))
theorem find_first {p : List Int → Bool} : ∀ {L : List (List Int)} {l : List Int}, L.Pairwise (fun l m => lexB l m = true) → L.find? p = some l → l ∈ L ∧ p l = true ∧ ∀ m ∈ L, p m = true → m = l ∨ lexB l m = true
  | [], _, _, h => by simp at h
  | x :: L, l, hs, h => by
    rw [List.pairwise_cons] at hs
    by_cases hp : p x = true
    · rw [List.find?_cons_of_pos hp] at h
      injection h with h; subst h
      exact ⟨List.mem_cons_self .., hp, fun m hm _ => by
        rcases List.mem_cons.1 hm with rfl | hm
        · exact .inl rfl
        · exact .inr (hs.1 m hm)⟩
    · rw [List.find?_cons_of_neg hp] at h
      obtain ⟨h1, h2, h3⟩ := find_first hs.2 h
      exact ⟨List.mem_cons_of_mem _ h1, h2, fun m hm hpm => by
        rcases List.mem_cons.1 hm with rfl | hm
        · exact absurd hpm hp
        · exact h3 m hm hpm⟩
/-- what least tells -/
theorem leastGo_spec (t : Text) (wt : Int) : ∀ (ks : List Nat), ks.Pairwise (· < ·) → (∀ l, t.leastGo wt ks = some l → (l.length ∈ ks ∧ Incr 0 t.len l ∧ t.leastP wt l = true ∧ ∀ m, m.length ∈ ks → Incr 0 t.len m → t.leastP wt m = true → m = l ∨ better l m)) ∧
    (t.leastGo wt ks = none → ∀ m, m.length ∈ ks → Incr 0 t.len m → t.leastP wt m = false)
  | [], _ => ⟨fun l h => by simp [Text.leastGo] at h, fun _ m hm => by simp at hm⟩
  | k :: ks, hs => by
    rw [List.pairwise_cons] at hs
    obtain ⟨ih1, ih2⟩ := leastGo_spec t wt ks hs.2
    rw [Text.leastGo]
    cases hf : (Tx.lists t.len k 0).find? (t.leastP wt) with
    | some l0 =>
      obtain ⟨h1, h2, h3⟩ := find_first (lists_sorted _ _ _) hf
      obtain ⟨g1, g2⟩ := (lists_mem _ _ _ _).1 h1
      refine ⟨fun l h => ?_, fun h => by simp at h⟩
      simp only [Option.some.injEq] at h
      subst h
      refine ⟨by rw [g1]; exact List.mem_cons_self .., g2, h2, fun m hm hi hp => ?_⟩
      rcases List.mem_cons.1 hm with hm | hm
      · rcases h3 m ((lists_mem _ _ _ _).2 ⟨hm, hi⟩) hp with e | e
        · exact .inl e
        · exact .inr (.inr ⟨by omega, e⟩)
      · exact .inr (.inl (by rw [g1]; exact hs.1 _ hm))
    | none =>
      have hno : ∀ m, m.length = k → Incr 0 t.len m → t.leastP wt m = false := fun m hm hi => by
        have := List.find?_eq_none.1 hf m ((lists_mem _ _ _ _).2 ⟨hm, hi⟩)
        simpa using this
      refine ⟨fun l h => ?_, fun h m hm hi => ?_⟩
      · obtain ⟨a1, a2, a3, a4⟩ := ih1 l h
        refine ⟨List.mem_cons_of_mem _ a1, a2, a3, fun m hm hi hp => ?_⟩
        rcases List.mem_cons.1 hm with hm | hm
        · rw [hno m hm hi] at hp; cases hp
        · exact a4 m hm hi hp
      · rcases List.mem_cons.1 hm with hm | hm
        · exact hno m hm hi
        · exact ih2 h m hm hi
/-- the best of the lists that the numbers from 1 to less than n say -/
def BestOf (p : List Int → Bool) (n : Nat) (b : List Int) : Prop :=
  (b = [] ∧ ∀ j, 1 ≤ j → j < n → p (bits 0 j) = false) ∨ (∃ j, 1 ≤ j ∧ j < n ∧ b = bits 0 j ∧ p b = true ∧ ∀ i, 1 ≤ i → i < n → p (bits 0 i) = true → bits 0 i = b ∨ better b (bits 0 i))
theorem BestOf.zero (p : List Int → Bool) : BestOf p 1 [] := .inl ⟨rfl, fun j h1 h2 => by omega⟩
theorem BestOf.skip {p : List Int → Bool} {n : Nat} {b : List Int} (h : BestOf p n b) (hp : p (bits 0 n) = false) : BestOf p (n + 1) b := by
  rcases h with ⟨rfl, h⟩ | ⟨j, h1, h2, rfl, h3, h4⟩
  · refine .inl ⟨rfl, fun j h1 h2 => ?_⟩
    rcases Nat.lt_succ_iff_lt_or_eq.1 h2 with h2 | rfl
    · exact h j h1 h2
    · exact hp
  · refine .inr ⟨j, h1, by omega, rfl, h3, fun i i1 i2 hi => ?_⟩
    rcases Nat.lt_succ_iff_lt_or_eq.1 i2 with i2 | rfl
    · exact h4 i i1 i2 hi
    · rw [hp] at hi; cases hi
theorem BestOf.take {p : List Int → Bool} {n : Nat} {b : List Int} (h : BestOf p n b) (hn : 1 ≤ n) (hp : p (bits 0 n) = true) (hb : b = [] ∨ better (bits 0 n) b) : BestOf p (n + 1) (bits 0 n) := by
  refine .inr ⟨n, hn, by omega, rfl, hp, fun i i1 i2 hi => ?_⟩
  rcases Nat.lt_succ_iff_lt_or_eq.1 i2 with i2 | rfl
  · rcases h with ⟨rfl, h⟩ | ⟨j, h1, h2, rfl, h3, h4⟩
    · rw [h i i1 i2] at hi; cases hi
    · have hb : better (bits 0 n) (bits 0 j) := by
        rcases hb with hb | hb
        · exact absurd hb (bits_ne (by omega))
        · exact hb
      rcases h4 i i1 i2 hi with e | e
      · rw [e]; exact .inr hb
      · exact .inr (better_trans hb e)
  · exact .inl rfl
theorem BestOf.keep {p : List Int → Bool} {n : Nat} {b : List Int} (h : BestOf p n b) (hb : b ≠ []) (hw : ¬ better (bits 0 n) b) : BestOf p (n + 1) b := by
  rcases h with ⟨rfl, h⟩ | ⟨j, h1, h2, rfl, h3, h4⟩
  · exact absurd rfl hb
  · refine .inr ⟨j, h1, by omega, rfl, h3, fun i i1 i2 hi => ?_⟩
    rcases Nat.lt_succ_iff_lt_or_eq.1 i2 with i2 | rfl
    · exact h4 i i1 i2 hi
    · exact better_total hw
theorem best_least {t : Text} {wt : Int} {b : List Int} (h : BestOf (t.leastP wt) (2 ^ t.len) b) : t.least wt = (b, if b = [] then 6 else 0) := by
  have hks : (List.range' 1 t.len).Pairwise (· < ·) := List.pairwise_lt_range'
  obtain ⟨s1, s2⟩ := leastGo_spec t wt (List.range' 1 t.len) hks
  have hin : ∀ {m : List Int}, Incr 0 t.len m → m ≠ [] → m.length ∈ List.range' 1 t.len := fun {m} hm hne => by
    rw [List.mem_range'_1]
    have : m.length ≠ 0 := fun e => hne (List.length_eq_zero_iff.1 e)
    rcases Incr.len hm with h | h
    · omega
    · exact absurd h hne
  have hbi : ∀ j, j < 2 ^ t.len → Incr 0 t.len (bits 0 j) := fun j hj => by
    have := bits_incr t.len 0 j hj
    simpa using this
  unfold Text.least
  cases hg : t.leastGo wt (List.range' 1 t.len) with
  | none =>
    rcases h with ⟨rfl, h⟩ | ⟨j, h1, h2, rfl, h3, h4⟩
    · rfl
    · have := s2 hg _ (hin (hbi j h2) (bits_ne (by omega))) (hbi j h2)
      rw [this] at h3; cases h3
  | some l =>
    obtain ⟨a1, a2, a3, a4⟩ := s1 l hg
    have hl : l ≠ [] := fun e => by rw [e, List.mem_range'_1] at a1; simp at a1
    obtain ⟨n, hn, e⟩ := bits_all t.len 0 l (by simpa using a2)
    have hn1 : 1 ≤ n := by
      rcases Nat.eq_zero_or_pos n with h0 | h0
      · rw [h0, bits_zero] at e; exact absurd e.symm hl
      · exact h0
    rcases h with ⟨rfl, h⟩ | ⟨j, h1, h2, rfl, h3, h4⟩
    · have := h n hn1 hn; rw [e, a3] at this; cases this
    · have e1 := h4 n hn1 hn (by rw [e]; exact a3)
      rw [e] at e1
      have e2 := a4 (bits 0 j) (hin (hbi j h2) (bits_ne (by omega))) (hbi j h2) h3
      have : l = bits 0 j := by
        rcases e1 with e1 | e1
        · exact e1
        · rcases e2 with e2 | e2
          · exact e2.symm
          · exact absurd (better_trans e1 e2) (fun h => better_irr h)
      rw [this, if_neg (bits_ne (by omega))]
end Go.Proofs.YtadnggecnjdhiaaGreat
set_option linter.unusedSimpArgs false
set_option linter.unusedVariables false
namespace Go.Proofs.YtadnggecnjdhiaaGreat
open Go.RowKit Tx
attribute [local go_sem] Oper.semAt_some

set_option maxHeartbeats 2000000 in
set_option maxRecDepth 100000 in
theorem list_any (n : Nat) (hn : n ≤ 1000000) (w : World) : Calls Tryz.prog 107 #[.int .i64 n] w (RowPost (bits 0 n) w) := by
  obtain ⟨i0, hi0, hz0, hz1, hz2⟩ := info_parts A_infoI
  go_enter Tryz.func107, Tryz.ntmps107
  go_wp2
  go_loopw [0, 3, 4] (fun nv v i wr => ∃ (m k : Nat) (acc : List Int), nv = .int .i64 m ∧ i = .int .i64 k ∧ m ≤ n ∧ m + k ≤ n ∧ acc.length ≤ k ∧ acc ++ bits k m = bits 0 n ∧ wr.ownsRow w.heap.size 3 1 v acc.length (acc.map (Value.int .i64)) ∧ Below w.heap.size w wr) (fun nv _ _ _ => (intOf nv).toNat)
  case atStart => exact ⟨n, 0, [], rfl, rfl, Nat.le_refl _, by omega, by simp, rfl, own_none _ _ _ _, Below.refl _ _⟩
  case round =>
    obtain ⟨m, k, acc, rfl, rfl, hm, hmk, hak, hacc, hown, hBr⟩ := hrel
    have HO := Lib.hid hown
    have HBr := Lib.hid hBr
    have HACC := Lib.hid hacc
    have hz7 := hBr.size
    have hal : acc.length ≤ 1000000 := by omega
    clear hown hBr hacc
    by_cases h0 : 0 < m
    · obtain ⟨mi, hmi⟩ : ∃ mi : Int, mi = (m : Int) := ⟨_, rfl⟩
      have h0' : 0 < mi := by omega
      have hk1 : (k : Int) + 1 = ((k + 1 : Nat) : Int) := by omega
      have HK1 := Lib.hid hk1
      obtain ⟨q, hq | hq⟩ := even_odd m
      · have hqn : q ≤ 1000000 := by omega
        have hr : Int.tmod mi 2 = 0 := by rw [Int.tmod_eq_emod_of_nonneg (by omega)]; omega
        have hd : Int.tdiv mi 2 = (q : Int) := by rw [Int.tdiv_eq_ediv_of_nonneg (by omega)]; omega
        have HB : Hid (acc ++ bits (k + 1) q = bits 0 n) := Lib.hid (by rw [← HACC.out, hq, bits_even])
        have HQ := Lib.hid hq
        have hb1 : mi ≤ 1000000 := by omega
        rw [← hmi]
        have HMI := Lib.hid hmi
        clear hmi hq hk1 HACC
        go_wp2
        go_roundw
        case rel => exact ⟨q, k + 1, acc, rfl, by rw [HK1.out], by have := HQ.out; omega, by have := HQ.out; omega, by omega, HB.out, HO.out, HBr.out⟩
        case measure => have := HQ.out; simp [intOf]; have := HMI.out; omega
      · have hqn : q ≤ 1000000 := by omega
        have hr : Int.tmod mi 2 = 1 := by rw [Int.tmod_eq_emod_of_nonneg (by omega)]; omega
        have hd : Int.tdiv mi 2 = (q : Int) := by rw [Int.tdiv_eq_ediv_of_nonneg (by omega)]; omega
        have HB : Hid ((acc ++ [(k : Int)]) ++ bits (k + 1) q = bits 0 n) := Lib.hid (by rw [← HACC.out, hq, bits_odd]; simp)
        have HQ := Lib.hid hq
        have hb1 : mi ≤ 1000000 := by omega
        rw [← hmi]
        have HMI := Lib.hid hmi
        clear hmi hq hk1 HACC
        go_wp2_with (at_builtin; refine wpList_append_own _ rfl _ _ 34 rfl w.heap.size 3 i0 (.int .i64 0) 1 8 A_undI hi0 hz0 hz1 hz2 rfl (by decide) _ _ _ rfl (HO.out.alloc _) ⟨wr.heap.size, 0, none⟩ 1 1 [.int .i64 (k : Int)] rfl rfl ?d1 ?d2 ?d3 ?d4 ?d5 ?_)
        case d1 => exact cell_one_new _ _ _
        case d2 => first | rfl | (intro u hu; simp at hu; subst hu; rfl)
        case d3 => unfold maxLen; omega
        case d4 => omega
        case d5 => first | omega | (simp; omega)
        intro v' w8 hown8 hgrow _
        have hB8 := below_grown (al2 HBr.out (by omega) _) (HO.out.alloc _) (Nat.le_refl _) (by simp; omega) hgrow
        have HO8 := Lib.hid hown8
        have HB8 := Lib.hid hB8
        clear hgrow hown8 hB8
        go_wp2
        go_roundw
        case rel => exact ⟨q, k + 1, acc ++ [(k : Int)], rfl, by rw [HK1.out], by have := HQ.out; omega, by have := HQ.out; omega, by simp; omega, HB.out, by simpa using HO8.out, HB8.out⟩
        case measure => have := HQ.out; simp [intOf]; have := HMI.out; omega
    · obtain rfl : m = 0 := by omega
      have HB : Hid (acc = bits 0 n) := Lib.hid (by rw [← HACC.out, bits_zero, List.append_nil])
      clear HACC
      go_wp2
      go_ret
      exact ⟨_, rfl, by rw [← HB.out]; exact HO.out, HBr.out⟩
set_option maxHeartbeats 2000000 in
theorem listsN_any (t : Text) (hn : t.words.length ≤ 12) (pw : Option Addr) (cw : Nat) (v1 v2 : Value) (w : World) :
    Calls Tryz.prog 106 #[.agg #[.slice pw t.words.length cw, v1, v2]] w fun e w' => e = .returned (.int .i64 ((2 ^ t.words.length : Nat) : Int)) ∧ Below w.heap.size w w' := by
  generalize t.words.length = N at hn ⊢
  have HB := Lib.hid (below1 w (.cells #[.slice pw N cw, v1, v2] 32))
  obtain ⟨k0, k1, k2⟩ := blk3 (heap_last w (.cells #[.slice pw N cw, v1, v2] 32))
  go_enter Tryz.func106, Tryz.ntmps106
  go_wp2_with fail
  generalize w.alloc (.cells #[.slice pw N cw, v1, v2] 32) = W1 at HB k0 k1 k2 ⊢
  go_loop [3, 4] (fun v i => ∃ k q : Nat, k ≤ N ∧ i = .int .i64 k ∧ v = .int .i64 q ∧ q = 2 ^ k) (fun _ i => N - (intOf i).toNat)
  case atStart => exact ⟨0, 1, Nat.zero_le _, rfl, rfl, rfl⟩
  case round =>
    obtain ⟨k, q, hk, rfl, rfl, hq⟩ := hrel
    have hq9 : q ≤ 4096 := by rw [hq]; exact Nat.pow_le_pow_right (by omega) (show k ≤ 12 by omega)
    have HQ := Lib.hid hq
    clear hq
    by_cases hlt : k < N
    · have hlt' : (k : Int) < N := by omega
      have hw : 2 * (q : Int) = ((2 * q : Nat) : Int) := by push_cast; rfl
      have HW := Lib.hid hw
      clear hw
      go_wp2
      go_round
      case rel => exact ⟨k + 1, 2 * q, by omega, by go_num, by first | rfl | (congr 1; done) | (congr 1; push_cast; done) | (congr 1; push_cast; rfl), by rw [Nat.pow_succ, ← HQ.out]; omega⟩
      case measure => simp [intOf]; omega
    · obtain rfl : k = N := by omega
      go_wp2
      go_ret
      exact ⟨ret_int (by rw [HQ.out]; first | rfl | simp), HB.out⟩
theorem lexB_drop {a b : List Int} {k : Nat} (ha : k < a.length) (hb : k < b.length) : lexB (a.drop k) (b.drop k) = if a.getD k 0 ≠ b.getD k 0 then decide (a.getD k 0 < b.getD k 0) else lexB (a.drop (k + 1)) (b.drop (k + 1)) := by
  rw [List.drop_eq_getElem_cons ha, List.drop_eq_getElem_cons hb, lexB]
  rw [show a.getD k 0 = a[k] from by simp [ha], show b.getD k 0 = b[k] from by simp [hb]]
set_option maxHeartbeats 2000000 in
theorem before_any2 (a b : List Int) (hl : a.length = b.length) (hll : a.length ≤ 1000000) (p q : Option Addr) (c d : Nat) (w : World) (ha : Ints w p a) (hb : Ints w q b) :
    Calls Tryz.prog 108 #[.slice p a.length c, .slice q b.length d] w fun e w' => e = .returned (.bool (lexB a b)) ∧ Below w.heap.size w w' := by
  have HA := Lib.hid ha
  have HBL := Lib.hid hb
  have HL := Lib.hid hl
  clear ha hb hl
  go_enter Tryz.func108, Tryz.ntmps108
  go_wp2
  go_loopw [5] (fun i wr => ∃ k : Nat, k ≤ a.length ∧ i = .int .i64 k ∧ lexB (a.drop k) (b.drop k) = lexB a b ∧ Below w.heap.size w wr) (fun i _ => a.length - (intOf i).toNat)
  case atStart => exact ⟨0, Nat.zero_le _, rfl, rfl, Below.refl _ _⟩
  case round =>
    obtain ⟨k, hk, rfl, hd, hBr⟩ := hrel
    have HD := Lib.hid hd
    have HBr := Lib.hid hBr
    clear hd
    by_cases hlt : k < a.length
    · have hlt2 : k < b.length := by have := HL.out; omega
      have hlt' : (k : Int) < a.length := by omega
      have hlt2' : (k : Int) < b.length := by omega
      obtain ⟨b1, o1, x, rfl, hb1, hx, c1⟩ := (HA.out.below hBr).at hlt
      obtain ⟨b2, o2, y, rfl, hb2, hy, d1⟩ := (HBL.out.below hBr).at hlt2
      have HX := Lib.hid (lexB_drop hlt hlt2)
      rw [← hx, ← hy] at HX
      clear hx hy hBr
      by_cases hxy : x = y
      · subst hxy
        have HF : Hid (lexB (a.drop (k + 1)) (b.drop (k + 1)) = lexB a b) := Lib.hid (by rw [← HD.out, HX.out, if_neg (by simp)])
        clear HX HD
        go_wp2
        go_quiet (fail)
        go_wp2
        go_roundw
        case rel => exact ⟨k + 1, by omega, by go_num, HF.out, below_drewN' HBr.out _⟩
        case measure => simp [intOf]; omega
      · have hxy' : (x != y) = true := by simpa using hxy
        have HF : Hid (lexB a b = decide (x < y)) := Lib.hid (by rw [← HD.out, HX.out, if_pos hxy])
        clear HX HD hxy
        go_wp2
        go_quiet (fail)
        go_wp2
        go_quiet (fail)
        go_wp2
        go_ret
        exact ⟨ret_bool HF.out.symm, below_drewN' (below_drewN' HBr.out _) _⟩
    · obtain rfl : k = a.length := by omega
      have HF : Hid (lexB a b = false) := Lib.hid (by rw [← HD.out, List.drop_length]; rfl)
      clear HD
      go_wp2
      go_ret
      exact ⟨ret_bool HF.out.symm, HBr.out⟩
set_option maxHeartbeats 2000000 in
theorem rWeight_any (t : Text) (ok : Text.Ok t) (l : List Int) (hll : l.length ≤ 100000) (hx : ∀ x ∈ l, 0 ≤ x ∧ x < t.words.length) (pw pl : Option Addr) (cw cl : Nat) (v1 v2 : Value) (w : World) (hW : Wds w pw t.words) (hL : Ints w pl l) :
    Calls Tryz.prog 113 #[.agg #[.slice pw t.words.length cw, v1, v2], .slice pl l.length cl] w fun e w' => e = .returned (.int .i64 (t.wtOf l)) ∧ Below w.heap.size w w' := by
  have HB := Lib.hid (below1 w (.cells #[.slice pw t.words.length cw, v1, v2] 32))
  have HX := Lib.hid (heap_last w (.cells #[.slice pw t.words.length cw, v1, v2] 32))
  have HW := Lib.hid hW
  have HL := Lib.hid hL
  have HXS := Lib.hid hx
  have HOK := Lib.hid ok
  have hn12 := ok.n12
  have hbdall : ∀ k, 0 ≤ isum ((l.take k).map fun i => (t.words.getD i.toNat default).wt) ∧ isum ((l.take k).map fun i => (t.words.getD i.toNat default).wt) ≤ 2000000 := fun k => by
    have h := isum_bd ((l.take k).map fun i => (t.words.getD i.toNat default).wt) 0 20 (fun y hy => by
      obtain ⟨i, hi, rfl⟩ := List.mem_map.1 hy
      have hi2 := hx i (List.mem_of_mem_take hi)
      have := ok.word (t.words.getD i.toNat default) (getD_mem default (by omega))
      exact ⟨this.2.2.1, this.2.2.2⟩)
    have : ((l.take k).map fun i => (t.words.getD i.toNat default).wt).length ≤ 100000 := by simp; omega
    omega
  have HBD := Lib.hid hbdall
  have HT : Hid (t.wtOf l = isum ((l.take l.length).map fun i => (t.words.getD i.toNat default).wt)) := Lib.hid (by rw [List.take_length]; rfl)
  generalize t.wtOf l = tw at HT ⊢
  clear hW hL hx ok hbdall
  go_enter Tryz.func113, Tryz.ntmps113
  go_wp2_with fail
  generalize w.alloc (.cells #[.slice pw t.words.length cw, v1, v2] 32) = W1 at HB HX ⊢
  go_loopw [5, 6] (fun v i wr => ∃ (k : Nat) (s : Int), k ≤ l.length ∧ i = .int .i64 k ∧ v = .int .i64 s ∧ s = isum ((l.take k).map fun i => (t.words.getD i.toNat default).wt) ∧ Below W1.heap.size W1 wr) (fun _ i _ => l.length - (intOf i).toNat)
  case atStart => exact ⟨0, 0, Nat.zero_le _, rfl, rfl, rfl, Below.refl _ _⟩
  case round =>
    obtain ⟨k, s, hk, rfl, rfl, hs, hBr⟩ := hrel
    have HS := Lib.hid hs
    have HBr := Lib.hid hBr
    have hsb := HBD.out k
    rw [← hs] at hsb
    obtain ⟨k0, k1, k2⟩ := blk3 ((hBr.block w.heap.size (Array.getElem?_eq_some_iff.1 HX.out).1).trans HX.out)
    clear hs
    by_cases hlt : k < l.length
    · have hlt' : (k : Int) < l.length := by omega
      obtain ⟨b1, o1, x, rfl, hb1, hx, c1⟩ := (HL.out.below (join HB.out hBr)).at hlt
      have hxb := HXS.out x (by rw [hx]; exact getD_mem 0 hlt)
      obtain ⟨xn, rfl⟩ : ∃ n : Nat, x = (n : Int) := ⟨x.toNat, by omega⟩
      have hxn : xn < t.words.length := by omega
      obtain ⟨b2, o2, y, rfl, hb2, hy, d1, d2, d3⟩ := (HW.out.below (join HB.out hBr)).at hxn
      have hsn : isum ((l.take (k + 1)).map fun i => (t.words.getD i.toNat default).wt) = isum ((l.take k).map fun i => (t.words.getD i.toNat default).wt) + y.wt := by
        rw [take_snocD 0 hlt, List.map_append, List.map_cons, List.map_nil, isum_snoc, ← hx, Int.toNat_natCast, ← hy]
      have hs2 := HBD.out (k + 1)
      rw [hsn, ← HS.out] at hs2
      rw [← HS.out] at hsn
      have HSN := Lib.hid hsn
      obtain ⟨ya, yb, yc⟩ := y
      dsimp only at d1 d2 d3 hs2 HSN
      have hxi : (xn : Int) < t.words.length := hxb.2
      clear hx hy hsn hBr
      go_wp2
      go_quiet (fail)
      go_wp2
      go_roundw
      case rel => exact ⟨k + 1, _, by omega, by go_num, rfl, HSN.out.symm, below_drewN' HBr.out _⟩
      case measure => simp [intOf]; omega
    · obtain rfl : k = l.length := by omega
      clear hBr
      go_wp2
      go_ret
      exact ⟨ret_int (by rw [HT.out, HS.out]), join HB.out HBr.out⟩
end Go.Proofs.YtadnggecnjdhiaaGreat
set_option linter.unusedSimpArgs false
set_option linter.unusedVariables false
namespace Go.Proofs.YtadnggecnjdhiaaGreat
open Go.RowKit Tx
attribute [local go_sem] Oper.semAt_some

/-- a list and an error, to be read -/
def ReadPost (l : List Int) (er : Int) (w : World) (e : Ending) (w' : World) : Prop := ∃ p c, e = .returned (.tuple #[.slice p l.length c, .int .i64 er]) ∧ Ints w' p l ∧ Below w.heap.size w w'
theorem said_keeps (t : Text) (l : List Int) : t.keeps l = !decide (0 < (rsaid t l).length) := by
  unfold rsaid Text.keeps; rw [idx_any]
set_option maxHeartbeats 6000000 in
set_option maxRecDepth 100000 in
theorem rLeast_any (t : Text) (wt : Int) (hl1 : t.words.length ≤ 1000000) (hl2 : t.turns.length ≤ 1000000) (pw pt : Option Addr) (cw ct : Nat) (w : World) (hW : TxAt w t pw pt) :
    Calls Tryz.prog 66 #[.agg #[.slice pw t.words.length cw, .slice pt t.turns.length ct, .int .i64 t.breath], .int .i64 wt] w (ReadPost (leaL t wt) (leaE t wt) w) := by
  have HC := Lib.hid (fun W (h : Below w.heap.size w W) => rCheck_any t hl1 hl2 pw pt cw ct W (hW.below h))
  have HB := Lib.hid (below1 w (.cells #[.slice pw t.words.length cw, .slice pt t.turns.length ct, .int .i64 t.breath] 32))
  have HX := Lib.hid (heap_last w (.cells #[.slice pw t.words.length cw, .slice pt t.turns.length ct, .int .i64 t.breath] 32))
  have HW := Lib.hid hW
  clear hW
  by_cases he : t.err = 0
  · have ok := err_ok he
    have hn12 := ok.n12
    have hm6 := ok.m6
    rw [he] at HC
    by_cases hw : wt < 0
    · have e1 : leaL t wt = [] := by unfold leaL; rw [if_pos he, if_pos hw]
      have e2 : leaE t wt = 3 := by unfold leaE; rw [if_pos he, if_pos hw]
      rw [e1, e2]
      obtain ⟨k0, k1, k2⟩ := blk3 HX.out
      clear he e1 e2 ok
      go_enter Tryz.func66, Tryz.ntmps66
      go_wp2_with fail
      refine (HC.out _ HB.out).mono ?_
      rintro e w5 ⟨rfl, hB5⟩
      have HB5 := Lib.hid (join HB.out hB5)
      clear hB5
      go_wp2
      go_ret2
      exact ⟨none, 0, rfl, .inl rfl, HB5.out⟩
    · have e1 : leaL t wt = (t.least wt).1 := by unfold leaL; rw [if_pos he, if_neg hw]
      have e2 : leaE t wt = (t.least wt).2 := by unfold leaE; rw [if_pos he, if_neg hw]
      rw [e1, e2]
      have hw' : ¬ wt < 0 := hw
      have HBEST := Lib.hid (fun (b : List Int) (h : BestOf (t.leastP wt) (2 ^ t.len) b) => best_least h)
      have HP := Lib.hid (fun l => show t.leastP wt l = (decide (wt ≤ t.wtOf l) && !decide (0 < (rsaid t l).length)) by rw [← said_keeps]; rfl)
      have HOK := Lib.hid ok
      have hlen : t.len = t.words.length := rfl
      have hpow : 2 ^ t.words.length ≤ 4096 := by exact Nat.pow_le_pow_right (by omega) (show t.words.length ≤ 12 by omega)
      have HINC : Hid (∀ n, n < 2 ^ t.words.length → (bits 0 n).length ≤ 12 ∧ ∀ x ∈ bits 0 n, 0 ≤ x ∧ x < t.words.length) := Lib.hid (fun n hn => by
        have h := bits_incr t.words.length 0 n hn
        rw [Nat.zero_add] at h
        refine ⟨?_, fun x hx => by have := h.bd x hx; omega⟩
        rcases h.len with h | h
        · omega
        · rw [h]; simp)
      rw [hlen] at HBEST
      generalize t.least wt = le at HBEST ⊢
      have HLN := Lib.hid (fun W => listsN_any t (by omega) pw cw (.slice pt t.turns.length ct) (.int .i64 t.breath) W)
      have HSA := Lib.hid (fun (l : List Int) (hll : l.length ≤ 12) p c W (h : Below w.heap.size w W) hL => Said_any t (by omega) (fun u hu => by have := HOK.out.turn u hu; omega) l (by omega) pt p ct c (.slice pw t.words.length cw) (.int .i64 t.breath) W (HW.out.turns.below h) hL)
      have HWT := Lib.hid (fun (l : List Int) (hll : l.length ≤ 12) hx p c W (h : Below w.heap.size w W) hL => rWeight_any t HOK.out l (by omega) hx pw p cw c (.slice pt t.turns.length ct) (.int .i64 t.breath) W (HW.out.words.below h) hL)
      have hN0 : 0 < 2 ^ t.words.length := Nat.two_pow_pos _
      generalize hN : 2 ^ t.words.length = NN at HBEST HINC HLN hpow hN0
      obtain ⟨k0, k1, k2⟩ := blk3 HX.out
      clear he e1 e2 ok hw hlen hN
      go_enter Tryz.func66, Tryz.ntmps66
      go_wp2_with fail
      refine (HC.out _ HB.out).mono ?_
      rintro e w5 ⟨rfl, hB5⟩
      have HX := Lib.hid ((hB5.block w.heap.size (Array.getElem?_eq_some_iff.1 HX.out).1).trans HX.out)
      have HB := Lib.hid (join HB.out hB5)
      clear hB5 k0 k1 k2
      go_wp2_with fail
      go_loopw [7, 8, 9] (fun bv nv _ wr => ∃ (n : Nat) (b : List Int) (p : Option Addr) (c : Nat), bv = .slice p b.length c ∧ nv = .int .i64 n ∧ 1 ≤ n ∧ (n ≤ NN ∨ n = 1) ∧ BestOf (t.leastP wt) n b ∧ b.length ≤ 12 ∧ Ints wr p b ∧ Below w5.heap.size w5 wr) (fun _ nv _ _ => NN - (intOf nv).toNat)
      case atStart => exact ⟨1, [], none, 0, rfl, rfl, Nat.le_refl _, .inr rfl, BestOf.zero _, by simp, .inl rfl, Below.refl _ _⟩
      case round =>
        obtain ⟨wo, rfl⟩ : ∃ wo : World, wo = wr := ⟨_, rfl⟩
        obtain ⟨n, b, p, c, rfl, rfl, hn1, hnN, hbest, hbl, hIb, hBr⟩ := hrel
        have HBS := Lib.hid hbest
        have HIB := Lib.hid hIb
        have HBR := Lib.hid hBr
        have HXr := Lib.hid ((hBr.block w.heap.size (Array.getElem?_eq_some_iff.1 HX.out).1).trans HX.out)
        obtain ⟨k0, k1, k2⟩ := blk3 HXr.out
        clear hbest hIb hBr
        go_wp2_with fail
        refine (HLN.out _).mono ?_
        rintro e w6 ⟨rfl, hB⟩
        have HIB := Lib.hid (HIB.out.below hB)
        have HXr := Lib.hid ((hB.block w.heap.size (Array.getElem?_eq_some_iff.1 HXr.out).1).trans HXr.out)
        have HBR := Lib.hid (join HBR.out hB)
        clear hB k0 k1 k2
        by_cases hlt : n < NN
        · have hlt' : (n : Int) < (NN : Int) := by omega
          obtain ⟨hl12, hlx⟩ := HINC.out n hlt
          have HLX := Lib.hid hlx
          have HPN := Lib.hid (HP.out (bits 0 n))
          have HNE := Lib.hid (bits_ne (w := 0) (n := n) (by omega))
          clear hlx
          go_wp2_with fail
          refine (list_any n (by omega) _).mono ?_
          rintro e w7 ⟨v, rfl, ho, hB⟩
          obtain ⟨q, d, rfl, hIl, -⟩ := own_rd ho rfl
          have HSK := Lib.hid (fun h => HBS.out.skip (p := t.leastP wt) h)
          have HTK := Lib.hid (fun h1 h2 => HBS.out.take (p := t.leastP wt) hn1 h1 h2)
          have HKP := Lib.hid (fun h1 h2 => HBS.out.keep (p := t.leastP wt) h1 h2)
          obtain ⟨l, hl⟩ : ∃ l, l = bits 0 n := ⟨_, rfl⟩
          rw [← hl] at hIl hl12 HLX HPN HNE HSK HTK HKP ⊢
          have HIL := Lib.hid hIl
          have HIB := Lib.hid (HIB.out.below hB)
          have HXr := Lib.hid ((hB.block w.heap.size (Array.getElem?_eq_some_iff.1 HXr.out).1).trans HXr.out)
          have HBR := Lib.hid (join HBR.out hB)
          obtain ⟨k0, k1, k2⟩ := blk3 HXr.out
          clear hB ho hIl hl
          go_wp2_with fail
          refine (HSA.out l hl12 q d _ (join HB.out HBR.out) HIL.out).mono ?_
          rintro e w8 ⟨v, rfl, ho, hB⟩
          obtain ⟨sp, sc, rfl⟩ := own_val ho
          have HIL := Lib.hid (HIL.out.below hB)
          have HIB := Lib.hid (HIB.out.below hB)
          have HXr := Lib.hid ((hB.block w.heap.size (Array.getElem?_eq_some_iff.1 HXr.out).1).trans HXr.out)
          have HBR := Lib.hid (join HBR.out hB)
          clear hB ho k0 k1 k2
          obtain ⟨k0, k1, k2⟩ := blk3 HXr.out
          generalize (rsaid t l).length = sn at HPN ⊢
          by_cases hs : 0 < sn
          · have hs' : (0 : Int) < sn := by omega
            have HF := Lib.hid (HSK.out (by rw [HPN.out, decide_eq_true hs]; simp))
            clear hs
            go_wp2
            go_roundw
            case rel => exact ⟨n + 1, b, p, c, rfl, by go_num, by omega, by omega, HF.out, hbl, HIB.out, HBR.out⟩
            case measure => simp [intOf]; omega
          · obtain rfl : sn = 0 := by omega
            clear hs
            go_wp2_with fail
            refine (HWT.out l hl12 HLX.out q d _ (join HB.out HBR.out) HIL.out).mono ?_
            rintro e w9 ⟨rfl, hB⟩
            have HIL := Lib.hid (HIL.out.below hB)
            have HIB := Lib.hid (HIB.out.below hB)
            have HXr := Lib.hid ((hB.block w.heap.size (Array.getElem?_eq_some_iff.1 HXr.out).1).trans HXr.out)
            have HBR := Lib.hid (join HBR.out hB)
            clear hB k0 k1 k2
            generalize t.wtOf l = tw at HPN ⊢
            by_cases hw : tw < wt
            · have HF := Lib.hid (HSK.out (by rw [HPN.out, decide_eq_false (show ¬ wt ≤ tw by omega)]; rfl))
              go_wp2
              go_roundw
              case rel => exact ⟨n + 1, b, p, c, rfl, by go_num, by omega, by omega, HF.out, hbl, HIB.out, HBR.out⟩
              case measure => simp [intOf]; omega
            · have HPT : Hid (t.leastP wt l = true) := Lib.hid (by rw [HPN.out, decide_eq_true (show wt ≤ tw by omega)]; rfl)
              by_cases hb0 : b.length = 0
              · have hb0' : ((b.length : Int) == 0) = true := by rw [beq_iff_eq]; omega
                have HF := Lib.hid (HTK.out HPT.out (.inl (List.length_eq_zero_iff.1 hb0)))
                clear hb0
                go_wp2
                go_roundw
                case rel => exact ⟨n + 1, l, q, d, rfl, by go_num, by omega, by omega, HF.out, hl12, HIL.out, HBR.out⟩
                case measure => simp [intOf]; omega
              · have hb0' : ((b.length : Int) == 0) = false := by rw [beq_eq_false_iff_ne]; omega
                have HBN : Hid (b ≠ []) := Lib.hid (fun e => hb0 (by rw [e]; rfl))
                by_cases h1 : l.length < b.length
                · have h1' : (l.length : Int) < b.length := by omega
                  have HF := Lib.hid (HTK.out HPT.out (.inr (.inl h1)))
                  clear hb0
                  go_wp2
                  go_roundw
                  case rel => exact ⟨n + 1, l, q, d, rfl, by go_num, by omega, by omega, HF.out, hl12, HIL.out, HBR.out⟩
                  case measure => simp [intOf]; omega
                · have h1' : ¬ (l.length : Int) < b.length := by omega
                  by_cases h2 : l.length = b.length
                  · have h2' : ((l.length : Int) == (b.length : Int)) = true := by rw [beq_iff_eq]; omega
                    have HBF := Lib.hid (fun W hp hq => before_any2 l b h2 (by omega) q p d c W hp hq)
                    have HH2 := Lib.hid h2
                    clear hb0 h2
                    go_wp2_with fail
                    refine (HBF.out _ HIL.out HIB.out).mono ?_
                    rintro e w9 ⟨rfl, hB⟩
                    have HIL := Lib.hid (HIL.out.below hB)
                    have HIB := Lib.hid (HIB.out.below hB)
                    have HBR := Lib.hid (join HBR.out hB)
                    clear hB
                    cases hlx : lexB l b with
                    | true =>
                      have HF := Lib.hid (HTK.out HPT.out (.inr (.inr ⟨HH2.out, hlx⟩)))
                      clear hlx
                      go_wp2
                      go_roundw
                      case rel => exact ⟨n + 1, l, q, d, rfl, by go_num, by omega, by omega, HF.out, hl12, HIL.out, HBR.out⟩
                      case measure => simp [intOf]; omega
                    | false =>
                      have HF := Lib.hid (HKP.out HBN.out (fun h => by
                        rcases h with h | ⟨_, h⟩
                        · omega
                        · rw [hlx] at h; cases h))
                      clear hlx
                      go_wp2
                      go_roundw
                      case rel => exact ⟨n + 1, b, p, c, rfl, by go_num, by omega, by omega, HF.out, hbl, HIB.out, HBR.out⟩
                      case measure => simp [intOf]; omega
                  · have h2' : ((l.length : Int) == (b.length : Int)) = false := by rw [beq_eq_false_iff_ne]; omega
                    have HF := Lib.hid (HKP.out HBN.out (fun h => by
                      rcases h with h | ⟨h, _⟩
                      · omega
                      · omega))
                    clear hb0 h2
                    go_wp2
                    go_roundw
                    case rel => exact ⟨n + 1, b, p, c, rfl, by go_num, by omega, by omega, HF.out, hbl, HIB.out, HBR.out⟩
                    case measure => simp [intOf]; omega
        · obtain rfl : n = NN := by omega
          have HF := Lib.hid (HBEST.out b HBS.out)
          clear HBS
          by_cases hb0 : b.length = 0
          · have hb0' : ((b.length : Int) == 0) = true := by rw [beq_iff_eq]; omega
            have HF2 : Hid (le = ([], 6)) := Lib.hid (by rw [HF.out, if_pos (List.length_eq_zero_iff.1 hb0), List.length_eq_zero_iff.1 hb0])
            have hle := HF2.out
            clear HF HF2 hb0 HBEST
            subst hle
            go_wp2
            go_ret2
            exact ⟨none, 0, rfl, .inl rfl, join HB.out HBR.out⟩
          · have hb0' : ((b.length : Int) == 0) = false := by rw [beq_eq_false_iff_ne]; omega
            have HF2 : Hid (le = (b, 0)) := Lib.hid (by rw [HF.out, if_neg (fun e => hb0 (by rw [e]; rfl))])
            have hle := HF2.out
            clear HF HF2 hb0 HBEST
            subst hle
            go_wp2
            go_ret2
            exact ⟨p, c, rfl, HIB.out, join HB.out HBR.out⟩
  · have e1 : leaL t wt = [] := by unfold leaL; rw [if_neg he]
    have e2 : leaE t wt = t.err := by unfold leaE; rw [if_neg he]
    rw [e1, e2]
    have HE : (t.err != 0) = true := by simpa using he
    obtain ⟨k0, k1, k2⟩ := blk3 HX.out
    clear he e1 e2
    generalize t.err = er at HC HE ⊢
    go_enter Tryz.func66, Tryz.ntmps66
    go_wp2_with fail
    refine (HC.out _ HB.out).mono ?_
    rintro e w5 ⟨rfl, hB5⟩
    have HB5 := Lib.hid (join HB.out hB5)
    clear hB5
    go_wp2
    go_ret2
    exact ⟨none, 0, rfl, .inl rfl, HB5.out⟩
end Go.Proofs.YtadnggecnjdhiaaGreat
set_option linter.unusedSimpArgs false
set_option linter.unusedVariables false
namespace Go.Proofs.YtadnggecnjdhiaaGreat
open Go.RowKit Tx
attribute [local go_sem] Oper.semAt_some

/-- the words up to k, without one of them -/
def wo (k x : Nat) : List Int := ((List.range k).filter fun o => o ≠ x).map fun (o : Nat) => (o : Int)
theorem wo_succ (k x : Nat) : wo (k + 1) x = wo k x ++ (if k = x then [] else [(k : Int)]) := by
  unfold wo
  rw [List.range_succ, List.filter_append, List.map_append]
  by_cases h : k = x
  · simp [h]
  · simp [h]
theorem wo_len (k x : Nat) : (wo k x).length ≤ k := by
  unfold wo; rw [List.length_map]; exact Nat.le_trans (List.length_filter_le _ _) (by simp)
theorem wo_words (n x : Nat) (h : x < n) : wordsL 0 x ++ wordsL ((x : Int) + 1) (n - (x + 1)) = wo n x := by
  have a : ∀ k, k ≤ x → wo k x = wordsL 0 k := by
    intro k
    induction k with
    | zero => intro _; rfl
    | succ k ih => intro hk; rw [wo_succ, if_neg (by omega), ih (by omega), wordsL_succ]; simp
  have b : ∀ k, wo (x + 1 + k) x = wordsL 0 x ++ wordsL ((x : Int) + 1) k := by
    intro k
    induction k with
    | zero => rw [Nat.add_zero, wo_succ, if_pos rfl, a x (Nat.le_refl _)]; rfl
    | succ k ih => rw [show x + 1 + (k + 1) = x + 1 + k + 1 by omega, wo_succ, if_neg (by omega), ih, wordsL_succ, ← List.append_assoc]; congr 2
  have := b (n - (x + 1))
  rw [show x + 1 + (n - (x + 1)) = n by omega] at this
  exact this.symm
theorem wo_len2 (n x : Nat) (h : x < n) : (wo n x).length = n - 1 := by
  rw [← wo_words n x h, List.length_append, wordsL_length, wordsL_length]; omega
def spareP (t : Text) (x : Nat) : Bool := decide (0 < (wo t.words.length x).length) && t.keeps (wo t.words.length x)
/-- what Spare tells, of the words up to k -/
def spareTo (t : Text) (k : Nat) : List Int := ((List.range k).filter (spareP t)).map fun (o : Nat) => (o : Int)
theorem spareTo_succ (t : Text) (k : Nat) : spareTo t (k + 1) = spareTo t k ++ (if spareP t k then [(k : Int)] else []) := by
  unfold spareTo
  rw [List.range_succ, List.filter_append, List.map_append]
  cases h : spareP t k <;> simp [h]
theorem spareTo_len (t : Text) (k : Nat) : (spareTo t k).length ≤ k := by
  unfold spareTo; rw [List.length_map]; exact Nat.le_trans (List.length_filter_le _ _) (by simp)
def spaL (t : Text) : List Int := if t.err = 0 then spareTo t t.words.length else []
set_option maxHeartbeats 1000000 in
theorem without_any (n cw : Nat) (hn : n ≤ 1000) (x : Nat) (hx : x ≤ 1000) (pw : Option Addr) (v1 v2 v3 : Value) (w : World) :
    Calls Tryz.prog 140 #[.agg #[.slice pw n cw, v1, v2, v3], .int .i64 x] w (RowPost (wo n x) w) := by
  obtain ⟨i0, hi0, hz0, hz1, hz2⟩ := info_parts A_infoI
  have HB := Lib.hid (below1 w (.cells #[.slice pw n cw, v1, v2, v3] 84))
  go_enter Tryz.func140, Tryz.ntmps140
  go_wp2_with fail
  have hsz : (w.alloc (.cells #[.slice pw n cw, v1, v2, v3] 84)).heap.size = w.heap.size + 1 := by simp
  generalize w.alloc (.cells #[.slice pw n cw, v1, v2, v3] 84) = W1 at HB hsz ⊢
  have hsz1 : w.heap.size + 1 ≤ W1.heap.size := by omega
  clear hsz
  go_loopw [5, 6, 11] (fun v _ i wr => ∃ k : Nat, k ≤ n ∧ i = .int .i64 k ∧ wr.ownsRow W1.heap.size 3 1 v (wo k x).length ((wo k x).map (Value.int .i64)) ∧ Below W1.heap.size W1 wr) (fun _ _ i _ => n - (intOf i).toNat)
  case atStart => exact ⟨0, Nat.zero_le _, rfl, own_none _ _ _ _, Below.refl _ _⟩
  case round =>
    obtain ⟨k, hk, rfl, hown, hBr⟩ := hrel
    have HO := Lib.hid hown
    have HBr := Lib.hid hBr
    have hz7 := hBr.size
    have hwl := wo_len k x
    have HSN := Lib.hid (wo_succ k x)
    clear hown hBr
    by_cases hlt : k < n
    · have hlt' : (k : Int) < n := by omega
      by_cases hkx : k = x
      · have hkx' : ((k : Int) != (x : Int)) = false := by simp [hkx]
        have HKX := Lib.hid hkx
        clear hkx
        go_wp2
        go_roundw
        case rel => exact ⟨k + 1, by omega, by go_num, by rw [HSN.out, if_pos HKX.out, List.append_nil]; exact HO.out, HBr.out⟩
        case measure => simp [intOf]; omega
      · have hkx' : ((k : Int) != (x : Int)) = true := by rw [bne_iff_ne]; omega
        have HKX := Lib.hid hkx
        clear hkx
        go_wp2_with (at_builtin; refine wpList_append_own _ rfl _ _ 34 rfl W1.heap.size 3 i0 (.int .i64 0) 1 8 A_undI hi0 hz0 hz1 hz2 rfl (by decide) _ _ _ rfl (HO.out.alloc _) ⟨wr.heap.size, 0, none⟩ 1 1 [.int .i64 (k : Int)] rfl rfl ?d1 ?d2 ?d3 ?d4 ?d5 ?_)
        case d1 => exact cell_one_new _ _ _
        case d2 => first | rfl | (intro u hu; simp at hu; subst hu; rfl)
        case d3 => unfold maxLen; omega
        case d4 => omega
        case d5 => first | omega | (simp; omega)
        intro v' w8 hown8 hgrow _
        have hB8 := below_grown (al2 HBr.out (by omega) _) (HO.out.alloc _) (Nat.le_refl _) (by simp; omega) hgrow
        have HO8 := Lib.hid hown8
        have HB8 := Lib.hid hB8
        clear hgrow hown8 hB8
        go_wp2
        go_roundw
        case rel => exact ⟨k + 1, by omega, by go_num, by rw [HSN.out, if_neg HKX.out]; simpa using HO8.out, HB8.out⟩
        case measure => simp [intOf]; omega
    · obtain rfl : k = n := by omega
      clear HSN
      go_wp2
      go_ret
      exact ⟨_, rfl, own_base HO.out (by omega), join HB.out HBr.out⟩
set_option maxHeartbeats 2000000 in
set_option maxRecDepth 100000 in
theorem spare_any (t : Text) (ok : Text.Ok t) (pw pt : Option Addr) (cw ct : Nat) (mv : Value) (w : World) (hW : TxAt w t pw pt) :
    Calls Tryz.prog 118 #[.agg #[.slice pw t.words.length cw, .slice pt t.turns.length ct, .int .i64 t.breath, mv]] w (RowPost (spareTo t t.words.length) w) := by
  obtain ⟨i0, hi0, hz0, hz1, hz2⟩ := info_parts A_infoI
  have hn12 := ok.n12
  have HWO := Lib.hid (fun (x : Nat) (hx : x ≤ 1000) W => without_any t.words.length cw (by omega) x hx pw (.slice pt t.turns.length ct) (.int .i64 t.breath) mv W)
  have HKS := Lib.hid (fun (l : List Int) (hll : l.length ≤ 1000000) p c W (h : Below w.heap.size w W) hL => keepSense_any t ok l hll pt p ct c (.slice pw t.words.length cw) (.int .i64 t.breath) mv W (hW.turns.below h) hL)
  have HB := Lib.hid (below1 w (.cells #[.slice pw t.words.length cw, .slice pt t.turns.length ct, .int .i64 t.breath, mv] 84))
  have HX := Lib.hid (heap_last w (.cells #[.slice pw t.words.length cw, .slice pt t.turns.length ct, .int .i64 t.breath, mv] 84))
  have hsz : (w.alloc (.cells #[.slice pw t.words.length cw, .slice pt t.turns.length ct, .int .i64 t.breath, mv] 84)).heap.size = w.heap.size + 1 := by simp
  have k0 := blk_cells HX.out 0 _ rfl
  clear hW ok
  go_enter Tryz.func118, Tryz.ntmps118
  go_wp2_with fail
  generalize w.alloc (.cells #[.slice pw t.words.length cw, .slice pt t.turns.length ct, .int .i64 t.breath, mv] 84) = W1 at HB HX hsz k0 ⊢
  have hsz1 : w.heap.size + 1 ≤ W1.heap.size := by omega
  clear hsz
  go_loopw [3, 4, 5, 10] (fun v _ _ i wr => ∃ k : Nat, k ≤ t.words.length ∧ i = .int .i64 k ∧ wr.ownsRow W1.heap.size 3 1 v (spareTo t k).length ((spareTo t k).map (Value.int .i64)) ∧ Below W1.heap.size W1 wr) (fun _ _ _ i _ => t.words.length - (intOf i).toNat)
  case atStart => exact ⟨0, Nat.zero_le _, rfl, own_none _ _ _ _, Below.refl _ _⟩
  case round =>
    clear k0
    obtain ⟨w0, rfl⟩ : ∃ w0 : World, w0 = wr := ⟨_, rfl⟩
    obtain ⟨k, hk, rfl, hown, hBr⟩ := hrel
    have HO := Lib.hid hown
    have HBr := Lib.hid hBr
    have hz7 := hBr.size
    have hsl := spareTo_len t k
    have HSN := Lib.hid (spareTo_succ t k)
    have HXr := Lib.hid ((hBr.block w.heap.size (by omega)).trans HX.out)
    clear hown hBr
    by_cases hlt : k < t.words.length
    · have hlt' : (k : Int) < t.words.length := by omega
      have k0 := blk_cells HXr.out 0 _ rfl
      have k1 := blk_cells HXr.out 1 _ rfl
      have k2 := blk_cells HXr.out 2 _ rfl
      have k3 := blk_cells HXr.out 3 _ rfl
      go_wp2_with fail
      refine (HWO.out k (by omega) _).mono ?_
      rintro e w5 ⟨v5, rfl, ho, hB⟩
      have hol : (wo t.words.length k).length ≤ 1000000 := by have := wo_len t.words.length k; omega
      obtain ⟨q, d, rfl, hI, -⟩ := own_rd ho rfl
      have HI := Lib.hid hI
      have HPK := Lib.hid (show spareP t k = (decide (0 < (wo t.words.length k).length) && t.keeps (wo t.words.length k)) from rfl)
      have HXr := Lib.hid ((hB.block w.heap.size (Array.getElem?_eq_some_iff.1 HXr.out).1).trans HXr.out)
      have HO := Lib.hid (own_below HO.out hB)
      have HBr := Lib.hid (join HBr.out hB)
      have hz8 := HBr.out.size
      clear ho hI hB k0 k1 k2 k3 hz7
      have k0 := blk_cells HXr.out 0 _ rfl
      have k1 := blk_cells HXr.out 1 _ rfl
      have k2 := blk_cells HXr.out 2 _ rfl
      have k3 := blk_cells HXr.out 3 _ rfl
      generalize wo t.words.length k = l at hol HI HPK ⊢
      by_cases h0 : 0 < l.length
      · have h0' : (0 : Int) < l.length := by omega
        have HH0 := Lib.hid h0
        clear h0
        go_wp2_with fail
        refine (HKS.out l hol q d _ (join HB.out HBr.out) HI.out).mono ?_
        rintro e w6 ⟨rfl, hB⟩
        have HO := Lib.hid (own_below HO.out hB)
        have HBr := Lib.hid (join HBr.out hB)
        have hz9 := HBr.out.size
        clear hB k0 k1 k2 k3 hz8
        cases hkp : t.keeps l with
        | true =>
          have HF : Hid (spareP t k = true) := Lib.hid (by rw [HPK.out, hkp, decide_eq_true HH0.out]; rfl)
          clear hkp HPK
          go_wp2_with (at_builtin; refine wpList_append_own _ rfl _ _ 34 rfl W1.heap.size 3 i0 (.int .i64 0) 1 8 A_undI hi0 hz0 hz1 hz2 rfl (by decide) _ _ _ rfl (HO.out.alloc _) ⟨w6.heap.size, 0, none⟩ 1 1 [.int .i64 (k : Int)] rfl rfl ?d1 ?d2 ?d3 ?d4 ?d5 ?_)
          case d1 => exact cell_one_new _ _ _
          case d2 => first | rfl | (intro u hu; simp at hu; subst hu; rfl)
          case d3 => unfold maxLen; omega
          case d4 => omega
          case d5 => first | omega | (simp; omega)
          intro v' w8 hown8 hgrow _
          have hB8 := below_grown (al2 HBr.out (by omega) _) (HO.out.alloc _) (Nat.le_refl _) (by simp; omega) hgrow
          have HO8 := Lib.hid hown8
          have HB8 := Lib.hid hB8
          clear hgrow hown8 hB8
          go_wp2
          go_roundw
          case rel => exact ⟨k + 1, by omega, by go_num, by rw [HSN.out, if_pos HF.out]; simpa using HO8.out, HB8.out⟩
          case measure => simp [intOf]; omega
        | false =>
          have HF : Hid (spareP t k = false) := Lib.hid (by rw [HPK.out, hkp, Bool.and_false])
          clear hkp HPK
          go_wp2
          go_roundw
          case rel => exact ⟨k + 1, by omega, by go_num, by rw [HSN.out, HF.out]; simpa using HO.out, HBr.out⟩
          case measure => simp [intOf]; omega
      · have h0' : ¬ (0 : Int) < l.length := by omega
        have HF : Hid (spareP t k = false) := Lib.hid (by rw [HPK.out, decide_eq_false h0, Bool.false_and])
        clear h0 HPK
        go_wp2
        go_roundw
        case rel => exact ⟨k + 1, by omega, by go_num, by rw [HSN.out, HF.out]; simpa using HO.out, HBr.out⟩
        case measure => simp [intOf]; omega
    · obtain rfl : k = t.words.length := by omega
      clear HSN
      go_wp2
      go_ret
      exact ⟨_, rfl, own_base HO.out (by omega), join HB.out HBr.out⟩
set_option maxHeartbeats 2000000 in
theorem Spare_any (t : Text) (hl1 : t.words.length ≤ 1000000) (hl2 : t.turns.length ≤ 1000000) (pw pt : Option Addr) (cw ct : Nat) (w : World) (hW : TxAt w t pw pt) :
    Calls Tryz.prog 67 #[.agg #[.slice pw t.words.length cw, .slice pt t.turns.length ct, .int .i64 t.breath]] w (ListPost (spaL t) t.err w) := by
  by_cases he : t.err = 0
  · have HS := Lib.hid (fun W (h : Below w.heap.size w W) => open_ok t he pw pt cw ct W (hW.below h))
    have HP := Lib.hid (fun W mv (h : Below w.heap.size w W) => spare_any t (err_ok he) pw pt cw ct mv W (hW.below h))
    have e1 : spaL t = spareTo t t.words.length := by unfold spaL; rw [if_pos he]
    rw [e1, he]
    clear he hW e1
    go_enter Tryz.func67, Tryz.ntmps67
    go_wp2_with fail
    refine (HS.out _ (below1 _ _)).mono ?_
    rintro e w5 ⟨rfl, hB5⟩
    have HB5 := Lib.hid (join (below1 _ _) hB5)
    clear hB5
    go_wp2_with fail
    refine (HP.out _ _ (join HB5.out (below1 _ _))).mono ?_
    rintro e w6 ⟨v, rfl, ho, hB⟩
    have HO := Lib.hid (own_base ho (base' := w.heap.size) (by have := HB5.out.size; simp; omega))
    have HB6 := Lib.hid (join (join HB5.out (below1 _ _)) hB)
    clear hB ho
    go_wp2
    go_ret2
    exact ⟨_, rfl, HO.out, HB6.out⟩
  · have HS := Lib.hid (fun W (h : Below w.heap.size w W) => open_bad t he hl1 hl2 pw pt cw ct W (hW.below h))
    have e1 : spaL t = [] := by unfold spaL; rw [if_neg he]
    have HE : (t.err != 0) = true := by simpa using he
    rw [e1]
    clear he hW e1
    generalize t.err = er at HS HE ⊢
    go_enter Tryz.func67, Tryz.ntmps67
    go_wp2_with fail
    refine (HS.out _ (below1 _ _)).mono ?_
    rintro e w5 ⟨rfl, hB5⟩
    have HB5 := Lib.hid (join (below1 _ _) hB5)
    clear hB5
    go_wp2
    go_ret2
    exact ⟨_, rfl, own_none _ _ _ _, join HB5.out (below1 _ _)⟩
def spSp (pw : Option Addr) (cw A n x B : Nat) : Nat → List Value → Value → World → Prop
  | 0, _, v, _ => v = .int .i64 (x : Int)
  | 1, L, v, w => ∃ p c, v = .slice p (wordsL 0 x).length c ∧ w.ownsRow B 3 1 (.slice p (wordsL 0 x).length c) (wordsL 0 x).length ((wordsL 0 x).map (Value.int .i64)) ∧ (wordsL 0 x).length ≤ c
  | 2, _, v, _ => v = .int .i64 (x : Int)
  | 3, _, v, _ => v = .int .i64 ((x : Int) + 1)
  | 4, _, v, _ => v = .pointer (some ⟨A, 0, none⟩)
  | 5, _, v, _ => v = .slice pw n cw
  | 6, _, v, _ => v = .int .i64 (n : Int)
  | 7, L, v, w => ∃ p c, v = .slice p (wordsL ((x : Int) + 1) (n - (x + 1))).length c ∧ w.ownsRow B 3 1 (.slice p (wordsL ((x : Int) + 1) (n - (x + 1))).length c) (wordsL ((x : Int) + 1) (n - (x + 1))).length ((wordsL ((x : Int) + 1) (n - (x + 1))).map (Value.int .i64)) ∧ (wordsL ((x : Int) + 1) (n - (x + 1))).length ≤ c
  | _, _, _, _ => False
theorem spSp_stable (pw : Option Addr) (cw A n x B : Nat) : ∀ i L v w w', spSp pw cw A n x B i L v w → Rs.Gr w w' → spSp pw cw A n x B i L v w' := by
  intro i L v w w' h hg
  match i with
  | 0 => exact h
  | 1 => obtain ⟨p, c, h1, h2, h3⟩ := h; exact ⟨p, c, h1, own_below h2 hg, h3⟩
  | 2 => exact h
  | 3 => exact h
  | 4 => exact h
  | 5 => exact h
  | 6 => exact h
  | 7 => obtain ⟨p, c, h1, h2, h3⟩ := h; exact ⟨p, c, h1, own_below h2 hg, h3⟩

theorem app_none (p : Option Addr) (n c : Nat) (hnc : n ≤ c) (ty : TypeId) (W : World) : (Builtin.append_ #[34, 34] ty #[.slice p n c, .slice none 0 0]).run Tryz.prog W = .ok (.slice p n c) W := by
  obtain ⟨i0, hi0, hz0, hz1, hz2⟩ := info_parts A_infoI
  cases p <;> simp [Builtin.append_, run_underlying A_undI, sizeOf, typeInfo, hi0, Builtin.lenOf, Builtin.firstCells, hnc, storeCells]
theorem wpList_append_none {P : Program} {ops : Array Oper} {rest : List Oper} {o : Oper} {a : Act} {w : World} {Q : Exit → Act → World → Prop} (hgd : o.guard = none) (s x : Operand) (t : TypeId)
    (ho : o.op = .call { callee := .builtin .append, args := #[s, x], argTypes := #[t, t] }) (v : Value) (hs : a.eval s = v) (hx : a.eval x = .slice none 0 0)
    (hr : ∀ ty, (Builtin.append_ #[t, t] ty #[v, .slice none 0 0]).run P w = .ok v w) (h : wpList P ops Q rest (a.put o.dst v) w) : wpList P ops Q (o :: rest) a w :=
  wpList_plain hgd fun _ hK => by
    unfold Oper.wp execOp
    simp only [ho, resolve, invoke, builtin, Sem.run_bind, Sem.run_pure, Result.andThen_ok, List.map_toArray, List.map_cons, List.map_nil, hs, hx, hr]
    exact hK _ _ h
set_option maxHeartbeats 4000000 in
set_option maxRecDepth 100000 in
theorem rSpare_any (t : Text) (hl1 : t.words.length ≤ 1000000) (hl2 : t.turns.length ≤ 1000000) (pw pt : Option Addr) (cw ct : Nat) (w : World) (hW : TxAt w t pw pt) :
    Calls Tryz.prog 68 #[.agg #[.slice pw t.words.length cw, .slice pt t.turns.length ct, .int .i64 t.breath]] w (ListPost (spaL t) t.err w) := by
  obtain ⟨i0, hi0, hz0, hz1, hz2⟩ := info_parts A_infoI
  have HC := Lib.hid (fun W (h : Below w.heap.size w W) => rCheck_any t hl1 hl2 pw pt cw ct W (hW.below h))
  have HB := Lib.hid (below1 w (.cells #[.slice pw t.words.length cw, .slice pt t.turns.length ct, .int .i64 t.breath] 32))
  have HX := Lib.hid (heap_last w (.cells #[.slice pw t.words.length cw, .slice pt t.turns.length ct, .int .i64 t.breath] 32))
  have HW := Lib.hid hW
  clear hW
  by_cases he : t.err = 0
  · have ok := err_ok he
    have hn12 := ok.n12
    have hm6 := ok.m6
    have e1 : spaL t = spareTo t t.words.length := by unfold spaL; rw [if_pos he]
    rw [he] at HC
    rw [e1, he]
    have HSA := Lib.hid (fun (l : List Int) (hll : l.length ≤ 12) p c W (h : Below w.heap.size w W) hL => Said_any t (by omega) (fun u hu => by have := ok.turn u hu; omega) l (by omega) pt p ct c (.slice pw t.words.length cw) (.int .i64 t.breath) W (HW.out.turns.below h) hL)
    obtain ⟨k0, k1, k2⟩ := blk3 HX.out
    clear he e1 ok
    go_enter Tryz.func68, Tryz.ntmps68
    go_wp2_with fail
    refine (HC.out _ HB.out).mono ?_
    rintro e w5 ⟨rfl, hB5⟩
    have HX := Lib.hid ((hB5.block w.heap.size (Array.getElem?_eq_some_iff.1 HX.out).1).trans HX.out)
    have HB := Lib.hid (join HB.out hB5)
    have hz5 : w.heap.size < w5.heap.size := (Array.getElem?_eq_some_iff.1 HX.out).1
    clear hB5 k0 k1 k2
    go_wp2_with fail
    go_loopw [5, 6, 7] (fun v i _ wr => ∃ k : Nat, k ≤ t.words.length ∧ i = .int .i64 k ∧ wr.ownsRow w5.heap.size 3 1 v (spareTo t k).length ((spareTo t k).map (Value.int .i64)) ∧ Below w5.heap.size w5 wr ∧ (k = 0 ∨ 1 < t.words.length)) (fun _ i _ _ => t.words.length - (intOf i).toNat)
    case atStart => exact ⟨0, Nat.zero_le _, rfl, own_none _ _ _ _, Below.refl _ _, .inl rfl⟩
    case round =>
      obtain ⟨wo, rfl⟩ : ∃ w0 : World, w0 = wr := ⟨_, rfl⟩
      obtain ⟨k, hk, rfl, hown, hBr, hk1⟩ := hrel
      have HO := Lib.hid hown
      have HBr := Lib.hid hBr
      have hz7 := hBr.size
      have hsl := spareTo_len t k
      have HSN := Lib.hid (spareTo_succ t k)
      have HXr := Lib.hid ((hBr.block w.heap.size (by omega)).trans HX.out)
      obtain ⟨k0, k1, k2⟩ := blk3 HXr.out
      clear hown hBr
      by_cases hlt : k < t.words.length ∧ 1 < t.words.length
      · obtain ⟨hlt, h1⟩ := hlt
        have hlt' : (k : Int) < t.words.length := by omega
        have h1' : (1 : Int) < t.words.length := by omega
        have hsum : IntKind.i64.wrap ((k : Int) + 1) = (k : Int) + 1 := IntWalk.i64_in _ (by omega)
        have HW1 : Hid (∀ W, Calls Tryz.prog 98 #[.int .i64 0, .int .i64 (k : Int)] W (RowPost (wordsL 0 k) W)) := Lib.hid (fun W => by
          have := words_any 0 k (by omega) (by omega) W
          rwa [show ((k : Int) - 0).toNat = k by omega] at this)
        have HW2 : Hid (∀ W, Calls Tryz.prog 98 #[.int .i64 ((k : Int) + 1), .int .i64 (t.words.length : Int)] W (RowPost (wordsL ((k : Int) + 1) (t.words.length - (k + 1))) W)) := Lib.hid (fun W => by
          have := words_any ((k : Int) + 1) t.words.length (by omega) (by omega) W
          rwa [show ((t.words.length : Int) - ((k : Int) + 1)).toNat = t.words.length - (k + 1) by omega] at this)
        have HZ0 : w.heap.size < wo.heap.size := by omega
        have HPK : Hid (spareP t k = !decide (0 < (rsaid t (Go.Proofs.YtadnggecnjdhiaaGreat.wo t.words.length k)).length)) := Lib.hid (by
          unfold spareP; rw [wo_len2 _ _ hlt, decide_eq_true (by omega), Bool.true_and, said_keeps])
        have HWW := Lib.hid (wo_words t.words.length k hlt)
        have hln := wo_len2 t.words.length k hlt
        go_wp2_with fail
        refine Rs.region_gen 8 [[], [0], [], [2], [], [4], [4, 5], [0, 1, 2, 3, 4, 5, 6]] [some 26, some 27, some 28, some 29, some 30, some 31, some 32, some 33] (spSp pw cw w.heap.size t.words.length k wo.heap.size) (by kernel_rfl) (by kernel_rfl) rfl (spSp_stable _ _ _ _ _ _) ?_ ?_
        · refine ⟨fun V w' hG hs => ?_, fun V w' hG hs => ?_, fun V w' hG hs => ?_, fun V w' hG hs => ?_, fun V w' hG hs => ?_, fun V w' hG hs => ?_, fun V w' hG hs => ?_, fun V w' hG hs => ?_, trivial⟩
          all_goals
            obtain ⟨k0, k1, k2⟩ := blk3 ((hG.block w.heap.size HZ0).trans HXr.out)
          · rw [if_pos (by rfl)]
            exact Rs.GrowL.value (v := .int .i64 (k : Int)) (w' := w') (by simp [go_sem, Rs.look]) (Rs.Gr.refl _) rfl
          · have e0 : V 0 = .int .i64 (k : Int) := hs 0 (by simp)
            rw [if_pos (by rfl)]
            refine Rs.GrowL.call (f := 98) (args := #[.int .i64 0, .int .i64 (k : Int)]) (by simp [go_sem, Rs.look, e0]) ?_
            refine (HW1.out w').mono ?_
            rintro e w2 ⟨v, rfl, ho, hB2⟩
            obtain ⟨p, c, rfl, hI, -, -, hlc⟩ := own_rd ho rfl
            exact ⟨_, rfl, hB2, p, c, rfl, own_base ho hG.size, hlc⟩
          · rw [if_pos (by rfl)]
            exact Rs.GrowL.value (v := .int .i64 (k : Int)) (w' := w') (by simp [go_sem, Rs.look]) (Rs.Gr.refl _) rfl
          · have e2 : V 2 = .int .i64 (k : Int) := hs 2 (by simp)
            rw [if_pos (by rfl)]
            exact Rs.GrowL.value (v := .int .i64 ((k : Int) + 1)) (w' := w') (by simp [go_sem, Rs.look, e2, hsum]) (Rs.Gr.refl _) rfl
          · rw [if_pos (by rfl)]
            exact Rs.GrowL.value (v := .pointer (some ⟨w.heap.size, 0, none⟩)) (w' := w') (by simp [go_sem, Rs.look]) (Rs.Gr.refl _) rfl
          · have e4 : V 4 = .pointer (some ⟨w.heap.size, 0, none⟩) := hs 4 (by simp)
            rw [if_pos (by rfl)]
            exact Rs.GrowL.value (v := .slice pw t.words.length cw) (w' := w') (by simp [go_sem, Rs.look, e4, k0]) (Rs.Gr.refl _) rfl
          · have e4 : V 4 = .pointer (some ⟨w.heap.size, 0, none⟩) := hs 4 (by simp)
            have e5 : V 5 = .slice pw t.words.length cw := hs 5 (by simp)
            rw [if_pos (by rfl)]
            exact Rs.GrowL.value (v := .int .i64 (t.words.length : Int)) (w' := w') (by simp [go_sem, Rs.look, e4, e5]) (Rs.Gr.refl _) rfl
          · have e0 : V 0 = .int .i64 (k : Int) := hs 0 (by simp)
            have r1 := hs 1 (by simp)
            have e2 : V 2 = .int .i64 (k : Int) := hs 2 (by simp)
            have e3 : V 3 = .int .i64 ((k : Int) + 1) := hs 3 (by simp)
            have e4 : V 4 = .pointer (some ⟨w.heap.size, 0, none⟩) := hs 4 (by simp)
            have e5 : V 5 = .slice pw t.words.length cw := hs 5 (by simp)
            have e6 : V 6 = .int .i64 (t.words.length : Int) := hs 6 (by simp)
            rw [if_pos (by rfl)]
            refine Rs.GrowL.call (f := 98) (args := #[.int .i64 ((k : Int) + 1), .int .i64 (t.words.length : Int)]) (by simp [go_sem, Rs.look, e3, e6]) ?_
            refine (HW2.out w').mono ?_
            rintro e w2 ⟨v, rfl, ho, hB2⟩
            obtain ⟨p, c, rfl, hI, -, -, hlc⟩ := own_rd ho rfl
            exact ⟨_, rfl, hB2, p, c, rfl, own_base ho hG.size, hlc⟩
        · intro V w' hG hs
          have e0 : V 0 = .int .i64 (k : Int) := hs 0 (by omega)
          have r1 := hs 1 (by omega)
          have e2 : V 2 = .int .i64 (k : Int) := hs 2 (by omega)
          have e3 : V 3 = .int .i64 ((k : Int) + 1) := hs 3 (by omega)
          have e4 : V 4 = .pointer (some ⟨w.heap.size, 0, none⟩) := hs 4 (by omega)
          have e5 : V 5 = .slice pw t.words.length cw := hs 5 (by omega)
          have e6 : V 6 = .int .i64 (t.words.length : Int) := hs 6 (by omega)
          have r7 := hs 7 (by omega)
          obtain ⟨pa, ca, e1, oa, hca⟩ := r1
          obtain ⟨pb, cb, e7, ob, hcb⟩ := r7
          simp only [Rs.canon, Rs.dstOf, List.range_succ, List.range_zero, List.nil_append, List.cons_append, List.foldl_cons, List.foldl_nil, List.drop_succ_cons, List.drop_zero, List.drop_nil, List.getElem?_toArray, List.getElem?_cons_succ, List.getElem?_cons_zero, Option.bind_some, Act.put, List.getD_cons_succ, List.getD_cons_zero, List.setIfInBounds_toArray, List.set_cons_succ, List.set_cons_zero]
          rw [e0, e2, e3, e4, e5, e6, e1, e7]
          clear e0 e2 e3 e4 e5 e6 e1 e7 hs
          have hzG := hG.size
          have hal : (wordsL (0 : Int) k).length = k := wordsL_length _ _
          have hbl : (wordsL ((k : Int) + 1) (t.words.length - (k + 1))).length = t.words.length - (k + 1) := wordsL_length _ _
          have HAL := Lib.hid hal
          have HBL := Lib.hid hbl
          clear hal hbl k0 k1 k2
          rcases ob.2 with ⟨hv, hn0⟩ | ⟨g, cap, cur, hv, hgb, hgc, hrest⟩
          · rw [hv]
            have happ := fun ty W => app_none pa (wordsL (0 : Int) k).length ca hca ty W
            have hLA : Go.Proofs.YtadnggecnjdhiaaGreat.wo t.words.length k = wordsL (0 : Int) k := by rw [← HWW.out, List.length_eq_zero_iff.1 hn0, List.append_nil]
            rw [hLA] at HPK
            obtain ⟨p', c', e', hIL, -⟩ := own_rd oa rfl
            injection e' with e' _ e''; subst e'; subst e''
            have HG9 := Lib.hid hG
            clear oa ob hv hn0 hLA hca hcb hG HWW
            have hl12 : (wordsL (0 : Int) k).length ≤ 12 := by have := HAL.out; omega
            have HIL := Lib.hid hIL
            have HO := Lib.hid (own_below HO.out HG9.out)
            have HXr := Lib.hid ((HG9.out.block w.heap.size (by omega)).trans HXr.out)
            have HBr := Lib.hid (join HBr.out HG9.out)
            obtain ⟨k0, k1, k2⟩ := blk3 HXr.out
            clear hIL HG9
            generalize (wordsL (0 : Int) k) = l at HIL HPK hl12 happ ⊢
            go_wp2_with (at_builtin; refine wpList_append_none rfl _ _ 34 rfl _ rfl rfl (fun ty => happ ty _) ?_)
            refine (HSA.out l hl12 _ _ _ (join HB.out HBr.out) HIL.out).mono ?_
            rintro e w8 ⟨v8, rfl, ho, hB⟩
            obtain ⟨sp, sc, rfl⟩ := own_val ho
            have HO := Lib.hid (own_below HO.out hB)
            have HBr := Lib.hid (join HBr.out hB)
            have hz8 := HBr.out.size
            clear hB ho k0 k1 k2
            generalize (rsaid t l).length = sn at HPK ⊢
            by_cases hs : sn = 0
            · subst hs
              have HF : Hid (spareP t k = true) := Lib.hid (by rw [HPK.out]; rfl)
              clear HPK
              go_wp2_with (at_builtin; refine wpList_append_own _ rfl _ _ 34 rfl w5.heap.size 3 i0 (.int .i64 0) 1 8 A_undI hi0 hz0 hz1 hz2 rfl (by decide) _ _ _ rfl (HO.out.alloc _) ⟨w8.heap.size, 0, none⟩ 1 1 [.int .i64 (k : Int)] rfl rfl ?f1 ?f2 ?f3 ?f4 ?f5 ?_)
              case f1 => exact cell_one_new _ _ _
              case f2 => first | rfl | (intro u hu; simp at hu; subst hu; rfl)
              case f3 => unfold maxLen; omega
              case f4 => omega
              case f5 => first | omega | (simp; omega)
              intro v' w9 hown8 hgrow _
              have hB8 := below_grown (al2 HBr.out (by omega) _) (HO.out.alloc _) (Nat.le_refl _) (by simp; omega) hgrow
              have HO8 := Lib.hid hown8
              have HB8 := Lib.hid hB8
              clear hgrow hown8 hB8
              go_wp2
              go_roundw
              case rel => exact ⟨k + 1, by omega, by go_num, by rw [HSN.out, if_pos HF.out]; simpa using HO8.out, HB8.out, .inr h1⟩
              case measure => simp [intOf]; omega
            · have hs' : ((sn : Int) == 0) = false := by rw [beq_eq_false_iff_ne]; omega
              have HF : Hid (spareP t k = false) := Lib.hid (by rw [HPK.out, decide_eq_true (by omega)]; rfl)
              clear HPK hs
              go_wp2
              go_roundw
              case rel => exact ⟨k + 1, by omega, by go_num, by rw [HSN.out, HF.out]; simpa using HO.out, HBr.out, .inr h1⟩
              case measure => simp [intOf]; omega
          · have hob := own_rd ob rfl
            obtain ⟨p', c', e', hIB, -⟩ := hob
            injection e' with e' _ e''; subst e'; subst e''
            injection hv with hv1 hv2 hv3
            subst hv1
            have hnews : ∀ j u, ((wordsL ((k : Int) + 1) (t.words.length - (k + 1))).map (Value.int .i64))[j]? = some u → w'.cell? ((⟨g, 0, none⟩ : Addr).add j) = some u := fun j u hj => ob.cells (g := g) rfl j u hj
            have HOA := Lib.hid oa
            have HG0 := Lib.hid hG
            have HNW := Lib.hid hnews
            clear oa ob hrest hgc hIB hca hcb hG hnews hv3
            go_wp2_with (at_builtin; refine wpList_append_own _ rfl _ _ 34 rfl wo.heap.size 3 i0 (.int .i64 0) 1 8 A_undI hi0 hz0 hz1 hz2 rfl (by decide) _ _ _ rfl HOA.out ⟨g, 0, none⟩ (wordsL ((k : Int) + 1) (t.words.length - (k + 1))).length _ ((wordsL ((k : Int) + 1) (t.words.length - (k + 1))).map (Value.int .i64)) rfl (by rw [List.length_map, Nat.mul_one]) HNW.out ?g2 ?g3 ?g4 ?g5 ?_)
            case g2 => intro u hu; obtain ⟨x, _, rfl⟩ := List.mem_map.1 hu; rfl
            case g3 => have := HAL.out; have := HBL.out; unfold maxLen; omega
            case g4 => have := HAL.out; have := HBL.out; omega
            try (case g5 => omega)
            intro v9 w9 hown9 hgrow9 _
            have HG9 := Lib.hid (below_grown HG0.out HOA.out (Nat.le_refl _) (by omega) hgrow9)
            rw [← List.map_append] at hown9
            obtain ⟨q9, d9, rfl, hIL, -⟩ := own_rd hown9 (by rw [List.length_append])
            rw [← HWW.out] at HPK
            clear hown9 hgrow9 HOA HG0 HNW
            have hl12 : (wordsL (0 : Int) k ++ wordsL ((k : Int) + 1) (t.words.length - (k + 1))).length ≤ 12 := by rw [List.length_append]; have := HAL.out; have := HBL.out; omega
            have HIL := Lib.hid hIL
            have HO := Lib.hid (own_below HO.out HG9.out)
            have HXr := Lib.hid ((HG9.out.block w.heap.size (by omega)).trans HXr.out)
            have HBr := Lib.hid (join HBr.out HG9.out)
            obtain ⟨k0, k1, k2⟩ := blk3 HXr.out
            clear hIL HG9
            generalize (wordsL (0 : Int) k ++ wordsL ((k : Int) + 1) (t.words.length - (k + 1))) = l at HIL HPK hl12 ⊢
            go_wp2_with fail
            refine (HSA.out l hl12 _ _ _ (join HB.out HBr.out) HIL.out).mono ?_
            rintro e w8 ⟨v8, rfl, ho, hB⟩
            obtain ⟨sp, sc, rfl⟩ := own_val ho
            have HO := Lib.hid (own_below HO.out hB)
            have HBr := Lib.hid (join HBr.out hB)
            have hz8 := HBr.out.size
            clear hB ho k0 k1 k2
            generalize (rsaid t l).length = sn at HPK ⊢
            by_cases hs : sn = 0
            · subst hs
              have HF : Hid (spareP t k = true) := Lib.hid (by rw [HPK.out]; rfl)
              clear HPK
              go_wp2_with (at_builtin; refine wpList_append_own _ rfl _ _ 34 rfl w5.heap.size 3 i0 (.int .i64 0) 1 8 A_undI hi0 hz0 hz1 hz2 rfl (by decide) _ _ _ rfl (HO.out.alloc _) ⟨w8.heap.size, 0, none⟩ 1 1 [.int .i64 (k : Int)] rfl rfl ?h1 ?h2 ?h3 ?h4 ?h5 ?_)
              case h1 => exact cell_one_new _ _ _
              case h2 => first | rfl | (intro u hu; simp at hu; subst hu; rfl)
              case h3 => unfold maxLen; omega
              case h4 => omega
              case h5 => first | omega | (simp; omega)
              intro v' wz hown8 hgrow _
              have hB8 := below_grown (al2 HBr.out (by omega) _) (HO.out.alloc _) (Nat.le_refl _) (by simp; omega) hgrow
              have HO8 := Lib.hid hown8
              have HB8 := Lib.hid hB8
              clear hgrow hown8 hB8
              go_wp2
              go_roundw
              case rel => exact ⟨k + 1, by omega, by go_num, by rw [HSN.out, if_pos HF.out]; simpa using HO8.out, HB8.out, .inr h1⟩
              case measure => simp [intOf]; omega
            · have hs' : ((sn : Int) == 0) = false := by rw [beq_eq_false_iff_ne]; omega
              have HF : Hid (spareP t k = false) := Lib.hid (by rw [HPK.out, decide_eq_true (by omega)]; rfl)
              clear HPK hs
              go_wp2
              go_roundw
              case rel => exact ⟨k + 1, by omega, by go_num, by rw [HSN.out, HF.out]; simpa using HO.out, HBr.out, .inr h1⟩
              case measure => simp [intOf]; omega
      · by_cases hkn : k < t.words.length
        · have hkn' : (k : Int) < t.words.length := by omega
          have h1' : ¬ (1 : Int) < t.words.length := by omega
          have HF : Hid (spareTo t t.words.length = spareTo t k) := Lib.hid (by
            rw [show t.words.length = k + 1 by omega, spareTo_succ]
            have : spareP t k = false := by unfold spareP; rw [wo_len2 _ _ hkn, decide_eq_false (by omega), Bool.false_and]
            rw [this]; simp)
          clear HSN hlt
          go_wp2
          go_ret2
          refine ⟨_, rfl, ?_, join HB.out HBr.out⟩
          rw [HF.out]
          exact own_base HO.out (by omega)
        · obtain rfl : k = t.words.length := by omega
          clear HSN hlt
          go_wp2
          go_ret2
          exact ⟨_, rfl, own_base HO.out (by omega), join HB.out HBr.out⟩
  · have e1 : spaL t = [] := by unfold spaL; rw [if_neg he]
    have HE : (t.err != 0) = true := by simpa using he
    obtain ⟨k0, k1, k2⟩ := blk3 HX.out
    rw [e1]
    clear he e1
    generalize t.err = er at HC HE ⊢
    go_enter Tryz.func68, Tryz.ntmps68
    go_wp2_with fail
    refine (HC.out _ HB.out).mono ?_
    rintro e w5 ⟨rfl, hB5⟩
    have HB5 := Lib.hid (join HB.out hB5)
    clear hB5
    go_wp2
    go_ret2
    exact ⟨_, rfl, own_none _ _ _ _, HB5.out⟩
end Go.Proofs.YtadnggecnjdhiaaGreat
