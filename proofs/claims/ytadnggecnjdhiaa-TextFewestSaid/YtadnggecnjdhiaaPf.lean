/- oyezlaw02.TextFewest: a right reading with the fewest breaths, how many right readings there are, and the places at which none breaks are as specified, for any text. No condition. -/
import Derived.Test.YtadnggecnjdhiaaMh
namespace Go.Proofs.Ytadnggecnjdhiaa
open Tx
set_option linter.unusedSimpArgs false
set_option linter.unusedVariables false

theorem even_odd (n : Nat) : ∃ k, n = 2 * k ∨ n = 2 * k + 1 := ⟨n / 2, by omega⟩
/-- strictly increasing, from lo up to less than hi -/
def Incr : Int → Int → List Int → Prop
  | _, _, [] => True
  | lo, hi, x :: l => lo ≤ x ∧ x < hi ∧ Incr (x + 1) hi l
theorem Incr.low {lo lo' hi : Int} (h : lo' ≤ lo) : ∀ {l : List Int}, Incr lo hi l → Incr lo' hi l
  | [], _ => trivial
  | _ :: _, ⟨h1, h2, h3⟩ => ⟨by omega, h2, h3⟩
theorem Incr.bd {hi : Int} : ∀ {lo : Int} {l : List Int}, Incr lo hi l → ∀ x ∈ l, lo ≤ x ∧ x < hi
  | _, [], _, x, hx => by simp at hx
  | lo, y :: l, ⟨h1, h2, h3⟩, x, hx => by
    rcases List.mem_cons.1 hx with rfl | hx
    · exact ⟨h1, h2⟩
    · have := Incr.bd h3 x hx; omega
theorem Incr.len {hi : Int} : ∀ {lo : Int} {l : List Int}, Incr lo hi l → (l.length : Int) ≤ hi - lo ∨ l = []
  | _, [], _ => .inr rfl
  | lo, y :: l, ⟨h1, h2, h3⟩ => by
    left
    rcases Incr.len h3 with h | rfl
    · simp only [List.length_cons]; omega
    · simp; omega
/-- the words that a number says, from the word w on -/
def bits (w n : Nat) : List Int := if h : n = 0 then [] else (if n % 2 = 1 then [(w : Int)] else []) ++ bits (w + 1) (n / 2)
termination_by n
decreasing_by omega
theorem bits_zero (w : Nat) : bits w 0 = [] := by rw [bits]; simp
theorem bits_step (w n : Nat) (h : n ≠ 0) : bits w n = (if n % 2 = 1 then [(w : Int)] else []) ++ bits (w + 1) (n / 2) := by rw [bits]; simp [h]
theorem bits_odd (w n : Nat) : bits w (2 * n + 1) = (w : Int) :: bits (w + 1) n := by
  rw [bits_step _ _ (by omega), if_pos (by omega), show (2 * n + 1) / 2 = n by omega]; rfl
theorem bits_even (w n : Nat) : bits w (2 * n) = bits (w + 1) n := by
  rcases Nat.eq_zero_or_pos n with rfl | h
  · rw [Nat.mul_zero, bits_zero, bits_zero]
  · rw [bits_step _ _ (by omega), if_neg (by omega), show (2 * n) / 2 = n by omega]; rfl
theorem bits_incr : ∀ (N w n : Nat), n < 2 ^ N → Incr w (w + N : Nat) (bits w n)
  | 0, w, n, h => by
    have : n = 0 := by simp at h; exact h
    subst this; rw [bits_zero]; trivial
  | N + 1, w, n, h => by
    rw [Nat.pow_succ] at h
    have ih := bits_incr N (w + 1) (n / 2) (by omega)
    rw [show w + 1 + N = w + (N + 1) by omega] at ih
    rcases even_odd n with ⟨k, rfl | rfl⟩
    · rw [bits_even]; rw [show 2 * k / 2 = k by omega] at ih
      exact ih.low (by omega)
    · rw [bits_odd]; rw [show (2 * k + 1) / 2 = k by omega] at ih
      exact ⟨by omega, by push_cast; omega, by rwa [show ((w : Int) + 1) = ((w + 1 : Nat) : Int) by omega]⟩
theorem bits_all : ∀ (N w : Nat) (l : List Int), Incr w (w + N : Nat) l → ∃ n, n < 2 ^ N ∧ bits w n = l
  | 0, w, l, h => by
    cases l with
    | nil => exact ⟨0, by simp, bits_zero _⟩
    | cons x l => obtain ⟨h1, h2, _⟩ := h; simp at h2; omega
  | N + 1, w, l, h => by
    rw [show w + (N + 1) = w + 1 + N by omega] at h
    cases l with
    | nil => exact ⟨0, by rw [Nat.pow_succ]; have := Nat.two_pow_pos N; omega, bits_zero _⟩
    | cons x l =>
      obtain ⟨h1, h2, h3⟩ := h
      by_cases hx : x = (w : Int)
      · subst hx
        obtain ⟨n, hn, e⟩ := bits_all N (w + 1) l (by rwa [show ((w + 1 : Nat) : Int) = (w : Int) + 1 by omega])
        exact ⟨2 * n + 1, by rw [Nat.pow_succ]; omega, by rw [bits_odd, e]⟩
      · obtain ⟨n, hn, e⟩ := bits_all N (w + 1) (x :: l) ⟨by omega, h2, h3⟩
        exact ⟨2 * n, by rw [Nat.pow_succ]; omega, by rw [bits_even, e]⟩
theorem bits_ne {w n : Nat} (h : n ≠ 0) : bits w n ≠ [] := by
  induction n using Nat.strongRecOn generalizing w with
  | _ n ih =>
    rcases even_odd n with ⟨k, rfl | rfl⟩
    · rw [bits_even]; exact ih k (by omega) (by omega)
    · rw [bits_odd]; simp
theorem lists_mem (N : Nat) : ∀ (k a : Nat) (l : List Int), l ∈ Tx.lists N k a ↔ l.length = k ∧ Incr a N l
  | 0, a, l => by
    simp only [Tx.lists, List.mem_singleton]
    constructor
    · rintro rfl; exact ⟨rfl, trivial⟩
    · rintro ⟨h, _⟩; exact List.length_eq_zero_iff.1 h
  | k + 1, a, l => by
    simp only [Tx.lists, List.mem_flatMap, List.mem_range'_1, List.mem_map]
    constructor
    · rintro ⟨x, hx, m, hm, rfl⟩
      obtain ⟨h1, h2⟩ := (lists_mem N k (x + 1) m).1 hm
      exact ⟨by simp [h1], by omega, by omega, by rwa [show ((x : Int) + 1) = ((x + 1 : Nat) : Int) by omega]⟩
    · rintro ⟨hl, h⟩
      cases l with
      | nil => simp at hl
      | cons y m =>
        obtain ⟨h1, h2, h3⟩ := h
        refine ⟨y.toNat, by omega, m, (lists_mem N k (y.toNat + 1) m).2 ⟨by simpa using hl, ?_⟩, ?_⟩
        · rwa [show ((y.toNat + 1 : Nat) : Int) = y + 1 by omega]
        · rw [show ((y.toNat : Nat) : Int) = y by omega]
/-- a list comes before another one of as many numbers -/
def lexB : List Int → List Int → Bool
  | x :: a, y :: b => if x ≠ y then decide (x < y) else lexB a b
  | _, _ => false
theorem lexB_irr : ∀ a : List Int, lexB a a = false
  | [] => rfl
  | x :: a => by rw [lexB, if_neg (by simp)]; exact lexB_irr a
theorem lexB_trans : ∀ {a b c : List Int}, a.length = b.length → b.length = c.length → lexB a b = true → lexB b c = true → lexB a c = true
  | [], b, c, _, _, h, _ => by simp [lexB] at h
  | x :: a, [], c, _, _, h, _ => by simp [lexB] at h
  | x :: a, y :: b, [], _, _, _, h => by simp [lexB] at h
  | x :: a, y :: b, z :: c, e1, e2, h1, h2 => by
    rw [lexB] at h1 h2 ⊢
    by_cases hxy : x = y
    · subst hxy
      rw [if_neg (by simp)] at h1
      by_cases hyz : x = z
      · subst hyz
        rw [if_neg (by simp)] at h2 ⊢
        exact lexB_trans (by simpa using e1) (by simpa using e2) h1 h2
      · rw [if_pos hyz] at h2 ⊢; exact h2
    · rw [if_pos hxy] at h1
      have h1' := of_decide_eq_true h1
      by_cases hyz : y = z
      · subst hyz; rw [if_pos hxy]; exact h1
      · rw [if_pos hyz] at h2
        have h2' := of_decide_eq_true h2
        rw [if_pos (by omega)]; exact decide_eq_true (by omega)
theorem lexB_total : ∀ {a b : List Int}, a.length = b.length → a = b ∨ lexB a b = true ∨ lexB b a = true
  | [], [], _ => .inl rfl
  | [], _ :: _, h => by simp at h
  | _ :: _, [], h => by simp at h
  | x :: a, y :: b, h => by
    by_cases hxy : x = y
    · subst hxy
      rcases lexB_total (a := a) (b := b) (by simpa using h) with rfl | h | h
      · exact .inl rfl
      · right; left; rw [lexB, if_neg (by simp)]; exact h
      · right; right; rw [lexB, if_neg (by simp)]; exact h
    · right
      rw [lexB, lexB, if_pos hxy, if_pos (Ne.symm hxy)]
      simp only [decide_eq_true_eq]; omega
theorem lists_sorted (N : Nat) : ∀ (k a : Nat), (Tx.lists N k a).Pairwise fun l m => lexB l m = true
  | 0, a => by simp [Tx.lists]
  | k + 1, a => by
    simp only [Tx.lists]
    rw [List.pairwise_flatMap]
    refine ⟨fun x hx => ?_, ?_⟩
    · rw [List.pairwise_map]
      refine (lists_sorted N k (x + 1)).imp fun h => ?_
      rw [lexB, if_neg (by simp)]; exact h
    · have : (List.range' a (N - a)).Pairwise (· < ·) := List.pairwise_lt_range'
      refine this.imp fun {x y} hxy l hl m hm => ?_
      obtain ⟨l', _, rfl⟩ := List.mem_map.1 hl
      obtain ⟨m', _, rfl⟩ := List.mem_map.1 hm
      rw [lexB, if_pos (by omega)]; exact decide_eq_true (by omega)
/-- a list is better than another one -/
def better (a b : List Int) : Prop := a.length < b.length ∨ (a.length = b.length ∧ lexB a b = true)
theorem better_trans {a b c : List Int} (h1 : better a b) (h2 : better b c) : better a c := by
  rcases h1 with h1 | ⟨h1, h1'⟩ <;> rcases h2 with h2 | ⟨h2, h2'⟩
  · exact .inl (by omega)
  · exact .inl (by omega)
  · exact .inl (by omega)
  · exact .inr ⟨by omega, lexB_trans h1 h2 h1' h2'⟩
theorem better_irr {a : List Int} (h : better a a) : False := by
  rcases h with h | ⟨_, h⟩
  · omega
  · rw [lexB_irr] at h; cases h
theorem better_total {a b : List Int} (h : ¬ better a b) : a = b ∨ better b a := by
  by_cases hl : a.length = b.length
  · rcases lexB_total hl with e | e | e
    · exact .inl e
    · exact absurd (.inr ⟨hl, e⟩) h
    · exact .inr (.inr ⟨hl.symm, e⟩)
  · have : ¬ a.length < b.length := fun e => h (.inl e)
    exact .inr (.inl (by omega))
theorem find_first {p : List Int → Bool} : ∀ {L : List (List Int)} {l : List Int}, L.Pairwise (fun l m => lexB l m = true) → L.find? p = some l → l ∈ L ∧ p l = true ∧ ∀ m ∈ L, p m = true → m = l ∨ lexB l m = true
  | [], _, _, h => by simp at h
  | x :: L, l, hs, h => by
    rw [List.pairwise_cons] at hs
    by_cases hp : p x = true
    · rw [List.find?_cons_of_pos hp] at h
      injection h with h; subst h
      exact ⟨List.mem_cons_self .., hp, fun m hm _ => by
        rcases List.mem_cons.1 hm with rfl | hm
        · exact .inl rfl
        · exact .inr (hs.1 m hm)⟩
    · rw [List.find?_cons_of_neg hp] at h
      obtain ⟨h1, h2, h3⟩ := find_first hs.2 h
      exact ⟨List.mem_cons_of_mem _ h1, h2, fun m hm hpm => by
        rcases List.mem_cons.1 hm with rfl | hm
        · exact absurd hpm hp
        · exact h3 m hm hpm⟩
/-- what least tells -/
theorem leastGo_spec (t : Text) (wt : Int) : ∀ (ks : List Nat), ks.Pairwise (· < ·) → (∀ l, t.leastGo wt ks = some l → (l.length ∈ ks ∧ Incr 0 t.len l ∧ t.leastP wt l = true ∧ ∀ m, m.length ∈ ks → Incr 0 t.len m → t.leastP wt m = true → m = l ∨ better l m)) ∧
    (t.leastGo wt ks = none → ∀ m, m.length ∈ ks → Incr 0 t.len m → t.leastP wt m = false)
  | [], _ => ⟨fun l h => by simp [Text.leastGo] at h, fun _ m hm => by simp at hm⟩
  | k :: ks, hs => by
    rw [List.pairwise_cons] at hs
    obtain ⟨ih1, ih2⟩ := leastGo_spec t wt ks hs.2
    rw [Text.leastGo]
    cases hf : (Tx.lists t.len k 0).find? (t.leastP wt) with
    | some l0 =>
      obtain ⟨h1, h2, h3⟩ := find_first (lists_sorted _ _ _) hf
      obtain ⟨g1, g2⟩ := (lists_mem _ _ _ _).1 h1
      refine ⟨fun l h => ?_, fun h => by simp at h⟩
      simp only [Option.some.injEq] at h
      subst h
      refine ⟨by rw [g1]; exact List.mem_cons_self .., g2, h2, fun m hm hi hp => ?_⟩
      rcases List.mem_cons.1 hm with hm | hm
      · rcases h3 m ((lists_mem _ _ _ _).2 ⟨hm, hi⟩) hp with e | e
        · exact .inl e
        · exact .inr (.inr ⟨by omega, e⟩)
      · exact .inr (.inl (by rw [g1]; exact hs.1 _ hm))
    | none =>
      have hno : ∀ m, m.length = k → Incr 0 t.len m → t.leastP wt m = false := fun m hm hi => by
        have := List.find?_eq_none.1 hf m ((lists_mem _ _ _ _).2 ⟨hm, hi⟩)
        simpa using this
      refine ⟨fun l h => ?_, fun h m hm hi => ?_⟩
      · obtain ⟨a1, a2, a3, a4⟩ := ih1 l h
        refine ⟨List.mem_cons_of_mem _ a1, a2, a3, fun m hm hi hp => ?_⟩
        rcases List.mem_cons.1 hm with hm | hm
        · rw [hno m hm hi] at hp; cases hp
        · exact a4 m hm hi hp
      · rcases List.mem_cons.1 hm with hm | hm
        · exact hno m hm hi
        · exact ih2 h m hm hi
/-- the best of the lists that the numbers from 1 to less than n say -/
def BestOf (p : List Int → Bool) (n : Nat) (b : List Int) : Prop :=
  (b = [] ∧ ∀ j, 1 ≤ j → j < n → p (bits 0 j) = false) ∨ (∃ j, 1 ≤ j ∧ j < n ∧ b = bits 0 j ∧ p b = true ∧ ∀ i, 1 ≤ i → i < n → p (bits 0 i) = true → bits 0 i = b ∨ better b (bits 0 i))
theorem BestOf.zero (p : List Int → Bool) : BestOf p 1 [] := .inl ⟨rfl, fun j h1 h2 => by omega⟩
theorem BestOf.skip {p : List Int → Bool} {n : Nat} {b : List Int} (h : BestOf p n b) (hp : p (bits 0 n) = false) : BestOf p (n + 1) b := by
  rcases h with ⟨rfl, h⟩ | ⟨j, h1, h2, rfl, h3, h4⟩
  · refine .inl ⟨rfl, fun j h1 h2 => ?_⟩
    rcases Nat.lt_succ_iff_lt_or_eq.1 h2 with h2 | rfl
    · exact h j h1 h2
    · exact hp
  · refine .inr ⟨j, h1, by omega, rfl, h3, fun i i1 i2 hi => ?_⟩
    rcases Nat.lt_succ_iff_lt_or_eq.1 i2 with i2 | rfl
    · exact h4 i i1 i2 hi
    · rw [hp] at hi; cases hi
theorem BestOf.take {p : List Int → Bool} {n : Nat} {b : List Int} (h : BestOf p n b) (hn : 1 ≤ n) (hp : p (bits 0 n) = true) (hb : b = [] ∨ better (bits 0 n) b) : BestOf p (n + 1) (bits 0 n) := by
  refine .inr ⟨n, hn, by omega, rfl, hp, fun i i1 i2 hi => ?_⟩
  rcases Nat.lt_succ_iff_lt_or_eq.1 i2 with i2 | rfl
  · rcases h with ⟨rfl, h⟩ | ⟨j, h1, h2, rfl, h3, h4⟩
    · rw [h i i1 i2] at hi; cases hi
    · have hb : better (bits 0 n) (bits 0 j) := by
        rcases hb with hb | hb
        · exact absurd hb (bits_ne (by omega))
        · exact hb
      rcases h4 i i1 i2 hi with e | e
      · rw [e]; exact .inr hb
      · exact .inr (better_trans hb e)
  · exact .inl rfl
theorem BestOf.keep {p : List Int → Bool} {n : Nat} {b : List Int} (h : BestOf p n b) (hb : b ≠ []) (hw : ¬ better (bits 0 n) b) : BestOf p (n + 1) b := by
  rcases h with ⟨rfl, h⟩ | ⟨j, h1, h2, rfl, h3, h4⟩
  · exact absurd rfl hb
  · refine .inr ⟨j, h1, by omega, rfl, h3, fun i i1 i2 hi => ?_⟩
    rcases Nat.lt_succ_iff_lt_or_eq.1 i2 with i2 | rfl
    · exact h4 i i1 i2 hi
    · exact better_total hw
theorem best_least {t : Text} {wt : Int} {b : List Int} (h : BestOf (t.leastP wt) (2 ^ t.len) b) : t.least wt = (b, if b = [] then 6 else 0) := by
  have hks : (List.range' 1 t.len).Pairwise (· < ·) := List.pairwise_lt_range'
  obtain ⟨s1, s2⟩ := leastGo_spec t wt (List.range' 1 t.len) hks
  have hin : ∀ {m : List Int}, Incr 0 t.len m → m ≠ [] → m.length ∈ List.range' 1 t.len := fun {m} hm hne => by
    rw [List.mem_range'_1]
    have : m.length ≠ 0 := fun e => hne (List.length_eq_zero_iff.1 e)
    rcases Incr.len hm with h | h
    · omega
    · exact absurd h hne
  have hbi : ∀ j, j < 2 ^ t.len → Incr 0 t.len (bits 0 j) := fun j hj => by
    have := bits_incr t.len 0 j hj
    simpa using this
  unfold Text.least
  cases hg : t.leastGo wt (List.range' 1 t.len) with
  | none =>
    rcases h with ⟨rfl, h⟩ | ⟨j, h1, h2, rfl, h3, h4⟩
    · rfl
    · have := s2 hg _ (hin (hbi j h2) (bits_ne (by omega))) (hbi j h2)
      rw [this] at h3; cases h3
  | some l =>
    obtain ⟨a1, a2, a3, a4⟩ := s1 l hg
    have hl : l ≠ [] := fun e => by rw [e, List.mem_range'_1] at a1; simp at a1
    obtain ⟨n, hn, e⟩ := bits_all t.len 0 l (by simpa using a2)
    have hn1 : 1 ≤ n := by
      rcases Nat.eq_zero_or_pos n with h0 | h0
      · rw [h0, bits_zero] at e; exact absurd e.symm hl
      · exact h0
    rcases h with ⟨rfl, h⟩ | ⟨j, h1, h2, rfl, h3, h4⟩
    · have := h n hn1 hn; rw [e, a3] at this; cases this
    · have e1 := h4 n hn1 hn (by rw [e]; exact a3)
      rw [e] at e1
      have e2 := a4 (bits 0 j) (hin (hbi j h2) (bits_ne (by omega))) (hbi j h2) h3
      have : l = bits 0 j := by
        rcases e1 with e1 | e1
        · exact e1
        · rcases e2 with e2 | e2
          · exact e2.symm
          · exact absurd (better_trans e1 e2) (fun h => better_irr h)
      rw [this, if_neg (bits_ne (by omega))]
end Go.Proofs.Ytadnggecnjdhiaa
set_option linter.unusedSimpArgs false
set_option linter.unusedVariables false
namespace Go.Proofs.Ytadnggecnjdhiaa
open Go.RowKit Tx
attribute [local go_sem] Oper.semAt_some

set_option maxHeartbeats 2000000 in
set_option maxRecDepth 100000 in
theorem list_any (n : Nat) (hn : n ≤ 1000000) (w : World) : Calls Try.prog 112 #[.int .i64 n] w (RowPost (bits 0 n) w) := by
  obtain ⟨i0, hi0, hz0, hz1, hz2⟩ := info_parts A_infoI
  go_enter Try.func112, Try.ntmps112
  go_wp2
  go_loopw [0, 3, 4] (fun nv v i wr => ∃ (m k : Nat) (acc : List Int), nv = .int .i64 m ∧ i = .int .i64 k ∧ m ≤ n ∧ m + k ≤ n ∧ acc.length ≤ k ∧ acc ++ bits k m = bits 0 n ∧ wr.ownsRow w.heap.size 3 1 v acc.length (acc.map (Value.int .i64)) ∧ Below w.heap.size w wr) (fun nv _ _ _ => (intOf nv).toNat)
  case atStart => exact ⟨n, 0, [], rfl, rfl, Nat.le_refl _, by omega, by simp, rfl, own_none _ _ _ _, Below.refl _ _⟩
  case round =>
    obtain ⟨m, k, acc, rfl, rfl, hm, hmk, hak, hacc, hown, hBr⟩ := hrel
    have HO := Lib.hid hown
    have HBr := Lib.hid hBr
    have HACC := Lib.hid hacc
    have hz7 := hBr.size
    have hal : acc.length ≤ 1000000 := by omega
    clear hown hBr hacc
    by_cases h0 : 0 < m
    · obtain ⟨mi, hmi⟩ : ∃ mi : Int, mi = (m : Int) := ⟨_, rfl⟩
      have h0' : 0 < mi := by omega
      have hk1 : (k : Int) + 1 = ((k + 1 : Nat) : Int) := by omega
      have HK1 := Lib.hid hk1
      obtain ⟨q, hq | hq⟩ := even_odd m
      · have hqn : q ≤ 1000000 := by omega
        have hr : Int.tmod mi 2 = 0 := by rw [Int.tmod_eq_emod_of_nonneg (by omega)]; omega
        have hd : Int.tdiv mi 2 = (q : Int) := by rw [Int.tdiv_eq_ediv_of_nonneg (by omega)]; omega
        have HB : Hid (acc ++ bits (k + 1) q = bits 0 n) := Lib.hid (by rw [← HACC.out, hq, bits_even])
        have HQ := Lib.hid hq
        have hb1 : mi ≤ 1000000 := by omega
        rw [← hmi]
        have HMI := Lib.hid hmi
        clear hmi hq hk1 HACC
        go_wp2
        go_roundw
        case rel => exact ⟨q, k + 1, acc, rfl, by rw [HK1.out], by have := HQ.out; omega, by have := HQ.out; omega, by omega, HB.out, HO.out, HBr.out⟩
        case measure => have := HQ.out; simp [intOf]; have := HMI.out; omega
      · have hqn : q ≤ 1000000 := by omega
        have hr : Int.tmod mi 2 = 1 := by rw [Int.tmod_eq_emod_of_nonneg (by omega)]; omega
        have hd : Int.tdiv mi 2 = (q : Int) := by rw [Int.tdiv_eq_ediv_of_nonneg (by omega)]; omega
        have HB : Hid ((acc ++ [(k : Int)]) ++ bits (k + 1) q = bits 0 n) := Lib.hid (by rw [← HACC.out, hq, bits_odd]; simp)
        have HQ := Lib.hid hq
        have hb1 : mi ≤ 1000000 := by omega
        rw [← hmi]
        have HMI := Lib.hid hmi
        clear hmi hq hk1 HACC
        go_wp2_with (at_builtin; refine wpList_append_own _ rfl _ _ 28 rfl w.heap.size 3 i0 (.int .i64 0) 1 8 A_undI hi0 hz0 hz1 hz2 rfl (by decide) _ _ _ rfl (HO.out.alloc _) ⟨wr.heap.size, 0, none⟩ 1 1 [.int .i64 (k : Int)] rfl rfl ?d1 ?d2 ?d3 ?d4 ?d5 ?_)
        case d1 => exact cell_one_new _ _ _
        case d2 => first | rfl | (intro u hu; simp at hu; subst hu; rfl)
        case d3 => unfold maxLen; omega
        case d4 => omega
        case d5 => first | omega | (simp; omega)
        intro v' w8 hown8 hgrow _
        have hB8 := below_grown (al2 HBr.out (by omega) _) (HO.out.alloc _) (Nat.le_refl _) (by simp; omega) hgrow
        have HO8 := Lib.hid hown8
        have HB8 := Lib.hid hB8
        clear hgrow hown8 hB8
        go_wp2
        go_roundw
        case rel => exact ⟨q, k + 1, acc ++ [(k : Int)], rfl, by rw [HK1.out], by have := HQ.out; omega, by have := HQ.out; omega, by simp; omega, HB.out, by simpa using HO8.out, HB8.out⟩
        case measure => have := HQ.out; simp [intOf]; have := HMI.out; omega
    · obtain rfl : m = 0 := by omega
      have HB : Hid (acc = bits 0 n) := Lib.hid (by rw [← HACC.out, bits_zero, List.append_nil])
      clear HACC
      go_wp2
      go_ret
      exact ⟨_, rfl, by rw [← HB.out]; exact HO.out, HBr.out⟩
set_option maxHeartbeats 2000000 in
theorem listsN_any (t : Text) (hn : t.words.length ≤ 12) (pw : Option Addr) (cw : Nat) (v1 v2 : Value) (w : World) :
    Calls Try.prog 111 #[.agg #[.slice pw t.words.length cw, v1, v2]] w fun e w' => e = .returned (.int .i64 ((2 ^ t.words.length : Nat) : Int)) ∧ Below w.heap.size w w' := by
  generalize t.words.length = N at hn ⊢
  have HB := Lib.hid (below1 w (.cells #[.slice pw N cw, v1, v2] 35))
  obtain ⟨k0, k1, k2⟩ := blk3 (heap_last w (.cells #[.slice pw N cw, v1, v2] 35))
  go_enter Try.func111, Try.ntmps111
  go_wp2_with fail
  generalize w.alloc (.cells #[.slice pw N cw, v1, v2] 35) = W1 at HB k0 k1 k2 ⊢
  go_loop [3, 4] (fun v i => ∃ k q : Nat, k ≤ N ∧ i = .int .i64 k ∧ v = .int .i64 q ∧ q = 2 ^ k) (fun _ i => N - (intOf i).toNat)
  case atStart => exact ⟨0, 1, Nat.zero_le _, rfl, rfl, rfl⟩
  case round =>
    obtain ⟨k, q, hk, rfl, rfl, hq⟩ := hrel
    have hq9 : q ≤ 4096 := by rw [hq]; exact Nat.pow_le_pow_right (by omega) (show k ≤ 12 by omega)
    have HQ := Lib.hid hq
    clear hq
    by_cases hlt : k < N
    · have hlt' : (k : Int) < N := by omega
      have hw : 2 * (q : Int) = ((2 * q : Nat) : Int) := by push_cast; rfl
      have HW := Lib.hid hw
      clear hw
      go_wp2
      go_round
      case rel => exact ⟨k + 1, 2 * q, by omega, by go_num, by first | rfl | (congr 1; done) | (congr 1; push_cast; done) | (congr 1; push_cast; rfl), by rw [Nat.pow_succ, ← HQ.out]; omega⟩
      case measure => simp [intOf]; omega
    · obtain rfl : k = N := by omega
      go_wp2
      go_ret
      exact ⟨ret_int (by rw [HQ.out]; first | rfl | simp), HB.out⟩
theorem lexB_drop {a b : List Int} {k : Nat} (ha : k < a.length) (hb : k < b.length) : lexB (a.drop k) (b.drop k) = if a.getD k 0 ≠ b.getD k 0 then decide (a.getD k 0 < b.getD k 0) else lexB (a.drop (k + 1)) (b.drop (k + 1)) := by
  rw [List.drop_eq_getElem_cons ha, List.drop_eq_getElem_cons hb, lexB]
  rw [show a.getD k 0 = a[k] from by simp [ha], show b.getD k 0 = b[k] from by simp [hb]]
set_option maxHeartbeats 2000000 in
theorem before_any2 (a b : List Int) (hl : a.length = b.length) (hll : a.length ≤ 1000000) (p q : Option Addr) (c d : Nat) (w : World) (ha : Ints w p a) (hb : Ints w q b) :
    Calls Try.prog 113 #[.slice p a.length c, .slice q b.length d] w fun e w' => e = .returned (.bool (lexB a b)) ∧ Below w.heap.size w w' := by
  have HA := Lib.hid ha
  have HBL := Lib.hid hb
  have HL := Lib.hid hl
  clear ha hb hl
  go_enter Try.func113, Try.ntmps113
  go_wp2
  go_loopw [5] (fun i wr => ∃ k : Nat, k ≤ a.length ∧ i = .int .i64 k ∧ lexB (a.drop k) (b.drop k) = lexB a b ∧ Below w.heap.size w wr) (fun i _ => a.length - (intOf i).toNat)
  case atStart => exact ⟨0, Nat.zero_le _, rfl, rfl, Below.refl _ _⟩
  case round =>
    obtain ⟨k, hk, rfl, hd, hBr⟩ := hrel
    have HD := Lib.hid hd
    have HBr := Lib.hid hBr
    clear hd
    by_cases hlt : k < a.length
    · have hlt2 : k < b.length := by have := HL.out; omega
      have hlt' : (k : Int) < a.length := by omega
      have hlt2' : (k : Int) < b.length := by omega
      obtain ⟨b1, o1, x, rfl, hb1, hx, c1⟩ := (HA.out.below hBr).at hlt
      obtain ⟨b2, o2, y, rfl, hb2, hy, d1⟩ := (HBL.out.below hBr).at hlt2
      have HX := Lib.hid (lexB_drop hlt hlt2)
      rw [← hx, ← hy] at HX
      clear hx hy hBr
      by_cases hxy : x = y
      · subst hxy
        have HF : Hid (lexB (a.drop (k + 1)) (b.drop (k + 1)) = lexB a b) := Lib.hid (by rw [← HD.out, HX.out, if_neg (by simp)])
        clear HX HD
        go_wp2
        go_quiet (fail)
        go_wp2
        go_roundw
        case rel => exact ⟨k + 1, by omega, by go_num, HF.out, below_drewN' HBr.out _⟩
        case measure => simp [intOf]; omega
      · have hxy' : (x != y) = true := by simpa using hxy
        have HF : Hid (lexB a b = decide (x < y)) := Lib.hid (by rw [← HD.out, HX.out, if_pos hxy])
        clear HX HD hxy
        go_wp2
        go_quiet (fail)
        go_wp2
        go_quiet (fail)
        go_wp2
        go_ret
        exact ⟨ret_bool HF.out.symm, below_drewN' (below_drewN' HBr.out _) _⟩
    · obtain rfl : k = a.length := by omega
      have HF : Hid (lexB a b = false) := Lib.hid (by rw [← HD.out, List.drop_length]; rfl)
      clear HD
      go_wp2
      go_ret
      exact ⟨ret_bool HF.out.symm, HBr.out⟩
set_option maxHeartbeats 2000000 in
theorem rWeight_any (t : Text) (ok : Text.Ok t) (l : List Int) (hll : l.length ≤ 100000) (hx : ∀ x ∈ l, 0 ≤ x ∧ x < t.words.length) (pw pl : Option Addr) (cw cl : Nat) (v1 v2 : Value) (w : World) (hW : Wds w pw t.words) (hL : Ints w pl l) :
    Calls Try.prog 121 #[.agg #[.slice pw t.words.length cw, v1, v2], .slice pl l.length cl] w fun e w' => e = .returned (.int .i64 (t.wtOf l)) ∧ Below w.heap.size w w' := by
  have HB := Lib.hid (below1 w (.cells #[.slice pw t.words.length cw, v1, v2] 35))
  have HX := Lib.hid (heap_last w (.cells #[.slice pw t.words.length cw, v1, v2] 35))
  have HW := Lib.hid hW
  have HL := Lib.hid hL
  have HXS := Lib.hid hx
  have HOK := Lib.hid ok
  have hn12 := ok.n12
  have hbdall : ∀ k, 0 ≤ isum ((l.take k).map fun i => (t.words.getD i.toNat default).wt) ∧ isum ((l.take k).map fun i => (t.words.getD i.toNat default).wt) ≤ 2000000 := fun k => by
    have h := isum_bd ((l.take k).map fun i => (t.words.getD i.toNat default).wt) 0 20 (fun y hy => by
      obtain ⟨i, hi, rfl⟩ := List.mem_map.1 hy
      have hi2 := hx i (List.mem_of_mem_take hi)
      have := ok.word (t.words.getD i.toNat default) (getD_mem default (by omega))
      exact ⟨this.2.2.1, this.2.2.2⟩)
    have : ((l.take k).map fun i => (t.words.getD i.toNat default).wt).length ≤ 100000 := by simp; omega
    omega
  have HBD := Lib.hid hbdall
  have HT : Hid (t.wtOf l = isum ((l.take l.length).map fun i => (t.words.getD i.toNat default).wt)) := Lib.hid (by rw [List.take_length]; rfl)
  generalize t.wtOf l = tw at HT ⊢
  clear hW hL hx ok hbdall
  go_enter Try.func121, Try.ntmps121
  go_wp2_with fail
  generalize w.alloc (.cells #[.slice pw t.words.length cw, v1, v2] 35) = W1 at HB HX ⊢
  go_loopw [5, 6] (fun v i wr => ∃ (k : Nat) (s : Int), k ≤ l.length ∧ i = .int .i64 k ∧ v = .int .i64 s ∧ s = isum ((l.take k).map fun i => (t.words.getD i.toNat default).wt) ∧ Below W1.heap.size W1 wr) (fun _ i _ => l.length - (intOf i).toNat)
  case atStart => exact ⟨0, 0, Nat.zero_le _, rfl, rfl, rfl, Below.refl _ _⟩
  case round =>
    obtain ⟨k, s, hk, rfl, rfl, hs, hBr⟩ := hrel
    have HS := Lib.hid hs
    have HBr := Lib.hid hBr
    have hsb := HBD.out k
    rw [← hs] at hsb
    obtain ⟨k0, k1, k2⟩ := blk3 ((hBr.block w.heap.size (Array.getElem?_eq_some_iff.1 HX.out).1).trans HX.out)
    clear hs
    by_cases hlt : k < l.length
    · have hlt' : (k : Int) < l.length := by omega
      obtain ⟨b1, o1, x, rfl, hb1, hx, c1⟩ := (HL.out.below (join HB.out hBr)).at hlt
      have hxb := HXS.out x (by rw [hx]; exact getD_mem 0 hlt)
      obtain ⟨xn, rfl⟩ : ∃ n : Nat, x = (n : Int) := ⟨x.toNat, by omega⟩
      have hxn : xn < t.words.length := by omega
      obtain ⟨b2, o2, y, rfl, hb2, hy, d1, d2, d3⟩ := (HW.out.below (join HB.out hBr)).at hxn
      have hsn : isum ((l.take (k + 1)).map fun i => (t.words.getD i.toNat default).wt) = isum ((l.take k).map fun i => (t.words.getD i.toNat default).wt) + y.wt := by
        rw [take_snocD 0 hlt, List.map_append, List.map_cons, List.map_nil, isum_snoc, ← hx, Int.toNat_natCast, ← hy]
      have hs2 := HBD.out (k + 1)
      rw [hsn, ← HS.out] at hs2
      rw [← HS.out] at hsn
      have HSN := Lib.hid hsn
      obtain ⟨ya, yb, yc⟩ := y
      dsimp only at d1 d2 d3 hs2 HSN
      have hxi : (xn : Int) < t.words.length := hxb.2
      clear hx hy hsn hBr
      go_wp2
      go_quiet (fail)
      go_wp2
      go_roundw
      case rel => exact ⟨k + 1, _, by omega, by go_num, rfl, HSN.out.symm, below_drewN' HBr.out _⟩
      case measure => simp [intOf]; omega
    · obtain rfl : k = l.length := by omega
      clear hBr
      go_wp2
      go_ret
      exact ⟨ret_int (by rw [HT.out, HS.out]), join HB.out HBr.out⟩
end Go.Proofs.Ytadnggecnjdhiaa
set_option linter.unusedSimpArgs false
set_option linter.unusedVariables false
namespace Go.Proofs.Ytadnggecnjdhiaa
open Go.RowKit Tx
attribute [local go_sem] Oper.semAt_some

/-- a list and an error, to be read -/
def ReadPost (l : List Int) (er : Int) (w : World) (e : Ending) (w' : World) : Prop := ∃ p c, e = .returned (.tuple #[.slice p l.length c, .int .i64 er]) ∧ Ints w' p l ∧ Below w.heap.size w w'
theorem said_keeps (t : Text) (l : List Int) : t.keeps l = !decide (0 < (rsaid t l).length) := by
  unfold rsaid Text.keeps; rw [idx_any]
set_option maxHeartbeats 6000000 in
set_option maxRecDepth 100000 in
theorem rLeast_any (t : Text) (wt : Int) (hl1 : t.words.length ≤ 1000000) (hl2 : t.turns.length ≤ 1000000) (pw pt : Option Addr) (cw ct : Nat) (w : World) (hW : TxAt w t pw pt) :
    Calls Try.prog 51 #[.agg #[.slice pw t.words.length cw, .slice pt t.turns.length ct, .int .i64 t.breath], .int .i64 wt] w (ReadPost (leaL t wt) (leaE t wt) w) := by
  have HC := Lib.hid (fun W (h : Below w.heap.size w W) => rCheck_any t hl1 hl2 pw pt cw ct W (hW.below h))
  have HB := Lib.hid (below1 w (.cells #[.slice pw t.words.length cw, .slice pt t.turns.length ct, .int .i64 t.breath] 35))
  have HX := Lib.hid (heap_last w (.cells #[.slice pw t.words.length cw, .slice pt t.turns.length ct, .int .i64 t.breath] 35))
  have HW := Lib.hid hW
  clear hW
  by_cases he : t.err = 0
  · have ok := err_ok he
    have hn12 := ok.n12
    have hm6 := ok.m6
    rw [he] at HC
    by_cases hw : wt < 0
    · have e1 : leaL t wt = [] := by unfold leaL; rw [if_pos he, if_pos hw]
      have e2 : leaE t wt = 3 := by unfold leaE; rw [if_pos he, if_pos hw]
      rw [e1, e2]
      obtain ⟨k0, k1, k2⟩ := blk3 HX.out
      clear he e1 e2 ok
      go_enter Try.func51, Try.ntmps51
      go_wp2_with fail
      refine (HC.out _ HB.out).mono ?_
      rintro e w5 ⟨rfl, hB5⟩
      have HB5 := Lib.hid (join HB.out hB5)
      clear hB5
      go_wp2
      go_ret2
      exact ⟨none, 0, rfl, .inl rfl, HB5.out⟩
    · have e1 : leaL t wt = (t.least wt).1 := by unfold leaL; rw [if_pos he, if_neg hw]
      have e2 : leaE t wt = (t.least wt).2 := by unfold leaE; rw [if_pos he, if_neg hw]
      rw [e1, e2]
      have hw' : ¬ wt < 0 := hw
      have HBEST := Lib.hid (fun (b : List Int) (h : BestOf (t.leastP wt) (2 ^ t.len) b) => best_least h)
      have HP := Lib.hid (fun l => show t.leastP wt l = (decide (wt ≤ t.wtOf l) && !decide (0 < (rsaid t l).length)) by rw [← said_keeps]; rfl)
      have HOK := Lib.hid ok
      have hlen : t.len = t.words.length := rfl
      have hpow : 2 ^ t.words.length ≤ 4096 := by exact Nat.pow_le_pow_right (by omega) (show t.words.length ≤ 12 by omega)
      have HINC : Hid (∀ n, n < 2 ^ t.words.length → (bits 0 n).length ≤ 12 ∧ ∀ x ∈ bits 0 n, 0 ≤ x ∧ x < t.words.length) := Lib.hid (fun n hn => by
        have h := bits_incr t.words.length 0 n hn
        rw [Nat.zero_add] at h
        refine ⟨?_, fun x hx => by have := h.bd x hx; omega⟩
        rcases h.len with h | h
        · omega
        · rw [h]; simp)
      rw [hlen] at HBEST
      generalize t.least wt = le at HBEST ⊢
      have HLN := Lib.hid (fun W => listsN_any t (by omega) pw cw (.slice pt t.turns.length ct) (.int .i64 t.breath) W)
      have HSA := Lib.hid (fun (l : List Int) (hll : l.length ≤ 12) p c W (h : Below w.heap.size w W) hL => Said_any t (by omega) (fun u hu => by have := HOK.out.turn u hu; omega) l (by omega) pt p ct c (.slice pw t.words.length cw) (.int .i64 t.breath) W (HW.out.turns.below h) hL)
      have HWT := Lib.hid (fun (l : List Int) (hll : l.length ≤ 12) hx p c W (h : Below w.heap.size w W) hL => rWeight_any t HOK.out l (by omega) hx pw p cw c (.slice pt t.turns.length ct) (.int .i64 t.breath) W (HW.out.words.below h) hL)
      have hN0 : 0 < 2 ^ t.words.length := Nat.two_pow_pos _
      generalize hN : 2 ^ t.words.length = NN at HBEST HINC HLN hpow hN0
      obtain ⟨k0, k1, k2⟩ := blk3 HX.out
      clear he e1 e2 ok hw hlen hN
      go_enter Try.func51, Try.ntmps51
      go_wp2_with fail
      refine (HC.out _ HB.out).mono ?_
      rintro e w5 ⟨rfl, hB5⟩
      have HX := Lib.hid ((hB5.block w.heap.size (Array.getElem?_eq_some_iff.1 HX.out).1).trans HX.out)
      have HB := Lib.hid (join HB.out hB5)
      clear hB5 k0 k1 k2
      go_wp2_with fail
      go_loopw [7, 8, 9] (fun bv nv _ wr => ∃ (n : Nat) (b : List Int) (p : Option Addr) (c : Nat), bv = .slice p b.length c ∧ nv = .int .i64 n ∧ 1 ≤ n ∧ (n ≤ NN ∨ n = 1) ∧ BestOf (t.leastP wt) n b ∧ b.length ≤ 12 ∧ Ints wr p b ∧ Below w5.heap.size w5 wr) (fun _ nv _ _ => NN - (intOf nv).toNat)
      case atStart => exact ⟨1, [], none, 0, rfl, rfl, Nat.le_refl _, .inr rfl, BestOf.zero _, by simp, .inl rfl, Below.refl _ _⟩
      case round =>
        obtain ⟨wo, rfl⟩ : ∃ wo : World, wo = wr := ⟨_, rfl⟩
        obtain ⟨n, b, p, c, rfl, rfl, hn1, hnN, hbest, hbl, hIb, hBr⟩ := hrel
        have HBS := Lib.hid hbest
        have HIB := Lib.hid hIb
        have HBR := Lib.hid hBr
        have HXr := Lib.hid ((hBr.block w.heap.size (Array.getElem?_eq_some_iff.1 HX.out).1).trans HX.out)
        obtain ⟨k0, k1, k2⟩ := blk3 HXr.out
        clear hbest hIb hBr
        go_wp2_with fail
        refine (HLN.out _).mono ?_
        rintro e w6 ⟨rfl, hB⟩
        have HIB := Lib.hid (HIB.out.below hB)
        have HXr := Lib.hid ((hB.block w.heap.size (Array.getElem?_eq_some_iff.1 HXr.out).1).trans HXr.out)
        have HBR := Lib.hid (join HBR.out hB)
        clear hB k0 k1 k2
        by_cases hlt : n < NN
        · have hlt' : (n : Int) < (NN : Int) := by omega
          obtain ⟨hl12, hlx⟩ := HINC.out n hlt
          have HLX := Lib.hid hlx
          have HPN := Lib.hid (HP.out (bits 0 n))
          have HNE := Lib.hid (bits_ne (w := 0) (n := n) (by omega))
          clear hlx
          go_wp2_with fail
          refine (list_any n (by omega) _).mono ?_
          rintro e w7 ⟨v, rfl, ho, hB⟩
          obtain ⟨q, d, rfl, hIl, -⟩ := own_rd ho rfl
          have HSK := Lib.hid (fun h => HBS.out.skip (p := t.leastP wt) h)
          have HTK := Lib.hid (fun h1 h2 => HBS.out.take (p := t.leastP wt) hn1 h1 h2)
          have HKP := Lib.hid (fun h1 h2 => HBS.out.keep (p := t.leastP wt) h1 h2)
          obtain ⟨l, hl⟩ : ∃ l, l = bits 0 n := ⟨_, rfl⟩
          rw [← hl] at hIl hl12 HLX HPN HNE HSK HTK HKP ⊢
          have HIL := Lib.hid hIl
          have HIB := Lib.hid (HIB.out.below hB)
          have HXr := Lib.hid ((hB.block w.heap.size (Array.getElem?_eq_some_iff.1 HXr.out).1).trans HXr.out)
          have HBR := Lib.hid (join HBR.out hB)
          obtain ⟨k0, k1, k2⟩ := blk3 HXr.out
          clear hB ho hIl hl
          go_wp2_with fail
          refine (HSA.out l hl12 q d _ (join HB.out HBR.out) HIL.out).mono ?_
          rintro e w8 ⟨v, rfl, ho, hB⟩
          obtain ⟨sp, sc, rfl⟩ := own_val ho
          have HIL := Lib.hid (HIL.out.below hB)
          have HIB := Lib.hid (HIB.out.below hB)
          have HXr := Lib.hid ((hB.block w.heap.size (Array.getElem?_eq_some_iff.1 HXr.out).1).trans HXr.out)
          have HBR := Lib.hid (join HBR.out hB)
          clear hB ho k0 k1 k2
          obtain ⟨k0, k1, k2⟩ := blk3 HXr.out
          generalize (rsaid t l).length = sn at HPN ⊢
          by_cases hs : 0 < sn
          · have hs' : (0 : Int) < sn := by omega
            have HF := Lib.hid (HSK.out (by rw [HPN.out, decide_eq_true hs]; simp))
            clear hs
            go_wp2
            go_roundw
            case rel => exact ⟨n + 1, b, p, c, rfl, by go_num, by omega, by omega, HF.out, hbl, HIB.out, HBR.out⟩
            case measure => simp [intOf]; omega
          · obtain rfl : sn = 0 := by omega
            clear hs
            go_wp2_with fail
            refine (HWT.out l hl12 HLX.out q d _ (join HB.out HBR.out) HIL.out).mono ?_
            rintro e w9 ⟨rfl, hB⟩
            have HIL := Lib.hid (HIL.out.below hB)
            have HIB := Lib.hid (HIB.out.below hB)
            have HXr := Lib.hid ((hB.block w.heap.size (Array.getElem?_eq_some_iff.1 HXr.out).1).trans HXr.out)
            have HBR := Lib.hid (join HBR.out hB)
            clear hB k0 k1 k2
            generalize t.wtOf l = tw at HPN ⊢
            by_cases hw : tw < wt
            · have HF := Lib.hid (HSK.out (by rw [HPN.out, decide_eq_false (show ¬ wt ≤ tw by omega)]; rfl))
              go_wp2
              go_roundw
              case rel => exact ⟨n + 1, b, p, c, rfl, by go_num, by omega, by omega, HF.out, hbl, HIB.out, HBR.out⟩
              case measure => simp [intOf]; omega
            · have HPT : Hid (t.leastP wt l = true) := Lib.hid (by rw [HPN.out, decide_eq_true (show wt ≤ tw by omega)]; rfl)
              by_cases hb0 : b.length = 0
              · have hb0' : ((b.length : Int) == 0) = true := by rw [beq_iff_eq]; omega
                have HF := Lib.hid (HTK.out HPT.out (.inl (List.length_eq_zero_iff.1 hb0)))
                clear hb0
                go_wp2
                go_roundw
                case rel => exact ⟨n + 1, l, q, d, rfl, by go_num, by omega, by omega, HF.out, hl12, HIL.out, HBR.out⟩
                case measure => simp [intOf]; omega
              · have hb0' : ((b.length : Int) == 0) = false := by rw [beq_eq_false_iff_ne]; omega
                have HBN : Hid (b ≠ []) := Lib.hid (fun e => hb0 (by rw [e]; rfl))
                by_cases h1 : l.length < b.length
                · have h1' : (l.length : Int) < b.length := by omega
                  have HF := Lib.hid (HTK.out HPT.out (.inr (.inl h1)))
                  clear hb0
                  go_wp2
                  go_roundw
                  case rel => exact ⟨n + 1, l, q, d, rfl, by go_num, by omega, by omega, HF.out, hl12, HIL.out, HBR.out⟩
                  case measure => simp [intOf]; omega
                · have h1' : ¬ (l.length : Int) < b.length := by omega
                  by_cases h2 : l.length = b.length
                  · have h2' : ((l.length : Int) == (b.length : Int)) = true := by rw [beq_iff_eq]; omega
                    have HBF := Lib.hid (fun W hp hq => before_any2 l b h2 (by omega) q p d c W hp hq)
                    have HH2 := Lib.hid h2
                    clear hb0 h2
                    go_wp2_with fail
                    refine (HBF.out _ HIL.out HIB.out).mono ?_
                    rintro e w9 ⟨rfl, hB⟩
                    have HIL := Lib.hid (HIL.out.below hB)
                    have HIB := Lib.hid (HIB.out.below hB)
                    have HBR := Lib.hid (join HBR.out hB)
                    clear hB
                    cases hlx : lexB l b with
                    | true =>
                      have HF := Lib.hid (HTK.out HPT.out (.inr (.inr ⟨HH2.out, hlx⟩)))
                      clear hlx
                      go_wp2
                      go_roundw
                      case rel => exact ⟨n + 1, l, q, d, rfl, by go_num, by omega, by omega, HF.out, hl12, HIL.out, HBR.out⟩
                      case measure => simp [intOf]; omega
                    | false =>
                      have HF := Lib.hid (HKP.out HBN.out (fun h => by
                        rcases h with h | ⟨_, h⟩
                        · omega
                        · rw [hlx] at h; cases h))
                      clear hlx
                      go_wp2
                      go_roundw
                      case rel => exact ⟨n + 1, b, p, c, rfl, by go_num, by omega, by omega, HF.out, hbl, HIB.out, HBR.out⟩
                      case measure => simp [intOf]; omega
                  · have h2' : ((l.length : Int) == (b.length : Int)) = false := by rw [beq_eq_false_iff_ne]; omega
                    have HF := Lib.hid (HKP.out HBN.out (fun h => by
                      rcases h with h | ⟨h, _⟩
                      · omega
                      · omega))
                    clear hb0 h2
                    go_wp2
                    go_roundw
                    case rel => exact ⟨n + 1, b, p, c, rfl, by go_num, by omega, by omega, HF.out, hbl, HIB.out, HBR.out⟩
                    case measure => simp [intOf]; omega
        · obtain rfl : n = NN := by omega
          have HF := Lib.hid (HBEST.out b HBS.out)
          clear HBS
          by_cases hb0 : b.length = 0
          · have hb0' : ((b.length : Int) == 0) = true := by rw [beq_iff_eq]; omega
            have HF2 : Hid (le = ([], 6)) := Lib.hid (by rw [HF.out, if_pos (List.length_eq_zero_iff.1 hb0), List.length_eq_zero_iff.1 hb0])
            have hle := HF2.out
            clear HF HF2 hb0 HBEST
            subst hle
            go_wp2
            go_ret2
            exact ⟨none, 0, rfl, .inl rfl, join HB.out HBR.out⟩
          · have hb0' : ((b.length : Int) == 0) = false := by rw [beq_eq_false_iff_ne]; omega
            have HF2 : Hid (le = (b, 0)) := Lib.hid (by rw [HF.out, if_neg (fun e => hb0 (by rw [e]; rfl))])
            have hle := HF2.out
            clear HF HF2 hb0 HBEST
            subst hle
            go_wp2
            go_ret2
            exact ⟨p, c, rfl, HIB.out, join HB.out HBR.out⟩
  · have e1 : leaL t wt = [] := by unfold leaL; rw [if_neg he]
    have e2 : leaE t wt = t.err := by unfold leaE; rw [if_neg he]
    rw [e1, e2]
    have HE : (t.err != 0) = true := by simpa using he
    obtain ⟨k0, k1, k2⟩ := blk3 HX.out
    clear he e1 e2
    generalize t.err = er at HC HE ⊢
    go_enter Try.func51, Try.ntmps51
    go_wp2_with fail
    refine (HC.out _ HB.out).mono ?_
    rintro e w5 ⟨rfl, hB5⟩
    have HB5 := Lib.hid (join HB.out hB5)
    clear hB5
    go_wp2
    go_ret2
    exact ⟨none, 0, rfl, .inl rfl, HB5.out⟩
end Go.Proofs.Ytadnggecnjdhiaa
set_option linter.unusedSimpArgs false
set_option linter.unusedVariables false
namespace Go.Proofs.Ytadnggecnjdhiaa
open Go.RowKit Tx
attribute [local go_sem] Oper.semAt_some

/-- the words up to k, without one of them -/
def wo (k x : Nat) : List Int := ((List.range k).filter fun o => o ≠ x).map fun (o : Nat) => (o : Int)
theorem wo_succ (k x : Nat) : wo (k + 1) x = wo k x ++ (if k = x then [] else [(k : Int)]) := by
  unfold wo
  rw [List.range_succ, List.filter_append, List.map_append]
  by_cases h : k = x
  · simp [h]
  · simp [h]
theorem wo_len (k x : Nat) : (wo k x).length ≤ k := by
  unfold wo; rw [List.length_map]; exact Nat.le_trans (List.length_filter_le _ _) (by simp)
theorem wo_words (n x : Nat) (h : x < n) : wordsL 0 x ++ wordsL ((x : Int) + 1) (n - (x + 1)) = wo n x := by
  have a : ∀ k, k ≤ x → wo k x = wordsL 0 k := by
    intro k
    induction k with
    | zero => intro _; rfl
    | succ k ih => intro hk; rw [wo_succ, if_neg (by omega), ih (by omega), wordsL_succ]; simp
  have b : ∀ k, wo (x + 1 + k) x = wordsL 0 x ++ wordsL ((x : Int) + 1) k := by
    intro k
    induction k with
    | zero => rw [Nat.add_zero, wo_succ, if_pos rfl, a x (Nat.le_refl _)]; rfl
    | succ k ih => rw [show x + 1 + (k + 1) = x + 1 + k + 1 by omega, wo_succ, if_neg (by omega), ih, wordsL_succ, ← List.append_assoc]; congr 2
  have := b (n - (x + 1))
  rw [show x + 1 + (n - (x + 1)) = n by omega] at this
  exact this.symm
theorem wo_len2 (n x : Nat) (h : x < n) : (wo n x).length = n - 1 := by
  rw [← wo_words n x h, List.length_append, wordsL_length, wordsL_length]; omega
def spareP (t : Text) (x : Nat) : Bool := decide (0 < (wo t.words.length x).length) && t.keeps (wo t.words.length x)
/-- what Spare tells, of the words up to k -/
def spareTo (t : Text) (k : Nat) : List Int := ((List.range k).filter (spareP t)).map fun (o : Nat) => (o : Int)
theorem spareTo_succ (t : Text) (k : Nat) : spareTo t (k + 1) = spareTo t k ++ (if spareP t k then [(k : Int)] else []) := by
  unfold spareTo
  rw [List.range_succ, List.filter_append, List.map_append]
  cases h : spareP t k <;> simp [h]
theorem spareTo_len (t : Text) (k : Nat) : (spareTo t k).length ≤ k := by
  unfold spareTo; rw [List.length_map]; exact Nat.le_trans (List.length_filter_le _ _) (by simp)
def spaL (t : Text) : List Int := if t.err = 0 then spareTo t t.words.length else []
set_option maxHeartbeats 1000000 in
theorem without_any (n cw : Nat) (hn : n ≤ 1000) (x : Nat) (hx : x ≤ 1000) (pw : Option Addr) (v1 v2 v3 : Value) (w : World) :
    Calls Try.prog 159 #[.agg #[.slice pw n cw, v1, v2, v3], .int .i64 x] w (RowPost (wo n x) w) := by
  obtain ⟨i0, hi0, hz0, hz1, hz2⟩ := info_parts A_infoI
  have HB := Lib.hid (below1 w (.cells #[.slice pw n cw, v1, v2, v3] 125))
  go_enter Try.func159, Try.ntmps159
  go_wp2_with fail
  have hsz : (w.alloc (.cells #[.slice pw n cw, v1, v2, v3] 125)).heap.size = w.heap.size + 1 := by simp
  generalize w.alloc (.cells #[.slice pw n cw, v1, v2, v3] 125) = W1 at HB hsz ⊢
  have hsz1 : w.heap.size + 1 ≤ W1.heap.size := by omega
  clear hsz
  go_loopw [5, 6, 11] (fun v _ i wr => ∃ k : Nat, k ≤ n ∧ i = .int .i64 k ∧ wr.ownsRow W1.heap.size 3 1 v (wo k x).length ((wo k x).map (Value.int .i64)) ∧ Below W1.heap.size W1 wr) (fun _ _ i _ => n - (intOf i).toNat)
  case atStart => exact ⟨0, Nat.zero_le _, rfl, own_none _ _ _ _, Below.refl _ _⟩
  case round =>
    obtain ⟨k, hk, rfl, hown, hBr⟩ := hrel
    have HO := Lib.hid hown
    have HBr := Lib.hid hBr
    have hz7 := hBr.size
    have hwl := wo_len k x
    have HSN := Lib.hid (wo_succ k x)
    clear hown hBr
    by_cases hlt : k < n
    · have hlt' : (k : Int) < n := by omega
      by_cases hkx : k = x
      · have hkx' : ((k : Int) != (x : Int)) = false := by simp [hkx]
        have HKX := Lib.hid hkx
        clear hkx
        go_wp2
        go_roundw
        case rel => exact ⟨k + 1, by omega, by go_num, by rw [HSN.out, if_pos HKX.out, List.append_nil]; exact HO.out, HBr.out⟩
        case measure => simp [intOf]; omega
      · have hkx' : ((k : Int) != (x : Int)) = true := by rw [bne_iff_ne]; omega
        have HKX := Lib.hid hkx
        clear hkx
        go_wp2_with (at_builtin; refine wpList_append_own _ rfl _ _ 28 rfl W1.heap.size 3 i0 (.int .i64 0) 1 8 A_undI hi0 hz0 hz1 hz2 rfl (by decide) _ _ _ rfl (HO.out.alloc _) ⟨wr.heap.size, 0, none⟩ 1 1 [.int .i64 (k : Int)] rfl rfl ?d1 ?d2 ?d3 ?d4 ?d5 ?_)
        case d1 => exact cell_one_new _ _ _
        case d2 => first | rfl | (intro u hu; simp at hu; subst hu; rfl)
        case d3 => unfold maxLen; omega
        case d4 => omega
        case d5 => first | omega | (simp; omega)
        intro v' w8 hown8 hgrow _
        have hB8 := below_grown (al2 HBr.out (by omega) _) (HO.out.alloc _) (Nat.le_refl _) (by simp; omega) hgrow
        have HO8 := Lib.hid hown8
        have HB8 := Lib.hid hB8
        clear hgrow hown8 hB8
        go_wp2
        go_roundw
        case rel => exact ⟨k + 1, by omega, by go_num, by rw [HSN.out, if_neg HKX.out]; simpa using HO8.out, HB8.out⟩
        case measure => simp [intOf]; omega
    · obtain rfl : k = n := by omega
      clear HSN
      go_wp2
      go_ret
      exact ⟨_, rfl, own_base HO.out (by omega), join HB.out HBr.out⟩
set_option maxHeartbeats 2000000 in
set_option maxRecDepth 100000 in
theorem spare_any (t : Text) (ok : Text.Ok t) (pw pt : Option Addr) (cw ct : Nat) (mv : Value) (w : World) (hW : TxAt w t pw pt) :
    Calls Try.prog 127 #[.agg #[.slice pw t.words.length cw, .slice pt t.turns.length ct, .int .i64 t.breath, mv]] w (RowPost (spareTo t t.words.length) w) := by
  obtain ⟨i0, hi0, hz0, hz1, hz2⟩ := info_parts A_infoI
  have hn12 := ok.n12
  have HWO := Lib.hid (fun (x : Nat) (hx : x ≤ 1000) W => without_any t.words.length cw (by omega) x hx pw (.slice pt t.turns.length ct) (.int .i64 t.breath) mv W)
  have HKS := Lib.hid (fun (l : List Int) (hll : l.length ≤ 1000000) p c W (h : Below w.heap.size w W) hL => keepSense_any t ok l hll pt p ct c (.slice pw t.words.length cw) (.int .i64 t.breath) mv W (hW.turns.below h) hL)
  have HB := Lib.hid (below1 w (.cells #[.slice pw t.words.length cw, .slice pt t.turns.length ct, .int .i64 t.breath, mv] 125))
  have HX := Lib.hid (heap_last w (.cells #[.slice pw t.words.length cw, .slice pt t.turns.length ct, .int .i64 t.breath, mv] 125))
  have hsz : (w.alloc (.cells #[.slice pw t.words.length cw, .slice pt t.turns.length ct, .int .i64 t.breath, mv] 125)).heap.size = w.heap.size + 1 := by simp
  have k0 := blk_cells HX.out 0 _ rfl
  clear hW ok
  go_enter Try.func127, Try.ntmps127
  go_wp2_with fail
  generalize w.alloc (.cells #[.slice pw t.words.length cw, .slice pt t.turns.length ct, .int .i64 t.breath, mv] 125) = W1 at HB HX hsz k0 ⊢
  have hsz1 : w.heap.size + 1 ≤ W1.heap.size := by omega
  clear hsz
  go_loopw [3, 4, 5, 10] (fun v _ _ i wr => ∃ k : Nat, k ≤ t.words.length ∧ i = .int .i64 k ∧ wr.ownsRow W1.heap.size 3 1 v (spareTo t k).length ((spareTo t k).map (Value.int .i64)) ∧ Below W1.heap.size W1 wr) (fun _ _ _ i _ => t.words.length - (intOf i).toNat)
  case atStart => exact ⟨0, Nat.zero_le _, rfl, own_none _ _ _ _, Below.refl _ _⟩
  case round =>
    clear k0
    obtain ⟨w0, rfl⟩ : ∃ w0 : World, w0 = wr := ⟨_, rfl⟩
    obtain ⟨k, hk, rfl, hown, hBr⟩ := hrel
    have HO := Lib.hid hown
    have HBr := Lib.hid hBr
    have hz7 := hBr.size
    have hsl := spareTo_len t k
    have HSN := Lib.hid (spareTo_succ t k)
    have HXr := Lib.hid ((hBr.block w.heap.size (by omega)).trans HX.out)
    clear hown hBr
    by_cases hlt : k < t.words.length
    · have hlt' : (k : Int) < t.words.length := by omega
      have k0 := blk_cells HXr.out 0 _ rfl
      have k1 := blk_cells HXr.out 1 _ rfl
      have k2 := blk_cells HXr.out 2 _ rfl
      have k3 := blk_cells HXr.out 3 _ rfl
      go_wp2_with fail
      refine (HWO.out k (by omega) _).mono ?_
      rintro e w5 ⟨v5, rfl, ho, hB⟩
      have hol : (wo t.words.length k).length ≤ 1000000 := by have := wo_len t.words.length k; omega
      obtain ⟨q, d, rfl, hI, -⟩ := own_rd ho rfl
      have HI := Lib.hid hI
      have HPK := Lib.hid (show spareP t k = (decide (0 < (wo t.words.length k).length) && t.keeps (wo t.words.length k)) from rfl)
      have HXr := Lib.hid ((hB.block w.heap.size (Array.getElem?_eq_some_iff.1 HXr.out).1).trans HXr.out)
      have HO := Lib.hid (own_below HO.out hB)
      have HBr := Lib.hid (join HBr.out hB)
      have hz8 := HBr.out.size
      clear ho hI hB k0 k1 k2 k3 hz7
      have k0 := blk_cells HXr.out 0 _ rfl
      have k1 := blk_cells HXr.out 1 _ rfl
      have k2 := blk_cells HXr.out 2 _ rfl
      have k3 := blk_cells HXr.out 3 _ rfl
      generalize wo t.words.length k = l at hol HI HPK ⊢
      by_cases h0 : 0 < l.length
      · have h0' : (0 : Int) < l.length := by omega
        have HH0 := Lib.hid h0
        clear h0
        go_wp2_with fail
        refine (HKS.out l hol q d _ (join HB.out HBr.out) HI.out).mono ?_
        rintro e w6 ⟨rfl, hB⟩
        have HO := Lib.hid (own_below HO.out hB)
        have HBr := Lib.hid (join HBr.out hB)
        have hz9 := HBr.out.size
        clear hB k0 k1 k2 k3 hz8
        cases hkp : t.keeps l with
        | true =>
          have HF : Hid (spareP t k = true) := Lib.hid (by rw [HPK.out, hkp, decide_eq_true HH0.out]; rfl)
          clear hkp HPK
          go_wp2_with (at_builtin; refine wpList_append_own _ rfl _ _ 28 rfl W1.heap.size 3 i0 (.int .i64 0) 1 8 A_undI hi0 hz0 hz1 hz2 rfl (by decide) _ _ _ rfl (HO.out.alloc _) ⟨w6.heap.size, 0, none⟩ 1 1 [.int .i64 (k : Int)] rfl rfl ?d1 ?d2 ?d3 ?d4 ?d5 ?_)
          case d1 => exact cell_one_new _ _ _
          case d2 => first | rfl | (intro u hu; simp at hu; subst hu; rfl)
          case d3 => unfold maxLen; omega
          case d4 => omega
          case d5 => first | omega | (simp; omega)
          intro v' w8 hown8 hgrow _
          have hB8 := below_grown (al2 HBr.out (by omega) _) (HO.out.alloc _) (Nat.le_refl _) (by simp; omega) hgrow
          have HO8 := Lib.hid hown8
          have HB8 := Lib.hid hB8
          clear hgrow hown8 hB8
          go_wp2
          go_roundw
          case rel => exact ⟨k + 1, by omega, by go_num, by rw [HSN.out, if_pos HF.out]; simpa using HO8.out, HB8.out⟩
          case measure => simp [intOf]; omega
        | false =>
          have HF : Hid (spareP t k = false) := Lib.hid (by rw [HPK.out, hkp, Bool.and_false])
          clear hkp HPK
          go_wp2
          go_roundw
          case rel => exact ⟨k + 1, by omega, by go_num, by rw [HSN.out, HF.out]; simpa using HO.out, HBr.out⟩
          case measure => simp [intOf]; omega
      · have h0' : ¬ (0 : Int) < l.length := by omega
        have HF : Hid (spareP t k = false) := Lib.hid (by rw [HPK.out, decide_eq_false h0, Bool.false_and])
        clear h0 HPK
        go_wp2
        go_roundw
        case rel => exact ⟨k + 1, by omega, by go_num, by rw [HSN.out, HF.out]; simpa using HO.out, HBr.out⟩
        case measure => simp [intOf]; omega
    · obtain rfl : k = t.words.length := by omega
      clear HSN
      go_wp2
      go_ret
      exact ⟨_, rfl, own_base HO.out (by omega), join HB.out HBr.out⟩
set_option maxHeartbeats 2000000 in
theorem Spare_any (t : Text) (hl1 : t.words.length ≤ 1000000) (hl2 : t.turns.length ≤ 1000000) (pw pt : Option Addr) (cw ct : Nat) (w : World) (hW : TxAt w t pw pt) :
    Calls Try.prog 52 #[.agg #[.slice pw t.words.length cw, .slice pt t.turns.length ct, .int .i64 t.breath]] w (ListPost (spaL t) t.err w) := by
  by_cases he : t.err = 0
  · have HS := Lib.hid (fun W (h : Below w.heap.size w W) => open_ok t he pw pt cw ct W (hW.below h))
    have HP := Lib.hid (fun W mv (h : Below w.heap.size w W) => spare_any t (err_ok he) pw pt cw ct mv W (hW.below h))
    have e1 : spaL t = spareTo t t.words.length := by unfold spaL; rw [if_pos he]
    rw [e1, he]
    clear he hW e1
    go_enter Try.func52, Try.ntmps52
    go_wp2_with fail
    refine (HS.out _ (below1 _ _)).mono ?_
    rintro e w5 ⟨rfl, hB5⟩
    have HB5 := Lib.hid (join (below1 _ _) hB5)
    clear hB5
    go_wp2_with fail
    refine (HP.out _ _ (join HB5.out (below1 _ _))).mono ?_
    rintro e w6 ⟨v, rfl, ho, hB⟩
    have HO := Lib.hid (own_base ho (base' := w.heap.size) (by have := HB5.out.size; simp; omega))
    have HB6 := Lib.hid (join (join HB5.out (below1 _ _)) hB)
    clear hB ho
    go_wp2
    go_ret2
    exact ⟨_, rfl, HO.out, HB6.out⟩
  · have HS := Lib.hid (fun W (h : Below w.heap.size w W) => open_bad t he hl1 hl2 pw pt cw ct W (hW.below h))
    have e1 : spaL t = [] := by unfold spaL; rw [if_neg he]
    have HE : (t.err != 0) = true := by simpa using he
    rw [e1]
    clear he hW e1
    generalize t.err = er at HS HE ⊢
    go_enter Try.func52, Try.ntmps52
    go_wp2_with fail
    refine (HS.out _ (below1 _ _)).mono ?_
    rintro e w5 ⟨rfl, hB5⟩
    have HB5 := Lib.hid (join (below1 _ _) hB5)
    clear hB5
    go_wp2
    go_ret2
    exact ⟨_, rfl, own_none _ _ _ _, join HB5.out (below1 _ _)⟩
def spSp (pw : Option Addr) (cw A n x B : Nat) : Nat → List Value → Value → World → Prop
  | 0, _, v, _ => v = .int .i64 (x : Int)
  | 1, L, v, w => ∃ p c, v = .slice p (wordsL 0 x).length c ∧ w.ownsRow B 3 1 (.slice p (wordsL 0 x).length c) (wordsL 0 x).length ((wordsL 0 x).map (Value.int .i64)) ∧ (wordsL 0 x).length ≤ c
  | 2, _, v, _ => v = .int .i64 (x : Int)
  | 3, _, v, _ => v = .int .i64 ((x : Int) + 1)
  | 4, _, v, _ => v = .pointer (some ⟨A, 0, none⟩)
  | 5, _, v, _ => v = .slice pw n cw
  | 6, _, v, _ => v = .int .i64 (n : Int)
  | 7, L, v, w => ∃ p c, v = .slice p (wordsL ((x : Int) + 1) (n - (x + 1))).length c ∧ w.ownsRow B 3 1 (.slice p (wordsL ((x : Int) + 1) (n - (x + 1))).length c) (wordsL ((x : Int) + 1) (n - (x + 1))).length ((wordsL ((x : Int) + 1) (n - (x + 1))).map (Value.int .i64)) ∧ (wordsL ((x : Int) + 1) (n - (x + 1))).length ≤ c
  | _, _, _, _ => False
theorem spSp_stable (pw : Option Addr) (cw A n x B : Nat) : ∀ i L v w w', spSp pw cw A n x B i L v w → Rs.Gr w w' → spSp pw cw A n x B i L v w' := by
  intro i L v w w' h hg
  match i with
  | 0 => exact h
  | 1 => obtain ⟨p, c, h1, h2, h3⟩ := h; exact ⟨p, c, h1, own_below h2 hg, h3⟩
  | 2 => exact h
  | 3 => exact h
  | 4 => exact h
  | 5 => exact h
  | 6 => exact h
  | 7 => obtain ⟨p, c, h1, h2, h3⟩ := h; exact ⟨p, c, h1, own_below h2 hg, h3⟩

theorem app_none (p : Option Addr) (n c : Nat) (hnc : n ≤ c) (ty : TypeId) (W : World) : (Builtin.append_ #[28, 28] ty #[.slice p n c, .slice none 0 0]).run Try.prog W = .ok (.slice p n c) W := by
  obtain ⟨i0, hi0, hz0, hz1, hz2⟩ := info_parts A_infoI
  cases p <;> simp [Builtin.append_, run_underlying A_undI, sizeOf, typeInfo, hi0, Builtin.lenOf, Builtin.firstCells, hnc, storeCells]
theorem wpList_append_none {P : Program} {ops : Array Oper} {rest : List Oper} {o : Oper} {a : Act} {w : World} {Q : Exit → Act → World → Prop} (hgd : o.guard = none) (s x : Operand) (t : TypeId)
    (ho : o.op = .call { callee := .builtin .append, args := #[s, x], argTypes := #[t, t] }) (v : Value) (hs : a.eval s = v) (hx : a.eval x = .slice none 0 0)
    (hr : ∀ ty, (Builtin.append_ #[t, t] ty #[v, .slice none 0 0]).run P w = .ok v w) (h : wpList P ops Q rest (a.put o.dst v) w) : wpList P ops Q (o :: rest) a w :=
  wpList_plain hgd fun _ hK => by
    unfold Oper.wp execOp
    simp only [ho, resolve, invoke, builtin, Sem.run_bind, Sem.run_pure, Result.andThen_ok, List.map_toArray, List.map_cons, List.map_nil, hs, hx, hr]
    exact hK _ _ h
set_option maxHeartbeats 4000000 in
set_option maxRecDepth 100000 in
theorem rSpare_any (t : Text) (hl1 : t.words.length ≤ 1000000) (hl2 : t.turns.length ≤ 1000000) (pw pt : Option Addr) (cw ct : Nat) (w : World) (hW : TxAt w t pw pt) :
    Calls Try.prog 53 #[.agg #[.slice pw t.words.length cw, .slice pt t.turns.length ct, .int .i64 t.breath]] w (ListPost (spaL t) t.err w) := by
  obtain ⟨i0, hi0, hz0, hz1, hz2⟩ := info_parts A_infoI
  have HC := Lib.hid (fun W (h : Below w.heap.size w W) => rCheck_any t hl1 hl2 pw pt cw ct W (hW.below h))
  have HB := Lib.hid (below1 w (.cells #[.slice pw t.words.length cw, .slice pt t.turns.length ct, .int .i64 t.breath] 35))
  have HX := Lib.hid (heap_last w (.cells #[.slice pw t.words.length cw, .slice pt t.turns.length ct, .int .i64 t.breath] 35))
  have HW := Lib.hid hW
  clear hW
  by_cases he : t.err = 0
  · have ok := err_ok he
    have hn12 := ok.n12
    have hm6 := ok.m6
    have e1 : spaL t = spareTo t t.words.length := by unfold spaL; rw [if_pos he]
    rw [he] at HC
    rw [e1, he]
    have HSA := Lib.hid (fun (l : List Int) (hll : l.length ≤ 12) p c W (h : Below w.heap.size w W) hL => Said_any t (by omega) (fun u hu => by have := ok.turn u hu; omega) l (by omega) pt p ct c (.slice pw t.words.length cw) (.int .i64 t.breath) W (HW.out.turns.below h) hL)
    obtain ⟨k0, k1, k2⟩ := blk3 HX.out
    clear he e1 ok
    go_enter Try.func53, Try.ntmps53
    go_wp2_with fail
    refine (HC.out _ HB.out).mono ?_
    rintro e w5 ⟨rfl, hB5⟩
    have HX := Lib.hid ((hB5.block w.heap.size (Array.getElem?_eq_some_iff.1 HX.out).1).trans HX.out)
    have HB := Lib.hid (join HB.out hB5)
    have hz5 : w.heap.size < w5.heap.size := (Array.getElem?_eq_some_iff.1 HX.out).1
    clear hB5 k0 k1 k2
    go_wp2_with fail
    go_loopw [5, 6, 7] (fun v i _ wr => ∃ k : Nat, k ≤ t.words.length ∧ i = .int .i64 k ∧ wr.ownsRow w5.heap.size 3 1 v (spareTo t k).length ((spareTo t k).map (Value.int .i64)) ∧ Below w5.heap.size w5 wr ∧ (k = 0 ∨ 1 < t.words.length)) (fun _ i _ _ => t.words.length - (intOf i).toNat)
    case atStart => exact ⟨0, Nat.zero_le _, rfl, own_none _ _ _ _, Below.refl _ _, .inl rfl⟩
    case round =>
      obtain ⟨wo, rfl⟩ : ∃ w0 : World, w0 = wr := ⟨_, rfl⟩
      obtain ⟨k, hk, rfl, hown, hBr, hk1⟩ := hrel
      have HO := Lib.hid hown
      have HBr := Lib.hid hBr
      have hz7 := hBr.size
      have hsl := spareTo_len t k
      have HSN := Lib.hid (spareTo_succ t k)
      have HXr := Lib.hid ((hBr.block w.heap.size (by omega)).trans HX.out)
      obtain ⟨k0, k1, k2⟩ := blk3 HXr.out
      clear hown hBr
      by_cases hlt : k < t.words.length ∧ 1 < t.words.length
      · obtain ⟨hlt, h1⟩ := hlt
        have hlt' : (k : Int) < t.words.length := by omega
        have h1' : (1 : Int) < t.words.length := by omega
        have hsum : IntKind.i64.wrap ((k : Int) + 1) = (k : Int) + 1 := IntWalk.i64_in _ (by omega)
        have HW1 : Hid (∀ W, Calls Try.prog 93 #[.int .i64 0, .int .i64 (k : Int)] W (RowPost (wordsL 0 k) W)) := Lib.hid (fun W => by
          have := words_any 0 k (by omega) (by omega) W
          rwa [show ((k : Int) - 0).toNat = k by omega] at this)
        have HW2 : Hid (∀ W, Calls Try.prog 93 #[.int .i64 ((k : Int) + 1), .int .i64 (t.words.length : Int)] W (RowPost (wordsL ((k : Int) + 1) (t.words.length - (k + 1))) W)) := Lib.hid (fun W => by
          have := words_any ((k : Int) + 1) t.words.length (by omega) (by omega) W
          rwa [show ((t.words.length : Int) - ((k : Int) + 1)).toNat = t.words.length - (k + 1) by omega] at this)
        have HZ0 : w.heap.size < wo.heap.size := by omega
        have HPK : Hid (spareP t k = !decide (0 < (rsaid t (Go.Proofs.Ytadnggecnjdhiaa.wo t.words.length k)).length)) := Lib.hid (by
          unfold spareP; rw [wo_len2 _ _ hlt, decide_eq_true (by omega), Bool.true_and, said_keeps])
        have HWW := Lib.hid (wo_words t.words.length k hlt)
        have hln := wo_len2 t.words.length k hlt
        go_wp2_with fail
        refine Rs.region_gen 8 [[], [0], [], [2], [], [4], [4, 5], [0, 1, 2, 3, 4, 5, 6]] [some 26, some 27, some 28, some 29, some 30, some 31, some 32, some 33] (spSp pw cw w.heap.size t.words.length k wo.heap.size) (by kernel_rfl) (by kernel_rfl) rfl (spSp_stable _ _ _ _ _ _) ?_ ?_
        · refine ⟨fun V w' hG hs => ?_, fun V w' hG hs => ?_, fun V w' hG hs => ?_, fun V w' hG hs => ?_, fun V w' hG hs => ?_, fun V w' hG hs => ?_, fun V w' hG hs => ?_, fun V w' hG hs => ?_, trivial⟩
          all_goals
            obtain ⟨k0, k1, k2⟩ := blk3 ((hG.block w.heap.size HZ0).trans HXr.out)
          · rw [if_pos (by rfl)]
            exact Rs.GrowL.value (v := .int .i64 (k : Int)) (w' := w') (by simp [go_sem, Rs.look]) (Rs.Gr.refl _) rfl
          · have e0 : V 0 = .int .i64 (k : Int) := hs 0 (by simp)
            rw [if_pos (by rfl)]
            refine Rs.GrowL.call (f := 93) (args := #[.int .i64 0, .int .i64 (k : Int)]) (by simp [go_sem, Rs.look, e0]) ?_
            refine (HW1.out w').mono ?_
            rintro e w2 ⟨v, rfl, ho, hB2⟩
            obtain ⟨p, c, rfl, hI, -, -, hlc⟩ := own_rd ho rfl
            exact ⟨_, rfl, hB2, p, c, rfl, own_base ho hG.size, hlc⟩
          · rw [if_pos (by rfl)]
            exact Rs.GrowL.value (v := .int .i64 (k : Int)) (w' := w') (by simp [go_sem, Rs.look]) (Rs.Gr.refl _) rfl
          · have e2 : V 2 = .int .i64 (k : Int) := hs 2 (by simp)
            rw [if_pos (by rfl)]
            exact Rs.GrowL.value (v := .int .i64 ((k : Int) + 1)) (w' := w') (by simp [go_sem, Rs.look, e2, hsum]) (Rs.Gr.refl _) rfl
          · rw [if_pos (by rfl)]
            exact Rs.GrowL.value (v := .pointer (some ⟨w.heap.size, 0, none⟩)) (w' := w') (by simp [go_sem, Rs.look]) (Rs.Gr.refl _) rfl
          · have e4 : V 4 = .pointer (some ⟨w.heap.size, 0, none⟩) := hs 4 (by simp)
            rw [if_pos (by rfl)]
            exact Rs.GrowL.value (v := .slice pw t.words.length cw) (w' := w') (by simp [go_sem, Rs.look, e4, k0]) (Rs.Gr.refl _) rfl
          · have e4 : V 4 = .pointer (some ⟨w.heap.size, 0, none⟩) := hs 4 (by simp)
            have e5 : V 5 = .slice pw t.words.length cw := hs 5 (by simp)
            rw [if_pos (by rfl)]
            exact Rs.GrowL.value (v := .int .i64 (t.words.length : Int)) (w' := w') (by simp [go_sem, Rs.look, e4, e5]) (Rs.Gr.refl _) rfl
          · have e0 : V 0 = .int .i64 (k : Int) := hs 0 (by simp)
            have r1 := hs 1 (by simp)
            have e2 : V 2 = .int .i64 (k : Int) := hs 2 (by simp)
            have e3 : V 3 = .int .i64 ((k : Int) + 1) := hs 3 (by simp)
            have e4 : V 4 = .pointer (some ⟨w.heap.size, 0, none⟩) := hs 4 (by simp)
            have e5 : V 5 = .slice pw t.words.length cw := hs 5 (by simp)
            have e6 : V 6 = .int .i64 (t.words.length : Int) := hs 6 (by simp)
            rw [if_pos (by rfl)]
            refine Rs.GrowL.call (f := 93) (args := #[.int .i64 ((k : Int) + 1), .int .i64 (t.words.length : Int)]) (by simp [go_sem, Rs.look, e3, e6]) ?_
            refine (HW2.out w').mono ?_
            rintro e w2 ⟨v, rfl, ho, hB2⟩
            obtain ⟨p, c, rfl, hI, -, -, hlc⟩ := own_rd ho rfl
            exact ⟨_, rfl, hB2, p, c, rfl, own_base ho hG.size, hlc⟩
        · intro V w' hG hs
          have e0 : V 0 = .int .i64 (k : Int) := hs 0 (by omega)
          have r1 := hs 1 (by omega)
          have e2 : V 2 = .int .i64 (k : Int) := hs 2 (by omega)
          have e3 : V 3 = .int .i64 ((k : Int) + 1) := hs 3 (by omega)
          have e4 : V 4 = .pointer (some ⟨w.heap.size, 0, none⟩) := hs 4 (by omega)
          have e5 : V 5 = .slice pw t.words.length cw := hs 5 (by omega)
          have e6 : V 6 = .int .i64 (t.words.length : Int) := hs 6 (by omega)
          have r7 := hs 7 (by omega)
          obtain ⟨pa, ca, e1, oa, hca⟩ := r1
          obtain ⟨pb, cb, e7, ob, hcb⟩ := r7
          simp only [Rs.canon, Rs.dstOf, List.range_succ, List.range_zero, List.nil_append, List.cons_append, List.foldl_cons, List.foldl_nil, List.drop_succ_cons, List.drop_zero, List.drop_nil, List.getElem?_toArray, List.getElem?_cons_succ, List.getElem?_cons_zero, Option.bind_some, Act.put, List.getD_cons_succ, List.getD_cons_zero, List.setIfInBounds_toArray, List.set_cons_succ, List.set_cons_zero]
          rw [e0, e2, e3, e4, e5, e6, e1, e7]
          clear e0 e2 e3 e4 e5 e6 e1 e7 hs
          have hzG := hG.size
          have hal : (wordsL (0 : Int) k).length = k := wordsL_length _ _
          have hbl : (wordsL ((k : Int) + 1) (t.words.length - (k + 1))).length = t.words.length - (k + 1) := wordsL_length _ _
          have HAL := Lib.hid hal
          have HBL := Lib.hid hbl
          clear hal hbl k0 k1 k2
          rcases ob.2 with ⟨hv, hn0⟩ | ⟨g, cap, cur, hv, hgb, hgc, hrest⟩
          · rw [hv]
            have happ := fun ty W => app_none pa (wordsL (0 : Int) k).length ca hca ty W
            have hLA : Go.Proofs.Ytadnggecnjdhiaa.wo t.words.length k = wordsL (0 : Int) k := by rw [← HWW.out, List.length_eq_zero_iff.1 hn0, List.append_nil]
            rw [hLA] at HPK
            obtain ⟨p', c', e', hIL, -⟩ := own_rd oa rfl
            injection e' with e' _ e''; subst e'; subst e''
            have HG9 := Lib.hid hG
            clear oa ob hv hn0 hLA hca hcb hG HWW
            have hl12 : (wordsL (0 : Int) k).length ≤ 12 := by have := HAL.out; omega
            have HIL := Lib.hid hIL
            have HO := Lib.hid (own_below HO.out HG9.out)
            have HXr := Lib.hid ((HG9.out.block w.heap.size (by omega)).trans HXr.out)
            have HBr := Lib.hid (join HBr.out HG9.out)
            obtain ⟨k0, k1, k2⟩ := blk3 HXr.out
            clear hIL HG9
            generalize (wordsL (0 : Int) k) = l at HIL HPK hl12 happ ⊢
            go_wp2_with (at_builtin; refine wpList_append_none rfl _ _ 28 rfl _ rfl rfl (fun ty => happ ty _) ?_)
            refine (HSA.out l hl12 _ _ _ (join HB.out HBr.out) HIL.out).mono ?_
            rintro e w8 ⟨v8, rfl, ho, hB⟩
            obtain ⟨sp, sc, rfl⟩ := own_val ho
            have HO := Lib.hid (own_below HO.out hB)
            have HBr := Lib.hid (join HBr.out hB)
            have hz8 := HBr.out.size
            clear hB ho k0 k1 k2
            generalize (rsaid t l).length = sn at HPK ⊢
            by_cases hs : sn = 0
            · subst hs
              have HF : Hid (spareP t k = true) := Lib.hid (by rw [HPK.out]; rfl)
              clear HPK
              go_wp2_with (at_builtin; refine wpList_append_own _ rfl _ _ 28 rfl w5.heap.size 3 i0 (.int .i64 0) 1 8 A_undI hi0 hz0 hz1 hz2 rfl (by decide) _ _ _ rfl (HO.out.alloc _) ⟨w8.heap.size, 0, none⟩ 1 1 [.int .i64 (k : Int)] rfl rfl ?f1 ?f2 ?f3 ?f4 ?f5 ?_)
              case f1 => exact cell_one_new _ _ _
              case f2 => first | rfl | (intro u hu; simp at hu; subst hu; rfl)
              case f3 => unfold maxLen; omega
              case f4 => omega
              case f5 => first | omega | (simp; omega)
              intro v' w9 hown8 hgrow _
              have hB8 := below_grown (al2 HBr.out (by omega) _) (HO.out.alloc _) (Nat.le_refl _) (by simp; omega) hgrow
              have HO8 := Lib.hid hown8
              have HB8 := Lib.hid hB8
              clear hgrow hown8 hB8
              go_wp2
              go_roundw
              case rel => exact ⟨k + 1, by omega, by go_num, by rw [HSN.out, if_pos HF.out]; simpa using HO8.out, HB8.out, .inr h1⟩
              case measure => simp [intOf]; omega
            · have hs' : ((sn : Int) == 0) = false := by rw [beq_eq_false_iff_ne]; omega
              have HF : Hid (spareP t k = false) := Lib.hid (by rw [HPK.out, decide_eq_true (by omega)]; rfl)
              clear HPK hs
              go_wp2
              go_roundw
              case rel => exact ⟨k + 1, by omega, by go_num, by rw [HSN.out, HF.out]; simpa using HO.out, HBr.out, .inr h1⟩
              case measure => simp [intOf]; omega
          · have hob := own_rd ob rfl
            obtain ⟨p', c', e', hIB, -⟩ := hob
            injection e' with e' _ e''; subst e'; subst e''
            injection hv with hv1 hv2 hv3
            subst hv1
            have hnews : ∀ j u, ((wordsL ((k : Int) + 1) (t.words.length - (k + 1))).map (Value.int .i64))[j]? = some u → w'.cell? ((⟨g, 0, none⟩ : Addr).add j) = some u := fun j u hj => ob.cells (g := g) rfl j u hj
            have HOA := Lib.hid oa
            have HG0 := Lib.hid hG
            have HNW := Lib.hid hnews
            clear oa ob hrest hgc hIB hca hcb hG hnews hv3
            go_wp2_with (at_builtin; refine wpList_append_own _ rfl _ _ 28 rfl wo.heap.size 3 i0 (.int .i64 0) 1 8 A_undI hi0 hz0 hz1 hz2 rfl (by decide) _ _ _ rfl HOA.out ⟨g, 0, none⟩ (wordsL ((k : Int) + 1) (t.words.length - (k + 1))).length _ ((wordsL ((k : Int) + 1) (t.words.length - (k + 1))).map (Value.int .i64)) rfl (by rw [List.length_map, Nat.mul_one]) HNW.out ?g2 ?g3 ?g4 ?g5 ?_)
            case g2 => intro u hu; obtain ⟨x, _, rfl⟩ := List.mem_map.1 hu; rfl
            case g3 => have := HAL.out; have := HBL.out; unfold maxLen; omega
            case g4 => have := HAL.out; have := HBL.out; omega
            try (case g5 => omega)
            intro v9 w9 hown9 hgrow9 _
            have HG9 := Lib.hid (below_grown HG0.out HOA.out (Nat.le_refl _) (by omega) hgrow9)
            rw [← List.map_append] at hown9
            obtain ⟨q9, d9, rfl, hIL, -⟩ := own_rd hown9 (by rw [List.length_append])
            rw [← HWW.out] at HPK
            clear hown9 hgrow9 HOA HG0 HNW
            have hl12 : (wordsL (0 : Int) k ++ wordsL ((k : Int) + 1) (t.words.length - (k + 1))).length ≤ 12 := by rw [List.length_append]; have := HAL.out; have := HBL.out; omega
            have HIL := Lib.hid hIL
            have HO := Lib.hid (own_below HO.out HG9.out)
            have HXr := Lib.hid ((HG9.out.block w.heap.size (by omega)).trans HXr.out)
            have HBr := Lib.hid (join HBr.out HG9.out)
            obtain ⟨k0, k1, k2⟩ := blk3 HXr.out
            clear hIL HG9
            generalize (wordsL (0 : Int) k ++ wordsL ((k : Int) + 1) (t.words.length - (k + 1))) = l at HIL HPK hl12 ⊢
            go_wp2_with fail
            refine (HSA.out l hl12 _ _ _ (join HB.out HBr.out) HIL.out).mono ?_
            rintro e w8 ⟨v8, rfl, ho, hB⟩
            obtain ⟨sp, sc, rfl⟩ := own_val ho
            have HO := Lib.hid (own_below HO.out hB)
            have HBr := Lib.hid (join HBr.out hB)
            have hz8 := HBr.out.size
            clear hB ho k0 k1 k2
            generalize (rsaid t l).length = sn at HPK ⊢
            by_cases hs : sn = 0
            · subst hs
              have HF : Hid (spareP t k = true) := Lib.hid (by rw [HPK.out]; rfl)
              clear HPK
              go_wp2_with (at_builtin; refine wpList_append_own _ rfl _ _ 28 rfl w5.heap.size 3 i0 (.int .i64 0) 1 8 A_undI hi0 hz0 hz1 hz2 rfl (by decide) _ _ _ rfl (HO.out.alloc _) ⟨w8.heap.size, 0, none⟩ 1 1 [.int .i64 (k : Int)] rfl rfl ?h1 ?h2 ?h3 ?h4 ?h5 ?_)
              case h1 => exact cell_one_new _ _ _
              case h2 => first | rfl | (intro u hu; simp at hu; subst hu; rfl)
              case h3 => unfold maxLen; omega
              case h4 => omega
              case h5 => first | omega | (simp; omega)
              intro v' wz hown8 hgrow _
              have hB8 := below_grown (al2 HBr.out (by omega) _) (HO.out.alloc _) (Nat.le_refl _) (by simp; omega) hgrow
              have HO8 := Lib.hid hown8
              have HB8 := Lib.hid hB8
              clear hgrow hown8 hB8
              go_wp2
              go_roundw
              case rel => exact ⟨k + 1, by omega, by go_num, by rw [HSN.out, if_pos HF.out]; simpa using HO8.out, HB8.out, .inr h1⟩
              case measure => simp [intOf]; omega
            · have hs' : ((sn : Int) == 0) = false := by rw [beq_eq_false_iff_ne]; omega
              have HF : Hid (spareP t k = false) := Lib.hid (by rw [HPK.out, decide_eq_true (by omega)]; rfl)
              clear HPK hs
              go_wp2
              go_roundw
              case rel => exact ⟨k + 1, by omega, by go_num, by rw [HSN.out, HF.out]; simpa using HO.out, HBr.out, .inr h1⟩
              case measure => simp [intOf]; omega
      · by_cases hkn : k < t.words.length
        · have hkn' : (k : Int) < t.words.length := by omega
          have h1' : ¬ (1 : Int) < t.words.length := by omega
          have HF : Hid (spareTo t t.words.length = spareTo t k) := Lib.hid (by
            rw [show t.words.length = k + 1 by omega, spareTo_succ]
            have : spareP t k = false := by unfold spareP; rw [wo_len2 _ _ hkn, decide_eq_false (by omega), Bool.false_and]
            rw [this]; simp)
          clear HSN hlt
          go_wp2
          go_ret2
          refine ⟨_, rfl, ?_, join HB.out HBr.out⟩
          rw [HF.out]
          exact own_base HO.out (by omega)
        · obtain rfl : k = t.words.length := by omega
          clear HSN hlt
          go_wp2
          go_ret2
          exact ⟨_, rfl, own_base HO.out (by omega), join HB.out HBr.out⟩
  · have e1 : spaL t = [] := by unfold spaL; rw [if_neg he]
    have HE : (t.err != 0) = true := by simpa using he
    obtain ⟨k0, k1, k2⟩ := blk3 HX.out
    rw [e1]
    clear he e1
    generalize t.err = er at HC HE ⊢
    go_enter Try.func53, Try.ntmps53
    go_wp2_with fail
    refine (HC.out _ HB.out).mono ?_
    rintro e w5 ⟨rfl, hB5⟩
    have HB5 := Lib.hid (join HB.out hB5)
    clear hB5
    go_wp2
    go_ret2
    exact ⟨_, rfl, own_none _ _ _ _, HB5.out⟩
end Go.Proofs.Ytadnggecnjdhiaa
namespace Go.Proofs.Ytadnggecnjdhiaa
open Tx
set_option linter.unusedSimpArgs false
set_option linter.unusedVariables false

theorem mem_brs {may : Nat → Nat → Bool} {n a b : Nat} : b ∈ brs may n a ↔ a < b ∧ b ≤ n ∧ may a b = true := by
  unfold brs
  rw [List.mem_filter, List.mem_range'_1]
  constructor
  · rintro ⟨h1, h2⟩; exact ⟨by omega, by omega, h2⟩
  · rintro ⟨h1, h2, h3⟩; exact ⟨by omega, h3⟩
theorem low1_size (m : Marks) (a b : Nat) : (low1 m a b).length = m.length := by simp [low1]
theorem low1_get (m : Marks) (a b p : Nat) (hb : b < m.length) : (low1 m a b).getD p 0 = if p = b then min (m.getD b 0) (m.getD a 0 + 1) else m.getD p 0 := by
  unfold low1
  by_cases h : p = b
  · subst h; rw [if_pos rfl]; simp [List.getElem?_set, hb]
  · rw [if_neg h]; simp [List.getElem?_set, Ne.symm h]
theorem row_get (a : Nat) : ∀ (bs : List Nat) (m : Marks), (∀ b ∈ bs, a < b ∧ b < m.length) → (bs.foldl (fun m b => low1 m a b) m).length = m.length ∧
    ∀ p, (bs.foldl (fun m b => low1 m a b) m).getD p 0 = if p ∈ bs then min (m.getD p 0) (m.getD a 0 + 1) else m.getD p 0
  | [], m, _ => ⟨rfl, fun p => by simp⟩
  | b :: bs, m, h => by
    have hb := h b (by simp)
    obtain ⟨ih1, ih2⟩ := row_get a bs (low1 m a b) (fun x hx => by rw [low1_size]; exact h x (by simp [hx]))
    rw [List.foldl_cons]
    refine ⟨by rw [ih1, low1_size], fun p => ?_⟩
    rw [ih2 p, low1_get m a b p hb.2, low1_get m a b a hb.2, if_neg (show a ≠ b by omega)]
    by_cases h1 : p = b
    · subst h1
      by_cases h2 : p ∈ bs
      · simp [h2]
      · simp [h2]
    · by_cases h2 : p ∈ bs <;> simp [h1, h2]
structure MarkInv (may : Nat → Nat → Bool) (n a : Nat) (m : Marks) : Prop where
  len : m.length = 13
  zero : m.getD 0 0 = 0
  bd : ∀ p, 0 ≤ m.getD p 0 ∧ m.getD p 0 ≤ 99
  hold : ∀ x b, x < a → x < b → b ≤ n → may x b = true → m.getD b 0 ≤ m.getD x 0 + 1
  back : ∀ b, 1 ≤ b → b ≤ n → m.getD b 0 = 99 ∨ ∃ x, x < a ∧ x < b ∧ may x b = true ∧ m.getD x 0 + 1 = m.getD b 0
theorem MarkInv.step {may : Nat → Nat → Bool} {n a : Nat} {m : Marks} (hn : n ≤ 12) (ha : a < n) (h : MarkInv may n a m) : MarkInv may n (a + 1) (lowRow may n m a) := by
  obtain ⟨g1, g2⟩ := row_get a (brs may n a) m (fun b hb => by rw [mem_brs] at hb; rw [h.len]; omega)
  have g3 : ∀ p, p ≤ a → (lowRow may n m a).getD p 0 = m.getD p 0 := fun p hp => by
    unfold lowRow; rw [g2, if_neg (by rw [mem_brs]; omega)]
  have gle : ∀ p, (lowRow may n m a).getD p 0 ≤ m.getD p 0 := fun p => by
    unfold lowRow; rw [g2]; split <;> omega
  have ha0 := (h.bd a).1
  refine ⟨by unfold lowRow; rw [g1, h.len], by rw [g3 0 (by omega), h.zero], fun p => ?_, fun x b hx hxb hbn hm => ?_, fun b h1 hbn => ?_⟩
  · have := h.bd p
    unfold lowRow; rw [g2]; split <;> omega
  · rcases Nat.lt_succ_iff_lt_or_eq.1 hx with hx | rfl
    · rw [g3 x (by omega)]
      have := h.hold x b hx hxb hbn hm
      have := gle b
      omega
    · rw [g3 x (Nat.le_refl _)]
      unfold lowRow
      rw [g2, if_pos (by rw [mem_brs]; exact ⟨hxb, hbn, hm⟩)]
      omega
  · by_cases hb : b ∈ brs may n a
    · have hb' := mem_brs.1 hb
      have e : (lowRow may n m a).getD b 0 = min (m.getD b 0) (m.getD a 0 + 1) := by unfold lowRow; rw [g2, if_pos hb]
      by_cases hlt : m.getD a 0 + 1 < m.getD b 0
      · right
        exact ⟨a, by omega, hb'.1, hb'.2.2, by rw [e, g3 a (Nat.le_refl _)]; omega⟩
      · rw [e, show min (m.getD b 0) (m.getD a 0 + 1) = m.getD b 0 by omega]
        rcases h.back b h1 hbn with hx | ⟨x, x1, x2, x3, x4⟩
        · exact .inl hx
        · exact .inr ⟨x, by omega, x2, x3, by rw [g3 x (by omega), x4]⟩
    · have e : (lowRow may n m a).getD b 0 = m.getD b 0 := by unfold lowRow; rw [g2, if_neg hb]
      rw [e]
      rcases h.back b h1 hbn with hx | ⟨x, x1, x2, x3, x4⟩
      · exact .inl hx
      · exact .inr ⟨x, by omega, x2, x3, by rw [g3 x (by omega), x4]⟩
theorem top_get (n p : Nat) (hn : n ≤ 12) : (top n).getD p 0 = if 1 ≤ p ∧ p ≤ n then 99 else 0 := by
  unfold top
  by_cases hp : p < 13
  · simp [List.getElem?_range, hp]
  · rw [List.getD_eq_getElem?_getD, List.getElem?_eq_none (by simp; omega), if_neg (by omega)]; rfl
theorem greatest_inv (may : Nat → Nat → Bool) (n : Nat) (hn : n ≤ 12) : MarkInv may n n (greatest may n) := by
  have : ∀ k, k ≤ n → MarkInv may n k ((List.range k).foldl (lowRow may n) (top n)) := by
    intro k
    induction k with
    | zero =>
      intro _
      refine ⟨by simp [top], by simp only [List.range_zero, List.foldl_nil]; rw [top_get _ _ hn]; rfl, fun p => ?_, fun x b hx => by omega, fun b h1 h2 => ?_⟩
      · simp only [List.range_zero, List.foldl_nil]; rw [top_get _ _ hn]; split <;> omega
      · simp only [List.range_zero, List.foldl_nil]; rw [top_get _ _ hn, if_pos ⟨h1, h2⟩]; exact .inl rfl
    | succ k ih =>
      intro hk
      rw [List.range_succ, List.foldl_append, List.foldl_cons, List.foldl_nil]
      exact (ih (by omega)).step hn (by omega)
  exact this n (Nat.le_refl _)

/-- all breaths of a reading are allowed, from a place on -/
def okFrom (may : Nat → Nat → Bool) : Nat → List Int → Bool
  | _, [] => true
  | a, x :: l => may a (a + x.toNat) && okFrom may (a + x.toNat) l
/-- numbers of at least 1 that add up -/
def Parts (n : Int) (l : List Int) : Prop := (∀ x ∈ l, 1 ≤ x) ∧ isum l = n
theorem isum_ge {l : List Int} (h : ∀ x ∈ l, 1 ≤ x) : (l.length : Int) ≤ isum l := by
  induction l with
  | nil => simp [isum]
  | cons x l ih =>
    have h1 := h x (by simp)
    have h2 := ih fun y hy => h y (by simp [hy])
    rw [isum_cons, List.length_cons]; omega
theorem parts_nil {l : List Int} (h : Parts 0 l) : l = [] := by
  have h1 := isum_ge h.1
  have h2 := h.2
  exact List.length_eq_zero_iff.1 (by omega)
theorem parts_cons {n x : Int} {l : List Int} : Parts n (x :: l) ↔ 1 ≤ x ∧ Parts (n - x) l := by
  unfold Parts
  rw [isum_cons]
  constructor
  · rintro ⟨h1, h2⟩; exact ⟨h1 x (by simp), fun y hy => h1 y (by simp [hy]), by omega⟩
  · rintro ⟨h1, h2, h3⟩; exact ⟨fun y hy => (List.mem_cons.1 hy).elim (fun e => e ▸ h1) (h2 y), by omega⟩
theorem parts_pos {n : Int} {l : List Int} (h : Parts n l) : 0 ≤ n := by have := isum_ge h.1; have := h.2; omega
theorem parts_append {m n : Int} {k l : List Int} (h1 : Parts m k) (h2 : Parts n l) : Parts (m + n) (k ++ l) :=
  ⟨fun x hx => (List.mem_append.1 hx).elim (h1.1 x) (h2.1 x), by rw [isum_append, h1.2, h2.2]⟩
theorem okFrom_append (may : Nat → Nat → Bool) : ∀ (k l : List Int) (a : Nat), (∀ x ∈ k, 0 ≤ x) → okFrom may a (k ++ l) = (okFrom may a k && okFrom may (a + (isum k).toNat) l)
  | [], l, a, _ => by simp [okFrom, isum]
  | x :: k, l, a, h => by
    have hx := h x (by simp)
    have hk : 0 ≤ isum k := by
      have : ∀ (q : List Int), (∀ y ∈ q, 0 ≤ y) → 0 ≤ isum q := by
        intro q
        induction q with
        | nil => intro _; simp [isum]
        | cons y q ih => intro hq; rw [isum_cons]; have := hq y (by simp); have := ih (fun z hz => hq z (by simp [hz])); omega
      exact this k fun y hy => h y (by simp [hy])
    rw [List.cons_append, okFrom, okFrom, okFrom_append may k l _ (fun y hy => h y (by simp [hy])), isum_cons, Bool.and_assoc]
    congr 3
    omega
/-- no reading from a place to another one has fewer breaths than their marks say -/
theorem marks_low {may : Nat → Nat → Bool} {n : Nat} {m : Marks} (h : MarkInv may n n m) : ∀ (l : List Int) (a b : Nat), Parts ((b : Int) - a) l → b ≤ n → okFrom may a l = true → m.getD b 0 ≤ m.getD a 0 + l.length
  | [], a, b, hp, _, _ => by
    have := hp.2; simp [isum] at this
    have : a = b := by omega
    subst this; simp
  | x :: l, a, b, hp, hb, hok => by
    rw [parts_cons] at hp
    obtain ⟨h1, h2⟩ := hp
    have h3 := parts_pos h2
    rw [okFrom, Bool.and_eq_true] at hok
    have e : (b : Int) - ((a + x.toNat : Nat) : Int) = (b : Int) - a - x := by omega
    have ih := marks_low h l (a + x.toNat) b (by rw [e]; exact h2) hb hok.2
    have hh := h.hold a (a + x.toNat) (by omega) (by omega) (by omega) hok.1
    rw [List.length_cons]; push_cast; omega
theorem before_spec {may : Nat → Nat → Bool} {n : Nat} {m : Marks} (h : MarkInv may n n m) {b : Nat} (h1 : 1 ≤ b) (hb : b ≤ n) (hm : m.getD b 0 < 99) : Tx.before may m b < b ∧ may (Tx.before may m b) b = true ∧ m.getD (Tx.before may m b) 0 + 1 = m.getD b 0 := by
  unfold Tx.before
  cases hf : (List.range b).find? (befP may m b) with
  | some x =>
    have h2 := List.find?_some hf
    have h3 := List.mem_of_find?_eq_some hf
    simp only [Option.getD_some]
    unfold befP at h2
    rw [Bool.and_eq_true, beq_iff_eq] at h2
    exact ⟨List.mem_range.1 h3, h2.2, h2.1⟩
  | none =>
    exfalso
    rcases h.back b h1 hb with e | ⟨x, x1, x2, x3, x4⟩
    · omega
    · have := List.find?_eq_none.1 hf x (List.mem_range.2 x2)
      apply this
      unfold befP; rw [Bool.and_eq_true, beq_iff_eq]; exact ⟨x4, x3⟩
theorem walk_spec {may : Nat → Nat → Bool} {n : Nat} {m : Marks} (h : MarkInv may n n m) : ∀ (f b : Nat), b ≤ f → b ≤ n → m.getD b 0 < 99 → Parts b (walkBack may m f b).reverse ∧ okFrom may 0 (walkBack may m f b).reverse = true ∧ ((walkBack may m f b).length : Int) = m.getD b 0
  | 0, b, hf, _, _ => by
    have : b = 0 := by omega
    subst this
    refine ⟨⟨by simp [walkBack], by simp [walkBack, isum]⟩, by simp [walkBack, okFrom], ?_⟩
    rw [h.zero]; simp [walkBack]
  | f + 1, b, hf, hb, hm => by
    by_cases h0 : b = 0
    · subst h0
      refine ⟨⟨by simp [walkBack], by simp [walkBack, isum]⟩, by simp [walkBack, okFrom], ?_⟩
      rw [h.zero]; simp [walkBack]
    · obtain ⟨g1, g2, g3⟩ := before_spec h (by omega) hb hm
      rw [walkBack, if_neg h0]
      generalize Tx.before may m b = a at g1 g2 g3
      obtain ⟨i1, i2, i3⟩ := walk_spec h f a (by omega) (by omega) (by have := (h.bd a).2; omega)
      rw [List.reverse_cons]
      have hp : Parts ((b : Int) - a) [(b : Int) - (a : Int)] := ⟨fun x hx => by rw [List.mem_singleton.1 hx]; omega, by simp [isum]⟩
      refine ⟨?_, ?_, ?_⟩
      · have := parts_append i1 hp
        rwa [show (a : Int) + ((b : Int) - a) = b by omega] at this
      · rw [okFrom_append _ _ _ _ (fun x hx => by have := i1.1 x hx; omega), i2, i1.2, Bool.true_and, okFrom, okFrom, Bool.and_true]
        rw [show 0 + ((a : Int)).toNat = a by omega, show a + ((b : Int) - (a : Int)).toNat = b by omega]; exact g2
      · rw [List.length_cons]; push_cast; omega

/-- all readings of so many words, in order -/
def compF : Nat → Nat → List (List Int)
  | 0, n => if n = 0 then [[]] else []
  | f + 1, n => if n = 0 then [[]] else (List.range' 1 n).flatMap fun k => (compF f (n - k)).map fun l => (k : Int) :: l
theorem compF_mem : ∀ (f n : Nat) (l : List Int), n ≤ f → (l ∈ compF f n ↔ Parts n l)
  | 0, n, l, hf => by
    have : n = 0 := by omega
    subst this
    simp only [compF, if_true, List.mem_singleton]
    exact ⟨fun h => by subst h; exact ⟨by simp, rfl⟩, fun h => parts_nil h⟩
  | f + 1, n, l, hf => by
    rw [compF]
    by_cases h0 : n = 0
    · subst h0
      rw [if_pos rfl, List.mem_singleton]
      exact ⟨fun h => by subst h; exact ⟨by simp, rfl⟩, fun h => parts_nil h⟩
    · rw [if_neg h0, List.mem_flatMap]
      constructor
      · rintro ⟨k, hk, hl⟩
        obtain ⟨m, hm, rfl⟩ := List.mem_map.1 hl
        rw [List.mem_range'_1] at hk
        have := (compF_mem f (n - k) m (by omega)).1 hm
        rw [parts_cons]
        exact ⟨by omega, by rwa [show (n : Int) - (k : Int) = ((n - k : Nat) : Int) by omega]⟩
      · intro h
        cases l with
        | nil => have := h.2; simp [isum] at this; omega
        | cons x m =>
          rw [parts_cons] at h
          have h3 := parts_pos h.2
          refine ⟨x.toNat, by rw [List.mem_range'_1]; omega, List.mem_map.2 ⟨m, (compF_mem f _ m (by omega)).2 ?_, ?_⟩⟩
          · rw [show ((n - x.toNat : Nat) : Int) = (n : Int) - x by omega]; exact h.2
          · rw [show ((x.toNat : Nat) : Int) = x by omega]
theorem compF_eq : ∀ (f g n : Nat), n ≤ f → n ≤ g → compF f n = compF g n
  | 0, g, n, hf, _ => by
    have : n = 0 := by omega
    subst this
    cases g <;> simp [compF]
  | f + 1, 0, n, _, hg => by
    have : n = 0 := by omega
    subst this; simp [compF]
  | f + 1, g + 1, n, hf, hg => by
    rw [compF, compF]
    by_cases h0 : n = 0
    · rw [if_pos h0, if_pos h0]
    · rw [if_neg h0, if_neg h0]
      have e : ∀ k ∈ List.range' 1 n, ((compF f (n - k)).map fun l => (k : Int) :: l) = ((compF g (n - k)).map fun l => (k : Int) :: l) := fun k hk => by
        rw [List.mem_range'_1] at hk
        rw [compF_eq f g (n - k) (by omega) (by omega)]
      rw [List.flatMap_def, List.flatMap_def, List.map_congr_left e]
/-- all right readings, in order -/
def rights (may : Nat → Nat → Bool) (n : Nat) : List (List Int) := (compF n n).filter (okFrom may 0)
theorem mem_rights {may : Nat → Nat → Bool} {n : Nat} {l : List Int} : l ∈ rights may n ↔ Parts n l ∧ okFrom may 0 l = true := by
  unfold rights; rw [List.mem_filter, compF_mem n n l (Nat.le_refl _)]
theorem many_count (may : Nat → Nat → Bool) (n : Nat) : ∀ (f a : Nat), a ≤ n → n + 1 - a ≤ f → many may n f a = (compF (n - a) (n - a)).countP (okFrom may a)
  | 0, a, h1, h2 => by omega
  | f + 1, a, h1, h2 => by
    rw [many]
    by_cases h0 : a = n
    · subst h0
      rw [if_pos rfl, Nat.sub_self]; rfl
    · rw [if_neg h0]
      obtain ⟨q, hq⟩ : ∃ q, n - a = q + 1 := ⟨n - a - 1, by omega⟩
      rw [hq, compF, if_neg (by omega), List.countP_flatMap]
      unfold brs
      rw [hq]
      have : (List.range' (a + 1) (q + 1)) = (List.range' 1 (q + 1)).map (a + ·) := by
        rw [List.map_add_range']
      rw [this, List.filter_map, List.map_map]
      have key : ∀ (ks : List Nat), (∀ k ∈ ks, 1 ≤ k ∧ a + k ≤ n) → ((ks.filter (may a ∘ (a + ·))).map (many may n f ∘ (a + ·))).sum = (ks.map (List.countP (okFrom may a) ∘ fun k => (compF q (q + 1 - k)).map fun l => (k : Int) :: l)).sum := by
        intro ks
        induction ks with
        | nil => intro _; rfl
        | cons k ks ih =>
          intro hks
          have hk := hks k (by simp)
          have ih := ih fun x hx => hks x (by simp [hx])
          rw [List.map_cons, List.sum_cons, ← ih]
          have e : (List.countP (okFrom may a) ∘ fun k => (compF q (q + 1 - k)).map fun l => (k : Int) :: l) k = if may a (a + k) then many may n f (a + k) else 0 := by
            simp only [Function.comp_apply, List.countP_map]
            have e2 : (okFrom may a ∘ fun l => (k : Int) :: l) = fun l => may a (a + k) && okFrom may (a + k) l := by
              funext l; simp [okFrom]
            rw [e2]
            cases hm : may a (a + k) with
            | true =>
              simp only [Bool.true_and, if_true]
              rw [many_count may n f (a + k) (by omega) (by omega), compF_eq q (n - (a + k)) (q + 1 - k) (by omega) (by omega), show q + 1 - k = n - (a + k) by omega]
            | false => simp
          rw [e]
          cases hm : may a (a + k) with
          | true => rw [List.filter_cons_of_pos (by simpa using hm)]; simp
          | false => rw [List.filter_cons_of_neg (by simp [hm])]; simp
      exact key _ fun k hk => by rw [List.mem_range'_1] at hk; omega
theorem count_rights (may : Nat → Nat → Bool) (n : Nat) : count may n 0 = (rights may n).length := by
  unfold count rights
  rw [many_count may n _ 0 (by omega) (by omega), Nat.sub_zero, List.countP_eq_length_filter]
/-- the places at which a reading breaks -/
def breaksAt (l : List Int) (p : Nat) : Bool := (List.range l.length).any fun k => isum (l.take (k + 1)) == (p : Int)
theorem unbr_rights {may : Nat → Nat → Bool} {n p : Nat} (hn : n ≤ 12) (h1 : 1 ≤ p) (hp : p < n) : unbrP may n p = !(rights may n).any fun l => breaksAt l p := by
  have h := greatest_inv may n hn
  unfold unbrP
  rw [Bool.eq_iff_iff]
  simp only [Bool.or_eq_true, decide_eq_true_eq, beq_iff_eq, Bool.not_eq_true', List.any_eq_false]
  have hc : count may n p = (compF (n - p) (n - p)).countP (okFrom may p) := by
    unfold count; exact many_count may n _ p (by omega) (by omega)
  constructor
  · rintro hh l hl hb
    obtain ⟨g1, g2⟩ := mem_rights.1 hl
    unfold breaksAt at hb
    obtain ⟨k, hk, he⟩ := List.any_eq_true.1 hb
    rw [beq_iff_eq] at he
    have hs : l = l.take (k + 1) ++ l.drop (k + 1) := (List.take_append_drop _ _).symm
    have hp1 : Parts p (l.take (k + 1)) := ⟨fun x hx => g1.1 x (List.mem_of_mem_take hx), he⟩
    have hp2 : Parts (n - p : Nat) (l.drop (k + 1)) := ⟨fun x hx => g1.1 x (List.mem_of_mem_drop hx), by have := g1.2; rw [hs, isum_append, he] at this; omega⟩
    rw [hs, okFrom_append _ _ _ _ (fun x hx => by have := hp1.1 x hx; omega), Bool.and_eq_true, he, Int.toNat_natCast, Nat.zero_add] at g2
    rcases hh with hh | hh
    · have := marks_low h (l.take (k + 1)) 0 p (by simpa using hp1) (by omega) g2.1
      have h4 := isum_ge hp1.1
      rw [h.zero] at this
      have := hp1.2
      omega
    · rw [hc, List.countP_eq_zero] at hh
      exact hh _ ((compF_mem _ _ _ (Nat.le_refl _)).2 hp2) g2.2
  · intro hh
    by_cases h99 : 99 ≤ (greatest may n).getD p 0
    · exact .inl h99
    · right
      rw [hc, List.countP_eq_zero]
      intro l2 hl2 hok
      have hp2 := (compF_mem _ _ _ (Nat.le_refl _)).1 hl2
      obtain ⟨w1, w2, w3⟩ := walk_spec h p p (Nat.le_refl _) (by omega) (by omega)
      generalize (walkBack may (greatest may n) p p).reverse = l1 at w1 w2
      have hmem : l1 ++ l2 ∈ rights may n := mem_rights.2 ⟨by
        have := parts_append w1 hp2
        rwa [show (p : Int) + ((n - p : Nat) : Int) = n by omega] at this, by
        rw [okFrom_append _ _ _ _ (fun x hx => by have := w1.1 x hx; omega), w2, w1.2, Int.toNat_natCast, Nat.zero_add, hok]; rfl⟩
      apply hh _ hmem
      unfold breaksAt
      have hne : l1 ≠ [] := fun e => by subst e; have := w1.2; simp [isum] at this; omega
      have hlen : 0 < l1.length := List.length_pos_iff.2 hne
      refine List.any_eq_true.2 ⟨l1.length - 1, List.mem_range.2 (by rw [List.length_append]; omega), ?_⟩
      rw [show l1.length - 1 + 1 = l1.length by omega, List.take_left', beq_iff_eq]
      · exact w1.2
      · rfl
/-- the fewest breaths, in the reference's words -/
def bestLen : List (List Int) → Nat → Nat
  | [], b => b
  | l :: ls, b => bestLen ls (if b = 0 ∨ l.length < b then l.length else b)
theorem bestLen_zero : ∀ (ls : List (List Int)) (b : Nat), (∀ l ∈ ls, l ≠ []) → (bestLen ls b = 0 ↔ b = 0 ∧ ls = [])
  | [], b, _ => by simp [bestLen]
  | l :: ls, b, h => by
    rw [bestLen, bestLen_zero ls _ (fun x hx => h x (by simp [hx]))]
    have hl : 0 < l.length := List.length_pos_iff.2 (h l (by simp))
    constructor
    · rintro ⟨h1, h2⟩; split at h1 <;> omega
    · rintro ⟨_, h2⟩; cases h2
theorem bestLen_spec : ∀ (ls : List (List Int)) (b : Nat), (∀ l ∈ ls, l ≠ []) → (0 < b → bestLen ls b ≤ b) ∧ (∀ l ∈ ls, bestLen ls b ≤ l.length) ∧ (bestLen ls b = b ∨ ∃ l ∈ ls, bestLen ls b = l.length)
  | [], b, _ => ⟨fun _ => Nat.le_refl _, fun l hl => by simp at hl, .inl rfl⟩
  | l :: ls, b, h => by
    have hl : 0 < l.length := List.length_pos_iff.2 (h l (by simp))
    rw [bestLen]
    by_cases hc : b = 0 ∨ l.length < b
    · rw [if_pos hc]
      obtain ⟨i1, i2, i3⟩ := bestLen_spec ls l.length (fun x hx => h x (by simp [hx]))
      have := i1 hl
      refine ⟨fun hb => by omega, fun x hx => ?_, .inr ?_⟩
      · rcases List.mem_cons.1 hx with rfl | hx
        · exact this
        · exact i2 x hx
      · rcases i3 with e | ⟨x, hx, e⟩
        · exact ⟨l, by simp, e⟩
        · exact ⟨x, by simp [hx], e⟩
    · rw [if_neg hc]
      obtain ⟨i1, i2, i3⟩ := bestLen_spec ls b (fun x hx => h x (by simp [hx]))
      have := i1 (by omega)
      refine ⟨fun _ => this, fun x hx => ?_, ?_⟩
      · rcases List.mem_cons.1 hx with rfl | hx
        · omega
        · exact i2 x hx
      · rcases i3 with e | ⟨x, hx, e⟩
        · exact .inl e
        · exact .inr ⟨x, by simp [hx], e⟩
theorem rights_ne {may : Nat → Nat → Bool} {n : Nat} (hn1 : 1 ≤ n) : ∀ l ∈ rights may n, l ≠ [] := fun l hl e => by
  have := (mem_rights.1 hl).1.2
  subst e; simp [isum] at this; omega
/-- Fewest tells a right reading with the fewest breaths, or there is none -/
theorem fewest_rights {may : Nat → Nat → Bool} {n : Nat} (hn1 : 1 ≤ n) (hn : n ≤ 12) : ((fewest may n).1.length = bestLen (rights may n) 0) ∧ ((fewest may n).2 = if bestLen (rights may n) 0 = 0 then 6 else 0) ∧ ((fewest may n).2 = 0 → (fewest may n).1 ∈ rights may n) ∧ ((fewest may n).2 = 0 ↔ rights may n ≠ []) := by
  have h := greatest_inv may n hn
  have hne := rights_ne (may := may) hn1
  obtain ⟨b1, b2, b3⟩ := bestLen_spec (rights may n) 0 hne
  have b0 := bestLen_zero (rights may n) 0 hne
  have low : ∀ l ∈ rights may n, (greatest may n).getD n 0 ≤ l.length := fun l hl => by
    obtain ⟨g1, g2⟩ := mem_rights.1 hl
    have := marks_low h l 0 n (by simpa using g1) (Nat.le_refl _) g2
    rw [h.zero] at this; omega
  unfold fewest
  by_cases hm : (greatest may n).getD n 0 < 99
  · rw [if_pos hm]
    obtain ⟨w1, w2, w3⟩ := walk_spec h n n (Nat.le_refl _) (Nat.le_refl _) hm
    have hin : (walkBack may (greatest may n) n n).reverse ∈ rights may n := mem_rights.2 ⟨w1, w2⟩
    have hz : bestLen (rights may n) 0 ≠ 0 := fun e => by have := (b0.1 e).2; rw [this] at hin; simp at hin
    dsimp only
    refine ⟨?_, by rw [if_neg hz], fun _ => hin, ⟨fun _ e => by rw [e] at hin; simp at hin, fun _ => rfl⟩⟩
    rcases b3 with e | ⟨l, hl, e⟩
    · exact absurd e hz
    · have h1 := low l hl
      have h2 := b2 _ hin
      rw [List.length_reverse] at h2 ⊢
      omega
  · rw [if_neg hm]
    have hnil : rights may n = [] := by
      cases hr : rights may n with
      | nil => rfl
      | cons l ls =>
        exfalso
        have hl : l ∈ rights may n := by rw [hr]; simp
        have h1 := low l hl
        have h2 := isum_ge (mem_rights.1 hl).1.1
        have h3 := (mem_rights.1 hl).1.2
        omega
    have hz : bestLen (rights may n) 0 = 0 := b0.2 ⟨rfl, hnil⟩
    dsimp only
    exact ⟨by rw [hz]; rfl, by rw [if_pos hz], fun e => by omega, ⟨fun e => by omega, fun e => absurd hnil e⟩⟩
end Go.Proofs.Ytadnggecnjdhiaa
set_option linter.unusedSimpArgs false
set_option linter.unusedVariables false
namespace Go.Proofs.Ytadnggecnjdhiaa
open Go.RowKit Tx
attribute [local go_sem] Oper.semAt_some

theorem A_undLL : Try.prog.underlying 55 = some (.slice 28) := by kernel_rfl
theorem A_infoIs : (Try.prog.info? 28).map (fun i => (i.zero, i.size, i.bytes)) = some (some (.slice none 0 0), 1, 24) := by kernel_rfl
/-- append, and whether it goes on in the same row -/
theorem append_which (w : World) (base : Nat) (i0 : TypeInfo) (hi : Try.prog.info? 28 = some i0) (hz0 : i0.zero = some (.slice none 0 0)) (hz1 : i0.size = 1) (hz2 : i0.bytes = 24) (ty : TypeId) (tv : Value) (n : Nat) (xs : List Value) (x : Value) (hx1 : x.oneCell' = true) (hown : w.ownsRow base 28 1 tv n xs) (hb : base ≤ w.heap.size) (hn : n ≤ 1000000) (a : Addr) (ha : w.cell? (a.add 0) = some x) :
    ∃ v' w', (Builtin.append_ #[55, 55] ty #[tv, .slice (some a) 1 1]).run Try.prog w = .ok v' w' ∧ w'.ownsRow base 28 1 v' (n + 1) (xs ++ [x]) ∧ w.grownBy w' tv.ownBlock ∧ (v'.ownBlock = tv.ownBlock ∨ v'.ownBlock = some w.heap.size) := by
  have hnews : ∀ j u, [x][j]? = some u → w.cell? (a.add j) = some u := fun j u hj => by
    match j, hj with
    | 0, hj => simp at hj; subst hj; exact ha
  obtain ⟨v', w', hr, h2, h3, h4⟩ := run_append_own (P := Try.prog) w base 55 ty 28 i0 (.slice none 0 0) 1 24 A_undLL hi hz0 hz1 hz2 rfl (by decide) tv n xs hown a 1 1 [x] rfl hnews (by simpa using hx1) (by unfold maxLen; omega) (by omega) hb
  refine ⟨v', w', hr, h2, h3, ?_⟩
  rcases hown.2 with ⟨rfl, rfl⟩ | ⟨g, cap, cur, rfl, hbg, hg, hnc, hcm, hcs, htake⟩
  · have hr2 := run_append_nil (P := Try.prog) w 55 ty 28 i0 (.slice none 0 0) A_undLL hi hz0 a 1 1 [x] (by rw [hz1]; rfl) hnews (by omega) (by omega) (by rw [hz2]; omega)
    rw [hr2] at hr
    injection hr with hv hw
    right; rw [← hv]; rfl
  · by_cases hroom : n + 1 ≤ cap
    · have hr2 := run_append_room (P := Try.prog) w 55 ty 28 i0 A_undLL hi g n cap cur hg a 1 1 [x] (by rw [hz1]; rfl) hnews (by simpa using hx1) hroom (by rw [hcs, hz1]; simp; omega)
      rw [hr2] at hr
      injection hr with hv hw
      subst hv
      exact .inl rfl
    · have holds : ∀ j u, xs[j]? = some u → w.cell? ((⟨g, 0, none⟩ : Addr).add j) = some u := hown.cells (g := g) rfl
      have hr2 := run_append_grow (P := Try.prog) w 55 ty 28 i0 (.slice none 0 0) A_undLL hi hz0 ⟨g, 0, none⟩ n cap xs (by rw [hz1]; exact hown.1) holds a 1 1 [x] (by rw [hz1]; rfl) hnews (by omega) (by omega) (by rw [hz2]; exact growslice_fits (by omega) (by omega))
      rw [hr2] at hr
      injection hr with hv hw
      right; rw [← hv]; rfl
theorem wpList_append_which {ops : Array Oper} {rest : List Oper} {o : Oper} {a : Act} {w : World} {Q : Exit → Act → World → Prop} (hgd : o.guard = none) (s x : Operand)
    (ho : o.op = .call { callee := .builtin .append, args := #[s, x], argTypes := #[55, 55] }) (base : Nat) (tv : Value) (n : Nat) (xs : List Value) (hs : a.eval s = tv) (hown : w.ownsRow base 28 1 tv n xs)
    (ad : Addr) (u : Value) (hx : a.eval x = .slice (some ad) 1 1) (hu : w.cell? (ad.add 0) = some u) (hu1 : u.oneCell' = true) (hb : base ≤ w.heap.size) (hn : n ≤ 1000000)
    (h : ∀ v' w', w'.ownsRow base 28 1 v' (n + 1) (xs ++ [u]) → w.grownBy w' tv.ownBlock → (v'.ownBlock = tv.ownBlock ∨ v'.ownBlock = some w.heap.size) → wpList Try.prog ops Q rest (a.put o.dst v') w') : wpList Try.prog ops Q (o :: rest) a w :=
  wpList_plain hgd fun _ hK => by
    obtain ⟨i0, hi, hz0, hz1, hz2⟩ := info_parts A_infoIs
    obtain ⟨v', w', hr, h2, h3, h4⟩ := append_which w base i0 hi hz0 hz1 hz2 o.type tv n xs u hu1 hown hb hn ad hu
    unfold Oper.wp execOp
    simp only [ho, resolve, invoke, builtin, Sem.run_bind, Sem.run_pure, Result.andThen_ok, List.map_toArray, List.map_cons, List.map_nil, hs, hx, hr]
    exact hK _ _ (h v' w' h2 h3 h4)

theorem wpList_append_none2 {P : Program} {ops : Array Oper} {rest : List Oper} {o : Oper} {a : Act} {w : World} {Q : Exit → Act → World → Prop} (hgd : o.guard = none) (s x : Operand) (t : TypeId)
    (ho : o.op = .call { callee := .builtin .append, args := #[s, x], argTypes := #[t, t] }) (v : Value) (hs : a.eval s = v) (hx : a.eval x = .slice none 0 0)
    (hr : ∀ ty, (Builtin.append_ #[t, t] ty #[v, .slice none 0 0]).run P w = .ok v w) (h : ∀ W, Hid (W = w) → wpList P ops Q rest (a.put o.dst v) W) : wpList P ops Q (o :: rest) a w :=
  wpList_append_none hgd s x t ho v hs hx hr (h w (Lib.hid rfl))
/-- a list of numbers as a value that is held in a row -/
def El (W : World) (x : Value) (l : List Int) : Prop := (l = [] ∧ x = .slice none 0 0) ∨ (l ≠ [] ∧ ∃ b c C, x = .slice (some ⟨b, 0, none⟩) l.length c ∧ W.heap[b]? = some (.cells C 3 (0, 0)) ∧ ∀ i, i < l.length → C[i]? = some (.int .i64 (l.getD i 0)))
theorem El.ints {W : World} {x : Value} {l : List Int} (h : El W x l) : ∃ q c, x = .slice q l.length c ∧ Ints W q l := by
  rcases h with ⟨rfl, rfl⟩ | ⟨_, b, c, C, rfl, hb, hc⟩
  · exact ⟨none, 0, rfl, .inl rfl⟩
  · exact ⟨_, c, rfl, .inr ⟨b, 0, rfl, (Array.getElem?_eq_some_iff.1 hb).1, fun i hi => by rw [Nat.zero_add]; exact blk_cells hb i _ (hc i hi)⟩⟩
theorem El.below {W W' : World} {x : Value} {l : List Int} (h : El W x l) (hb : Below W.heap.size W W') : El W' x l := by
  rcases h with h | ⟨hl, b, c, C, hx, hg, hc⟩
  · exact .inl h
  · exact .inr ⟨hl, b, c, C, hx, (hb.block b (Array.getElem?_eq_some_iff.1 hg).1).trans hg, hc⟩
theorem El.grown {W W' : World} {x : Value} {l : List Int} {base : Nat} {v : Value} {n : Nat} {xs : List Value} (h : El W x l) (hown : W.ownsRow base 28 1 v n xs) (hg : W.grownBy W' v.ownBlock) : El W' x l := by
  rcases h with h | ⟨hl, b, c, C, hx, hgb, hc⟩
  · exact .inl h
  · refine .inr ⟨hl, b, c, C, hx, (hg.block b (Array.getElem?_eq_some_iff.1 hgb).1 ?_).trans hgb, hc⟩
    rcases hown.2 with ⟨h3, _⟩ | ⟨g2, cap2, cur2, h3, hb2, hg2, _⟩
    · rw [h3]; show some b ≠ none; simp
    · rw [h3]; show some b ≠ some g2
      intro e; injection e with e; subst e
      rw [hgb] at hg2; injection hg2 with h; injection h with _ h; cases h
theorem El.of_own {W : World} {base : Nat} {v : Value} {l : List Int} (h : W.ownsRow base 3 1 v l.length (l.map (Value.int .i64))) (hl : l ≠ []) : El W v l := by
  rcases h.2 with ⟨h3, h4⟩ | ⟨g, cap, cur, rfl, hb, hg, h1, h2, h3, h4⟩
  · exact absurd (List.length_eq_zero_iff.1 h4) hl
  · refine .inr ⟨hl, g, cap, cur, rfl, hg, fun i hi => ?_⟩
    have : (cur.toList.take (l.length * 1))[i]? = (l.map (Value.int .i64))[i]? := by rw [h4]
    rw [List.getElem?_take, if_pos (by omega), Array.getElem?_toList] at this
    rw [this]; simp [hi]
def Els (W : World) (xs : List Value) (L : List (List Int)) : Prop := xs.length = L.length ∧ ∀ i, i < L.length → El W (xs.getD i undef) (L.getD i [])
theorem Els.below {W W' : World} {xs : List Value} {L : List (List Int)} (h : Els W xs L) (hb : Below W.heap.size W W') : Els W' xs L := ⟨h.1, fun i hi => (h.2 i hi).below hb⟩
theorem Els.grown {W W' : World} {xs : List Value} {L : List (List Int)} {base : Nat} {v : Value} {n : Nat} {ys : List Value} (h : Els W xs L) (hown : W.ownsRow base 28 1 v n ys) (hg : W.grownBy W' v.ownBlock) : Els W' xs L := ⟨h.1, fun i hi => (h.2 i hi).grown hown hg⟩
theorem Els.snoc {W : World} {xs : List Value} {L : List (List Int)} {x : Value} {l : List Int} (h : Els W xs L) (hx : El W x l) : Els W (xs ++ [x]) (L ++ [l]) := by
  refine ⟨by simp [h.1], fun i hi => ?_⟩
  by_cases hlt : i < L.length
  · have := h.2 i hlt
    have hlt2 : i < xs.length := by rw [h.1]; exact hlt
    simpa [List.getElem?_append_left hlt, List.getElem?_append_left hlt2] using this
  · have : i = L.length := by simp at hi; omega
    subst this
    have e : xs.length = L.length := h.1
    rw [show (L ++ [l]).getD L.length [] = l by simp, show (xs ++ [x]).getD L.length undef = x by rw [← e]; simp]
    exact hx
theorem Els.nil (W : World) : Els W [] [] := ⟨rfl, fun i hi => by simp at hi⟩
theorem els_nil1 (W : World) : Els W [.slice none 0 0] [[]] := (Els.nil W).snoc (.inl ⟨rfl, rfl⟩)
/-- lists, to be read -/
def LLPost (L : List (List Int)) (w : World) (e : Ending) (w' : World) : Prop := ∃ v xs, e = .returned v ∧ w'.ownsRow w.heap.size 28 1 v L.length xs ∧ Els w' xs L ∧ Below w.heap.size w w'
/-- readings whose first breath has less than k words -/
def cTo (n k : Nat) : List (List Int) := (List.range' 1 (k - 1)).flatMap fun j => (compF (n - j) (n - j)).map fun l => (j : Int) :: l
theorem cTo_one (n : Nat) : cTo n 1 = [] := rfl
theorem cTo_succ (n k : Nat) (hk : 1 ≤ k) : cTo n (k + 1) = cTo n k ++ (compF (n - k) (n - k)).map fun l => (k : Int) :: l := by
  unfold cTo
  rw [show k + 1 - 1 = (k - 1) + 1 by omega, List.range'_concat, List.flatMap_append]
  simp only [List.flatMap_cons, List.flatMap_nil, List.append_nil, Nat.one_mul]
  rw [show 1 + (k - 1) = k by omega]
theorem comp_cTo (n : Nat) (hn : 1 ≤ n) : compF n n = cTo n (n + 1) := by
  obtain ⟨m, rfl⟩ : ∃ m, n = m + 1 := ⟨n - 1, by omega⟩
  rw [compF, if_neg (by omega)]
  unfold cTo
  rw [show m + 1 + 1 - 1 = m + 1 by omega]
  have e : ∀ k ∈ List.range' 1 (m + 1), ((compF m (m + 1 - k)).map fun l => (k : Int) :: l) = ((compF (m + 1 - k) (m + 1 - k)).map fun l => (k : Int) :: l) := fun k hk => by
    rw [List.mem_range'_1] at hk
    rw [compF_eq m (m + 1 - k) (m + 1 - k) (by omega) (by omega)]
  rw [List.flatMap_def, List.flatMap_def, List.map_congr_left e]
theorem comp_len : ∀ (f n : Nat), (compF f n).length ≤ 2 ^ n
  | 0, n => by
    rw [compF]
    split
    · exact Nat.two_pow_pos n
    · simp
  | f + 1, n => by
    rw [compF]
    split
    · exact Nat.two_pow_pos n
    · rename_i h0
      have key : ∀ m, m ≤ n → ((List.range' 1 m).flatMap fun k => (compF f (n - k)).map fun l => (k : Int) :: l).length + 2 ^ (n - m) ≤ 2 ^ n := by
        intro m
        induction m with
        | zero => intro _; simp
        | succ m ih =>
          intro hm
          have ih := ih (by omega)
          rw [List.range'_concat, List.flatMap_append, List.length_append]
          simp only [List.flatMap_cons, List.flatMap_nil, List.append_nil, List.length_map, Nat.one_mul]
          have h1 := comp_len f (n - (1 + m))
          have h2 : 2 ^ (n - m) = 2 ^ (n - (m + 1)) + 2 ^ (n - (m + 1)) := by rw [show n - m = (n - (m + 1)) + 1 by omega, Nat.pow_succ]; omega
          rw [show n - (1 + m) = n - (m + 1) by omega] at h1 ⊢
          omega
      exact Nat.le_trans (Nat.le_add_right _ _) (key n (Nat.le_refl _))
theorem cTo_len (n k : Nat) (hn : n ≤ 12) (hk : k ≤ n + 1) : (cTo n k).length ≤ 100000 := by
  have : ∀ m, m ≤ 12 → (cTo n (m + 1)).length ≤ m * 4096 := by
    intro m
    induction m with
    | zero => intro _; simp [cTo]
    | succ m ih =>
      intro hm
      have := ih (by omega)
      rw [cTo_succ _ _ (by omega), List.length_append, List.length_map]
      have h1 := comp_len (n - (m + 1)) (n - (m + 1))
      have h2 : 2 ^ (n - (m + 1)) ≤ 2 ^ 12 := Nat.pow_le_pow_right (by omega) (by omega)
      omega
  rcases Nat.eq_zero_or_pos k with h0 | h0
  · subst h0; simp [cTo]
  · have := this (k - 1) (by omega)
    rw [show k - 1 + 1 = k by omega] at this
    omega
set_option maxHeartbeats 6000000 in
set_option maxRecDepth 100000 in
theorem readings_ref (n : Nat) : n ≤ 12 → ∀ w : World, Calls Try.prog 103 #[.int .i64 n] w (LLPost (compF n n) w) := by
  induction n using Nat.strongRecOn with
  | _ n ih =>
  intro hn w
  obtain ⟨i0, hi0, hz0, hz1, hz2⟩ := info_parts A_infoI
  rcases Nat.eq_zero_or_pos n with h0 | hpos
  · subst h0
    clear ih
    have hx := heap_last w (.cells #[.slice none 0 0] 28)
    have HB := Lib.hid (below1 w (.cells #[.slice none 0 0] 28))
    have hown : (w.alloc (.cells #[.slice none 0 0] 28)).ownsRow w.heap.size 28 1 (.slice (some ⟨w.heap.size, 0, none⟩) 1 1) 1 [.slice none 0 0] :=
      ⟨rfl, .inr ⟨w.heap.size, 1, _, rfl, Nat.le_refl _, hx, by omega, by unfold maxLen; omega, rfl, rfl⟩⟩
    have HO := Lib.hid hown
    clear hx hown
    go_enter Try.func103, Try.ntmps103
    go_wp2
    go_ret
    exact ⟨_, [.slice none 0 0], rfl, HO.out, els_nil1 _, HB.out⟩
  · have HIH := Lib.hid (fun k (hk : 1 ≤ k) (hkn : k ≤ n) W => ih (n - k) (by omega) (by omega) W)
    have HCE := Lib.hid (comp_cTo n hpos)
    have hn0 : ((n : Int) == 0) = false := by rw [beq_eq_false_iff_ne]; omega
    clear ih
    go_enter Try.func103, Try.ntmps103
    go_wp2_with fail
    go_loopw [3, 4, 5, 6] (fun v3 v4 _ _ wr => ∃ (k : Nat) (xs : List Value), v4 = .int .i64 k ∧ 1 ≤ k ∧ k ≤ n + 1 ∧ wr.ownsRow w.heap.size 28 1 v3 (cTo n k).length xs ∧ Els wr xs (cTo n k) ∧ Below w.heap.size w wr) (fun _ v4 _ _ _ => n + 1 - (intOf v4).toNat)
    case atStart => exact ⟨1, [], rfl, Nat.le_refl _, by omega, own_none _ _ _ _, Els.nil _, Below.refl _ _⟩
    case round =>
      obtain ⟨wo, rfl⟩ : ∃ wo : World, wo = wr := ⟨_, rfl⟩
      obtain ⟨k, xs, rfl, hk1, hk, hown, hels, hBr⟩ := hrel
      have HO := Lib.hid hown
      have HOW := Lib.hid hown
      have HE := Lib.hid hels
      have HBr := Lib.hid hBr
      clear hown hels hBr
      by_cases hle : k ≤ n
      · have hle' : (k : Int) ≤ n := by omega
        have hsub : ((n : Int) - (k : Int)) = ((n - k : Nat) : Int) := by omega
        have hcl := cTo_len n (k + 1) hn (by omega)
        have HCS := Lib.hid (cTo_succ n k hk1)
        have HCALL := Lib.hid (fun W => hsub ▸ HIH.out k hk1 hle W)
        clear hsub
        go_wp2_with fail
        refine (HCALL.out _).mono ?_
        rintro e w5 ⟨v5, xs5, rfl, ho5, he5, hB⟩
        have HR := Lib.hid he5
        obtain ⟨R, hR⟩ : ∃ R, R = compF (n - k) (n - k) := ⟨_, rfl⟩
        have HLENS : Hid (∀ i, i < R.length → (R.getD i []).length ≤ 1000000) := Lib.hid (fun i hi => by
          have hm : R.getD i [] ∈ compF (n - k) (n - k) := by rw [← hR]; simp [hi]
          have h1 := (compF_mem _ _ _ (Nat.le_refl _)).1 hm
          have h2 := isum_ge h1.1
          have h3 := h1.2
          omega)
        rw [← hR] at HCS HR ho5
        have HO5 := Lib.hid ho5
        have HO := Lib.hid (own_below HO.out hB)
        have HE := Lib.hid (HE.out.below hB)
        have hz5 := hB.size
        have hne : u3.ownBlock = none ∨ u3.ownBlock ≠ v5.ownBlock := by
          have hlo := HO.out
          rcases hov : u3.ownBlock with _ | g
          · exact .inl rfl
          · right
            rcases hov5 : v5.ownBlock with _ | g5
            · simp
            · have h2 := (ho5.lt g5 hov5).1
              have h1 : g < wo.heap.size := by
                have := HOW.out
                exact (this.lt g hov).2
              intro e; injection e; omega
        have HNE := Lib.hid hne
        have HBr := Lib.hid (join HBr.out hB)
        have hrl : (cTo n k).length + R.length ≤ 100000 := by rw [HCS.out, List.length_append, List.length_map] at hcl; exact hcl
        obtain ⟨p5, c5, rfl⟩ := own_val ho5
        clear hB hne he5 ho5 hR HCALL
        go_wp2_with fail
        go_loopw [3, 6] (fun v3 v6 wr => ∃ (i : Nat) (xs : List Value), v6 = .int .i64 i ∧ i ≤ R.length ∧ wr.ownsRow w.heap.size 28 1 v3 (cTo n k ++ (R.take i).map fun l => (k : Int) :: l).length xs ∧ Els wr xs (cTo n k ++ (R.take i).map fun l => (k : Int) :: l) ∧ wr.ownsRow wo.heap.size 28 1 (.slice p5 R.length c5) R.length xs5 ∧ Els wr xs5 R ∧ (v3.ownBlock = none ∨ v3.ownBlock ≠ (Value.slice p5 R.length c5).ownBlock) ∧ Below w.heap.size w wr ∧ wo.heap.size ≤ wr.heap.size) (fun _ v6 _ => R.length - (intOf v6).toNat)
        case atStart => exact ⟨0, xs, rfl, Nat.zero_le _, by simpa using HO.out, by simpa using HE.out, HO5.out, HR.out, HNE.out, HBr.out, hz5⟩
        case round =>
          clear HO HE HO5 HR HNE HBr
          obtain ⟨i, xs, rfl, hi, hown, hels, hown5, hels5, hne, hBr, hz6⟩ := hrel
          obtain ⟨wp, rfl⟩ : ∃ wp : World, wp = wr := ⟨_, rfl⟩
          have HO := Lib.hid hown
          have HE := Lib.hid hels
          have HO5 := Lib.hid hown5
          have HR := Lib.hid hels5
          have HNE := Lib.hid hne
          have HBr := Lib.hid hBr
          have hz7 := hBr.size
          by_cases hlt : i < R.length
          · have hlt' : (i : Int) < R.length := by omega
            have hel := hels5.2 i hlt
            have HSN : Hid (cTo n k ++ (R.take (i + 1)).map (fun l => (k : Int) :: l) = (cTo n k ++ (R.take i).map fun l => (k : Int) :: l) ++ [(k : Int) :: R.getD i []]) := Lib.hid (by
              rw [take_snocD [] hlt, List.map_append, List.append_assoc]; rfl)
            have hacl : (cTo n k ++ (R.take i).map fun l => (k : Int) :: l).length ≤ 100000 := by rw [List.length_append, List.length_map, List.length_take]; omega
            generalize cTo n k ++ (R.take i).map (fun l => (k : Int) :: l) = acc at hacl HO HE HSN
            rcases hown5.2 with ⟨_, h0⟩ | ⟨g5, cap5, cur5, hv5, hb5, hg5, _⟩
            · omega
            have hcell : wp.cell? ⟨g5, i, none⟩ = some (xs5.getD i undef) := by
              injection hv5 with hp5 _ _
              have h1 : i < xs5.length := by rw [hels5.1]; exact hlt
              have := hown5.cells (g := g5) (by rw [hp5]; rfl) i (xs5.getD i undef) (by simp [h1])
              have hadd : (⟨g5, 0, none⟩ : Addr).add i = ⟨g5, i, none⟩ := by unfold Addr.add; split <;> simp_all
              rwa [hadd] at this
            injection hv5 with hp5 _ hc5
            subst hp5
            subst hc5
            have hq5 : g5 < wp.heap.size := (Array.getElem?_eq_some_iff.1 hg5).1
            generalize xs5.getD i undef = x5 at hel hcell
            have HLEN : Hid ((R.getD i []).length ≤ 1000000) := Lib.hid (HLENS.out i hlt)
            generalize R.getD i [] = l at hel HSN HLEN
            have hlit : (wp.alloc (.cells #[.int .i64 (k : Int)] 3)).ownsRow wp.heap.size 3 1 (.slice (some ⟨wp.heap.size, 0, none⟩) 1 1) 1 [.int .i64 (k : Int)] :=
              ⟨rfl, .inr ⟨wp.heap.size, 1, _, rfl, Nat.le_refl _, heap_last _ _, by omega, by unfold maxLen; omega, rfl, rfl⟩⟩
            have HLIT := Lib.hid hlit
            have HB1 := Lib.hid (below1 wp (.cells #[.int .i64 (k : Int)] 3))
            clear hown hels hown5 hels5 hne hBr hg5 hlit
            rcases hel with ⟨rfl, rfl⟩ | ⟨hl, bl, cl, C, rfl, hbl, hC⟩
            · have HEL := Lib.hid (El.of_own (l := [(k : Int)]) HLIT.out (by simp))
              have happ := fun ty W => app_none (some ⟨wp.heap.size, 0, none⟩) 1 1 (Nat.le_refl _) ty W
              go_wp2_with (at_builtin; refine wpList_append_none2 rfl _ _ 28 rfl _ rfl rfl (fun ty => happ ty _) ?_)
              intro WV hWV
              have HBV := HB1
              rw [← hWV.out] at HBV HEL
              clear hWV happ
              have hb1 := (HBV.out.block g5 hq5)
              have HOx := Lib.hid (own_below HO.out HBV.out)
              have HEx := Lib.hid (HE.out.below HBV.out)
              have HO5x := Lib.hid (own_below HO5.out HBV.out)
              have HRx := Lib.hid (HR.out.below HBV.out)
              have hzv := HBV.out.size
              have HBrx := Lib.hid (join HBr.out HBV.out)
              clear hb1
              go_wp2_with (at_builtin; refine wpList_append_which rfl _ _ rfl w.heap.size _ _ _ rfl (HOx.out.alloc _) ⟨WV.heap.size, 0, none⟩ _ rfl (cell_one_new _ _ _ 0 _ rfl) rfl ?y1 ?y2 ?_)
              case y1 => simp; omega
              case y2 => omega
              intro v' w9 hown9 hgrow9 hwhich
              have HEL9 := Lib.hid ((HEL.out.below (below1 _ _)).grown (HOx.out.alloc _) hgrow9)
              have HE9 := Lib.hid ((HEx.out.below (below1 _ _)).grown (HOx.out.alloc _) hgrow9)
              have HO9 := Lib.hid hown9
              have HN9 : Hid (u3.ownBlock = none ∨ u3.ownBlock ≠ (Value.slice (some ⟨g5, 0, none⟩) R.length c5).ownBlock) := HNE
              have HO59 := Lib.hid ((HO5x.out.alloc (.cells #[.slice (some ⟨wp.heap.size, 0, none⟩) 1 1] 28)).kept hgrow9 (by
                rcases HNE.out with h | h
                · right; rw [h]; simp [Value.ownBlock]
                · right; exact fun e => h e.symm))
              have HR9 := Lib.hid ((HRx.out.below (below1 _ _)).grown (HOx.out.alloc _) hgrow9)
              have HNE9 : Hid (v'.ownBlock = none ∨ v'.ownBlock ≠ (Value.slice (some ⟨g5, 0, none⟩) R.length c5).ownBlock) := Lib.hid (by
                rcases hwhich with h | h
                · rw [h]; exact HNE.out
                · right; rw [h]; show some _ ≠ some g5; intro e; injection e with e; (try simp at e); omega)
              have HB9 := Lib.hid (below_grown (al2 HBrx.out (by omega) _) (HOx.out.alloc _) (Nat.le_refl _) (by simp; omega) hgrow9)
              have hz9 : wo.heap.size ≤ w9.heap.size := by have := hgrow9.size; rw [World.size_alloc] at this; omega
              clear hgrow9 hown9 hwhich
              go_wp2
              go_roundw
              case rel => exact ⟨i + 1, _, by go_num, by omega, by rw [HSN.out, List.length_append]; exact HO9.out, by rw [HSN.out]; exact HE9.out.snoc HEL9.out, HO59.out, HR9.out, HNE9.out, HB9.out, hz9⟩
              case measure => simp [intOf]; omega
            · have HCB := Lib.hid (El.ints (W := wp) (.inr ⟨hl, bl, cl, C, rfl, hbl, hC⟩))
              have hlb : bl < wp.heap.size := (Array.getElem?_eq_some_iff.1 hbl).1
              have hnews : ∀ j u, (l.map (Value.int .i64))[j]? = some u → (wp.alloc (.cells #[.int .i64 (k : Int)] 3)).cell? ((⟨bl, 0, none⟩ : Addr).add j) = some u := fun j u hj => by
                have hj1 : j < l.length := by have := (List.getElem?_eq_some_iff.1 hj).1; simpa using this
                have hadd : (⟨bl, 0, none⟩ : Addr).add j = ⟨bl, j, none⟩ := by unfold Addr.add; split <;> simp_all
                rw [hadd, HB1.out.cell (p := ⟨bl, j, none⟩) hlb, blk_cells hbl j _ (hC j hj1)]
                simp [hj1] at hj ⊢; exact hj
              have HNW := Lib.hid hnews
              have hll := HLEN.out
              clear hbl hC hnews HCB
              go_wp2_with (at_builtin; refine wpList_append_own _ rfl _ _ 28 rfl wp.heap.size 3 i0 (.int .i64 0) 1 8 A_undI hi0 hz0 hz1 hz2 rfl (by decide) _ _ _ rfl HLIT.out ⟨bl, 0, none⟩ l.length _ (l.map (Value.int .i64)) rfl (by rw [List.length_map, Nat.mul_one]) HNW.out ?g2 ?g3 ?g4 ?g5 ?_)
              case g2 => intro u hu; rfl
              case g3 => unfold maxLen; omega
              case g4 => omega
              try (case g5 => simp)
              intro vq WV hownq hgrowq _
              have HBV := Lib.hid (below_grown HB1.out HLIT.out (Nat.le_refl _) (by simp) hgrowq)
              have hownq2 : WV.ownsRow wp.heap.size 3 1 vq ((k : Int) :: l).length (((k : Int) :: l).map (Value.int .i64)) := by
                rw [List.length_cons, Nat.add_comm]; exact hownq
              have HEL := Lib.hid (El.of_own hownq2 (by simp))
              obtain ⟨pq, cq, rfl⟩ := own_val hownq
              clear hownq hgrowq hownq2 HNW hll
              have hb1 := (HBV.out.block g5 hq5)
              have HOx := Lib.hid (own_below HO.out HBV.out)
              have HEx := Lib.hid (HE.out.below HBV.out)
              have HO5x := Lib.hid (own_below HO5.out HBV.out)
              have HRx := Lib.hid (HR.out.below HBV.out)
              have hzv := HBV.out.size
              have HBrx := Lib.hid (join HBr.out HBV.out)
              clear hb1
              go_wp2_with (at_builtin; refine wpList_append_which rfl _ _ rfl w.heap.size _ _ _ rfl (HOx.out.alloc _) ⟨WV.heap.size, 0, none⟩ _ rfl (cell_one_new _ _ _ 0 _ rfl) rfl ?z1 ?z2 ?_)
              case z1 => simp; omega
              case z2 => omega
              intro v' w9 hown9 hgrow9 hwhich
              have HEL9 := Lib.hid ((HEL.out.below (below1 _ _)).grown (HOx.out.alloc _) hgrow9)
              have HE9 := Lib.hid ((HEx.out.below (below1 _ _)).grown (HOx.out.alloc _) hgrow9)
              have HO9 := Lib.hid hown9
              have HN9 : Hid (u3.ownBlock = none ∨ u3.ownBlock ≠ (Value.slice (some ⟨g5, 0, none⟩) R.length c5).ownBlock) := HNE
              have HO59 := Lib.hid ((HO5x.out.alloc (.cells #[.slice pq (1 + l.length) cq] 28)).kept hgrow9 (by
                rcases HNE.out with h | h
                · right; rw [h]; simp [Value.ownBlock]
                · right; exact fun e => h e.symm))
              have HR9 := Lib.hid ((HRx.out.below (below1 _ _)).grown (HOx.out.alloc _) hgrow9)
              have HNE9 : Hid (v'.ownBlock = none ∨ v'.ownBlock ≠ (Value.slice (some ⟨g5, 0, none⟩) R.length c5).ownBlock) := Lib.hid (by
                rcases hwhich with h | h
                · rw [h]; exact HNE.out
                · right; rw [h]; show some _ ≠ some g5; intro e; injection e with e; (try simp at e); omega)
              have HB9 := Lib.hid (below_grown (al2 HBrx.out (by omega) _) (HOx.out.alloc _) (Nat.le_refl _) (by simp; omega) hgrow9)
              have hz9 : wo.heap.size ≤ w9.heap.size := by have := hgrow9.size; rw [World.size_alloc] at this; omega
              clear hgrow9 hown9 hwhich
              go_wp2
              go_roundw
              case rel => exact ⟨i + 1, _, by go_num, by omega, by rw [HSN.out, List.length_append]; exact HO9.out, by rw [HSN.out]; exact HE9.out.snoc HEL9.out, HO59.out, HR9.out, HNE9.out, HB9.out, hz9⟩
              case measure => simp [intOf]; omega
          · obtain rfl : i = R.length := by omega
            rw [List.take_length, ← HCS.out] at HO HE
            go_wp2
            go_roundw
            case rel => exact ⟨k + 1, xs, by go_num, by omega, by omega, HO.out, HE.out, HBr.out⟩
            case measure => simp [intOf]; omega
      · obtain rfl : k = n + 1 := by omega
        rw [← HCE.out] at HO HE
        go_wp2
        go_ret
        exact ⟨_, _, rfl, HO.out, HE.out, HBr.out⟩
end Go.Proofs.Ytadnggecnjdhiaa
set_option linter.unusedSimpArgs false
set_option linter.unusedVariables false
namespace Go.Proofs.Ytadnggecnjdhiaa
open Go.RowKit Tx
attribute [local go_sem] Oper.semAt_some

def okR (t : Text) (l : List Int) : Bool := decide ((wrongR t l).2.2 = 6)
def rightsR (t : Text) : List (List Int) := (compF t.words.length t.words.length).filter (okR t)
theorem kind_right (t : Text) (a b : Nat) : kindOf t a b = none ↔ t.right a b = true := by
  unfold kindOf Text.right
  have e0 : t.isK 0 a b = t.isLong a b := rfl
  have e1 : t.isK 1 a b = t.isCut a b := rfl
  have e2 : t.isK 2 a b = t.isOther a b := rfl
  rw [e0, e1, e2]
  cases t.isLong a b <;> cases t.isCut a b <;> cases t.isOther a b <;> simp
theorem wrongGo_ok (t : Text) : ∀ (l : List Int) (i a : Nat), (wrongGo t i a l).2.2 = 6 ↔ okFrom t.right a l = true
  | [], i, a => by simp [wrongGo, okFrom]
  | x :: l, i, a => by
    rw [wrongGo, okFrom, Bool.and_eq_true]
    cases hk : kindOf t a (a + x.toNat) with
    | none =>
      dsimp only
      rw [wrongGo_ok t l, ← kind_right]
      exact ⟨fun h => ⟨hk, h⟩, fun h => h.2⟩
    | some q =>
      dsimp only
      constructor
      · intro h; omega
      · rintro ⟨h, _⟩; rw [← kind_right, hk] at h; cases h
theorem read_parts {t : Text} (ok : Text.Ok t) (he : t.err = 0) {l : List Int} (h : Parts t.words.length l) : readErr t l = 0 := by
  unfold readErr
  rw [if_neg (by simp [he]), if_neg, if_neg (by simp [h.2])]
  intro ha
  obtain ⟨x, hx, hb⟩ := List.any_eq_true.1 ha
  have h1 := h.1 x hx
  have h2 : x ≤ isum l := by
    obtain ⟨s, r, rfl⟩ := List.append_of_mem hx
    rw [isum_append, isum_cons]
    have := isum_ge (l := s) (fun y hy => h.1 y (by simp [hy]))
    have := isum_ge (l := r) (fun y hy => h.1 y (by simp [hy]))
    omega
  have h3 := h.2
  have := ok.n12
  simp [btw] at hb
  omega
theorem okR_ok {t : Text} (ok : Text.Ok t) (he : t.err = 0) {l : List Int} (h : Parts t.words.length l) : okR t l = okFrom t.right 0 l := by
  rw [Bool.eq_iff_iff]
  unfold okR wrongR
  rw [if_pos (read_parts ok he h), decide_eq_true_eq]
  exact wrongGo_ok t l 0 0
theorem rightsR_eq {t : Text} (ok : Text.Ok t) (he : t.err = 0) : rightsR t = rights t.right t.words.length := by
  unfold rightsR rights
  refine List.filter_congr fun l hl => okR_ok ok he ((compF_mem _ _ _ (Nat.le_refl _)).1 hl)
def spRi (t : Text) (pw pt : Option Addr) (cw ct g m c j : Nat) (x : Value) (wa wb wc : Int) : Nat → List Value → Value → World → Prop
  | 0, _, v, _ => v = .agg #[.slice pw t.words.length cw, .slice pt t.turns.length ct, .int .i64 t.breath]
  | 1, _, v, _ => v = .slice (some ⟨g, 0, none⟩) m c
  | 2, _, v, _ => v = .int .i64 (j : Int)
  | 3, _, v, _ => v = .pointer (some ⟨g, j, none⟩)
  | 4, _, v, _ => v = x
  | 5, _, v, _ => v = .tuple #[.int .i64 wa, .int .i64 wb, .int .i64 wc]
  | 6, _, v, _ => v = .tuple #[.int .i64 wa, .int .i64 wb, .int .i64 wc]
  | 7, _, v, _ => v = .int .i64 wa
  | 8, _, v, _ => v = .int .i64 wb
  | 9, _, v, _ => v = .int .i64 wc
  | 10, _, v, _ => v = .int .i64 wa
  | 11, _, v, _ => v = .int .i64 wb
  | 12, _, v, _ => v = .int .i64 wc
  | _, _, _, _ => False
theorem spRi_stable (t : Text) (pw pt : Option Addr) (cw ct g m c j : Nat) (x : Value) (wa wb wc : Int) : ∀ i L v w w', spRi t pw pt cw ct g m c j x wa wb wc i L v w → Rs.Gr w w' → spRi t pw pt cw ct g m c j x wa wb wc i L v w' := by
  intro i L v w w' h hg
  match i with
  | 0 => exact h
  | 1 => exact h
  | 2 => exact h
  | 3 => exact h
  | 4 => exact h
  | 5 => exact h
  | 6 => exact h
  | 7 => exact h
  | 8 => exact h
  | 9 => exact h
  | 10 => exact h
  | 11 => exact h
  | 12 => exact h

set_option maxHeartbeats 6000000 in
set_option maxRecDepth 100000 in
theorem Right_any (t : Text) (hl1 : t.words.length ≤ 12) (hl2 : t.turns.length ≤ 1000000) (pw pt : Option Addr) (cw ct : Nat) (w : World) (hW : TxAt w t pw pt) :
    Calls Try.prog 33 #[.agg #[.slice pw t.words.length cw, .slice pt t.turns.length ct, .int .i64 t.breath]] w (LLPost (rightsR t) w) := by
  have HWR0 := Lib.hid (fun (l : List Int) (hll : l.length ≤ 1000000) q d W (h : Below w.heap.size w W) (hL : Ints W q l) => rWrong_any t l (by omega) hl2 hll pw pt q cw ct d W (hW.below h) hL)
  have HB := Lib.hid (below1 w (.cells #[.slice pw t.words.length cw, .slice pt t.turns.length ct, .int .i64 t.breath] 35))
  have HX := Lib.hid (heap_last w (.cells #[.slice pw t.words.length cw, .slice pt t.turns.length ct, .int .i64 t.breath] 35))
  obtain ⟨k0, k1, k2⟩ := blk3 HX.out
  have HRD := Lib.hid (fun W => readings_ref t.words.length hl1 W)
  have hcl := Nat.le_trans (comp_len t.words.length t.words.length) (Nat.pow_le_pow_right (show 0 < 2 by omega) hl1)
  have HLENS : Hid (∀ i, i < (compF t.words.length t.words.length).length → ((compF t.words.length t.words.length).getD i []).length ≤ 1000000) := Lib.hid (fun i hi => by
    have hm : (compF t.words.length t.words.length).getD i [] ∈ compF t.words.length t.words.length := by simp [hi]
    have h1 := (compF_mem _ _ _ (Nat.le_refl _)).1 hm
    have h2 := isum_ge h1.1
    have h3 := h1.2
    omega)
  have HRR : Hid (rightsR t = (compF t.words.length t.words.length).filter (okR t)) := Lib.hid rfl
  generalize compF t.words.length t.words.length = R at HRD hcl HLENS HRR
  clear hW
  go_enter Try.func33, Try.ntmps33
  go_wp2_with fail
  refine (HRD.out _).mono ?_
  rintro e w5 ⟨v5, xs5, rfl, ho5, he5, hB⟩
  have HX := Lib.hid ((hB.block w.heap.size (Array.getElem?_eq_some_iff.1 HX.out).1).trans HX.out)
  have HO5 := Lib.hid (own_base ho5 (base' := w.heap.size) (by have := HB.out.size; omega))
  have HB := Lib.hid (join HB.out hB)
  have HR := Lib.hid he5
  obtain ⟨p5, c5, rfl⟩ := own_val ho5
  have hz5 : w.heap.size < w5.heap.size := (Array.getElem?_eq_some_iff.1 HX.out).1
  clear hB he5 ho5 k0 k1 k2
  go_wp2_with fail
  go_loopw [3, 5, 6, 7, 8] (fun v3 v5 _ _ _ wr => ∃ (i : Nat) (xs : List Value), v5 = .int .i64 i ∧ i ≤ R.length ∧ wr.ownsRow (w.heap.size + 1) 28 1 v3 ((R.take i).filter (okR t)).length xs ∧ Els wr xs ((R.take i).filter (okR t)) ∧ wr.ownsRow w.heap.size 28 1 (.slice p5 R.length c5) R.length xs5 ∧ Els wr xs5 R ∧ (v3.ownBlock = none ∨ v3.ownBlock ≠ (Value.slice p5 R.length c5).ownBlock) ∧ Below w.heap.size w wr ∧ wr.heap[w.heap.size]? = some (.cells #[.slice pw t.words.length cw, .slice pt t.turns.length ct, .int .i64 t.breath] 35 (0, 0))) (fun _ v5 _ _ _ _ => R.length - (intOf v5).toNat)
  case atStart => exact ⟨0, [], rfl, Nat.zero_le _, own_none _ _ _ _, Els.nil _, HO5.out, HR.out, .inl rfl, HB.out, HX.out⟩
  case round =>
    clear HO5 HR HB HX
    obtain ⟨wp, rfl⟩ : ∃ wp : World, wp = wr := ⟨_, rfl⟩
    obtain ⟨i, xs, rfl, hi, hown, hels, hown5, hels5, hne, hBr, hx⟩ := hrel
    have HO := Lib.hid hown
    have HE := Lib.hid hels
    have HO5 := Lib.hid hown5
    have HR := Lib.hid hels5
    have HNE := Lib.hid hne
    have HBr := Lib.hid hBr
    have HXr := Lib.hid hx
    have hz7 := hBr.size
    have HZ0 : w.heap.size < wp.heap.size := (Array.getElem?_eq_some_iff.1 hx).1
    by_cases hlt : i < R.length
    · have hlt' : (i : Int) < R.length := by omega
      have hlt2 : (i : Int) < R.length := by omega
      have hel := hels5.2 i hlt
      have hll := HLENS.out i hlt
      have hacl : ((R.take i).filter (okR t)).length ≤ 100000 := by
        have h1 := List.length_filter_le (okR t) (R.take i)
        rw [List.length_take] at h1
        omega
      have HSN : Hid ((R.take (i + 1)).filter (okR t) = (R.take i).filter (okR t) ++ (if okR t (R.getD i []) then [R.getD i []] else [])) := Lib.hid (by
        rw [take_snocD [] hlt, List.filter_append]; congr 1; simp only [List.filter_cons, List.filter_nil])
      generalize (R.take i).filter (okR t) = acc at hacl HO HE HSN
      rcases hown5.2 with ⟨_, h0⟩ | ⟨g5, cap5, cur5, hv5, hb5, hg5, _⟩
      · omega
      have hcell : wp.cell? ⟨g5, i, none⟩ = some (xs5.getD i undef) := by
        injection hv5 with hp5 _ _
        have h1 : i < xs5.length := by rw [hels5.1]; exact hlt
        have := hown5.cells (g := g5) (by rw [hp5]; rfl) i (xs5.getD i undef) (by simp [h1])
        have hadd : (⟨g5, 0, none⟩ : Addr).add i = ⟨g5, i, none⟩ := by unfold Addr.add; split <;> simp_all
        rwa [hadd] at this
      injection hv5 with hp5 _ hc5
      subst hp5
      subst hc5
      have hq5 : g5 < wp.heap.size := (Array.getElem?_eq_some_iff.1 hg5).1
      have HEL := Lib.hid hel
      obtain ⟨q, d, hx5, hQI⟩ := hel.ints
      rw [hx5] at HEL hcell
      generalize R.getD i [] = l at hQI HSN hll HEL hcell
      have HQI := Lib.hid hQI
      have HCELL := Lib.hid hcell
      have HWR := Lib.hid (fun W h hL => HWR0.out l hll q d W h hL)
      have HOKR : Hid (okR t l = decide ((wrongR t l).2.2 = 6)) := Lib.hid rfl
      generalize wrongR t l = wr3 at HWR HOKR
      obtain ⟨wa, wb, wc⟩ := wr3
      dsimp only at HWR HOKR
      clear hown hels hown5 hels5 hne hBr hx hel hx5 hQI hg5 hcell
      go_wp2_with fail
      refine Rs.region_gen 13 [[], [], [], [1, 2], [1, 2, 3], [0, 1, 2, 3, 4], [0, 1, 2, 3, 4, 5], [0, 1, 2, 3, 4, 5, 6], [0, 1, 2, 3, 4, 5, 6], [0, 1, 2, 3, 4, 5, 6], [0, 1, 2, 3, 4, 5, 6, 7], [0, 1, 2, 3, 4, 5, 6, 7, 8, 10], [0, 1, 2, 3, 4, 5, 6, 7, 8, 9, 10, 11]] [some 20, some 21, some 22, some 23, some 24, some 25, some 19, some 26, some 27, some 28, some 6, some 7, some 8] (spRi t pw pt cw ct g5 R.length c5 i (.slice q l.length d) wa wb wc) (by kernel_rfl) (by kernel_rfl) rfl (spRi_stable _ _ _ _ _ _ _ _ _ _ _ _ _) ?_ ?_
      · refine ⟨fun V w' hG hs => ?_, fun V w' hG hs => ?_, fun V w' hG hs => ?_, fun V w' hG hs => ?_, fun V w' hG hs => ?_, fun V w' hG hs => ?_, fun V w' hG hs => ?_, fun V w' hG hs => ?_, fun V w' hG hs => ?_, fun V w' hG hs => ?_, fun V w' hG hs => ?_, fun V w' hG hs => ?_, fun V w' hG hs => ?_, trivial⟩
        all_goals
          obtain ⟨k0, k1, k2⟩ := blk3 ((hG.block w.heap.size HZ0).trans HXr.out)
          have hcell := (hG.cell (p := ⟨g5, i, none⟩) hq5).trans HCELL.out
        · rw [if_pos (by rfl)]
          exact Rs.GrowL.value (v := .agg #[.slice pw t.words.length cw, .slice pt t.turns.length ct, .int .i64 t.breath]) (w' := w') (by simp [go_sem, Rs.look, k0, k1, k2]) (Rs.Gr.refl _) rfl
        · rw [if_pos (by rfl)]
          exact Rs.GrowL.value (v := .slice (some ⟨g5, 0, none⟩) R.length c5) (w' := w') (by simp [go_sem, Rs.look]) (Rs.Gr.refl _) rfl
        · rw [if_pos (by rfl)]
          exact Rs.GrowL.value (v := .int .i64 (i : Int)) (w' := w') (by simp [go_sem, Rs.look]) (Rs.Gr.refl _) rfl
        · have e1 : V 1 = .slice (some ⟨g5, 0, none⟩) R.length c5 := hs 1 (by simp)
          have e2 : V 2 = .int .i64 (i : Int) := hs 2 (by simp)
          rw [if_pos (by rfl)]
          exact Rs.GrowL.value (v := .pointer (some ⟨g5, i, none⟩)) (w' := w') (by simp [go_sem, Rs.look, e1, e2, hlt2]) (Rs.Gr.refl _) rfl
        · have e1 : V 1 = .slice (some ⟨g5, 0, none⟩) R.length c5 := hs 1 (by simp)
          have e2 : V 2 = .int .i64 (i : Int) := hs 2 (by simp)
          have e3 : V 3 = .pointer (some ⟨g5, i, none⟩) := hs 3 (by simp)
          rw [if_pos (by rfl)]
          exact Rs.GrowL.value (v := (.slice q l.length d)) (w' := w') (by simp [go_sem, Rs.look, e1, e2, e3, hcell]) (Rs.Gr.refl _) rfl
        · have e0 : V 0 = .agg #[.slice pw t.words.length cw, .slice pt t.turns.length ct, .int .i64 t.breath] := hs 0 (by simp)
          have e1 : V 1 = .slice (some ⟨g5, 0, none⟩) R.length c5 := hs 1 (by simp)
          have e2 : V 2 = .int .i64 (i : Int) := hs 2 (by simp)
          have e3 : V 3 = .pointer (some ⟨g5, i, none⟩) := hs 3 (by simp)
          have e4 : V 4 = (.slice q l.length d) := hs 4 (by simp)
          rw [if_pos (by rfl)]
          refine Rs.GrowL.call (f := 28) (args := #[.agg #[.slice pw t.words.length cw, .slice pt t.turns.length ct, .int .i64 t.breath], .slice q l.length d]) (by simp [go_sem, Rs.look, e0, e4]) ?_
          refine (HWR.out w' (join HBr.out hG) (HQI.out.below hG)).mono ?_
          rintro e w2 ⟨rfl, hB2⟩
          exact ⟨_, rfl, hB2, rfl⟩
        · have e0 : V 0 = .agg #[.slice pw t.words.length cw, .slice pt t.turns.length ct, .int .i64 t.breath] := hs 0 (by simp)
          have e1 : V 1 = .slice (some ⟨g5, 0, none⟩) R.length c5 := hs 1 (by simp)
          have e2 : V 2 = .int .i64 (i : Int) := hs 2 (by simp)
          have e3 : V 3 = .pointer (some ⟨g5, i, none⟩) := hs 3 (by simp)
          have e4 : V 4 = (.slice q l.length d) := hs 4 (by simp)
          have e5 : V 5 = .tuple #[.int .i64 wa, .int .i64 wb, .int .i64 wc] := hs 5 (by simp)
          rw [if_pos (by rfl)]
          exact Rs.GrowL.value (v := .tuple #[.int .i64 wa, .int .i64 wb, .int .i64 wc]) (w' := w') (by simp [go_sem, Rs.look, e0, e1, e2, e3, e4, e5]) (Rs.Gr.refl _) rfl
        · have e0 : V 0 = .agg #[.slice pw t.words.length cw, .slice pt t.turns.length ct, .int .i64 t.breath] := hs 0 (by simp)
          have e1 : V 1 = .slice (some ⟨g5, 0, none⟩) R.length c5 := hs 1 (by simp)
          have e2 : V 2 = .int .i64 (i : Int) := hs 2 (by simp)
          have e3 : V 3 = .pointer (some ⟨g5, i, none⟩) := hs 3 (by simp)
          have e4 : V 4 = (.slice q l.length d) := hs 4 (by simp)
          have e5 : V 5 = .tuple #[.int .i64 wa, .int .i64 wb, .int .i64 wc] := hs 5 (by simp)
          have e6 : V 6 = .tuple #[.int .i64 wa, .int .i64 wb, .int .i64 wc] := hs 6 (by simp)
          rw [if_pos (by rfl)]
          exact Rs.GrowL.value (v := .int .i64 wa) (w' := w') (by simp [go_sem, Rs.look, e0, e1, e2, e3, e4, e5, e6]) (Rs.Gr.refl _) rfl
        · have e0 : V 0 = .agg #[.slice pw t.words.length cw, .slice pt t.turns.length ct, .int .i64 t.breath] := hs 0 (by simp)
          have e1 : V 1 = .slice (some ⟨g5, 0, none⟩) R.length c5 := hs 1 (by simp)
          have e2 : V 2 = .int .i64 (i : Int) := hs 2 (by simp)
          have e3 : V 3 = .pointer (some ⟨g5, i, none⟩) := hs 3 (by simp)
          have e4 : V 4 = (.slice q l.length d) := hs 4 (by simp)
          have e5 : V 5 = .tuple #[.int .i64 wa, .int .i64 wb, .int .i64 wc] := hs 5 (by simp)
          have e6 : V 6 = .tuple #[.int .i64 wa, .int .i64 wb, .int .i64 wc] := hs 6 (by simp)
          rw [if_pos (by rfl)]
          exact Rs.GrowL.value (v := .int .i64 wb) (w' := w') (by simp [go_sem, Rs.look, e0, e1, e2, e3, e4, e5, e6]) (Rs.Gr.refl _) rfl
        · have e0 : V 0 = .agg #[.slice pw t.words.length cw, .slice pt t.turns.length ct, .int .i64 t.breath] := hs 0 (by simp)
          have e1 : V 1 = .slice (some ⟨g5, 0, none⟩) R.length c5 := hs 1 (by simp)
          have e2 : V 2 = .int .i64 (i : Int) := hs 2 (by simp)
          have e3 : V 3 = .pointer (some ⟨g5, i, none⟩) := hs 3 (by simp)
          have e4 : V 4 = (.slice q l.length d) := hs 4 (by simp)
          have e5 : V 5 = .tuple #[.int .i64 wa, .int .i64 wb, .int .i64 wc] := hs 5 (by simp)
          have e6 : V 6 = .tuple #[.int .i64 wa, .int .i64 wb, .int .i64 wc] := hs 6 (by simp)
          rw [if_pos (by rfl)]
          exact Rs.GrowL.value (v := .int .i64 wc) (w' := w') (by simp [go_sem, Rs.look, e0, e1, e2, e3, e4, e5, e6]) (Rs.Gr.refl _) rfl
        · have e0 : V 0 = .agg #[.slice pw t.words.length cw, .slice pt t.turns.length ct, .int .i64 t.breath] := hs 0 (by simp)
          have e1 : V 1 = .slice (some ⟨g5, 0, none⟩) R.length c5 := hs 1 (by simp)
          have e2 : V 2 = .int .i64 (i : Int) := hs 2 (by simp)
          have e3 : V 3 = .pointer (some ⟨g5, i, none⟩) := hs 3 (by simp)
          have e4 : V 4 = (.slice q l.length d) := hs 4 (by simp)
          have e5 : V 5 = .tuple #[.int .i64 wa, .int .i64 wb, .int .i64 wc] := hs 5 (by simp)
          have e6 : V 6 = .tuple #[.int .i64 wa, .int .i64 wb, .int .i64 wc] := hs 6 (by simp)
          have e7 : V 7 = .int .i64 wa := hs 7 (by simp)
          rw [if_pos (by rfl)]
          exact Rs.GrowL.value (v := .int .i64 wa) (w' := w') (by simp [go_sem, Rs.look, e0, e1, e2, e3, e4, e5, e6, e7]) (Rs.Gr.refl _) rfl
        · have e0 : V 0 = .agg #[.slice pw t.words.length cw, .slice pt t.turns.length ct, .int .i64 t.breath] := hs 0 (by simp)
          have e1 : V 1 = .slice (some ⟨g5, 0, none⟩) R.length c5 := hs 1 (by simp)
          have e2 : V 2 = .int .i64 (i : Int) := hs 2 (by simp)
          have e3 : V 3 = .pointer (some ⟨g5, i, none⟩) := hs 3 (by simp)
          have e4 : V 4 = (.slice q l.length d) := hs 4 (by simp)
          have e5 : V 5 = .tuple #[.int .i64 wa, .int .i64 wb, .int .i64 wc] := hs 5 (by simp)
          have e6 : V 6 = .tuple #[.int .i64 wa, .int .i64 wb, .int .i64 wc] := hs 6 (by simp)
          have e7 : V 7 = .int .i64 wa := hs 7 (by simp)
          have e8 : V 8 = .int .i64 wb := hs 8 (by simp)
          have e10 : V 10 = .int .i64 wa := hs 10 (by simp)
          rw [if_pos (by rfl)]
          exact Rs.GrowL.value (v := .int .i64 wb) (w' := w') (by simp [go_sem, Rs.look, e0, e1, e2, e3, e4, e5, e6, e7, e8, e10]) (Rs.Gr.refl _) rfl
        · have e0 : V 0 = .agg #[.slice pw t.words.length cw, .slice pt t.turns.length ct, .int .i64 t.breath] := hs 0 (by simp)
          have e1 : V 1 = .slice (some ⟨g5, 0, none⟩) R.length c5 := hs 1 (by simp)
          have e2 : V 2 = .int .i64 (i : Int) := hs 2 (by simp)
          have e3 : V 3 = .pointer (some ⟨g5, i, none⟩) := hs 3 (by simp)
          have e4 : V 4 = (.slice q l.length d) := hs 4 (by simp)
          have e5 : V 5 = .tuple #[.int .i64 wa, .int .i64 wb, .int .i64 wc] := hs 5 (by simp)
          have e6 : V 6 = .tuple #[.int .i64 wa, .int .i64 wb, .int .i64 wc] := hs 6 (by simp)
          have e7 : V 7 = .int .i64 wa := hs 7 (by simp)
          have e8 : V 8 = .int .i64 wb := hs 8 (by simp)
          have e9 : V 9 = .int .i64 wc := hs 9 (by simp)
          have e10 : V 10 = .int .i64 wa := hs 10 (by simp)
          have e11 : V 11 = .int .i64 wb := hs 11 (by simp)
          rw [if_pos (by rfl)]
          exact Rs.GrowL.value (v := .int .i64 wc) (w' := w') (by simp [go_sem, Rs.look, e0, e1, e2, e3, e4, e5, e6, e7, e8, e9, e10, e11]) (Rs.Gr.refl _) rfl
      · intro V w' hG hs
        have e0 : V 0 = .agg #[.slice pw t.words.length cw, .slice pt t.turns.length ct, .int .i64 t.breath] := hs 0 (by omega)
        have e1 : V 1 = .slice (some ⟨g5, 0, none⟩) R.length c5 := hs 1 (by omega)
        have e2 : V 2 = .int .i64 (i : Int) := hs 2 (by omega)
        have e3 : V 3 = .pointer (some ⟨g5, i, none⟩) := hs 3 (by omega)
        have e4 : V 4 = (.slice q l.length d) := hs 4 (by omega)
        have e5 : V 5 = .tuple #[.int .i64 wa, .int .i64 wb, .int .i64 wc] := hs 5 (by omega)
        have e6 : V 6 = .tuple #[.int .i64 wa, .int .i64 wb, .int .i64 wc] := hs 6 (by omega)
        have e7 : V 7 = .int .i64 wa := hs 7 (by omega)
        have e8 : V 8 = .int .i64 wb := hs 8 (by omega)
        have e9 : V 9 = .int .i64 wc := hs 9 (by omega)
        have e10 : V 10 = .int .i64 wa := hs 10 (by omega)
        have e11 : V 11 = .int .i64 wb := hs 11 (by omega)
        have e12 : V 12 = .int .i64 wc := hs 12 (by omega)
        simp only [Rs.canon, Rs.dstOf, List.range_succ, List.range_zero, List.nil_append, List.cons_append, List.foldl_cons, List.foldl_nil, List.drop_succ_cons, List.drop_zero, List.drop_nil, List.getElem?_toArray, List.getElem?_cons_succ, List.getElem?_cons_zero, Option.bind_some, Act.put, List.getD_cons_succ, List.getD_cons_zero, List.setIfInBounds_toArray, List.set_cons_succ, List.set_cons_zero]
        rw [e0, e1, e2, e3, e4, e5, e6, e7, e8, e9, e10, e11, e12]
        clear e0 e1 e2 e3 e4 e5 e6 e7 e8 e9 e10 e11 e12 hs
        have HO := Lib.hid (own_below HO.out hG)
        have HE := Lib.hid (HE.out.below hG)
        have HO5 := Lib.hid (own_below HO5.out hG)
        have HR := Lib.hid (HR.out.below hG)
        have HEL := Lib.hid (HEL.out.below hG)
        have HXr := Lib.hid ((hG.block w.heap.size HZ0).trans HXr.out)
        have hzg := hG.size
        have hcell := (hG.cell (p := ⟨g5, i, none⟩) hq5).trans HCELL.out
        have HBr := Lib.hid (join HBr.out hG)
        clear hG
        by_cases h6 : wc = 6
        · subst h6
          rw [HOKR.out, decide_eq_true rfl, if_pos rfl] at HSN
          go_wp2_with (at_builtin; refine wpList_append_which rfl _ _ rfl (w.heap.size + 1) _ _ _ rfl (HO.out.alloc _) ⟨w'.heap.size, 0, none⟩ _ rfl (cell_one_new _ _ _ 0 _ rfl) rfl ?y1 ?y2 ?_)
          case y1 => first | omega | (simp; omega)
          case y2 => omega
          intro v' w9 hown9 hgrow9 hwhich
          have HEL9 := Lib.hid ((HEL.out.below (below1 _ _)).grown (HO.out.alloc _) hgrow9)
          have HE9 := Lib.hid ((HE.out.below (below1 _ _)).grown (HO.out.alloc _) hgrow9)
          have HO9 := Lib.hid hown9
          have HX9 := Lib.hid (blk_grown ((below1 w' _).block w.heap.size (by omega) |>.trans HXr.out) (HO.out.alloc _) hgrow9 (by omega))
          have HO59 := Lib.hid ((HO5.out.alloc (.cells #[.slice q l.length d] 28)).kept hgrow9 (by
            rcases HNE.out with h | h
            · right; rw [h]; simp [Value.ownBlock]
            · right; exact fun e => h e.symm))
          have HR9 := Lib.hid ((HR.out.below (below1 _ _)).grown (HO.out.alloc _) hgrow9)
          have HNE9 : Hid (v'.ownBlock = none ∨ v'.ownBlock ≠ (Value.slice (some ⟨g5, 0, none⟩) R.length c5).ownBlock) := Lib.hid (by
            rcases hwhich with h | h
            · rw [h]; exact HNE.out
            · right; rw [h]; show some _ ≠ some g5; intro e; injection e with e; (try simp at e); omega)
          have HB9 := Lib.hid (below_grown (al2 HBr.out (by omega) _) (HO.out.alloc _) (by omega) (by simp; omega) hgrow9)
          clear hgrow9 hown9 hwhich
          go_wp2
          go_roundw
          case rel => exact ⟨i + 1, _, by go_num, by omega, by rw [HSN.out, List.length_append]; exact HO9.out, by rw [HSN.out]; exact HE9.out.snoc HEL9.out, HO59.out, HR9.out, HNE9.out, HB9.out, HX9.out⟩
          case measure => simp [intOf]; omega
        · have h6' : (wc == 6) = false := by simpa using h6
          rw [HOKR.out, decide_eq_false h6, if_neg (by decide), List.append_nil] at HSN
          clear h6
          go_wp2
          go_roundw
          case rel => exact ⟨i + 1, xs, by go_num, by omega, by rw [HSN.out]; exact HO.out, by rw [HSN.out]; exact HE.out, HO5.out, HR.out, HNE.out, HBr.out, HXr.out⟩
          case measure => simp [intOf]; omega
    · obtain rfl : i = R.length := by omega
      rw [List.take_length, ← HRR.out] at HO HE
      go_wp2
      go_ret
      exact ⟨_, xs, rfl, own_base HO.out (by omega), HE.out, HBr.out⟩
end Go.Proofs.Ytadnggecnjdhiaa
set_option linter.unusedSimpArgs false
set_option linter.unusedVariables false
namespace Go.Proofs.Ytadnggecnjdhiaa
open Go.RowKit Tx
attribute [local go_sem] Oper.semAt_some

/-- lists that can be read -/
def LLs (W : World) (p : Option Addr) (L : List (List Int)) : Prop := L = [] ∨ ∃ b, p = some ⟨b, 0, none⟩ ∧ b < W.heap.size ∧ ∀ i, i < L.length → ∃ x, W.cell? ⟨b, i, none⟩ = some x ∧ El W x (L.getD i [])
theorem LLs.below {W W' : World} {p : Option Addr} {L : List (List Int)} (h : LLs W p L) (hb : Below W.heap.size W W') : LLs W' p L := by
  rcases h with h | ⟨b, hp, hl, h⟩
  · exact .inl h
  · exact .inr ⟨b, hp, Nat.lt_of_lt_of_le hl hb.size, fun i hi => by
      obtain ⟨x, h1, h2⟩ := h i hi
      exact ⟨x, (hb.cell (p := ⟨b, i, none⟩) hl).trans h1, h2.below hb⟩⟩
theorem LLs.of_own {W : World} {base : Nat} {v : Value} {L : List (List Int)} {xs : List Value} (h : W.ownsRow base 28 1 v L.length xs) (he : Els W xs L) : ∃ p c, v = .slice p L.length c ∧ LLs W p L := by
  rcases h.2 with ⟨h3, h4⟩ | ⟨g, cap, cur, rfl, hb, hg, h1, h2, h3, h4⟩
  · exact ⟨none, 0, by rw [h3, h4], .inl (List.length_eq_zero_iff.1 h4)⟩
  · refine ⟨_, cap, rfl, .inr ⟨g, rfl, (Array.getElem?_eq_some_iff.1 hg).1, fun i hi => ⟨xs.getD i undef, ?_, he.2 i hi⟩⟩⟩
    have h1 : i < xs.length := by rw [he.1]; exact hi
    have := h.cells (g := g) rfl i (xs.getD i undef) (by simp [h1])
    have hadd : (⟨g, 0, none⟩ : Addr).add i = ⟨g, i, none⟩ := by unfold Addr.add; split <;> simp_all
    rwa [hadd] at this
theorem LLs.at {W : World} {p : Option Addr} {L : List (List Int)} (h : LLs W p L) {i : Nat} (hi : i < L.length) : ∃ b q d, p = some ⟨b, 0, none⟩ ∧ b < W.heap.size ∧ W.cell? ⟨b, i, none⟩ = some (.slice q (L.getD i []).length d) ∧ Ints W q (L.getD i []) := by
  rcases h with rfl | ⟨b, hp, hl, h⟩
  · simp at hi
  · obtain ⟨x, h1, h2⟩ := h i hi
    obtain ⟨q, d, rfl, h3⟩ := h2.ints
    exact ⟨b, q, d, hp, hl, h1, h3⟩
theorem bestLen_le (ls : List (List Int)) (m : Nat) : ∀ b, b ≤ m → (∀ l ∈ ls, l.length ≤ m) → bestLen ls b ≤ m := by
  induction ls with
  | nil => intro b hb _; exact hb
  | cons l ls ih => intro b hb h; rw [bestLen]; exact ih _ (by have := h l (by simp); split <;> omega) fun x hx => h x (by simp [hx])
theorem bestLen_drop (L : List (List Int)) (i b : Nat) (h : i < L.length) : bestLen (L.drop i) b = bestLen (L.drop (i + 1)) (if b = 0 ∨ (L.getD i []).length < b then (L.getD i []).length else b) := by
  rw [List.drop_eq_getElem_cons h, bestLen]
  rw [show L.getD i [] = L[i] from by simp [h]]
set_option maxHeartbeats 2000000 in
theorem rFewest_any (L : List (List Int)) (hL : L.length ≤ 1000000) (hl : ∀ l ∈ L, l.length ≤ 1000) (p : Option Addr) (c : Nat) (w : World) (h : LLs w p L) :
    Calls Try.prog 34 #[.slice p L.length c] w fun e w' => e = .returned (.tuple #[.int .i64 (bestLen L 0 : Nat), .int .i64 (if bestLen L 0 = 0 then 6 else 0)]) ∧ w = w' := by
  have H := Lib.hid h
  have HL := Lib.hid (fun i (hi : i < L.length) => hl (L.getD i []) (by simp [hi]))
  obtain ⟨B, hB⟩ : ∃ B, B = bestLen L 0 := ⟨_, rfl⟩
  rw [← hB]
  obtain ⟨er, her⟩ : ∃ er : Int, er = (if B = 0 then 6 else 0) := ⟨_, rfl⟩
  rw [← her]
  have HER := Lib.hid her
  clear her
  have HB := Lib.hid hB
  clear h hl hB
  go_enter Try.func34, Try.ntmps34
  go_wp2
  go_loop [4, 5] (fun bv v => ∃ i b : Nat, v = .int .i64 i ∧ bv = .int .i64 b ∧ i ≤ L.length ∧ b ≤ 1000 ∧ bestLen (L.drop i) b = B) (fun _ v => L.length - (intOf v).toNat)
  case atStart => exact ⟨0, 0, rfl, rfl, Nat.zero_le _, by omega, HB.out.symm⟩
  case round =>
    obtain ⟨i, b, rfl, rfl, hi, hb, hbest⟩ := hrel
    have HBE := Lib.hid hbest
    clear hbest
    by_cases hlt : i < L.length
    · have hlt' : (i : Int) < L.length := by omega
      obtain ⟨g, q, d, rfl, hg, hcell, hI⟩ := H.out.at hlt
      have hll := HL.out i hlt
      have HST := Lib.hid (bestLen_drop L i b hlt)
      generalize L.getD i [] = l at hcell hll HST
      clear hI
      by_cases h0 : b = 0
      · subst h0
        rw [if_pos (.inl rfl), HBE.out] at HST
        go_wp2
        go_round
        case rel => exact ⟨i + 1, l.length, by go_num, rfl, by omega, by omega, HST.out.symm⟩
        case measure => simp [intOf]; omega
      · have h0' : ((b : Int) == 0) = false := by rw [beq_eq_false_iff_ne]; omega
        by_cases h1 : l.length < b
        · have h1' : (l.length : Int) < b := by omega
          rw [if_pos (.inr h1), HBE.out] at HST
          clear h0 h1
          go_wp2
          go_round
          case rel => exact ⟨i + 1, l.length, by go_num, rfl, by omega, by omega, HST.out.symm⟩
          case measure => simp [intOf]; omega
        · have h1' : ¬ (l.length : Int) < b := by omega
          rw [if_neg (by omega), HBE.out] at HST
          clear h0 h1
          go_wp2
          go_round
          case rel => exact ⟨i + 1, b, by go_num, rfl, by omega, by omega, HST.out.symm⟩
          case measure => simp [intOf]; omega
    · obtain rfl : i = L.length := by omega
      have hbe : b = B := by have := HBE.out; rw [List.drop_length] at this; exact this
      clear HBE HB
      subst hbe
      by_cases h0 : b = 0
      · subst h0
        have HF : Hid (er = 6) := Lib.hid (by rw [HER.out, if_pos rfl])
        clear HER
        go_wp2
        go_ret2
        exact ⟨by rw [HF.out]; rfl, rfl⟩
      · have h0' : ((b : Int) == 0) = false := by rw [beq_eq_false_iff_ne]; omega
        have HF : Hid (er = 0) := Lib.hid (by rw [HER.out, if_neg h0])
        clear h0 HER
        go_wp2
        go_ret2
        exact ⟨by rw [HF.out]; rfl, rfl⟩
/-- the places up to less than p at which none of some readings breaks -/
def nevTo (L : List (List Int)) (p : Nat) : List Int := ((List.range' 1 (p - 1)).filter fun q => !L.any fun l => breaksAt l q).map fun (q : Nat) => (q : Int)
theorem nevTo_succ (L : List (List Int)) (p : Nat) (hp : 1 ≤ p) : nevTo L (p + 1) = nevTo L p ++ (if (L.any fun l => breaksAt l p) then [] else [(p : Int)]) := by
  unfold nevTo
  rw [show p + 1 - 1 = (p - 1) + 1 by omega, List.range'_concat, List.filter_append, List.map_append]
  rw [show 1 + 1 * (p - 1) = p by omega]
  cases h : (L.any fun l => breaksAt l p) <;> simp [h]
theorem nevTo_len (L : List (List Int)) (p : Nat) : (nevTo L p).length ≤ p := by
  unfold nevTo; rw [List.length_map]; exact Nat.le_trans (List.length_filter_le _ _) (by simp)
set_option maxHeartbeats 6000000 in
set_option maxRecDepth 100000 in
theorem rNever_any (n : Nat) (hn1 : 1 ≤ n) (hn : n ≤ 12) (L : List (List Int)) (hL : L.length ≤ 1000000) (hl : ∀ l ∈ L, Parts n l) (pw : Option Addr) (cw : Nat) (v1 v2 : Value) (p : Option Addr) (c : Nat) (w : World) (h : LLs w p L) :
    Calls Try.prog 35 #[.agg #[.slice pw n cw, v1, v2], .slice p L.length c] w (RowPost (nevTo L n) w) := by
  obtain ⟨i0, hi0, hz0, hz1, hz2⟩ := info_parts A_infoI
  have H := Lib.hid h
  have HL := Lib.hid (fun i (hi : i < L.length) => hl (L.getD i []) (by simp [hi]))
  have HB := Lib.hid (below1 w (.cells #[.slice pw n cw, v1, v2] 35))
  have HX := Lib.hid (heap_last w (.cells #[.slice pw n cw, v1, v2] 35))
  have hz1' : (w.alloc (.cells #[.slice pw n cw, v1, v2] 35)).heap.size = w.heap.size + 1 := by simp
  clear h hl
  go_enter Try.func35, Try.ntmps35
  go_wp2_with fail
  generalize w.alloc (.cells #[.slice pw n cw, v1, v2] 35) = W1 at HB HX hz1' ⊢
  have hz1'' : w.heap.size + 1 ≤ W1.heap.size := by omega
  clear hz1'
  go_loopw [5, 6, 7, 8, 9, 10] (fun ov pv _ _ _ _ wr => ∃ q : Nat, pv = .int .i64 q ∧ 1 ≤ q ∧ q ≤ n ∧ wr.ownsRow W1.heap.size 3 1 ov (nevTo L q).length ((nevTo L q).map (Value.int .i64)) ∧ Below W1.heap.size W1 wr) (fun _ pv _ _ _ _ _ => n - (intOf pv).toNat)
  case atStart => exact ⟨1, rfl, Nat.le_refl _, hn1, own_none _ _ _ _, Below.refl _ _⟩
  case round =>
    obtain ⟨wq, rfl⟩ : ∃ wq : World, wq = wr := ⟨_, rfl⟩
    obtain ⟨q, rfl, hq1, hqn, hown, hBr⟩ := hrel
    have HO := Lib.hid hown
    have HBr := Lib.hid hBr
    have hz7 := hBr.size
    have hol := nevTo_len L q
    have HSN := Lib.hid (nevTo_succ L q hq1)
    obtain ⟨k0, k1, k2⟩ := blk3 ((hBr.block w.heap.size (by omega)).trans HX.out)
    clear hown hBr
    by_cases hlt : q < n
    · have hlt' : (q : Int) < n := by omega
      go_wp2_with fail
      go_loopg [7, 8, 9, 10] L.length (fun gk bv v _ _ wr => ∃ (i : Nat) (b : Bool), gk + i = L.length ∧ v = .int .i64 i ∧ bv = .bool b ∧ b = ((L.take i).any fun l => breaksAt l q) ∧ wq = wr)
      case atStart => exact ⟨0, false, by omega, rfl, rfl, rfl, rfl⟩
      case round =>
        obtain ⟨gm, rfl⟩ : ∃ x : Nat, x = gk := ⟨_, rfl⟩
        obtain ⟨i, b, hi, rfl, rfl, hb, rfl⟩ := hrel
        have HBB := Lib.hid hb
        clear hb
        by_cases hil : i < L.length
        · have hil' : (i : Int) < L.length := by omega
          obtain ⟨g, r, d, rfl, hg, hcell, hI⟩ := (H.out.below (join HB.out HBr.out)).at hil
          have hpl := HL.out i hil
          have HST : Hid (((L.take (i + 1)).any fun l => breaksAt l q) = (b || breaksAt (L.getD i []) q)) := Lib.hid (by
            rw [take_snocD [] hil, List.any_append, ← HBB.out]; simp)
          generalize L.getD i [] = l at hcell hpl HST hI
          have HPL := Lib.hid (fun k => isum_take_le (fun x h => by have := hpl.1 x h; omega) hpl.2 k)
          have hll : l.length ≤ 12 := by have := isum_ge hpl.1; have := hpl.2; omega
          have HI := Lib.hid hI
          clear hpl hI
          go_wp2_with fail
          go_loopg [7, 9, 10] l.length (fun gk2 bv av kv wr => ∃ (k : Nat) (s : Int), gk2 + k = l.length ∧ kv = .int .i64 k ∧ av = .int .i64 s ∧ s = isum (l.take k) ∧ bv = .bool (b || (List.range k).any fun j => isum (l.take (j + 1)) == (q : Int)) ∧ wq = wr)
          case atStart => exact ⟨0, 0, by omega, rfl, rfl, rfl, by simp, rfl⟩
          case round =>
            obtain ⟨k, s, hk, rfl, rfl, hs, rfl, rfl⟩ := hrel
            by_cases hkl : k < l.length
            · have hkl' : (k : Int) < l.length := by omega
              obtain ⟨gb, go, x, rfl, hgb, hxx, hc1⟩ := HI.out.at hkl
              have hsn : isum (l.take (k + 1)) = s + x := by rw [take_snocD 0 hkl, isum_snoc, hxx, hs]
              have hp1 := HPL.out k
              have hp2 := HPL.out (k + 1)
              rw [← hs] at hp1
              rw [hsn] at hp2
              have HSU := Lib.hid hsn
              have HAN : Hid ((List.range (k + 1)).any (fun j => isum (l.take (j + 1)) == (q : Int)) = ((List.range k).any (fun j => isum (l.take (j + 1)) == (q : Int)) || (s + x == (q : Int)))) := Lib.hid (by
                rw [List.range_succ, List.any_append]; simp [hsn])
              generalize (List.range k).any (fun j => isum (l.take (j + 1)) == (q : Int)) = ak at HAN
              clear hs hsn hxx
              cases hba : (b || ak) with
              | true =>
                have HBA := Lib.hid hba
                clear hba
                go_wp2
                go_roundg (gk - 1)
                case rel => exact ⟨k + 1, s + x, by omega, by go_num, rfl, HSU.out.symm, by rw [HAN.out, ← Bool.or_assoc, HBA.out]; rfl, rfl⟩
                case measure => omega
              | false =>
                have HBA := Lib.hid hba
                clear hba
                go_wp2
                go_roundg (gk - 1)
                case rel => exact ⟨k + 1, s + x, by omega, by go_num, rfl, HSU.out.symm, by rw [HAN.out, ← Bool.or_assoc, HBA.out]; rfl, rfl⟩
                case measure => omega
            · obtain rfl : k = l.length := by omega
              have HFB : Hid (breaksAt l q = (List.range l.length).any fun j => isum (l.take (j + 1)) == (q : Int)) := Lib.hid rfl
              clear hs
              go_wp2
              go_roundg (gm - 1)
              case rel => exact ⟨i + 1, _, by omega, by go_num, rfl, by rw [HST.out, HFB.out], rfl⟩
              case measure => omega
        · obtain rfl : i = L.length := by omega
          rw [List.take_length] at HBB
          cases b with
          | true =>
            rw [← HBB.out, if_pos rfl, List.append_nil] at HSN
            go_wp2
            go_roundw
            case rel => exact ⟨q + 1, by go_num, by omega, by omega, by rw [HSN.out]; exact HO.out, HBr.out⟩
            case measure => simp [intOf]; omega
          | false =>
            rw [← HBB.out, if_neg (by decide)] at HSN
            go_wp2_with (at_builtin; refine wpList_append_own _ rfl _ _ 28 rfl W1.heap.size 3 i0 (.int .i64 0) 1 8 A_undI hi0 hz0 hz1 hz2 rfl (by decide) _ _ _ rfl (HO.out.alloc _) ⟨wq.heap.size, 0, none⟩ 1 1 [.int .i64 (q : Int)] rfl rfl ?d1 ?d2 ?d3 ?d4 ?d5 ?_)
            case d1 => exact cell_one_new _ _ _
            case d2 => first | rfl | (intro u hu; simp at hu; subst hu; rfl)
            case d3 => unfold maxLen; omega
            case d4 => omega
            case d5 => first | omega | (simp; omega)
            intro v' w8 hown8 hgrow _
            have hB8 := below_grown (al2 HBr.out (by omega) _) (HO.out.alloc _) (Nat.le_refl _) (by simp; omega) hgrow
            have HO8 := Lib.hid hown8
            have HB8 := Lib.hid hB8
            clear hgrow hown8 hB8
            go_wp2
            go_roundw
            case rel => exact ⟨q + 1, by go_num, by omega, by omega, by rw [HSN.out]; simpa using HO8.out, HB8.out⟩
            case measure => simp [intOf]; omega
    · obtain rfl : q = n := by omega
      clear HSN
      go_wp2
      go_ret
      exact ⟨_, rfl, own_base HO.out (by omega), join HB.out HBr.out⟩
end Go.Proofs.Ytadnggecnjdhiaa
set_option linter.unusedSimpArgs false
set_option linter.unusedVariables false
namespace Go.Proofs.Ytadnggecnjdhiaa
open Go.RowKit Tx
attribute [local go_sem] Oper.semAt_some
def spLf (t : Text) (pw pt : Option Addr) (cw ct B : Nat)  : Nat → List Value → Value → World → Prop
  | 0, _, v, _ => v = .agg #[.slice pw t.words.length cw, .slice pt t.turns.length ct, .int .i64 t.breath]
  | 1, L, v, w => ∃ p q c d, v = .agg #[.slice p t.words.length c, .slice q t.turns.length d, .int .i64 t.breath] ∧ w.ownsRow B 77 3 (.slice p t.words.length c) t.words.length (wcells t.words) ∧ w.ownsRow B 80 3 (.slice q t.turns.length d) t.turns.length (tcells t.turns) ∧ t.words.length ≤ c ∧ c ≤ maxLen
  | 2, _, v, _ => v = .agg #[.slice pw t.words.length cw, .slice pt t.turns.length ct, .int .i64 t.breath]
  | 3, L, v, w => ∃ p q c d, v = .agg #[.slice p t.words.length c, .slice q t.turns.length d, .int .i64 t.breath] ∧ w.ownsRow B 78 3 (.slice p t.words.length c) t.words.length (wcells t.words) ∧ w.ownsRow B 81 3 (.slice q t.turns.length d) t.turns.length (tcells t.turns)
  | 4, L, v, w => ∃ p, v = .pointer (some ⟨p, 0, none⟩) ∧ B ≤ p ∧ w.heap[p]? = some (.cells #[.slice none 0 0, .slice none 0 0, .int .i64 0] 25 (0, 0))
  | 5, L, v, w => ∃ p, v = .pointer (some ⟨p, 0, none⟩) ∧ B ≤ p ∧ w.heap[p]? = some (.cells #[.slice none 0 0, .slice none 0 0, .int .i64 0] 35 (0, 0))
  | _, _, _, _ => False
theorem spLf_stable (t : Text) (pw pt : Option Addr) (cw ct B : Nat)  : ∀ i L v w w', spLf t pw pt cw ct B i L v w → Rs.Gr w w' → spLf t pw pt cw ct B i L v w' := by
  intro i L v w w' h hg
  match i with
  | 0 => exact h
  | 1 => obtain ⟨p, q, c, d, h1, h2, h3, h4⟩ := h; exact ⟨p, q, c, d, h1, own_below h2 hg, own_below h3 hg, h4⟩
  | 2 => exact h
  | 3 => obtain ⟨p, q, c, d, h1, h2, h3⟩ := h; exact ⟨p, q, c, d, h1, own_below h2 hg, own_below h3 hg⟩
  | 4 => obtain ⟨p, h1, h2, h3⟩ := h; exact ⟨p, h1, h2, (hg.block p (Array.getElem?_eq_some_iff.1 h3).1).trans h3⟩
  | 5 => obtain ⟨p, h1, h2, h3⟩ := h; exact ⟨p, h1, h2, (hg.block p (Array.getElem?_eq_some_iff.1 h3).1).trans h3⟩

structure FewF (t : Text) (R : List (List Int)) (B : Nat) : Prop where
  rr : rightsR t = R
  bb : bestLen R 0 = B
  fl : (fewL t).length = B
  fe : fewE t = if B = 0 then 6 else 0
  fw : B ≠ 0 → (wrongR t (fewL t)).2.2 = 6
  cn : cntN t = (R.length : Int)
  nl : nevL t = if B = 0 then [] else nevTo R t.words.length
  ne : nevE t = if B = 0 then 6 else 0
  b12 : B ≤ 12
  r12 : R.length ≤ 100000
  rp : ∀ l ∈ R, Parts t.words.length l
theorem few_facts {t : Text} (he : t.err = 0) : FewF t (rightsR t) (bestLen (rightsR t) 0) := by
  have ok := err_ok he
  have hR := rightsR_eq ok he
  obtain ⟨f1, f2, f3, f4⟩ := fewest_rights (may := t.right) ok.n1 ok.n12
  have hne := rights_ne (may := t.right) ok.n1
  have hz := bestLen_zero (rights t.right t.words.length) 0 hne
  have hcnt := count_rights t.right t.words.length
  have hlen : ∀ l ∈ rightsR t, l.length ≤ 12 := fun l hl => by
    rw [hR] at hl
    have h1 := (mem_rights.1 hl).1
    have := isum_ge h1.1
    have := h1.2
    have := ok.n12
    omega
  have eL : fewL t = (Tx.fewest t.right t.words.length).1 := by unfold fewL; rw [if_pos he]
  have eE : fewE t = (Tx.fewest t.right t.words.length).2 := by unfold fewE; rw [if_pos he]
  have hB0 : bestLen (rightsR t) 0 = 0 ↔ rightsR t = [] := by rw [hR, hz]; simp
  refine ⟨rfl, rfl, by rw [eL, f1, hR], by rw [eE, f2, hR], fun hB => ?_, ?_, ?_, ?_, bestLen_le _ 12 0 (by omega) hlen, ?_, fun l hl => by rw [hR] at hl; exact (mem_rights.1 hl).1⟩
  · have hmem : fewL t ∈ rightsR t := by
      rw [eL, hR]; apply f3; rw [f2, if_neg (by rw [← hR]; exact hB)]
    unfold rightsR at hmem
    have := (List.mem_filter.1 hmem).2
    unfold okR at this
    exact of_decide_eq_true this
  · unfold cntN; rw [if_pos he, hcnt, hR]
  · unfold nevL Tx.unbroken
    rw [if_pos he, hcnt]
    by_cases h0 : rightsR t = []
    · rw [← hR, h0]; rfl
    · rw [← hR, if_neg (by intro e; exact h0 (List.length_eq_zero_iff.1 e)), if_neg (fun e => h0 (hB0.1 e))]
      unfold nevTo
      dsimp only
      congr 1
      refine List.filter_congr fun q hq => ?_
      rw [List.mem_range'_1] at hq
      rw [unbr_rights ok.n12 (by omega) (by omega), hR]
  · unfold nevE Tx.unbroken
    rw [if_pos he, hcnt]
    by_cases h0 : rightsR t = []
    · rw [← hR, h0]; rfl
    · rw [← hR, if_neg (by intro e; exact h0 (List.length_eq_zero_iff.1 e)), if_neg (fun e => h0 (hB0.1 e))]
  · unfold rightsR
    have h1 := List.length_filter_le (okR t) (compF t.words.length t.words.length)
    have h2 := Nat.le_trans (comp_len t.words.length t.words.length) (Nat.pow_le_pow_right (show 0 < 2 by omega) ok.n12)
    omega
set_option maxHeartbeats 6000000 in
set_option maxRecDepth 100000 in
theorem TextFewest_any (t : Text) (hm1 : t.words.length ≤ 9223372036854775807) (hm2 : t.turns.length ≤ 9223372036854775807) (pw pt : Option Addr) (cw ct : Nat) (w : World) (hW : TxAt w t pw pt) :
    Calls Try.prog 4 #[.agg #[.slice pw t.words.length cw, .slice pt t.turns.length ct, .int .i64 t.breath]] w fun e w' => e = .returned (.bool true) ∧ Below w.heap.size w w' := by
  have HW := Lib.hid hW
  have HB0 := Lib.hid (below1 w (.cells #[.slice pw t.words.length cw, .slice pt t.turns.length ct, .int .i64 t.breath] 25))
  have HX0 := Lib.hid (heap_last w (.cells #[.slice pw t.words.length cw, .slice pt t.turns.length ct, .int .i64 t.breath] 25))
  have HG := Lib.hid (fun W => great_any t 10 hm1 hm2 pw pt cw ct W)
  have HN := Lib.hid (great_no (t := t) (n := 10))
  generalize greatB t 10 = gb at HG HN
  clear hW
  cases gb with
  | true =>
    obtain ⟨k0, k1, k2⟩ := blk3 HX0.out
    go_enter Try.func4, Try.ntmps4
    go_wp2_with fail
    refine (HG.out _).mono ?_
    rintro e w1 ⟨rfl, hB⟩
    have HB1 := Lib.hid (join HB0.out hB)
    clear hB k0 k1 k2
    go_wp2_with fail
    refine (awake_any w1).mono ?_
    rintro e w2 ⟨rfl, hB⟩
    have HB2 := Lib.hid (join HB1.out hB)
    clear hB
    go_wp2
    go_ret
    exact ⟨rfl, HB2.out⟩
  | false =>
    have hn := HN.out rfl
    clear HN
    have hl1 : t.words.length ≤ 1000000 := by omega
    have hl2 : t.turns.length ≤ 1000000 := by omega
    have CFE := Lib.hid (fun p q c d hc W (h : TxAt W t p q) => Fewest_any t hl1 hl2 p q c d hc W h)
    have CCO := Lib.hid (fun p q c d hc W (h : TxAt W t p q) => Count_any t hl1 hl2 p q c d hc W h)
    have CNE := Lib.hid (fun p q c d hc W (h : TxAt W t p q) => Never_any t hl1 hl2 p q c d hc W h)
    have CCK := Lib.hid (fun p q c d W (h : TxAt W t p q) => rCheck_any t hl1 hl2 p q c d W h)
    obtain ⟨er, her⟩ : ∃ er, t.err = er := ⟨_, rfl⟩
    rw [her] at CCO CCK
    obtain ⟨k0, k1, k2⟩ := blk3 HX0.out
    go_enter Try.func4, Try.ntmps4
    go_wp2_with fail
    refine (HG.out _).mono ?_
    rintro e w1 ⟨rfl, hB⟩
    have HX1 := Lib.hid ((hB.block w.heap.size (Array.getElem?_eq_some_iff.1 HX0.out).1).trans HX0.out)
    have HB1 := Lib.hid (join HB0.out hB)
    have HZ0 : w.heap.size < w1.heap.size := (Array.getElem?_eq_some_iff.1 HX1.out).1
    clear hB k0 k1 k2 HX0 HB0 HG
    go_wp2_with fail
    refine Rs.region_gen 6 [[], [0], [], [0, 1, 2], [], []] [some 21, some 22, some 23, some 24, some 3, some 4] (spLf t pw pt cw ct w1.heap.size) (by kernel_rfl) (by kernel_rfl) rfl (spLf_stable _ _ _ _ _ _) ?_ ?_
    · refine ⟨fun V w' hG hs => ?_, fun V w' hG hs => ?_, fun V w' hG hs => ?_, fun V w' hG hs => ?_, fun V w' hG hs => ?_, fun V w' hG hs => ?_, trivial⟩
      all_goals
        obtain ⟨k0, k1, k2⟩ := blk3 ((hG.block w.heap.size HZ0).trans HX1.out)
      · rw [if_pos (by rfl)]
        exact Rs.GrowL.value (v := .agg #[.slice pw t.words.length cw, .slice pt t.turns.length ct, .int .i64 t.breath]) (w' := w') (by simp [go_sem, Rs.look, k0, k1, k2]) (Rs.Gr.refl _) rfl
      · have e0 : V 0 = .agg #[.slice pw t.words.length cw, .slice pt t.turns.length ct, .int .i64 t.breath] := hs 0 (by simp)
        rw [if_pos (by rfl)]
        refine Rs.GrowL.call (f := 19) (args := #[.agg #[.slice pw t.words.length cw, .slice pt t.turns.length ct, .int .i64 t.breath]]) (by simp [go_sem, Rs.look, e0]) ?_
        refine (lCopy_any t hl1 hl2 pw pt cw ct w' (HW.out.below (join HB1.out hG))).mono ?_
        rintro e w2 ⟨g, h, rfl, o1, o2, hB2⟩
        exact ⟨_, rfl, hB2, _, _, _, _, rfl, own_base o1 hG.size, own_base o2 hG.size, Nat.le_refl _, by unfold maxLen; omega⟩
      · rw [if_pos (by rfl)]
        exact Rs.GrowL.value (v := .agg #[.slice pw t.words.length cw, .slice pt t.turns.length ct, .int .i64 t.breath]) (w' := w') (by simp [go_sem, Rs.look, k0, k1, k2]) (Rs.Gr.refl _) rfl
      · have e0 : V 0 = .agg #[.slice pw t.words.length cw, .slice pt t.turns.length ct, .int .i64 t.breath] := hs 0 (by simp)
        have r1 := hs 1 (by simp)
        have e2 : V 2 = .agg #[.slice pw t.words.length cw, .slice pt t.turns.length ct, .int .i64 t.breath] := hs 2 (by simp)
        rw [if_pos (by rfl)]
        refine Rs.GrowL.call (f := 20) (args := #[.agg #[.slice pw t.words.length cw, .slice pt t.turns.length ct, .int .i64 t.breath]]) (by simp [go_sem, Rs.look, e2]) ?_
        refine (theirs_any t hl1 hl2 pw pt cw ct w' (HW.out.below (join HB1.out hG))).mono ?_
        rintro e w2 ⟨p, q, c, d, rfl, o1, o2, hB2⟩
        exact ⟨_, rfl, hB2, _, _, _, _, rfl, own_base o1 hG.size, own_base o2 hG.size⟩
      · rw [if_pos (by rfl)]
        exact Rs.GrowL.value (v := .pointer (some ⟨w'.heap.size, 0, none⟩)) (w' := w'.alloc (.cells #[.slice none 0 0, .slice none 0 0, .int .i64 0] 25)) (by simp [go_sem, Rs.look]) (below1 _ _) ⟨_, rfl, hG.size, heap_last _ _⟩
      · rw [if_pos (by rfl)]
        exact Rs.GrowL.value (v := .pointer (some ⟨w'.heap.size, 0, none⟩)) (w' := w'.alloc (.cells #[.slice none 0 0, .slice none 0 0, .int .i64 0] 35)) (by simp [go_sem, Rs.look]) (below1 _ _) ⟨_, rfl, hG.size, heap_last _ _⟩
    · intro V w' hG hs
      have e0 : V 0 = .agg #[.slice pw t.words.length cw, .slice pt t.turns.length ct, .int .i64 t.breath] := hs 0 (by omega)
      have r1 := hs 1 (by omega)
      have e2 : V 2 = .agg #[.slice pw t.words.length cw, .slice pt t.turns.length ct, .int .i64 t.breath] := hs 2 (by omega)
      have r3 := hs 3 (by omega)
      have r4 := hs 4 (by omega)
      have r5 := hs 5 (by omega)
      obtain ⟨p7, q7, a7, b7, e1, o1, o2, hcw⟩ := r1
      obtain ⟨p8, q8, a8, b8, e3, o3, o4⟩ := r3
      obtain ⟨c7, e4, hc7, x7⟩ := r4
      obtain ⟨c8, e5, hc8, x8⟩ := r5
      simp only [Rs.canon, Rs.dstOf, List.range_succ, List.range_zero, List.nil_append, List.cons_append, List.foldl_cons, List.foldl_nil, List.drop_succ_cons, List.drop_zero, List.drop_nil, List.getElem?_toArray, List.getElem?_cons_succ, List.getElem?_cons_zero, Option.bind_some, Act.put, List.getD_cons_succ, List.getD_cons_zero, List.setIfInBounds_toArray, List.set_cons_succ, List.set_cons_zero]
      rw [e0, e1, e2, e3, e4, e5]
      clear e0 e1 e2 e3 e4 e5 hs
      have hne : c7 ≠ c8 := fun e => by rw [e, x8] at x7; injection x7 with h; injection h with _ h; cases h
      have hz2 := hG.size
      have hz1 := HB1.out.size
      have HBx := Lib.hid (join HB1.out hG)
      have hAx := (hG.block w.heap.size HZ0).trans HX1.out
      have HLW := Lib.hid (LwT.start hAx (by omega) (by omega) x7 x8 o1 o2 o3 o4 HW.out HBx.out (by omega) (by omega))
      have HBW := Lib.hid (lwSet_bel HBx.out (show w.heap.size ≤ c7 by omega) (show w.heap.size ≤ c8 by omega) (.slice p7 t.words.length a7) (.slice q7 t.turns.length b7) (.int .i64 t.breath) (.slice p8 t.words.length a8) (.slice q8 t.turns.length b8) (.int .i64 t.breath))
      have f7 : ∀ i, w'.frozen? ⟨c7, i, none⟩ = false := fun i => by simp [World.frozen?, x7]
      have f8 : ∀ i, w'.frozen? ⟨c8, i, none⟩ = false := fun i => by simp [World.frozen?, x8]
      obtain ⟨m0, m1, m2⟩ := blk3 x7
      obtain ⟨n0, n1, n2⟩ := blk3 x8
      have h7 : c7 < w'.heap.size := (Array.getElem?_eq_some_iff.1 x7).1
      have h8 : c8 < w'.heap.size := (Array.getElem?_eq_some_iff.1 x8).1
      clear o1 o2 o3 o4 x7 x8 hAx hz2 hz1 HX1 HB1 HBx
      clear hG
      go_wp2_with fail
      refine calls_named fun W hW => ?_
      have hW2 : W = lwSet w' c7 c8 (.slice p7 t.words.length a7) (.slice q7 t.turns.length b7) (.int .i64 t.breath) (.slice p8 t.words.length a8) (.slice q8 t.turns.length b8) (.int .i64 t.breath) := hW
      rw [← hW2] at HLW HBW
      clear hW hW2 f7 f8 m0 m1 m2 n0 n1 n2 h7 h8
      rcases (Decidable.em (er = 0)).symm with he | he
      · have HER : (er != 0) = true := by simpa using he
        rw [show fewL t = [] from by unfold fewL; rw [her]; exact if_neg he, show fewE t = er from by unfold fewE; rw [her]; exact if_neg he] at CFE
        rw [show cntN t = 0 from by unfold cntN; rw [her]; exact if_neg he] at CCO
        rw [show nevL t = [] from by unfold nevL; rw [her]; exact if_neg he, show nevE t = er from by unfold nevE; rw [her]; exact if_neg he] at CNE
        clear her he
        obtain ⟨k0, k1, k2⟩ := blk3 HLW.out.prm
        obtain ⟨k3, k4, k5⟩ := blk3 HLW.out.x7
        obtain ⟨k6, k7, k8⟩ := blk3 HLW.out.x8
        refine (CFE.out p7 q7 a7 b7 ⟨hcw.1, hcw.2⟩ _ HLW.out.r7).mono ?_
        rintro e w2 ⟨v18, rfl, ho, hB⟩
        have HLW := Lib.hid (HLW.out.below hB)
        have HBW := Lib.hid (join HBW.out hB)
        obtain ⟨p18, c18, rfl, H18, -⟩ := own_rd ho rfl
        have H18 := Lib.hid H18
        clear k0 k1 k2 k3 k4 k5 k6 k7 k8
        clear hB ho
        obtain ⟨k0, k1, k2⟩ := blk3 HLW.out.prm
        obtain ⟨k3, k4, k5⟩ := blk3 HLW.out.x7
        obtain ⟨k6, k7, k8⟩ := blk3 HLW.out.x8
        go_wp2_with fail
        refine (CCO.out p7 q7 a7 b7 ⟨hcw.1, hcw.2⟩ _ HLW.out.r7).mono ?_
        rintro e w2 ⟨rfl, hB⟩
        have HLW := Lib.hid (HLW.out.below hB)
        have H18 := Lib.hid (H18.out.below hB)
        have HBW := Lib.hid (join HBW.out hB)
        clear k0 k1 k2 k3 k4 k5 k6 k7 k8
        clear hB 
        obtain ⟨k0, k1, k2⟩ := blk3 HLW.out.prm
        obtain ⟨k3, k4, k5⟩ := blk3 HLW.out.x7
        obtain ⟨k6, k7, k8⟩ := blk3 HLW.out.x8
        go_wp2_with fail
        refine (CNE.out p7 q7 a7 b7 ⟨hcw.1, hcw.2⟩ _ HLW.out.r7).mono ?_
        rintro e w2 ⟨v19, rfl, ho, hB⟩
        have HLW := Lib.hid (HLW.out.below hB)
        have H18 := Lib.hid (H18.out.below hB)
        have HBW := Lib.hid (join HBW.out hB)
        obtain ⟨p19, c19, rfl, H19, -⟩ := own_rd ho rfl
        have H19 := Lib.hid H19
        clear k0 k1 k2 k3 k4 k5 k6 k7 k8
        clear hB ho
        obtain ⟨k0, k1, k2⟩ := blk3 HLW.out.prm
        obtain ⟨k3, k4, k5⟩ := blk3 HLW.out.x7
        obtain ⟨k6, k7, k8⟩ := blk3 HLW.out.x8
        go_wp2_with fail
        refine (CCK.out p8 q8 a8 b8 _ HLW.out.r8).mono ?_
        rintro e w2 ⟨rfl, hB⟩
        have HLW := Lib.hid (HLW.out.below hB)
        have H18 := Lib.hid (H18.out.below hB)
        have H19 := Lib.hid (H19.out.below hB)
        have HBW := Lib.hid (join HBW.out hB)
        clear k0 k1 k2 k3 k4 k5 k6 k7 k8
        clear hB 
        obtain ⟨k0, k1, k2⟩ := blk3 HLW.out.prm
        obtain ⟨k3, k4, k5⟩ := blk3 HLW.out.x7
        obtain ⟨k6, k7, k8⟩ := blk3 HLW.out.x8
        go_wp2_with fail
        refine (awake_any _).mono ?_
        rintro e w10 ⟨rfl, hB10⟩
        have HBW := Lib.hid (join HBW.out hB10)
        clear hB10
        go_wp2
        go_ret
        exact ⟨rfl, HBW.out⟩
      subst he
      have F := few_facts her
      have hn1 := (err_ok her).n1
      have hn12 := (err_ok her).n12
      have CRI := Lib.hid (fun p q c d W (h : TxAt W t p q) => Right_any t (by omega) hl2 p q c d W h)
      have CRF := Lib.hid (fun p c W (h : LLs W p (rightsR t)) => rFewest_any (rightsR t) (by have := F.r12; omega) (fun l hl => by have h1 := F.rp l hl; have := isum_ge h1.1; have := h1.2; omega) p c W h)
      have CRW := Lib.hid (fun p q r c d e W (h : TxAt W t p q) (hL : Ints W r (fewL t)) => rWrong_any t (fewL t) hl1 hl2 (by have := F.fl; have := F.b12; omega) p q r c d e W h hL)
      have CRN := Lib.hid (fun pw cw v1 v2 p c W (h : LLs W p (rightsR t)) => rNever_any t.words.length hn1 hn12 (rightsR t) (by have := F.r12; omega) F.rp pw cw v1 v2 p c W h)
      have hnl0 : (nevL t).length ≤ 1000000 := by
        rw [F.nl]
        split
        · simp
        · have := nevTo_len (rightsR t) t.words.length; omega
      have HF := Lib.hid F
      rw [F.fe] at CFE
      rw [F.cn] at CCO
      rw [F.ne] at CNE
      generalize rightsR t = R at CRI CRF CRN HF CCO CFE CNE hnl0 F
      generalize bestLen R 0 = B at CRF HF CFE CNE F
      have hlB : (((fewL t).length : Int) != (B : Int)) = false := by rw [HF.out.fl]; simp
      have hflen : (fewL t).length ≤ 1000000 := by have := HF.out.fl; have := HF.out.b12; omega
      rcases Nat.eq_zero_or_pos B with hB0 | hB0
      · subst hB0
        rw [if_pos rfl] at CFE CNE
        rw [if_pos rfl] at CRF
        have hnv : nevL t = [] := HF.out.nl.trans (if_pos rfl)
        rw [hnv] at CNE
        clear HF F hnv hnl0 CRN CRW her
        generalize fewL t = fl at CFE hlB hflen
        obtain ⟨k0, k1, k2⟩ := blk3 HLW.out.prm
        obtain ⟨k3, k4, k5⟩ := blk3 HLW.out.x7
        obtain ⟨k6, k7, k8⟩ := blk3 HLW.out.x8
        refine (CFE.out p7 q7 a7 b7 ⟨hcw.1, hcw.2⟩ _ HLW.out.r7).mono ?_
        rintro e w2 ⟨v18, rfl, ho, hB⟩
        have HLW := Lib.hid (HLW.out.below hB)
        have HBW := Lib.hid (join HBW.out hB)
        obtain ⟨p18, c18, rfl, H18, -⟩ := own_rd ho rfl
        have H18 := Lib.hid H18
        clear k0 k1 k2 k3 k4 k5 k6 k7 k8
        clear hB ho
        obtain ⟨k0, k1, k2⟩ := blk3 HLW.out.prm
        obtain ⟨k3, k4, k5⟩ := blk3 HLW.out.x7
        obtain ⟨k6, k7, k8⟩ := blk3 HLW.out.x8
        go_wp2_with fail
        refine (CCO.out p7 q7 a7 b7 ⟨hcw.1, hcw.2⟩ _ HLW.out.r7).mono ?_
        rintro e w2 ⟨rfl, hB⟩
        have HLW := Lib.hid (HLW.out.below hB)
        have H18 := Lib.hid (H18.out.below hB)
        have HBW := Lib.hid (join HBW.out hB)
        clear k0 k1 k2 k3 k4 k5 k6 k7 k8
        clear hB 
        obtain ⟨k0, k1, k2⟩ := blk3 HLW.out.prm
        obtain ⟨k3, k4, k5⟩ := blk3 HLW.out.x7
        obtain ⟨k6, k7, k8⟩ := blk3 HLW.out.x8
        go_wp2_with fail
        refine (CNE.out p7 q7 a7 b7 ⟨hcw.1, hcw.2⟩ _ HLW.out.r7).mono ?_
        rintro e w2 ⟨v19, rfl, ho, hB⟩
        have HLW := Lib.hid (HLW.out.below hB)
        have H18 := Lib.hid (H18.out.below hB)
        have HBW := Lib.hid (join HBW.out hB)
        obtain ⟨p19, c19, rfl, H19, -⟩ := own_rd ho rfl
        have H19 := Lib.hid H19
        clear k0 k1 k2 k3 k4 k5 k6 k7 k8
        clear hB ho
        obtain ⟨k0, k1, k2⟩ := blk3 HLW.out.prm
        obtain ⟨k3, k4, k5⟩ := blk3 HLW.out.x7
        obtain ⟨k6, k7, k8⟩ := blk3 HLW.out.x8
        go_wp2_with fail
        refine (CCK.out p8 q8 a8 b8 _ HLW.out.r8).mono ?_
        rintro e w2 ⟨rfl, hB⟩
        have HLW := Lib.hid (HLW.out.below hB)
        have H18 := Lib.hid (H18.out.below hB)
        have H19 := Lib.hid (H19.out.below hB)
        have HBW := Lib.hid (join HBW.out hB)
        clear k0 k1 k2 k3 k4 k5 k6 k7 k8
        clear hB 
        obtain ⟨k0, k1, k2⟩ := blk3 HLW.out.prm
        obtain ⟨k3, k4, k5⟩ := blk3 HLW.out.x7
        obtain ⟨k6, k7, k8⟩ := blk3 HLW.out.x8
        go_wp2_with fail
        refine (CRI.out p8 q8 a8 b8 _ HLW.out.r8).mono ?_
        rintro e w2 ⟨v20, xs20, rfl, ho, he20, hB⟩
        have HLW := Lib.hid (HLW.out.below hB)
        have H18 := Lib.hid (H18.out.below hB)
        have H19 := Lib.hid (H19.out.below hB)
        have HBW := Lib.hid (join HBW.out hB)
        obtain ⟨p20, c20, rfl, H20⟩ := LLs.of_own ho he20
        have H20 := Lib.hid H20
        clear k0 k1 k2 k3 k4 k5 k6 k7 k8
        clear hB ho he20
        obtain ⟨k0, k1, k2⟩ := blk3 HLW.out.prm
        obtain ⟨k3, k4, k5⟩ := blk3 HLW.out.x7
        obtain ⟨k6, k7, k8⟩ := blk3 HLW.out.x8
        go_wp2_with fail
        refine (CRF.out p20 c20 _ H20.out).mono ?_
        rintro e w3 ⟨rfl, hw3⟩
        subst hw3
        clear k0 k1 k2 k3 k4 k5 k6 k7 k8
        obtain ⟨k0, k1, k2⟩ := blk3 HLW.out.prm
        obtain ⟨k3, k4, k5⟩ := blk3 HLW.out.x7
        obtain ⟨k6, k7, k8⟩ := blk3 HLW.out.x8
        go_wp2_with fail
        refine (same_yes t hl1 hl2 p7 q7 pw pt a7 b7 cw ct _ HLW.out.r7 HLW.out.r0).mono ?_
        rintro e w2 ⟨rfl, hB⟩
        have HLW := Lib.hid (HLW.out.below hB)
        have H18 := Lib.hid (H18.out.below hB)
        have H19 := Lib.hid (H19.out.below hB)
        have H20 := Lib.hid (H20.out.below hB)
        have HBW := Lib.hid (join HBW.out hB)
        clear k0 k1 k2 k3 k4 k5 k6 k7 k8
        clear hB 
        obtain ⟨k0, k1, k2⟩ := blk3 HLW.out.prm
        obtain ⟨k3, k4, k5⟩ := blk3 HLW.out.x7
        obtain ⟨k6, k7, k8⟩ := blk3 HLW.out.x8
        go_wp2_with fail
        refine (awake_any _).mono ?_
        rintro e w10 ⟨rfl, hB10⟩
        have HBW := Lib.hid (join HBW.out hB10)
        clear hB10
        go_wp2
        go_ret
        exact ⟨rfl, HBW.out⟩
      · have hBn : B ≠ 0 := by omega
        rw [if_neg hBn] at CFE CNE
        rw [if_neg hBn] at CRF
        have hw6 := HF.out.fw hBn
        have hnv : nevL t = nevTo R t.words.length := HF.out.nl.trans (if_neg hBn)
        rw [hnv] at CNE hnl0
        have hnl := hnl0
        clear HF F hnv hnl0 her hB0 hBn
        generalize fewL t = fl at CFE hlB hflen CRW hw6
        generalize nevTo R t.words.length = nl at CNE hnl CRN
        generalize wrongR t fl = wr at CRW hw6
        obtain ⟨wa, wb, wc⟩ := wr
        dsimp only at CRW hw6
        subst hw6
        obtain ⟨k0, k1, k2⟩ := blk3 HLW.out.prm
        obtain ⟨k3, k4, k5⟩ := blk3 HLW.out.x7
        obtain ⟨k6, k7, k8⟩ := blk3 HLW.out.x8
        refine (CFE.out p7 q7 a7 b7 ⟨hcw.1, hcw.2⟩ _ HLW.out.r7).mono ?_
        rintro e w2 ⟨v18, rfl, ho, hB⟩
        have HLW := Lib.hid (HLW.out.below hB)
        have HBW := Lib.hid (join HBW.out hB)
        obtain ⟨p18, c18, rfl, H18, -⟩ := own_rd ho rfl
        have H18 := Lib.hid H18
        clear k0 k1 k2 k3 k4 k5 k6 k7 k8
        clear hB ho
        obtain ⟨k0, k1, k2⟩ := blk3 HLW.out.prm
        obtain ⟨k3, k4, k5⟩ := blk3 HLW.out.x7
        obtain ⟨k6, k7, k8⟩ := blk3 HLW.out.x8
        go_wp2_with fail
        refine (CCO.out p7 q7 a7 b7 ⟨hcw.1, hcw.2⟩ _ HLW.out.r7).mono ?_
        rintro e w2 ⟨rfl, hB⟩
        have HLW := Lib.hid (HLW.out.below hB)
        have H18 := Lib.hid (H18.out.below hB)
        have HBW := Lib.hid (join HBW.out hB)
        clear k0 k1 k2 k3 k4 k5 k6 k7 k8
        clear hB 
        obtain ⟨k0, k1, k2⟩ := blk3 HLW.out.prm
        obtain ⟨k3, k4, k5⟩ := blk3 HLW.out.x7
        obtain ⟨k6, k7, k8⟩ := blk3 HLW.out.x8
        go_wp2_with fail
        refine (CNE.out p7 q7 a7 b7 ⟨hcw.1, hcw.2⟩ _ HLW.out.r7).mono ?_
        rintro e w2 ⟨v19, rfl, ho, hB⟩
        have HLW := Lib.hid (HLW.out.below hB)
        have H18 := Lib.hid (H18.out.below hB)
        have HBW := Lib.hid (join HBW.out hB)
        obtain ⟨p19, c19, rfl, H19, -⟩ := own_rd ho rfl
        have H19 := Lib.hid H19
        clear k0 k1 k2 k3 k4 k5 k6 k7 k8
        clear hB ho
        obtain ⟨k0, k1, k2⟩ := blk3 HLW.out.prm
        obtain ⟨k3, k4, k5⟩ := blk3 HLW.out.x7
        obtain ⟨k6, k7, k8⟩ := blk3 HLW.out.x8
        go_wp2_with fail
        refine (CCK.out p8 q8 a8 b8 _ HLW.out.r8).mono ?_
        rintro e w2 ⟨rfl, hB⟩
        have HLW := Lib.hid (HLW.out.below hB)
        have H18 := Lib.hid (H18.out.below hB)
        have H19 := Lib.hid (H19.out.below hB)
        have HBW := Lib.hid (join HBW.out hB)
        clear k0 k1 k2 k3 k4 k5 k6 k7 k8
        clear hB 
        obtain ⟨k0, k1, k2⟩ := blk3 HLW.out.prm
        obtain ⟨k3, k4, k5⟩ := blk3 HLW.out.x7
        obtain ⟨k6, k7, k8⟩ := blk3 HLW.out.x8
        go_wp2_with fail
        refine (CRI.out p8 q8 a8 b8 _ HLW.out.r8).mono ?_
        rintro e w2 ⟨v20, xs20, rfl, ho, he20, hB⟩
        have HLW := Lib.hid (HLW.out.below hB)
        have H18 := Lib.hid (H18.out.below hB)
        have H19 := Lib.hid (H19.out.below hB)
        have HBW := Lib.hid (join HBW.out hB)
        obtain ⟨p20, c20, rfl, H20⟩ := LLs.of_own ho he20
        have H20 := Lib.hid H20
        clear k0 k1 k2 k3 k4 k5 k6 k7 k8
        clear hB ho he20
        obtain ⟨k0, k1, k2⟩ := blk3 HLW.out.prm
        obtain ⟨k3, k4, k5⟩ := blk3 HLW.out.x7
        obtain ⟨k6, k7, k8⟩ := blk3 HLW.out.x8
        go_wp2_with fail
        refine (CRF.out p20 c20 _ H20.out).mono ?_
        rintro e w3 ⟨rfl, hw3⟩
        subst hw3
        clear k0 k1 k2 k3 k4 k5 k6 k7 k8
        obtain ⟨k0, k1, k2⟩ := blk3 HLW.out.prm
        obtain ⟨k3, k4, k5⟩ := blk3 HLW.out.x7
        obtain ⟨k6, k7, k8⟩ := blk3 HLW.out.x8
        go_wp2_with fail
        refine (CRW.out p8 q8 p18 a8 b8 c18 _ HLW.out.r8 H18.out).mono ?_
        rintro e w2 ⟨rfl, hB⟩
        have HLW := Lib.hid (HLW.out.below hB)
        have H18 := Lib.hid (H18.out.below hB)
        have H19 := Lib.hid (H19.out.below hB)
        have H20 := Lib.hid (H20.out.below hB)
        have HBW := Lib.hid (join HBW.out hB)
        clear k0 k1 k2 k3 k4 k5 k6 k7 k8
        clear hB 
        obtain ⟨k0, k1, k2⟩ := blk3 HLW.out.prm
        obtain ⟨k3, k4, k5⟩ := blk3 HLW.out.x7
        obtain ⟨k6, k7, k8⟩ := blk3 HLW.out.x8
        go_wp2_with fail
        refine (CRN.out _ a8 _ _ p20 c20 _ H20.out).mono ?_
        rintro e w2 ⟨v21, rfl, ho, hB⟩
        have HLW := Lib.hid (HLW.out.below hB)
        have H18 := Lib.hid (H18.out.below hB)
        have H19 := Lib.hid (H19.out.below hB)
        have H20 := Lib.hid (H20.out.below hB)
        have HBW := Lib.hid (join HBW.out hB)
        obtain ⟨p21, c21, rfl, H21, -⟩ := own_rd ho rfl
        have H21 := Lib.hid H21
        clear k0 k1 k2 k3 k4 k5 k6 k7 k8
        clear hB ho
        obtain ⟨k0, k1, k2⟩ := blk3 HLW.out.prm
        obtain ⟨k3, k4, k5⟩ := blk3 HLW.out.x7
        obtain ⟨k6, k7, k8⟩ := blk3 HLW.out.x8
        go_wp2_with fail
        refine (Like_ints p19 p21 c19 c21 nl nl true (by simp) _ hnl hnl H19.out H21.out).mono ?_
        rintro e w2 ⟨rfl, hB⟩
        have HLW := Lib.hid (HLW.out.below hB)
        have H18 := Lib.hid (H18.out.below hB)
        have H19 := Lib.hid (H19.out.below hB)
        have H20 := Lib.hid (H20.out.below hB)
        have H21 := Lib.hid (H21.out.below hB)
        have HBW := Lib.hid (join HBW.out hB)
        clear k0 k1 k2 k3 k4 k5 k6 k7 k8
        clear hB 
        obtain ⟨k0, k1, k2⟩ := blk3 HLW.out.prm
        obtain ⟨k3, k4, k5⟩ := blk3 HLW.out.x7
        obtain ⟨k6, k7, k8⟩ := blk3 HLW.out.x8
        go_wp2_with fail
        refine (same_yes t hl1 hl2 p7 q7 pw pt a7 b7 cw ct _ HLW.out.r7 HLW.out.r0).mono ?_
        rintro e w2 ⟨rfl, hB⟩
        have HLW := Lib.hid (HLW.out.below hB)
        have H18 := Lib.hid (H18.out.below hB)
        have H19 := Lib.hid (H19.out.below hB)
        have H20 := Lib.hid (H20.out.below hB)
        have H21 := Lib.hid (H21.out.below hB)
        have HBW := Lib.hid (join HBW.out hB)
        clear k0 k1 k2 k3 k4 k5 k6 k7 k8
        clear hB 
        obtain ⟨k0, k1, k2⟩ := blk3 HLW.out.prm
        obtain ⟨k3, k4, k5⟩ := blk3 HLW.out.x7
        obtain ⟨k6, k7, k8⟩ := blk3 HLW.out.x8
        go_wp2_with fail
        refine (awake_any _).mono ?_
        rintro e w10 ⟨rfl, hB10⟩
        have HBW := Lib.hid (join HBW.out hB10)
        clear hB10
        go_wp2
        go_ret
        exact ⟨rfl, HBW.out⟩
end Go.Proofs.Ytadnggecnjdhiaa
namespace Go.Proofs.Ytadnggecnjdhiaa
open Go.ChangeShapes Go.WideShapes Go.ChangeAt Go.RowKit Go.Joins Tx
set_option linter.unusedVariables false
set_option linter.unusedSimpArgs false

set_option maxRecDepth 100000 in
theorem TextFewest_lifted (os : Os) (started : os.Started) (H : Type) (enc : TypeId × Value → H) :
    ReturnsInHanded {} Try.checked os 4 .any (Rows.textFewestSpec.pre6 enc Try.prog Try.f4 Rows.textFewestRow.domain false) (Rows.textFewestSpec.post enc Try.prog Try.f4 false true false false) := by
  refine returnsInHanded_of_change (C := Try.checked) Try.own started (by kernel_rfl) Try.func4
    (ChangeSpec.witness6 (enc := enc) (C := Try.checked) false ⟨#[], #[.agg #[.slice none 0 0, .slice none 0 0, .int .i64 0]], []⟩ 8 (by kernel_rfl) (by kernel_rfl) (by kernel_rfl) (by kernel_rfl)) ?_
  intro W base args ds gs before hval0 hW hcnd _
  have hval : ∀ (j : Nat) t v, Try.f4.params[j]? = some t → args[j]? = some v → Value.okWide Try.prog W .any base t v := hval0
  have hW' := hW
  obtain ⟨p, q, hA0, hV, rfl, hfz, hnd⟩ := hW
  have hA : DataW.TrodAll enc Try.prog W 0 (fun _ => true) true Try.f4.params.toList args.toList ds p := hA0
  rw [Try.params4] at hA hval
  obtain ⟨v0, vs0, d0, ds0, p0, q0, hargs, rfl, rfl, h0, r0⟩ := trodAll_cons hA
  obtain ⟨rfl, rfl, rfl⟩ := trodAll_nil r0
  obtain rfl : args = #[v0] := by cases args; simp_all
  obtain ⟨rfl, rfl⟩ := trodVars_none hV
  have lt0 := lt_of_trod h0
  have k0 := h0
  obtain ⟨pw0, pt0, cw0, ct0, t0, e0, hT0, l0, m0⟩ := text_of_trod (fun _ => rfl) (hval 0 25 v0 rfl rfl) h0
  clear hA0 hval0
  subst e0
  refine (TextFewest_any t0 l0 m0 pw0 pt0 cw0 ct0 W hT0).mono fun e W' ⟨he, bel⟩ => ?_
  subst he
  exact ⟨_, rfl, _, _, _, [], _, [], hW', trodAll_mk1 (shut_bool Try.underlying4 _), (trodAll_cons_mk (Below.trod Try.laidOut (by kernel_rfl) (of_decide_eq_true (by kernel_rfl)) k0 bel lt0) trodAll_mk0), rfl, bel.frame _, fun h => by cases h⟩

theorem TextFewest_holds : Rows.TextFewestSaid :=
  OpenClaim.holds_of_wide 4 Try.f4 rfl rfl rfl rfl rfl rfl rfl ⟨rfl, rfl, rfl, rfl, rfl⟩ rfl rfl rfl rfl rfl (by kernel_rfl) Try.func4 (by kernel_rfl)
    (of_decide_eq_true (by kernel_rfl)) (by unfold Func.isWrapper; first | (rw [if_pos (by decide +kernel)]; kernel_rfl) | (rw [if_neg (by decide +kernel)]; exact ⟨rfl, rfl⟩))
    (fun os started H enc _ => TextFewest_lifted os started H enc)
end Go.Proofs.Ytadnggecnjdhiaa
