/- Contracts and mathematics, part 2. -/
import Derived.Test.YtimedmkpenbmkaaFba
import Derived.Laws.ResultCell
import Derived.Maps.AppendAt
section
namespace Go.Proofs.Ytimedmkpenbmkaa
open Go.RowKit Go.Shelf
set_option linter.unusedSimpArgs false
set_option linter.unusedVariables false
theorem and_bit (n i : Nat) : (n &&& 2 ^ i ≠ 0) ↔ n.testBit i = true := by
  constructor
  · intro h
    obtain ⟨j, hj⟩ : ∃ j, (n &&& 2 ^ i).testBit j = true := by
      false_or_by_contra
      rename_i hn
      exact h (Nat.eq_of_testBit_eq fun j => by
        cases hb : (n &&& 2 ^ i).testBit j
        · simp
        · exact absurd ⟨j, hb⟩ hn)
    rw [Nat.testBit_and, Nat.testBit_two_pow, Bool.and_eq_true, decide_eq_true_iff] at hj
    obtain ⟨h1, rfl⟩ := hj
    exact h1
  · intro h e
    have : (n &&& 2 ^ i).testBit i = true := by rw [Nat.testBit_and, Nat.testBit_two_pow, h]; simp
    rw [e] at this; simp at this
theorem srv_bit (cs : List Crowd) (s : Nat) : ∀ k i, (srv cs s k).testBit i = (decide (i < k) && (cs.getD i ([], 0)).1.getD s false)
  | 0, i => by simp [srv]
  | k + 1, i => by
    have ih := srv_bit cs s k i
    rw [srv]
    by_cases hik : k = i
    · subst hik
      split
      · rename_i h
        rw [Nat.testBit_or, ih, Nat.testBit_two_pow, h]; simp
      · rename_i h
        rw [ih]; simp at h ⊢; simp [h]
    · have e : decide (i < k + 1) = decide (i < k) := by congr 1; apply propext; omega
      split
      · rw [Nat.testBit_or, ih, Nat.testBit_two_pow, e]; simp [hik]
      · rw [ih, e]
/-- the crowds that hear one of some stands -/
def covS (cs : List Crowd) : List Nat → Nat
  | [] => 0
  | s :: S => srv cs s cs.length ||| covS cs S
/-- how many houses hear one of some stands -/
def valS (cs : List Crowd) (S : List Nat) : Int := mny cs (covS cs S) cs.length
def hit (S : List Nat) (e : List Bool) : Bool := S.any fun s => e.getD s false
theorem cov_bit (cs : List Crowd) : ∀ (S : List Nat) (i : Nat), (covS cs S).testBit i = (decide (i < cs.length) && hit S (cs.getD i ([], 0)).1)
  | [], i => by simp [covS, hit]
  | s :: S, i => by
    rw [covS, Nat.testBit_or, srv_bit, cov_bit cs S i]
    unfold hit
    rw [List.any_cons, Bool.and_or_distrib_left]
theorem cov_app (cs : List Crowd) : ∀ (A B : List Nat), covS cs (A ++ B) = covS cs A ||| covS cs B
  | [], B => by simp [covS]
  | a :: A, B => by rw [List.cons_append, covS, covS, cov_app cs A B, Nat.or_assoc]
theorem hit_congr {S T : List Nat} (h : ∀ s, s ∈ S ↔ s ∈ T) (e : List Bool) : hit S e = hit T e := by
  unfold hit
  rw [Bool.eq_iff_iff, List.any_eq_true, List.any_eq_true]
  constructor
  · rintro ⟨s, h1, h2⟩; exact ⟨s, (h s).1 h1, h2⟩
  · rintro ⟨s, h1, h2⟩; exact ⟨s, (h s).2 h1, h2⟩
theorem cov_congr (cs : List Crowd) {S T : List Nat} (h : ∀ s, s ∈ S ↔ s ∈ T) : covS cs S = covS cs T :=
  Nat.eq_of_testBit_eq fun i => by rw [cov_bit, cov_bit, hit_congr h]
def sumP (p : List Bool → Bool) : List Crowd → Int
  | [] => 0
  | c :: r => (if p c.1 then c.2 else 0) + sumP p r
theorem sumP_app (p : List Bool → Bool) : ∀ (a b : List Crowd), sumP p (a ++ b) = sumP p a + sumP p b
  | [], b => by simp [sumP]
  | c :: a, b => by rw [List.cons_append, sumP, sumP, sumP_app p a b]; omega
theorem mny_cov (cs : List Crowd) (S : List Nat) : ∀ k, k ≤ cs.length → mny cs (covS cs S) k = sumP (hit S) (cs.take k)
  | 0, _ => by simp [mny, sumP]
  | k + 1, hk => by
    have hg : cs.getD k ([], 0) = cs[k]'(by omega) := by rw [List.getD_eq_getElem?_getD, List.getElem?_eq_getElem (by omega)]; rfl
    rw [mny, mny_cov cs S k (by omega), List.take_succ_eq_append_getElem (by omega), sumP_app]
    have hb := cov_bit cs S k
    have hd : decide (k < cs.length) = true := by simp; omega
    rw [hd, Bool.true_and, hg] at hb
    rw [hg]
    by_cases h : hit S (cs[k]'(by omega)).1 = true
    · rw [if_pos ((and_bit _ _).2 (by rw [hb, h]))]; simp [sumP, h]
    · rw [if_neg (fun e => h (by rw [← hb]; exact (and_bit _ _).1 e))]; simp [sumP, h]
theorem sumP_add (p : List Bool → Bool) (e : List Bool) : ∀ (cs : List Crowd), sumP p (addCrowd cs e) = sumP p cs + if p e then 1 else 0
  | [] => by simp [addCrowd, sumP]
  | c :: r => by
    unfold addCrowd
    split
    · rename_i h
      rw [sumP, sumP, ← h]
      simp only
      split <;> omega
    · rw [sumP, sumP, sumP_add p e r]; omega
theorem sumP_to (p : List Bool → Bool) : ∀ (l : List (Nat × List Bool)) (cs : List Crowd), sumP p (crowdsTo cs l) = sumP p cs + (l.filter fun x => p x.2).length
  | [], cs => by simp [crowdsTo]
  | x :: l, cs => by
    have : crowdsTo cs (x :: l) = crowdsTo (addCrowd cs x.2) l := rfl
    rw [this, sumP_to p l, sumP_add, List.filter_cons]
    split <;> simp <;> omega
/-- how many houses of a list hear one of some stands -/
def cntS (l : List (Nat × List Bool)) (S : List Nat) : Nat := (l.filter fun x => hit S x.2).length
theorem val_cnt (l : List (Nat × List Bool)) (S : List Nat) : valS (crowdsP l) S = cntS l S := by
  unfold valS
  rw [mny_cov _ _ _ (Nat.le_refl _), List.take_length]
  unfold crowdsP
  rw [sumP_to]
  simp [sumP, cntS]
def mstK (cs : List Crowd) (set k : Nat) : Int := (mstL cs set).getD k 0
theorem fold_zero (cs : List Crowd) (set : Nat) : ∀ (ms : List Nat) (b : List Int), b.length = 11 → (ms.foldl (stepM cs set) b).getD 0 0 = b.getD 0 0
  | [], b, _ => rfl
  | m :: ms, b, hb => by
    rw [List.foldl_cons, fold_zero cs set ms _ (stepM_len hb m)]
    unfold stepM
    split
    · rfl
    · rw [bump_get (thn := mstL cs (set ||| m)) hb (mst_len _ _ _) (by omega), if_pos rfl]
theorem fold_succ (cs : List Crowd) (set k : Nat) (hk : k < 10) (x : Int) : ∀ (ms : List Nat) (b : List Int), b.length = 11 → ((ms.foldl (stepM cs set) b).getD (k + 1) 0 ≤ x ↔ b.getD (k + 1) 0 ≤ x ∧ ∀ m ∈ ms, set ||| m ≠ set → mstK cs (set ||| m) k ≤ x)
  | [], b, _ => by simp
  | m :: ms, b, hb => by
    rw [List.foldl_cons, fold_succ cs set k hk x ms _ (stepM_len hb m)]
    have h1 : (stepM cs set b m).getD (k + 1) 0 ≤ x ↔ b.getD (k + 1) 0 ≤ x ∧ (set ||| m ≠ set → mstK cs (set ||| m) k ≤ x) := by
      unfold stepM
      split
      · rename_i h
        constructor
        · intro h2; exact ⟨h2, fun h3 => absurd h h3⟩
        · intro h2; exact h2.1
      · rename_i h
        rw [bump_get (thn := mstL cs (set ||| m)) hb (mst_len _ _ _) (by omega), if_neg (by omega), Nat.add_sub_cancel]
        unfold mstK
        constructor
        · intro h2; exact ⟨by omega, fun _ => by omega⟩
        · intro h2; have := h2.2 h; omega
    rw [h1]
    constructor
    · rintro ⟨⟨a, b⟩, c⟩
      refine ⟨a, fun m' hm => ?_⟩
      rcases List.mem_cons.1 hm with rfl | hm
      · exact b
      · exact c m' hm
    · rintro ⟨a, b⟩
      exact ⟨⟨a, b m (by simp)⟩, fun m' hm => b m' (by simp [hm])⟩
theorem mstK_zero (cs : List Crowd) (set : Nat) : mstK cs set 0 = mny cs set cs.length := by
  unfold mstK
  rw [mstL_eq, fold_zero _ _ _ _ (by simp), getD_rep _ (by omega)]
theorem mstK_succ (cs : List Crowd) (set k : Nat) (hk : k < 10) (x : Int) : mstK cs set (k + 1) ≤ x ↔ mny cs set cs.length ≤ x ∧ ∀ s, s < 30 → set ||| srv cs s cs.length ≠ set → mstK cs (set ||| srv cs s cs.length) k ≤ x := by
  have h : mstK cs set (k + 1) = ((srvs cs).foldl (stepM cs set) (List.replicate 11 (mny cs set cs.length))).getD (k + 1) 0 := by unfold mstK; rw [mstL_eq]
  rw [h, fold_succ cs set k hk x _ _ (by simp), getD_rep _ (by omega)]
  constructor
  · rintro ⟨a, b⟩
    exact ⟨a, fun s hs => b _ (List.mem_map.2 ⟨s, List.mem_range.2 hs, rfl⟩)⟩
  · rintro ⟨a, b⟩
    refine ⟨a, fun m hm => ?_⟩
    obtain ⟨s, hs, rfl⟩ := List.mem_map.1 hm
    exact b s (List.mem_range.1 hs)
theorem miss_lt {cs : List Crowd} {set s : Nat} (h : set ||| srv cs s cs.length ≠ set) : missing cs (set ||| srv cs s cs.length) < missing cs set := missing_lt (srv_lt _ _ _) h
theorem mst_ge (cs : List Crowd) : ∀ n set, missing cs set < n → ∀ S : List Nat, (∀ s ∈ S, s < 30) → ∀ k, S.length ≤ k → k ≤ 10 → mny cs (set ||| covS cs S) cs.length ≤ mstK cs set k
  | 0, _, h => absurd h (by omega)
  | n + 1, set, h => by
    intro S
    induction S with
    | nil =>
      intro _ k _ hk
      rw [show set ||| covS cs [] = set by simp [covS]]
      match k with
      | 0 => rw [mstK_zero]; exact Int.le_refl _
      | k + 1 => exact ((mstK_succ cs set k (by omega) _).1 (Int.le_refl _)).1
    | cons s S ih =>
      intro hs k hl hk
      have e : set ||| covS cs (s :: S) = (set ||| srv cs s cs.length) ||| covS cs S := by rw [covS, Nat.or_assoc]
      rw [e]
      by_cases ha : set ||| srv cs s cs.length = set
      · rw [ha]
        exact ih (fun x hx => hs x (by simp [hx])) k (by rw [List.length_cons] at hl; omega) hk
      · match k, hl with
        | k + 1, hl =>
          have h1 := mst_ge cs n (set ||| srv cs s cs.length) (by have := miss_lt ha; omega) S (fun x hx => hs x (by simp [hx])) k (by rw [List.length_cons] at hl; omega) (by omega)
          exact Int.le_trans h1 (((mstK_succ cs set k (by omega) _).1 (Int.le_refl _)).2 s (hs s (by simp)) ha)
theorem mst_ex (cs : List Crowd) : ∀ n set, missing cs set < n → ∀ k, k ≤ 10 → ∃ S : List Nat, (∀ s ∈ S, s < 30) ∧ S.length ≤ k ∧ mny cs (set ||| covS cs S) cs.length = mstK cs set k
  | 0, _, h => absurd h (by omega)
  | n + 1, set, h => by
    intro k hk
    match k with
    | 0 => exact ⟨[], by simp, by simp, by rw [mstK_zero]; simp [covS]⟩
    | k + 1 =>
      have h1 := (mstK_succ cs set k (by omega) _).1 (Int.le_refl _)
      have h2 : ¬ (mstK cs set (k + 1) ≤ mstK cs set (k + 1) - 1) := by omega
      rw [mstK_succ cs set k (by omega)] at h2
      by_cases h3 : mny cs set cs.length ≤ mstK cs set (k + 1) - 1
      · obtain ⟨s, hs, hne, hv⟩ : ∃ s, s < 30 ∧ set ||| srv cs s cs.length ≠ set ∧ ¬ mstK cs (set ||| srv cs s cs.length) k ≤ mstK cs set (k + 1) - 1 := by
          false_or_by_contra
          rename_i hn
          refine h2 ⟨h3, fun s hs hne => ?_⟩
          false_or_by_contra
          rename_i hv
          exact hn ⟨s, hs, hne, hv⟩
        obtain ⟨S, a, b, c⟩ := mst_ex cs n (set ||| srv cs s cs.length) (by have := miss_lt hne; omega) k (by omega)
        refine ⟨s :: S, fun x hx => ?_, by simp; omega, ?_⟩
        · rcases List.mem_cons.1 hx with rfl | hx
          · exact hs
          · exact a x hx
        · rw [covS, ← Nat.or_assoc, c]
          have := h1.2 s hs hne
          omega
      · exact ⟨[], by simp, by simp, by have := h1.1; simp [covS]; omega⟩
theorem mst0_ge (cs : List Crowd) {S : List Nat} (hS : ∀ s ∈ S, s < 30) {k : Nat} (hk : S.length ≤ k) (hk2 : k ≤ 10) : valS cs S ≤ mstK cs 0 k := by
  have := mst_ge cs _ 0 (Nat.lt_succ_self _) S hS k hk hk2
  rwa [Nat.zero_or] at this
theorem mst0_ex (cs : List Crowd) {k : Nat} (hk2 : k ≤ 10) : ∃ S : List Nat, (∀ s ∈ S, s < 30) ∧ S.length ≤ k ∧ valS cs S = mstK cs 0 k := by
  obtain ⟨S, a, b, c⟩ := mst_ex cs _ 0 (Nat.lt_succ_self _) k hk2
  rw [Nat.zero_or] at c
  exact ⟨S, a, b, c⟩
theorem mst0_mono (cs : List Crowd) {j k : Nat} (h : j ≤ k) (hk : k ≤ 10) : mstK cs 0 j ≤ mstK cs 0 k := by
  obtain ⟨S, a, b, c⟩ := mst0_ex cs (show j ≤ 10 by omega)
  rw [← c]
  exact mst0_ge cs a (by omega) hk
theorem cov_small (cs : List Crowd) : ∀ (S : List Nat) (set : Nat), ∃ T : List Nat, (∀ s ∈ T, s ∈ S) ∧ T.length ≤ missing cs set ∧ T.length ≤ S.length ∧ set ||| covS cs T = set ||| covS cs S
  | [], set => ⟨[], by simp, by simp, by simp, rfl⟩
  | s :: S, set => by
    have e : set ||| covS cs (s :: S) = (set ||| srv cs s cs.length) ||| covS cs S := by rw [covS, Nat.or_assoc]
    by_cases ha : set ||| srv cs s cs.length = set
    · obtain ⟨T, a, b, c, d⟩ := cov_small cs S set
      exact ⟨T, fun x hx => by simp [a x hx], b, by simp; omega, by rw [d, e, ha]⟩
    · obtain ⟨T, a, b, c, d⟩ := cov_small cs S (set ||| srv cs s cs.length)
      have := miss_lt ha
      refine ⟨s :: T, fun x hx => ?_, by simp; omega, by simp; omega, ?_⟩
      · rcases List.mem_cons.1 hx with rfl | hx
        · simp
        · simp [a x hx]
      · rw [e, ← d, covS, Nat.or_assoc]
theorem len_le_of_sub : ∀ {A B : List Nat}, A.Nodup → (∀ a ∈ A, a ∈ B) → A.length ≤ B.length
  | [], B, _, _ => by simp
  | a :: A, B, hn, hs => by
    rw [List.nodup_cons] at hn
    have h1 := len_le_of_sub (A := A) (B := B.erase a) hn.2 fun x hx => by
      have hne : x ≠ a := fun e => hn.1 (by rw [← e]; exact hx)
      exact (List.mem_erase_of_ne hne).2 (hs x (by simp [hx]))
    have h2 := hs a (by simp)
    rw [List.length_erase_of_mem h2] at h1
    have : 0 < B.length := List.length_pos_of_mem h2
    simp; omega
/-- the same stands in order -/
def normS (S : List Nat) : List Nat := (List.range 30).filter fun s => decide (s ∈ S)
theorem norm_mem {S : List Nat} (hS : ∀ s ∈ S, s < 30) (s : Nat) : s ∈ normS S ↔ s ∈ S := by
  unfold normS
  rw [List.mem_filter, List.mem_range, decide_eq_true_iff]
  exact ⟨fun h => h.2, fun h => ⟨hS s h, h⟩⟩
theorem norm_sorted (S : List Nat) : (normS S).Pairwise (· < ·) := List.Pairwise.filter _ List.pairwise_lt_range
theorem sorted_nodup {S : List Nat} (h : S.Pairwise (· < ·)) : S.Nodup := h.imp fun h => Nat.ne_of_lt h
theorem norm_len {S : List Nat} (hS : ∀ s ∈ S, s < 30) : (normS S).length ≤ S.length := len_le_of_sub (sorted_nodup (norm_sorted S)) fun s hs => (norm_mem hS s).1 hs
theorem few_spec (n : List Int) (s : Nat) : ∀ f k, k + f = s → ¬ (n.getD (fewF n s f k) 0 < n.getD s 0) ∧ ∀ j, k ≤ j → j < fewF n s f k → n.getD j 0 < n.getD s 0
  | 0, k, h => by
    rw [fewF]
    obtain rfl : k = s := by omega
    exact ⟨by omega, fun j h1 h2 => by omega⟩
  | f + 1, k, h => by
    rw [fewF]
    split
    · rename_i h1
      obtain ⟨a, b⟩ := few_spec n s f (k + 1) (by omega)
      refine ⟨a, fun j hj hj2 => ?_⟩
      by_cases e : j = k
      · subst e; exact h1
      · exact b j (by omega) hj2
    · rename_i h1
      exact ⟨h1, fun j h1 h2 => by omega⟩
theorem cap_min (cs : List Crowd) (st : Nat) : chCap cs st = min st (min 10 cs.length) := by
  unfold chCap leastL
  simp only [List.foldl_cons, List.foldl_nil]
  split <;> split <;> omega
theorem left_spec (cs : List Crowd) (st : Nat) : chLeft cs st ≤ chCap cs st ∧ mstK cs 0 (chLeft cs st) = chHouses cs st ∧ ∀ j, j < chLeft cs st → mstK cs 0 j < chHouses cs st := by
  have hle : chLeft cs st ≤ chCap cs st := fewP_le _ _
  obtain ⟨a, b⟩ := few_spec (mstL cs 0) (chCap cs st) (chCap cs st) 0 (by omega)
  refine ⟨hle, ?_, fun j hj => b j (by omega) hj⟩
  have h1 := mst0_mono cs hle (by have := cap_min cs st; omega)
  have h2 : ¬ mstK cs 0 (chLeft cs st) < chHouses cs st := a
  have h3 : mstK cs 0 (chCap cs st) = chHouses cs st := rfl
  omega
structure OptL (cs : List Crowd) (n : Nat) (H : Int) (L : List Nat) : Prop where
  sorted : L.Pairwise (· < ·)
  bd : ∀ s ∈ L, s < 30
  len : L.length = n
  val : valS cs L = H
/-- one list comes before another one, by their first difference -/
def Bef (A B : List Nat) : Prop := ∃ p a b A' B', A = p ++ a :: A' ∧ B = p ++ b :: B' ∧ a < b
theorem Bef.app {A B : List Nat} (h : Bef A B) (C : List Nat) : Bef (A ++ C) B := by
  obtain ⟨p, a, b, A', B', h1, h2, h3⟩ := h
  exact ⟨p, a, b, A' ++ C, B', by rw [h1]; simp, h2, h3⟩
structure ChI (cs : List Crowd) (n : Nat) (H : Int) (k : Nat) (s : ChS) (ch : List Nat) : Prop where
  eq : s.ch = ch.map fun (x : Nat) => (x : Int)
  set : s.set = covS cs ch
  len : ch.length + s.left = n
  sorted : ch.Pairwise (· < ·)
  low : ∀ x ∈ ch, x < k
  all : ∀ L, OptL cs n H L → Bef ch L ∨ ∃ R, L = ch ++ R ∧ ∀ r ∈ R, k ≤ r
  one : ∃ L R, OptL cs n H L ∧ L = ch ++ R ∧ ∀ r ∈ R, k ≤ r
theorem bef_not_sub {A B : List Nat} (hA : A.Pairwise (· < ·)) (hB : B.Pairwise (· < ·)) (hs : ∀ a ∈ A, a ∈ B) : ¬ Bef A B := by
  rintro ⟨p, a, b, A', B', rfl, rfl, hab⟩
  have h1 := hs a (by simp)
  rw [List.pairwise_append] at hA hB
  rcases List.mem_append.1 h1 with h1 | h1
  · have := hA.2.2 a h1 a (by simp); omega
  · rcases List.mem_cons.1 h1 with h1 | h1
    · omega
    · have := (List.pairwise_cons.1 hB.2.1).1 a h1; omega
theorem opt_of {cs : List Crowd} {n : Nat} {H : Int} (hn : n ≤ 10) (hlow : ∀ j, j < n → mstK cs 0 j < H) {S : List Nat} (hS : ∀ s ∈ S, s < 30) (hl : S.length ≤ n) (hv : valS cs S = H) : OptL cs n H (normS S) := by
  have hv' : valS cs (normS S) = H := by rw [← hv]; unfold valS; rw [cov_congr cs (norm_mem hS)]
  have hbd : ∀ s ∈ normS S, s < 30 := fun s hs => hS s ((norm_mem hS s).1 hs)
  have h1 := norm_len hS
  refine ⟨norm_sorted S, hbd, ?_, hv'⟩
  rcases Nat.lt_or_ge (normS S).length n with h | h
  · have := hlow _ h
    have := mst0_ge cs hbd (Nat.le_refl _) (show (normS S).length ≤ 10 by omega)
    omega
  · omega
theorem ch_start {cs : List Crowd} {n : Nat} {H : Int} (hn : n ≤ 10) (hH : mstK cs 0 n = H) (hlow : ∀ j, j < n → mstK cs 0 j < H) : ChI cs n H 0 ⟨[], 0, n⟩ [] := by
  obtain ⟨S, a, b, c⟩ := mst0_ex cs hn
  exact ⟨rfl, rfl, by simp, List.Pairwise.nil, by simp, fun L _ => .inr ⟨L, rfl, by simp⟩, ⟨_, _, opt_of hn hlow a b (c.trans hH), rfl, by simp⟩⟩
theorem ch_step {cs : List Crowd} {n : Nat} {H : Int} (hn : n ≤ 10) (hH : mstK cs 0 n = H) (hlow : ∀ j, j < n → mstK cs 0 j < H) {k : Nat} (hk : k < 30) {s : ChS} {ch : List Nat} (hI : ChI cs n H k s ch) :
    ∃ ch', ChI cs n H (k + 1) (chStep cs H s k) ch' := by
  have hle := hI.len
  have hbd : ∀ x ∈ ch, x < 30 := fun x hx => by have := hI.low x hx; omega
  -- a list that goes on with this stand shows that it is taken
  have key : ∀ R, OptL cs n H (ch ++ k :: R) → 0 < s.left ∧ (mstL cs (s.set ||| srv cs k cs.length)).getD (s.left - 1) 0 = H := fun R hO => by
    have hl : ch.length + (R.length + 1) = n := by have := hO.len; simpa using this
    refine ⟨by omega, ?_⟩
    show mstK cs (s.set ||| srv cs k cs.length) (s.left - 1) = H
    have h1 := mst_ge cs _ (s.set ||| srv cs k cs.length) (Nat.lt_succ_self _) R (fun x hx => hO.bd x (by simp [hx])) (s.left - 1) (by omega) (by omega)
    have e : s.set ||| srv cs k cs.length ||| covS cs R = covS cs (ch ++ k :: R) := by rw [cov_app, covS, hI.set, Nat.or_assoc]
    have h2 : mny cs (covS cs (ch ++ k :: R)) cs.length = H := hO.val
    rw [e, h2] at h1
    obtain ⟨S, a, b, c⟩ := mst_ex cs _ (s.set ||| srv cs k cs.length) (Nat.lt_succ_self _) (s.left - 1) (by omega)
    have e2 : s.set ||| srv cs k cs.length ||| covS cs S = covS cs (ch ++ k :: S) := by rw [cov_app, covS, hI.set, Nat.or_assoc]
    rw [e2] at c
    have h3 : valS cs (ch ++ k :: S) ≤ mstK cs 0 n := mst0_ge cs (fun x hx => by
      rcases List.mem_append.1 hx with hx | hx
      · exact hbd x hx
      · rcases List.mem_cons.1 hx with rfl | hx
        · exact hk
        · exact a x hx) (by simp; omega) hn
    have h4 : valS cs (ch ++ k :: S) = mstK cs (s.set ||| srv cs k cs.length) (s.left - 1) := c
    omega
  unfold chStep
  simp only
  by_cases ht : 0 < s.left ∧ (mstL cs (s.set ||| srv cs k cs.length)).getD (s.left - 1) 0 = H
  · rw [if_pos ht]
    have hall : ∀ L, OptL cs n H L → Bef (ch ++ [k]) L ∨ ∃ R, L = (ch ++ [k]) ++ R ∧ ∀ r ∈ R, k + 1 ≤ r := fun L hO => by
      rcases hI.all L hO with h | ⟨R, rfl, hR⟩
      · exact .inl (h.app _)
      · match R, hR with
        | [], _ => have := hO.len; simp at this; omega
        | r :: R, hR =>
          have hs := hO.sorted
          rw [List.pairwise_append, List.pairwise_cons] at hs
          have hr := hR r (by simp)
          by_cases e : r = k
          · subst e
            exact .inr ⟨R, by simp, fun x hx => hs.2.1.1 x hx⟩
          · exact .inl ⟨ch, k, r, [], R, rfl, rfl, by omega⟩
    refine ⟨ch ++ [k], by simp [hI.eq], by simp only; rw [cov_app, hI.set]; simp [covS], by simp; omega, ?_, ?_, hall, ?_⟩
    · rw [List.pairwise_append]
      exact ⟨hI.sorted, List.pairwise_singleton _ _, fun a ha b hb => by rw [List.mem_singleton.1 hb]; exact hI.low a ha⟩
    · intro x hx
      rcases List.mem_append.1 hx with hx | hx
      · have := hI.low x hx; omega
      · rw [List.mem_singleton.1 hx]; omega
    · obtain ⟨S, a, b, c⟩ := mst_ex cs _ (s.set ||| srv cs k cs.length) (Nat.lt_succ_self _) (s.left - 1) (by omega)
      have e2 : s.set ||| srv cs k cs.length ||| covS cs S = covS cs (ch ++ k :: S) := by rw [cov_app, covS, hI.set, Nat.or_assoc]
      rw [e2] at c
      have hb : ∀ x ∈ ch ++ k :: S, x < 30 := fun x hx => by
        rcases List.mem_append.1 hx with hx | hx
        · exact hbd x hx
        · rcases List.mem_cons.1 hx with rfl | hx
          · exact hk
          · exact a x hx
      have hO := opt_of hn hlow hb (by simp; omega) (c.trans ht.2)
      rcases hall _ hO with h | ⟨R, h1, h2⟩
      · refine absurd h (bef_not_sub ?_ hO.sorted fun x hx => (norm_mem hb x).2 (by simp at hx ⊢; rcases hx with hx | hx <;> simp [hx]))
        rw [List.pairwise_append]
        exact ⟨hI.sorted, List.pairwise_singleton _ _, fun a ha b hb => by rw [List.mem_singleton.1 hb]; exact hI.low a ha⟩
      · exact ⟨_, R, hO, h1, h2⟩
  · rw [if_neg ht]
    have hno : ∀ L R, OptL cs n H L → L = ch ++ R → (∀ r ∈ R, k ≤ r) → ∀ r ∈ R, k + 1 ≤ r := fun L R hO e hR => by
      subst e
      match R, hR with
      | [], _ => simp
      | r :: R, hR =>
        have hs := hO.sorted
        rw [List.pairwise_append, List.pairwise_cons] at hs
        have hr := hR r (by simp)
        have hne : r ≠ k := fun e => by subst e; exact ht (key R hO)
        intro x hx
        rcases List.mem_cons.1 hx with rfl | hx
        · omega
        · have := hs.2.1.1 x hx; omega
    refine ⟨ch, hI.eq, hI.set, hI.len, hI.sorted, fun x hx => by have := hI.low x hx; omega, fun L hO => ?_, ?_⟩
    · rcases hI.all L hO with h | ⟨R, e, hR⟩
      · exact .inl h
      · exact .inr ⟨R, e, hno L R hO e hR⟩
    · obtain ⟨L, R, hO, e, hR⟩ := hI.one
      exact ⟨L, R, hO, e, hno L R hO e hR⟩
theorem ch_all {cs : List Crowd} {n : Nat} {H : Int} (hn : n ≤ 10) (hH : mstK cs 0 n = H) (hlow : ∀ j, j < n → mstK cs 0 j < H) : ∀ k, k ≤ 30 → ∃ ch, ChI cs n H k (chTo cs H n k) ch
  | 0, _ => ⟨[], ch_start hn hH hlow⟩
  | k + 1, hk => by
    obtain ⟨ch, h⟩ := ch_all hn hH hlow k (by omega)
    rw [chTo_succ]
    exact ch_step hn hH hlow (by omega) h
theorem crowds_len (l : List (Nat × List Bool)) : (crowdsP l).length ≤ l.length := by
  unfold crowdsP
  have key : ∀ (l : List (Nat × List Bool)) (cs : List Crowd), (crowdsTo cs l).length ≤ cs.length + l.length := by
    intro l
    induction l with
    | nil => intro cs; simp [crowdsTo]
    | cons x l ih =>
      intro cs
      have h1 := ih (addCrowd cs x.2)
      have h2 : ∀ cs : List Crowd, (addCrowd cs x.2).length ≤ cs.length + 1 := by
        intro cs
        induction cs with
        | nil => simp [addCrowd]
        | cons c r ih2 => unfold addCrowd; split <;> simp <;> omega
      have h3 := h2 cs
      have e : crowdsTo cs (x :: l) = crowdsTo (addCrowd cs x.2) l := rfl
      rw [e]; simp; omega
  have := key l []
  simpa using this
/-- what is chosen: a list in order, no longer than allowed, that serves as many houses as any, the shortest of those, and the first one -/
structure Chosen (l : List (Nat × List Bool)) (st : Nat) (ch : List Nat) (n : Nat) : Prop where
  sorted : ch.Pairwise (· < ·)
  bd : ∀ s ∈ ch, s < 30
  len : ch.length ≤ st
  cnt : cntS l ch = n
  most : ∀ S : List Nat, (∀ s ∈ S, s < 30) → S.length ≤ st → cntS l S ≤ n
  short : ∀ S : List Nat, (∀ s ∈ S, s < 30) → n ≤ cntS l S → ch.length ≤ S.length
  first : ∀ S : List Nat, S.Pairwise (· < ·) → (∀ s ∈ S, s < 30) → S.length = ch.length → cntS l S = n → ch = S ∨ Bef ch S
theorem chosen (l : List (Nat × List Bool)) (hl : l.length ≤ 10) (st : Nat) : ∃ ch n, (chooseP l st).1 = ch.map (fun (x : Nat) => (x : Int)) ∧ (chooseP l st).2 = (n : Nat) ∧ Chosen l st ch n := by
  obtain ⟨cs, hcs⟩ : ∃ cs, cs = crowdsP l := ⟨_, rfl⟩
  have hc := crowds_len l
  rw [← hcs] at hc
  obtain ⟨h1, h2, h3⟩ := left_spec cs st
  have hcap := cap_min cs st
  have hn : chLeft cs st ≤ 10 := by omega
  obtain ⟨ch, hI⟩ := ch_all hn h2 h3 30 (by omega)
  obtain ⟨L, R, hO, e, hR⟩ := hI.one
  have hR0 : R = [] := by
    match R, hR, e with
    | [], _, _ => rfl
    | r :: R, hR, e =>
      have a := hR r (by simp)
      have b := hO.bd r (by rw [e]; simp)
      omega
  subst hR0
  rw [List.append_nil] at e
  subst e
  have hv : ∀ S, valS cs S = cntS l S := fun S => by rw [hcs]; exact val_cnt l S
  have hval := hO.val
  rw [hv] at hval
  have hmost : ∀ S : List Nat, (∀ s ∈ S, s < 30) → S.length ≤ st → (cntS l S : Int) ≤ chHouses cs st := fun S hS hl => by
    obtain ⟨T, a, b, c, d⟩ := cov_small cs S 0
    have hm := missing_le cs 0
    rw [Nat.zero_or, Nat.zero_or] at d
    have h5 := mst0_ge cs (S := T) (fun s hs => hS s (a s hs)) (k := chCap cs st) (by omega) (by omega)
    have h6 : valS cs T = valS cs S := by unfold valS; rw [d]
    rw [h6, hv] at h5
    exact h5
  refine ⟨L, cntS l L, ?_, ?_, hO.sorted, hO.bd, by have := hO.len; omega, rfl, fun S hS hlS => by have := hmost S hS hlS; omega, fun S hS hc2 => ?_, fun S hs hS hlS hc2 => ?_⟩
  · have e : (chooseP l st).1 = (chTo cs (chHouses cs st) (chLeft cs st) 30).ch := by unfold chooseP; rw [← hcs]
    rw [e]; exact hI.eq
  · have e : (chooseP l st).2 = chHouses cs st := by unfold chooseP; rw [← hcs]
    rw [e]; exact hval.symm
  · rcases Nat.lt_or_ge S.length L.length with h | h
    · have h7 := h3 S.length (by have := hO.len; omega)
      have h8 := mst0_ge cs hS (Nat.le_refl _) (show S.length ≤ 10 by have := hO.len; omega)
      rw [hv] at h8
      omega
    · exact h
  · have hOS : OptL cs (chLeft cs st) (chHouses cs st) S := ⟨hs, hS, by have := hO.len; omega, by rw [hv]; omega⟩
    rcases hI.all S hOS with h | ⟨R, e, hR⟩
    · exact .inr h
    · left
      match R, hR, e with
      | [], _, e => simpa using e.symm
      | r :: R, hR, e =>
        have a := hR r (by simp)
        have b := hS r (by rw [e]; simp)
        omega
end Go.Proofs.Ytimedmkpenbmkaa
end
section
namespace Go.Proofs.Ytimedmkpenbmkaa
open Go.RowKit Go.Shelf
set_option linter.unusedSimpArgs false
set_option linter.unusedVariables false
def fsts (E : List (Nat × List Bool)) : List Nat := E.map (·.1)
theorem sub_cons {α : Type} {E r : List α} {x : α} (h : E.Sublist (x :: r)) : E.Sublist r ∨ ∃ E', E = x :: E' ∧ E'.Sublist r := by
  cases h with
  | cons _ h => exact .inl h
  | cons_cons _ h => exact .inr ⟨_, rfl, h⟩
end Go.Proofs.Ytimedmkpenbmkaa
end
section
namespace Go.Proofs.Ytimedmkpenbmkaa
open Go.RowKit Go.Shelf
set_option linter.unusedSimpArgs false
set_option linter.unusedVariables false
def inL (hs : List Int) (p : Nat) : Bool := decide ((p : Int) ∈ hs)
theorem qAll_named (xs : List Int) (h30 : xs.length ≤ 30) : ∀ (hs : List Int) (nm : List Bool), nm.length = 30 → (∀ h ∈ hs, ∃ p : Nat, h = p ∧ p < xs.length ∧ xs.getD p 0 = 1 ∧ nm.getD p false = false) → hs.Nodup →
    (qAll xs nm hs).1 = 0 ∧ (qAll xs nm hs).2.length = 30 ∧ ∀ p, p < 30 → (qAll xs nm hs).2.getD p false = (nm.getD p false || inL hs p)
  | [], nm, hl, _, _ => ⟨rfl, hl, fun p hp => by
    show nm.getD p false = _
    simp [inL]⟩
  | h :: r, nm, hl, hh, hn => by
    rw [List.nodup_cons] at hn
    obtain ⟨p, rfl, hp, h1, h0⟩ := hh h (by simp)
    have hq : qStep xs nm (p : Int) = (0, nm.set p true) := by
      unfold qStep
      have hpe : plotErr xs (p : Int) 1 = 0 := by unfold plotErr; rw [if_neg (by omega), Int.toNat_natCast, if_pos h1]
      rw [if_neg (by rw [hpe]; simp), Int.toNat_natCast, h0]
      simp
    have e1 : qAll xs nm ((p : Int) :: r) = qAll xs (nm.set p true) r := by
      show (if (qStep xs nm (p : Int)).1 ≠ 0 then qStep xs nm (p : Int) else qAll xs (qStep xs nm (p : Int)).2 r) = _
      rw [hq]; rfl
    have hset : ∀ q, q < 30 → (nm.set p true).getD q false = (nm.getD q false || decide (p = q)) := fun q hq2 => by
      rw [List.getD_eq_getElem?_getD, List.getElem?_set]
      by_cases e : p = q
      · subst e; rw [if_pos rfl, if_pos (by omega)]; simp
      · rw [if_neg e, ← List.getD_eq_getElem?_getD]; simp [e]
    obtain ⟨a, b, c⟩ := qAll_named xs h30 r (nm.set p true) (by simp [hl]) (fun k hk => by
      obtain ⟨q, rfl, hq1, hq2, hq3⟩ := hh k (by simp [hk])
      refine ⟨q, rfl, hq1, hq2, ?_⟩
      rw [hset q (by omega), hq3]
      have : p ≠ q := fun e => hn.1 (by rw [e]; exact hk)
      simp [this]) hn.2
    rw [e1]
    refine ⟨a, b, fun q hq2 => ?_⟩
    rw [c q hq2, hset q hq2]
    unfold inL
    by_cases e : p = q
    · subst e; simp
    · have e2 : ¬ ((q : Int) = (p : Int)) := by omega
      simp [e, e2]
theorem lis_named {t : Hr.Town} (ok : t.Ok) (wind voice : Int) {hs : List Int} (hv : ∀ h ∈ hs, h ∈ kindIdx t.plots 1) (hn : hs.Nodup) :
    (qAll t.plots (List.replicate 30 false) hs).1 = 0 ∧ (qAll t.plots (List.replicate 30 false) hs).2.length = 30 ∧ lis t wind voice ((qAll t.plots (List.replicate 30 false) hs).2.getD · false) = lis t wind voice (inL hs) := by
  have hp30 : t.plots.length ≤ 30 := ok.n30
  obtain ⟨a, b, c⟩ := qAll_named t.plots hp30 hs (List.replicate 30 false) (by simp) (fun h hh => by
    obtain ⟨p, e, h1, h2⟩ := mem_kindIdx.1 (hv h hh)
    refine ⟨p, e, h1, h2, ?_⟩
    rw [List.getD_eq_getElem?_getD, List.getElem?_replicate, if_pos (by omega)]; rfl) hn
  refine ⟨a, b, ?_⟩
  unfold lis lisTo
  congr 1
  apply List.filter_congr
  intro p hp
  have hp := List.mem_range.1 hp
  have : t.len ≤ 30 := ok.n30
  show (t.at p == 1 && (qAll t.plots (List.replicate 30 false) hs).2.getD p false) = (t.at p == 1 && inL hs p)
  rw [c p (by omega), List.getD_eq_getElem?_getD, List.getElem?_replicate, if_pos (by omega)]
  simp
theorem mem_lisN {t : Hr.Town} {wind voice : Int} {hs : List Int} {x : Nat × List Bool} : x ∈ lis t wind voice (inL hs) ↔ x.1 < t.len ∧ t.at x.1 = 1 ∧ (x.1 : Int) ∈ hs ∧ x.2 = ears t wind voice x.1 := by
  unfold lis lisTo
  rw [List.mem_map]
  constructor
  · rintro ⟨q, hq, rfl⟩
    rw [List.mem_filter, List.mem_range, Bool.and_eq_true, beq_iff_eq] at hq
    exact ⟨hq.1, hq.2.1, by simpa [inL] using hq.2.2, rfl⟩
  · rintro ⟨a, b, c, d⟩
    exact ⟨x.1, by rw [List.mem_filter, List.mem_range, Bool.and_eq_true, beq_iff_eq]; exact ⟨a, b, by simpa [inL] using c⟩, by rw [← d]⟩
theorem lis_fsts (t : Hr.Town) (wind voice : Int) (cnt : Nat → Bool) : fsts (lis t wind voice cnt) = (List.range t.len).filter fun p => t.at p == 1 && cnt p := by
  unfold fsts lis lisTo
  rw [List.map_map]
  have : ((fun x : Nat × List Bool => x.1) ∘ fun p => (p, ears t wind voice p)) = id := rfl
  rw [this, List.map_id]
theorem lis_sorted (t : Hr.Town) (wind voice : Int) (cnt : Nat → Bool) : (fsts (lis t wind voice cnt)).Pairwise (· < ·) := by
  rw [lis_fsts]; exact List.Pairwise.filter _ List.pairwise_lt_range
theorem lis_count {t : Hr.Town} {wind voice : Int} {hs : List Int} (hv : ∀ h ∈ hs, h ∈ kindIdx t.plots 1) (hn : hs.Nodup) : (lis t wind voice (inL hs)).length = hs.length := by
  have e1 : (lis t wind voice (inL hs)).length = ((fsts (lis t wind voice (inL hs))).map fun (p : Nat) => (p : Int)).length := by simp [fsts]
  have hnd : ((fsts (lis t wind voice (inL hs))).map fun (p : Nat) => (p : Int)).Nodup := by
    unfold List.Nodup
    rw [List.pairwise_map]
    exact (lis_sorted t wind voice _).imp fun h => by omega
  have hmem : ∀ h : Int, h ∈ ((fsts (lis t wind voice (inL hs))).map fun (p : Nat) => (p : Int)) ↔ h ∈ hs := fun h => by
    rw [List.mem_map]
    constructor
    · rintro ⟨p, hp, rfl⟩
      obtain ⟨x, hx, rfl⟩ := List.mem_map.1 hp
      exact (mem_lisN.1 hx).2.2.1
    · intro hh
      obtain ⟨p, rfl, h1, h2⟩ := mem_kindIdx.1 (hv h hh)
      exact ⟨p, List.mem_map.2 ⟨(p, ears t wind voice p), mem_lisN.2 ⟨h1, h2, hh, rfl⟩, rfl⟩, rfl⟩
  have le : ∀ {A B : List Int}, A.Nodup → (∀ a ∈ A, a ∈ B) → A.length ≤ B.length := by
    intro A
    induction A with
    | nil => intro B _ _; simp
    | cons a A ih =>
      intro B hn hs
      rw [List.nodup_cons] at hn
      have h1 := ih (B := B.erase a) hn.2 fun x hx => by
        have hne : x ≠ a := fun e => hn.1 (by rw [← e]; exact hx)
        exact (List.mem_erase_of_ne hne).2 (hs x (by simp [hx]))
      have h2 := hs a (by simp)
      rw [List.length_erase_of_mem h2] at h1
      have : 0 < B.length := List.length_pos_of_mem h2
      simp; omega
  rw [e1]
  exact Nat.le_antisymm (le hnd fun a ha => (hmem a).1 ha) (le hn fun a ha => (hmem a).2 ha)
theorem cnt_all {l : List (Nat × List Bool)} {S : List Nat} : cntS l S = l.length ↔ ∀ x ∈ l, hit S x.2 = true := by
  unfold cntS
  exact List.length_filter_eq_length_iff
theorem cnt_le (l : List (Nat × List Bool)) (S : List Nat) : cntS l S ≤ l.length := List.length_filter_le _ _
end Go.Proofs.Ytimedmkpenbmkaa
end
section
namespace Go.Proofs.Ytimedmkpenbmkaa
open Go.RowKit Go.Shelf
set_option linter.unusedSimpArgs false
set_option linter.unusedVariables false
theorem below_grownBy {a b : World} {row : Option Nat} (h : Below a.heap.size a b) : a.grownBy b row := ⟨h.os, h.tape, h.output, h.size, fun k hk _ => h.block k hk⟩
end Go.Proofs.Ytimedmkpenbmkaa
end
section
namespace Go.Proofs.Ytimedmkpenbmkaa
open Go.RowKit Go.Shelf
set_option linter.unusedSimpArgs false
set_option linter.unusedVariables false
set_option maxHeartbeats 1000000 in
set_option maxRecDepth 100000 in
theorem Best_err (wd wind voice : Int) (pl : Value) (hv : Value) (E : Int) (w : World) (st : Int) (hOQ : OQerr w wd wind voice pl hv E) :
    Calls Try.prog 52 #[.agg #[.int .i64 wd, pl], .agg #[.int .i64 wind, .int .i64 voice], hv, .int .i64 st] w fun e w' => e = .returned (.tuple #[.slice none 0 0, .int .i64 0, .int .i64 E]) ∧ Below w.heap.size w w' := by
  have hE : (E != 0) = true := by simpa using hOQ.1
  have HOQ := Lib.hid hOQ.2
  clear hOQ
  have hB2 : ∀ o1 o2, Below w.heap.size w ((w.alloc o1).alloc o2) := fun o1 o2 => al (al (Below.refl _ _) _) _
  unfold zeroWork at HOQ
  go_enter Try.func52, Try.ntmps52
  go_wp2_with fail
  refine (HOQ.out _ (hB2 _ _)).mono ?_
  rintro e w1 ⟨rfl, hB⟩
  have HB := Lib.hid (join (hB2 _ _) hB)
  clear hB hB2
  go_wp2
  go_ret3
  exact ⟨rfl, al HB.out _⟩
/-- what is left of the region 'choose(listeners(w, tables(w)), stands)' -/
def spBe (t : Hr.Town) (wind voice : Int) (cnt : Nat → Bool) (wk : Value) (B : Nat) (st : Nat) (X : List Int) (N : Int) : Nat → List Value → Value → World → Prop
  | 0, _, v, _ => v = wk
  | 1, _, v, _ => v = wk
  | 2, _, v, w => ∃ vs, v = .agg vs ∧ TabsTo t wind 30 w vs
  | 3, _, v, w => w.ownsRow B 135 31 v (lis t wind voice cnt).length (lisV (lis t wind voice cnt))
  | 4, _, v, _ => v = .int .i64 st
  | 5, _, v, w => ∃ u, v = .tuple #[u, .int .i64 N] ∧ w.ownsRow B 3 1 u X.length (X.map (Value.int .i64))
  | 6, _, v, w => ∃ u, v = .tuple #[u, .int .i64 N] ∧ w.ownsRow B 3 1 u X.length (X.map (Value.int .i64))
  | 7, _, v, w => w.ownsRow B 3 1 v X.length (X.map (Value.int .i64))
  | 8, _, v, _ => v = .int .i64 N
  | 9, _, v, w => w.ownsRow B 3 1 v X.length (X.map (Value.int .i64))
  | 10, _, v, _ => v = .int .i64 N
  | _, _, _, _ => False
theorem spBe_stable (t : Hr.Town) (wind voice : Int) (cnt : Nat → Bool) (wk : Value) (B : Nat) (st : Nat) (X : List Int) (N : Int) : ∀ i L v w w', spBe t wind voice cnt wk B st X N i L v w → Rs.Gr w w' → spBe t wind voice cnt wk B st X N i L v w' := by
  intro i L v w w' h hg
  match i with
  | 0 => exact h
  | 1 => exact h
  | 2 => obtain ⟨vs, h1, h2⟩ := h; exact ⟨vs, h1, h2.below hg⟩
  | 3 => exact own_below h hg
  | 4 => exact h
  | 5 => obtain ⟨u, h1, h2⟩ := h; exact ⟨u, h1, own_below h2 hg⟩
  | 6 => obtain ⟨u, h1, h2⟩ := h; exact ⟨u, h1, own_below h2 hg⟩
  | 7 => exact own_below h hg
  | 8 => exact h
  | 9 => exact own_below h hg
  | 10 => exact h
  | _ + 11 => exact h.elim
/-- too many stands, or fewer than none -/
theorem Best_rng_dec {st : Int} (h : ¬ (0 ≤ st ∧ st ≤ 30)) : decide (st < 0) = true ∨ (decide (st < 0) = false ∧ decide (st > 30) = true) := by
  by_cases h1 : st < 0
  · left; simpa using h1
  · right; exact ⟨by simpa using h1, by simp; omega⟩
set_option maxHeartbeats 2000000 in
set_option maxRecDepth 100000 in
theorem Best_ok (t : Hr.Town) (hok : t.Ok) (wind voice : Int) (hw0 : 0 ≤ wind) (hw4 : wind ≤ 4) (b o cap : Nat) (hv : Value) (nm : List Bool) (hnl : nm.length = 30) (st : Nat) (hst : st ≤ 30) (w : World) (hI : Ints w b o t.plots)
    (hOQ : OQ w t.wide wind voice (.slice (some ⟨b, o, none⟩) t.plots.length cap) hv nm) :
    Calls Try.prog 52 #[.agg #[.int .i64 t.wide, .slice (some ⟨b, o, none⟩) t.plots.length cap], .agg #[.int .i64 wind, .int .i64 voice], hv, .int .i64 st] w fun e w' =>
      ∃ v, e = .returned (.tuple #[v, .int .i64 (chooseP (lis t wind voice (nm.getD · false)) st).2, .int .i64 0]) ∧ Below w.heap.size w w' ∧ w'.ownsRow w.heap.size 3 1 v (chooseP (lis t wind voice (nm.getD · false)) st).1.length ((chooseP (lis t wind voice (nm.getD · false)) st).1.map (Value.int .i64)) := by
  have hs1 : decide ((st : Int) < 0) = false := by simp
  have hs2 : decide ((st : Int) > 30) = false := by simp; omega
  have HCH := Lib.hid (fun ob cp w' hI => choose_any ob cp (lis t wind voice (nm.getD · false)) (lis_row _ _ _ _).1 (Nat.le_trans (lisTo_len t wind voice _ t.len) hok.n30) st (by omega) w' hI)
  obtain ⟨X, hX⟩ : ∃ X, X = (chooseP (lis t wind voice (nm.getD · false)) st).1 := ⟨_, rfl⟩
  obtain ⟨M, hM⟩ : ∃ M, M = (chooseP (lis t wind voice (nm.getD · false)) st).2 := ⟨_, rfl⟩
  rw [← hX, ← hM] at HCH ⊢
  clear hX hM
  have HI := Lib.hid hI
  have HOQ := Lib.hid hOQ
  have hbl := hI.1
  clear hI hOQ
  have hB2 : ∀ o1 o2, Below w.heap.size w ((w.alloc o1).alloc o2) := fun o1 o2 => al (al (Below.refl _ _) _) _
  go_enter Try.func52, Try.ntmps52
  go_wp2_with fail
  refine (HOQ.out _ (hB2 _ _)).mono ?_
  rintro e w1 ⟨r, N, rfl, hD, hr, hN0, hN, hB⟩
  unfold qWork
  have HB := Lib.hid (join (hB2 _ _) hB)
  have HD := Lib.hid hD
  have HN := Lib.hid hN
  have hrl : r < w1.heap.size := dir_lt hD
  have hNl : N < w1.heap.size := (Array.getElem?_eq_some_iff.1 hN).1
  have hz1 : w.heap.size + 1 + 1 ≤ w1.heap.size := by have := hB.size; simp at this; omega
  clear hD hN hB hr
  go_wp2_with fail
  obtain ⟨wk, hwk⟩ : ∃ wk : Value, wk = .agg #[.int .i64 t.wide, .slice (some ⟨b, o, none⟩) t.plots.length cap, .int .i64 wind, .int .i64 voice, .map (some r), .func (.func 144) #[] #[.pointer (some ⟨N, 0, none⟩)]] := ⟨_, rfl⟩
  refine Rs.region_gen 11 [[], [], [1], [0, 1, 2], [], [0, 1, 2, 3, 4], [0, 1, 2, 3, 4, 5], [0, 1, 2, 3, 4, 5, 6], [0, 1, 2, 3, 4, 5, 6], [0, 1, 2, 3, 4, 5, 6, 7], [0, 1, 2, 3, 4, 5, 6, 7, 8, 9]] [some 32, some 33, some 34, some 35, some 36, some 37, some 31, some 38, some 39, some 13, some 14] (spBe t wind voice (nm.getD · false) wk w.heap.size st X M) (by kernel_rfl) (by kernel_rfl) rfl (spBe_stable _ _ _ _ _ _ _ _ _) ?_ ?_
  · refine ⟨fun V w' hG hs => ?_, fun V w' hG hs => ?_, fun V w' hG hs => ?_, fun V w' hG hs => ?_, fun V w' hG hs => ?_, fun V w' hG hs => ?_, fun V w' hG hs => ?_, fun V w' hG hs => ?_, fun V w' hG hs => ?_, fun V w' hG hs => ?_, fun V w' hG hs => ?_, trivial⟩
    all_goals
      have hb0 := (hG.block w1.heap.size (by simp)).trans (heap_alloc_last _ _)
      obtain ⟨⟨k0, k1, k2, k3, k4, k5⟩, _, kl⟩ := blk_cells6 hb0
      rw [if_pos (by rfl)]
    · refine Rs.GrowL.value (v := wk) (w' := w') ?_ (Rs.Gr.refl _) rfl
      rw [hwk]
      simp [go_sem, Rs.look, k0, k1, k2, k3, k4, k5]
    · refine Rs.GrowL.value (v := wk) (w' := w') ?_ (Rs.Gr.refl _) rfl
      rw [hwk]
      simp [go_sem, Rs.look, k0, k1, k2, k3, k4, k5]
    · have e1 : V 1 = wk := hs 1 (by simp)
      refine Rs.GrowL.call (f := 101) (args := #[wk]) (by simp [go_sem, Rs.look, e1]) ?_
      have hBw := join (al HB.out _) hG
      rw [hwk]
      refine (tables_any t hok wind voice hw0 hw4 b o cap r _ _ _ w' (HI.out.below hBw hbl) ((hG.block r (by simp; omega)).trans (dir_al HD.out hrl _))).mono ?_
      rintro e w2 ⟨vs, rfl, hT, hB2⟩
      exact ⟨_, rfl, hB2, vs, rfl, hT⟩
    · have e0 : V 0 = wk := hs 0 (by simp)
      obtain ⟨vs, e2, hT⟩ : ∃ vs, V 2 = .agg vs ∧ TabsTo t wind 30 w' vs := hs 2 (by simp)
      refine Rs.GrowL.call (f := 102) (args := #[wk, .agg vs]) (by simp [go_sem, Rs.look, e0, e2]) ?_
      have hBw := join (al HB.out _) hG
      rw [hwk]
      have hN' := (hG.block N (by simp; omega)).trans ((Below.heap_alloc _ _ _ hNl).trans HN.out)
      refine (listeners_any t hok wind voice b o cap _ 144 _ (nm.getD · false) vs w' (HI.out.below hBw hbl) hT callF144 (fun p hp => cntQ_call N nm hnl w' hN' p (by have := hok.n30; omega))).mono ?_
      rintro e w2 ⟨v, rfl, hown, hB2⟩
      exact ⟨_, rfl, hB2, own_base hown (by have := hBw.size; omega)⟩
    · exact Rs.GrowL.value (v := .int .i64 st) (w' := w') (by simp [go_sem, Rs.look]) (Rs.Gr.refl _) rfl
    · have r3 : w'.ownsRow w.heap.size 135 31 (V 3) (lis t wind voice (nm.getD · false)).length (lisV (lis t wind voice (nm.getD · false))) := hs 3 (by simp)
      have e4 : V 4 = .int .i64 st := hs 4 (by simp)
      obtain ⟨ob, cp, e3⟩ := own_slice r3
      rw [e3] at r3
      refine Rs.GrowL.call (f := 106) (args := #[.slice ob (lis t wind voice (nm.getD · false)).length cp, .int .i64 st]) (by simp [go_sem, Rs.look, e3, e4]) ?_
      have hBw := join (al HB.out _) hG
      refine (HCH.out ob cp w' (LiIn.of_own (lis_row _ _ _ _).1 r3)).mono ?_
      rintro e w2 ⟨v, rfl, hown, hB2⟩
      exact ⟨_, rfl, hB2, v, rfl, own_base hown (by have := hBw.size; omega)⟩
    · obtain ⟨u, e5, r5⟩ : ∃ u, V 5 = .tuple #[u, .int .i64 M] ∧ w'.ownsRow w.heap.size 3 1 u X.length (X.map (Value.int .i64)) := hs 5 (by simp)
      exact Rs.GrowL.value (v := .tuple #[u, .int .i64 M]) (w' := w') (by simp [go_sem, Rs.look, e5]) (Rs.Gr.refl _) ⟨u, rfl, r5⟩
    · obtain ⟨u, e6, r6⟩ : ∃ u, V 6 = .tuple #[u, .int .i64 M] ∧ w'.ownsRow w.heap.size 3 1 u X.length (X.map (Value.int .i64)) := hs 6 (by simp)
      exact Rs.GrowL.value (v := u) (w' := w') (by simp [go_sem, Rs.look, e6]) (Rs.Gr.refl _) r6
    · obtain ⟨u, e6, r6⟩ : ∃ u, V 6 = .tuple #[u, .int .i64 M] ∧ w'.ownsRow w.heap.size 3 1 u X.length (X.map (Value.int .i64)) := hs 6 (by simp)
      exact Rs.GrowL.value (v := .int .i64 M) (w' := w') (by simp [go_sem, Rs.look, e6]) (Rs.Gr.refl _) rfl
    · have r7 : w'.ownsRow w.heap.size 3 1 (V 7) X.length (X.map (Value.int .i64)) := hs 7 (by simp)
      exact Rs.GrowL.value (v := V 7) (w' := w') (by simp [go_sem, Rs.look]) (Rs.Gr.refl _) r7
    · have e8 : V 8 = .int .i64 M := hs 8 (by simp)
      exact Rs.GrowL.value (v := .int .i64 M) (w' := w') (by simp [go_sem, Rs.look, e8]) (Rs.Gr.refl _) rfl
  · intro V w' hG hs
    have r9 : w'.ownsRow w.heap.size 3 1 (V 9) X.length (X.map (Value.int .i64)) := hs 9 (by omega)
    have e10 : V 10 = .int .i64 M := hs 10 (by omega)
    have hBw := join (al HB.out (.cells #[.int .i64 t.wide, .slice (some ⟨b, o, none⟩) t.plots.length cap, .int .i64 wind, .int .i64 voice, .map (some r), .func (.func 144) #[] #[.pointer (some ⟨N, 0, none⟩)]] 119)) hG
    simp only [Rs.canon, Rs.dstOf, List.range_succ, List.range_zero, List.nil_append, List.cons_append, List.foldl_cons, List.foldl_nil, List.drop_succ_cons, List.drop_zero, List.drop_nil, List.getElem?_toArray, List.getElem?_cons_succ, List.getElem?_cons_zero, Option.bind_some, Act.put, List.getD_cons_succ, List.getD_cons_zero, List.setIfInBounds_toArray, List.set_cons_succ, List.set_cons_zero]
    rw [e10]
    generalize V 0 = y0
    generalize V 1 = y1
    generalize V 2 = y2
    generalize V 3 = y3
    generalize V 4 = y4
    generalize V 5 = y5
    generalize V 6 = y6
    generalize V 7 = y7
    generalize V 8 = y8
    generalize V 9 = v at r9 ⊢
    have H5 := Lib.hid r9
    have HBW := Lib.hid hBw
    clear hs e10 r9 hBw hG hwk
    go_wp2_with fail
    go_ret3
    exact ⟨_, rfl, HBW.out, H5.out⟩
end Go.Proofs.Ytimedmkpenbmkaa
end
section
namespace Go.Proofs.Ytimedmkpenbmkaa
open Go.RowKit Go.Shelf
set_option linter.unusedSimpArgs false
set_option linter.unusedVariables false
theorem kind_count : ∀ (xs : List Int), (kindIdx xs 1).length = cnt1 xs := by
  intro xs
  have h : ∀ k, k ≤ xs.length → (kindTo xs 1 k).length = cnt1 (xs.take k) := by
    intro k
    induction k with
    | zero => intro _; rfl
    | succ k ih =>
      intro hk
      have e1 : xs.take (k + 1) = xs.take k ++ [xs[k]'(by omega)] := List.take_succ_eq_append_getElem (by omega)
      have e2 : xs.getD k 0 = xs[k]'(by omega) := by rw [List.getD_eq_getElem?_getD, List.getElem?_eq_getElem (by omega)]; rfl
      have ih := ih (by omega)
      unfold cnt1 at ih ⊢
      rw [e1, List.countP_append]
      by_cases e : (xs.getD k 0 == 1) = true
      · rw [kindTo_yes e, List.length_append, ih, List.countP_cons_of_pos (by rw [← e2]; exact e)]; rfl
      · rw [kindTo_no (by simpa using e), ih, List.countP_cons_of_neg (by rw [← e2]; exact e)]; rfl
  have := h xs.length (Nat.le_refl _)
  rwa [List.take_length] at this
theorem houses_ten {t : Hr.Town} (hc : checkErr t.wide t.plots = 0) : (kindIdx t.plots 1).length ≤ 10 := by
  rw [kind_count]
  unfold checkErr at hc
  by_cases h1 : ((t.wide : Int) < 1 ∨ 6 < (t.wide : Int) ∨ t.plots.length < 1 ∨ 30 < t.plots.length ∨ (t.plots.length : Int) % (t.wide : Int) ≠ 0)
  · rw [if_pos h1] at hc; cases hc
  · rw [if_neg h1] at hc
    by_cases h2 : t.plots.any badPlot = true
    · rw [if_pos h2] at hc; cases hc
    · rw [if_neg h2] at hc
      by_cases h3 : 10 < cnt1 t.plots
      · rw [if_pos h3] at hc; cases hc
      · omega
/-- houses of a town, each at most once -/
structure Named (t : Hr.Town) (hs : List Int) : Prop where
  ok : t.Ok
  chk : checkErr t.wide t.plots = 0
  all : ∀ h ∈ hs, h ∈ kindIdx t.plots 1
  nd : hs.Nodup
theorem Named.len {t : Hr.Town} {hs : List Int} (h : Named t hs) : hs.length ≤ 10 := by
  have le : ∀ {A B : List Int}, A.Nodup → (∀ a ∈ A, a ∈ B) → A.length ≤ B.length := by
    intro A
    induction A with
    | nil => intro B _ _; simp
    | cons a A ih =>
      intro B hn hs
      rw [List.nodup_cons] at hn
      have h1 := ih (B := B.erase a) hn.2 fun x hx => by
        have hne : x ≠ a := fun e => hn.1 (by rw [← e]; exact hx)
        exact (List.mem_erase_of_ne hne).2 (hs x (by simp [hx]))
      have h2 := hs a (by simp)
      rw [List.length_erase_of_mem h2] at h1
      have : 0 < B.length := List.length_pos_of_mem h2
      simp; omega
  exact Nat.le_trans (le h.nd h.all) (houses_ten h.chk)
theorem Named.lis {t : Hr.Town} {hs : List Int} (h : Named t hs) (wind voice : Int) : (lis t wind voice (inL hs)).length ≤ 10 := by
  rw [lis_count h.all h.nd]; exact h.len
def qN (t : Hr.Town) (hs : List Int) : List Bool := (qAll t.plots (List.replicate 30 false) hs).2
theorem named_OQ {t : Hr.Town} {hs : List Int} (h : Named t hs) (wind voice : Int) (ha : airErr wind voice = 0) (b o cap : Nat) (a : Option Addr) (hcap : Nat) (w : World) (hP : RdI w (.slice (some ⟨b, o, none⟩) t.plots.length cap) t.plots)
    (hR : RdI w (.slice a hs.length hcap) hs) :
    Ints w b o t.plots ∧ OQ w t.wide wind voice (.slice (some ⟨b, o, none⟩) t.plots.length cap) (.slice a hs.length hcap) (qN t hs) := by
  have hne : t.plots ≠ [] := by intro e; have := (check_len h.chk).2; rw [e] at this; simp at this
  obtain ⟨b', o', e', -, hI⟩ := rd_ints hP hne
  cases e'
  have hn30 : t.plots.length ≤ 30 := h.ok.n30
  have := h.len
  exact ⟨hI, oq_of t h.chk wind voice ha b o cap a hcap hs (by omega) w (rd_plots hP (by omega)) hI hR (lis_named h.ok wind voice h.all h.nd).1⟩
def natI (l : List Nat) : List Int := l.map fun (x : Nat) => (x : Int)
theorem natI_len (l : List Nat) : (natI l).length = l.length := by simp [natI]
end Go.Proofs.Ytimedmkpenbmkaa
end
section
namespace Go.Proofs.Ytimedmkpenbmkaa
open Go.RowKit Go.Shelf
set_option linter.unusedSimpArgs false
set_option linter.unusedVariables false
theorem ears_get {t : Hr.Town} {wind voice : Int} {h s : Nat} : (ears t wind voice h).getD s false = (decide (s < 30) && hearB t wind voice h s) := by
  unfold ears
  rw [List.getD_eq_getElem?_getD, List.getElem?_map]
  by_cases e : s < 30
  · simp [List.getElem?_range, e]
  · simp [e]
theorem hit_ears {t : Hr.Town} {wind voice : Int} {S : List Nat} {h : Nat} : hit S (ears t wind voice h) = true ↔ ∃ s ∈ S, s < 30 ∧ hearB t wind voice h s = true := by
  unfold hit
  rw [List.any_eq_true]
  constructor
  · rintro ⟨s, hs, e⟩
    rw [ears_get, Bool.and_eq_true, decide_eq_true_iff] at e
    exact ⟨s, hs, e⟩
  · rintro ⟨s, hs, e⟩
    exact ⟨s, hs, by rw [ears_get, Bool.and_eq_true, decide_eq_true_iff]; exact e⟩
theorem cnt_lis (t : Hr.Town) (wind voice : Int) (cnt : Nat → Bool) (S : List Nat) : cntS (lis t wind voice cnt) S = ((List.range t.len).filter fun p => t.at p == 1 && cnt p).countP fun p => hit S (ears t wind voice p) := by
  unfold cntS lis lisTo
  rw [List.filter_map, List.length_map, List.countP_eq_length_filter]
  rfl
theorem no_deaf {e : List Bool} {s : Nat} (h : e.getD s false = true) : deafB e = false := by
  cases hd : deafB e
  · rfl
  · unfold deafB at hd
    rw [decide_eq_true_iff] at hd
    rw [hd, List.getD_eq_getElem?_getD, List.getElem?_replicate] at h
    split at h <;> cases h
/-- stands that are chosen are streets -/
theorem chosen_street {t : Hr.Town} {wind voice : Int} {cnt : Nat → Bool} {st : Nat} {ch : List Nat} {n : Nat} (hc : Chosen (lis t wind voice cnt) st ch n) : ∀ s ∈ ch, s < t.len ∧ t.at s = 0 := by
  intro s hs
  false_or_by_contra
  rename_i hno
  have hb : ∀ h, hearB t wind voice h s = false := fun h => by
    unfold hearB
    rw [decide_eq_false hno, Bool.false_and]
  have e : cntS (lis t wind voice cnt) (ch.erase s) = n := by
    rw [← hc.cnt, cnt_lis, cnt_lis]
    apply List.countP_congr
    intro p _
    rw [hit_ears, hit_ears]
    constructor
    · rintro ⟨q, hq, h1, h2⟩
      exact ⟨q, List.mem_of_mem_erase hq, h1, h2⟩
    · rintro ⟨q, hq, h1, h2⟩
      have hne : q ≠ s := fun e => by rw [e, hb p] at h2; cases h2
      exact ⟨q, (List.mem_erase_of_ne hne).2 hq, h1, h2⟩
  have h1 := hc.short (ch.erase s) (fun q hq => hc.bd q (List.mem_of_mem_erase hq)) (by omega)
  rw [List.length_erase_of_mem hs] at h1
  have : 0 < ch.length := List.length_pos_of_mem hs
  omega
theorem lvF_spec (t : Hr.Town) (wind : Int) (cnt : Nat → Bool) (st : Nat) : ∀ f v, (lvF t wind cnt st f v = -1 ∧ ∀ u, v ≤ u → u < v + f → okV (lis t wind (u : Nat) cnt) st = false) ∨ (∃ x : Nat, lvF t wind cnt st f v = x ∧ v ≤ x ∧ x < v + f ∧ okV (lis t wind x cnt) st = true ∧ ∀ u, v ≤ u → u < x → okV (lis t wind (u : Nat) cnt) st = false)
  | 0, v => .inl ⟨rfl, fun u h1 h2 => by omega⟩
  | f + 1, v => by
    rw [lvF]
    by_cases e : okV (lis t wind v cnt) st = true
    · rw [if_pos e]
      exact .inr ⟨v, rfl, Nat.le_refl _, by omega, e, fun u h1 h2 => by omega⟩
    · rw [if_neg e]
      have e' : okV (lis t wind v cnt) st = false := by simpa using e
      rcases lvF_spec t wind cnt st f (v + 1) with ⟨h1, h2⟩ | ⟨x, h1, h2, h3, h4, h5⟩
      · refine .inl ⟨h1, fun u a b => ?_⟩
        by_cases hu : u = v
        · rw [hu]; exact e'
        · exact h2 u (by omega) (by omega)
      · refine .inr ⟨x, h1, by omega, by omega, h4, fun u a b => ?_⟩
        by_cases hu : u = v
        · rw [hu]; exact e'
        · exact h5 u (by omega) b
/-- no stands that are tried do better than those that are told -/
theorem chosen_best {l : List (Nat × List Bool)} {st : Nat} {ch : List Nat} {n : Nat} (hc : Chosen l st ch n) {O : List Nat} (hO : O.Pairwise (· < ·)) (hb : ∀ s ∈ O, s < 30) (hl : O.length ≤ st) :
    cntS l O ≤ n ∧ (cntS l O = n → ch.length ≤ O.length ∧ (O.length = ch.length → ch = O ∨ Bef ch O)) :=
  ⟨hc.most O hb hl, fun e => ⟨hc.short O hb (by omega), fun e2 => hc.first O hO hb e2 e⟩⟩
end Go.Proofs.Ytimedmkpenbmkaa
end
section
namespace Go.Proofs.Ytimedmkpenbmkaa
open Go.RowKit Go.Shelf
set_option linter.unusedSimpArgs false
set_option linter.unusedVariables false
theorem hearB_lt {t : Hr.Town} {wind voice : Int} {h s : Nat} (e : hearB t wind voice h s = true) : s < t.len := by
  unfold hearB at e
  rw [Bool.and_eq_true, decide_eq_true_iff] at e
  exact e.1.1
theorem lvF_congr {t u : Hr.Town} {w1 w2 : Int} {c1 c2 : Nat → Bool} {st : Nat} (h : ∀ v : Nat, okV (lis t w1 v c1) st = okV (lis u w2 v c2) st) : ∀ f v, lvF t w1 c1 st f v = lvF u w2 c2 st f v
  | 0, _ => rfl
  | f + 1, v => by rw [lvF, lvF, h, lvF_congr h f]
end Go.Proofs.Ytimedmkpenbmkaa
end
section
namespace Go.Proofs.Ytimedmkpenbmkaa
open Go.RowKit Go.Shelf
set_option linter.unusedSimpArgs false
set_option linter.unusedVariables false
theorem A_info31 : (Try.prog.info? 31).map (fun i => (i.zero, i.size, i.bytes)) = some (some (.slice none 0 0), 1, 24) := by kernel_rfl
theorem make62 (k : Nat) (hk : k ≤ 1000) (W : World) : (Instr.makeSlice 62 (.int .i64 k) (.int .i64 k)).run Try.prog W = .ok (.slice (some ⟨W.heap.size, 0, none⟩) k k) (W.alloc (.cells (Array.replicate k (Value.slice none 0 0)) 31)) := by
  obtain ⟨i0, hi, hz0, hz1, hz2⟩ := info_parts A_info31
  have h := run_make (P := Try.prog) W 62 31 i0 (.slice none 0 0) Try.underlying62 hi hz0 .i64 .i64 k k (by omega) (by omega) (by rw [hz2]; omega) (by omega)
  rw [h]
  have e : madeCells (Value.slice none 0 0).cells ((k : Int).toNat * i0.size) = Array.replicate k (Value.slice none 0 0) := by
    rw [hz1]
    apply Array.ext
    · simp [madeCells]
    · intro i h1 h2
      simp [madeCells, Value.cells, Nat.mod_one]
  rw [e]
  simp
/-- rows of numbers that grow, in a row of slices -/
structure ErW (n O : Nat) (E : Nat → List Int) (vs : List Value) (W : World) : Prop where
  len : vs.length = n
  blk : W.heap[O]? = some (.cells vs.toArray 31 (0, 0))
  own : ∀ p, p < n → W.ownsRow (O + 1) 3 1 (vs.getD p (.slice none 0 0)) (E p).length ((E p).map (Value.int .i64))
  apart : ∀ p q, p < n → q < n → p ≠ q → ∀ g, (vs.getD p (.slice none 0 0)).ownBlock = some g → (vs.getD q (.slice none 0 0)).ownBlock ≠ some g
theorem ErW.below {n O : Nat} {E : Nat → List Int} {vs : List Value} {W W' : World} (h : ErW n O E vs W) (hB : Below W.heap.size W W') : ErW n O E vs W' :=
  ⟨h.len, (hB.block _ (Array.getElem?_eq_some_iff.1 h.blk).1).trans h.blk, fun p hp => own_below (h.own p hp) hB, h.apart⟩
theorem ErW.congr {n O : Nat} {E E' : Nat → List Int} {vs : List Value} {W : World} (h : ErW n O E vs W) (he : ∀ p, p < n → E' p = E p) : ErW n O E' vs W :=
  ⟨h.len, h.blk, fun p hp => by rw [he p hp]; exact h.own p hp, h.apart⟩
theorem ErW.lt {n O : Nat} {E : Nat → List Int} {vs : List Value} {W : World} (h : ErW n O E vs W) : O < W.heap.size := (Array.getElem?_eq_some_iff.1 h.blk).1
theorem ErW.cell {n O : Nat} {E : Nat → List Int} {vs : List Value} {W : World} (h : ErW n O E vs W) {p : Nat} (hp : p < n) : W.cell? ⟨O, p, none⟩ = some (vs.getD p (.slice none 0 0)) := by
  rw [cell_of_row _ _ _ _ _ _ h.blk]
  simp [List.getElem?_eq_getElem (show p < vs.length by rw [h.len]; exact hp)]
theorem getD_setV (l : List Value) (i j : Nat) (v z : Value) (h : i < l.length) : (l.set i v).getD j z = if i = j then v else l.getD j z := by
  simp only [List.getD_eq_getElem?_getD, List.getElem?_set]
  split
  · rename_i e; subst e; simp [h]
  · rfl
theorem ErW.app {n O : Nat} {E : Nat → List Int} {vs : List Value} {W W2 w8 : World} (h : ErW n O E vs W) (hB : Below W.heap.size W W2) {p : Nat} (hp : p < n) {x : Int} {v' : Value}
    (ho : w8.ownsRow (O + 1) 3 1 v' ((E p).length + 1) ((E p).map (Value.int .i64) ++ [.int .i64 x])) (hg : W2.grownBy w8 (vs.getD p (.slice none 0 0)).ownBlock) (hat : v'.ownBlock = (vs.getD p (.slice none 0 0)).ownBlock ∨ v'.ownBlock = some W2.heap.size) :
    ErW n O (fun q => if q = p then E p ++ [x] else E q) (vs.set p v') (w8.setCell ⟨O, p, none⟩ v') ∧ w8.cell? ⟨O, p, none⟩ = some (vs.getD p (.slice none 0 0)) ∧ w8.frozen? ⟨O, p, none⟩ = false := by
  have h2 := h.below hB
  have hOl := h2.lt
  have hpl : p < vs.length := by rw [h.len]; exact hp
  have hOne : some O ≠ (vs.getD p (.slice none 0 0)).ownBlock := fun e => by have := (h.own p hp).lt O e.symm; omega
  have hb8 := (hg.block O hOl hOne).trans h2.blk
  refine ⟨⟨by rw [List.length_set]; exact h.len, ?_, fun q hq => ?_, fun q r hq hr hne g h1 h3 => ?_⟩, ?_, frozen_of_row _ _ _ _ _ hb8⟩
  · rw [heap_set_same _ hb8]; simp [List.set_toArray]
  · have hset := grown_set w8 O p v'
    rw [getD_setV _ _ _ _ _ hpl]
    by_cases e : p = q
    · subst e
      simp only [if_true]
      have : (E p ++ [x]).length = (E p).length + 1 := by simp
      rw [this, List.map_append]
      refine ho.kept hset ?_
      by_cases hn : v'.ownBlock = none
      · exact .inl hn
      · right; intro e; have := ho.lt O e; omega
    · rw [if_neg e]
      have e' : ¬ q = p := fun h => e h.symm
      simp only [e', if_false]
      have hq8 : w8.ownsRow (O + 1) 3 1 (vs.getD q (.slice none 0 0)) (E q).length ((E q).map (Value.int .i64)) := by
        refine (h2.own q hq).kept hg ?_
        cases hb : (vs.getD q (.slice none 0 0)).ownBlock with
        | none => exact .inl rfl
        | some g => exact .inr (fun e2 => h.apart p q hp hq e g e2.symm hb)
      refine hq8.kept hset ?_
      by_cases hn : (vs.getD q (.slice none 0 0)).ownBlock = none
      · exact .inl hn
      · right; intro e; have := hq8.lt O e; omega
  · rw [getD_setV _ _ _ _ _ hpl] at h1 h3
    by_cases e1 : p = q
    · subst e1
      rw [if_pos rfl] at h1
      rw [if_neg hne] at h3
      rcases hat with ha | ha
      · rw [ha] at h1; exact h.apart p r hp hr hne g h1 h3
      · rw [ha] at h1; injection h1 with h1; have := (h2.own r hr).lt g h3; omega
    · rw [if_neg e1] at h1
      by_cases e2 : p = r
      · subst e2
        rw [if_pos rfl] at h3
        rcases hat with ha | ha
        · rw [ha] at h3; exact h.apart q p hq hp hne g h1 h3
        · rw [ha] at h3; injection h3 with h3; have := (h2.own q hq).lt g h1; omega
      · rw [if_neg e2] at h3; exact h.apart q r hq hr hne g h1 h3
  · rw [cell_of_row _ _ _ _ _ _ hb8]
    simp [List.getElem?_eq_getElem hpl]
/-- the stands among the first ones that a house hears -/
def earsE (t : Hr.Town) (wind voice : Int) (k p : Nat) : List Int := if t.at p = 1 then standsTo t wind voice p k else []
theorem earsE_len (t : Hr.Town) (wind voice : Int) (k p : Nat) : (earsE t wind voice k p).length ≤ k := by
  unfold earsE; split
  · exact standsTo_len _ _ _ _ _
  · simp
theorem earsE_no {t : Hr.Town} {wind voice : Int} {k p : Nat} (h : t.at p = 1 → hearB t wind voice p k = false) : earsE t wind voice (k + 1) p = earsE t wind voice k p := by
  unfold earsE; split
  · rename_i e; rw [standsTo_no (h e)]
  · rfl
theorem earsE_yes {t : Hr.Town} {wind voice : Int} {k p : Nat} (h1 : t.at p = 1) (h : hearB t wind voice p k = true) : earsE t wind voice (k + 1) p = earsE t wind voice k p ++ [(k : Int)] := by
  unfold earsE; rw [if_pos h1, if_pos h1, standsTo_yes h]
def earsM (t : Hr.Town) (wind voice : Int) (k q p : Nat) : List Int := if p < q then earsE t wind voice (k + 1) p else earsE t wind voice k p
set_option maxHeartbeats 4000000 in
set_option maxRecDepth 100000 in
theorem refEars_yes (t : Hr.Town) (ok : t.Ok) (wind voice : Int) (he : openErr t.wide t.plots wind voice = 0) (b o cap : Nat) (w : World) (hI : Ints w b o t.plots) :
    Calls Try.prog 38 #[.agg #[.int .i64 t.wide, .slice (some ⟨b, o, none⟩) t.plots.length cap], .int .i64 wind, .int .i64 voice] w fun e w' => ∃ O vs, e = .returned (.slice (some ⟨O, 0, none⟩) t.plots.length t.plots.length) ∧ ErW t.plots.length O (earsE t wind voice t.plots.length) vs w' ∧ w.heap.size ≤ O ∧ Below w.heap.size w w' := by
  obtain ⟨i0, hi, hz0, hz1, hz2⟩ := info_parts A_info3
  obtain ⟨hc, ha⟩ := openErr_ok he
  obtain ⟨w0, w4, v1, v40⟩ := wind_ok ha
  have h30 : t.plots.length ≤ 30 := ok.n30
  have hmk := make62 t.plots.length (by omega)
  have HC := Lib.hid hc
  have HB := Lib.hid (below1 w (.cells #[.int .i64 t.wide, .slice (some ⟨b, o, none⟩) t.plots.length cap] 33))
  have hx0 : (w.alloc (.cells #[.int .i64 t.wide, .slice (some ⟨b, o, none⟩) t.plots.length cap] 33)).heap[w.heap.size]? = some (.cells #[.int .i64 t.wide, .slice (some ⟨b, o, none⟩) t.plots.length cap] 33 (0, 0)) := heap_alloc_last _ _
  obtain ⟨k0, k1⟩ := blk_cells2 hx0
  have HI := Lib.hid (hI.below HB.out hI.1)
  have HX0 := Lib.hid hx0
  clear he hc ha hI hx0
  go_enter Try.func38, Try.ntmps38
  go_wp2_with fail
  clear hmk
  obtain ⟨W1, hW1⟩ : ∃ W1, W1 = w.alloc (.cells #[.int .i64 t.wide, .slice (some ⟨b, o, none⟩) t.plots.length cap] 33) := ⟨_, rfl⟩
  rw [← hW1] at HI HX0 HB k0 k1 ⊢
  have hs1 : w.heap.size < W1.heap.size := by rw [hW1]; simp
  have hs1e : W1.heap.size = w.heap.size + 1 := by rw [hW1]; simp
  obtain ⟨W2, hW2⟩ : ∃ W2, W2 = W1.alloc (.cells (Array.replicate t.plots.length (Value.slice none 0 0)) 31) := ⟨_, rfl⟩
  rw [← hW2]
  have hE2 : ErW t.plots.length (w.heap.size + 1) (earsE t wind voice 0) (List.replicate t.plots.length (Value.slice none 0 0)) W2 := by
    refine ⟨by simp, by rw [hW2, ← hs1e]; have := heap_alloc_last W1 (.cells (Array.replicate t.plots.length (Value.slice none 0 0)) 31); simpa using this, fun p hp => ?_, fun p q hp hq hne g h => ?_⟩
    · have e : earsE t wind voice 0 p = [] := by unfold earsE standsTo; split <;> simp
      rw [e]
      have : (List.replicate t.plots.length (Value.slice none 0 0)).getD p (.slice none 0 0) = .slice none 0 0 := by simp [List.getD_eq_getElem?_getD, List.getElem?_replicate, hp]
      rw [this]
      exact own_none _ _ _ _
    · have : (List.replicate t.plots.length (Value.slice none 0 0)).getD p (.slice none 0 0) = .slice none 0 0 := by simp [List.getD_eq_getElem?_getD, List.getElem?_replicate, hp]
      rw [this] at h; cases h
  have HE2 := Lib.hid hE2
  have HB2 : Hid (Below (w.heap.size + 1) W1 W2) := Lib.hid (by rw [hW2, ← hs1e]; exact below1 _ _)
  have HS1 := Lib.hid hs1e
  clear hE2 hW1 hW2 k0 k1 hs1e hs1
  go_loopw [8] (fun i wr => ∃ (k : Nat) (vs : List Value), k ≤ t.plots.length ∧ i = .int .i64 k ∧ ErW t.plots.length (w.heap.size + 1) (earsE t wind voice k) vs wr ∧ Below (w.heap.size + 1) W1 wr) (fun i _ => t.plots.length - (intOf i).toNat)
  case atStart => exact ⟨0, _, Nat.zero_le _, rfl, HE2.out, HB2.out⟩
  case round =>
    obtain ⟨k, vs, hk, rfl, hE, hBr⟩ := hrel
    obtain ⟨wk, rfl⟩ : ∃ wk : World, wk = wr := ⟨_, rfl⟩
    have HE := Lib.hid hE
    have HBr := Lib.hid hBr
    have hx0 := (hBr.block _ (by omega)).trans HX0.out
    obtain ⟨k0, k1⟩ := blk_cells2 hx0
    have hz0l : w.heap.size < wk.heap.size := (Array.getElem?_eq_some_iff.1 hx0).1
    have HX1 := Lib.hid hx0
    have hIk := HI.out.below hBr (by rw [← HS1.out]; exact HI.out.1)
    have HIk := Lib.hid hIk
    have hwk : w.heap.size + 1 ≤ wk.heap.size := by have := hBr.size; omega
    clear hE hBr hx0
    by_cases hlt : k < t.plots.length
    · have hlt' : (k : Int) < t.plots.length := by omega
      have hc := hIk.2 k hlt
      have hbl := hIk.1
      obtain ⟨kd, hkd⟩ : ∃ kd, t.plots.getD k 0 = kd := ⟨_, rfl⟩
      rw [hkd] at hc
      have HKD : Hid (t.at k = kd) := Lib.hid hkd
      clear hkd hIk
      by_cases h0 : kd = 0
      · subst h0
        have he : needsErr t.wide t.plots wind k = 0 := by
          have hp : plotErr t.plots k 0 = 0 := by unfold plotErr; rw [if_neg (by omega), Int.toNat_natCast]; exact if_pos HKD.out
          have ha : airErr wind 40 = 0 := by unfold airErr; rw [if_neg (by omega)]
          unfold needsErr openErr
          simp [HC.out, ha, hp]
        have HN := Lib.hid (fun W (hI : Ints W b o t.plots) => refNeeds_yes t ok wind k hlt he b o cap W hI)
        clear he
        go_wp2_with fail
        refine (HN.out _ HIk.out).mono ?_
        rintro e w5 ⟨tb, rfl, hT, htb, hB⟩
        obtain ⟨X, hX⟩ : ∃ X, X = t.needs wind k := ⟨_, rfl⟩
        rw [← hX] at hT
        have HT := Lib.hid hT
        have HX := Lib.hid hX
        have HXL : Hid (X.length = t.plots.length) := Lib.hid (by rw [hX]; exact needs_len ok wind hlt)
        have HE5 := Lib.hid (HE.out.below hB)
        have HB5 := Lib.hid (HBr.out.trans (hB.mono hwk))
        have HOF : Hid (∀ p, p < t.plots.length → ∀ g, (vs.getD p (.slice none 0 0)).ownBlock = some g → g ≠ tb) := Lib.hid (fun p hp g hg => by have := (HE.out.own p hp).lt g hg; omega)
        have hl5 : t.len = t.plots.length := rfl
        have HTL := Lib.hid hl5
        have htbO : w.heap.size + 1 < tb := by have := HE.out.lt; omega
        rw [hl5]
        clear hT hX hB hl5 HE HBr HN hc k0 k1 HIk HX1 htb
        go_wp2_with fail
        go_loopw [11] (fun i wr => ∃ (q : Nat) (us : List Value), q ≤ t.plots.length ∧ i = .int .i64 q ∧ ErW t.plots.length (w.heap.size + 1) (earsM t wind voice k q) us wr ∧ (∀ p, p < t.plots.length → ∀ g, (us.getD p (.slice none 0 0)).ownBlock = some g → g ≠ tb) ∧ TabAt wr tb X ∧ Below (w.heap.size + 1) W1 wr) (fun i _ => t.plots.length - (intOf i).toNat)
        case atStart => exact ⟨0, vs, Nat.zero_le _, rfl, HE5.out.congr (fun p hp => by unfold earsM; rw [if_neg (by omega)]), HOF.out, HT.out, HB5.out⟩
        case round =>
          obtain ⟨q, us, hq, rfl, hE, hOF, hT, hBr⟩ := hrel
          obtain ⟨wq, rfl⟩ : ∃ wq : World, wq = wr := ⟨_, rfl⟩
          have HEq := Lib.hid hE
          have HBq := Lib.hid hBr
          have HOFq := Lib.hid hOF
          have HTq := Lib.hid hT
          have hx0 := (hBr.block _ (by omega)).trans HX0.out
          obtain ⟨k0, k1⟩ := blk_cells2 hx0
          have hz0l : w.heap.size < wq.heap.size := (Array.getElem?_eq_some_iff.1 hx0).1
          have hIq := HI.out.below hBr (by rw [← HS1.out]; exact HI.out.1)
          have hwq : w.heap.size + 1 ≤ wq.heap.size := by have := hBr.size; omega
          clear hBr hx0 hE hOF hT HE5 HB5 HOF HT
          by_cases hlq : q < t.plots.length
          · have hlq' : (q : Int) < t.plots.length := by omega
            have hcq := hIq.2 q hlq
            have hbq := hIq.1
            obtain ⟨kq, hkq⟩ : ∃ kq, t.plots.getD q 0 = kq := ⟨_, rfl⟩
            rw [hkq] at hcq
            have HKQ : Hid (t.at q = kq) := Lib.hid hkq
            have cx := HTq.out.cell (i := q) (by rw [HXL.out]; exact hlq)
            have htl := HTq.out.lt
            obtain ⟨y, hy⟩ : ∃ y, X.getD q 0 = y := ⟨_, rfl⟩
            rw [hy] at cx
            have hyr : y = -1 ∨ 0 ≤ y := by
              rw [← hy, HX.out]; exact (Hr.needs_fix ok wind hlt).inv.nn q hlq
            have HHB : Hid (hearB t wind voice q k = (y != -1 && decide (y ≤ voice))) := Lib.hid (by unfold hearB; rw [← hy, HX.out]; simp [HKD.out, show k < t.len from hlt])
            clear hkq hy hIq
            have HNO : Hid (hearB t wind voice q k = false ∨ kq ≠ 1 → ∀ p, p < t.plots.length → earsM t wind voice k (q + 1) p = earsM t wind voice k q p) := Lib.hid (fun h p hp => by
              unfold earsM
              by_cases e : p = q
              · subst e
                rw [if_pos (by omega), if_neg (by omega)]
                refine earsE_no (fun h1 => ?_)
                rcases h with h | h
                · exact h
                · exact absurd (HKQ.out.symm.trans h1) h
              · by_cases e2 : p < q
                · rw [if_pos (by omega), if_pos e2]
                · rw [if_neg (by omega), if_neg e2])
            by_cases h1 : kq = 1
            · by_cases hh : 0 ≤ y ∧ y ≤ voice
              · obtain ⟨hy0, hyv⟩ := hh
                have HYES : Hid (hearB t wind voice q k = true) := Lib.hid (by rw [HHB.out]; simp; omega)
                have hlen : (earsM t wind voice k q q).length ≤ 30 := by unfold earsM; rw [if_neg (by omega)]; have := earsE_len t wind voice k q; omega
                have cO := HEq.out.cell hlq
                have hOl := HEq.out.lt
                obtain ⟨uq, huq⟩ : ∃ uq, us.getD q (.slice none 0 0) = uq := ⟨_, rfl⟩
                have HUQ := Lib.hid huq
                have hown := HEq.out.own q hlq
                rw [huq] at cO hown
                have HOQ := Lib.hid hown
                subst h1
                clear hyr huq hown HNO
                go_wp2_with (at_builtin; refine wpList_append_own_at _ rfl _ _ 31 rfl (w.heap.size + 1 + 1) 3 i0 (.int .i64 0) 1 8 A_und31 hi hz0 hz1 hz2 rfl (by decide) _ _ _ rfl (HOQ.out.alloc _) ⟨wq.heap.size, 0, none⟩ 1 1 [.int .i64 (k : Int)] rfl rfl ?d1 ?d2 ?d3 ?d4 ?d5 ?_)
                case d1 => exact cell_one_new _ _ _
                case d2 => intro u hu; simp at hu; subst hu; rfl
                case d3 => unfold maxLen; omega
                case d4 => omega
                case d5 => simp; omega
                intro v' w8 hown8 hgrow _ hat
                obtain ⟨ob8, cp8, rfl⟩ := own_slice hown8
                have hal := below1 wq (.cells #[.int .i64 (k : Int)] 3)
                have happ := HEq.out.app hal hlq (x := k) hown8 (by rw [HUQ.out]; exact hgrow) (by rw [HUQ.out]; simpa using hat)
                obtain ⟨hE8, c8, f8⟩ := happ
                have hOl8 : w.heap.size + 1 < w8.heap.size := by have := hgrow.size; simp at this; omega
                have hB8 := below_grown (al2 HBq.out (by omega) (.cells #[.int .i64 (k : Int)] 3)) (HOQ.out.alloc _) (by omega) (by simp; omega) hgrow
                have hT8 : TabAt w8 tb X := by
                  refine (hgrow.block tb (by simp; omega) (fun e => ?_)).trans ((Below.heap_alloc _ _ _ htl).trans HTq.out)
                  exact HOFq.out q hlq tb (by rw [HUQ.out]; exact e.symm) rfl
                have HE8 := Lib.hid (hE8.congr (E' := earsM t wind voice k (q + 1)) (fun p hp => by
                  by_cases e : p = q
                  · subst e
                    rw [if_pos rfl]
                    unfold earsM
                    rw [if_pos (by omega), if_neg (by omega)]
                    exact earsE_yes HKQ.out HYES.out
                  · rw [if_neg e]
                    unfold earsM
                    by_cases e2 : p < q
                    · rw [if_pos (by omega), if_pos e2]
                    · rw [if_neg (by omega), if_neg e2]))
                have HB8 := Lib.hid (hB8.setCell (p := ⟨w.heap.size + 1, q, none⟩) (Nat.le_refl _) (.slice ob8 ((earsM t wind voice k q q).length + 1) cp8))
                have HT8 : Hid (TabAt (w8.setCell ⟨w.heap.size + 1, q, none⟩ (.slice ob8 ((earsM t wind voice k q q).length + 1) cp8)) tb X) := Lib.hid ((Below.heap_setCell _ _ _ _ (show tb ≠ w.heap.size + 1 by omega)).trans hT8)
                have HOF8 : Hid (∀ p, p < t.plots.length → ∀ g, ((us.set q (.slice ob8 ((earsM t wind voice k q q).length + 1) cp8)).getD p (.slice none 0 0)).ownBlock = some g → g ≠ tb) := Lib.hid (fun p hp g hg => by
                  rw [getD_setV _ _ _ _ _ (by rw [HEq.out.len]; exact hlq)] at hg
                  by_cases e : q = p
                  · rw [if_pos e] at hg
                    rcases hat with ha | ha
                    · rw [ha] at hg; exact HOFq.out q hlq g (by rw [HUQ.out]; exact hg)
                    · rw [ha] at hg; injection hg with hg; omega
                  · rw [if_neg e] at hg; exact HOFq.out p hp g hg)
                clear hown8 hgrow hat hal hE8 hB8 hT8
                go_wp2_with fail
                go_roundw
                case rel => exact ⟨q + 1, _, by omega, by simp, HE8.out, HOF8.out, HT8.out, HB8.out⟩
                case measure => simp [intOf]; omega
              · have HNE := Lib.hid (HEq.out.congr (HNO.out (.inl (by rw [HHB.out]; simp; omega))))
                subst h1
                by_cases hy0 : 0 ≤ y
                · have hyv : voice < y := by omega
                  clear hyr hh HNO
                  go_wp2_with fail
                  go_roundw
                  case rel => exact ⟨q + 1, us, by omega, by simp, HNE.out, HOFq.out, HTq.out, HBq.out⟩
                  case measure => simp [intOf]; omega
                · have hyn : y < 0 := by omega
                  clear hyr hh HNO
                  go_wp2_with fail
                  go_roundw
                  case rel => exact ⟨q + 1, us, by omega, by simp, HNE.out, HOFq.out, HTq.out, HBq.out⟩
                  case measure => simp [intOf]; omega
            · have HNE := Lib.hid (HEq.out.congr (HNO.out (.inr h1)))
              have h1' : (kq == 1) = false := by simpa using h1
              clear hyr HNO h1
              go_wp2_with fail
              go_roundw
              case rel => exact ⟨q + 1, us, by omega, by simp, HNE.out, HOFq.out, HTq.out, HBq.out⟩
              case measure => simp [intOf]; omega
          · obtain rfl : q = t.plots.length := by omega
            have HEf := Lib.hid (HEq.out.congr (E' := earsE t wind voice (k + 1)) (fun p hp => by unfold earsM; rw [if_pos hp]))
            clear hIq
            go_wp2_with fail
            go_roundw
            case rel => exact ⟨k + 1, us, by omega, by simp, HEf.out, HBq.out⟩
            case measure => simp [intOf]; omega
      · have h0' : (kd != 0) = true := by simpa using h0
        have HNE := Lib.hid (HE.out.congr (E' := earsE t wind voice (k + 1)) (fun p hp => earsE_no (fun _ => by unfold hearB; rw [HKD.out]; simp [h0])))
        clear h0
        go_wp2_with fail
        go_roundw
        case rel => exact ⟨k + 1, vs, by omega, by simp, HNE.out, HBr.out⟩
        case measure => simp [intOf]; omega
    · obtain rfl : k = t.plots.length := by omega
      clear hIk
      go_wp2_with fail
      go_ret
      exact ⟨_, vs, rfl, HE.out, by omega, HB.out.trans (HBr.out.mono (by omega))⟩
end Go.Proofs.Ytimedmkpenbmkaa
end
