/- oyezlaw02.TextMarks: marks that are returned hold and show the fewest breaths, of any marks it is told whether they hold, and the lone words are as specified, for any text and marks. No condition. -/
import Derived.Test.YtadnggecnjdhiaaPx
set_option linter.unusedSimpArgs false
set_option linter.unusedVariables false
namespace Go.Proofs.Ytadnggecnjdhiaa
open Tx

/-- how many of some words are between two places -/
def inB (a b : Nat) (x : Int) : Bool := decide ((a : Int) ≤ x) && decide (x < (b : Int))
def manyIn (l : List Int) (a b : Nat) : Nat := l.countP (inB a b)
def badB (t : Text) (l : List Int) (a b : Nat) : Bool := decide (1 < manyIn l a b) && t.right a b
def aloneTo (t : Text) (l : List Int) (a : Nat) : Bool := (List.range a).all fun x => (List.range' (x + 1) (t.words.length - x)).all fun b => !badB t l x b
def aloneRow (t : Text) (l : List Int) (a b : Nat) : Bool := (List.range' (a + 1) (b - (a + 1))).all fun c => !badB t l a c
def aloneB (t : Text) (l : List Int) : Bool := aloneTo t l t.words.length
theorem aloneTo_zero (t : Text) (l : List Int) : aloneTo t l 0 = true := rfl
theorem aloneRow_zero (t : Text) (l : List Int) (a : Nat) : aloneRow t l a (a + 1) = true := by unfold aloneRow; rw [Nat.sub_self]; rfl
theorem aloneRow_succ (t : Text) (l : List Int) (a b : Nat) (h : a + 1 ≤ b) : aloneRow t l a (b + 1) = (aloneRow t l a b && !badB t l a b) := by
  unfold aloneRow
  rw [show b + 1 - (a + 1) = (b - (a + 1)) + 1 by omega, List.range'_concat, List.all_append, show a + 1 + 1 * (b - (a + 1)) = b by omega]
  simp
theorem aloneTo_succ (t : Text) (l : List Int) (a : Nat) (h : a < t.words.length) : aloneTo t l (a + 1) = (aloneTo t l a && aloneRow t l a (t.words.length + 1)) := by
  unfold aloneTo aloneRow
  rw [List.range_succ, List.all_append, show t.words.length + 1 - (a + 1) = t.words.length - a by omega]
  simp
theorem manyIn_snoc (l : List Int) (a b k : Nat) (h : k < l.length) : manyIn (l.take (k + 1)) a b = manyIn (l.take k) a b + (if inB a b (l.getD k 0) then 1 else 0) := by
  have e : l.take (k + 1) = l.take k ++ [l.getD k 0] := by
    rw [List.take_succ_eq_append_getElem h]; simp [h]
  unfold manyIn
  rw [e, List.countP_append, List.countP_cons, List.countP_nil]
  omega
theorem two_of_count {p : Int → Bool} : ∀ {l : List Int}, 1 < l.countP p → ∃ i j, i < j ∧ j < l.length ∧ p (l.getD i 0) = true ∧ p (l.getD j 0) = true
  | [], h => by simp at h
  | x :: l, h => by
    rw [List.countP_cons] at h
    by_cases hx : p x = true
    · have h1 : 0 < l.countP p := by rw [if_pos hx] at h; omega
      obtain ⟨y, hy, hp⟩ := List.countP_pos_iff.1 h1
      obtain ⟨j, hj, rfl⟩ := List.mem_iff_getElem.1 hy
      exact ⟨0, j + 1, by omega, by simpa using hj, by simpa using hx, by simpa [hj] using hp⟩
    · obtain ⟨i, j, h1, h2, h3, h4⟩ := two_of_count (l := l) (by rw [if_neg hx] at h; omega)
      exact ⟨i + 1, j + 1, by omega, by simpa using h2, by simpa using h3, by simpa using h4⟩
theorem count_of_one {p : Int → Bool} : ∀ {l : List Int} {j : Nat}, j < l.length → p (l.getD j 0) = true → 0 < l.countP p := fun {l j} hj hp => by
  rw [List.countP_pos_iff]
  exact ⟨l.getD j 0, by simp [hj], hp⟩
theorem count_of_two {p : Int → Bool} : ∀ {l : List Int} {i j : Nat}, i < j → j < l.length → p (l.getD i 0) = true → p (l.getD j 0) = true → 1 < l.countP p
  | [], i, j, _, h, _, _ => by simp at h
  | x :: l, 0, 0, h, _, _, _ => by omega
  | x :: l, 0, j + 1, _, h2, h3, h4 => by
    rw [List.countP_cons]
    have := count_of_one (l := l) (j := j) (by simpa using h2) (by simpa using h4)
    have hx : p x = true := by simpa using h3
    rw [if_pos hx]; omega
  | x :: l, i + 1, 0, h, _, _, _ => by omega
  | x :: l, i + 1, j + 1, h1, h2, h3, h4 => by
    rw [List.countP_cons]
    have := count_of_two (l := l) (i := i) (j := j) (by omega) (by simpa using h2) (by simpa using h3) (by simpa using h4)
    omega
theorem aloneB_iff {t : Text} {l : List Int} (hl : Incr 0 t.words.length l) : aloneB t l = true ↔ Alone t.right t.words.length l := by
  unfold aloneB aloneTo badB
  simp only [List.all_eq_true, List.mem_range, List.mem_range'_1, Bool.not_eq_true', Bool.and_eq_false_iff, decide_eq_false_iff_not]
  constructor
  · rintro h a b hab hb hm i j hij hj ⟨h1, h2⟩
    have h3 := (incr_get hl i (by omega)).2.2 j hij hj
    rcases h a (by omega) b ⟨by omega, by omega⟩ with h4 | h4
    · apply h4
      unfold manyIn
      exact count_of_two hij hj (by unfold inB; rw [Bool.and_eq_true, decide_eq_true_eq, decide_eq_true_eq]; omega) (by unfold inB; rw [Bool.and_eq_true, decide_eq_true_eq, decide_eq_true_eq]; omega)
    · rw [hm] at h4; cases h4
  · intro h a ha b hb
    by_cases hm : t.right a b = true
    · left
      intro h2
      unfold manyIn at h2
      obtain ⟨i, j, h3, h4, h5, h6⟩ := two_of_count h2
      unfold inB at h5 h6
      rw [Bool.and_eq_true, decide_eq_true_eq, decide_eq_true_eq] at h5 h6
      exact h a b (by omega) (by omega) hm i j h3 h4 ⟨h5.1, h6.2⟩
    · right; simpa using hm
/-- more words, or as many that come first -/
def betL (a b : List Int) : Prop := b.length < a.length ∨ (a.length = b.length ∧ lexB a b = true)
theorem betL_trans {a b c : List Int} (h1 : betL a b) (h2 : betL b c) : betL a c := by
  rcases h1 with h1 | ⟨h1, h1'⟩ <;> rcases h2 with h2 | ⟨h2, h2'⟩
  · exact .inl (by omega)
  · exact .inl (by omega)
  · exact .inl (by omega)
  · exact .inr ⟨by omega, lexB_trans h1 h2 h1' h2'⟩
theorem betL_irr {a : List Int} (h : betL a a) : False := by
  rcases h with h | ⟨_, h⟩
  · omega
  · rw [lexB_irr] at h; cases h
/-- the best of the lists that numbers less than k say -/
def BL (t : Text) (k : Nat) (b : List Int) : Prop := (b = [] ∨ (Incr 0 t.words.length b ∧ aloneB t b = true)) ∧ ∀ j, j < k → aloneB t (bits 0 j) = true → ¬ betL (bits 0 j) b
theorem BL.zero (t : Text) : BL t 0 [] := ⟨.inl rfl, fun j h => by omega⟩
theorem BL.skip {t : Text} {k : Nat} {b : List Int} (h : BL t k b) (hn : aloneB t (bits 0 k) = false) : BL t (k + 1) b :=
  ⟨h.1, fun j hj ha => by
    by_cases e : j = k
    · rw [e, hn] at ha; cases ha
    · exact h.2 j (by omega) ha⟩
theorem BL.keep {t : Text} {k : Nat} {b : List Int} (h : BL t k b) (hn : ¬ betL (bits 0 k) b) : BL t (k + 1) b :=
  ⟨h.1, fun j hj ha => by
    by_cases e : j = k
    · rw [e]; exact hn
    · exact h.2 j (by omega) ha⟩
theorem BL.take {t : Text} {k : Nat} {b : List Int} (h : BL t k b) (hk : k < 2 ^ t.words.length) (ha : aloneB t (bits 0 k) = true) (hb : betL (bits 0 k) b) : BL t (k + 1) (bits 0 k) :=
  ⟨.inr ⟨by have := bits_incr t.words.length 0 k hk; simpa using this, ha⟩, fun j hj hja hjb => by
    by_cases e : j = k
    · rw [e] at hjb; exact betL_irr hjb
    · exact h.2 j (by omega) hja (betL_trans hjb hb)⟩
theorem BL.last {t : Text} {b : List Int} (hn1 : 1 ≤ t.words.length) (hn : t.words.length ≤ 12) (h : BL t (2 ^ t.words.length) b) : b = loneR t.right t.words.length := by
  obtain ⟨s1, s2, s3, s4⟩ := loneR_spec t.right t.words.length hn1 hn
  obtain ⟨j, hj, e⟩ := bits_all t.words.length 0 _ (by simpa using s1)
  have h1 := h.2 j hj (by rw [e]; exact (aloneB_iff s1).2 s2)
  rw [e] at h1
  rcases h.1 with rfl | ⟨hi, ha⟩
  · exact absurd (.inl (by simp only [List.length_nil]; omega)) h1
  · by_cases hb : b = []
    · subst hb; exact absurd (.inl (by simp only [List.length_nil]; omega)) h1
    · rcases s4 b hi ((aloneB_iff hi).1 ha) hb with h2 | ⟨h2, h3 | h3⟩
      · exact absurd (.inl h2) h1
      · exact h3
      · exact absurd (.inr ⟨h2.symm, h3⟩) h1
end Go.Proofs.Ytadnggecnjdhiaa
set_option linter.unusedSimpArgs false
set_option linter.unusedVariables false
namespace Go.Proofs.Ytadnggecnjdhiaa
open Go.RowKit Tx

/-- a breath lets a mark gain more than one -/
def gainB (t : Text) (l : List Int) (a b : Nat) : Bool := t.right a b && decide (l.getD a 0 + 1 < l.getD b 0)
/-- none does, of those from the first a places; and from place a those to less than b -/
def okTo (t : Text) (l : List Int) (a : Nat) : Bool := (List.range a).all fun x => (List.range' (x + 1) (t.words.length - x)).all fun b => !gainB t l x b
def okRow (t : Text) (l : List Int) (a b : Nat) : Bool := (List.range' (a + 1) (b - (a + 1))).all fun c => !gainB t l a c
theorem okTo_zero (t : Text) (l : List Int) : okTo t l 0 = true := rfl
theorem okRow_zero (t : Text) (l : List Int) (a : Nat) : okRow t l a (a + 1) = true := by unfold okRow; rw [Nat.sub_self]; rfl
theorem okRow_succ (t : Text) (l : List Int) (a b : Nat) (h : a + 1 ≤ b) : okRow t l a (b + 1) = (okRow t l a b && !gainB t l a b) := by
  unfold okRow
  rw [show b + 1 - (a + 1) = (b - (a + 1)) + 1 by omega, List.range'_concat, List.all_append, show a + 1 + 1 * (b - (a + 1)) = b by omega]
  simp
theorem okTo_succ (t : Text) (l : List Int) (a : Nat) (h : a < t.words.length) : okTo t l (a + 1) = (okTo t l a && okRow t l a (t.words.length + 1)) := by
  unfold okTo okRow
  rw [List.range_succ, List.all_append, show t.words.length + 1 - (a + 1) = t.words.length - a by omega]
  simp
theorem padM_get (l : List Int) (k : Nat) (h : k < l.length) : (padM l).getD k 0 = l.getD k 0 := by
  unfold padM
  simp [List.getElem?_append, h]
theorem okTo_hold (t : Text) (l : List Int) (hn : t.words.length ≤ 12) (hl : l.length = t.words.length + 1) : ((l.getD 0 0 == 0) && okTo t l t.words.length) = holdB t.right t.words.length (padM l) := by
  unfold holdB
  rw [padM_get l 0 (by omega)]
  congr 1
  rw [Bool.eq_iff_iff, decide_eq_true_eq, lowered_iff _ _ _ (by simp [padM]; omega) hn]
  unfold okTo gainB NoGain
  simp only [List.all_eq_true, List.mem_range, List.mem_range'_1, Bool.not_eq_true', Bool.and_eq_false_iff, decide_eq_false_iff_not]
  constructor
  · intro h a b hab hb hm
    rcases h a (by omega) b ⟨by omega, by omega⟩ with h1 | h1
    · rw [hm] at h1; cases h1
    · rw [padM_get l a (by omega), padM_get l b (by omega)]; omega
  · intro h a ha b hb
    by_cases hm : t.right a b = true
    · right
      have := h a b (by omega) (by omega) hm
      rw [padM_get l a (by omega), padM_get l b (by omega)] at this; omega
    · left; simpa using hm
theorem kindI_right (t : Text) (a b : Nat) : decide (kindI t a b < 0) = t.right a b := by
  rw [Bool.eq_iff_iff, decide_eq_true_eq, ← kind_right]
  unfold kindI
  cases hk : kindOf t a b with
  | none => simp
  | some k =>
    simp only [Option.getD_some]
    constructor
    · intro h
      unfold kindOf at hk
      split at hk <;> (try split at hk) <;> (try split at hk) <;> simp at hk <;> omega
    · intro h; cases h
end Go.Proofs.Ytadnggecnjdhiaa
set_option linter.unusedSimpArgs false
set_option linter.unusedVariables false
namespace Go.Proofs.Ytadnggecnjdhiaa
open Go.RowKit Tx
attribute [local go_sem] Oper.semAt_some

/-- a list that a call returns, as it can be read -/
def RdRow (l : List Int) (w : World) (e : Ending) (w' : World) : Prop := ∃ p c, e = .returned (.slice p l.length c) ∧ Ints w' p l ∧ Below w.heap.size w w'
theorem inB_cases (a b : Nat) (x : Int) : inB a b x = (decide (x ≥ (a : Int)) && decide (x < (b : Int))) := rfl
set_option maxHeartbeats 8000000 in
set_option maxRecDepth 100000 in
theorem rLone_any (t : Text) (he : t.err = 0) (pw pt : Option Addr) (cw ct : Nat) (w : World) (hW : TxAt w t pw pt) :
    Calls Try.prog 40 #[.agg #[.slice pw t.words.length cw, .slice pt t.turns.length ct, .int .i64 t.breath]] w (RdRow (loneR t.right t.words.length) w) := by
  have ok := err_ok he
  have hn1 := ok.n1
  have hn12 := ok.n12
  have HOK := Lib.hid ok
  have HB := Lib.hid (below1 w (.cells #[.slice pw t.words.length cw, .slice pt t.turns.length ct, .int .i64 t.breath] 35))
  have HX := Lib.hid (heap_last w (.cells #[.slice pw t.words.length cw, .slice pt t.turns.length ct, .int .i64 t.breath] 35))
  have HW := Lib.hid hW
  have hz1 : (w.alloc (.cells #[.slice pw t.words.length cw, .slice pt t.turns.length ct, .int .i64 t.breath] 35)).heap.size = w.heap.size + 1 := by simp
  have hpow : 2 ^ t.words.length ≤ 4096 := by exact Nat.pow_le_pow_right (by omega) (show t.words.length ≤ 12 by omega)
  have HN := Lib.hid (fun W => listsN_any t hn12 pw cw (.slice pt t.turns.length ct) (.int .i64 t.breath) W)
  have HLAST := Lib.hid (fun b (h : BL t (2 ^ t.words.length) b) => BL.last hn1 hn12 h)
  have HTK := Lib.hid (fun k b (h : BL t k b) hk ha hb => BL.take h hk ha hb)
  have HINC : Hid (∀ k, k < 2 ^ t.words.length → (bits 0 k).length ≤ 12 ∧ ∀ x ∈ bits 0 k, 0 ≤ x ∧ x < t.words.length) := Lib.hid (fun n hn => by
    have h := bits_incr t.words.length 0 n hn
    rw [Nat.zero_add] at h
    refine ⟨?_, fun x hx => by have := h.bd x hx; omega⟩
    rcases h.len with h | h
    · omega
    · rw [h]; simp)
  obtain ⟨N, hNe⟩ : ∃ N, N = 2 ^ t.words.length := ⟨_, rfl⟩
  rw [← hNe] at hpow HN HLAST HTK HINC
  clear hW ok hNe
  go_enter Try.func40, Try.ntmps40
  go_wp2_with fail
  generalize w.alloc (.cells #[.slice pw t.words.length cw, .slice pt t.turns.length ct, .int .i64 t.breath] 35) = W1 at HB HX hz1 ⊢
  go_loopw [3, 4] (fun v i wr => ∃ (k : Nat) (b : List Int) (pb : Option Addr) (cb : Nat), k ≤ N ∧ i = .int .i64 k ∧ v = .slice pb b.length cb ∧ b.length ≤ 12 ∧ Hid (Ints wr pb b) ∧ Hid (BL t k b) ∧ Hid (Below W1.heap.size W1 wr)) (fun _ i _ => N - (intOf i).toNat)
  case atStart => exact ⟨0, [], none, 0, Nat.zero_le _, rfl, rfl, by simp, Lib.hid (.inl rfl), Lib.hid (BL.zero t), Lib.hid (Below.refl _ _)⟩
  case round => as_aux_lemma =>
    obtain ⟨w3, rfl⟩ : ∃ w3 : World, w3 = wr := ⟨_, rfl⟩
    obtain ⟨k, b, pb, cb, hk, rfl, rfl, hb12, HIB, HBL, HB3⟩ := hrel
    have hz3 := HB3.out.size
    have HX3 := Lib.hid ((HB3.out.block w.heap.size (by omega)).trans HX.out)
    obtain ⟨k0, k1, k2⟩ := blk3 HX3.out
    go_wp2_with fail
    refine (HN.out _).mono ?_
    rintro e w4 ⟨rfl, hB4⟩
    have HX4 := Lib.hid ((hB4.block w.heap.size (by omega)).trans HX3.out)
    have HIB4 := Lib.hid (HIB.out.below hB4)
    have HB4 := Lib.hid (join HB3.out hB4)
    have hz4 := hB4.size
    clear hB4 k0 k1 k2 HIB HX3
    obtain ⟨k0, k1, k2⟩ := blk3 HX4.out
    by_cases hlt : k < N
    · have hlt' : (k : Int) < (N : Int) := by omega
      obtain ⟨hl12, hlin⟩ := HINC.out k hlt
      go_wp2_with fail
      refine (list_any k (by omega) _).mono ?_
      rintro e w5 ⟨v, rfl, hown, hB5⟩
      obtain ⟨L, hLe⟩ : ∃ L, L = bits 0 k := ⟨_, rfl⟩
      rw [← hLe] at hown hl12 hlin
      have HLE := Lib.hid hLe
      obtain ⟨pl, cl, rfl, hIL, -, -⟩ := own_rd hown rfl
      have HIL := Lib.hid hIL
      have HX5 := Lib.hid ((hB5.block w.heap.size (by omega)).trans HX4.out)
      have HIB5 := Lib.hid (HIB4.out.below hB5)
      have HB5 := Lib.hid (join HB4.out hB5)
      have hz5 := hB5.size
      have HSK := Lib.hid (fun h => BL.skip HBL.out h)
      have HKP := Lib.hid (fun h => BL.keep HBL.out h)
      have HTK1 := Lib.hid (HTK.out k b HBL.out hlt)
      rw [← hLe] at HSK HKP HTK1
      clear hown hIL hB5 hLe k0 k1 k2 HIB4 HX4 hlin HBL
      obtain ⟨k0, k1, k2⟩ := blk3 HX5.out
      go_wp2_with fail
      go_loopw [6, 7] (fun h i wr => ∃ (a : Nat) (al : Bool), a ≤ t.words.length ∧ i = .int .i64 a ∧ h = .bool al ∧ Hid (al = aloneTo t L a) ∧ Hid (Below w5.heap.size w5 wr)) (fun _ i _ => t.words.length - (intOf i).toNat)
      case atStart => exact ⟨0, true, Nat.zero_le _, rfl, rfl, Lib.hid (aloneTo_zero t L).symm, Lib.hid (Below.refl _ _)⟩
      case round => as_aux_lemma =>
        clear k0 k1 k2
        obtain ⟨w6, rfl⟩ : ∃ w6 : World, w6 = wr := ⟨_, rfl⟩
        obtain ⟨a, al, ha, rfl, rfl, HAL, HB6⟩ := hrel
        have hz6 := HB6.out.size
        have HX6 := Lib.hid ((HB6.out.block w.heap.size (by omega)).trans HX5.out)
        obtain ⟨k0, k1, k2⟩ := blk3 HX6.out
        by_cases han : a < t.words.length
        · have han' : (a : Int) < t.words.length := by omega
          have HTO := Lib.hid (aloneTo_succ t L a han)
          go_wp2_with fail
          go_loopw [6, 8] (fun h i wr => ∃ (b : Nat) (ar : Bool), a + 1 ≤ b ∧ b ≤ t.words.length + 1 ∧ i = .int .i64 b ∧ h = .bool ar ∧ Hid (ar = (al && aloneRow t L a b)) ∧ Hid (Below w6.heap.size w6 wr)) (fun _ i _ => t.words.length + 1 - (intOf i).toNat)
          case atStart => exact ⟨a + 1, al, Nat.le_refl _, by omega, by go_num, rfl, Lib.hid (by rw [aloneRow_zero, Bool.and_true]), Lib.hid (Below.refl _ _)⟩
          case round => as_aux_lemma =>
            clear k0 k1 k2
            obtain ⟨w7, rfl⟩ : ∃ w7 : World, w7 = wr := ⟨_, rfl⟩
            obtain ⟨q, ar, haq, hqn, rfl, rfl, HAR, HB7⟩ := hrel
            have hz7 := HB7.out.size
            have HX7 := Lib.hid ((HB7.out.block w.heap.size (by omega)).trans HX6.out)
            obtain ⟨k0, k1, k2⟩ := blk3 HX7.out
            by_cases hql : q ≤ t.words.length
            · have hql' : (q : Int) ≤ t.words.length := by omega
              have HIL7 := Lib.hid (HIL.out.below (join HB6.out HB7.out))
              have HRS := Lib.hid (aloneRow_succ t L a q haq)
              go_wp2_with fail
              go_loopw [9, 10] (fun m i wr => ∃ (j : Nat), j ≤ L.length ∧ i = .int .i64 j ∧ m = .int .i64 ((manyIn (L.take j) a q : Nat) : Int) ∧ Hid (w7 = wr)) (fun _ i _ => L.length - (intOf i).toNat)
              case atStart => exact ⟨0, Nat.zero_le _, rfl, rfl, Lib.hid rfl⟩
              case round => as_aux_lemma =>
                obtain ⟨j, hj, rfl, rfl, HWR⟩ := hrel
                have hwr0 := HWR.out
                subst hwr0
                have hmle : manyIn (L.take j) a q ≤ 12 := by
                  have := List.countP_le_length (p := inB a q) (l := L.take j)
                  rw [List.length_take] at this
                  unfold manyIn; omega
                by_cases hjl : j < L.length
                · have hjl' : (j : Int) < L.length := by omega
                  obtain ⟨bl, ol, x, rfl, hbl, hxx, hcx⟩ := HIL7.out.at hjl
                  have HMS := Lib.hid (manyIn_snoc L a q j hjl)
                  rw [← hxx, inB_cases] at HMS
                  obtain ⟨mm, hmm⟩ : ∃ mm, mm = manyIn (L.take j) a q := ⟨_, rfl⟩
                  rw [← hmm] at hmle HMS ⊢
                  clear hxx hmm
                  by_cases h1 : x ≥ (a : Int)
                  · by_cases h2 : x < (q : Int)
                    · have HM2 : Hid (manyIn (L.take (j + 1)) a q = mm + 1) := Lib.hid (by rw [HMS.out, decide_eq_true h1, decide_eq_true h2]; rfl)
                      go_wp2
                      go_roundw
                      case rel => exact ⟨j + 1, by omega, by go_num, by rw [HM2.out]; go_num, (by first | trivial | exact Lib.hid rfl)⟩
                      case measure => simp [intOf]; omega
                    · have HM2 : Hid (manyIn (L.take (j + 1)) a q = mm) := Lib.hid (by rw [HMS.out, decide_eq_true h1, decide_eq_false h2]; rfl)
                      go_wp2
                      go_roundw
                      case rel => exact ⟨j + 1, by omega, by go_num, by rw [HM2.out], (by first | trivial | exact Lib.hid rfl)⟩
                      case measure => simp [intOf]; omega
                  · have HM2 : Hid (manyIn (L.take (j + 1)) a q = mm) := Lib.hid (by rw [HMS.out, decide_eq_false h1]; rfl)
                    go_wp2
                    go_roundw
                    case rel => exact ⟨j + 1, by omega, by go_num, by rw [HM2.out], (by first | trivial | exact Lib.hid rfl)⟩
                    case measure => simp [intOf]; omega
                · have hje : j = L.length := by omega
                  subst hje
                  have HBD : Hid (badB t L a q = (decide (1 < manyIn (L.take L.length) a q) && t.right a q)) := Lib.hid (by rw [List.take_length]; rfl)
                  obtain ⟨mm, hmm⟩ : ∃ mm, mm = manyIn (L.take L.length) a q := ⟨_, rfl⟩
                  rw [← hmm] at hmle HBD ⊢
                  clear hmm hjl hj
                  by_cases hm1 : mm > 1
                  · have hm1' : (mm : Int) > 1 := by omega
                    cases ar with
                    | true =>
                      have HFT := Lib.hid (Fault_any t HOK.out a q (by omega) hql pw pt cw ct _ (HW.out.below (join HB.out (join HB5.out (join HB6.out HB7.out)))))
                      have hki0 := kindI_right t a q
                      obtain ⟨ki, hkie⟩ : ∃ ki, ki = kindI t a q := ⟨_, rfl⟩
                      rw [← hkie] at HFT hki0
                      clear hkie
                      go_wp2_with fail
                      refine HFT.out.mono ?_
                      rintro e w8 ⟨rfl, hB8⟩
                      have HB8 := Lib.hid (join HB7.out hB8)
                      clear hB8
                      cases hrt : t.right a q with
                      | true =>
                        rw [hrt, decide_eq_true_eq] at hki0
                        have HNX : Hid (false = (al && aloneRow t L a (q + 1))) := Lib.hid (by rw [HRS.out, HBD.out, hrt, decide_eq_true hm1]; simp)
                        clear hrt
                        go_wp2
                        go_roundw
                        case rel => exact ⟨q + 1, false, by omega, by omega, by go_num, rfl, HNX, HB8⟩
                        case measure => simp [intOf]; omega
                      | false =>
                        rw [hrt, decide_eq_false_iff_not] at hki0
                        have HNX : Hid (true = (al && aloneRow t L a (q + 1))) := Lib.hid (by rw [HRS.out, HBD.out, hrt]; simpa using HAR.out)
                        clear hrt
                        go_wp2
                        go_roundw
                        case rel => exact ⟨q + 1, true, by omega, by omega, by go_num, rfl, HNX, HB8⟩
                        case measure => simp [intOf]; omega
                    | false =>
                      have HNX : Hid (false = (al && aloneRow t L a (q + 1))) := Lib.hid (by rw [HRS.out, ← Bool.and_assoc, ← HAR.out]; rfl)
                      go_wp2
                      go_roundw
                      case rel => exact ⟨q + 1, false, by omega, by omega, by go_num, rfl, HNX, HB7⟩
                      case measure => simp [intOf]; omega
                  · have hm1' : ¬ (mm : Int) > 1 := by omega
                    have HNX : Hid (ar = (al && aloneRow t L a (q + 1))) := Lib.hid (by rw [HRS.out, HBD.out, decide_eq_false (by omega : ¬ 1 < mm)]; simpa using HAR.out)
                    go_wp2
                    go_roundw
                    case rel => exact ⟨q + 1, ar, by omega, by omega, by go_num, rfl, HNX, HB7⟩
                    case measure => simp [intOf]; omega
            · have hqe : q = t.words.length + 1 := by omega
              have HNX : Hid (ar = aloneTo t L (a + 1)) := Lib.hid (by rw [HAR.out, HAL.out, HTO.out, hqe])
              clear hqe
              go_wp2
              go_roundw
              case rel => exact ⟨a + 1, ar, by omega, by go_num, rfl, HNX, Lib.hid (join HB6.out HB7.out)⟩
              case measure => simp [intOf]; omega
        · have hae : a = t.words.length := by omega
          have HAB : Hid (al = aloneB t L) := Lib.hid (by rw [HAL.out, hae]; rfl)
          have HIL6 := Lib.hid (HIL.out.below HB6.out)
          have HIB6 := Lib.hid (HIB5.out.below HB6.out)
          have HB6w := Lib.hid (join HB5.out HB6.out)
          clear hae HAL
          cases al with
          | false =>
            have HNX := Lib.hid (HSK.out HAB.out.symm)
            go_wp2
            go_roundw
            case rel => exact ⟨k + 1, b, pb, cb, by omega, by go_num, rfl, hb12, HIB6, HNX, HB6w⟩
            case measure => simp [intOf]; omega
          | true =>
            by_cases hg : b.length < L.length
            · have hg' : (L.length : Int) > (b.length : Int) := by omega
              have HNX := Lib.hid (HTK1.out HAB.out.symm (.inl hg))
              go_wp2
              go_roundw
              case rel => exact ⟨k + 1, L, pl, cl, by omega, by go_num, rfl, hl12, HIL6, HNX, HB6w⟩
              case measure => simp [intOf]; omega
            · have hg' : ¬ (L.length : Int) > (b.length : Int) := by omega
              by_cases hge : L.length = b.length
              · have hge' : ((L.length : Int) == (b.length : Int)) = true := by rw [hge]; simp
                have HBF := Lib.hid (before_any2 L b hge (by omega) pl pb cl cb w6 HIL6.out HIB6.out)
                have HTL := Lib.hid (fun (h : lexB L b = true) => HTK1.out HAB.out.symm (.inr ⟨hge, h⟩))
                have HKL := Lib.hid (fun (h : lexB L b = false) => HKP.out (fun hb => by
                  rcases hb with h1 | ⟨_, h1⟩
                  · omega
                  · rw [h] at h1; cases h1))
                have HGE := Lib.hid hge
                clear hge
                go_wp2_with fail
                refine HBF.out.mono ?_
                rintro e w9 ⟨rfl, hB9⟩
                have HIL9 := Lib.hid (HIL6.out.below hB9)
                have HIB9 := Lib.hid (HIB6.out.below hB9)
                have HB9 := Lib.hid (join HB6w.out hB9)
                clear hB9
                cases hlx : lexB L b with
                | true =>
                  have HNX := Lib.hid (HTL.out hlx)
                  clear hlx
                  go_wp2
                  go_roundw
                  case rel => exact ⟨k + 1, L, pl, cl, by omega, by go_num, rfl, hl12, HIL9, HNX, HB9⟩
                  case measure => simp [intOf]; omega
                | false =>
                  have HNX := Lib.hid (HKL.out hlx)
                  clear hlx
                  go_wp2
                  go_roundw
                  case rel => exact ⟨k + 1, b, pb, cb, by omega, by go_num, rfl, hb12, HIB9, HNX, HB9⟩
                  case measure => simp [intOf]; omega
              · have hge' : ((L.length : Int) == (b.length : Int)) = false := by rw [beq_eq_false_iff_ne]; omega
                have hge2 : ¬ (L.length : Int) = (b.length : Int) := by omega
                have HNX := Lib.hid (HKP.out (fun hb => by rcases hb with h1 | ⟨h1, _⟩ <;> omega))
                go_wp2
                go_roundw
                case rel => exact ⟨k + 1, b, pb, cb, by omega, by go_num, rfl, hb12, HIB6, HNX, HB6w⟩
                case measure => simp [intOf]; omega
    · have hke : k = N := by omega
      have HFIN : Hid (b = loneR t.right t.words.length) := Lib.hid (HLAST.out b (by rw [← hke]; exact HBL.out))
      clear hke
      go_wp2
      go_ret
      exact ⟨pb, cb, by rw [← HFIN.out]; rfl, by rw [← HFIN.out]; exact HIB4.out, join HB.out HB4.out⟩
end Go.Proofs.Ytadnggecnjdhiaa
set_option linter.unusedSimpArgs false
set_option linter.unusedVariables false
namespace Go.Proofs.Ytadnggecnjdhiaa
open Go.RowKit Tx
attribute [local go_sem] Oper.semAt_some

def spRh1 (tv : Value) (gl ol n cl a b : Nat) (ki ma mb : Int) (g : Bool) : Nat → List Value → Value → World → Prop
  | 0, _, v, _ => v = tv
  | 1, _, v, _ => v = .int .i64 (a : Int)
  | 2, _, v, _ => v = .int .i64 (b : Int)
  | 3, _, v, _ => v = .int .i64 ki
  | 4, _, v, _ => v = .bool true
  | 5, _, v, _ => v = .bool true
  | 6, _, v, _ => v = .slice (some ⟨gl, ol, none⟩) n cl
  | 7, _, v, _ => v = .int .i64 (b : Int)
  | 8, _, v, _ => v = .pointer (some ⟨gl, ol + b, none⟩)
  | 9, _, v, _ => v = .int .i64 mb
  | 10, _, v, _ => v = .slice (some ⟨gl, ol, none⟩) n cl
  | 11, _, v, _ => v = .int .i64 (a : Int)
  | 12, _, v, _ => v = .pointer (some ⟨gl, ol + a, none⟩)
  | 13, _, v, _ => v = .int .i64 ma
  | 14, _, v, _ => v = .int .i64 (ma + 1)
  | 15, _, v, _ => v = .bool g
  | 16, _, v, _ => v = .bool g
  | _, _, _, _ => False
theorem spRh1_stable (tv : Value) (gl ol n cl a b : Nat) (ki ma mb : Int) (g : Bool) : ∀ i L v w w', spRh1 tv gl ol n cl a b ki ma mb g i L v w → Rs.Gr w w' → spRh1 tv gl ol n cl a b ki ma mb g i L v w' := by
  intro i L v w w' h hg
  match i with
  | 0 => exact h
  | 1 => exact h
  | 2 => exact h
  | 3 => exact h
  | 4 => exact h
  | 5 => exact h
  | 6 => exact h
  | 7 => exact h
  | 8 => exact h
  | 9 => exact h
  | 10 => exact h
  | 11 => exact h
  | 12 => exact h
  | 13 => exact h
  | 14 => exact h
  | 15 => exact h
  | 16 => exact h
def spRh0 (tv : Value) (gl ol n cl a b : Nat) (ki ma mb : Int) (g : Bool) : Nat → List Value → Value → World → Prop
  | 0, _, v, _ => v = tv
  | 1, _, v, _ => v = .int .i64 (a : Int)
  | 2, _, v, _ => v = .int .i64 (b : Int)
  | 3, _, v, _ => v = .int .i64 ki
  | 4, _, v, _ => v = .bool false
  | 5, _, v, _ => v = .bool false
  | 6, _, v, _ => v = undef
  | 7, _, v, _ => v = undef
  | 8, _, v, _ => v = undef
  | 9, _, v, _ => v = undef
  | 10, _, v, _ => v = undef
  | 11, _, v, _ => v = undef
  | 12, _, v, _ => v = undef
  | 13, _, v, _ => v = undef
  | 14, _, v, _ => v = undef
  | 15, _, v, _ => v = undef
  | 16, _, v, _ => v = .bool false
  | _, _, _, _ => False
theorem spRh0_stable (tv : Value) (gl ol n cl a b : Nat) (ki ma mb : Int) (g : Bool) : ∀ i L v w w', spRh0 tv gl ol n cl a b ki ma mb g i L v w → Rs.Gr w w' → spRh0 tv gl ol n cl a b ki ma mb g i L v w' := by
  intro i L v w w' h hg
  match i with
  | 0 => exact h
  | 1 => exact h
  | 2 => exact h
  | 3 => exact h
  | 4 => exact h
  | 5 => exact h
  | 6 => exact h
  | 7 => exact h
  | 8 => exact h
  | 9 => exact h
  | 10 => exact h
  | 11 => exact h
  | 12 => exact h
  | 13 => exact h
  | 14 => exact h
  | 15 => exact h
  | 16 => exact h
set_option maxHeartbeats 8000000 in
set_option maxRecDepth 100000 in
theorem rShows_any (t : Text) (l : List Int) (hl1 : t.words.length ≤ 1000000) (hl2 : t.turns.length ≤ 1000000) (hll : l.length ≤ 100000) (pw pt pl : Option Addr) (cw ct cl : Nat) (w : World) (hW : TxAt w t pw pt) (hL : Ints w pl l) :
    Calls Try.prog 37 #[.agg #[.slice pw t.words.length cw, .slice pt t.turns.length ct, .int .i64 t.breath], .slice pl l.length cl] w fun e w' =>
      e = .returned (.tuple #[.int .i64 (shows t l).1, .int .i64 (shows t l).2]) ∧ Below w.heap.size w w' := by
  have HC := Lib.hid (fun W (h : Below w.heap.size w W) => rCheck_any t hl1 hl2 pw pt cw ct W (hW.below h))
  have HB := Lib.hid (below1 w (.cells #[.slice pw t.words.length cw, .slice pt t.turns.length ct, .int .i64 t.breath] 35))
  have HX := Lib.hid (heap_last w (.cells #[.slice pw t.words.length cw, .slice pt t.turns.length ct, .int .i64 t.breath] 35))
  have HW := Lib.hid hW
  have HLI := Lib.hid hL
  have hz1 : (w.alloc (.cells #[.slice pw t.words.length cw, .slice pt t.turns.length ct, .int .i64 t.breath] 35)).heap.size = w.heap.size + 1 := by simp
  obtain ⟨k0, k1, k2⟩ := blk3 HX.out
  clear hW hL
  go_enter Try.func37, Try.ntmps37
  go_wp2_with fail
  refine (HC.out _ HB.out).mono ?_
  rintro e w5 ⟨rfl, hB5⟩
  have HX5 := Lib.hid ((hB5.block w.heap.size (by omega)).trans HX.out)
  have HB5 := Lib.hid (join HB.out hB5)
  have hz5 : w.heap.size < w5.heap.size := by have := hB5.size; omega
  clear hB5 k0 k1 k2 HX HB HC hz1
  obtain ⟨k0, k1, k2⟩ := blk3 HX5.out
  by_cases he : t.err = 0
  · have ok := err_ok he
    have hn1 := ok.n1
    have hn12 := ok.n12
    have HE := Lib.hid he
    have HOK := Lib.hid ok
    rw [he]
    clear he ok
    by_cases hlen : l.length = t.words.length + 1
    · have hlen1 : ((l.length : Int) != (t.words.length : Int) + 1) = false := by rw [hlen]; simp
      have HLEN := Lib.hid hlen
      rcases HLI.out with h0 | ⟨gl, ol, rfl, hgl0, hlc⟩
      · rw [h0] at hlen; simp at hlen
      have HLC := Lib.hid (show ∀ i, i < l.length → w5.cell? ⟨gl, ol + i, none⟩ = some (.int .i64 (l.getD i 0)) from fun i hi => (HB5.out.cell (p := ⟨gl, ol + i, none⟩) hgl0).trans (hlc i hi))
      have hgl5 : gl < w5.heap.size := by have := HB5.out.size; omega
      clear hlc hlen HLI
      go_wp2_with fail
      clear hlen1
      go_loopw [7] (fun i wr => ∃ k : Nat, k ≤ l.length ∧ i = .int .i64 k ∧ Hid (∀ j, j < k → btw (l.getD j 0) 0 99 = true) ∧ Hid (w5 = wr)) (fun i _ => l.length - (intOf i).toNat)
      case atStart => exact ⟨0, Nat.zero_le _, rfl, Lib.hid (fun j hj => absurd hj (Nat.not_lt_zero _)), Lib.hid rfl⟩
      case round => as_aux_lemma =>
        obtain ⟨k, hk, rfl, HJ, HWR⟩ := hrel
        have hwr0 := HWR.out
        subst hwr0
        by_cases hlt : k < l.length
        · have hlt' : (k : Int) < l.length := by omega
          have hck := HLC.out k hlt
          obtain ⟨x, hx⟩ : ∃ x, x = l.getD k 0 := ⟨_, rfl⟩
          rw [← hx] at hck
          have HXE := Lib.hid hx
          clear hx
          go_wp2_with fail
          refine (off_any _ _ _ _).mono ?_
          rintro e w6 ⟨rfl, rfl⟩
          cases hb : btw x 0 99 with
          | false =>
            have HSH : Hid (shows t l = (0, 3)) := Lib.hid (by
              unfold shows
              rw [if_neg (by simp [HE.out]), if_neg (by have := HLEN.out; omega), if_pos (List.any_eq_true.2 ⟨l.getD k 0, getD_mem 0 hlt, by rw [← HXE.out, hb]; rfl⟩)])
            clear hb
            go_wp2
            go_ret2
            exact ⟨by rw [HSH.out]; rfl, HB5.out⟩
          | true =>
            have HJ2 : Hid (∀ j, j < k + 1 → btw (l.getD j 0) 0 99 = true) := Lib.hid (fun j hj => by
              by_cases hjk : j = k
              · rw [hjk, ← HXE.out]; exact hb
              · exact HJ.out j (by omega))
            clear hb
            go_wp2
            go_roundw
            case rel => exact ⟨k + 1, by omega, by go_num, HJ2, (by first | trivial | exact Lib.hid rfl)⟩
            case measure => simp [intOf]; omega
        · obtain rfl : k = l.length := by omega
          have HSH : Hid (shows t l = if ((l.getD 0 0 == 0) && okTo t l t.words.length) = false then (0, 8) else (l.getD t.words.length 0, 0)) := Lib.hid (by
            unfold shows
            rw [if_neg (by simp [HE.out]), if_neg (by have := HLEN.out; omega), if_neg (by
              intro h
              obtain ⟨x, hx, hb⟩ := List.any_eq_true.1 h
              obtain ⟨i, hi, rfl⟩ := List.mem_iff_getElem.1 hx
              have := HJ.out i hi
              rw [show l.getD i 0 = l[i] by simp [hi]] at this
              rw [this] at hb; cases hb), okTo_hold t l hn12 HLEN.out])
          have HBD := Lib.hid (show ∀ i, i < l.length → 0 ≤ l.getD i 0 ∧ l.getD i 0 ≤ 99 from fun i hi => btw_true (HJ.out i hi))
          have hc0 := HLC.out 0 (by have := HLEN.out; omega)
          rw [Nat.add_zero] at hc0
          have h0l : (0 : Int) < (l.length : Int) := by have := HLEN.out; omega
          obtain ⟨z, hz⟩ : ∃ z, z = l.getD 0 0 := ⟨_, rfl⟩
          rw [← hz] at hc0 HSH
          clear hlt hk hz HJ
          go_wp2_with fail
          clear hc0 h0l
          go_loopw [8, 9] (fun h i wr => ∃ (a : Nat) (hb : Bool), a ≤ t.words.length ∧ i = .int .i64 a ∧ h = .bool hb ∧ Hid (hb = ((z == 0) && okTo t l a)) ∧ Hid (Below w5.heap.size w5 wr)) (fun _ i _ => t.words.length - (intOf i).toNat)
          case atStart => exact ⟨0, _, Nat.zero_le _, rfl, rfl, Lib.hid (by rw [okTo_zero, Bool.and_true]), Lib.hid (Below.refl _ _)⟩
          case round => as_aux_lemma =>
            clear k0 k1 k2
            obtain ⟨wb, rfl⟩ : ∃ wb : World, wb = wr := ⟨_, rfl⟩
            obtain ⟨a, hb, ha, rfl, rfl, HHB, HBb⟩ := hrel
            have hzb := HBb.out.size
            have HXb := Lib.hid ((HBb.out.block w.heap.size hz5).trans HX5.out)
            obtain ⟨k0, k1, k2⟩ := blk3 HXb.out
            by_cases han : a < t.words.length
            · have han' : (a : Int) < t.words.length := by omega
              have HTO := Lib.hid (okTo_succ t l a han)
              go_wp2_with fail
              go_loopw [8, 10] (fun h i wr => ∃ (b : Nat) (hc : Bool), a + 1 ≤ b ∧ b ≤ t.words.length + 1 ∧ i = .int .i64 b ∧ h = .bool hc ∧ Hid (hc = (hb && okRow t l a b)) ∧ Hid (Below wb.heap.size wb wr)) (fun _ i _ => t.words.length + 1 - (intOf i).toNat)
              case atStart => exact ⟨a + 1, hb, Nat.le_refl _, by omega, by go_num, rfl, Lib.hid (by rw [okRow_zero, Bool.and_true]), Lib.hid (Below.refl _ _)⟩
              case round => as_aux_lemma =>
                clear k0 k1 k2
                obtain ⟨wc, rfl⟩ : ∃ wc : World, wc = wr := ⟨_, rfl⟩
                obtain ⟨b, hc, hab, hbn, rfl, rfl, HHC, HBc⟩ := hrel
                have hzc := HBc.out.size
                have HTX := Lib.hid ((HBc.out.block w.heap.size (by omega)).trans HXb.out)
                obtain ⟨k0, k1, k2⟩ := blk3 HTX.out
                by_cases hble : b ≤ t.words.length
                · have hble' : (b : Int) ≤ t.words.length := by omega
                  have HBw := Lib.hid (join HBb.out HBc.out)
                  have hTl : w.heap.size < wc.heap.size := by omega
                  have hgl : gl < wc.heap.size := by omega
                  have hlen := HLEN.out
                  have HFT := Lib.hid (fun W (h : Below wc.heap.size wc W) => Fault_any t HOK.out a b (by omega) hble pw pt cw ct W (HW.out.below (join HB5.out (join HBw.out h))))
                  have HCA := Lib.hid ((HBw.out.cell (p := ⟨gl, ol + a, none⟩) hgl5).trans (HLC.out a (by omega)))
                  have HCB := Lib.hid ((HBw.out.cell (p := ⟨gl, ol + b, none⟩) hgl5).trans (HLC.out b (by omega)))
                  have hbd := HBD.out a (by omega)
                  have hrow := okRow_succ t l a b hab
                  have hki0 := kindI_right t a b
                  unfold gainB at hrow
                  obtain ⟨ma, hma⟩ : ∃ ma, ma = l.getD a 0 := ⟨_, rfl⟩
                  obtain ⟨mb, hmb⟩ : ∃ mb, mb = l.getD b 0 := ⟨_, rfl⟩
                  obtain ⟨ki, hkie⟩ : ∃ ki, ki = kindI t a b := ⟨_, rfl⟩
                  rw [← hma] at HCA hbd hrow
                  rw [← hmb] at HCB hrow
                  rw [← hkie] at HFT hki0
                  have HROW := Lib.hid hrow
                  have hia : (a : Int) < (l.length : Int) := by omega
                  have hib : (b : Int) < (l.length : Int) := by omega
                  have hwr : IntKind.i64.wrap (ma + 1) = ma + 1 := IntWalk.i64_in _ (by omega)
                  have hwr2 : wrap64 (ma + 1) = ma + 1 := by unfold wrap64; omega
                  clear hma hmb hkie hrow hlen hbd
                  cases hrt : t.right a b with
                  | true =>
                    rw [hrt, decide_eq_true_eq] at hki0
                    have hki : ki < 0 := hki0
                    have HRW : Hid (okRow t l a (b + 1) = (okRow t l a b && !decide (ma + 1 < mb))) := Lib.hid (by rw [HROW.out, hrt, Bool.true_and])
                    clear hki0 hrt HROW
                    obtain ⟨gt, hgte⟩ : ∃ gt, gt = decide (ma + 1 < mb) := ⟨_, rfl⟩
                    rw [← hgte] at HRW
                    have hgt : decide (mb > ma + 1) = gt := hgte.symm
                    have hgt2 : decide (ma + 1 < mb) = gt := hgte.symm
                    clear hgte
                    go_wp2_with fail
                    refine Rs.region_gen 17 [[], [], [], [0, 1, 2], [0, 1, 2, 3], [0, 1, 2, 3, 4], [0, 1, 2, 3, 4, 5], [0, 1, 2, 3, 4, 5], [0, 1, 2, 3, 4, 5, 6, 7], [0, 1, 2, 3, 4, 5, 6, 7, 8], [0, 1, 2, 3, 4, 5], [0, 1, 2, 3, 4, 5], [0, 1, 2, 3, 4, 5, 10, 11], [0, 1, 2, 3, 4, 5, 10, 11, 12], [0, 1, 2, 3, 4, 5, 10, 11, 12, 13], [0, 1, 2, 3, 4, 5, 6, 7, 8, 9, 10, 11, 12, 13, 14], [0, 1, 2, 3, 4, 5, 6, 7, 8, 9, 10, 11, 12, 13, 14, 15]] [some 54, some 55, some 56, some 57, some 58, some 59, some 60, some 61, some 62, some 63, some 64, some 65, some 66, some 67, some 68, some 69, some 70] (spRh1 (.agg #[.slice pw t.words.length cw, .slice pt t.turns.length ct, .int .i64 t.breath]) gl ol l.length cl a b ki ma mb gt) (by kernel_rfl) (by kernel_rfl) rfl (spRh1_stable _ _ _ _ _ _ _ _ _ _ _) ?_ ?_
                    · refine ⟨fun V w' hG hs => ?_, fun V w' hG hs => ?_, fun V w' hG hs => ?_, fun V w' hG hs => ?_, fun V w' hG hs => ?_, fun V w' hG hs => ?_, fun V w' hG hs => ?_, fun V w' hG hs => ?_, fun V w' hG hs => ?_, fun V w' hG hs => ?_, fun V w' hG hs => ?_, fun V w' hG hs => ?_, fun V w' hG hs => ?_, fun V w' hG hs => ?_, fun V w' hG hs => ?_, fun V w' hG hs => ?_, fun V w' hG hs => ?_, trivial⟩
                      all_goals
                        obtain ⟨k0, k1, k2⟩ := blk3 ((hG.block w.heap.size hTl).trans HTX.out)
                        have hca := (hG.cell (p := ⟨gl, ol + a, none⟩) hgl).trans HCA.out
                        have hcb := (hG.cell (p := ⟨gl, ol + b, none⟩) hgl).trans HCB.out
                      · rw [if_pos (by rfl)]
                        exact Rs.GrowL.value (v := (.agg #[.slice pw t.words.length cw, .slice pt t.turns.length ct, .int .i64 t.breath])) (w' := w') (by simp [go_sem, Rs.look, k0, k1, k2]) (Rs.Gr.refl _) rfl
                      · rw [if_pos (by rfl)]
                        exact Rs.GrowL.value (v := .int .i64 (a : Int)) (w' := w') (by simp [go_sem, Rs.look]) (Rs.Gr.refl _) rfl
                      · rw [if_pos (by rfl)]
                        exact Rs.GrowL.value (v := .int .i64 (b : Int)) (w' := w') (by simp [go_sem, Rs.look]) (Rs.Gr.refl _) rfl
                      · have e0 : V 0 = (.agg #[.slice pw t.words.length cw, .slice pt t.turns.length ct, .int .i64 t.breath]) := hs 0 (by simp)
                        have e1 : V 1 = .int .i64 (a : Int) := hs 1 (by simp)
                        have e2 : V 2 = .int .i64 (b : Int) := hs 2 (by simp)
                        rw [if_pos (by rfl)]
                        refine Rs.GrowL.call (f := 97) (args := #[.agg #[.slice pw t.words.length cw, .slice pt t.turns.length ct, .int .i64 t.breath], .int .i64 (a : Int), .int .i64 (b : Int)]) (by simp [go_sem, Rs.look, e0, e1, e2]) ?_
                        refine (HFT.out w' hG).mono ?_
                        rintro e w2 ⟨rfl, hB2⟩
                        exact ⟨_, rfl, hB2, rfl⟩
                      · have e0 : V 0 = (.agg #[.slice pw t.words.length cw, .slice pt t.turns.length ct, .int .i64 t.breath]) := hs 0 (by simp)
                        have e1 : V 1 = .int .i64 (a : Int) := hs 1 (by simp)
                        have e2 : V 2 = .int .i64 (b : Int) := hs 2 (by simp)
                        have e3 : V 3 = .int .i64 ki := hs 3 (by simp)
                        rw [if_pos (by rfl)]
                        exact Rs.GrowL.value (v := .bool true) (w' := w') (by simp [go_sem, Rs.look, e0, e1, e2, e3, hki]) (Rs.Gr.refl _) rfl
                      · have e0 : V 0 = (.agg #[.slice pw t.words.length cw, .slice pt t.turns.length ct, .int .i64 t.breath]) := hs 0 (by simp)
                        have e1 : V 1 = .int .i64 (a : Int) := hs 1 (by simp)
                        have e2 : V 2 = .int .i64 (b : Int) := hs 2 (by simp)
                        have e3 : V 3 = .int .i64 ki := hs 3 (by simp)
                        have e4 : V 4 = .bool true := hs 4 (by simp)
                        rw [if_pos (by rfl)]
                        exact Rs.GrowL.value (v := .bool true) (w' := w') (by simp [go_sem, Rs.look, e0, e1, e2, e3, e4]) (Rs.Gr.refl _) rfl
                      · have e0 : V 0 = (.agg #[.slice pw t.words.length cw, .slice pt t.turns.length ct, .int .i64 t.breath]) := hs 0 (by simp)
                        have e1 : V 1 = .int .i64 (a : Int) := hs 1 (by simp)
                        have e2 : V 2 = .int .i64 (b : Int) := hs 2 (by simp)
                        have e3 : V 3 = .int .i64 ki := hs 3 (by simp)
                        have e4 : V 4 = .bool true := hs 4 (by simp)
                        have e5 : V 5 = .bool true := hs 5 (by simp)
                        rw [if_pos (by simp [Rs.wantB, e5])]
                        exact Rs.GrowL.value (v := .slice (some ⟨gl, ol, none⟩) l.length cl) (w' := w') (by simp [go_sem, Rs.look, e0, e1, e2, e3, e4, e5]) (Rs.Gr.refl _) rfl
                      · have e0 : V 0 = (.agg #[.slice pw t.words.length cw, .slice pt t.turns.length ct, .int .i64 t.breath]) := hs 0 (by simp)
                        have e1 : V 1 = .int .i64 (a : Int) := hs 1 (by simp)
                        have e2 : V 2 = .int .i64 (b : Int) := hs 2 (by simp)
                        have e3 : V 3 = .int .i64 ki := hs 3 (by simp)
                        have e4 : V 4 = .bool true := hs 4 (by simp)
                        have e5 : V 5 = .bool true := hs 5 (by simp)
                        rw [if_pos (by simp [Rs.wantB, e5])]
                        exact Rs.GrowL.value (v := .int .i64 (b : Int)) (w' := w') (by simp [go_sem, Rs.look, e0, e1, e2, e3, e4, e5]) (Rs.Gr.refl _) rfl
                      · have e0 : V 0 = (.agg #[.slice pw t.words.length cw, .slice pt t.turns.length ct, .int .i64 t.breath]) := hs 0 (by simp)
                        have e1 : V 1 = .int .i64 (a : Int) := hs 1 (by simp)
                        have e2 : V 2 = .int .i64 (b : Int) := hs 2 (by simp)
                        have e3 : V 3 = .int .i64 ki := hs 3 (by simp)
                        have e4 : V 4 = .bool true := hs 4 (by simp)
                        have e5 : V 5 = .bool true := hs 5 (by simp)
                        have e6 : V 6 = .slice (some ⟨gl, ol, none⟩) l.length cl := hs 6 (by simp)
                        have e7 : V 7 = .int .i64 (b : Int) := hs 7 (by simp)
                        rw [if_pos (by simp [Rs.wantB, e5])]
                        exact Rs.GrowL.value (v := .pointer (some ⟨gl, ol + b, none⟩)) (w' := w') (by simp [go_sem, Rs.look, e0, e1, e2, e3, e4, e5, e6, e7, hib]) (Rs.Gr.refl _) rfl
                      · have e0 : V 0 = (.agg #[.slice pw t.words.length cw, .slice pt t.turns.length ct, .int .i64 t.breath]) := hs 0 (by simp)
                        have e1 : V 1 = .int .i64 (a : Int) := hs 1 (by simp)
                        have e2 : V 2 = .int .i64 (b : Int) := hs 2 (by simp)
                        have e3 : V 3 = .int .i64 ki := hs 3 (by simp)
                        have e4 : V 4 = .bool true := hs 4 (by simp)
                        have e5 : V 5 = .bool true := hs 5 (by simp)
                        have e6 : V 6 = .slice (some ⟨gl, ol, none⟩) l.length cl := hs 6 (by simp)
                        have e7 : V 7 = .int .i64 (b : Int) := hs 7 (by simp)
                        have e8 : V 8 = .pointer (some ⟨gl, ol + b, none⟩) := hs 8 (by simp)
                        rw [if_pos (by simp [Rs.wantB, e5])]
                        exact Rs.GrowL.value (v := .int .i64 mb) (w' := w') (by simp [go_sem, Rs.look, e0, e1, e2, e3, e4, e5, e6, e7, e8, hcb]) (Rs.Gr.refl _) rfl
                      · have e0 : V 0 = (.agg #[.slice pw t.words.length cw, .slice pt t.turns.length ct, .int .i64 t.breath]) := hs 0 (by simp)
                        have e1 : V 1 = .int .i64 (a : Int) := hs 1 (by simp)
                        have e2 : V 2 = .int .i64 (b : Int) := hs 2 (by simp)
                        have e3 : V 3 = .int .i64 ki := hs 3 (by simp)
                        have e4 : V 4 = .bool true := hs 4 (by simp)
                        have e5 : V 5 = .bool true := hs 5 (by simp)
                        rw [if_pos (by simp [Rs.wantB, e5])]
                        exact Rs.GrowL.value (v := .slice (some ⟨gl, ol, none⟩) l.length cl) (w' := w') (by simp [go_sem, Rs.look, e0, e1, e2, e3, e4, e5]) (Rs.Gr.refl _) rfl
                      · have e0 : V 0 = (.agg #[.slice pw t.words.length cw, .slice pt t.turns.length ct, .int .i64 t.breath]) := hs 0 (by simp)
                        have e1 : V 1 = .int .i64 (a : Int) := hs 1 (by simp)
                        have e2 : V 2 = .int .i64 (b : Int) := hs 2 (by simp)
                        have e3 : V 3 = .int .i64 ki := hs 3 (by simp)
                        have e4 : V 4 = .bool true := hs 4 (by simp)
                        have e5 : V 5 = .bool true := hs 5 (by simp)
                        rw [if_pos (by simp [Rs.wantB, e5])]
                        exact Rs.GrowL.value (v := .int .i64 (a : Int)) (w' := w') (by simp [go_sem, Rs.look, e0, e1, e2, e3, e4, e5]) (Rs.Gr.refl _) rfl
                      · have e0 : V 0 = (.agg #[.slice pw t.words.length cw, .slice pt t.turns.length ct, .int .i64 t.breath]) := hs 0 (by simp)
                        have e1 : V 1 = .int .i64 (a : Int) := hs 1 (by simp)
                        have e2 : V 2 = .int .i64 (b : Int) := hs 2 (by simp)
                        have e3 : V 3 = .int .i64 ki := hs 3 (by simp)
                        have e4 : V 4 = .bool true := hs 4 (by simp)
                        have e5 : V 5 = .bool true := hs 5 (by simp)
                        have e10 : V 10 = .slice (some ⟨gl, ol, none⟩) l.length cl := hs 10 (by simp)
                        have e11 : V 11 = .int .i64 (a : Int) := hs 11 (by simp)
                        rw [if_pos (by simp [Rs.wantB, e5])]
                        exact Rs.GrowL.value (v := .pointer (some ⟨gl, ol + a, none⟩)) (w' := w') (by simp [go_sem, Rs.look, e0, e1, e2, e3, e4, e5, e10, e11, hia]) (Rs.Gr.refl _) rfl
                      · have e0 : V 0 = (.agg #[.slice pw t.words.length cw, .slice pt t.turns.length ct, .int .i64 t.breath]) := hs 0 (by simp)
                        have e1 : V 1 = .int .i64 (a : Int) := hs 1 (by simp)
                        have e2 : V 2 = .int .i64 (b : Int) := hs 2 (by simp)
                        have e3 : V 3 = .int .i64 ki := hs 3 (by simp)
                        have e4 : V 4 = .bool true := hs 4 (by simp)
                        have e5 : V 5 = .bool true := hs 5 (by simp)
                        have e10 : V 10 = .slice (some ⟨gl, ol, none⟩) l.length cl := hs 10 (by simp)
                        have e11 : V 11 = .int .i64 (a : Int) := hs 11 (by simp)
                        have e12 : V 12 = .pointer (some ⟨gl, ol + a, none⟩) := hs 12 (by simp)
                        rw [if_pos (by simp [Rs.wantB, e5])]
                        exact Rs.GrowL.value (v := .int .i64 ma) (w' := w') (by simp [go_sem, Rs.look, e0, e1, e2, e3, e4, e5, e10, e11, e12, hca]) (Rs.Gr.refl _) rfl
                      · have e0 : V 0 = (.agg #[.slice pw t.words.length cw, .slice pt t.turns.length ct, .int .i64 t.breath]) := hs 0 (by simp)
                        have e1 : V 1 = .int .i64 (a : Int) := hs 1 (by simp)
                        have e2 : V 2 = .int .i64 (b : Int) := hs 2 (by simp)
                        have e3 : V 3 = .int .i64 ki := hs 3 (by simp)
                        have e4 : V 4 = .bool true := hs 4 (by simp)
                        have e5 : V 5 = .bool true := hs 5 (by simp)
                        have e10 : V 10 = .slice (some ⟨gl, ol, none⟩) l.length cl := hs 10 (by simp)
                        have e11 : V 11 = .int .i64 (a : Int) := hs 11 (by simp)
                        have e12 : V 12 = .pointer (some ⟨gl, ol + a, none⟩) := hs 12 (by simp)
                        have e13 : V 13 = .int .i64 ma := hs 13 (by simp)
                        rw [if_pos (by simp [Rs.wantB, e5])]
                        exact Rs.GrowL.value (v := .int .i64 (ma + 1)) (w' := w') (by simp [go_sem, Rs.look, e0, e1, e2, e3, e4, e5, e10, e11, e12, e13, hwr]) (Rs.Gr.refl _) rfl
                      · have e0 : V 0 = (.agg #[.slice pw t.words.length cw, .slice pt t.turns.length ct, .int .i64 t.breath]) := hs 0 (by simp)
                        have e1 : V 1 = .int .i64 (a : Int) := hs 1 (by simp)
                        have e2 : V 2 = .int .i64 (b : Int) := hs 2 (by simp)
                        have e3 : V 3 = .int .i64 ki := hs 3 (by simp)
                        have e4 : V 4 = .bool true := hs 4 (by simp)
                        have e5 : V 5 = .bool true := hs 5 (by simp)
                        have e6 : V 6 = .slice (some ⟨gl, ol, none⟩) l.length cl := hs 6 (by simp)
                        have e7 : V 7 = .int .i64 (b : Int) := hs 7 (by simp)
                        have e8 : V 8 = .pointer (some ⟨gl, ol + b, none⟩) := hs 8 (by simp)
                        have e9 : V 9 = .int .i64 mb := hs 9 (by simp)
                        have e10 : V 10 = .slice (some ⟨gl, ol, none⟩) l.length cl := hs 10 (by simp)
                        have e11 : V 11 = .int .i64 (a : Int) := hs 11 (by simp)
                        have e12 : V 12 = .pointer (some ⟨gl, ol + a, none⟩) := hs 12 (by simp)
                        have e13 : V 13 = .int .i64 ma := hs 13 (by simp)
                        have e14 : V 14 = .int .i64 (ma + 1) := hs 14 (by simp)
                        rw [if_pos (by simp [Rs.wantB, e5])]
                        exact Rs.GrowL.value (v := .bool gt) (w' := w') (by simp [go_sem, Rs.look, e0, e1, e2, e3, e4, e5, e6, e7, e8, e9, e10, e11, e12, e13, e14, hgt]) (Rs.Gr.refl _) rfl
                      · have e0 : V 0 = (.agg #[.slice pw t.words.length cw, .slice pt t.turns.length ct, .int .i64 t.breath]) := hs 0 (by simp)
                        have e1 : V 1 = .int .i64 (a : Int) := hs 1 (by simp)
                        have e2 : V 2 = .int .i64 (b : Int) := hs 2 (by simp)
                        have e3 : V 3 = .int .i64 ki := hs 3 (by simp)
                        have e4 : V 4 = .bool true := hs 4 (by simp)
                        have e5 : V 5 = .bool true := hs 5 (by simp)
                        have e6 : V 6 = .slice (some ⟨gl, ol, none⟩) l.length cl := hs 6 (by simp)
                        have e7 : V 7 = .int .i64 (b : Int) := hs 7 (by simp)
                        have e8 : V 8 = .pointer (some ⟨gl, ol + b, none⟩) := hs 8 (by simp)
                        have e9 : V 9 = .int .i64 mb := hs 9 (by simp)
                        have e10 : V 10 = .slice (some ⟨gl, ol, none⟩) l.length cl := hs 10 (by simp)
                        have e11 : V 11 = .int .i64 (a : Int) := hs 11 (by simp)
                        have e12 : V 12 = .pointer (some ⟨gl, ol + a, none⟩) := hs 12 (by simp)
                        have e13 : V 13 = .int .i64 ma := hs 13 (by simp)
                        have e14 : V 14 = .int .i64 (ma + 1) := hs 14 (by simp)
                        have e15 : V 15 = .bool gt := hs 15 (by simp)
                        rw [if_pos (by rfl)]
                        exact Rs.GrowL.value (v := .bool gt) (w' := w') (by simp [go_sem, Rs.look, e0, e1, e2, e3, e4, e5, e6, e7, e8, e9, e10, e11, e12, e13, e14, e15]) (Rs.Gr.refl _) rfl
                    · intro V w' hG hs
                      have e0 : V 0 = (.agg #[.slice pw t.words.length cw, .slice pt t.turns.length ct, .int .i64 t.breath]) := hs 0 (by omega)
                      have e1 : V 1 = .int .i64 (a : Int) := hs 1 (by omega)
                      have e2 : V 2 = .int .i64 (b : Int) := hs 2 (by omega)
                      have e3 : V 3 = .int .i64 ki := hs 3 (by omega)
                      have e4 : V 4 = .bool true := hs 4 (by omega)
                      have e5 : V 5 = .bool true := hs 5 (by omega)
                      have e6 : V 6 = .slice (some ⟨gl, ol, none⟩) l.length cl := hs 6 (by omega)
                      have e7 : V 7 = .int .i64 (b : Int) := hs 7 (by omega)
                      have e8 : V 8 = .pointer (some ⟨gl, ol + b, none⟩) := hs 8 (by omega)
                      have e9 : V 9 = .int .i64 mb := hs 9 (by omega)
                      have e10 : V 10 = .slice (some ⟨gl, ol, none⟩) l.length cl := hs 10 (by omega)
                      have e11 : V 11 = .int .i64 (a : Int) := hs 11 (by omega)
                      have e12 : V 12 = .pointer (some ⟨gl, ol + a, none⟩) := hs 12 (by omega)
                      have e13 : V 13 = .int .i64 ma := hs 13 (by omega)
                      have e14 : V 14 = .int .i64 (ma + 1) := hs 14 (by omega)
                      have e15 : V 15 = .bool gt := hs 15 (by omega)
                      have e16 : V 16 = .bool gt := hs 16 (by omega)
                      simp only [Rs.canon, Rs.dstOf, List.range_succ, List.range_zero, List.nil_append, List.cons_append, List.foldl_cons, List.foldl_nil, List.drop_succ_cons, List.drop_zero, List.drop_nil, List.getElem?_toArray, List.getElem?_cons_succ, List.getElem?_cons_zero, Option.bind_some, List.getD_cons_succ, List.getD_cons_zero]
                      rw [e0, e1, e2, e3, e4, e5, e6, e7, e8, e9, e10, e11, e12, e13, e14, e15, e16]
                      go_frame
                      clear e0 e1 e2 e3 e4 e5 e6 e7 e8 e9 e10 e11 e12 e13 e14 e15 e16 hs
                      have HGG := Lib.hid (join HBc.out hG)
                      clear hG hgt hgt2 hki hwr hwr2 hia hib
                      cases gt with
                      | true =>
                        go_wp2
                        go_roundw
                        case rel => exact ⟨b + 1, false, by omega, by omega, by go_num, rfl, Lib.hid (by rw [HRW.out]; simp), HGG⟩
                        case measure => simp [intOf]; omega
                      | false =>
                        go_wp2
                        go_roundw
                        case rel => exact ⟨b + 1, hc, by omega, by omega, by go_num, rfl, Lib.hid (by rw [HRW.out, HHC.out]; simp), HGG⟩
                        case measure => simp [intOf]; omega
                  | false =>
                    rw [hrt, decide_eq_false_iff_not] at hki0
                    have hki : ¬ ki < 0 := hki0
                    have HRW : Hid (okRow t l a (b + 1) = okRow t l a b) := Lib.hid (by rw [HROW.out, hrt]; simp)
                    clear hki0 hrt HROW
                    obtain ⟨gt, hgte⟩ : ∃ gt : Bool, gt = true := ⟨_, rfl⟩
                    clear hgte
                    go_wp2_with fail
                    refine Rs.region_gen 17 [[], [], [], [0, 1, 2], [0, 1, 2, 3], [0, 1, 2, 3, 4], [0, 1, 2, 3, 4, 5], [0, 1, 2, 3, 4, 5], [0, 1, 2, 3, 4, 5, 6, 7], [0, 1, 2, 3, 4, 5, 6, 7, 8], [0, 1, 2, 3, 4, 5], [0, 1, 2, 3, 4, 5], [0, 1, 2, 3, 4, 5, 10, 11], [0, 1, 2, 3, 4, 5, 10, 11, 12], [0, 1, 2, 3, 4, 5, 10, 11, 12, 13], [0, 1, 2, 3, 4, 5, 6, 7, 8, 9, 10, 11, 12, 13, 14], [0, 1, 2, 3, 4, 5, 6, 7, 8, 9, 10, 11, 12, 13, 14, 15]] [some 54, some 55, some 56, some 57, some 58, some 59, some 60, some 61, some 62, some 63, some 64, some 65, some 66, some 67, some 68, some 69, some 70] (spRh0 (.agg #[.slice pw t.words.length cw, .slice pt t.turns.length ct, .int .i64 t.breath]) gl ol l.length cl a b ki ma mb gt) (by kernel_rfl) (by kernel_rfl) rfl (spRh0_stable _ _ _ _ _ _ _ _ _ _ _) ?_ ?_
                    · refine ⟨fun V w' hG hs => ?_, fun V w' hG hs => ?_, fun V w' hG hs => ?_, fun V w' hG hs => ?_, fun V w' hG hs => ?_, fun V w' hG hs => ?_, fun V w' hG hs => ?_, fun V w' hG hs => ?_, fun V w' hG hs => ?_, fun V w' hG hs => ?_, fun V w' hG hs => ?_, fun V w' hG hs => ?_, fun V w' hG hs => ?_, fun V w' hG hs => ?_, fun V w' hG hs => ?_, fun V w' hG hs => ?_, fun V w' hG hs => ?_, trivial⟩
                      all_goals
                        obtain ⟨k0, k1, k2⟩ := blk3 ((hG.block w.heap.size hTl).trans HTX.out)
                        have hca := (hG.cell (p := ⟨gl, ol + a, none⟩) hgl).trans HCA.out
                        have hcb := (hG.cell (p := ⟨gl, ol + b, none⟩) hgl).trans HCB.out
                      · rw [if_pos (by rfl)]
                        exact Rs.GrowL.value (v := (.agg #[.slice pw t.words.length cw, .slice pt t.turns.length ct, .int .i64 t.breath])) (w' := w') (by simp [go_sem, Rs.look, k0, k1, k2]) (Rs.Gr.refl _) rfl
                      · rw [if_pos (by rfl)]
                        exact Rs.GrowL.value (v := .int .i64 (a : Int)) (w' := w') (by simp [go_sem, Rs.look]) (Rs.Gr.refl _) rfl
                      · rw [if_pos (by rfl)]
                        exact Rs.GrowL.value (v := .int .i64 (b : Int)) (w' := w') (by simp [go_sem, Rs.look]) (Rs.Gr.refl _) rfl
                      · have e0 : V 0 = (.agg #[.slice pw t.words.length cw, .slice pt t.turns.length ct, .int .i64 t.breath]) := hs 0 (by simp)
                        have e1 : V 1 = .int .i64 (a : Int) := hs 1 (by simp)
                        have e2 : V 2 = .int .i64 (b : Int) := hs 2 (by simp)
                        rw [if_pos (by rfl)]
                        refine Rs.GrowL.call (f := 97) (args := #[.agg #[.slice pw t.words.length cw, .slice pt t.turns.length ct, .int .i64 t.breath], .int .i64 (a : Int), .int .i64 (b : Int)]) (by simp [go_sem, Rs.look, e0, e1, e2]) ?_
                        refine (HFT.out w' hG).mono ?_
                        rintro e w2 ⟨rfl, hB2⟩
                        exact ⟨_, rfl, hB2, rfl⟩
                      · have e0 : V 0 = (.agg #[.slice pw t.words.length cw, .slice pt t.turns.length ct, .int .i64 t.breath]) := hs 0 (by simp)
                        have e1 : V 1 = .int .i64 (a : Int) := hs 1 (by simp)
                        have e2 : V 2 = .int .i64 (b : Int) := hs 2 (by simp)
                        have e3 : V 3 = .int .i64 ki := hs 3 (by simp)
                        rw [if_pos (by rfl)]
                        exact Rs.GrowL.value (v := .bool false) (w' := w') (by simp [go_sem, Rs.look, e0, e1, e2, e3, hki]) (Rs.Gr.refl _) rfl
                      · have e0 : V 0 = (.agg #[.slice pw t.words.length cw, .slice pt t.turns.length ct, .int .i64 t.breath]) := hs 0 (by simp)
                        have e1 : V 1 = .int .i64 (a : Int) := hs 1 (by simp)
                        have e2 : V 2 = .int .i64 (b : Int) := hs 2 (by simp)
                        have e3 : V 3 = .int .i64 ki := hs 3 (by simp)
                        have e4 : V 4 = .bool false := hs 4 (by simp)
                        rw [if_pos (by rfl)]
                        exact Rs.GrowL.value (v := .bool false) (w' := w') (by simp [go_sem, Rs.look, e0, e1, e2, e3, e4]) (Rs.Gr.refl _) rfl
                      · have e0 : V 0 = (.agg #[.slice pw t.words.length cw, .slice pt t.turns.length ct, .int .i64 t.breath]) := hs 0 (by simp)
                        have e1 : V 1 = .int .i64 (a : Int) := hs 1 (by simp)
                        have e2 : V 2 = .int .i64 (b : Int) := hs 2 (by simp)
                        have e3 : V 3 = .int .i64 ki := hs 3 (by simp)
                        have e4 : V 4 = .bool false := hs 4 (by simp)
                        have e5 : V 5 = .bool false := hs 5 (by simp)
                        rw [if_neg (by simp [Rs.wantB, e5])]
                        rfl
                      · have e0 : V 0 = (.agg #[.slice pw t.words.length cw, .slice pt t.turns.length ct, .int .i64 t.breath]) := hs 0 (by simp)
                        have e1 : V 1 = .int .i64 (a : Int) := hs 1 (by simp)
                        have e2 : V 2 = .int .i64 (b : Int) := hs 2 (by simp)
                        have e3 : V 3 = .int .i64 ki := hs 3 (by simp)
                        have e4 : V 4 = .bool false := hs 4 (by simp)
                        have e5 : V 5 = .bool false := hs 5 (by simp)
                        rw [if_neg (by simp [Rs.wantB, e5])]
                        rfl
                      · have e0 : V 0 = (.agg #[.slice pw t.words.length cw, .slice pt t.turns.length ct, .int .i64 t.breath]) := hs 0 (by simp)
                        have e1 : V 1 = .int .i64 (a : Int) := hs 1 (by simp)
                        have e2 : V 2 = .int .i64 (b : Int) := hs 2 (by simp)
                        have e3 : V 3 = .int .i64 ki := hs 3 (by simp)
                        have e4 : V 4 = .bool false := hs 4 (by simp)
                        have e5 : V 5 = .bool false := hs 5 (by simp)
                        have e6 : V 6 = undef := hs 6 (by simp)
                        have e7 : V 7 = undef := hs 7 (by simp)
                        rw [if_neg (by simp [Rs.wantB, e5])]
                        rfl
                      · have e0 : V 0 = (.agg #[.slice pw t.words.length cw, .slice pt t.turns.length ct, .int .i64 t.breath]) := hs 0 (by simp)
                        have e1 : V 1 = .int .i64 (a : Int) := hs 1 (by simp)
                        have e2 : V 2 = .int .i64 (b : Int) := hs 2 (by simp)
                        have e3 : V 3 = .int .i64 ki := hs 3 (by simp)
                        have e4 : V 4 = .bool false := hs 4 (by simp)
                        have e5 : V 5 = .bool false := hs 5 (by simp)
                        have e6 : V 6 = undef := hs 6 (by simp)
                        have e7 : V 7 = undef := hs 7 (by simp)
                        have e8 : V 8 = undef := hs 8 (by simp)
                        rw [if_neg (by simp [Rs.wantB, e5])]
                        rfl
                      · have e0 : V 0 = (.agg #[.slice pw t.words.length cw, .slice pt t.turns.length ct, .int .i64 t.breath]) := hs 0 (by simp)
                        have e1 : V 1 = .int .i64 (a : Int) := hs 1 (by simp)
                        have e2 : V 2 = .int .i64 (b : Int) := hs 2 (by simp)
                        have e3 : V 3 = .int .i64 ki := hs 3 (by simp)
                        have e4 : V 4 = .bool false := hs 4 (by simp)
                        have e5 : V 5 = .bool false := hs 5 (by simp)
                        rw [if_neg (by simp [Rs.wantB, e5])]
                        rfl
                      · have e0 : V 0 = (.agg #[.slice pw t.words.length cw, .slice pt t.turns.length ct, .int .i64 t.breath]) := hs 0 (by simp)
                        have e1 : V 1 = .int .i64 (a : Int) := hs 1 (by simp)
                        have e2 : V 2 = .int .i64 (b : Int) := hs 2 (by simp)
                        have e3 : V 3 = .int .i64 ki := hs 3 (by simp)
                        have e4 : V 4 = .bool false := hs 4 (by simp)
                        have e5 : V 5 = .bool false := hs 5 (by simp)
                        rw [if_neg (by simp [Rs.wantB, e5])]
                        rfl
                      · have e0 : V 0 = (.agg #[.slice pw t.words.length cw, .slice pt t.turns.length ct, .int .i64 t.breath]) := hs 0 (by simp)
                        have e1 : V 1 = .int .i64 (a : Int) := hs 1 (by simp)
                        have e2 : V 2 = .int .i64 (b : Int) := hs 2 (by simp)
                        have e3 : V 3 = .int .i64 ki := hs 3 (by simp)
                        have e4 : V 4 = .bool false := hs 4 (by simp)
                        have e5 : V 5 = .bool false := hs 5 (by simp)
                        have e10 : V 10 = undef := hs 10 (by simp)
                        have e11 : V 11 = undef := hs 11 (by simp)
                        rw [if_neg (by simp [Rs.wantB, e5])]
                        rfl
                      · have e0 : V 0 = (.agg #[.slice pw t.words.length cw, .slice pt t.turns.length ct, .int .i64 t.breath]) := hs 0 (by simp)
                        have e1 : V 1 = .int .i64 (a : Int) := hs 1 (by simp)
                        have e2 : V 2 = .int .i64 (b : Int) := hs 2 (by simp)
                        have e3 : V 3 = .int .i64 ki := hs 3 (by simp)
                        have e4 : V 4 = .bool false := hs 4 (by simp)
                        have e5 : V 5 = .bool false := hs 5 (by simp)
                        have e10 : V 10 = undef := hs 10 (by simp)
                        have e11 : V 11 = undef := hs 11 (by simp)
                        have e12 : V 12 = undef := hs 12 (by simp)
                        rw [if_neg (by simp [Rs.wantB, e5])]
                        rfl
                      · have e0 : V 0 = (.agg #[.slice pw t.words.length cw, .slice pt t.turns.length ct, .int .i64 t.breath]) := hs 0 (by simp)
                        have e1 : V 1 = .int .i64 (a : Int) := hs 1 (by simp)
                        have e2 : V 2 = .int .i64 (b : Int) := hs 2 (by simp)
                        have e3 : V 3 = .int .i64 ki := hs 3 (by simp)
                        have e4 : V 4 = .bool false := hs 4 (by simp)
                        have e5 : V 5 = .bool false := hs 5 (by simp)
                        have e10 : V 10 = undef := hs 10 (by simp)
                        have e11 : V 11 = undef := hs 11 (by simp)
                        have e12 : V 12 = undef := hs 12 (by simp)
                        have e13 : V 13 = undef := hs 13 (by simp)
                        rw [if_neg (by simp [Rs.wantB, e5])]
                        rfl
                      · have e0 : V 0 = (.agg #[.slice pw t.words.length cw, .slice pt t.turns.length ct, .int .i64 t.breath]) := hs 0 (by simp)
                        have e1 : V 1 = .int .i64 (a : Int) := hs 1 (by simp)
                        have e2 : V 2 = .int .i64 (b : Int) := hs 2 (by simp)
                        have e3 : V 3 = .int .i64 ki := hs 3 (by simp)
                        have e4 : V 4 = .bool false := hs 4 (by simp)
                        have e5 : V 5 = .bool false := hs 5 (by simp)
                        have e6 : V 6 = undef := hs 6 (by simp)
                        have e7 : V 7 = undef := hs 7 (by simp)
                        have e8 : V 8 = undef := hs 8 (by simp)
                        have e9 : V 9 = undef := hs 9 (by simp)
                        have e10 : V 10 = undef := hs 10 (by simp)
                        have e11 : V 11 = undef := hs 11 (by simp)
                        have e12 : V 12 = undef := hs 12 (by simp)
                        have e13 : V 13 = undef := hs 13 (by simp)
                        have e14 : V 14 = undef := hs 14 (by simp)
                        rw [if_neg (by simp [Rs.wantB, e5])]
                        rfl
                      · have e0 : V 0 = (.agg #[.slice pw t.words.length cw, .slice pt t.turns.length ct, .int .i64 t.breath]) := hs 0 (by simp)
                        have e1 : V 1 = .int .i64 (a : Int) := hs 1 (by simp)
                        have e2 : V 2 = .int .i64 (b : Int) := hs 2 (by simp)
                        have e3 : V 3 = .int .i64 ki := hs 3 (by simp)
                        have e4 : V 4 = .bool false := hs 4 (by simp)
                        have e5 : V 5 = .bool false := hs 5 (by simp)
                        have e6 : V 6 = undef := hs 6 (by simp)
                        have e7 : V 7 = undef := hs 7 (by simp)
                        have e8 : V 8 = undef := hs 8 (by simp)
                        have e9 : V 9 = undef := hs 9 (by simp)
                        have e10 : V 10 = undef := hs 10 (by simp)
                        have e11 : V 11 = undef := hs 11 (by simp)
                        have e12 : V 12 = undef := hs 12 (by simp)
                        have e13 : V 13 = undef := hs 13 (by simp)
                        have e14 : V 14 = undef := hs 14 (by simp)
                        have e15 : V 15 = undef := hs 15 (by simp)
                        rw [if_pos (by rfl)]
                        exact Rs.GrowL.value (v := .bool false) (w' := w') (by simp [go_sem, Rs.look, e0, e1, e2, e3, e4, e5, e6, e7, e8, e9, e10, e11, e12, e13, e14, e15]) (Rs.Gr.refl _) rfl
                    · intro V w' hG hs
                      have e0 : V 0 = (.agg #[.slice pw t.words.length cw, .slice pt t.turns.length ct, .int .i64 t.breath]) := hs 0 (by omega)
                      have e1 : V 1 = .int .i64 (a : Int) := hs 1 (by omega)
                      have e2 : V 2 = .int .i64 (b : Int) := hs 2 (by omega)
                      have e3 : V 3 = .int .i64 ki := hs 3 (by omega)
                      have e4 : V 4 = .bool false := hs 4 (by omega)
                      have e5 : V 5 = .bool false := hs 5 (by omega)
                      have e6 : V 6 = undef := hs 6 (by omega)
                      have e7 : V 7 = undef := hs 7 (by omega)
                      have e8 : V 8 = undef := hs 8 (by omega)
                      have e9 : V 9 = undef := hs 9 (by omega)
                      have e10 : V 10 = undef := hs 10 (by omega)
                      have e11 : V 11 = undef := hs 11 (by omega)
                      have e12 : V 12 = undef := hs 12 (by omega)
                      have e13 : V 13 = undef := hs 13 (by omega)
                      have e14 : V 14 = undef := hs 14 (by omega)
                      have e15 : V 15 = undef := hs 15 (by omega)
                      have e16 : V 16 = .bool false := hs 16 (by omega)
                      simp only [Rs.canon, Rs.dstOf, List.range_succ, List.range_zero, List.nil_append, List.cons_append, List.foldl_cons, List.foldl_nil, List.drop_succ_cons, List.drop_zero, List.drop_nil, List.getElem?_toArray, List.getElem?_cons_succ, List.getElem?_cons_zero, Option.bind_some, List.getD_cons_succ, List.getD_cons_zero]
                      rw [e0, e1, e2, e3, e4, e5, e6, e7, e8, e9, e10, e11, e12, e13, e14, e15, e16]
                      go_frame
                      clear e0 e1 e2 e3 e4 e5 e6 e7 e8 e9 e10 e11 e12 e13 e14 e15 e16 hs
                      have HGG := Lib.hid (join HBc.out hG)
                      clear hG hki hwr hwr2 hia hib
                      go_wp2
                      go_roundw
                      case rel => exact ⟨b + 1, hc, by omega, by omega, by go_num, rfl, Lib.hid (by rw [HRW.out]; exact HHC.out), HGG⟩
                      case measure => simp [intOf]; omega
                · have hbe : b = t.words.length + 1 := by omega
                  have HNX : Hid (hc = ((z == 0) && okTo t l (a + 1))) := Lib.hid (by rw [HHC.out, HHB.out, HTO.out, hbe, Bool.and_assoc])
                  clear hbe
                  go_wp2
                  go_roundw
                  case rel => exact ⟨a + 1, hc, by omega, by go_num, rfl, HNX, Lib.hid (join HBb.out HBc.out)⟩
                  case measure => simp [intOf]; omega
            · have hae : a = t.words.length := by omega
              have HFN : Hid (shows t l = if hb = false then (0, 8) else (l.getD t.words.length 0, 0)) := Lib.hid (by rw [HSH.out, HHB.out, hae])
              have hlen := HLEN.out
              have hcn := (HBb.out.cell (p := ⟨gl, ol + t.words.length, none⟩) hgl5).trans (HLC.out t.words.length (by omega))
              have hln : (t.words.length : Int) < (l.length : Int) := by omega
              obtain ⟨v, hv⟩ : ∃ v, v = l.getD t.words.length 0 := ⟨_, rfl⟩
              rw [← hv] at hcn HFN
              have HBF := Lib.hid (join HB5.out HBb.out)
              clear hae hlen hv HHB
              cases hb with
              | false =>
                go_wp2
                go_ret2
                exact ⟨by rw [HFN.out]; rfl, HBF.out⟩
              | true =>
                go_wp2
                go_ret2
                exact ⟨by rw [HFN.out]; rfl, HBF.out⟩
    · have hlen1 : ((l.length : Int) != (t.words.length : Int) + 1) = true := by
        rw [bne_iff_ne]; omega
      have hlen2 : ¬ (l.length : Int) = (t.words.length : Int) + 1 := by omega
      have HSH : Hid (shows t l = (0, 2)) := Lib.hid (by unfold shows; rw [if_neg (by simp [HE.out]), if_pos hlen])
      clear hlen
      go_wp2
      go_ret2
      exact ⟨by rw [HSH.out]; rfl, HB5.out⟩
  · have HSH : Hid (shows t l = (0, t.err)) := Lib.hid (by unfold shows; rw [if_pos he])
    have hne : (t.err != 0) = true := by simpa using he
    generalize t.err = er at HSH hne ⊢
    clear he
    go_wp2
    go_ret2
    exact ⟨by rw [HSH.out]; rfl, HB5.out⟩
end Go.Proofs.Ytadnggecnjdhiaa
set_option linter.unusedSimpArgs false
set_option linter.unusedVariables false
namespace Go.Proofs.Ytadnggecnjdhiaa
open Go.RowKit Tx

set_option maxHeartbeats 2000000 in
set_option maxRecDepth 100000 in
theorem Shows_any (t : Text) (l : List Int) (hl1 : t.words.length ≤ 1000000) (hl2 : t.turns.length ≤ 1000000) (hll : l.length ≤ 100000) (pw pt pl : Option Addr) (cw ct cl : Nat) (hcw : t.words.length ≤ cw ∧ cw ≤ maxLen) (w : World) (hW : TxAt w t pw pt) (hL : Ints w pl l) :
    Calls Try.prog 36 #[.agg #[.slice pw t.words.length cw, .slice pt t.turns.length ct, .int .i64 t.breath], .slice pl l.length cl] w fun e w' =>
      e = .returned (.tuple #[.int .i64 (shows t l).1, .int .i64 (shows t l).2]) ∧ Below w.heap.size w w' := by
  by_cases he : t.err = 0
  · by_cases hlen : l.length = t.words.length + 1
    · by_cases hany : l.any (fun k => !btw k 0 99) = true
      · have hsh : shows t l = (0, 3) := by
          unfold shows; rw [if_neg (by simp [he]), if_neg (by omega), if_pos hany]
        have HSH := Lib.hid hsh
        have HS := Lib.hid (fun W (h : Below w.heap.size w W) => open_ok t he pw pt cw ct W (hW.below h))
        have h3 : errIf (fun k => !btw k 0 99) l 3 = 3 := by rw [errIf, if_pos hany]
        have H3 := Lib.hid h3
        have HI := Lib.hid (fun W (h : Below w.heap.size w W) => errIfI_any 106 entered_shows1 (fun k => !btw k 0 99) l pl cl 3 W (by omega) (hL.below h) (fun W' _ u => (shows1_any u W').mono fun e w' ⟨h1, h2⟩ => ⟨h1, h2 ▸ Below.refl _ _⟩))
        have hlq : ((l.length : Int) != (t.words.length : Int) + 1) = false := by rw [hlen]; simp
        clear hsh h3 hany hW hL he hlen
        go_enter Try.func36, Try.ntmps36
        go_wp2_with fail
        refine (HS.out _ (below1 _ _)).mono ?_
        rintro e w5 ⟨rfl, hB5⟩
        have HB5 := Lib.hid (join (below1 _ _) hB5)
        clear hB5
        go_wp2_with fail
        refine (end_any _ _ _ _ _ _ _).mono ?_
        rintro e w6 ⟨rfl, hw6⟩
        have hB6 : Below w.heap.size w w6 := by rw [← hw6]; exact join (join HB5.out (below1 _ _)) (below1 _ _)
        have HB6 := Lib.hid hB6
        clear hw6 hB6
        go_wp2_with fail
        refine (HI.out _ HB6.out).mono ?_
        rintro e w7 ⟨rfl, hB7⟩
        rw [H3.out]
        have HB7 := Lib.hid (join HB6.out hB7)
        clear hB7
        go_wp2
        go_ret2
        exact ⟨by rw [HSH.out]; rfl, HB7.out⟩
      · exact Shows_in t l he hlen hany pw pt pl cw ct cl hcw w hW hL
    · have hsh : shows t l = (0, 2) := by
        unfold shows; rw [if_neg (by simp [he]), if_pos hlen]
      have HSH := Lib.hid hsh
      have HS := Lib.hid (fun W (h : Below w.heap.size w W) => open_ok t he pw pt cw ct W (hW.below h))
      have hlq : ((l.length : Int) != (t.words.length : Int) + 1) = true := by rw [bne_iff_ne]; omega
      have hlq2 : ¬ (l.length : Int) = (t.words.length : Int) + 1 := by omega
      clear hsh hW hL he hlen
      go_enter Try.func36, Try.ntmps36
      go_wp2_with fail
      refine (HS.out _ (below1 _ _)).mono ?_
      rintro e w5 ⟨rfl, hB5⟩
      have HB5 := Lib.hid (join (below1 _ _) hB5)
      clear hB5
      go_wp2_with fail
      refine (end_any _ _ _ _ _ _ _).mono ?_
      rintro e w6 ⟨rfl, hw6⟩
      have hB6 : Below w.heap.size w w6 := by rw [← hw6]; exact join (join HB5.out (below1 _ _)) (below1 _ _)
      have HB6 := Lib.hid hB6
      clear hw6 hB6
      go_wp2
      go_ret2
      exact ⟨by rw [HSH.out]; rfl, HB6.out⟩
  · have hsh : shows t l = (0, t.err) := by unfold shows; rw [if_pos he]
    have HSH := Lib.hid hsh
    have HS := Lib.hid (fun W (h : Below w.heap.size w W) => open_bad t he hl1 hl2 pw pt cw ct W (hW.below h))
    have HE : (t.err != 0) = true := by simpa using he
    clear hW hL he hsh
    generalize t.err = er at HE HS HSH ⊢
    go_enter Try.func36, Try.ntmps36
    go_wp2_with fail
    refine (HS.out _ (below1 _ _)).mono ?_
    rintro e w5 ⟨rfl, hB5⟩
    have HB5 := Lib.hid (join (below1 _ _) hB5)
    clear hB5
    go_wp2
    go_ret2
    exact ⟨by rw [HSH.out]; rfl, join HB5.out (below1 _ _)⟩
end Go.Proofs.Ytadnggecnjdhiaa
set_option linter.unusedSimpArgs false
set_option linter.unusedVariables false
namespace Go.Proofs.Ytadnggecnjdhiaa
open Go.RowKit Tx
attribute [local go_sem] Oper.semAt_some
def spLtm (t : Text) (pw pt : Option Addr) (cw ct B : Nat) (l : List Int) (pl : Option Addr) (cl : Nat) : Nat → List Value → Value → World → Prop
  | 0, _, v, _ => v = .agg #[.slice pw t.words.length cw, .slice pt t.turns.length ct, .int .i64 t.breath]
  | 1, L, v, w => ∃ p q c d, v = .agg #[.slice p t.words.length c, .slice q t.turns.length d, .int .i64 t.breath] ∧ w.ownsRow B 77 3 (.slice p t.words.length c) t.words.length (wcells t.words) ∧ w.ownsRow B 80 3 (.slice q t.turns.length d) t.turns.length (tcells t.turns) ∧ t.words.length ≤ c ∧ c ≤ maxLen
  | 2, _, v, _ => v = .agg #[.slice pw t.words.length cw, .slice pt t.turns.length ct, .int .i64 t.breath]
  | 3, L, v, w => ∃ p q c d, v = .agg #[.slice p t.words.length c, .slice q t.turns.length d, .int .i64 t.breath] ∧ w.ownsRow B 78 3 (.slice p t.words.length c) t.words.length (wcells t.words) ∧ w.ownsRow B 81 3 (.slice q t.turns.length d) t.turns.length (tcells t.turns)
  | 4, _, v, _ => v = .slice pl l.length cl
  | 5, L, v, w => ∃ p c, v = .slice p l.length c ∧ w.ownsRow B 3 1 (.slice p l.length c) l.length (l.map (Value.int .i64))
  | 6, L, v, w => ∃ p, v = .pointer (some ⟨p, 0, none⟩) ∧ B ≤ p ∧ w.heap[p]? = some (.cells #[.slice none 0 0, .slice none 0 0, .int .i64 0] 25 (0, 0))
  | 7, L, v, w => ∃ p, v = .pointer (some ⟨p, 0, none⟩) ∧ B ≤ p ∧ w.heap[p]? = some (.cells #[.slice none 0 0, .slice none 0 0, .int .i64 0] 35 (0, 0))
  | _, _, _, _ => False
theorem spLtm_stable (t : Text) (pw pt : Option Addr) (cw ct B : Nat) (l : List Int) (pl : Option Addr) (cl : Nat) : ∀ i L v w w', spLtm t pw pt cw ct B l pl cl i L v w → Rs.Gr w w' → spLtm t pw pt cw ct B l pl cl i L v w' := by
  intro i L v w w' h hg
  match i with
  | 0 => exact h
  | 1 => obtain ⟨p, q, c, d, h1, h2, h3, h4⟩ := h; exact ⟨p, q, c, d, h1, own_below h2 hg, own_below h3 hg, h4⟩
  | 2 => exact h
  | 3 => obtain ⟨p, q, c, d, h1, h2, h3⟩ := h; exact ⟨p, q, c, d, h1, own_below h2 hg, own_below h3 hg⟩
  | 4 => exact h
  | 5 => obtain ⟨p, c, h1, h2⟩ := h; exact ⟨p, c, h1, own_below h2 hg⟩
  | 6 => obtain ⟨p, h1, h2, h3⟩ := h; exact ⟨p, h1, h2, (hg.block p (Array.getElem?_eq_some_iff.1 h3).1).trans h3⟩
  | 7 => obtain ⟨p, h1, h2, h3⟩ := h; exact ⟨p, h1, h2, (hg.block p (Array.getElem?_eq_some_iff.1 h3).1).trans h3⟩

structure MarF (t : Text) (R : List (List Int)) (B : Nat) : Prop where
  rr : rightsR t = R
  bb : bestLen R 0 = B
  fe : fewE t = if B = 0 then 6 else 0
  mz : B = 0 → markL t = []
  mn : B ≠ 0 → (markL t).length ≤ 100000 ∧ shows t (markL t) = ((B : Int), 0)
  r12 : R.length ≤ 100000
  rp : ∀ l ∈ R, l.length ≤ 1000
  lo : loneL t = loneR t.right t.words.length
  ll : (loneL t).length ≤ 1000000
theorem mar_facts {t : Text} (he : t.err = 0) : MarF t (rightsR t) (bestLen (rightsR t) 0) := by
  have ok := err_ok he
  have hn12 := ok.n12
  have hR := rightsR_eq ok he
  obtain ⟨f1, f2, f3, f4⟩ := fewest_rights (may := t.right) ok.n1 ok.n12
  have hlo : loneL t = loneR t.right t.words.length := if_pos he
  have eE : fewE t = (Tx.fewest t.right t.words.length).2 := by unfold fewE; rw [if_pos he]
  have eL : fewL t = (Tx.fewest t.right t.words.length).1 := by unfold fewL; rw [if_pos he]
  have hfe : fewE t = if bestLen (rightsR t) 0 = 0 then 6 else 0 := by rw [eE, f2, hR]
  obtain ⟨s1, s2, s3, s4⟩ := loneR_spec t.right t.words.length ok.n1 ok.n12
  refine ⟨rfl, rfl, hfe, fun h => ?_, fun h => ?_, ?_, fun l hl => ?_, hlo, ?_⟩
  · rw [if_pos h] at hfe
    unfold markL
    rw [hfe]
    exact if_neg (by omega)
  · rw [if_neg h] at hfe
    have hm := markL_len ok hfe
    refine ⟨by omega, ?_⟩
    rw [(marks_show ok he hfe).2, eL, f1, hR]
  · unfold rightsR
    have h1 := List.length_filter_le (okR t) (compF t.words.length t.words.length)
    have h2 := Nat.le_trans (comp_len t.words.length t.words.length) (Nat.pow_le_pow_right (show 0 < 2 by omega) ok.n12)
    omega
  · rw [hR] at hl
    have h1 := (mem_rights.1 hl).1
    have := isum_ge h1.1
    have := h1.2
    omega
  · rw [hlo]
    rcases Incr.len s1 with h | h
    · omega
    · rw [h]; simp
set_option maxHeartbeats 8000000 in
set_option maxRecDepth 100000 in
theorem TextMarks_any (t : Text) (l : List Int) (hm1 : t.words.length ≤ 9223372036854775807) (hm2 : t.turns.length ≤ 9223372036854775807) (hm3 : l.length ≤ 9223372036854775807) (pw pt pl : Option Addr) (cw ct cl : Nat) (w : World) (hW : TxAt w t pw pt) (hL : Ints w pl l) :
    Calls Try.prog 5 #[.agg #[.slice pw t.words.length cw, .slice pt t.turns.length ct, .int .i64 t.breath], .slice pl l.length cl] w fun e w' => e = .returned (.bool true) ∧ Below w.heap.size w w' := by
  have HW := Lib.hid hW
  have HL := Lib.hid hL
  have HB0 := Lib.hid (below1 w (.cells #[.slice pw t.words.length cw, .slice pt t.turns.length ct, .int .i64 t.breath] 25))
  have HX0 := Lib.hid (heap_last w (.cells #[.slice pw t.words.length cw, .slice pt t.turns.length ct, .int .i64 t.breath] 25))
  have HG := Lib.hid (fun W => great_any t 8 hm1 hm2 pw pt cw ct W)
  have HN := Lib.hid (great_no (t := t) (n := 8))
  generalize greatB t 8 = gb at HG HN
  clear hW hL
  cases gb with
  | true =>
    obtain ⟨k0, k1, k2⟩ := blk3 HX0.out
    go_enter Try.func5, Try.ntmps5
    go_wp2_with fail
    refine (HG.out _).mono ?_
    rintro e w1 ⟨rfl, hB⟩
    have HB1 := Lib.hid (join HB0.out hB)
    clear hB k0 k1 k2
    go_wp2_with fail
    refine (awake_any w1).mono ?_
    rintro e w2 ⟨rfl, hB⟩
    have HB2 := Lib.hid (join HB1.out hB)
    clear hB
    go_wp2
    go_ret
    exact ⟨rfl, HB2.out⟩
  | false =>
  have hn := HN.out rfl
  clear HN
  by_cases hgt : 30 < l.length
  · have hgt' : (30 : Int) < l.length := by omega
    obtain ⟨k0, k1, k2⟩ := blk3 HX0.out
    go_enter Try.func5, Try.ntmps5
    go_wp2_with fail
    refine (HG.out _).mono ?_
    rintro e w1 ⟨rfl, hB⟩
    have HB1 := Lib.hid (join HB0.out hB)
    clear hB k0 k1 k2
    go_wp2_with fail
    refine (awake_any w1).mono ?_
    rintro e w2 ⟨rfl, hB⟩
    have HB2 := Lib.hid (join HB1.out hB)
    clear hB
    go_wp2
    go_ret
    exact ⟨rfl, HB2.out⟩
  · have hgt' : ¬ (30 : Int) < l.length := by omega
    have hl1 : t.words.length ≤ 1000000 := by omega
    have hl2 : t.turns.length ≤ 1000000 := by omega
    have hl3 : l.length ≤ 1000000 := by omega
    have CSH := Lib.hid (fun p q r c d e hc W (h : TxAt W t p q) (hL : Ints W r l) => Shows_any t l hl1 hl2 (by omega) p q r c d e hc W h hL)
    have CRS := Lib.hid (fun p q r c d e W (h : TxAt W t p q) (hL : Ints W r l) => rShows_any t l hl1 hl2 (by omega) p q r c d e W h hL)
    have CRS0 := Lib.hid (fun hll p q r c d e W (h : TxAt W t p q) (hL : Ints W r (markL t)) => rShows_any t (markL t) hl1 hl2 hll p q r c d e W h hL)
    have CMK := Lib.hid (fun p q c d hc W (h : TxAt W t p q) => Marks_any t hl1 hl2 p q c d hc W h)
    have CLO := Lib.hid (fun p q c d hc W (h : TxAt W t p q) => Lone_any t hl1 hl2 p q c d hc W h)
    have CCK := Lib.hid (fun p q c d W (h : TxAt W t p q) => rCheck_any t hl1 hl2 p q c d W h)
    generalize shows t l = sh at CSH CRS
    obtain ⟨sn, se⟩ := sh
    dsimp only at CSH CRS
    obtain ⟨er, her⟩ : ∃ er, t.err = er := ⟨_, rfl⟩
    rw [her] at CLO CCK
    obtain ⟨k0, k1, k2⟩ := blk3 HX0.out
    go_enter Try.func5, Try.ntmps5
    go_wp2_with fail
    refine (HG.out _).mono ?_
    rintro e w1 ⟨rfl, hB⟩
    have HX1 := Lib.hid ((hB.block w.heap.size (Array.getElem?_eq_some_iff.1 HX0.out).1).trans HX0.out)
    have HB1 := Lib.hid (join HB0.out hB)
    have HZ0 : w.heap.size < w1.heap.size := (Array.getElem?_eq_some_iff.1 HX1.out).1
    clear hB k0 k1 k2 HX0 HB0 HG
    go_wp2_with fail
    refine Rs.region_gen 8 [[], [0], [], [0, 1, 2], [], [0, 1, 2, 3, 4], [], []] [some 27, some 28, some 29, some 30, some 31, some 32, some 5, some 6] (spLtm t pw pt cw ct w1.heap.size l pl cl) (by kernel_rfl) (by kernel_rfl) rfl (spLtm_stable _ _ _ _ _ _ _ _ _) ?_ ?_
    · refine ⟨fun V w' hG hs => ?_, fun V w' hG hs => ?_, fun V w' hG hs => ?_, fun V w' hG hs => ?_, fun V w' hG hs => ?_, fun V w' hG hs => ?_, fun V w' hG hs => ?_, fun V w' hG hs => ?_, trivial⟩
      all_goals
        obtain ⟨k0, k1, k2⟩ := blk3 ((hG.block w.heap.size HZ0).trans HX1.out)
      · rw [if_pos (by rfl)]
        exact Rs.GrowL.value (v := .agg #[.slice pw t.words.length cw, .slice pt t.turns.length ct, .int .i64 t.breath]) (w' := w') (by simp [go_sem, Rs.look, k0, k1, k2]) (Rs.Gr.refl _) rfl
      · have e0 : V 0 = .agg #[.slice pw t.words.length cw, .slice pt t.turns.length ct, .int .i64 t.breath] := hs 0 (by simp)
        rw [if_pos (by rfl)]
        refine Rs.GrowL.call (f := 19) (args := #[.agg #[.slice pw t.words.length cw, .slice pt t.turns.length ct, .int .i64 t.breath]]) (by simp [go_sem, Rs.look, e0]) ?_
        refine (lCopy_any t hl1 hl2 pw pt cw ct w' (HW.out.below (join HB1.out hG))).mono ?_
        rintro e w2 ⟨g, h, rfl, o1, o2, hB2⟩
        exact ⟨_, rfl, hB2, _, _, _, _, rfl, own_base o1 hG.size, own_base o2 hG.size, Nat.le_refl _, by unfold maxLen; omega⟩
      · rw [if_pos (by rfl)]
        exact Rs.GrowL.value (v := .agg #[.slice pw t.words.length cw, .slice pt t.turns.length ct, .int .i64 t.breath]) (w' := w') (by simp [go_sem, Rs.look, k0, k1, k2]) (Rs.Gr.refl _) rfl
      · have e0 : V 0 = .agg #[.slice pw t.words.length cw, .slice pt t.turns.length ct, .int .i64 t.breath] := hs 0 (by simp)
        have r1 := hs 1 (by simp)
        have e2 : V 2 = .agg #[.slice pw t.words.length cw, .slice pt t.turns.length ct, .int .i64 t.breath] := hs 2 (by simp)
        rw [if_pos (by rfl)]
        refine Rs.GrowL.call (f := 20) (args := #[.agg #[.slice pw t.words.length cw, .slice pt t.turns.length ct, .int .i64 t.breath]]) (by simp [go_sem, Rs.look, e2]) ?_
        refine (theirs_any t hl1 hl2 pw pt cw ct w' (HW.out.below (join HB1.out hG))).mono ?_
        rintro e w2 ⟨p, q, c, d, rfl, o1, o2, hB2⟩
        exact ⟨_, rfl, hB2, _, _, _, _, rfl, own_base o1 hG.size, own_base o2 hG.size⟩
      · rw [if_pos (by rfl)]
        exact Rs.GrowL.value (v := .slice pl l.length cl) (w' := w') (by simp [go_sem, Rs.look]) (Rs.Gr.refl _) rfl
      · have e0 : V 0 = .agg #[.slice pw t.words.length cw, .slice pt t.turns.length ct, .int .i64 t.breath] := hs 0 (by simp)
        have r1 := hs 1 (by simp)
        have e2 : V 2 = .agg #[.slice pw t.words.length cw, .slice pt t.turns.length ct, .int .i64 t.breath] := hs 2 (by simp)
        have r3 := hs 3 (by simp)
        have e4 : V 4 = .slice pl l.length cl := hs 4 (by simp)
        rw [if_pos (by rfl)]
        refine Rs.GrowL.call (f := 21) (args := #[.slice pl l.length cl]) (by simp [go_sem, Rs.look, e4]) ?_
        refine (Copy_ints l hl3 pl cl w' (HL.out.below (join HB1.out hG))).mono ?_
        rintro e w2 ⟨v, rfl, ho, hB2⟩
        obtain ⟨p, c, rfl⟩ := own_val ho
        exact ⟨_, rfl, hB2, p, c, rfl, own_base ho hG.size⟩
      · rw [if_pos (by rfl)]
        exact Rs.GrowL.value (v := .pointer (some ⟨w'.heap.size, 0, none⟩)) (w' := w'.alloc (.cells #[.slice none 0 0, .slice none 0 0, .int .i64 0] 25)) (by simp [go_sem, Rs.look]) (below1 _ _) ⟨_, rfl, hG.size, heap_last _ _⟩
      · rw [if_pos (by rfl)]
        exact Rs.GrowL.value (v := .pointer (some ⟨w'.heap.size, 0, none⟩)) (w' := w'.alloc (.cells #[.slice none 0 0, .slice none 0 0, .int .i64 0] 35)) (by simp [go_sem, Rs.look]) (below1 _ _) ⟨_, rfl, hG.size, heap_last _ _⟩
    · intro V w' hG hs
      have e0 : V 0 = .agg #[.slice pw t.words.length cw, .slice pt t.turns.length ct, .int .i64 t.breath] := hs 0 (by omega)
      have r1 := hs 1 (by omega)
      have e2 : V 2 = .agg #[.slice pw t.words.length cw, .slice pt t.turns.length ct, .int .i64 t.breath] := hs 2 (by omega)
      have r3 := hs 3 (by omega)
      have e4 : V 4 = .slice pl l.length cl := hs 4 (by omega)
      have r5 := hs 5 (by omega)
      have r6 := hs 6 (by omega)
      have r7 := hs 7 (by omega)
      obtain ⟨p7, q7, a7, b7, e1, o1, o2, hcw⟩ := r1
      obtain ⟨p8, q8, a8, b8, e3, o3, o4⟩ := r3
      obtain ⟨p9, c9, e5, o9⟩ := r5
      obtain ⟨c7, e6, hc7, x7⟩ := r6
      obtain ⟨c8, e7, hc8, x8⟩ := r7
      simp only [Rs.canon, Rs.dstOf, List.range_succ, List.range_zero, List.nil_append, List.cons_append, List.foldl_cons, List.foldl_nil, List.drop_succ_cons, List.drop_zero, List.drop_nil, List.getElem?_toArray, List.getElem?_cons_succ, List.getElem?_cons_zero, Option.bind_some, Act.put, List.getD_cons_succ, List.getD_cons_zero, List.setIfInBounds_toArray, List.set_cons_succ, List.set_cons_zero]
      rw [e0, e1, e2, e3, e4, e5, e6, e7]
      clear e0 e1 e2 e3 e4 e5 e6 e7 hs
      have hne : c7 ≠ c8 := fun e => by rw [e, x8] at x7; injection x7 with h; injection h with _ h; cases h
      have hz2 := hG.size
      have hz1 := HB1.out.size
      have HBx := Lib.hid (join HB1.out hG)
      have hAx := (hG.block w.heap.size HZ0).trans HX1.out
      have HLW := Lib.hid (LwT.start hAx (by omega) (by omega) x7 x8 o1 o2 o3 o4 HW.out HBx.out (by omega) (by omega))
      have HBW := Lib.hid (lwSet_bel HBx.out (show w.heap.size ≤ c7 by omega) (show w.heap.size ≤ c8 by omega) (.slice p7 t.words.length a7) (.slice q7 t.turns.length b7) (.int .i64 t.breath) (.slice p8 t.words.length a8) (.slice q8 t.turns.length b8) (.int .i64 t.breath))
      have HI9 := Lib.hid (own_rd (own_lwSet x7 x8 hne (by decide) (by decide) (.slice p7 t.words.length a7) (.slice q7 t.turns.length b7) (.int .i64 t.breath) (.slice p8 t.words.length a8) (.slice q8 t.turns.length b8) (.int .i64 t.breath) o9) rfl)
      have f7 : ∀ i, w'.frozen? ⟨c7, i, none⟩ = false := fun i => by simp [World.frozen?, x7]
      have f8 : ∀ i, w'.frozen? ⟨c8, i, none⟩ = false := fun i => by simp [World.frozen?, x8]
      obtain ⟨m0, m1, m2⟩ := blk3 x7
      obtain ⟨n0, n1, n2⟩ := blk3 x8
      have h7 : c7 < w'.heap.size := (Array.getElem?_eq_some_iff.1 x7).1
      have h8 : c8 < w'.heap.size := (Array.getElem?_eq_some_iff.1 x8).1
      clear o1 o2 o3 o4 o9 x7 x8 hAx hz2 hz1 HX1 HB1 HBx
      clear hG
      go_wp2_with fail
      refine calls_named fun W hW => ?_
      have hW2 : W = lwSet w' c7 c8 (.slice p7 t.words.length a7) (.slice q7 t.turns.length b7) (.int .i64 t.breath) (.slice p8 t.words.length a8) (.slice q8 t.turns.length b8) (.int .i64 t.breath) := hW
      rw [← hW2] at HLW HBW HI9
      clear hW hW2 f7 f8 m0 m1 m2 n0 n1 n2 h7 h8
      obtain ⟨p9', c9', e9, hI9, -⟩ := HI9.out
      injection e9 with e9 _ e9c; subst e9; subst e9c
      clear HI9
      have HI9 := Lib.hid hI9
      clear hI9
      rcases (Decidable.em (er = 0)).symm with he | he
      · have HER : (er != 0) = true := by simpa using he
        rw [show markL t = [] from by unfold markL fewE; rw [her, if_neg he]; exact if_neg he, show fewE t = er from by unfold fewE; rw [her]; exact if_neg he] at CMK
        rw [show loneL t = [] from by unfold loneL; rw [her]; exact if_neg he] at CLO
        clear her he CRS0
        obtain ⟨k0, k1, k2⟩ := blk3 HLW.out.prm
        obtain ⟨k3, k4, k5⟩ := blk3 HLW.out.x7
        obtain ⟨k6, k7, k8⟩ := blk3 HLW.out.x8
        go_wp2_with fail
        refine (CSH.out p7 q7 p9 a7 b7 c9 ⟨hcw.1, hcw.2⟩ _ HLW.out.r7 HI9.out).mono ?_
        rintro e w2 ⟨rfl, hB⟩
        have HLW := Lib.hid (HLW.out.below hB)
        have HI9 := Lib.hid (HI9.out.below hB)
        have HBW := Lib.hid (join HBW.out hB)
        clear k0 k1 k2 k3 k4 k5 k6 k7 k8
        clear hB 
        obtain ⟨k0, k1, k2⟩ := blk3 HLW.out.prm
        obtain ⟨k3, k4, k5⟩ := blk3 HLW.out.x7
        obtain ⟨k6, k7, k8⟩ := blk3 HLW.out.x8
        go_wp2_with fail
        refine (CRS.out p8 q8 pl a8 b8 cl _ HLW.out.r8 (HL.out.below HBW.out)).mono ?_
        rintro e w2 ⟨rfl, hB⟩
        have HLW := Lib.hid (HLW.out.below hB)
        have HI9 := Lib.hid (HI9.out.below hB)
        have HBW := Lib.hid (join HBW.out hB)
        clear k0 k1 k2 k3 k4 k5 k6 k7 k8
        clear hB 
        obtain ⟨k0, k1, k2⟩ := blk3 HLW.out.prm
        obtain ⟨k3, k4, k5⟩ := blk3 HLW.out.x7
        obtain ⟨k6, k7, k8⟩ := blk3 HLW.out.x8
        go_wp2_with fail
        refine (CMK.out p7 q7 a7 b7 ⟨hcw.1, hcw.2⟩ _ HLW.out.r7).mono ?_
        rintro e w2 ⟨p18, c18, rfl, H18, hB⟩
        have HLW := Lib.hid (HLW.out.below hB)
        have HI9 := Lib.hid (HI9.out.below hB)
        have HBW := Lib.hid (join HBW.out hB)
        have H18 := Lib.hid H18
        clear k0 k1 k2 k3 k4 k5 k6 k7 k8
        clear hB 
        obtain ⟨k0, k1, k2⟩ := blk3 HLW.out.prm
        obtain ⟨k3, k4, k5⟩ := blk3 HLW.out.x7
        obtain ⟨k6, k7, k8⟩ := blk3 HLW.out.x8
        go_wp2_with fail
        refine (CLO.out p7 q7 a7 b7 ⟨hcw.1, hcw.2⟩ _ HLW.out.r7).mono ?_
        rintro e w2 ⟨v19, rfl, ho, hB⟩
        have HLW := Lib.hid (HLW.out.below hB)
        have HI9 := Lib.hid (HI9.out.below hB)
        have H18 := Lib.hid (H18.out.below hB)
        have HBW := Lib.hid (join HBW.out hB)
        obtain ⟨p19, c19, rfl, H19, -⟩ := own_rd ho rfl
        have H19 := Lib.hid H19
        clear k0 k1 k2 k3 k4 k5 k6 k7 k8
        clear hB ho
        obtain ⟨k0, k1, k2⟩ := blk3 HLW.out.prm
        obtain ⟨k3, k4, k5⟩ := blk3 HLW.out.x7
        obtain ⟨k6, k7, k8⟩ := blk3 HLW.out.x8
        go_wp2_with fail
        refine (CCK.out p8 q8 a8 b8 _ HLW.out.r8).mono ?_
        rintro e w2 ⟨rfl, hB⟩
        have HLW := Lib.hid (HLW.out.below hB)
        have HI9 := Lib.hid (HI9.out.below hB)
        have H18 := Lib.hid (H18.out.below hB)
        have H19 := Lib.hid (H19.out.below hB)
        have HBW := Lib.hid (join HBW.out hB)
        clear k0 k1 k2 k3 k4 k5 k6 k7 k8
        clear hB 
        obtain ⟨k0, k1, k2⟩ := blk3 HLW.out.prm
        obtain ⟨k3, k4, k5⟩ := blk3 HLW.out.x7
        obtain ⟨k6, k7, k8⟩ := blk3 HLW.out.x8
        go_wp2_with fail
        refine (same_yes t hl1 hl2 p7 q7 pw pt a7 b7 cw ct _ HLW.out.r7 HLW.out.r0).mono ?_
        rintro e w2 ⟨rfl, hB⟩
        have HLW := Lib.hid (HLW.out.below hB)
        have HI9 := Lib.hid (HI9.out.below hB)
        have H18 := Lib.hid (H18.out.below hB)
        have H19 := Lib.hid (H19.out.below hB)
        have HBW := Lib.hid (join HBW.out hB)
        clear k0 k1 k2 k3 k4 k5 k6 k7 k8
        clear hB 
        obtain ⟨k0, k1, k2⟩ := blk3 HLW.out.prm
        obtain ⟨k3, k4, k5⟩ := blk3 HLW.out.x7
        obtain ⟨k6, k7, k8⟩ := blk3 HLW.out.x8
        go_wp2_with fail
        refine (awake_any _).mono ?_
        rintro e w10 ⟨rfl, hB10⟩
        have HBW := Lib.hid (join HBW.out hB10)
        clear hB10
        go_wp2
        go_ret
        exact ⟨rfl, HBW.out⟩
      subst he
      have F := mar_facts her
      have hn1 := (err_ok her).n1
      have hn12 := (err_ok her).n12
      have CRI := Lib.hid (fun p q c d W (h : TxAt W t p q) => Right_any t (by omega) hl2 p q c d W h)
      have CRF := Lib.hid (fun p c W (h : LLs W p (rightsR t)) => rFewest_any (rightsR t) (by have := F.r12; omega) F.rp p c W h)
      have CRL := Lib.hid (fun p q c d W (h : TxAt W t p q) => rLone_any t her p q c d W h)
      have hll := F.ll
      rw [← F.lo] at CRL
      rw [F.fe] at CMK
      have HF := Lib.hid F
      generalize rightsR t = R at CRI CRF HF CMK F
      generalize bestLen R 0 = B at CRF HF CMK F
      generalize loneL t = ll at CLO CRL hll
      rcases Nat.eq_zero_or_pos B with hB0 | hB0
      · subst hB0
        rw [if_pos rfl] at CMK
        rw [if_pos rfl] at CRF
        rw [HF.out.mz rfl] at CMK
        clear HF F CRS0 her
        obtain ⟨k0, k1, k2⟩ := blk3 HLW.out.prm
        obtain ⟨k3, k4, k5⟩ := blk3 HLW.out.x7
        obtain ⟨k6, k7, k8⟩ := blk3 HLW.out.x8
        go_wp2_with fail
        refine (CSH.out p7 q7 p9 a7 b7 c9 ⟨hcw.1, hcw.2⟩ _ HLW.out.r7 HI9.out).mono ?_
        rintro e w2 ⟨rfl, hB⟩
        have HLW := Lib.hid (HLW.out.below hB)
        have HI9 := Lib.hid (HI9.out.below hB)
        have HBW := Lib.hid (join HBW.out hB)
        clear k0 k1 k2 k3 k4 k5 k6 k7 k8
        clear hB 
        obtain ⟨k0, k1, k2⟩ := blk3 HLW.out.prm
        obtain ⟨k3, k4, k5⟩ := blk3 HLW.out.x7
        obtain ⟨k6, k7, k8⟩ := blk3 HLW.out.x8
        go_wp2_with fail
        refine (CRS.out p8 q8 pl a8 b8 cl _ HLW.out.r8 (HL.out.below HBW.out)).mono ?_
        rintro e w2 ⟨rfl, hB⟩
        have HLW := Lib.hid (HLW.out.below hB)
        have HI9 := Lib.hid (HI9.out.below hB)
        have HBW := Lib.hid (join HBW.out hB)
        clear k0 k1 k2 k3 k4 k5 k6 k7 k8
        clear hB 
        obtain ⟨k0, k1, k2⟩ := blk3 HLW.out.prm
        obtain ⟨k3, k4, k5⟩ := blk3 HLW.out.x7
        obtain ⟨k6, k7, k8⟩ := blk3 HLW.out.x8
        go_wp2_with fail
        refine (CMK.out p7 q7 a7 b7 ⟨hcw.1, hcw.2⟩ _ HLW.out.r7).mono ?_
        rintro e w2 ⟨p18, c18, rfl, H18, hB⟩
        have HLW := Lib.hid (HLW.out.below hB)
        have HI9 := Lib.hid (HI9.out.below hB)
        have HBW := Lib.hid (join HBW.out hB)
        have H18 := Lib.hid H18
        clear k0 k1 k2 k3 k4 k5 k6 k7 k8
        clear hB 
        obtain ⟨k0, k1, k2⟩ := blk3 HLW.out.prm
        obtain ⟨k3, k4, k5⟩ := blk3 HLW.out.x7
        obtain ⟨k6, k7, k8⟩ := blk3 HLW.out.x8
        go_wp2_with fail
        refine (CLO.out p7 q7 a7 b7 ⟨hcw.1, hcw.2⟩ _ HLW.out.r7).mono ?_
        rintro e w2 ⟨v19, rfl, ho, hB⟩
        have HLW := Lib.hid (HLW.out.below hB)
        have HI9 := Lib.hid (HI9.out.below hB)
        have H18 := Lib.hid (H18.out.below hB)
        have HBW := Lib.hid (join HBW.out hB)
        obtain ⟨p19, c19, rfl, H19, -⟩ := own_rd ho rfl
        have H19 := Lib.hid H19
        clear k0 k1 k2 k3 k4 k5 k6 k7 k8
        clear hB ho
        obtain ⟨k0, k1, k2⟩ := blk3 HLW.out.prm
        obtain ⟨k3, k4, k5⟩ := blk3 HLW.out.x7
        obtain ⟨k6, k7, k8⟩ := blk3 HLW.out.x8
        go_wp2_with fail
        refine (CCK.out p8 q8 a8 b8 _ HLW.out.r8).mono ?_
        rintro e w2 ⟨rfl, hB⟩
        have HLW := Lib.hid (HLW.out.below hB)
        have HI9 := Lib.hid (HI9.out.below hB)
        have H18 := Lib.hid (H18.out.below hB)
        have H19 := Lib.hid (H19.out.below hB)
        have HBW := Lib.hid (join HBW.out hB)
        clear k0 k1 k2 k3 k4 k5 k6 k7 k8
        clear hB 
        obtain ⟨k0, k1, k2⟩ := blk3 HLW.out.prm
        obtain ⟨k3, k4, k5⟩ := blk3 HLW.out.x7
        obtain ⟨k6, k7, k8⟩ := blk3 HLW.out.x8
        go_wp2_with fail
        refine (CRL.out p8 q8 a8 b8 _ HLW.out.r8).mono ?_
        rintro e w2 ⟨p22, c22, rfl, H22, hB⟩
        have HLW := Lib.hid (HLW.out.below hB)
        have HI9 := Lib.hid (HI9.out.below hB)
        have H18 := Lib.hid (H18.out.below hB)
        have H19 := Lib.hid (H19.out.below hB)
        have HBW := Lib.hid (join HBW.out hB)
        have H22 := Lib.hid H22
        clear k0 k1 k2 k3 k4 k5 k6 k7 k8
        clear hB 
        obtain ⟨k0, k1, k2⟩ := blk3 HLW.out.prm
        obtain ⟨k3, k4, k5⟩ := blk3 HLW.out.x7
        obtain ⟨k6, k7, k8⟩ := blk3 HLW.out.x8
        go_wp2_with fail
        refine (Like_ints p19 p22 c19 c22 ll ll true (by simp) _ hll hll H19.out H22.out).mono ?_
        rintro e w2 ⟨rfl, hB⟩
        have HLW := Lib.hid (HLW.out.below hB)
        have HI9 := Lib.hid (HI9.out.below hB)
        have H18 := Lib.hid (H18.out.below hB)
        have H19 := Lib.hid (H19.out.below hB)
        have H22 := Lib.hid (H22.out.below hB)
        have HBW := Lib.hid (join HBW.out hB)
        clear k0 k1 k2 k3 k4 k5 k6 k7 k8
        clear hB H22
        obtain ⟨k0, k1, k2⟩ := blk3 HLW.out.prm
        obtain ⟨k3, k4, k5⟩ := blk3 HLW.out.x7
        obtain ⟨k6, k7, k8⟩ := blk3 HLW.out.x8
        go_wp2_with fail
        refine (CRI.out p8 q8 a8 b8 _ HLW.out.r8).mono ?_
        rintro e w2 ⟨v20, xs20, rfl, ho, he20, hB⟩
        have HLW := Lib.hid (HLW.out.below hB)
        have HI9 := Lib.hid (HI9.out.below hB)
        have H18 := Lib.hid (H18.out.below hB)
        have H19 := Lib.hid (H19.out.below hB)
        have HBW := Lib.hid (join HBW.out hB)
        obtain ⟨p20, c20, rfl, H20⟩ := LLs.of_own ho he20
        have H20 := Lib.hid H20
        clear k0 k1 k2 k3 k4 k5 k6 k7 k8
        clear hB ho he20
        obtain ⟨k0, k1, k2⟩ := blk3 HLW.out.prm
        obtain ⟨k3, k4, k5⟩ := blk3 HLW.out.x7
        obtain ⟨k6, k7, k8⟩ := blk3 HLW.out.x8
        go_wp2_with fail
        refine (CRF.out p20 c20 _ H20.out).mono ?_
        rintro e w3 ⟨rfl, hw3⟩
        subst hw3
        clear k0 k1 k2 k3 k4 k5 k6 k7 k8
        clear H20
        obtain ⟨k0, k1, k2⟩ := blk3 HLW.out.prm
        obtain ⟨k3, k4, k5⟩ := blk3 HLW.out.x7
        obtain ⟨k6, k7, k8⟩ := blk3 HLW.out.x8
        go_wp2_with fail
        refine (same_yes t hl1 hl2 p7 q7 pw pt a7 b7 cw ct _ HLW.out.r7 HLW.out.r0).mono ?_
        rintro e w2 ⟨rfl, hB⟩
        have HLW := Lib.hid (HLW.out.below hB)
        have HI9 := Lib.hid (HI9.out.below hB)
        have H18 := Lib.hid (H18.out.below hB)
        have H19 := Lib.hid (H19.out.below hB)
        have HBW := Lib.hid (join HBW.out hB)
        clear k0 k1 k2 k3 k4 k5 k6 k7 k8
        clear hB 
        obtain ⟨k0, k1, k2⟩ := blk3 HLW.out.prm
        obtain ⟨k3, k4, k5⟩ := blk3 HLW.out.x7
        obtain ⟨k6, k7, k8⟩ := blk3 HLW.out.x8
        go_wp2_with fail
        refine (Like_ints p9 pl c9 cl l l true (by simp) _ hl3 hl3 HI9.out (HL.out.below HBW.out)).mono ?_
        rintro e w2 ⟨rfl, hB⟩
        have HLW := Lib.hid (HLW.out.below hB)
        have HI9 := Lib.hid (HI9.out.below hB)
        have H18 := Lib.hid (H18.out.below hB)
        have H19 := Lib.hid (H19.out.below hB)
        have HBW := Lib.hid (join HBW.out hB)
        clear k0 k1 k2 k3 k4 k5 k6 k7 k8
        clear hB 
        obtain ⟨k0, k1, k2⟩ := blk3 HLW.out.prm
        obtain ⟨k3, k4, k5⟩ := blk3 HLW.out.x7
        obtain ⟨k6, k7, k8⟩ := blk3 HLW.out.x8
        go_wp2_with fail
        refine (awake_any _).mono ?_
        rintro e w10 ⟨rfl, hB10⟩
        have HBW := Lib.hid (join HBW.out hB10)
        clear hB10
        go_wp2
        go_ret
        exact ⟨rfl, HBW.out⟩
      · have hBn : B ≠ 0 := by omega
        rw [if_neg hBn] at CMK
        rw [if_neg hBn] at CRF
        obtain ⟨hml, hsh⟩ := HF.out.mn hBn
        have CRS1 := Lib.hid (CRS0.out hml)
        rw [hsh] at CRS1
        clear CRS0 HF F her hB0 hBn hsh
        have CRS0 := CRS1
        clear CRS1
        generalize markL t = ml at CMK CRS0 hml
        obtain ⟨k0, k1, k2⟩ := blk3 HLW.out.prm
        obtain ⟨k3, k4, k5⟩ := blk3 HLW.out.x7
        obtain ⟨k6, k7, k8⟩ := blk3 HLW.out.x8
        go_wp2_with fail
        refine (CSH.out p7 q7 p9 a7 b7 c9 ⟨hcw.1, hcw.2⟩ _ HLW.out.r7 HI9.out).mono ?_
        rintro e w2 ⟨rfl, hB⟩
        have HLW := Lib.hid (HLW.out.below hB)
        have HI9 := Lib.hid (HI9.out.below hB)
        have HBW := Lib.hid (join HBW.out hB)
        clear k0 k1 k2 k3 k4 k5 k6 k7 k8
        clear hB 
        obtain ⟨k0, k1, k2⟩ := blk3 HLW.out.prm
        obtain ⟨k3, k4, k5⟩ := blk3 HLW.out.x7
        obtain ⟨k6, k7, k8⟩ := blk3 HLW.out.x8
        go_wp2_with fail
        refine (CRS.out p8 q8 pl a8 b8 cl _ HLW.out.r8 (HL.out.below HBW.out)).mono ?_
        rintro e w2 ⟨rfl, hB⟩
        have HLW := Lib.hid (HLW.out.below hB)
        have HI9 := Lib.hid (HI9.out.below hB)
        have HBW := Lib.hid (join HBW.out hB)
        clear k0 k1 k2 k3 k4 k5 k6 k7 k8
        clear hB 
        obtain ⟨k0, k1, k2⟩ := blk3 HLW.out.prm
        obtain ⟨k3, k4, k5⟩ := blk3 HLW.out.x7
        obtain ⟨k6, k7, k8⟩ := blk3 HLW.out.x8
        go_wp2_with fail
        refine (CMK.out p7 q7 a7 b7 ⟨hcw.1, hcw.2⟩ _ HLW.out.r7).mono ?_
        rintro e w2 ⟨p18, c18, rfl, H18, hB⟩
        have HLW := Lib.hid (HLW.out.below hB)
        have HI9 := Lib.hid (HI9.out.below hB)
        have HBW := Lib.hid (join HBW.out hB)
        have H18 := Lib.hid H18
        clear k0 k1 k2 k3 k4 k5 k6 k7 k8
        clear hB 
        obtain ⟨k0, k1, k2⟩ := blk3 HLW.out.prm
        obtain ⟨k3, k4, k5⟩ := blk3 HLW.out.x7
        obtain ⟨k6, k7, k8⟩ := blk3 HLW.out.x8
        go_wp2_with fail
        refine (CLO.out p7 q7 a7 b7 ⟨hcw.1, hcw.2⟩ _ HLW.out.r7).mono ?_
        rintro e w2 ⟨v19, rfl, ho, hB⟩
        have HLW := Lib.hid (HLW.out.below hB)
        have HI9 := Lib.hid (HI9.out.below hB)
        have H18 := Lib.hid (H18.out.below hB)
        have HBW := Lib.hid (join HBW.out hB)
        obtain ⟨p19, c19, rfl, H19, -⟩ := own_rd ho rfl
        have H19 := Lib.hid H19
        clear k0 k1 k2 k3 k4 k5 k6 k7 k8
        clear hB ho
        obtain ⟨k0, k1, k2⟩ := blk3 HLW.out.prm
        obtain ⟨k3, k4, k5⟩ := blk3 HLW.out.x7
        obtain ⟨k6, k7, k8⟩ := blk3 HLW.out.x8
        go_wp2_with fail
        refine (CCK.out p8 q8 a8 b8 _ HLW.out.r8).mono ?_
        rintro e w2 ⟨rfl, hB⟩
        have HLW := Lib.hid (HLW.out.below hB)
        have HI9 := Lib.hid (HI9.out.below hB)
        have H18 := Lib.hid (H18.out.below hB)
        have H19 := Lib.hid (H19.out.below hB)
        have HBW := Lib.hid (join HBW.out hB)
        clear k0 k1 k2 k3 k4 k5 k6 k7 k8
        clear hB 
        obtain ⟨k0, k1, k2⟩ := blk3 HLW.out.prm
        obtain ⟨k3, k4, k5⟩ := blk3 HLW.out.x7
        obtain ⟨k6, k7, k8⟩ := blk3 HLW.out.x8
        go_wp2_with fail
        refine (CRL.out p8 q8 a8 b8 _ HLW.out.r8).mono ?_
        rintro e w2 ⟨p22, c22, rfl, H22, hB⟩
        have HLW := Lib.hid (HLW.out.below hB)
        have HI9 := Lib.hid (HI9.out.below hB)
        have H18 := Lib.hid (H18.out.below hB)
        have H19 := Lib.hid (H19.out.below hB)
        have HBW := Lib.hid (join HBW.out hB)
        have H22 := Lib.hid H22
        clear k0 k1 k2 k3 k4 k5 k6 k7 k8
        clear hB 
        obtain ⟨k0, k1, k2⟩ := blk3 HLW.out.prm
        obtain ⟨k3, k4, k5⟩ := blk3 HLW.out.x7
        obtain ⟨k6, k7, k8⟩ := blk3 HLW.out.x8
        go_wp2_with fail
        refine (Like_ints p19 p22 c19 c22 ll ll true (by simp) _ hll hll H19.out H22.out).mono ?_
        rintro e w2 ⟨rfl, hB⟩
        have HLW := Lib.hid (HLW.out.below hB)
        have HI9 := Lib.hid (HI9.out.below hB)
        have H18 := Lib.hid (H18.out.below hB)
        have H19 := Lib.hid (H19.out.below hB)
        have H22 := Lib.hid (H22.out.below hB)
        have HBW := Lib.hid (join HBW.out hB)
        clear k0 k1 k2 k3 k4 k5 k6 k7 k8
        clear hB H22
        obtain ⟨k0, k1, k2⟩ := blk3 HLW.out.prm
        obtain ⟨k3, k4, k5⟩ := blk3 HLW.out.x7
        obtain ⟨k6, k7, k8⟩ := blk3 HLW.out.x8
        go_wp2_with fail
        refine (CRI.out p8 q8 a8 b8 _ HLW.out.r8).mono ?_
        rintro e w2 ⟨v20, xs20, rfl, ho, he20, hB⟩
        have HLW := Lib.hid (HLW.out.below hB)
        have HI9 := Lib.hid (HI9.out.below hB)
        have H18 := Lib.hid (H18.out.below hB)
        have H19 := Lib.hid (H19.out.below hB)
        have HBW := Lib.hid (join HBW.out hB)
        obtain ⟨p20, c20, rfl, H20⟩ := LLs.of_own ho he20
        have H20 := Lib.hid H20
        clear k0 k1 k2 k3 k4 k5 k6 k7 k8
        clear hB ho he20
        obtain ⟨k0, k1, k2⟩ := blk3 HLW.out.prm
        obtain ⟨k3, k4, k5⟩ := blk3 HLW.out.x7
        obtain ⟨k6, k7, k8⟩ := blk3 HLW.out.x8
        go_wp2_with fail
        refine (CRF.out p20 c20 _ H20.out).mono ?_
        rintro e w3 ⟨rfl, hw3⟩
        subst hw3
        clear k0 k1 k2 k3 k4 k5 k6 k7 k8
        clear H20
        obtain ⟨k0, k1, k2⟩ := blk3 HLW.out.prm
        obtain ⟨k3, k4, k5⟩ := blk3 HLW.out.x7
        obtain ⟨k6, k7, k8⟩ := blk3 HLW.out.x8
        go_wp2_with fail
        refine (CRS0.out p8 q8 p18 a8 b8 c18 _ HLW.out.r8 H18.out).mono ?_
        rintro e w2 ⟨rfl, hB⟩
        have HLW := Lib.hid (HLW.out.below hB)
        have HI9 := Lib.hid (HI9.out.below hB)
        have H18 := Lib.hid (H18.out.below hB)
        have H19 := Lib.hid (H19.out.below hB)
        have HBW := Lib.hid (join HBW.out hB)
        clear k0 k1 k2 k3 k4 k5 k6 k7 k8
        clear hB 
        obtain ⟨k0, k1, k2⟩ := blk3 HLW.out.prm
        obtain ⟨k3, k4, k5⟩ := blk3 HLW.out.x7
        obtain ⟨k6, k7, k8⟩ := blk3 HLW.out.x8
        go_wp2_with fail
        refine (same_yes t hl1 hl2 p7 q7 pw pt a7 b7 cw ct _ HLW.out.r7 HLW.out.r0).mono ?_
        rintro e w2 ⟨rfl, hB⟩
        have HLW := Lib.hid (HLW.out.below hB)
        have HI9 := Lib.hid (HI9.out.below hB)
        have H18 := Lib.hid (H18.out.below hB)
        have H19 := Lib.hid (H19.out.below hB)
        have HBW := Lib.hid (join HBW.out hB)
        clear k0 k1 k2 k3 k4 k5 k6 k7 k8
        clear hB 
        obtain ⟨k0, k1, k2⟩ := blk3 HLW.out.prm
        obtain ⟨k3, k4, k5⟩ := blk3 HLW.out.x7
        obtain ⟨k6, k7, k8⟩ := blk3 HLW.out.x8
        go_wp2_with fail
        refine (Like_ints p9 pl c9 cl l l true (by simp) _ hl3 hl3 HI9.out (HL.out.below HBW.out)).mono ?_
        rintro e w2 ⟨rfl, hB⟩
        have HLW := Lib.hid (HLW.out.below hB)
        have HI9 := Lib.hid (HI9.out.below hB)
        have H18 := Lib.hid (H18.out.below hB)
        have H19 := Lib.hid (H19.out.below hB)
        have HBW := Lib.hid (join HBW.out hB)
        clear k0 k1 k2 k3 k4 k5 k6 k7 k8
        clear hB 
        obtain ⟨k0, k1, k2⟩ := blk3 HLW.out.prm
        obtain ⟨k3, k4, k5⟩ := blk3 HLW.out.x7
        obtain ⟨k6, k7, k8⟩ := blk3 HLW.out.x8
        go_wp2_with fail
        refine (awake_any _).mono ?_
        rintro e w10 ⟨rfl, hB10⟩
        have HBW := Lib.hid (join HBW.out hB10)
        clear hB10
        go_wp2
        go_ret
        exact ⟨rfl, HBW.out⟩
end Go.Proofs.Ytadnggecnjdhiaa
namespace Go.Proofs.Ytadnggecnjdhiaa
open Go.ChangeShapes Go.WideShapes Go.ChangeAt Go.RowKit Go.Joins Tx
set_option linter.unusedVariables false
set_option linter.unusedSimpArgs false

set_option maxRecDepth 100000 in
theorem TextMarks_lifted (os : Os) (started : os.Started) (H : Type) (enc : TypeId × Value → H) :
    ReturnsInHanded {} Try.checked os 5 .any (Rows.textMarksSpec.pre6 enc Try.prog Try.f5 Rows.textMarksRow.domain false) (Rows.textMarksSpec.post enc Try.prog Try.f5 false true false false) := by
  refine returnsInHanded_of_change (C := Try.checked) Try.own started (by kernel_rfl) Try.func5
    (ChangeSpec.witness6 (enc := enc) (C := Try.checked) false ⟨#[], #[.agg #[.slice none 0 0, .slice none 0 0, .int .i64 0], .slice none 0 0], []⟩ 8 (by kernel_rfl) (by kernel_rfl) (by kernel_rfl) (by kernel_rfl)) ?_
  intro W base args ds gs before hval0 hW hcnd _
  have hval : ∀ (j : Nat) t v, Try.f5.params[j]? = some t → args[j]? = some v → Value.okWide Try.prog W .any base t v := hval0
  have hW' := hW
  obtain ⟨p, q, hA0, hV, rfl, hfz, hnd⟩ := hW
  have hA : DataW.TrodAll enc Try.prog W 0 (fun _ => true) true Try.f5.params.toList args.toList ds p := hA0
  rw [Try.params5] at hA hval
  obtain ⟨v0, vs0, d0, ds0, p0, q0, hargs, rfl, rfl, h0, r0⟩ := trodAll_cons hA
  obtain ⟨v1, vs1, d1, ds1, p1, q1, rfl, rfl, rfl, h1, r1⟩ := trodAll_cons r0
  obtain ⟨rfl, rfl, rfl⟩ := trodAll_nil r1
  obtain rfl : args = #[v0, v1] := by cases args; simp_all
  obtain ⟨rfl, rfl⟩ := trodVars_none hV
  have lt0 := lt_of_trod h0
  have k0 := h0
  obtain ⟨pw0, pt0, cw0, ct0, t0, e0, hT0, l0, m0⟩ := text_of_trod (fun _ => rfl) (hval 0 25 v0 rfl rfl) h0
  have lt1 := lt_of_trod h1
  have k1 := h1
  obtain ⟨a1, c1, xs1, e1, hL1, l1⟩ := ints_of_Trod (fun _ => rfl) (hval 1 28 v1 rfl rfl) h1
  clear hA0 hval0
  subst e0
  subst e1
  refine (TextMarks_any t0 xs1 l0 m0 l1 pw0 pt0 a1 cw0 ct0 c1 W hT0 hL1).mono fun e W' ⟨he, bel⟩ => ?_
  subst he
  exact ⟨_, rfl, _, _, _, [], _, [], hW', trodAll_mk1 (shut_bool Try.underlying4 _), (trodAll_cons_mk (Below.trod Try.laidOut (by kernel_rfl) (of_decide_eq_true (by kernel_rfl)) k0 bel lt0) (trodAll_cons_mk (Below.trod Try.laidOut (by kernel_rfl) (of_decide_eq_true (by kernel_rfl)) k1 bel lt1) trodAll_mk0)), rfl, bel.frame _, fun h => by cases h⟩

theorem TextMarks_holds : Rows.TextMarksSaid :=
  OpenClaim.holds_of_wide 5 Try.f5 rfl rfl rfl rfl rfl rfl rfl ⟨rfl, rfl, rfl, rfl, rfl⟩ rfl rfl rfl rfl rfl (by kernel_rfl) Try.func5 (by kernel_rfl)
    (of_decide_eq_true (by kernel_rfl)) (by unfold Func.isWrapper; first | (rw [if_pos (by decide +kernel)]; kernel_rfl) | (rw [if_neg (by decide +kernel)]; exact ⟨rfl, rfl⟩))
    (fun os started H enc _ => TextMarks_lifted os started H enc)
end Go.Proofs.Ytadnggecnjdhiaa
