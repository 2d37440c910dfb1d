/- What TextKept asks. -/
import Derived.Test.YtadnggecnjdhiaaZl
namespace Go.Proofs.Ytadnggecnjdhiaa.Tx
set_option linter.unusedSimpArgs false
set_option linter.unusedVariables false

/-- the word behind which the stops of word i of a list are looked for -/
def nextI (l : List Int) (n : Int) (i : Nat) : Int := if i + 1 < l.length then l.getD (i + 1) 0 else n
def stopsB (ws : List Word) (lo hi : Int) : Bool := (slice ws lo.toNat hi.toNat).any (·.stop)
def shortAt (ws : List Word) (l : List Int) (n : Int) (i : Nat) : Word := { ws.getD (l.getD i 0).toNat default with stop := stopsB ws (l.getD i 0) (nextI l n i) }
def shortW (ws : List Word) (l : List Int) (n : Int) : List Word := (List.range l.length).map (shortAt ws l n)
def nowF (l : List Int) (x : Int) : Int := if l.contains x then (l.idxOf x : Int) else -1
def shortTurn (l : List Int) (u : Turn) : Turn := ⟨l.idxOf u.word, l.idxOf u.lo, l.idxOf u.hi⟩
def shortTs (ts : List Turn) (l : List Int) : List Turn := (ts.filter fun u => coreIn u l && l.contains u.word).map (shortTurn l)
def Text.shortT (t : Text) (l : List Int) : Text := ⟨shortW t.words l t.words.length, shortTs t.turns l, t.breath⟩

theorem shortW_len (ws : List Word) (l : List Int) (n : Int) : (shortW ws l n).length = l.length := by simp [shortW]
theorem shortW_get {ws : List Word} {l : List Int} {n : Int} {i : Nat} (h : i < l.length) : (shortW ws l n).getD i default = shortAt ws l n i := by
  simp [shortW, h]
theorem slice_snoc {α : Type} (d : α) (ws : List α) {a b : Nat} (ha : a ≤ b) (hb : b < ws.length) : slice ws a (b + 1) = slice ws a b ++ [ws.getD b d] := by
  unfold slice
  rw [show b + 1 - a = (b - a) + 1 by omega, List.take_add_one]
  congr 1
  rw [List.getElem?_drop, show a + (b - a) = b by omega]
  simp [hb]
theorem stopsB_snoc {ws : List Word} {a b : Nat} (ha : a ≤ b) (hb : b < ws.length) : stopsB ws a ((b : Int) + 1) = (stopsB ws a b || (ws.getD b default).stop) := by
  unfold stopsB
  rw [show ((b : Int) + 1).toNat = b + 1 by omega, show ((a : Int)).toNat = a by omega, show ((b : Int)).toNat = b by omega, slice_snoc default ws ha hb]
  simp

/-- l's first k numbers are those below w -/
structure Upto (l : List Int) (n k w : Nat) : Prop where
  asc : l.Pairwise (· < ·)
  rng : ∀ x ∈ l, 0 ≤ x ∧ x < (n : Int)
  kl : k ≤ l.length
  lo : ∀ i, i < k → l.getD i 0 < (w : Int)
  hi : ∀ i, k ≤ i → i < l.length → (w : Int) ≤ l.getD i 0
theorem Upto.start {l : List Int} {n : Nat} (h1 : l.Pairwise (· < ·)) (h2 : ∀ x ∈ l, 0 ≤ x ∧ x < (n : Int)) : Upto l n 0 0 :=
  ⟨h1, h2, by omega, fun i h => by omega, fun i _ h => by
    have := (h2 (l.getD i 0) (by simp [h])).1
    exact this⟩
theorem getD_lt {l : List Int} (h : l.Pairwise (· < ·)) {i j : Nat} (hij : i < j) (hj : j < l.length) : l.getD i 0 < l.getD j 0 := by
  have := List.pairwise_iff_getElem.1 h i j (by omega) hj hij
  simpa [hj, show i < l.length by omega] using this
theorem getD_memI {l : List Int} {i : Nat} (h : i < l.length) : l.getD i 0 ∈ l := by simp [h]
theorem Upto.hit {l : List Int} {n k w : Nat} (h : Upto l n k w) (hc : l.contains (w : Int) = true) : k < l.length ∧ l.getD k 0 = (w : Int) := by
  obtain ⟨i, hi, he⟩ := List.mem_iff_getElem.1 (List.contains_iff_mem.1 hc)
  have hg : l.getD i 0 = (w : Int) := by simp [hi, he]
  have h1 : k ≤ i := by
    rcases Nat.lt_or_ge i k with g | g
    · have := h.lo i g; omega
    · exact g
  have h2 := h.hi k (Nat.le_refl _) (by omega)
  rcases Nat.lt_or_ge k i with g | g
  · have := getD_lt h.asc g hi; omega
  · obtain rfl : i = k := by omega
    exact ⟨hi, hg⟩
theorem Upto.next {l : List Int} {n k w : Nat} (h : Upto l n k w) (hc : l.contains (w : Int) = true) : Upto l n (k + 1) (w + 1) := by
  obtain ⟨h1, h2⟩ := h.hit hc
  refine ⟨h.asc, h.rng, h1, fun i hi => ?_, fun i hi hl => ?_⟩
  · rcases Nat.lt_or_ge i k with g | g
    · have := h.lo i g; omega
    · obtain rfl : i = k := by omega
      omega
  · have := getD_lt h.asc (show k < i by omega) hl; omega
theorem Upto.miss {l : List Int} {n k w : Nat} (h : Upto l n k w) (hc : l.contains (w : Int) = false) : Upto l n k (w + 1) := by
  refine ⟨h.asc, h.rng, h.kl, fun i hi => by have := h.lo i hi; omega, fun i hi hl => ?_⟩
  have h1 := h.hi i hi hl
  have h2 : l.getD i 0 ≠ (w : Int) := fun e => by
    have := getD_memI hl
    rw [e, ← List.contains_iff_mem, hc] at this
    exact absurd this (by simp)
  omega
theorem Upto.full {l : List Int} {n k : Nat} (h : Upto l n k n) : k = l.length := by
  rcases Nat.lt_or_ge k l.length with g | g
  · have h1 := h.hi k (Nat.le_refl _) g
    have h2 := (h.rng _ (getD_memI g)).2
    omega
  · have := h.kl; omega
theorem Upto.idx {l : List Int} {n k w : Nat} (h : Upto l n k w) (hc : l.contains (w : Int) = true) : nowF l w = (k : Int) := by
  obtain ⟨h1, h2⟩ := h.hit hc
  unfold nowF
  rw [if_pos hc]
  have hm := List.contains_iff_mem.1 hc
  have hi : l.idxOf (w : Int) < l.length := List.idxOf_lt_length_of_mem hm
  have hg : l[l.idxOf (w : Int)] = (w : Int) := List.getElem_idxOf hi
  have hg' : l.getD (l.idxOf (w : Int)) 0 = (w : Int) := by simp [hi, hg]
  rcases Nat.lt_trichotomy (l.idxOf (w : Int)) k with g | g | g
  · have := getD_lt h.asc g h1; omega
  · rw [g]
  · have := getD_lt h.asc g hi; omega
theorem nowF_miss {l : List Int} {x : Int} (hc : l.contains x = false) : nowF l x = -1 := by unfold nowF; rw [hc]; rfl
theorem nowF_pos (l : List Int) (x : Int) : decide (0 ≤ nowF l x) = l.contains x := by
  unfold nowF
  cases h : l.contains x <;> simp
theorem nowF_bd (l : List Int) (x : Int) : -1 ≤ nowF l x ∧ nowF l x ≤ l.length := by
  unfold nowF
  have := List.idxOf_le_length (a := x) (l := l)
  split <;> omega

theorem getD_takeI {l : List Int} {k i : Nat} (h : i < k) : (l.take k).getD i 0 = l.getD i 0 := by
  simp [List.getElem?_take, h]
/-- a word that is kept comes to the others -/
theorem short_hit {ws : List Word} {l : List Int} {k w : Nat} (h : Upto l ws.length k w) (hw : w < ws.length) (hc : l.contains (w : Int) = true) :
    shortW ws (l.take (k + 1)) ((w : Int) + 1) = shortW ws (l.take k) w ++ [ws.getD w default] := by
  obtain ⟨h1, h2⟩ := h.hit hc
  have hl1 : (l.take (k + 1)).length = k + 1 := by simp; omega
  have hl2 : (l.take k).length = k := by simp; omega
  unfold shortW
  rw [hl1, hl2, List.range_succ, List.map_append]
  congr 1
  · apply List.map_congr_left
    intro i hi
    have hi : i < k := by simpa using hi
    unfold shortAt nextI
    rw [getD_takeI (show i < k + 1 by omega), getD_takeI hi, hl1, hl2, if_pos (by omega), getD_takeI (show i + 1 < k + 1 by omega)]
    by_cases hk : i + 1 < k
    · rw [if_pos hk, getD_takeI hk]
    · obtain rfl : k = i + 1 := by omega
      rw [if_neg hk, h2]
  · simp only [List.map_cons, List.map_nil]
    unfold shortAt nextI
    rw [getD_takeI (show k < k + 1 by omega), hl1, if_neg (by omega), h2, stopsB_snoc (Nat.le_refl _) hw]
    have e0 : stopsB ws (w : Int) (w : Int) = false := by unfold stopsB slice; simp
    rw [e0, Bool.false_or, show ((w : Int)).toNat = w by omega]
/-- a word that is left out: its stop goes to the last one -/
theorem short_miss {ws : List Word} {l : List Int} {k w : Nat} (h : Upto l ws.length k w) (hw : w < ws.length) :
    shortW ws (l.take k) ((w : Int) + 1) = if 0 < k ∧ (ws.getD w default).stop = true then (shortW ws (l.take k) w).set (k - 1) { (shortW ws (l.take k) w).getD (k - 1) default with stop := true } else shortW ws (l.take k) w := by
  have hkl := h.kl
  have hl2 : (l.take k).length = k := by simp; omega
  apply List.ext_getElem?
  intro i
  by_cases hi : i < k
  · have e1 : ∀ n, (shortW ws (l.take k) n)[i]? = some (shortAt ws (l.take k) n i) := fun n => by
      unfold shortW; rw [hl2]; simp [hi]
    rw [e1]
    have hlo := h.lo i hi
    have h0 := (h.rng (l.getD i 0) (getD_memI (by omega))).1
    obtain ⟨a, ha⟩ := Int.eq_ofNat_of_zero_le h0
    have hnx : i + 1 < k → shortAt ws (l.take k) ((w : Int) + 1) i = shortAt ws (l.take k) w i := fun g => by
      unfold shortAt nextI; rw [hl2, if_pos g, if_pos g]
    have hla : ¬ i + 1 < k → shortAt ws (l.take k) ((w : Int) + 1) i = { shortAt ws (l.take k) w i with stop := (shortAt ws (l.take k) w i).stop || (ws.getD w default).stop } := fun g => by
      unfold shortAt nextI
      rw [hl2, if_neg g, if_neg g, getD_takeI hi, ha]
      simp only
      rw [stopsB_snoc (by omega) hw]
    by_cases g : i + 1 < k
    · rw [hnx g]
      split
      · rw [List.getElem?_set, if_neg (by omega), e1]
      · rw [e1]
    · rw [hla g]
      obtain rfl : k = i + 1 := by omega
      split
      · rename_i hh
        rw [List.getElem?_set, if_pos (by omega), if_pos (by rw [shortW_len, hl2]; omega), show i + 1 - 1 = i by omega, shortW_get (by rw [hl2]; omega), hh.2, Bool.or_true]
      · rename_i hh
        have : (ws.getD w default).stop = false := by
          cases hs : (ws.getD w default).stop
          · rfl
          · exact absurd ⟨by omega, hs⟩ hh
        rw [e1, this, Bool.or_false]
  · have e0 : ∀ n, (shortW ws (l.take k) n)[i]? = none := fun n => by
      rw [List.getElem?_eq_none]; rw [shortW_len, hl2]; omega
    rw [e0]
    split
    · rw [List.getElem?_set, if_neg (by omega), e0]
    · rw [e0]
theorem coreNow (u : Turn) (l : List Int) : ((List.range (u.hi + 1 - u.lo).toNat).all fun k => decide (0 ≤ nowF l (u.lo + (k : Int)))) = coreIn u l := by
  unfold coreIn
  congr 1
  funext k
  exact nowF_pos l _
/-- numbers that do not go up -/
def notUp : Int → List Int → Bool
  | _, [] => false
  | a, x :: l => decide (x ≤ a) || notUp x l
theorem notUp_snoc (x : Int) : ∀ (l : List Int) (a : Int), notUp a (l ++ [x]) = (notUp a l || decide (x ≤ (l.getLast?.getD a)))
  | [], a => by show (decide (x ≤ a) || false) = (false || decide (x ≤ a)); rw [Bool.or_false, Bool.false_or]
  | y :: l, a => by
    have e : (y :: l).getLast?.getD a = l.getLast?.getD y := by
      cases l with
      | nil => simp
      | cons z l => rw [List.getLast?_cons_cons, List.getLast?_eq_some_getLast (by simp)]; rfl
    rw [List.cons_append, notUp, notUp, notUp_snoc x l y, Bool.or_assoc, e]
theorem notUp_iff : ∀ (l : List Int) (a : Int), notUp a l = false ↔ (a :: l).Pairwise (· < ·)
  | [], a => by simp [notUp]
  | x :: l, a => by
    rw [notUp, Bool.or_eq_false_iff, notUp_iff l x]
    constructor
    · rintro ⟨h1, h2⟩
      have h1 : a < x := by simpa using h1
      refine List.pairwise_cons.2 ⟨fun y hy => ?_, h2⟩
      rcases List.mem_cons.1 hy with rfl | hy
      · exact h1
      · have := (List.pairwise_cons.1 h2).1 y hy; omega
    · intro h
      have := List.pairwise_cons.1 h
      exact ⟨by simpa using this.1 x (by simp), this.2⟩
/-- the reference's look: each number and the one ahead of it -/
theorem notUp_adj : ∀ (l : List Int) (a : Int), (∀ x ∈ l, a < x) → (notUp a l = (List.range (l.length - 1)).any fun i => decide (l.getD (i + 1) 0 ≤ l.getD i 0))
  | [], a, _ => by simp [notUp]
  | [x], a, h => by
    have := h x (by simp)
    simp [notUp]; omega
  | x :: y :: l, a, h => by
    have hx := h x (by simp)
    have e0 : decide (x ≤ a) = false := by simp; omega
    have e1 : (List.range ((x :: y :: l).length - 1)) = 0 :: (List.range ((y :: l).length - 1)).map (· + 1) := by
      rw [show (x :: y :: l).length - 1 = ((y :: l).length - 1) + 1 by simp, List.range_succ_eq_map]
    rw [e1, List.any_cons, List.any_map, notUp, e0, Bool.false_or]
    by_cases hyx : y ≤ x
    · rw [notUp]; simp [hyx]
    · have e2 : decide (y ≤ x) = false := by simpa using hyx
      have h3 : notUp x (y :: l) = notUp (y - 1) (y :: l) := by
        rw [notUp, notUp, e2]
        have : decide (y ≤ y - 1) = false := by simp; omega
        rw [this]
      by_cases hall : ∀ z ∈ l, y - 1 < z
      · rw [h3, notUp_adj (y :: l) (y - 1) (fun z hz => by
          rcases List.mem_cons.1 hz with rfl | hz
          · omega
          · exact hall z hz)]
        have e3 : decide ((x :: y :: l).getD (0 + 1) 0 ≤ (x :: y :: l).getD 0 0) = false := by simpa using e2
        rw [e3, Bool.false_or]
        rfl
      · have h4 : notUp x (y :: l) = true := by
          cases h5 : notUp x (y :: l) with
          | true => rfl
          | false =>
            exfalso
            have := (notUp_iff _ _).1 h5
            have := (List.pairwise_cons.1 (List.pairwise_cons.1 this).2).1
            exact hall fun z hz => by have := this z hz; omega
        rw [h4]
        have h5 : ¬ (∀ i, i < (y :: l).length - 1 → (y :: l).getD i 0 < (y :: l).getD (i + 1) 0) := fun hh => by
          apply hall
          have : ∀ i, i < (y :: l).length → y ≤ (y :: l).getD i 0 := fun i => by
            induction i with
            | zero => intro _; simp
            | succ i ih => intro hi; have := ih (by omega); have := hh i (by omega); omega
          intro z hz
          obtain ⟨i, hi, he⟩ := List.mem_iff_getElem.1 (List.mem_cons_of_mem y hz)
          have := this i hi
          simp only [List.getD_eq_getElem?_getD, List.getElem?_eq_getElem hi, Option.getD_some, he] at this
          omega
        symm
        rw [Bool.or_eq_true]
        right
        apply Classical.byContradiction
        intro h6
        apply h5
        intro i hi
        have h7 : ¬ (decide ((x :: y :: l).getD (i + 1 + 1) 0 ≤ (x :: y :: l).getD (i + 1) 0)) = true := fun e => h6 (List.any_eq_true.2 ⟨i, by simpa using hi, e⟩)
        simp only [List.getD_cons_succ] at h7
        have : ¬ ((y :: l).getD (i + 1) 0 ≤ (y :: l).getD i 0) := by simpa using h7
        omega
/-- the error of kept words -/
def Text.keptE (t : Text) (l : List Int) : Int :=
  if t.err ≠ 0 then t.err else if l.length = 0 then 2 else if l.any (absent t.len) then 1 else if notUp (-1) l then 4 else 0
theorem keptE_zero {t : Text} {l : List Int} (h : t.keptE l = 0) : t.err = 0 ∧ l.length ≠ 0 ∧ (∀ x ∈ l, 0 ≤ x ∧ x < (t.len : Int)) ∧ l.Pairwise (· < ·) := by
  unfold Text.keptE at h
  split at h
  · rename_i h1; exact absurd h h1
  · rename_i h1
    split at h
    · exact absurd h (by decide)
    · rename_i h2
      split at h
      · exact absurd h (by decide)
      · rename_i h3
        split at h
        · exact absurd h (by decide)
        · rename_i h4
          refine ⟨by simpa using h1, h2, fun x hx => ?_, ?_⟩
          · have h5 : absent t.len x = false := by
              cases h6 : absent t.len x
              · rfl
              · exact absurd (List.any_eq_true.2 ⟨x, hx, h6⟩) h3
            simp [absent, btw] at h5
            omega
          · have := (notUp_iff l (-1)).1 (by simpa using h4)
            exact (List.pairwise_cons.1 this).2
def paidN (ws : List Word) : Int := isum (ws.map fun x => if 3 < x.syl then 2 else 1)
theorem paidN_snoc (ws : List Word) (x : Word) : paidN (ws ++ [x]) = paidN ws + (if 3 < x.syl then 2 else 1) := by
  unfold paidN; rw [List.map_append, List.map_cons, List.map_nil, isum_snoc]
theorem paidN_bd (ws : List Word) : (ws.length : Int) ≤ paidN ws ∧ paidN ws ≤ (ws.length : Int) * 2 := by
  have := isum_bd (ws.map fun x => if 3 < x.syl then (2 : Int) else 1) 1 2 (fun x hx => by
    obtain ⟨y, _, rfl⟩ := List.mem_map.1 hx
    split <;> omega)
  rw [List.length_map] at this
  unfold paidN
  omega
def Text.priceE (t : Text) (p : Int) : Int := if t.err ≠ 0 then t.err else if btw p 1 100 then 0 else 3
def Text.priceV (t : Text) (p : Int) : Int := if t.priceE p = 0 then paidN t.words * p else 0
end Go.Proofs.Ytadnggecnjdhiaa.Tx
set_option linter.unusedSimpArgs false
set_option linter.unusedVariables false
namespace Go.Proofs.Ytadnggecnjdhiaa
open Go.RowKit Tx
attribute [local go_sem] Oper.semAt_some

set_option maxHeartbeats 400000 in
set_option maxRecDepth 100000 in
theorem errIfE_any (F : FuncId) (hF : Entered F) (E : Value) (q : Int → Bool) (xs : List Int) (p : Option Addr) (c : Nat) (n : Int) (w : World) (hl : xs.length ≤ 1000000) (hi : Ints w p xs) (hq : ∀ W, Below w.heap.size w W → ∀ u : Int, Calls Try.prog F #[E, .int .i64 u] W fun e w' => e = .returned (.bool (q u)) ∧ Below W.heap.size W w') :
    Calls Try.prog 105 #[.slice p xs.length c, .func (.func F) #[E] #[], .int .i64 n] w fun e w' => e = .returned (.int .i64 (errIf q xs n)) ∧ Below w.heap.size w w' := by
  have HI := Lib.hid hi
  have HQ := Lib.hid hq
  have HF := Lib.hid hF
  clear hi hq hF
  go_enter Try.func105, Try.ntmps105
  go_wp2
  go_loopw [11] (fun i wr => ∃ k : Nat, k ≤ xs.length ∧ i = .int .i64 k ∧ (xs.take k).any q = false ∧ Below w.heap.size w wr) (fun i _ => xs.length - (intOf i).toNat)
  case atStart => exact ⟨0, Nat.zero_le _, rfl, rfl, Below.refl _ _⟩
  case round =>
    obtain ⟨k, hk, rfl, hA, hB⟩ := hrel
    have HA := Lib.hid hA
    clear hA
    by_cases hlt : k < xs.length
    · obtain ⟨b, o, x, rfl, hb, hxx, c1⟩ := (HI.out.below hB).at hlt
      have HX := Lib.hid hxx
      have HB := Lib.hid hB
      have HASK := Lib.hid (HQ.out _ hB x)
      clear hxx hB
      go_wp2_with fail
      rw [HF.out, Oper.upon_enter]
      refine HASK.out.mono ?_
      rintro e w5 ⟨rfl, hB5⟩
      clear HASK
      cases hbad : q x with
      | true =>
        have HBAD := Lib.hid hbad
        clear hbad
        go_wp2
        go_ret
        exact ⟨by rw [errIf, if_pos (any_hit 0 hlt _ (by rw [← HX.out]; exact HBAD.out))]; rfl, join HB.out hB5⟩
      | false =>
        have HBAD := Lib.hid hbad
        clear hbad
        go_wp2
        go_roundw
        case rel => exact ⟨k + 1, by omega, by go_num, any_snoc 0 hlt _ HA.out (by rw [← HX.out]; exact HBAD.out), join HB.out hB5⟩
        case measure => simp [intOf]; omega
    · obtain rfl : k = xs.length := by omega
      go_wp2
      go_ret
      exact ⟨by have := HA.out; rw [List.take_length] at this; rw [errIf, this]; rfl, hB⟩

theorem notBeh1_any (x a : Int) (A : Nat) (w : World) (hA : w.heap[A]? = some (.cells #[.int .i64 a] 3 (0, 0))) :
    Calls Try.prog 169 #[.int .i64 x, .pointer (some ⟨A, 0, none⟩)] w fun e w' => e = .returned (.bool (decide (x ≤ a))) ∧ w.setCell ⟨A, 0, none⟩ (.int .i64 x) = w' := by
  have hAl := (Array.getElem?_eq_some_iff.1 hA).1
  have c0 := blk_cells hA 0 _ rfl
  have f0 : w.frozen? ⟨A, 0, none⟩ = false := by simp [World.frozen?, hA]
  clear hA
  by_cases h : x ≤ a
  · have h' : ¬ a < x := by omega
    have e0 : decide (x ≤ a) = true := by simpa using h
    rw [e0]
    clear e0 h
    go_enter Try.func169, Try.ntmps169
    go_wp2
    go_ret
    exact ⟨rfl, rfl⟩
  · have h' : a < x := by omega
    have e0 : decide (x ≤ a) = false := by simpa using h
    rw [e0]
    clear e0 h
    go_enter Try.func169, Try.ntmps169
    go_wp2
    go_ret
    exact ⟨rfl, rfl⟩
theorem entered_notBeh1 : Entered 169 := fun args W => by kernel_rfl
theorem notBeh_any (w : World) :
    Calls Try.prog 154 #[] w fun e w' => e = .returned (.func (.func 169) #[] #[.pointer (some ⟨w.heap.size, 0, none⟩)]) ∧ w.alloc (.cells #[.int .i64 (-1)] 3) = w' := by
  have hmf := mf
  go_enter Try.func154, Try.ntmps154
  go_wp2
  go_ret
  exact ⟨rfl, rfl⟩
def lastI (xs : List Int) (k : Nat) : Int := (xs.take k).getLast?.getD (-1)
theorem lastI_succ {xs : List Int} {k : Nat} (h : k < xs.length) : lastI xs (k + 1) = xs.getD k 0 := by
  unfold lastI; rw [take_snocD 0 h]; simp
theorem notUp_take {xs : List Int} {k : Nat} (h : k < xs.length) (h0 : notUp (-1) (xs.take k) = false) : notUp (-1) (xs.take (k + 1)) = decide (xs.getD k 0 ≤ lastI xs k) := by
  rw [take_snocD 0 h, notUp_snoc, h0, Bool.false_or]; rfl
theorem notUp_more : ∀ (xs ys : List Int) (a : Int), notUp a xs = true → notUp a (xs ++ ys) = true
  | [], _, _, h => by simp [notUp] at h
  | x :: xs, ys, a, h => by
    rw [notUp, Bool.or_eq_true] at h
    rw [List.cons_append, notUp, Bool.or_eq_true]
    exact h.imp id (notUp_more xs ys x)
def upErr (xs : List Int) (n : Int) : Int := if notUp (-1) xs then n else 0
set_option maxHeartbeats 400000 in
set_option maxRecDepth 100000 in
theorem errUp_any (xs : List Int) (p : Option Addr) (c : Nat) (n : Int) (A : Nat) (w0 w : World) (hl : xs.length ≤ 1000000) (hi : Ints w0 p xs) (hb : Below w0.heap.size w0 w) (hz : w0.heap.size ≤ A) (hA : w.heap[A]? = some (.cells #[.int .i64 (-1)] 3 (0, 0))) :
    Calls Try.prog 105 #[.slice p xs.length c, .func (.func 169) #[] #[.pointer (some ⟨A, 0, none⟩)], .int .i64 n] w fun e w' => e = .returned (.int .i64 (upErr xs n)) ∧ Below w0.heap.size w0 w' := by
  have HI := Lib.hid hi
  have hF := entered_notBeh1
  have HF := Lib.hid hF
  have HB := Lib.hid hb
  have HA := Lib.hid hA
  clear hi hF hb hA
  go_enter Try.func105, Try.ntmps105
  go_wp2
  go_loopw [11] (fun i wr => ∃ k : Nat, k ≤ xs.length ∧ i = .int .i64 k ∧ Hid (notUp (-1) (xs.take k) = false) ∧ Hid (wr.heap[A]? = some (.cells #[.int .i64 (lastI xs k)] 3 (0, 0))) ∧ Hid (Below w0.heap.size w0 wr)) (fun i _ => xs.length - (intOf i).toNat)
  case atStart => exact ⟨0, Nat.zero_le _, rfl, Lib.hid rfl, HA, HB⟩
  case round =>
    clear HA HB
    obtain ⟨k, hk, rfl, HU, HA, HB⟩ := hrel
    by_cases hlt : k < xs.length
    · obtain ⟨b, o, x, rfl, hb, hxx, c1⟩ := (HI.out.below HB.out).at hlt
      have HX := Lib.hid hxx
      have HASK := Lib.hid (notBeh1_any x (lastI xs k) A wr HA.out)
      clear hxx
      go_wp2_with fail
      refine HASK.out.mono ?_
      rintro e w5 ⟨rfl, rfl⟩
      have HB5 := Lib.hid (HB.out.setCell (p := ⟨A, 0, none⟩) hz (.int .i64 x))
      have HA5 := Lib.hid (show (wr.setCell ⟨A, 0, none⟩ (.int .i64 x)).heap[A]? = some (.cells #[.int .i64 x] 3 (0, 0)) from heap_set_same _ HA.out)
      clear HASK
      cases hbad : decide (x ≤ lastI xs k) with
      | true =>
        have HBAD := Lib.hid hbad
        clear hbad
        go_wp2
        go_ret
        refine ⟨?_, HB5.out⟩
        have h1 := notUp_take hlt HU.out
        rw [← HX.out, HBAD.out] at h1
        have h2 := notUp_more _ (xs.drop (k + 1)) _ h1
        rw [List.take_append_drop] at h2
        rw [upErr, if_pos h2]; rfl
      | false =>
        have HBAD := Lib.hid hbad
        clear hbad
        go_wp2
        go_roundw
        case rel => exact ⟨k + 1, by omega, by go_num, Lib.hid (by rw [notUp_take hlt HU.out, ← HX.out]; exact HBAD.out), Lib.hid (by rw [lastI_succ hlt, ← HX.out]; exact HA5.out), HB5⟩
        case measure => simp [intOf]; omega
    · obtain rfl : k = xs.length := by omega
      go_wp2
      go_ret
      refine ⟨?_, HB.out⟩
      have := HU.out
      rw [List.take_length] at this
      rw [upErr, this]; rfl

theorem absE_any (n c : Nat) (pw : Option Addr) (v1 v2 v3 : Value) (xs : List Int) (p : Option Addr) (cl : Nat) (w : World) (hn : n ≤ 1000000) (hl : xs.length ≤ 1000000) (hi : Ints w p xs) :
    Calls Try.prog 105 #[.slice p xs.length cl, .func (.func 90) #[.agg #[.slice pw n c, v1, v2, v3]] #[], .int .i64 1] w fun e w' => e = .returned (.int .i64 (errIf (absent n) xs 1)) ∧ Below w.heap.size w w' :=
  errIfE_any 90 entered_absent _ (absent n) xs p cl 1 w hl hi (fun W _ u => absent_b n c pw v1 v2 v3 u W (by omega))
theorem firstErr2 (a b : Int) : firstErr [a, b] = if a = 0 then b else a := by
  unfold firstErr
  by_cases h : a = 0
  · subst h
    by_cases h2 : b = 0
    · subst h2; rfl
    · rw [if_pos rfl, List.find?_cons_of_neg (by simp), List.find?_cons_of_pos (by simpa using h2)]; rfl
  · rw [if_neg h, List.find?_cons_of_pos (by simpa using h)]; rfl
theorem ints_two (w : World) (a b : Int) (T : TypeId) : Ints (w.alloc (.cells #[.int .i64 a, .int .i64 b] T)) (some ⟨w.heap.size, 0, none⟩) [a, b] := by
  refine .inr ⟨_, _, rfl, by simp, fun i hi => ?_⟩
  have hl := heap_last w (.cells #[.int .i64 a, .int .i64 b] T)
  have hi : i < 2 := hi
  match i, hi with
  | 0, _ => exact blk_cells hl 0 _ rfl
  | 1, _ => exact blk_cells hl 1 _ rfl
/-- the error of kept words behind that of the text -/
def keptB (n : Nat) (l : List Int) : Int := if errIf (absent n) l 1 = 0 then upErr l 4 else errIf (absent n) l 1
def wkOf (t : Text) (pw pt : Option Addr) (cw ct : Nat) : Value := .agg #[.slice pw t.words.length cw, .slice pt t.turns.length ct, .int .i64 t.breath, .func (.func 138) #[.agg #[.slice pw t.words.length cw, .slice pt t.turns.length ct, .int .i64 t.breath, .nilFunc]] #[]]
def wkNo : Value := .agg #[.slice none 0 0, .slice none 0 0, .int .i64 0, .nilFunc]
theorem keptE_eq (t : Text) (l : List Int) : t.keptE l = if t.err ≠ 0 then t.err else if l.length = 0 then 2 else keptB t.words.length l := by
  unfold Text.keptE keptB errIf upErr Text.len
  by_cases h : l.any (absent t.words.length) = true
  · simp [h]
  · simp [h]

set_option maxHeartbeats 1600000 in
theorem openKept_bad0 (t : Text) (l : List Int) (he : t.err ≠ 0) (hl1 : t.words.length ≤ 1000000) (hl2 : t.turns.length ≤ 1000000) (pw pt pl : Option Addr) (cw ct cl : Nat) (w : World) (hW : TxAt w t pw pt) :
    Calls Try.prog 117 #[.agg #[.slice pw t.words.length cw, .slice pt t.turns.length ct, .int .i64 t.breath], .slice pl l.length cl] w fun e w' =>
      e = .returned (.tuple #[wkNo, .int .i64 t.err]) ∧ Below w.heap.size w w' := by
  have HS := Lib.hid (fun W (h : Below w.heap.size w W) => open_bad t he hl1 hl2 pw pt cw ct W (hW.below h))
  have HE : (t.err != 0) = true := by simpa using he
  clear hW he
  generalize t.err = er at HE HS ⊢
  go_enter Try.func117, Try.ntmps117
  go_wp2_with fail
  refine (HS.out _ ((below1 _ _).alloc (by simp) _)).mono ?_
  rintro e w5 ⟨rfl, hB5⟩
  have hz5 : w.heap.size + 1 < w5.heap.size := by have := hB5.size; simp at this; omega
  have hy5 : w.heap.size < w5.heap.size := by omega
  have hblk : w5.heap[w.heap.size + 1]? = some (.cells #[.slice none 0 0, .slice none 0 0, .int .i64 0, .nilFunc] 125 (0, 0)) := by
    rw [hB5.block _ (by simp)]
    have := heap_last (w.alloc (.cells #[.slice pw t.words.length cw, .slice pt t.turns.length ct, .int .i64 t.breath] 25)) (.cells #[.slice none 0 0, .slice none 0 0, .int .i64 0, .nilFunc] 125)
    rwa [World.size_alloc] at this
  have HB5 := Lib.hid (join ((below1 _ _).alloc (by simp) _) hB5)
  clear hB5
  have r0 := blk_cells hblk 0 _ rfl
  have r1 := blk_cells hblk 1 _ rfl
  have r2 := blk_cells hblk 2 _ rfl
  have r3 := blk_cells hblk 3 _ rfl
  have z : ∀ i, w5.frozen? ⟨w.heap.size + 1, i, none⟩ = false := fun i => by simp [World.frozen?, hblk]
  clear hblk
  go_wp2
  refine bodyPost_ret (v := .tuple #[wkNo, .int .i64 er]) (by simp [results, Try.results117, wkNo, go_sem, hz5, hy5, r0, r1, r2, r3]) rfl ⟨rfl, ?_⟩
  have hz9 := HB5.out.size
  repeat' (first | exact HB5.out | apply belS | apply belA | apply belD)
  all_goals first | omega | (simp; done) | (simp; omega)
set_option maxHeartbeats 1600000 in
theorem openKept_bad1 (t : Text) (l : List Int) (he : t.err = 0) (hll : l.length = 0) (pw pt pl : Option Addr) (cw ct cl : Nat) (w : World) (hW : TxAt w t pw pt) :
    Calls Try.prog 117 #[.agg #[.slice pw t.words.length cw, .slice pt t.turns.length ct, .int .i64 t.breath], .slice pl l.length cl] w fun e w' =>
      e = .returned (.tuple #[wkNo, .int .i64 2]) ∧ Below w.heap.size w w' := by
  have HS := Lib.hid (fun W (h : Below w.heap.size w W) => open_ok t he pw pt cw ct W (hW.below h))
  clear hW he
  rw [hll]
  go_enter Try.func117, Try.ntmps117
  go_wp2_with fail
  refine (HS.out _ ((below1 _ _).alloc (by simp) _)).mono ?_
  rintro e w5 ⟨rfl, hB5⟩
  have hz5 : w.heap.size + 1 < w5.heap.size := by have := hB5.size; simp at this; omega
  have hy5 : w.heap.size < w5.heap.size := by omega
  have hblk : w5.heap[w.heap.size + 1]? = some (.cells #[.slice none 0 0, .slice none 0 0, .int .i64 0, .nilFunc] 125 (0, 0)) := by
    rw [hB5.block _ (by simp)]
    have := heap_last (w.alloc (.cells #[.slice pw t.words.length cw, .slice pt t.turns.length ct, .int .i64 t.breath] 25)) (.cells #[.slice none 0 0, .slice none 0 0, .int .i64 0, .nilFunc] 125)
    rwa [World.size_alloc] at this
  have HB5 := Lib.hid (join ((below1 _ _).alloc (by simp) _) hB5)
  clear hB5
  have r0 := blk_cells hblk 0 _ rfl
  have r1 := blk_cells hblk 1 _ rfl
  have r2 := blk_cells hblk 2 _ rfl
  have r3 := blk_cells hblk 3 _ rfl
  have z : ∀ i, w5.frozen? ⟨w.heap.size + 1, i, none⟩ = false := fun i => by simp [World.frozen?, hblk]
  clear hblk
  go_wp2
  refine bodyPost_ret (v := .tuple #[wkNo, .int .i64 2]) (by simp [results, Try.results117, wkNo, go_sem, hz5, hy5, r0, r1, r2, r3]) rfl ⟨rfl, ?_⟩
  have hz9 := HB5.out.size
  repeat' (first | exact HB5.out | apply belS | apply belA | apply belD)
  all_goals first | omega | (simp; done) | (simp; omega)
set_option maxHeartbeats 1600000 in
theorem openKept_two (t : Text) (l : List Int) (he : t.err = 0) (h0 : l.length ≠ 0) (hll : l.length ≤ 1000000) (pw pt pl : Option Addr) (cw ct cl : Nat) (w : World) (hW : TxAt w t pw pt) (hL : Ints w pl l) :
    Calls Try.prog 117 #[.agg #[.slice pw t.words.length cw, .slice pt t.turns.length ct, .int .i64 t.breath], .slice pl l.length cl] w fun e w' =>
      e = .returned (.tuple #[if keptB t.words.length l = 0 then wkOf t pw pt cw ct else wkNo, .int .i64 (keptB t.words.length l)]) ∧ Below w.heap.size w w' := by
  have hn := (err_ok he).n12
  have HS := Lib.hid (fun W (h : Below w.heap.size w W) => open_ok t he pw pt cw ct W (hW.below h))
  have HA := Lib.hid (fun W (h : Below w.heap.size w W) => absE_any t.words.length cw pw (.slice pt t.turns.length ct) (.int .i64 t.breath) (.func (.func 138) #[.agg #[.slice pw t.words.length cw, .slice pt t.turns.length ct, .int .i64 t.breath, .nilFunc]] #[]) l pl cl W (by omega) hll (hL.below h))
  have HU := Lib.hid (fun W (h : Below w.heap.size w W) => errUp_any l pl cl 4 W.heap.size W (W.alloc (.cells #[.int .i64 (-1)] 3)) hll (hL.below h) (below1 _ _) (Nat.le_refl _) (heap_last _ _))
  have HF2 := Lib.hid (show keptB t.words.length l = firstErr [errIf (absent t.words.length) l 1, upErr l 4] by rw [firstErr2]; rfl)
  generalize keptB t.words.length l = kb at HF2 ⊢
  have HV : Hid ((kb = 0 ∧ (if kb = 0 then wkOf t pw pt cw ct else wkNo) = wkOf t pw pt cw ct) ∨ (kb ≠ 0 ∧ (if kb = 0 then wkOf t pw pt cw ct else wkNo) = wkNo)) := by
    by_cases h : kb = 0
    · exact Lib.hid (.inl ⟨h, if_pos h⟩)
    · exact Lib.hid (.inr ⟨h, if_neg h⟩)
  generalize (if kb = 0 then wkOf t pw pt cw ct else wkNo) = vv at HV ⊢
  generalize errIf (absent t.words.length) l 1 = e1 at HA HF2
  generalize upErr l 4 = e2 at HU HF2
  have h0' : ((l.length : Int) == 0) = false := by rw [beq_eq_false_iff_ne]; omega
  have hmf := mf
  clear hW he hL
  go_enter Try.func117, Try.ntmps117
  go_wp2_with fail
  refine (HS.out _ ((below1 _ _).alloc (by simp) _)).mono ?_
  rintro e w5 ⟨rfl, hB5⟩
  have hz5 : w.heap.size + 1 < w5.heap.size := by have := hB5.size; simp at this; omega
  have hy5 : w.heap.size < w5.heap.size := by omega
  have hblk : w5.heap[w.heap.size + 1]? = some (.cells #[.slice none 0 0, .slice none 0 0, .int .i64 0, .nilFunc] 125 (0, 0)) := by
    rw [hB5.block _ (by simp)]
    have := heap_last (w.alloc (.cells #[.slice pw t.words.length cw, .slice pt t.turns.length ct, .int .i64 t.breath] 25)) (.cells #[.slice none 0 0, .slice none 0 0, .int .i64 0, .nilFunc] 125)
    rwa [World.size_alloc] at this
  have HB5 := Lib.hid (join ((below1 _ _).alloc (by simp) _) hB5)
  have HBLK := Lib.hid hblk
  clear hB5 hblk
  go_wp2_with fail
  refine (HA.out _ (join HB5.out (below1 _ _))).mono ?_
  rintro e w6 ⟨rfl, hB6⟩
  have hX6 := hB6.block w5.heap.size (by simp)
  rw [heap_last] at hX6
  have HX6 := Lib.hid hX6
  have hblk6 := (hB6.block (w.heap.size + 1) (by simp; omega)).trans ((Below.heap_alloc _ _ _ hz5).trans HBLK.out)
  have HBLK := Lib.hid hblk6
  have HB6 := Lib.hid (join (join HB5.out (below1 _ _)) hB6)
  have hz6 : w5.heap.size < w6.heap.size := by have := hB6.size; simp at this; omega
  clear hB6 hX6 hblk6
  go_wp2_with fail
  refine (notBeh_any w6).mono ?_
  rintro e w7 ⟨rfl, rfl⟩
  go_wp2_with fail
  refine (HU.out w6 HB6.out).mono ?_
  rintro e w8 ⟨rfl, hB8⟩
  have HX8 := (hB8.block w5.heap.size hz6).trans HX6.out
  have hs8 := hB8.size
  have hb8 := (hB8.block (w.heap.size + 1) (by omega)).trans HBLK.out
  have HBLK := Lib.hid hb8
  have HX8 := Lib.hid HX8
  have HB8 := Lib.hid (join HB6.out hB8)
  have hz8 : w5.heap.size < w8.heap.size := by omega
  clear hB8 hb8 hs8 HX6 HB6
  go_wp2_with fail
  refine (firstError_any [e1, e2] _ _ _ (by simp) (ints_two w8 e1 e2 _)).mono ?_
  rintro e w9 ⟨rfl, rfl⟩
  rw [← HF2.out]
  clear HF2
  have q1 : w.heap.size + 1 < w8.heap.size := by omega
  have q2 : w.heap.size < w8.heap.size := by omega
  have hne : ¬ w.heap.size + 1 = w5.heap.size := by omega
  have hne2 : ¬ w5.heap.size = w.heap.size + 1 := by omega
  have r0 := blk_cells HBLK.out 0 _ rfl
  have r1 := blk_cells HBLK.out 1 _ rfl
  have r2 := blk_cells HBLK.out 2 _ rfl
  have r3 := blk_cells HBLK.out 3 _ rfl
  have s0 := blk_cells HX8.out 0 _ rfl
  have s1 := blk_cells HX8.out 1 _ rfl
  have s2 := blk_cells HX8.out 2 _ rfl
  have s3 := blk_cells HX8.out 3 _ rfl
  have z : ∀ i, w8.frozen? ⟨w.heap.size + 1, i, none⟩ = false := fun i => by simp [World.frozen?, HBLK.out]
  rcases HV.out with ⟨hkb, hvv⟩ | ⟨hkb, hvv⟩
  · subst hkb
    subst hvv
    go_wp2
    refine bodyPost_ret (v := .tuple #[wkOf t pw pt cw ct, .int .i64 0]) (by simp [results, Try.results117, wkOf, go_sem, q1, q2, hz8, hne, hne2, r0, r1, r2, r3, s0, s1, s2, s3]) rfl ⟨rfl, ?_⟩
    have hz9 := HB8.out.size
    repeat' (first | exact HB8.out | apply belS | apply belA | apply belD)
    all_goals first | omega | (simp; done) | (simp; omega)
  · have hkb' : (kb != 0) = true := by simpa using hkb
    subst hvv
    clear hkb
    go_wp2
    refine bodyPost_ret (v := .tuple #[wkNo, .int .i64 kb]) (by simp [results, Try.results117, wkNo, go_sem, q1, q2, hz8, hne, hne2, r0, r1, r2, r3, s0, s1, s2, s3]) rfl ⟨rfl, ?_⟩
    have hz9 := HB8.out.size
    repeat' (first | exact HB8.out | apply belS | apply belA | apply belD)
    all_goals first | omega | (simp; done) | (simp; omega)
/-- openKept, of any words -/
theorem openKept_any (t : Text) (l : List Int) (hl1 : t.words.length ≤ 1000000) (hl2 : t.turns.length ≤ 1000000) (hll : l.length ≤ 1000000) (pw pt pl : Option Addr) (cw ct cl : Nat) (w : World) (hW : TxAt w t pw pt) (hL : Ints w pl l) :
    Calls Try.prog 117 #[.agg #[.slice pw t.words.length cw, .slice pt t.turns.length ct, .int .i64 t.breath], .slice pl l.length cl] w fun e w' =>
      e = .returned (.tuple #[if t.keptE l = 0 then wkOf t pw pt cw ct else wkNo, .int .i64 (t.keptE l)]) ∧ Below w.heap.size w w' := by
  by_cases he : t.err = 0
  · by_cases h0 : l.length = 0
    · have h : t.keptE l = 2 := by rw [keptE_eq, if_neg (by simpa using he), if_pos h0]
      rw [h]
      exact openKept_bad1 t l he h0 pw pt pl cw ct cl w hW
    · have h : t.keptE l = keptB t.words.length l := by rw [keptE_eq, if_neg (by simpa using he), if_neg h0]
      rw [h]
      exact openKept_two t l he h0 hll pw pt pl cw ct cl w hW hL
  · have h : t.keptE l = t.err := by rw [keptE_eq, if_pos he]
    rw [h, if_neg he]
    exact openKept_bad0 t l he hl1 hl2 pw pt pl cw ct cl w hW
end Go.Proofs.Ytadnggecnjdhiaa
set_option linter.unusedSimpArgs false
set_option linter.unusedVariables false
namespace Go.Proofs.Ytadnggecnjdhiaa
open Go.RowKit Tx
attribute [local go_sem] Oper.semAt_some

theorem keptWords1_any (x : Word) (w : World) :
    Calls Try.prog 158 #[.agg #[.int .i64 x.syl, .int .i64 x.wt, .bool x.stop]] w fun e w' => e = .returned (.bool x.stop) ∧ Below w.heap.size w w' := by
  obtain ⟨a, b, c⟩ := x
  dsimp only
  go_enter Try.func158, Try.ntmps158
  go_wp2
  go_ret
  exact ⟨rfl, below1 _ _⟩
theorem entered_keptWords1 : Entered 158 := fun args W => by kernel_rfl
def idxW (p : Word → Bool) (ts : List Word) (z : Int) : Prop := (z = -1 ∧ ts.any p = false) ∨ (0 ≤ z ∧ ts.any p = true)
set_option maxHeartbeats 1000000 in
set_option maxRecDepth 100000 in
theorem indexFuncW (F : FuncId) (hF : Entered F) (q : Word → Bool) (ts : List Word) (p : Option Addr) (c : Nat) (w : World) (hl : ts.length ≤ 1000000) (hi : Wds w p ts) (hq : ∀ W, Below w.heap.size w W → ∀ u ∈ ts, Calls Try.prog F #[.agg #[.int .i64 u.syl, .int .i64 u.wt, .bool u.stop]] W fun e w' => e = .returned (.bool (q u)) ∧ Below W.heap.size W w') :
    Calls Try.prog 170 #[.slice p ts.length c, .func (.func F) #[] #[]] w fun e w' => ∃ z : Int, e = .returned (.int .i64 z) ∧ idxW q ts z ∧ Below w.heap.size w w' := by
  have HI := Lib.hid hi
  have HQ := Lib.hid hq
  have HF := Lib.hid hF
  clear hi hq hF
  go_enter Try.func170, Try.ntmps170
  go_wp2_with fail
  go_loopw [5, 8] (fun u5 i wr => ∃ k : Nat, k ≤ ts.length ∧ i = .int .i64 k ∧ (ts.take k).any q = false ∧ Below w.heap.size w wr) (fun _ i _ => ts.length - (intOf i).toNat)
  case atStart => exact ⟨0, Nat.zero_le _, rfl, rfl, Below.refl _ _⟩
  case round =>
    obtain ⟨k, hk, rfl, hA, hB⟩ := hrel
    have HA := Lib.hid hA
    clear hA
    by_cases hlt : k < ts.length
    · have hlt' : (k : Int) < ts.length := by omega
      obtain ⟨b, o, x, rfl, hb, hxx, c1, c2, c3⟩ := (HI.out.below hB).at hlt
      have HX := Lib.hid hxx
      have HB := Lib.hid hB
      have HASK := Lib.hid (HQ.out _ hB x (by rw [hxx]; exact getD_mem default hlt))
      clear hxx hB
      go_wp2_with fail
      rw [HF.out, Oper.upon_enter]
      refine HASK.out.mono ?_
      rintro e w5 ⟨rfl, hB5⟩
      have HB5 := Lib.hid (join HB.out hB5)
      clear HASK hB5
      cases hbad : q x with
      | true =>
        have HBAD := Lib.hid hbad
        clear hbad
        go_wp2
        go_ret
        exact ⟨_, rfl, .inr ⟨by omega, any_hit default hlt _ (by rw [← HX.out]; exact HBAD.out)⟩, HB5.out⟩
      | false =>
        have HBAD := Lib.hid hbad
        clear hbad
        go_wp2
        go_roundw
        case rel => exact ⟨k + 1, by omega, by go_num, any_snoc default hlt _ HA.out (by rw [← HX.out]; exact HBAD.out), HB5.out⟩
        case measure => simp [intOf]; omega
    · obtain rfl : k = ts.length := by omega
      have HB := Lib.hid hB
      clear hB
      go_wp2
      go_ret
      exact ⟨_, rfl, .inl ⟨rfl, by have := HA.out; rwa [List.take_length] at this⟩, HB.out⟩

set_option maxHeartbeats 1000000 in
set_option maxRecDepth 100000 in
theorem containsFuncW (F : FuncId) (hF : Entered F) (q : Word → Bool) (ts : List Word) (p : Option Addr) (c : Nat) (w : World) (hl : ts.length ≤ 1000000) (hi : Wds w p ts) (hq : ∀ W, Below w.heap.size w W → ∀ u ∈ ts, Calls Try.prog F #[.agg #[.int .i64 u.syl, .int .i64 u.wt, .bool u.stop]] W fun e w' => e = .returned (.bool (q u)) ∧ Below W.heap.size W w') :
    Calls Try.prog 157 #[.slice p ts.length c, .func (.func F) #[] #[]] w fun e w' => e = .returned (.bool (ts.any q)) ∧ Below w.heap.size w w' := by
  have HI := Lib.hid (indexFuncW F hF q ts p c w hl hi hq)
  clear hi hq
  go_enter Try.func157, Try.ntmps157
  go_wp2_with fail
  refine HI.out.mono ?_
  rintro e w5 ⟨z, rfl, hz, hB5⟩
  rcases hz with ⟨rfl, ha⟩ | ⟨h0, ha⟩
  · have HA := Lib.hid ha
    clear ha
    go_wp2
    go_ret
    exact ⟨by rw [HA.out]; rfl, hB5⟩
  · have HA := Lib.hid ha
    have hz0 : decide (0 ≤ z) = true := by simpa using h0
    clear ha
    go_wp2
    go_ret
    exact ⟨by rw [HA.out]; rfl, hB5⟩

/-- the row of a shorter text's words behind k rounds -/
def kwTo (ws : List Word) (l : List Int) (n : Int) (k : Nat) : List Word := (List.range l.length).map fun i => if i < k then shortAt ws l n i else ⟨0, 0, false⟩
theorem kwTo_len (ws : List Word) (l : List Int) (n : Int) (k : Nat) : (kwTo ws l n k).length = l.length := by simp [kwTo]
theorem kwTo_succ (ws : List Word) (l : List Int) (n : Int) {k : Nat} (hk : k < l.length) : (kwTo ws l n k).set k (shortAt ws l n k) = kwTo ws l n (k + 1) := by
  apply List.ext_getElem?
  intro i
  rw [List.getElem?_set, kwTo_len]
  unfold kwTo
  rw [List.getElem?_map, List.getElem?_map]
  by_cases h : k = i
  · subst h; rw [if_pos rfl, if_pos hk]; simp [hk]
  · rw [if_neg h]
    by_cases hi : i < l.length
    · rw [List.getElem?_range hi]
      simp only [Option.map_some]
      by_cases g : i < k
      · rw [if_pos g, if_pos (by omega)]
      · rw [if_neg g, if_neg (by omega)]
    · rw [List.getElem?_eq_none (by simpa using hi)]; rfl
theorem kwTo_full (ws : List Word) (l : List Int) (n : Int) : kwTo ws l n l.length = shortW ws l n := by
  unfold kwTo shortW
  apply List.map_congr_left
  intro i hi
  rw [if_pos (by simpa using hi)]
theorem kwTo_zero (ws : List Word) (l : List Int) (n : Int) : kwTo ws l n 0 = List.replicate l.length ⟨0, 0, false⟩ := by
  apply List.ext_getElem?
  intro i
  unfold kwTo
  by_cases hi : i < l.length
  · simp [hi]
  · rw [List.getElem?_eq_none (by simpa using hi), List.getElem?_eq_none (by simpa using hi)]
theorem made_words (n : Nat) : madeCells #[.int .i64 0, .int .i64 0, .bool false] (n * 3) = (wcells (List.replicate n ⟨0, 0, false⟩)).toArray := by
  apply Array.ext_getElem?
  intro i
  unfold madeCells
  have e : (wcells (List.replicate n ⟨0, 0, false⟩)).toArray[i]? = (wcells (List.replicate n ⟨0, 0, false⟩))[i]? := List.getElem?_toArray
  rw [Array.getElem?_map, e]
  by_cases hi : i < n * 3
  · have hq : i / 3 < (List.replicate n (⟨0, 0, false⟩ : Word)).length := by rw [List.length_replicate]; omega
    have hdm : i = i / 3 * 3 + i % 3 := by omega
    have h1 := flat3_get default wcell (fun _ => rfl) (List.replicate n (⟨0, 0, false⟩ : Word)) (i / 3) (i % 3) hq (by omega)
    rw [← hdm] at h1
    unfold wcells
    rw [h1]
    have e0 : (List.replicate n (⟨0, 0, false⟩ : Word)).getD (i / 3) default = ⟨0, 0, false⟩ := by
      rw [List.length_replicate] at hq
      simp [hq]
    rw [e0]
    have hr : i % 3 = 0 ∨ i % 3 = 1 ∨ i % 3 = 2 := by omega
    simp only [Array.getElem?_range, hi]
    rcases hr with h | h | h <;> simp [h, wcell]
  · rw [List.getElem?_eq_none (by rw [wcells_len, List.length_replicate]; omega)]
    simp [hi]
theorem make_words (n : Nat) (hn : n ≤ 1000000) (W : World) : (Instr.makeSlice 22 (.int .i64 (n : Int)) (.int .i64 (n : Int))).run Try.prog W = .ok (.slice (some ⟨W.heap.size, 0, none⟩) n n) (W.alloc (.cells (wcells (List.replicate n ⟨0, 0, false⟩)).toArray 77)) := by
  obtain ⟨i0, hi0, hz0, hz1, hz2⟩ := info_parts A_infoWd
  have h := run_make (P := Try.prog) W 22 77 i0 (.agg #[.int .i64 0, .int .i64 0, .bool false]) A_undWs hi0 hz0 .i64 .i64 n n (by omega) (by omega) (by rw [hz2]; omega) (by omega)
  rw [hz1] at h
  rw [h, Int.toNat_natCast]
  show Result.ok _ (W.alloc (.cells (madeCells #[.int .i64 0, .int .i64 0, .bool false] (n * 3)) _)) = _
  rw [made_words]
/-- a word that is laid, and its stop once more -/
theorem wset (ws : List Word) (k : Nat) (hk : k < ws.length) (a b : Int) (c d : Bool) :
    ((((wcells ws).toArray.setIfInBounds (k * 3) (.int .i64 a)).setIfInBounds (k * 3 + 1) (.int .i64 b)).setIfInBounds (k * 3 + 2) (.bool c)).setIfInBounds (k * 3 + 2) (.bool d) = (wcells (ws.set k ⟨a, b, d⟩)).toArray := by
  apply Array.ext_getElem?
  intro j
  have hL := wcells_len ws
  simp only [Array.getElem?_setIfInBounds, Array.size_setIfInBounds, List.size_toArray, List.getElem?_toArray]
  rw [hL]
  by_cases hj : j < ws.length * 3
  · have hdm : j = j / 3 * 3 + j % 3 := by omega
    have hq : j / 3 < ws.length := by omega
    have f1 := flat3_get default wcell (fun _ => rfl) ws (j / 3) (j % 3) hq (by omega)
    have f2 := flat3_get default wcell (fun _ => rfl) (ws.set k ⟨a, b, d⟩) (j / 3) (j % 3) (by rw [List.length_set]; exact hq) (by omega)
    rw [← hdm] at f1 f2
    unfold wcells
    rw [f1, f2]
    by_cases hqk : j / 3 = k
    · subst hqk
      have e0 : (ws.set (j / 3) ⟨a, b, d⟩).getD (j / 3) default = ⟨a, b, d⟩ := by simp [hk]
      rw [e0]
      have hr : j % 3 = 0 ∨ j % 3 = 1 ∨ j % 3 = 2 := by omega
      rcases hr with h | h | h
      · rw [if_neg (by omega), if_neg (by omega), if_neg (by omega), if_pos (by omega), if_pos (by omega), h]; rfl
      · rw [if_neg (by omega), if_neg (by omega), if_pos (by omega), if_pos (by omega), h]; rfl
      · rw [if_pos (by omega), if_pos (by omega), h]; rfl
    · have e0 : (ws.set k ⟨a, b, d⟩).getD (j / 3) default = ws.getD (j / 3) default := by
        simp [List.getElem?_set, Ne.symm hqk]
      rw [e0, if_neg (by omega), if_neg (by omega), if_neg (by omega), if_neg (by omega)]
  · rw [if_neg (by omega), if_neg (by omega), if_neg (by omega), if_neg (by omega)]
    rw [List.getElem?_eq_none (by rw [wcells_len]; omega), List.getElem?_eq_none (by rw [wcells_len, List.length_set]; omega)]
/-- a row of words that is laid whole, as one that is owned -/
theorem own_words {w : World} {base A : Nat} {ws : List Word} {n : Nat} (hn : n = ws.length) (hb : base ≤ A) (hm : n ≤ maxLen) (h : w.heap[A]? = some (.cells (wcells ws).toArray 77 (0, 0))) :
    w.ownsRow base 77 3 (.slice (some ⟨A, 0, none⟩) n n) n (wcells ws) := by
  subst hn
  refine ⟨wcells_len ws, .inr ⟨A, ws.length, (wcells ws).toArray, rfl, hb, h, Nat.le_refl _, hm, ?_, ?_⟩⟩
  · rw [List.size_toArray, wcells_len]
  · rw [← wcells_len, List.take_length]
theorem wds_slice {w : World} {b o : Nat} {ws : List Word} (x y : Nat) (hxy : x ≤ y) (hy : y ≤ ws.length) (h : Wds w (some ⟨b, o, none⟩) ws) : Wds w (some ⟨b, o + x * 3, none⟩) (slice ws x y) := by
  have hlen : (slice ws x y).length = y - x := slice_len ws (a := x) hy
  rcases h with rfl | ⟨b', o', hp, hb, hc⟩
  · exact .inl (by simp [slice])
  · injection hp with hp; injection hp with h1 h2 _
    subst h1; subst h2
    refine .inr ⟨b, o + x * 3, rfl, hb, fun i hi => ?_⟩
    rw [hlen] at hi
    have e : (slice ws x y).getD i default = ws.getD (x + i) default := slice_getD _ _ hi hy
    rw [e]
    have := hc (x + i) (by omega)
    rw [show o + x * 3 + i * 3 = o + (x + i) * 3 by omega]
    exact this

set_option maxHeartbeats 4000000 in
set_option maxRecDepth 100000 in
theorem keptWords_any (t : Text) (ok : Text.Ok t) (l : List Int) (hll : l.length ≤ 100000) (hx : ∀ x ∈ l, 0 ≤ x ∧ x < (t.words.length : Int)) (ha : l.Pairwise (· < ·)) (pw pl : Option Addr) (cw cl : Nat) (hcw : t.words.length ≤ cw ∧ cw ≤ maxLen) (v1 v2 v3 : Value) (w : World) (hW : Wds w pw t.words) (hL : Ints w pl l) :
    Calls Try.prog 122 #[.agg #[.slice pw t.words.length cw, v1, v2, v3], .slice pl l.length cl] w fun e w' => ∃ A, e = .returned (.slice (some ⟨A, 0, none⟩) l.length l.length) ∧ w'.ownsRow w.heap.size 77 3 (.slice (some ⟨A, 0, none⟩) l.length l.length) l.length (wcells (shortW t.words l t.words.length)) ∧ Below w.heap.size w w' := by
  have hmk := make_words l.length (by omega)
  have hne := ok.n1
  obtain ⟨bb, o, x0, rfl, hbb, _⟩ := hW.at (i := 0) (by omega)
  have HW := Lib.hid hW
  have HL := Lib.hid hL
  have HX := Lib.hid hx
  have HA := Lib.hid ha
  have HOK := Lib.hid ok
  have hn12 := ok.n12
  obtain ⟨hcw1, hcw2⟩ := hcw
  unfold maxLen at hcw2
  have HX0 := Lib.hid (heap_last w (.cells #[.slice (some ⟨bb, o, none⟩) t.words.length cw, v1, v2, v3] 125))
  have HB1 := Lib.hid (below1 w (.cells #[.slice (some ⟨bb, o, none⟩) t.words.length cw, v1, v2, v3] 125))
  have hz1 : (w.alloc (.cells #[.slice (some ⟨bb, o, none⟩) t.words.length cw, v1, v2, v3] 125)).heap.size = w.heap.size + 1 := by simp
  clear hW hL hx ok ha
  go_enter Try.func122, Try.ntmps122
  go_wp2_with fail
  have hblk := heap_last (w.alloc (.cells #[.slice (some ⟨bb, o, none⟩) t.words.length cw, v1, v2, v3] 125)) (.cells (wcells (List.replicate l.length ⟨0, 0, false⟩)).toArray 77)
  rw [World.size_alloc] at hblk
  have hx2 := (Below.heap_alloc (w.alloc (.cells #[.slice (some ⟨bb, o, none⟩) t.words.length cw, v1, v2, v3] 125)) (.cells (wcells (List.replicate l.length ⟨0, 0, false⟩)).toArray 77) w.heap.size (by simp)).trans HX0.out
  have hB2 := join HB1.out (below1 (w.alloc (.cells #[.slice (some ⟨bb, o, none⟩) t.words.length cw, v1, v2, v3] 125)) (.cells (wcells (List.replicate l.length ⟨0, 0, false⟩)).toArray 77))
  go_loopw [14] (fun i wr => ∃ k : Nat, k ≤ l.length ∧ i = .int .i64 k ∧ Hid (wr.heap[w.heap.size]? = some (.cells #[.slice (some ⟨bb, o, none⟩) t.words.length cw, v1, v2, v3] 125 (0, 0))) ∧ Hid (wr.heap[w.heap.size + 1]? = some (.cells (wcells (kwTo t.words l t.words.length k)).toArray 77 (0, 0))) ∧ Hid (Below w.heap.size w wr)) (fun i _ => l.length - (intOf i).toNat)
  case atStart => exact ⟨0, Nat.zero_le _, rfl, Lib.hid hx2, Lib.hid (by rw [kwTo_zero]; exact hblk), Lib.hid hB2⟩
  case round =>
    obtain ⟨k, hk, rfl, H0, H1, HB⟩ := hrel
    have hs1 := (Array.getElem?_eq_some_iff.1 H1.out).1
    have hs0 : w.heap.size < wr.heap.size := by omega
    clear hblk hx2 hB2 hmk
    by_cases hlt : k < l.length
    · have hlt' : (k : Int) < l.length := by omega
      have k0 := blk_cells H0.out 0 _ rfl
      obtain ⟨lb, lo, x, rfl, hlb, hxx, c1⟩ := (HL.out.below HB.out).at hlt
      have hxb := HX.out x (by rw [hxx]; exact getD_mem 0 hlt)
      have HXX := Lib.hid hxx
      obtain ⟨y, rfl⟩ := Int.eq_ofNat_of_zero_le hxb.1
      have hyn : y < t.words.length := by omega
      have hyn' : (y : Int) < t.words.length := by omega
      obtain ⟨bb', bo', z, hp, hbbr, hzz, d1, d2, d3⟩ := (HW.out.below HB.out).at hyn
      injection hp with hp; injection hp with hp1 hp2 _
      subst hp1; subst hp2
      have HZZ := Lib.hid hzz
      have hkl : (wcells (kwTo t.words l t.words.length k)).toArray.size = l.length * 3 := by rw [List.size_toArray, wcells_len, kwTo_len]
      have hcell : ∀ j, j < 3 → ∃ v, wr.cell? ⟨w.heap.size + 1, k * 3 + j, none⟩ = some v := fun j hj => by
        refine ⟨(wcells (kwTo t.words l t.words.length k)).toArray[k * 3 + j]'(by rw [hkl]; omega), ?_⟩
        exact blk_cells H1.out _ _ (Array.getElem?_eq_getElem _)
      obtain ⟨u0, hu0⟩ := hcell 0 (by omega)
      obtain ⟨u1, hu1⟩ := hcell 1 (by omega)
      obtain ⟨u2, hu2⟩ := hcell 2 (by omega)
      have hu0 : wr.cell? ⟨w.heap.size + 1, k * 3, none⟩ = some u0 := hu0
      have hfz : ∀ i, wr.frozen? ⟨w.heap.size + 1, i, none⟩ = false := fun i => by simp [World.frozen?, H1.out]
      have hq1 : ¬ w.heap.size + 1 = w.heap.size := by omega
      have hq2 : ¬ w.heap.size = w.heap.size + 1 := by omega
      have hbq : ¬ w.heap.size + 1 = bb := by omega
      have hlq : ∀ _ : lb < w.heap.size, ¬ w.heap.size + 1 = lb := fun h => by omega
      clear hxx hzz hkl hcell hlb
      by_cases hla : k + 1 < l.length
      · have hla' : (k : Int) + 1 < l.length := by omega
        obtain ⟨lb', lo', x', hp, _, hxx', c2⟩ := (HL.out.below HB.out).at hla
        injection hp with hp; injection hp with hp1 hp2 _
        subst hp1; subst hp2
        have hxb' := HX.out x' (by rw [hxx']; exact getD_mem 0 hla)
        obtain ⟨m, rfl⟩ := Int.eq_ofNat_of_zero_le hxb'.1
        have hlt2 := getD_lt HA.out (Nat.lt_succ_self k) hla
        rw [← hxx', ← HXX.out] at hlt2
        have hnx : nextI l t.words.length k = (m : Int) := by unfold nextI; rw [if_pos hla]; exact hxx'.symm
        clear hxx'
        have hym : y ≤ m := by omega
        have hml : m ≤ t.words.length := by omega
        have HNX := Lib.hid hnx
        have hslw := slice_len t.words (a := y) hml
        have HCF := Lib.hid (fun W (h : Below w.heap.size w W) => containsFuncW 158 entered_keptWords1 (·.stop) (slice t.words y m) (some ⟨bb, o + y * 3, none⟩) (cw - y) W (by omega) (wds_slice y m hym hml (HW.out.below h)) (fun W' _ u _ => keptWords1_any u W'))
        rw [hslw] at HCF
        clear hnx hslw
        go_wp2_with fail
        obtain ⟨WS, hWS⟩ : ∃ WS, WS = ((wr.setCell ⟨w.heap.size + 1, k * 3, none⟩ (.int .i64 z.syl)).setCell ⟨w.heap.size + 1, k * 3 + 1, none⟩ (.int .i64 z.wt)).setCell ⟨w.heap.size + 1, k * 3 + 2, none⟩ (.bool z.stop) := ⟨_, rfl⟩
        rw [← hWS]
        have HBS := Lib.hid (show Below w.heap.size w WS by
          rw [hWS]; exact ((HB.out.setCell (p := ⟨w.heap.size + 1, k * 3, none⟩) (by show w.heap.size ≤ w.heap.size + 1; omega) _).setCell (p := ⟨w.heap.size + 1, k * 3 + 1, none⟩) (by show w.heap.size ≤ w.heap.size + 1; omega) _).setCell (p := ⟨w.heap.size + 1, k * 3 + 2, none⟩) (by show w.heap.size ≤ w.heap.size + 1; omega) _)
        have h0S : WS.heap[w.heap.size]? = some (.cells #[.slice (some ⟨bb, o, none⟩) t.words.length cw, v1, v2, v3] 125 (0, 0)) := by
          rw [hWS]
          exact (Below.heap_setCell _ _ _ _ (by show w.heap.size ≠ w.heap.size + 1; omega)).trans ((Below.heap_setCell _ _ _ _ (by show w.heap.size ≠ w.heap.size + 1; omega)).trans ((Below.heap_setCell _ _ _ _ (by show w.heap.size ≠ w.heap.size + 1; omega)).trans H0.out))
        have h1S : WS.heap[w.heap.size + 1]? = some (.cells ((((wcells (kwTo t.words l t.words.length k)).toArray.setIfInBounds (k * 3) (.int .i64 z.syl)).setIfInBounds (k * 3 + 1) (.int .i64 z.wt)).setIfInBounds (k * 3 + 2) (.bool z.stop)) 77 (0, 0)) := by
          rw [hWS]; exact heap_set_same _ (heap_set_same _ (heap_set_same _ H1.out))
        have HSUC := Lib.hid (show (((((wcells (kwTo t.words l t.words.length k)).toArray.setIfInBounds (k * 3) (.int .i64 z.syl)).setIfInBounds (k * 3 + 1) (.int .i64 z.wt)).setIfInBounds (k * 3 + 2) (.bool z.stop)).setIfInBounds (k * 3 + 2) (.bool ((slice t.words y m).any (·.stop)))) = (wcells (kwTo t.words l t.words.length (k + 1))).toArray by
          rw [wset _ k (by rw [kwTo_len]; exact hlt), ← kwTo_succ t.words l t.words.length hlt]
          congr 3
          unfold shortAt stopsB
          rw [HNX.out, ← HXX.out, HZZ.out]
          simp)
        have hu2' : ∃ v, WS.cell? ⟨w.heap.size + 1, k * 3 + 2, none⟩ = some v := by
          refine ⟨((((wcells (kwTo t.words l t.words.length k)).toArray.setIfInBounds (k * 3) (.int .i64 z.syl)).setIfInBounds (k * 3 + 1) (.int .i64 z.wt)).setIfInBounds (k * 3 + 2) (.bool z.stop))[k * 3 + 2]'(by simp only [Array.size_setIfInBounds, List.size_toArray]; rw [wcells_len, kwTo_len]; omega), ?_⟩
          exact blk_cells h1S _ _ (Array.getElem?_eq_getElem _)
        generalize (((wcells (kwTo t.words l t.words.length k)).toArray.setIfInBounds (k * 3) (.int .i64 z.syl)).setIfInBounds (k * 3 + 1) (.int .i64 z.wt)).setIfInBounds (k * 3 + 2) (.bool z.stop) = C3 at h1S HSUC
        obtain ⟨u2', hu2'⟩ := hu2'
        have hsS : w.heap.size + 1 < WS.heap.size := (Array.getElem?_eq_some_iff.1 h1S).1
        have HSS := Lib.hid hsS
        have H0S := Lib.hid h0S
        have H1S := Lib.hid h1S
        have HU2 := Lib.hid hu2'
        clear hWS h0S h1S hu2' hsS hu0 hu1 hu2 hfz d1 d2 d3 c1 k0 c2
        refine (HCF.out WS HBS.out).mono ?_
        rintro e w5 ⟨rfl, hB5⟩
        have hu5 := (hB5.cell (p := ⟨w.heap.size + 1, k * 3 + 2, none⟩) HSS.out).trans HU2.out
        have h15 := (hB5.block _ HSS.out).trans H1S.out
        have H05 := Lib.hid ((hB5.block w.heap.size (by have := HSS.out; omega)).trans H0S.out)
        have hf5 : ∀ i, w5.frozen? ⟨w.heap.size + 1, i, none⟩ = false := fun i => by simp [World.frozen?, h15]
        have H15 := Lib.hid h15
        have HB5 := Lib.hid (join HBS.out hB5)
        clear hB5 h15
        generalize (slice t.words y m).any (·.stop) = sb at HSUC ⊢
        go_wp2
        go_roundw
        case rel =>
          exact ⟨k + 1, by omega, by go_num, Lib.hid ((Below.heap_setCell _ _ _ _ (by show w.heap.size ≠ w.heap.size + 1; omega)).trans H05.out), Lib.hid (by rw [← HSUC.out]; exact heap_set_same _ H15.out), Lib.hid (HB5.out.setCell (p := ⟨w.heap.size + 1, k * 3 + 2, none⟩) (by show w.heap.size ≤ w.heap.size + 1; omega) _)⟩
        case measure => simp [intOf]; omega
      · have hnx : nextI l t.words.length k = (t.words.length : Int) := by unfold nextI; rw [if_neg hla]
        have hym : y ≤ t.words.length := by omega
        have hml : t.words.length ≤ t.words.length := by omega
        have HNX := Lib.hid hnx
        have hslw := slice_len t.words (a := y) hml
        have HCF := Lib.hid (fun W (h : Below w.heap.size w W) => containsFuncW 158 entered_keptWords1 (·.stop) (slice t.words y t.words.length) (some ⟨bb, o + y * 3, none⟩) (cw - y) W (by omega) (wds_slice y t.words.length hym hml (HW.out.below h)) (fun W' _ u _ => keptWords1_any u W'))
        rw [hslw] at HCF
        clear hnx hslw
        go_wp2_with fail
        obtain ⟨WS, hWS⟩ : ∃ WS, WS = ((wr.setCell ⟨w.heap.size + 1, k * 3, none⟩ (.int .i64 z.syl)).setCell ⟨w.heap.size + 1, k * 3 + 1, none⟩ (.int .i64 z.wt)).setCell ⟨w.heap.size + 1, k * 3 + 2, none⟩ (.bool z.stop) := ⟨_, rfl⟩
        rw [← hWS]
        have HBS := Lib.hid (show Below w.heap.size w WS by
          rw [hWS]; exact ((HB.out.setCell (p := ⟨w.heap.size + 1, k * 3, none⟩) (by show w.heap.size ≤ w.heap.size + 1; omega) _).setCell (p := ⟨w.heap.size + 1, k * 3 + 1, none⟩) (by show w.heap.size ≤ w.heap.size + 1; omega) _).setCell (p := ⟨w.heap.size + 1, k * 3 + 2, none⟩) (by show w.heap.size ≤ w.heap.size + 1; omega) _)
        have h0S : WS.heap[w.heap.size]? = some (.cells #[.slice (some ⟨bb, o, none⟩) t.words.length cw, v1, v2, v3] 125 (0, 0)) := by
          rw [hWS]
          exact (Below.heap_setCell _ _ _ _ (by show w.heap.size ≠ w.heap.size + 1; omega)).trans ((Below.heap_setCell _ _ _ _ (by show w.heap.size ≠ w.heap.size + 1; omega)).trans ((Below.heap_setCell _ _ _ _ (by show w.heap.size ≠ w.heap.size + 1; omega)).trans H0.out))
        have h1S : WS.heap[w.heap.size + 1]? = some (.cells ((((wcells (kwTo t.words l t.words.length k)).toArray.setIfInBounds (k * 3) (.int .i64 z.syl)).setIfInBounds (k * 3 + 1) (.int .i64 z.wt)).setIfInBounds (k * 3 + 2) (.bool z.stop)) 77 (0, 0)) := by
          rw [hWS]; exact heap_set_same _ (heap_set_same _ (heap_set_same _ H1.out))
        have HSUC := Lib.hid (show (((((wcells (kwTo t.words l t.words.length k)).toArray.setIfInBounds (k * 3) (.int .i64 z.syl)).setIfInBounds (k * 3 + 1) (.int .i64 z.wt)).setIfInBounds (k * 3 + 2) (.bool z.stop)).setIfInBounds (k * 3 + 2) (.bool ((slice t.words y t.words.length).any (·.stop)))) = (wcells (kwTo t.words l t.words.length (k + 1))).toArray by
          rw [wset _ k (by rw [kwTo_len]; exact hlt), ← kwTo_succ t.words l t.words.length hlt]
          congr 3
          unfold shortAt stopsB
          rw [HNX.out, ← HXX.out, HZZ.out]
          simp)
        have hu2' : ∃ v, WS.cell? ⟨w.heap.size + 1, k * 3 + 2, none⟩ = some v := by
          refine ⟨((((wcells (kwTo t.words l t.words.length k)).toArray.setIfInBounds (k * 3) (.int .i64 z.syl)).setIfInBounds (k * 3 + 1) (.int .i64 z.wt)).setIfInBounds (k * 3 + 2) (.bool z.stop))[k * 3 + 2]'(by simp only [Array.size_setIfInBounds, List.size_toArray]; rw [wcells_len, kwTo_len]; omega), ?_⟩
          exact blk_cells h1S _ _ (Array.getElem?_eq_getElem _)
        generalize (((wcells (kwTo t.words l t.words.length k)).toArray.setIfInBounds (k * 3) (.int .i64 z.syl)).setIfInBounds (k * 3 + 1) (.int .i64 z.wt)).setIfInBounds (k * 3 + 2) (.bool z.stop) = C3 at h1S HSUC
        obtain ⟨u2', hu2'⟩ := hu2'
        have hsS : w.heap.size + 1 < WS.heap.size := (Array.getElem?_eq_some_iff.1 h1S).1
        have HSS := Lib.hid hsS
        have H0S := Lib.hid h0S
        have H1S := Lib.hid h1S
        have HU2 := Lib.hid hu2'
        clear hWS h0S h1S hu2' hsS hu0 hu1 hu2 hfz d1 d2 d3 c1 k0 
        refine (HCF.out WS HBS.out).mono ?_
        rintro e w5 ⟨rfl, hB5⟩
        have hu5 := (hB5.cell (p := ⟨w.heap.size + 1, k * 3 + 2, none⟩) HSS.out).trans HU2.out
        have h15 := (hB5.block _ HSS.out).trans H1S.out
        have H05 := Lib.hid ((hB5.block w.heap.size (by have := HSS.out; omega)).trans H0S.out)
        have hf5 : ∀ i, w5.frozen? ⟨w.heap.size + 1, i, none⟩ = false := fun i => by simp [World.frozen?, h15]
        have H15 := Lib.hid h15
        have HB5 := Lib.hid (join HBS.out hB5)
        clear hB5 h15
        generalize (slice t.words y t.words.length).any (·.stop) = sb at HSUC ⊢
        go_wp2
        go_roundw
        case rel =>
          exact ⟨k + 1, by omega, by go_num, Lib.hid ((Below.heap_setCell _ _ _ _ (by show w.heap.size ≠ w.heap.size + 1; omega)).trans H05.out), Lib.hid (by rw [← HSUC.out]; exact heap_set_same _ H15.out), Lib.hid (HB5.out.setCell (p := ⟨w.heap.size + 1, k * 3 + 2, none⟩) (by show w.heap.size ≤ w.heap.size + 1; omega) _)⟩
        case measure => simp [intOf]; omega
    · obtain rfl : k = l.length := by omega
      have hfull := kwTo_full t.words l t.words.length
      have HF := Lib.hid hfull
      clear hfull
      go_wp2
      go_ret
      exact ⟨_, rfl, by have h := H1.out; rw [HF.out] at h; exact own_words (by rw [shortW_len]) (by omega) (by unfold maxLen; omega) h, HB.out⟩
end Go.Proofs.Ytadnggecnjdhiaa
set_option linter.unusedSimpArgs false
set_option linter.unusedVariables false
namespace Go.Proofs.Ytadnggecnjdhiaa
open Go.RowKit Tx
attribute [local go_sem] Oper.semAt_some

theorem blk2 {w : World} {A : Nat} {a b : Value} {T : TypeId} {tg : Nat × Nat} (h : w.heap[A]? = some (.cells #[a, b] T tg)) : w.cell? ⟨A, 0, none⟩ = some a ∧ w.cell? ⟨A, 1, none⟩ = some b := by
  simp [World.cell?, h]
theorem libFrom (x : Int) : ∀ (l : List Int) (i : Nat), l.contains x = true → Lib.idxFrom l x i = ((i + l.idxOf x : Nat) : Int)
  | [], i, h => by simp at h
  | z :: l, i, h => by
    unfold Lib.idxFrom
    by_cases hz : z = x
    · subst hz; rw [if_pos rfl, List.idxOf_cons_self]; rfl
    · have h' : l.contains x = true := by
        rw [List.contains_cons, Bool.or_eq_true, beq_iff_eq] at h
        exact h.resolve_left (fun e => hz e.symm)
      have e : (z :: l).idxOf x = l.idxOf x + 1 := by rw [List.idxOf_cons, show (z == x) = false by simpa using hz]; rfl
      rw [if_neg hz, libFrom x l (i + 1) h', e]
      congr 1
      omega
theorem libIdx {x : Int} {l : List Int} (h : l.contains x = true) : Lib.idxOf l x = (l.idxOf x : Int) := by
  unfold Lib.idxOf; rw [libFrom x l 0 h, Nat.zero_add]
theorem index_any (l : List Int) (hll : l.length ≤ 1000000) (p : Option Addr) (c : Nat) (x : Int) (w : World) (hL : Ints w p l) :
    Calls Try.prog 131 #[.slice p l.length c, .int .i64 x] w fun e w' => e = .returned (.int .i64 (Lib.idxOf l x)) ∧ w' = w := by
  rcases hL with rfl | ⟨b, o, rfl, hb, hc⟩
  · exact Try.slices_Index_int_empty p c x w
  · have h := Try.slices_Index_int b o l.length c l x w (Nat.le_refl _) (by omega) hc
    rw [List.take_length] at h
    exact h
theorem core_ends {u : Turn} {l : List Int} (h : u.lo ≤ u.hi) (hc : coreIn u l = true) : l.contains u.lo = true ∧ l.contains u.hi = true := by
  unfold coreIn at hc
  rw [List.all_eq_true] at hc
  have h1 := hc 0 (by rw [List.mem_range]; omega)
  have h2 := hc (u.hi - u.lo).toNat (by rw [List.mem_range]; omega)
  rw [show u.lo + ((0 : Nat) : Int) = u.lo by simp] at h1
  rw [show u.lo + (((u.hi - u.lo).toNat : Nat) : Int) = u.hi by omega] at h2
  exact ⟨h1, h2⟩
theorem shortTs_snoc (ts : List Turn) (u : Turn) (l : List Int) : shortTs (ts ++ [u]) l = shortTs ts l ++ (if coreIn u l && l.contains u.word then [shortTurn l u] else []) := by
  unfold shortTs
  rw [List.filter_append, List.map_append]
  rw [List.filter_cons, List.filter_nil]
  cases h : (coreIn u l && l.contains u.word)
  · simp only [Bool.false_eq_true, if_false, List.map_nil]
  · simp only [if_true, List.map_cons, List.map_nil]
theorem shortTs_len (ts : List Turn) (l : List Int) : (shortTs ts l).length ≤ ts.length := by
  unfold shortTs; rw [List.length_map]; exact List.length_filter_le _ _
theorem own_setT {w : World} {base R o : Nat} {e T : TypeId} {size : Nat} {v u : Value} {n : Nat} {xs : List Value} {cs : Array Value} {tg : Nat × Nat} (h : w.ownsRow base e size v n xs) (hb : w.heap[R]? = some (.cells cs T tg)) (hT : T ≠ e) : (w.setCell ⟨R, o, none⟩ u).ownsRow base e size v n xs := by
  refine h.kept (grown_set w R o u) ?_
  rcases h.2 with ⟨h1, _⟩ | ⟨g, cap, cur, h1, _, hg, _⟩
  · exact .inl (by rw [h1]; rfl)
  · right
    rw [h1]
    show some g ≠ some R
    intro e
    injection e with e
    subst e
    rw [hg] at hb
    injection hb with hb
    injection hb with _ hb
    exact hT hb.symm
theorem cell3_at {w : World} {p : Nat} {a b c : Value} {T : TypeId} {tg : Nat × Nat} (h : w.heap[p]? = some (.cells #[a, b, c] T tg)) : ∀ (j : Nat) (u : Value), [a, b, c][j]? = some u → w.cell? ((⟨p, 0, none⟩ : Addr).add j) = some u := by
  intro j u hj
  have hadd : (⟨p, 0, none⟩ : Addr).add j = ⟨p, j, none⟩ := by unfold Addr.add; split <;> simp_all
  rw [hadd]
  exact blk_cells h j u (by simpa using hj)
theorem below_trans2 {a b c : World} (h : Below a.heap.size a b) (g : Rs.Gr b c) : Below a.heap.size a c := h.trans (show Below a.heap.size b c from Below.mono (B := b.heap.size) g h.size)
def spKt6 (pl : Option Addr) (cl b7 : Nat) (l : List Int) (ul uh : Int) : Nat → List Value → Value → World → Prop
  | 0, _, v, _ => v = .slice pl l.length cl
  | 1, _, v, _ => v = .pointer (some ⟨b7, 1, none⟩)
  | 2, _, v, _ => v = .pointer (some ⟨b7, 1, none⟩)
  | 3, _, v, _ => v = .int .i64 ul
  | 4, _, v, _ => v = .int .i64 (Lib.idxOf l ul)
  | 5, _, v, _ => v = .slice pl l.length cl
  | 6, _, v, _ => v = .pointer (some ⟨b7, 1, none⟩)
  | 7, _, v, _ => v = .pointer (some ⟨b7, 2, none⟩)
  | 8, _, v, _ => v = .int .i64 uh
  | 9, _, v, _ => v = .int .i64 (Lib.idxOf l uh)
  | 10, _, v, _ => v = .agg #[.int .i64 (Lib.idxOf l ul), .int .i64 (Lib.idxOf l uh)]
  | 11, L, v, w => ∃ p, v = .pointer (some ⟨p, 0, none⟩) ∧ b7 < p ∧ w.heap[p]? = some (.cells #[.int .i64 0, .int .i64 0] 27 (0, 0))
  | _, _, _, _ => False
theorem spKt6_stable (pl : Option Addr) (cl b7 : Nat) (l : List Int) (ul uh : Int) : ∀ i L v w w', spKt6 pl cl b7 l ul uh i L v w → Rs.Gr w w' → spKt6 pl cl b7 l ul uh i L v w' := by
  intro i L v w w' h hg
  match i with
  | 0 => exact h
  | 1 => exact h
  | 2 => exact h
  | 3 => exact h
  | 4 => exact h
  | 5 => exact h
  | 6 => exact h
  | 7 => exact h
  | 8 => exact h
  | 9 => exact h
  | 10 => exact h
  | 11 => obtain ⟨p, h1, h2, h3⟩ := h; exact ⟨p, h1, h2, (hg.block p (Array.getElem?_eq_some_iff.1 h3).1).trans h3⟩
def spKt7 (pl : Option Addr) (cl b7 b8 : Nat) (l : List Int) (uw a b : Int) (v5 : Value) : Nat → List Value → Value → World → Prop
  | 0, _, v, _ => v = v5
  | 1, _, v, _ => v = .slice pl l.length cl
  | 2, _, v, _ => v = .pointer (some ⟨b7, 0, none⟩)
  | 3, _, v, _ => v = .int .i64 uw
  | 4, _, v, _ => v = .int .i64 (Lib.idxOf l uw)
  | 5, _, v, _ => v = .agg #[.int .i64 a, .int .i64 b]
  | 6, _, v, _ => v = .agg #[.int .i64 (Lib.idxOf l uw), .int .i64 a, .int .i64 b]
  | 7, L, v, w => ∃ p, v = .slice (some ⟨p, 0, none⟩) 1 1 ∧ b8 < p ∧ w.heap[p]? = some (.cells #[.int .i64 (Lib.idxOf l uw), .int .i64 a, .int .i64 b] 80 (0, 0))
  | _, _, _, _ => False
theorem spKt7_stable (pl : Option Addr) (cl b7 b8 : Nat) (l : List Int) (uw a b : Int) (v5 : Value) : ∀ i L v w w', spKt7 pl cl b7 b8 l uw a b v5 i L v w → Rs.Gr w w' → spKt7 pl cl b7 b8 l uw a b v5 i L v w' := by
  intro i L v w w' h hg
  match i with
  | 0 => exact h
  | 1 => exact h
  | 2 => exact h
  | 3 => exact h
  | 4 => exact h
  | 5 => exact h
  | 6 => exact h
  | 7 => obtain ⟨p, h1, h2, h3⟩ := h; exact ⟨p, h1, h2, (hg.block p (Array.getElem?_eq_some_iff.1 h3).1).trans h3⟩

set_option maxHeartbeats 8000000 in
set_option maxRecDepth 100000 in
theorem keptTurns_any (t : Text) (ok : Text.Ok t) (l : List Int) (hll : l.length ≤ 100000) (pt pl : Option Addr) (ct cl : Nat) (v0 v2 v3 : Value) (w : World) (hT : Tns w pt t.turns) (hL : Ints w pl l) :
    Calls Try.prog 123 #[.agg #[v0, .slice pt t.turns.length ct, v2, v3], .slice pl l.length cl] w fun e w' => ∃ v, e = .returned v ∧ w'.ownsRow w.heap.size 80 3 v (shortTs t.turns l).length (tcells (shortTs t.turns l)) ∧ Below w.heap.size w w' := by
  obtain ⟨j0, hj0, hy0, hy1, hy2⟩ := info_parts A_infoTn
  have hm6 := ok.m6
  have HT := Lib.hid hT
  have HIX := Lib.hid (fun x W (h : Below w.heap.size w W) => index_any l (by omega) pl cl x W (hL.below h))
  have HCK := Lib.hid (fun (u : Turn) (hu : u ∈ t.turns) W (h : Below w.heap.size w W) => coreKept_any u ⟨by have := (ok.turn u hu); omega, by have := (ok.turn u hu); omega, by have := (ok.turn u hu); have := ok.n12; omega⟩ l (by omega) pl cl W (hL.below h))
  have HCO := Lib.hid (fun x W (h : Below w.heap.size w W) => contains_any l (by omega) pl cl x W (hL.below h))
  have HOK := Lib.hid ok
  have HB := Lib.hid (below1 w (.cells #[v0, .slice pt t.turns.length ct, v2, v3] 125))
  have HX := Lib.hid (heap_last w (.cells #[v0, .slice pt t.turns.length ct, v2, v3] 125))
  have hsz : (w.alloc (.cells #[v0, .slice pt t.turns.length ct, v2, v3] 125)).heap.size = w.heap.size + 1 := by simp
  have k1 := blk_cells HX.out 1 _ rfl
  clear hT hL ok
  go_enter Try.func123, Try.ntmps123
  go_wp2_with fail
  generalize w.alloc (.cells #[v0, .slice pt t.turns.length ct, v2, v3] 125) = W1 at HB HX hsz k1 ⊢
  have hsz1 : w.heap.size + 1 ≤ W1.heap.size := by omega
  clear k1
  go_loopw [5, 13] (fun v i wr => ∃ k : Nat, k ≤ t.turns.length ∧ i = .int .i64 k ∧ Hid (wr.ownsRow W1.heap.size 80 3 v (shortTs (t.turns.take k) l).length (tcells (shortTs (t.turns.take k) l))) ∧ Hid (Below W1.heap.size W1 wr)) (fun _ i _ => t.turns.length - (intOf i).toNat)
  case atStart => exact ⟨0, Nat.zero_le _, rfl, Lib.hid (own_none _ _ _ _), Lib.hid (Below.refl _ _)⟩
  case round =>
    obtain ⟨k, hk, rfl, HO, HBr0⟩ := hrel
    have HBr := Lib.hid (join HB.out HBr0.out)
    obtain ⟨p5, c5, rfl⟩ := own_val HO.out
    have hsl : (shortTs (t.turns.take k) l).length ≤ t.turns.length := Nat.le_trans (shortTs_len _ _) (by simp; omega)
    generalize hS : shortTs (t.turns.take k) l = S at HO hsl
    have HS := Lib.hid hS
    clear hS
    by_cases hlt : k < t.turns.length
    · have hlt' : (k : Int) < t.turns.length := by omega
      obtain ⟨b, o, u, rfl, hb, hxx, d0, d1, d2⟩ := (HT.out.below HBr.out).at hlt
      have hum : u ∈ t.turns := by rw [hxx]; exact getD_mem default hlt
      have hur := HOK.out.turn u hum
      have HUR := Lib.hid (show u.lo ≤ u.hi by omega)
      have HCU := Lib.hid (HCK.out u hum)
      have HSN := Lib.hid (show shortTs (t.turns.take (k + 1)) l = S ++ (if coreIn u l && l.contains u.word then [shortTurn l u] else []) by rw [take_snocD default hlt, ← hxx, ← HS.out]; exact shortTs_snoc (t.turns.take k) u l)
      have hbz := HBr0.out.size
      clear hxx hum hur HCK
      obtain ⟨uw, ul, uh⟩ := u
      dsimp only at d0 d1 d2 HUR HCU HSN
      have HX7 := Lib.hid (heap_last wr (.cells #[.int .i64 uw, .int .i64 ul, .int .i64 uh] 80))
      have HZ7 := Lib.hid (show wr.heap.size < (wr.alloc (.cells #[.int .i64 uw, .int .i64 ul, .int .i64 uh] 80)).heap.size by rw [World.size_alloc]; omega)
      have HO7 := Lib.hid (own_below HO.out (below1 wr (.cells #[.int .i64 uw, .int .i64 ul, .int .i64 uh] 80)))
      have HBr7 := Lib.hid (HBr.out.trans ((below1 wr (.cells #[.int .i64 uw, .int .i64 ul, .int .i64 uh] 80)).mono HBr.out.size))
      have HB07 := Lib.hid (HBr0.out.trans ((below1 wr (.cells #[.int .i64 uw, .int .i64 ul, .int .i64 uh] 80)).mono hbz))
      clear HO HBr HBr0
      go_wp2_with fail
      clear d0 d1 d2
      refine (HCU.out _ HBr7.out).mono ?_
      rintro e w5 ⟨rfl, hB⟩
      have HX7 := Lib.hid ((hB.block _ HZ7.out).trans HX7.out)
      have HZ7 := Lib.hid (Nat.lt_of_lt_of_le HZ7.out hB.size)
      have HO7 := Lib.hid (own_below HO7.out hB)
      have HBr := Lib.hid (HBr7.out.trans (hB.mono HBr7.out.size))
      have HBr0 := Lib.hid (HB07.out.trans (hB.mono HB07.out.size))
      clear hB HBr7 HB07 HCU
      cases hc : coreIn ⟨uw, ul, uh⟩ l with
      | false =>
        rw [hc, Bool.false_and] at HSN
        clear hc
        go_wp2
        go_roundw
        case rel => exact ⟨k + 1, by omega, by go_num, by have h := HO7.out; have e := HSN.out; simp only [Bool.false_eq_true, if_false, List.append_nil] at e; exact Lib.hid (by rw [e]; exact h), HBr0⟩
        case measure => simp [intOf]; omega
      | true =>
        have HE := Lib.hid (core_ends HUR.out hc)
        rw [hc, Bool.true_and] at HSN
        clear hc
        obtain ⟨k0, k1, k2⟩ := blk3 HX7.out
        go_wp2_with fail
        refine (HCO.out _ _ HBr.out).mono ?_
        rintro e w6 ⟨rfl, rfl⟩
        clear k0 k1 k2
        cases hc2 : l.contains uw with
        | false =>
          rw [hc2] at HSN
          clear hc2
          go_wp2
          go_roundw
          case rel => exact ⟨k + 1, by omega, by go_num, by have h := HO7.out; have e := HSN.out; simp only [Bool.false_eq_true, if_false, List.append_nil] at e; exact Lib.hid (by rw [e]; exact h), HBr0⟩
          case measure => simp [intOf]; omega
        | true =>
          have HW2 := Lib.hid (libIdx hc2)
          rw [hc2] at HSN
          clear hc2
          go_wp2_with fail
          refine Rs.region_gen 12 [[], [], [1], [1, 2], [0, 1, 2, 3], [], [], [6], [6, 7], [0, 1, 2, 3, 4, 5, 6, 7, 8], [0, 1, 2, 3, 4, 5, 6, 7, 8, 9], []] [some 26, some 27, some 28, some 29, some 30, some 31, some 32, some 33, some 34, some 35, some 36, some 8] (spKt6 pl cl wr.heap.size l ul uh) (by kernel_rfl) (by kernel_rfl) rfl (spKt6_stable _ _ _ _ _ _) ?_ ?_
          · refine ⟨fun V w' hG hs => ?_, fun V w' hG hs => ?_, fun V w' hG hs => ?_, fun V w' hG hs => ?_, fun V w' hG hs => ?_, fun V w' hG hs => ?_, fun V w' hG hs => ?_, fun V w' hG hs => ?_, fun V w' hG hs => ?_, fun V w' hG hs => ?_, fun V w' hG hs => ?_, fun V w' hG hs => ?_, trivial⟩
            all_goals
              obtain ⟨k0, k1, k2⟩ := blk3 ((hG.block _ HZ7.out).trans HX7.out)
            · rw [if_pos (by rfl)]
              exact Rs.GrowL.value (v := .slice pl l.length cl) (w' := w') (by simp [go_sem, Rs.look]) (Rs.Gr.refl _) rfl
            · rw [if_pos (by rfl)]
              exact Rs.GrowL.value (v := .pointer (some ⟨wr.heap.size, 1, none⟩)) (w' := w') (by simp [go_sem, Rs.look]) (Rs.Gr.refl _) rfl
            · have e1 : V 1 = .pointer (some ⟨wr.heap.size, 1, none⟩) := hs 1 (by simp)
              rw [if_pos (by rfl)]
              exact Rs.GrowL.value (v := .pointer (some ⟨wr.heap.size, 1, none⟩)) (w' := w') (by simp [go_sem, Rs.look, e1]) (Rs.Gr.refl _) rfl
            · have e1 : V 1 = .pointer (some ⟨wr.heap.size, 1, none⟩) := hs 1 (by simp)
              have e2 : V 2 = .pointer (some ⟨wr.heap.size, 1, none⟩) := hs 2 (by simp)
              rw [if_pos (by rfl)]
              exact Rs.GrowL.value (v := .int .i64 ul) (w' := w') (by simp [go_sem, Rs.look, e1, e2, k1]) (Rs.Gr.refl _) rfl
            · have e0 : V 0 = .slice pl l.length cl := hs 0 (by simp)
              have e1 : V 1 = .pointer (some ⟨wr.heap.size, 1, none⟩) := hs 1 (by simp)
              have e2 : V 2 = .pointer (some ⟨wr.heap.size, 1, none⟩) := hs 2 (by simp)
              have e3 : V 3 = .int .i64 ul := hs 3 (by simp)
              rw [if_pos (by rfl)]
              refine Rs.GrowL.call (f := 131) (args := #[.slice pl l.length cl, .int .i64 ul]) (by simp [go_sem, Rs.look, e0, e3]) ?_
              refine (HIX.out _ w' (below_trans2 HBr.out hG)).mono ?_
              rintro e w2 ⟨rfl, rfl⟩
              exact ⟨_, rfl, Rs.Gr.refl _, rfl⟩
            · rw [if_pos (by rfl)]
              exact Rs.GrowL.value (v := .slice pl l.length cl) (w' := w') (by simp [go_sem, Rs.look]) (Rs.Gr.refl _) rfl
            · rw [if_pos (by rfl)]
              exact Rs.GrowL.value (v := .pointer (some ⟨wr.heap.size, 1, none⟩)) (w' := w') (by simp [go_sem, Rs.look]) (Rs.Gr.refl _) rfl
            · have e6 : V 6 = .pointer (some ⟨wr.heap.size, 1, none⟩) := hs 6 (by simp)
              rw [if_pos (by rfl)]
              exact Rs.GrowL.value (v := .pointer (some ⟨wr.heap.size, 2, none⟩)) (w' := w') (by simp [go_sem, Rs.look, e6]) (Rs.Gr.refl _) rfl
            · have e6 : V 6 = .pointer (some ⟨wr.heap.size, 1, none⟩) := hs 6 (by simp)
              have e7 : V 7 = .pointer (some ⟨wr.heap.size, 2, none⟩) := hs 7 (by simp)
              rw [if_pos (by rfl)]
              exact Rs.GrowL.value (v := .int .i64 uh) (w' := w') (by simp [go_sem, Rs.look, e6, e7, k2]) (Rs.Gr.refl _) rfl
            · have e0 : V 0 = .slice pl l.length cl := hs 0 (by simp)
              have e1 : V 1 = .pointer (some ⟨wr.heap.size, 1, none⟩) := hs 1 (by simp)
              have e2 : V 2 = .pointer (some ⟨wr.heap.size, 1, none⟩) := hs 2 (by simp)
              have e3 : V 3 = .int .i64 ul := hs 3 (by simp)
              have e4 : V 4 = .int .i64 (Lib.idxOf l ul) := hs 4 (by simp)
              have e5 : V 5 = .slice pl l.length cl := hs 5 (by simp)
              have e6 : V 6 = .pointer (some ⟨wr.heap.size, 1, none⟩) := hs 6 (by simp)
              have e7 : V 7 = .pointer (some ⟨wr.heap.size, 2, none⟩) := hs 7 (by simp)
              have e8 : V 8 = .int .i64 uh := hs 8 (by simp)
              rw [if_pos (by rfl)]
              refine Rs.GrowL.call (f := 131) (args := #[.slice pl l.length cl, .int .i64 uh]) (by simp [go_sem, Rs.look, e5, e8]) ?_
              refine (HIX.out _ w' (below_trans2 HBr.out hG)).mono ?_
              rintro e w2 ⟨rfl, rfl⟩
              exact ⟨_, rfl, Rs.Gr.refl _, rfl⟩
            · have e0 : V 0 = .slice pl l.length cl := hs 0 (by simp)
              have e1 : V 1 = .pointer (some ⟨wr.heap.size, 1, none⟩) := hs 1 (by simp)
              have e2 : V 2 = .pointer (some ⟨wr.heap.size, 1, none⟩) := hs 2 (by simp)
              have e3 : V 3 = .int .i64 ul := hs 3 (by simp)
              have e4 : V 4 = .int .i64 (Lib.idxOf l ul) := hs 4 (by simp)
              have e5 : V 5 = .slice pl l.length cl := hs 5 (by simp)
              have e6 : V 6 = .pointer (some ⟨wr.heap.size, 1, none⟩) := hs 6 (by simp)
              have e7 : V 7 = .pointer (some ⟨wr.heap.size, 2, none⟩) := hs 7 (by simp)
              have e8 : V 8 = .int .i64 uh := hs 8 (by simp)
              have e9 : V 9 = .int .i64 (Lib.idxOf l uh) := hs 9 (by simp)
              rw [if_pos (by rfl)]
              exact Rs.GrowL.value (v := .agg #[.int .i64 (Lib.idxOf l ul), .int .i64 (Lib.idxOf l uh)]) (w' := w') (by simp [go_sem, Rs.look, e0, e1, e2, e3, e4, e5, e6, e7, e8, e9]) (Rs.Gr.refl _) rfl
            · rw [if_pos (by rfl)]
              exact Rs.GrowL.value (v := .pointer (some ⟨w'.heap.size, 0, none⟩)) (w' := w'.alloc (.cells #[.int .i64 0, .int .i64 0] 27)) (by simp [go_sem, Rs.look]) (below1 _ _) ⟨_, rfl, by have := hG.size; have := HZ7.out; omega, heap_last _ _⟩
          · intro V w' hG hs
            have e0 : V 0 = .slice pl l.length cl := hs 0 (by omega)
            have e1 : V 1 = .pointer (some ⟨wr.heap.size, 1, none⟩) := hs 1 (by omega)
            have e2 : V 2 = .pointer (some ⟨wr.heap.size, 1, none⟩) := hs 2 (by omega)
            have e3 : V 3 = .int .i64 ul := hs 3 (by omega)
            have e4 : V 4 = .int .i64 (Lib.idxOf l ul) := hs 4 (by omega)
            have e5 : V 5 = .slice pl l.length cl := hs 5 (by omega)
            have e6 : V 6 = .pointer (some ⟨wr.heap.size, 1, none⟩) := hs 6 (by omega)
            have e7 : V 7 = .pointer (some ⟨wr.heap.size, 2, none⟩) := hs 7 (by omega)
            have e8 : V 8 = .int .i64 uh := hs 8 (by omega)
            have e9 : V 9 = .int .i64 (Lib.idxOf l uh) := hs 9 (by omega)
            have e10 : V 10 = .agg #[.int .i64 (Lib.idxOf l ul), .int .i64 (Lib.idxOf l uh)] := hs 10 (by omega)
            have r11 := hs 11 (by omega)
            obtain ⟨b8, e11, hb8, hx8⟩ := r11
            simp only [Rs.canon, Rs.dstOf, List.range_succ, List.range_zero, List.nil_append, List.cons_append, List.foldl_cons, List.foldl_nil, List.drop_succ_cons, List.drop_zero, List.drop_nil, List.getElem?_toArray, List.getElem?_cons_succ, List.getElem?_cons_zero, Option.bind_some, Act.put, List.getD_cons_succ, List.getD_cons_zero, List.setIfInBounds_toArray, List.set_cons_succ, List.set_cons_zero]
            rw [e0, e1, e2, e3, e4, e5, e6, e7, e8, e9, e10, e11]
            clear e0 e1 e2 e3 e4 e5 e6 e7 e8 e9 e10 e11 hs
            have HX7b := Lib.hid ((hG.block _ HZ7.out).trans HX7.out)
            have HBr := Lib.hid (below_trans2 HBr.out hG)
            have HBr0 := Lib.hid (below_trans2 HBr0.out hG)
            have HO7 := Lib.hid (own_below HO7.out hG)
            have HHX8 := Lib.hid hx8
            have hz8 := (Array.getElem?_eq_some_iff.1 hx8).1
            have fz : ∀ i, w'.frozen? ⟨b8, i, none⟩ = false := fun i => by simp [World.frozen?, hx8]
            obtain ⟨m0, m1⟩ := blk2 hx8
            clear hx8 hG HX7 HZ7
            go_wp2_with fail
            clear m0 m1 fz
            obtain ⟨WS, hWS⟩ : ∃ WS, WS = (w'.setCell ⟨b8, 0, none⟩ (.int .i64 (Lib.idxOf l ul))).setCell ⟨b8, 1, none⟩ (.int .i64 (Lib.idxOf l uh)) := ⟨_, rfl⟩
            rw [← hWS]
            have hb8' : W1.heap.size ≤ b8 := by omega
            have HX78 := Lib.hid (show WS.heap[wr.heap.size]? = some (.cells #[.int .i64 uw, .int .i64 ul, .int .i64 uh] 80 (0, 0)) by
              rw [hWS]; exact (Below.heap_setCell _ _ _ _ (by show wr.heap.size ≠ b8; omega)).trans ((Below.heap_setCell _ _ _ _ (by show wr.heap.size ≠ b8; omega)).trans HX7b.out))
            have HX8 := Lib.hid (show WS.heap[b8]? = some (.cells #[.int .i64 (Lib.idxOf l ul), .int .i64 (Lib.idxOf l uh)] 27 (0, 0)) by
              rw [hWS]; exact heap_set_same _ (heap_set_same _ HHX8.out))
            have HBr := Lib.hid (show Below w.heap.size w WS by
              rw [hWS]; exact (HBr.out.setCell (p := ⟨b8, 0, none⟩) (by show w.heap.size ≤ b8; omega) _).setCell (p := ⟨b8, 1, none⟩) (by show w.heap.size ≤ b8; omega) _)
            have HBr0 := Lib.hid (show Below W1.heap.size W1 WS by
              rw [hWS]; exact (HBr0.out.setCell (p := ⟨b8, 0, none⟩) hb8' _).setCell (p := ⟨b8, 1, none⟩) hb8' _)
            have HZ78 := Lib.hid (Array.getElem?_eq_some_iff.1 HX78.out).1
            have HZ8 := Lib.hid (Array.getElem?_eq_some_iff.1 HX8.out).1
            have HOS := Lib.hid (show WS.ownsRow W1.heap.size 80 3 (.slice p5 S.length c5) S.length (tcells S) by
              rw [hWS]; exact own_setT (own_setT HO7.out HHX8.out (by decide)) (heap_set_same _ HHX8.out) (by decide))
            clear hWS HHX8 HX7b HO7
            refine Rs.region_gen 8 [[], [], [], [2], [1, 2, 3], [], [1, 2, 3, 4, 5], [1, 2, 3, 4, 5, 6]] [some 37, some 38, some 39, some 40, some 41, some 42, some 43, some 44] (spKt7 pl cl wr.heap.size b8 l uw (Lib.idxOf l ul) (Lib.idxOf l uh) (.slice p5 S.length c5)) (by kernel_rfl) (by kernel_rfl) rfl (spKt7_stable _ _ _ _ _ _ _ _ _) ?_ ?_
            · refine ⟨fun V w' hG hs => ?_, fun V w' hG hs => ?_, fun V w' hG hs => ?_, fun V w' hG hs => ?_, fun V w' hG hs => ?_, fun V w' hG hs => ?_, fun V w' hG hs => ?_, fun V w' hG hs => ?_, trivial⟩
              all_goals
                obtain ⟨k0, k1, k2⟩ := blk3 ((hG.block _ HZ78.out).trans HX78.out)
                obtain ⟨m0, m1⟩ := blk2 ((hG.block _ HZ8.out).trans HX8.out)
              · rw [if_pos (by rfl)]
                exact Rs.GrowL.value (v := (.slice p5 S.length c5)) (w' := w') (by simp [go_sem, Rs.look]) (Rs.Gr.refl _) rfl
              · rw [if_pos (by rfl)]
                exact Rs.GrowL.value (v := .slice pl l.length cl) (w' := w') (by simp [go_sem, Rs.look]) (Rs.Gr.refl _) rfl
              · rw [if_pos (by rfl)]
                exact Rs.GrowL.value (v := .pointer (some ⟨wr.heap.size, 0, none⟩)) (w' := w') (by simp [go_sem, Rs.look]) (Rs.Gr.refl _) rfl
              · have e2 : V 2 = .pointer (some ⟨wr.heap.size, 0, none⟩) := hs 2 (by simp)
                rw [if_pos (by rfl)]
                exact Rs.GrowL.value (v := .int .i64 uw) (w' := w') (by simp [go_sem, Rs.look, e2, k0]) (Rs.Gr.refl _) rfl
              · have e1 : V 1 = .slice pl l.length cl := hs 1 (by simp)
                have e2 : V 2 = .pointer (some ⟨wr.heap.size, 0, none⟩) := hs 2 (by simp)
                have e3 : V 3 = .int .i64 uw := hs 3 (by simp)
                rw [if_pos (by rfl)]
                refine Rs.GrowL.call (f := 131) (args := #[.slice pl l.length cl, .int .i64 uw]) (by simp [go_sem, Rs.look, e1, e3]) ?_
                refine (HIX.out _ w' (below_trans2 HBr.out hG)).mono ?_
                rintro e w2 ⟨rfl, rfl⟩
                exact ⟨_, rfl, Rs.Gr.refl _, rfl⟩
              · rw [if_pos (by rfl)]
                exact Rs.GrowL.value (v := .agg #[.int .i64 (Lib.idxOf l ul), .int .i64 (Lib.idxOf l uh)]) (w' := w') (by simp [go_sem, Rs.look, m0, m1]) (Rs.Gr.refl _) rfl
              · have e1 : V 1 = .slice pl l.length cl := hs 1 (by simp)
                have e2 : V 2 = .pointer (some ⟨wr.heap.size, 0, none⟩) := hs 2 (by simp)
                have e3 : V 3 = .int .i64 uw := hs 3 (by simp)
                have e4 : V 4 = .int .i64 (Lib.idxOf l uw) := hs 4 (by simp)
                have e5 : V 5 = .agg #[.int .i64 (Lib.idxOf l ul), .int .i64 (Lib.idxOf l uh)] := hs 5 (by simp)
                rw [if_pos (by rfl)]
                exact Rs.GrowL.value (v := .agg #[.int .i64 (Lib.idxOf l uw), .int .i64 (Lib.idxOf l ul), .int .i64 (Lib.idxOf l uh)]) (w' := w') (by simp [go_sem, Rs.look, e1, e2, e3, e4, e5]) (Rs.Gr.refl _) rfl
              · have e1 : V 1 = .slice pl l.length cl := hs 1 (by simp)
                have e2 : V 2 = .pointer (some ⟨wr.heap.size, 0, none⟩) := hs 2 (by simp)
                have e3 : V 3 = .int .i64 uw := hs 3 (by simp)
                have e4 : V 4 = .int .i64 (Lib.idxOf l uw) := hs 4 (by simp)
                have e5 : V 5 = .agg #[.int .i64 (Lib.idxOf l ul), .int .i64 (Lib.idxOf l uh)] := hs 5 (by simp)
                have e6 : V 6 = .agg #[.int .i64 (Lib.idxOf l uw), .int .i64 (Lib.idxOf l ul), .int .i64 (Lib.idxOf l uh)] := hs 6 (by simp)
                rw [if_pos (by rfl)]
                exact Rs.GrowL.value (v := .slice (some ⟨w'.heap.size, 0, none⟩) 1 1) (w' := w'.alloc (.cells #[.int .i64 (Lib.idxOf l uw), .int .i64 (Lib.idxOf l ul), .int .i64 (Lib.idxOf l uh)] 80)) (by simp [go_sem, Rs.look, e6]) (below1 _ _) ⟨_, rfl, by have := hG.size; have := HZ8.out; omega, heap_last _ _⟩
            · intro V w' hG hs
              have e0 : V 0 = (.slice p5 S.length c5) := hs 0 (by omega)
              have e1 : V 1 = .slice pl l.length cl := hs 1 (by omega)
              have e2 : V 2 = .pointer (some ⟨wr.heap.size, 0, none⟩) := hs 2 (by omega)
              have e3 : V 3 = .int .i64 uw := hs 3 (by omega)
              have e4 : V 4 = .int .i64 (Lib.idxOf l uw) := hs 4 (by omega)
              have e5 : V 5 = .agg #[.int .i64 (Lib.idxOf l ul), .int .i64 (Lib.idxOf l uh)] := hs 5 (by omega)
              have e6 : V 6 = .agg #[.int .i64 (Lib.idxOf l uw), .int .i64 (Lib.idxOf l ul), .int .i64 (Lib.idxOf l uh)] := hs 6 (by omega)
              have r7 := hs 7 (by omega)
              obtain ⟨p9, e7, hp9, hx9⟩ := r7
              simp only [Rs.canon, Rs.dstOf, List.range_succ, List.range_zero, List.nil_append, List.cons_append, List.foldl_cons, List.foldl_nil, List.drop_succ_cons, List.drop_zero, List.drop_nil, List.getElem?_toArray, List.getElem?_cons_succ, List.getElem?_cons_zero, Option.bind_some, Act.put, List.getD_cons_succ, List.getD_cons_zero, List.setIfInBounds_toArray, List.set_cons_succ, List.set_cons_zero]
              rw [e0, e1, e2, e3, e4, e5, e6, e7]
              clear e0 e1 e2 e3 e4 e5 e6 e7 hs
              have HOS := Lib.hid (own_below HOS.out hG)
              have HBr := Lib.hid (below_trans2 HBr.out hG)
              have HBr0 := Lib.hid (below_trans2 HBr0.out hG)
              have HX9 := Lib.hid hx9
              clear hG hx9
              go_wp2_with (at_builtin; refine wpList_append_own _ rfl _ _ 23 rfl W1.heap.size 80 j0 (.agg #[.int .i64 0, .int .i64 0, .int .i64 0]) 3 24 A_undTs hj0 hy0 hy1 hy2 rfl (by decide) _ _ _ rfl HOS.out ⟨p9, 0, none⟩ 1 1 [.int .i64 (Lib.idxOf l uw), .int .i64 (Lib.idxOf l ul), .int .i64 (Lib.idxOf l uh)] rfl rfl ?e1 ?e2 ?e3 ?e4 ?e5 ?_)
              case e1 => exact cell3_at HX9.out
              case e2 => intro u hu; simp at hu; rcases hu with rfl | rfl | rfl <;> rfl
              case e3 => unfold maxLen; omega
              case e4 => omega
              case e5 => have := HBr0.out.size; omega
              intro v' w8 hown8 hgrow _
              have HO8 := Lib.hid hown8
              have HB8 := Lib.hid (below_grown HBr0.out HOS.out (Nat.le_refl _) (by have := HBr0.out.size; omega) hgrow)
              clear hown8 hgrow
              go_wp2
              go_roundw
              case rel =>
                refine ⟨k + 1, by omega, by go_num, Lib.hid ?_, HB8⟩
                have e := HSN.out
                simp only [if_true] at e
                rw [e, List.length_append, tcells_snoc]
                have h8 := HO8.out
                rw [libIdx HE.out.1, libIdx HE.out.2, HW2.out] at h8
                first | exact h8 | (rw [hsz]; exact h8)
              case measure => simp [intOf]; omega
    · obtain rfl : k = t.turns.length := by omega
      go_wp2
      go_ret
      exact ⟨_, rfl, by have h := HO.out; have e := HS.out; rw [List.take_length] at e; rw [e]; exact own_base h (by omega), HBr.out⟩
end Go.Proofs.Ytadnggecnjdhiaa
set_option linter.unusedSimpArgs false
set_option linter.unusedVariables false
namespace Go.Proofs.Ytadnggecnjdhiaa
open Go.RowKit Tx
attribute [local go_sem] Oper.semAt_some

/-- what Keeps tells -/
def keeB (t : Text) (l : List Int) : Bool := if t.keptE l = 0 then t.keeps l else false
def keeN (t : Text) (l : List Int) : Int := if t.keptE l = 0 then t.wtOf l else 0
theorem kept_len {t : Text} {l : List Int} (h : t.keptE l = 0) : l.length ≤ t.words.length := by
  obtain ⟨_, _, h2, h3⟩ := keptE_zero h
  have key : ∀ (l : List Int) (a : Int) (n : Nat), (∀ x ∈ l, a ≤ x ∧ x < a + (n : Int)) → l.Pairwise (· < ·) → l.length ≤ n := by
    intro l
    induction l with
    | nil => intro a n _ _; simp
    | cons x l ih =>
      intro a n hx hp
      have hp := List.pairwise_cons.1 hp
      have h0 := hx x (by simp)
      have := ih (x + 1) (a + n - (x + 1)).toNat (fun y hy => by
        have h1 := hp.1 y hy
        have h2 := hx y (by simp [hy])
        omega) hp.2
      rw [List.length_cons]
      omega
  exact key l 0 t.words.length (fun x hx => by have := h2 x hx; unfold Text.len at this; omega) h3
def spKe4 (pw pt pl : Option Addr) (n m ln cw ct cl : Nat) (br : Int) (fv : Value) (kb : Bool) (wt : Int) : Nat → List Value → Value → World → Prop
  | 0, _, v, _ => v = .agg #[.slice pw n cw, .slice pt m ct, .int .i64 br, fv]
  | 1, _, v, _ => v = .slice pl ln cl
  | 2, _, v, _ => v = .bool kb
  | 3, _, v, _ => v = .agg #[.slice pw n cw, .slice pt m ct, .int .i64 br, fv]
  | 4, _, v, _ => v = .slice pl ln cl
  | 5, _, v, _ => v = .int .i64 wt
  | _, _, _, _ => False
theorem spKe4_stable (pw pt pl : Option Addr) (n m ln cw ct cl : Nat) (br : Int) (fv : Value) (kb : Bool) (wt : Int) : ∀ i L v w w', spKe4 pw pt pl n m ln cw ct cl br fv kb wt i L v w → Rs.Gr w w' → spKe4 pw pt pl n m ln cw ct cl br fv kb wt i L v w' := by
  intro i L v w w' h hg
  match i with
  | 0 => exact h
  | 1 => exact h
  | 2 => exact h
  | 3 => exact h
  | 4 => exact h
  | 5 => exact h
def spSr6 (pw pt pl : Option Addr) (n m ln cw ct cl A B : Nat) (br : Int) (fv : Value) (ws : List Word) (ts : List Turn) : Nat → List Value → Value → World → Prop
  | 0, _, v, _ => v = .agg #[.slice pw n cw, .slice pt m ct, .int .i64 br, fv]
  | 1, _, v, _ => v = .slice pl ln cl
  | 2, L, v, w => ∃ g, v = .slice (some ⟨g, 0, none⟩) ln ln ∧ w.ownsRow B 77 3 (.slice (some ⟨g, 0, none⟩) ln ln) ln (wcells ws)
  | 3, _, v, _ => v = .agg #[.slice pw n cw, .slice pt m ct, .int .i64 br, fv]
  | 4, _, v, _ => v = .slice pl ln cl
  | 5, L, v, w => ∃ p c, v = .slice p ts.length c ∧ w.ownsRow B 80 3 (.slice p ts.length c) ts.length (tcells ts)
  | 6, _, v, _ => v = .pointer (some ⟨A, 2, none⟩)
  | 7, _, v, _ => v = .int .i64 br
  | 8, L, v, w => ∃ g p c, v = .agg #[.slice (some ⟨g, 0, none⟩) ln ln, .slice p ts.length c, .int .i64 br] ∧ w.ownsRow B 77 3 (.slice (some ⟨g, 0, none⟩) ln ln) ln (wcells ws) ∧ w.ownsRow B 80 3 (.slice p ts.length c) ts.length (tcells ts)
  | _, _, _, _ => False
theorem spSr6_stable (pw pt pl : Option Addr) (n m ln cw ct cl A B : Nat) (br : Int) (fv : Value) (ws : List Word) (ts : List Turn) : ∀ i L v w w', spSr6 pw pt pl n m ln cw ct cl A B br fv ws ts i L v w → Rs.Gr w w' → spSr6 pw pt pl n m ln cw ct cl A B br fv ws ts i L v w' := by
  intro i L v w w' h hg
  match i with
  | 0 => exact h
  | 1 => exact h
  | 2 => obtain ⟨g, h1, h2⟩ := h; exact ⟨g, h1, own_below h2 hg⟩
  | 3 => exact h
  | 4 => exact h
  | 5 => obtain ⟨p, c, h1, h2⟩ := h; exact ⟨p, c, h1, own_below h2 hg⟩
  | 6 => exact h
  | 7 => exact h
  | 8 => obtain ⟨g, p, c, h1, h2, h3⟩ := h; exact ⟨g, p, c, h1, own_below h2 hg, own_below h3 hg⟩

set_option maxHeartbeats 1600000 in
theorem paidWords_any (t : Text) (ok : Text.Ok t) (pw : Option Addr) (cw : Nat) (v1 v2 v3 : Value) (w : World) (hW : Wds w pw t.words) :
    Calls Try.prog 125 #[.agg #[.slice pw t.words.length cw, v1, v2, v3]] w fun e w' => e = .returned (.int .i64 (paidN t.words)) ∧ Below w.heap.size w w' := by
  have hn12 := ok.n12
  have HW := Lib.hid hW
  have HB := Lib.hid (below1 w (.cells #[.slice pw t.words.length cw, v1, v2, v3] 125))
  have HX := Lib.hid (heap_last w (.cells #[.slice pw t.words.length cw, v1, v2, v3] 125))
  have k0 := blk_cells HX.out 0 _ rfl
  clear hW ok
  go_enter Try.func125, Try.ntmps125
  go_wp2_with fail
  generalize w.alloc (.cells #[.slice pw t.words.length cw, v1, v2, v3] 125) = W1 at HB HX k0 ⊢
  clear k0
  go_loopw [3, 10] (fun s i wr => ∃ k : Nat, k ≤ t.words.length ∧ i = .int .i64 k ∧ s = .int .i64 (paidN (t.words.take k)) ∧ Hid (Below w.heap.size w wr)) (fun _ i _ => t.words.length - (intOf i).toNat)
  case atStart => exact ⟨0, Nat.zero_le _, rfl, rfl, HB⟩
  case round =>
    obtain ⟨k, hk, rfl, rfl, HBr⟩ := hrel
    have hbd := paidN_bd (t.words.take k)
    have htl : ((t.words.take k).length : Int) ≤ k := by rw [List.length_take]; omega
    by_cases hlt : k < t.words.length
    · have hlt' : (k : Int) < t.words.length := by omega
      obtain ⟨b, o, x, rfl, hb, hxx, d0, d1, d2⟩ := (HW.out.below HBr.out).at hlt
      have HS := Lib.hid (show paidN (t.words.take (k + 1)) = paidN (t.words.take k) + (if 3 < x.syl then 2 else 1) by rw [take_snocD default hlt, ← hxx, paidN_snoc])
      generalize paidN (t.words.take k) = s at hbd HS ⊢
      clear hxx
      by_cases h3 : 3 < x.syl
      · have e := HS.out
        rw [if_pos h3] at e
        have HE := Lib.hid e
        clear HS e
        go_wp2
        go_roundw
        case rel => exact ⟨k + 1, by omega, by go_num, by rw [HE.out]; go_num, Lib.hid (HBr.out.trans ((below1 _ _).mono HBr.out.size))⟩
        case measure => simp [intOf]; omega
      · have e := HS.out
        rw [if_neg h3] at e
        have HE := Lib.hid e
        clear HS e
        go_wp2
        go_roundw
        case rel => exact ⟨k + 1, by omega, by go_num, by rw [HE.out], Lib.hid (HBr.out.trans ((below1 _ _).mono HBr.out.size))⟩
        case measure => simp [intOf]; omega
    · obtain rfl : k = t.words.length := by omega
      have HF := Lib.hid (List.take_length (l := t.words))
      go_wp2
      go_ret
      exact ⟨by rw [HF.out]; rfl, HBr.out⟩
set_option maxHeartbeats 1600000 in
theorem Price_any (t : Text) (pc : Int) (hl1 : t.words.length ≤ 1000000) (hl2 : t.turns.length ≤ 1000000) (pw pt : Option Addr) (cw ct : Nat) (w : World) (hW : TxAt w t pw pt) :
    Calls Try.prog 48 #[.agg #[.slice pw t.words.length cw, .slice pt t.turns.length ct, .int .i64 t.breath], .int .i64 pc] w fun e w' => e = .returned (.tuple #[.int .i64 (t.priceV pc), .int .i64 (t.priceE pc)]) ∧ Below w.heap.size w w' := by
  by_cases he : t.err = 0
  · have ok := err_ok he
    have HS := Lib.hid (fun W (h : Below w.heap.size w W) => open_ok t he pw pt cw ct W (hW.below h))
    have HP := Lib.hid (fun W (h : Below w.heap.size w W) => paidWords_any t ok pw cw (.slice pt t.turns.length ct) (.int .i64 t.breath) (.func (.func 138) #[.agg #[.slice pw t.words.length cw, .slice pt t.turns.length ct, .int .i64 t.breath, .nilFunc]] #[]) W (hW.words.below h))
    have hbd := paidN_bd t.words
    have hn12 := ok.n12
    cases hb : btw pc 1 100 with
    | true =>
      have h2 : t.priceE pc = 0 := by unfold Text.priceE; rw [if_neg (by simpa using he), hb]; rfl
      have h1 : t.priceV pc = paidN t.words * pc := by unfold Text.priceV; rw [if_pos h2]
      have hbt := btw_true hb
      have HBT := Lib.hid hb
      rw [h1, h2]
      clear hW he h1 h2 ok hb
      generalize paidN t.words = s at HP hbd ⊢
      have hm : IntKind.wrap .i64 (s * pc) = s * pc := by
        have h1 : 0 ≤ s * pc := Int.mul_nonneg (by omega) (by omega)
        have h2 : s * pc ≤ 24 * 100 := Int.mul_le_mul (by omega) (by omega) (by omega) (by omega)
        exact IntWalk.i64_in _ (by omega)
      go_enter Try.func48, Try.ntmps48
      go_wp2_with fail
      refine (HS.out _ (below1 _ _)).mono ?_
      rintro e w5 ⟨rfl, hB5⟩
      have HB5 := Lib.hid (join (below1 _ _) hB5)
      clear hB5
      go_wp2_with fail
      refine (between_any pc 1 100 _).mono ?_
      rintro e w6 ⟨rfl, rfl⟩
      rw [HBT.out]
      go_wp2_with fail
      refine (HP.out _ (join HB5.out (below1 _ _))).mono ?_
      rintro e w7 ⟨rfl, hB7⟩
      go_wp2
      go_ret2
      exact ⟨rfl, join (join HB5.out (below1 _ _)) hB7⟩
    | false =>
      have h2 : t.priceE pc = 3 := by unfold Text.priceE; rw [if_neg (by simpa using he), hb]; rfl
      have h1 : t.priceV pc = 0 := by unfold Text.priceV; rw [h2]; rfl
      have HBT := Lib.hid hb
      rw [h1, h2]
      clear hW he h1 h2 ok hb hbd
      go_enter Try.func48, Try.ntmps48
      go_wp2_with fail
      refine (HS.out _ (below1 _ _)).mono ?_
      rintro e w5 ⟨rfl, hB5⟩
      have HB5 := Lib.hid (join (below1 _ _) hB5)
      clear hB5
      go_wp2_with fail
      refine (between_any pc 1 100 _).mono ?_
      rintro e w6 ⟨rfl, rfl⟩
      rw [HBT.out]
      go_wp2
      go_ret2
      exact ⟨rfl, join HB5.out (below1 _ _)⟩
  · have h2 : t.priceE pc = t.err := by unfold Text.priceE; rw [if_pos he]
    have h1 : t.priceV pc = 0 := by unfold Text.priceV; rw [h2, if_neg he]
    rw [h1, h2]
    have HS := Lib.hid (fun W (h : Below w.heap.size w W) => open_bad t he hl1 hl2 pw pt cw ct W (hW.below h))
    have HE : (t.err != 0) = true := by simpa using he
    clear hW he h1 h2
    generalize t.err = er at HE HS ⊢
    go_enter Try.func48, Try.ntmps48
    go_wp2_with fail
    refine (HS.out _ (below1 _ _)).mono ?_
    rintro e w5 ⟨rfl, hB5⟩
    have HB5 := Lib.hid (join (below1 _ _) hB5)
    clear hB5
    go_wp2
    go_ret2
    exact ⟨rfl, join HB5.out (below1 _ _)⟩
set_option maxHeartbeats 4000000 in
set_option maxRecDepth 100000 in
theorem Keeps_any (t : Text) (l : List Int) (hl1 : t.words.length ≤ 1000000) (hl2 : t.turns.length ≤ 1000000) (hll : l.length ≤ 1000000) (pw pt pl : Option Addr) (cw ct cl : Nat) (w : World) (hW : TxAt w t pw pt) (hL : Ints w pl l) :
    Calls Try.prog 44 #[.agg #[.slice pw t.words.length cw, .slice pt t.turns.length ct, .int .i64 t.breath], .slice pl l.length cl] w fun e w' => e = .returned (.tuple #[.bool (keeB t l), .int .i64 (keeN t l), .int .i64 (t.keptE l)]) ∧ Below w.heap.size w w' := by
  have HS := Lib.hid (fun W (h : Below w.heap.size w W) => openKept_any t l hl1 hl2 hll pw pt pl cw ct cl W (hW.below h) (hL.below h))
  by_cases he : t.keptE l = 0
  · have hk := keptE_zero he
    have ok := err_ok hk.1
    have h1 : keeB t l = t.keeps l := if_pos he
    have h2 : keeN t l = t.wtOf l := if_pos he
    have hlen := kept_len he
    have hn12 := ok.n12
    have HKS := Lib.hid (fun W (h : Below w.heap.size w W) => keepSense_any t ok l hll pt pl ct cl (.slice pw t.words.length cw) (.int .i64 t.breath) (.func (.func 138) #[.agg #[.slice pw t.words.length cw, .slice pt t.turns.length ct, .int .i64 t.breath, .nilFunc]] #[]) W (hW.turns.below h) (hL.below h))
    have HWT := Lib.hid (fun W (h : Below w.heap.size w W) => weight_any t ok l (by omega) hk.2.2.1 pw pl cw cl (.slice pt t.turns.length ct) (.int .i64 t.breath) (.func (.func 138) #[.agg #[.slice pw t.words.length cw, .slice pt t.turns.length ct, .int .i64 t.breath, .nilFunc]] #[]) W (hW.words.below h) (hL.below h))
    rw [h1, h2, he]
    have HE := Lib.hid he
    clear hW hL he h1 h2 ok hk
    generalize t.keeps l = kb at HKS ⊢
    generalize t.wtOf l = wt at HWT ⊢
    go_enter Try.func44, Try.ntmps44
    go_wp2_with fail
    refine (HS.out _ (below1 _ _)).mono ?_
    rintro e w5 ⟨rfl, hB5⟩
    rw [if_pos HE.out, HE.out]
    unfold wkOf
    have HB5 := Lib.hid (join (join (below1 _ _) hB5) (below1 w5 (.cells #[.slice pw t.words.length cw, .slice pt t.turns.length ct, .int .i64 t.breath, (.func (.func 138) #[.agg #[.slice pw t.words.length cw, .slice pt t.turns.length ct, .int .i64 t.breath, .nilFunc]] #[])] 125)))
    have HX5 := Lib.hid (heap_last w5 (.cells #[.slice pw t.words.length cw, .slice pt t.turns.length ct, .int .i64 t.breath, (.func (.func 138) #[.agg #[.slice pw t.words.length cw, .slice pt t.turns.length ct, .int .i64 t.breath, .nilFunc]] #[])] 125))
    clear hB5
    go_wp2_with fail
    refine Rs.region_gen 6 [[], [], [0, 1], [], [], [0, 1, 2, 3, 4]] [some 18, some 19, some 20, some 21, some 22, some 23] (spKe4 pw pt pl t.words.length t.turns.length l.length cw ct cl t.breath (.func (.func 138) #[.agg #[.slice pw t.words.length cw, .slice pt t.turns.length ct, .int .i64 t.breath, .nilFunc]] #[]) kb wt) (by kernel_rfl) (by kernel_rfl) rfl (spKe4_stable _ _ _ _ _ _ _ _ _ _ _ _ _) ?_ ?_
    · refine ⟨fun V w' hG hs => ?_, fun V w' hG hs => ?_, fun V w' hG hs => ?_, fun V w' hG hs => ?_, fun V w' hG hs => ?_, fun V w' hG hs => ?_, trivial⟩
      all_goals
        have hq := (hG.block _ (Array.getElem?_eq_some_iff.1 HX5.out).1).trans HX5.out
        have k0 := blk_cells hq 0 _ rfl
        have k1 := blk_cells hq 1 _ rfl
        have k2 := blk_cells hq 2 _ rfl
        have k3 := blk_cells hq 3 _ rfl
      · rw [if_pos (by rfl)]
        exact Rs.GrowL.value (v := .agg #[.slice pw t.words.length cw, .slice pt t.turns.length ct, .int .i64 t.breath, (.func (.func 138) #[.agg #[.slice pw t.words.length cw, .slice pt t.turns.length ct, .int .i64 t.breath, .nilFunc]] #[])]) (w' := w') (by simp [go_sem, Rs.look, k0, k1, k2, k3]) (Rs.Gr.refl _) rfl
      · rw [if_pos (by rfl)]
        exact Rs.GrowL.value (v := .slice pl l.length cl) (w' := w') (by simp [go_sem, Rs.look]) (Rs.Gr.refl _) rfl
      · have e0 : V 0 = .agg #[.slice pw t.words.length cw, .slice pt t.turns.length ct, .int .i64 t.breath, (.func (.func 138) #[.agg #[.slice pw t.words.length cw, .slice pt t.turns.length ct, .int .i64 t.breath, .nilFunc]] #[])] := hs 0 (by simp)
        have e1 : V 1 = .slice pl l.length cl := hs 1 (by simp)
        rw [if_pos (by rfl)]
        refine Rs.GrowL.call (f := 118) (args := #[.agg #[.slice pw t.words.length cw, .slice pt t.turns.length ct, .int .i64 t.breath, .func (.func 138) #[.agg #[.slice pw t.words.length cw, .slice pt t.turns.length ct, .int .i64 t.breath, .nilFunc]] #[]], .slice pl l.length cl]) (by simp [go_sem, Rs.look, e0, e1]) ?_
        refine (HKS.out w' (below_trans2 HB5.out hG)).mono ?_
        rintro e w2 ⟨rfl, hB2⟩
        exact ⟨_, rfl, hB2, rfl⟩
      · rw [if_pos (by rfl)]
        exact Rs.GrowL.value (v := .agg #[.slice pw t.words.length cw, .slice pt t.turns.length ct, .int .i64 t.breath, (.func (.func 138) #[.agg #[.slice pw t.words.length cw, .slice pt t.turns.length ct, .int .i64 t.breath, .nilFunc]] #[])]) (w' := w') (by simp [go_sem, Rs.look, k0, k1, k2, k3]) (Rs.Gr.refl _) rfl
      · rw [if_pos (by rfl)]
        exact Rs.GrowL.value (v := .slice pl l.length cl) (w' := w') (by simp [go_sem, Rs.look]) (Rs.Gr.refl _) rfl
      · have e0 : V 0 = .agg #[.slice pw t.words.length cw, .slice pt t.turns.length ct, .int .i64 t.breath, (.func (.func 138) #[.agg #[.slice pw t.words.length cw, .slice pt t.turns.length ct, .int .i64 t.breath, .nilFunc]] #[])] := hs 0 (by simp)
        have e1 : V 1 = .slice pl l.length cl := hs 1 (by simp)
        have e2 : V 2 = .bool kb := hs 2 (by simp)
        have e3 : V 3 = .agg #[.slice pw t.words.length cw, .slice pt t.turns.length ct, .int .i64 t.breath, (.func (.func 138) #[.agg #[.slice pw t.words.length cw, .slice pt t.turns.length ct, .int .i64 t.breath, .nilFunc]] #[])] := hs 3 (by simp)
        have e4 : V 4 = .slice pl l.length cl := hs 4 (by simp)
        rw [if_pos (by rfl)]
        refine Rs.GrowL.call (f := 119) (args := #[.agg #[.slice pw t.words.length cw, .slice pt t.turns.length ct, .int .i64 t.breath, .func (.func 138) #[.agg #[.slice pw t.words.length cw, .slice pt t.turns.length ct, .int .i64 t.breath, .nilFunc]] #[]], .slice pl l.length cl]) (by simp [go_sem, Rs.look, e3, e4]) ?_
        refine (HWT.out w' (below_trans2 HB5.out hG)).mono ?_
        rintro e w2 ⟨rfl, hB2⟩
        exact ⟨_, rfl, hB2, rfl⟩
    · intro V w' hG hs
      have e0 : V 0 = .agg #[.slice pw t.words.length cw, .slice pt t.turns.length ct, .int .i64 t.breath, (.func (.func 138) #[.agg #[.slice pw t.words.length cw, .slice pt t.turns.length ct, .int .i64 t.breath, .nilFunc]] #[])] := hs 0 (by omega)
      have e1 : V 1 = .slice pl l.length cl := hs 1 (by omega)
      have e2 : V 2 = .bool kb := hs 2 (by omega)
      have e3 : V 3 = .agg #[.slice pw t.words.length cw, .slice pt t.turns.length ct, .int .i64 t.breath, (.func (.func 138) #[.agg #[.slice pw t.words.length cw, .slice pt t.turns.length ct, .int .i64 t.breath, .nilFunc]] #[])] := hs 3 (by omega)
      have e4 : V 4 = .slice pl l.length cl := hs 4 (by omega)
      have e5 : V 5 = .int .i64 wt := hs 5 (by omega)
      simp only [Rs.canon, Rs.dstOf, List.range_succ, List.range_zero, List.nil_append, List.cons_append, List.foldl_cons, List.foldl_nil, List.drop_succ_cons, List.drop_zero, List.drop_nil, List.getElem?_toArray, List.getElem?_cons_succ, List.getElem?_cons_zero, Option.bind_some, Act.put, List.getD_cons_succ, List.getD_cons_zero, List.setIfInBounds_toArray, List.set_cons_succ, List.set_cons_zero]
      rw [e0, e1, e2, e3, e4, e5]
      clear e0 e1 e2 e3 e4 e5 hs
      have hB := below_trans2 HB5.out hG
      clear hG
      go_wp2
      go_ret3
      exact ⟨rfl, hB⟩
  · have h1 : keeB t l = false := if_neg he
    have h2 : keeN t l = 0 := if_neg he
    have HE := Lib.hid he
    have hne : (t.keptE l != 0) = true := by simpa using he
    rw [h1, h2]
    clear hW hL he h1 h2
    go_enter Try.func44, Try.ntmps44
    go_wp2_with fail
    refine (HS.out _ (below1 _ _)).mono ?_
    rintro e w5 ⟨rfl, hB5⟩
    rw [if_neg HE.out]
    unfold wkNo
    have HB5 := Lib.hid (join (below1 _ _) hB5)
    clear hB5
    go_wp2
    go_ret3
    exact ⟨rfl, join HB5.out (below1 _ _)⟩
/-- what Shorter tells -/
def shoT (t : Text) (l : List Int) : Text := if t.keptE l = 0 ∧ t.keeps l = true then t.shortT l else ⟨[], [], 0⟩
def shoE (t : Text) (l : List Int) : Int := if t.keptE l = 0 then (if t.keeps l then 0 else 8) else t.keptE l
/-- a text that is told, in rows of its own -/
def TextPost (E1 E2 : TypeId) (x : Text) (er : Int) (w : World) (e : Ending) (w' : World) : Prop := ∃ p q c d, e = .returned (.tuple #[.agg #[.slice p x.words.length c, .slice q x.turns.length d, .int .i64 x.breath], .int .i64 er]) ∧ w'.ownsRow w.heap.size E1 3 (.slice p x.words.length c) x.words.length (wcells x.words) ∧ w'.ownsRow w.heap.size E2 3 (.slice q x.turns.length d) x.turns.length (tcells x.turns) ∧ Below w.heap.size w w'
set_option maxHeartbeats 4000000 in
set_option maxRecDepth 100000 in
theorem Shorter_any (t : Text) (l : List Int) (hl1 : t.words.length ≤ 1000000) (hl2 : t.turns.length ≤ 1000000) (hll : l.length ≤ 1000000) (pw pt pl : Option Addr) (cw ct cl : Nat) (hcw : t.words.length ≤ cw ∧ cw ≤ maxLen) (w : World) (hW : TxAt w t pw pt) (hL : Ints w pl l) :
    Calls Try.prog 46 #[.agg #[.slice pw t.words.length cw, .slice pt t.turns.length ct, .int .i64 t.breath], .slice pl l.length cl] w (TextPost 77 80 (shoT t l) (shoE t l) w) := by
  have HS := Lib.hid (fun W (h : Below w.heap.size w W) => openKept_any t l hl1 hl2 hll pw pt pl cw ct cl W (hW.below h) (hL.below h))
  by_cases he : t.keptE l = 0
  · have hk := keptE_zero he
    have ok := err_ok hk.1
    have hlen := kept_len he
    have hn12 := ok.n12
    have HKS := Lib.hid (fun W (h : Below w.heap.size w W) => keepSense_any t ok l hll pt pl ct cl (.slice pw t.words.length cw) (.int .i64 t.breath) (.func (.func 138) #[.agg #[.slice pw t.words.length cw, .slice pt t.turns.length ct, .int .i64 t.breath, .nilFunc]] #[]) W (hW.turns.below h) (hL.below h))
    have HKW := Lib.hid (fun W (h : Below w.heap.size w W) => keptWords_any t ok l (by omega) hk.2.2.1 hk.2.2.2 pw pl cw cl hcw (.slice pt t.turns.length ct) (.int .i64 t.breath) (.func (.func 138) #[.agg #[.slice pw t.words.length cw, .slice pt t.turns.length ct, .int .i64 t.breath, .nilFunc]] #[]) W (hW.words.below h) (hL.below h))
    have HKT := Lib.hid (fun W (h : Below w.heap.size w W) => keptTurns_any t ok l (by omega) pt pl ct cl (.slice pw t.words.length cw) (.int .i64 t.breath) (.func (.func 138) #[.agg #[.slice pw t.words.length cw, .slice pt t.turns.length ct, .int .i64 t.breath, .nilFunc]] #[]) W (hW.turns.below h) (hL.below h))
    have HE := Lib.hid he
    cases hks : t.keeps l with
    | false =>
      have h1 : shoT t l = ⟨[], [], 0⟩ := by unfold shoT; rw [if_neg (by rw [hks]; simp)]
      have h2 : shoE t l = 8 := by unfold shoE; rw [if_pos he, hks]; rfl
      rw [h1, h2]
      have HK := Lib.hid hks
      clear hW hL he h1 h2 ok hk hks HKW HKT
      go_enter Try.func46, Try.ntmps46
      go_wp2_with fail
      refine (HS.out _ ((below1 _ _).alloc (by simp) _)).mono ?_
      rintro e w5 ⟨rfl, hB5⟩
      rw [if_pos HE.out, HE.out]
      unfold wkOf
      have hz5 : w.heap.size + 1 < w5.heap.size := by have := hB5.size; simp at this; omega
      have HRES := Lib.hid (show w5.heap[w.heap.size + 1]? = some (.cells #[.slice none 0 0, .slice none 0 0, .int .i64 0] 25 (0, 0)) by
        rw [hB5.block _ (by simp)]
        have := heap_last (w.alloc (.cells #[.slice pw t.words.length cw, .slice pt t.turns.length ct, .int .i64 t.breath] 25)) (.cells #[.slice none 0 0, .slice none 0 0, .int .i64 0] 25)
        rwa [World.size_alloc] at this)
      have HT5 := Lib.hid (show w5.heap[w.heap.size]? = some (.cells #[.slice pw t.words.length cw, .slice pt t.turns.length ct, .int .i64 t.breath] 25 (0, 0)) by
        rw [hB5.block _ (by simp; omega), Below.heap_alloc _ _ _ (by simp)]; exact heap_last _ _)
      have hbn := below1 w5 (.cells #[.slice pw t.words.length cw, .slice pt t.turns.length ct, .int .i64 t.breath, (.func (.func 138) #[.agg #[.slice pw t.words.length cw, .slice pt t.turns.length ct, .int .i64 t.breath, .nilFunc]] #[])] 125)
      have HB6 := Lib.hid (join (join ((below1 _ _).alloc (by simp) _) hB5) hbn)
      have HX6 := Lib.hid (heap_last w5 (.cells #[.slice pw t.words.length cw, .slice pt t.turns.length ct, .int .i64 t.breath, (.func (.func 138) #[.agg #[.slice pw t.words.length cw, .slice pt t.turns.length ct, .int .i64 t.breath, .nilFunc]] #[])] 125))
      have HRES := Lib.hid ((hbn.block _ hz5).trans HRES.out)
      have HT6 := Lib.hid ((hbn.block w.heap.size (by omega)).trans HT5.out)
      have HZ6 := Lib.hid (show w.heap.size + 1 < (w5.alloc (.cells #[.slice pw t.words.length cw, .slice pt t.turns.length ct, .int .i64 t.breath, (.func (.func 138) #[.agg #[.slice pw t.words.length cw, .slice pt t.turns.length ct, .int .i64 t.breath, .nilFunc]] #[])] 125)).heap.size by rw [World.size_alloc]; omega)
      have k0 := blk_cells HX6.out 0 _ rfl
      have k1 := blk_cells HX6.out 1 _ rfl
      have k2 := blk_cells HX6.out 2 _ rfl
      have k3 := blk_cells HX6.out 3 _ rfl
      clear hB5 hbn HT5
      go_wp2_with fail
      refine (HKS.out _ HB6.out).mono ?_
      rintro e w7 ⟨rfl, hB7⟩
      rw [HK.out]
      have HRES := Lib.hid ((hB7.block _ (by have := HZ6.out; omega)).trans HRES.out)
      have hz7 : w.heap.size + 1 < w7.heap.size := by have := hB7.size; have := HZ6.out; omega
      have HB6 := Lib.hid (HB6.out.trans (hB7.mono HB6.out.size))
      have z : ∀ i, w7.frozen? ⟨w.heap.size + 1, i, none⟩ = false := fun i => by simp [World.frozen?, HRES.out]
      obtain ⟨r0, r1, r2⟩ := blk3 HRES.out
      clear hB7
      go_wp2
      refine bodyPost_ret (v := .tuple #[.agg #[.slice none 0 0, .slice none 0 0, .int .i64 0], .int .i64 8]) (by simp [results, Try.results46, go_sem, hz7, r0, r1, r2]) rfl ⟨none, none, 0, 0, rfl, own_none _ _ _ _, own_none _ _ _ _, ?_⟩
      have hz9 := HB6.out.size
      repeat' (first | exact HB6.out | apply belS | apply belA | apply belD)
      all_goals first | omega | (simp; done) | (simp; omega)
    | true =>
      have h1 : shoT t l = t.shortT l := by unfold shoT; rw [if_pos ⟨he, hks⟩]
      have h2 : shoE t l = 0 := by unfold shoE; rw [if_pos he, hks]; rfl
      rw [h1, h2]
      have HK := Lib.hid hks
      have HWL := Lib.hid (shortW_len t.words l t.words.length)
      clear hW hL he h1 h2 ok hk hks
      go_enter Try.func46, Try.ntmps46
      go_wp2_with fail
      refine (HS.out _ ((below1 _ _).alloc (by simp) _)).mono ?_
      rintro e w5 ⟨rfl, hB5⟩
      rw [if_pos HE.out, HE.out]
      unfold wkOf
      have hz5 : w.heap.size + 1 < w5.heap.size := by have := hB5.size; simp at this; omega
      have HRES := Lib.hid (show w5.heap[w.heap.size + 1]? = some (.cells #[.slice none 0 0, .slice none 0 0, .int .i64 0] 25 (0, 0)) by
        rw [hB5.block _ (by simp)]
        have := heap_last (w.alloc (.cells #[.slice pw t.words.length cw, .slice pt t.turns.length ct, .int .i64 t.breath] 25)) (.cells #[.slice none 0 0, .slice none 0 0, .int .i64 0] 25)
        rwa [World.size_alloc] at this)
      have HT5 := Lib.hid (show w5.heap[w.heap.size]? = some (.cells #[.slice pw t.words.length cw, .slice pt t.turns.length ct, .int .i64 t.breath] 25 (0, 0)) by
        rw [hB5.block _ (by simp; omega), Below.heap_alloc _ _ _ (by simp)]; exact heap_last _ _)
      have hbn := below1 w5 (.cells #[.slice pw t.words.length cw, .slice pt t.turns.length ct, .int .i64 t.breath, (.func (.func 138) #[.agg #[.slice pw t.words.length cw, .slice pt t.turns.length ct, .int .i64 t.breath, .nilFunc]] #[])] 125)
      have HB6 := Lib.hid (join (join ((below1 _ _).alloc (by simp) _) hB5) hbn)
      have HX6 := Lib.hid (heap_last w5 (.cells #[.slice pw t.words.length cw, .slice pt t.turns.length ct, .int .i64 t.breath, (.func (.func 138) #[.agg #[.slice pw t.words.length cw, .slice pt t.turns.length ct, .int .i64 t.breath, .nilFunc]] #[])] 125))
      have HRES := Lib.hid ((hbn.block _ hz5).trans HRES.out)
      have HT6 := Lib.hid ((hbn.block w.heap.size (by omega)).trans HT5.out)
      have HZ6 := Lib.hid (show w.heap.size + 1 < (w5.alloc (.cells #[.slice pw t.words.length cw, .slice pt t.turns.length ct, .int .i64 t.breath, (.func (.func 138) #[.agg #[.slice pw t.words.length cw, .slice pt t.turns.length ct, .int .i64 t.breath, .nilFunc]] #[])] 125)).heap.size by rw [World.size_alloc]; omega)
      have k0 := blk_cells HX6.out 0 _ rfl
      have k1 := blk_cells HX6.out 1 _ rfl
      have k2 := blk_cells HX6.out 2 _ rfl
      have k3 := blk_cells HX6.out 3 _ rfl
      clear hB5 hbn HT5
      go_wp2_with fail
      refine (HKS.out _ HB6.out).mono ?_
      rintro e w7 ⟨rfl, hB7⟩
      rw [HK.out]
      have HRES := Lib.hid ((hB7.block _ (by have := HZ6.out; omega)).trans HRES.out)
      have HT6 := Lib.hid ((hB7.block _ (by have := HZ6.out; omega)).trans HT6.out)
      have HX6 := Lib.hid ((hB7.block _ (Array.getElem?_eq_some_iff.1 HX6.out).1).trans HX6.out)
      have HZ6 := Lib.hid (Nat.lt_of_lt_of_le HZ6.out hB7.size)
      have HB6 := Lib.hid (HB6.out.trans (hB7.mono HB6.out.size))
      clear hB7 k0 k1 k2 k3
      go_wp2_with fail
      refine Rs.region_gen 9 [[], [], [0, 1], [], [], [0, 1, 2, 3, 4], [], [6], [0, 1, 2, 3, 4, 5, 6, 7]] [some 23, some 24, some 25, some 26, some 27, some 28, some 29, some 30, some 31] (spSr6 pw pt pl t.words.length t.turns.length l.length cw ct cl w.heap.size w.heap.size t.breath (.func (.func 138) #[.agg #[.slice pw t.words.length cw, .slice pt t.turns.length ct, .int .i64 t.breath, .nilFunc]] #[]) (shortW t.words l t.words.length) (shortTs t.turns l)) (by kernel_rfl) (by kernel_rfl) rfl (spSr6_stable _ _ _ _ _ _ _ _ _ _ _ _ _ _ _) ?_ ?_
      · refine ⟨fun V w' hG hs => ?_, fun V w' hG hs => ?_, fun V w' hG hs => ?_, fun V w' hG hs => ?_, fun V w' hG hs => ?_, fun V w' hG hs => ?_, fun V w' hG hs => ?_, fun V w' hG hs => ?_, fun V w' hG hs => ?_, trivial⟩
        all_goals
          have hq := (hG.block _ (Array.getElem?_eq_some_iff.1 HX6.out).1).trans HX6.out
          have k0 := blk_cells hq 0 _ rfl
          have k1 := blk_cells hq 1 _ rfl
          have k2 := blk_cells hq 2 _ rfl
          have k3 := blk_cells hq 3 _ rfl
          have hqt := (hG.block _ (Array.getElem?_eq_some_iff.1 HT6.out).1).trans HT6.out
          obtain ⟨j0, j1, j2⟩ := blk3 hqt
        · rw [if_pos (by rfl)]
          exact Rs.GrowL.value (v := .agg #[.slice pw t.words.length cw, .slice pt t.turns.length ct, .int .i64 t.breath, (.func (.func 138) #[.agg #[.slice pw t.words.length cw, .slice pt t.turns.length ct, .int .i64 t.breath, .nilFunc]] #[])]) (w' := w') (by simp [go_sem, Rs.look, k0, k1, k2, k3]) (Rs.Gr.refl _) rfl
        · rw [if_pos (by rfl)]
          exact Rs.GrowL.value (v := .slice pl l.length cl) (w' := w') (by simp [go_sem, Rs.look]) (Rs.Gr.refl _) rfl
        · have e0 : V 0 = .agg #[.slice pw t.words.length cw, .slice pt t.turns.length ct, .int .i64 t.breath, (.func (.func 138) #[.agg #[.slice pw t.words.length cw, .slice pt t.turns.length ct, .int .i64 t.breath, .nilFunc]] #[])] := hs 0 (by simp)
          have e1 : V 1 = .slice pl l.length cl := hs 1 (by simp)
          rw [if_pos (by rfl)]
          refine Rs.GrowL.call (f := 122) (args := #[.agg #[.slice pw t.words.length cw, .slice pt t.turns.length ct, .int .i64 t.breath, .func (.func 138) #[.agg #[.slice pw t.words.length cw, .slice pt t.turns.length ct, .int .i64 t.breath, .nilFunc]] #[]], .slice pl l.length cl]) (by simp [go_sem, Rs.look, e0, e1]) ?_
          refine (HKW.out w' (below_trans2 HB6.out hG)).mono ?_
          rintro e w2 ⟨g, rfl, ho, hB2⟩
          exact ⟨_, rfl, hB2, g, rfl, own_base ho (by have := hG.size; have := HZ6.out; omega)⟩
        · rw [if_pos (by rfl)]
          exact Rs.GrowL.value (v := .agg #[.slice pw t.words.length cw, .slice pt t.turns.length ct, .int .i64 t.breath, (.func (.func 138) #[.agg #[.slice pw t.words.length cw, .slice pt t.turns.length ct, .int .i64 t.breath, .nilFunc]] #[])]) (w' := w') (by simp [go_sem, Rs.look, k0, k1, k2, k3]) (Rs.Gr.refl _) rfl
        · rw [if_pos (by rfl)]
          exact Rs.GrowL.value (v := .slice pl l.length cl) (w' := w') (by simp [go_sem, Rs.look]) (Rs.Gr.refl _) rfl
        · have e0 : V 0 = .agg #[.slice pw t.words.length cw, .slice pt t.turns.length ct, .int .i64 t.breath, (.func (.func 138) #[.agg #[.slice pw t.words.length cw, .slice pt t.turns.length ct, .int .i64 t.breath, .nilFunc]] #[])] := hs 0 (by simp)
          have e1 : V 1 = .slice pl l.length cl := hs 1 (by simp)
          have r2 := hs 2 (by simp)
          have e3 : V 3 = .agg #[.slice pw t.words.length cw, .slice pt t.turns.length ct, .int .i64 t.breath, (.func (.func 138) #[.agg #[.slice pw t.words.length cw, .slice pt t.turns.length ct, .int .i64 t.breath, .nilFunc]] #[])] := hs 3 (by simp)
          have e4 : V 4 = .slice pl l.length cl := hs 4 (by simp)
          rw [if_pos (by rfl)]
          refine Rs.GrowL.call (f := 123) (args := #[.agg #[.slice pw t.words.length cw, .slice pt t.turns.length ct, .int .i64 t.breath, .func (.func 138) #[.agg #[.slice pw t.words.length cw, .slice pt t.turns.length ct, .int .i64 t.breath, .nilFunc]] #[]], .slice pl l.length cl]) (by simp [go_sem, Rs.look, e3, e4]) ?_
          refine (HKT.out w' (below_trans2 HB6.out hG)).mono ?_
          rintro e w2 ⟨v, rfl, ho, hB2⟩
          obtain ⟨p, c, rfl⟩ := own_val ho
          exact ⟨_, rfl, hB2, p, c, rfl, own_base ho (by have := hG.size; have := HZ6.out; omega)⟩
        · rw [if_pos (by rfl)]
          exact Rs.GrowL.value (v := .pointer (some ⟨w.heap.size, 2, none⟩)) (w' := w') (by simp [go_sem, Rs.look]) (Rs.Gr.refl _) rfl
        · have e6 : V 6 = .pointer (some ⟨w.heap.size, 2, none⟩) := hs 6 (by simp)
          rw [if_pos (by rfl)]
          exact Rs.GrowL.value (v := .int .i64 t.breath) (w' := w') (by simp [go_sem, Rs.look, e6, j2]) (Rs.Gr.refl _) rfl
        · have e0 : V 0 = .agg #[.slice pw t.words.length cw, .slice pt t.turns.length ct, .int .i64 t.breath, (.func (.func 138) #[.agg #[.slice pw t.words.length cw, .slice pt t.turns.length ct, .int .i64 t.breath, .nilFunc]] #[])] := hs 0 (by simp)
          have e1 : V 1 = .slice pl l.length cl := hs 1 (by simp)
          have r2 := hs 2 (by simp)
          have e3 : V 3 = .agg #[.slice pw t.words.length cw, .slice pt t.turns.length ct, .int .i64 t.breath, (.func (.func 138) #[.agg #[.slice pw t.words.length cw, .slice pt t.turns.length ct, .int .i64 t.breath, .nilFunc]] #[])] := hs 3 (by simp)
          have e4 : V 4 = .slice pl l.length cl := hs 4 (by simp)
          have r5 := hs 5 (by simp)
          have e6 : V 6 = .pointer (some ⟨w.heap.size, 2, none⟩) := hs 6 (by simp)
          have e7 : V 7 = .int .i64 t.breath := hs 7 (by simp)
          rw [if_pos (by rfl)]
          obtain ⟨g, e2, o2⟩ := r2
          obtain ⟨p, c, e5, o5⟩ := r5
          exact Rs.GrowL.value (v := .agg #[.slice (some ⟨g, 0, none⟩) l.length l.length, .slice p (shortTs t.turns l).length c, .int .i64 t.breath]) (w' := w') (by simp [go_sem, Rs.look, e2, e5, e7]) (Rs.Gr.refl _) ⟨g, p, c, rfl, o2, o5⟩
      · intro V w' hG hs
        have e0 : V 0 = .agg #[.slice pw t.words.length cw, .slice pt t.turns.length ct, .int .i64 t.breath, (.func (.func 138) #[.agg #[.slice pw t.words.length cw, .slice pt t.turns.length ct, .int .i64 t.breath, .nilFunc]] #[])] := hs 0 (by omega)
        have e1 : V 1 = .slice pl l.length cl := hs 1 (by omega)
        have r2 := hs 2 (by omega)
        have e3 : V 3 = .agg #[.slice pw t.words.length cw, .slice pt t.turns.length ct, .int .i64 t.breath, (.func (.func 138) #[.agg #[.slice pw t.words.length cw, .slice pt t.turns.length ct, .int .i64 t.breath, .nilFunc]] #[])] := hs 3 (by omega)
        have e4 : V 4 = .slice pl l.length cl := hs 4 (by omega)
        have r5 := hs 5 (by omega)
        have e6 : V 6 = .pointer (some ⟨w.heap.size, 2, none⟩) := hs 6 (by omega)
        have e7 : V 7 = .int .i64 t.breath := hs 7 (by omega)
        have r8 := hs 8 (by omega)
        obtain ⟨g2, e2, -⟩ := r2
        obtain ⟨p5, c5, e5, -⟩ := r5
        obtain ⟨g8, p8, c8, e8, o8, q8⟩ := r8
        simp only [Rs.canon, Rs.dstOf, List.range_succ, List.range_zero, List.nil_append, List.cons_append, List.foldl_cons, List.foldl_nil, List.drop_succ_cons, List.drop_zero, List.drop_nil, List.getElem?_toArray, List.getElem?_cons_succ, List.getElem?_cons_zero, Option.bind_some, Act.put, List.getD_cons_succ, List.getD_cons_zero, List.setIfInBounds_toArray, List.set_cons_succ, List.set_cons_zero]
        rw [e0, e1, e3, e4, e6, e7, e2, e5, e8]
        clear e0 e1 e3 e4 e6 e7 e2 e5 e8 hs
        have HRES := Lib.hid ((hG.block _ HZ6.out).trans HRES.out)
        have hz8 : w.heap.size + 1 < w'.heap.size := by have := hG.size; have := HZ6.out; omega
        have HB6 := Lib.hid (below_trans2 HB6.out hG)
        have z : ∀ i, w'.frozen? ⟨w.heap.size + 1, i, none⟩ = false := fun i => by simp [World.frozen?, HRES.out]
        obtain ⟨r0, r1, r2⟩ := blk3 HRES.out
        have O8 := Lib.hid o8
        have Q8 := Lib.hid q8
        clear hG o8 q8
        go_wp2
        obtain ⟨W3, hW3⟩ : ∃ W3, W3 = ((w'.setCell ⟨w.heap.size + 1, 0, none⟩ (.slice (some ⟨g8, 0, none⟩) l.length l.length)).setCell ⟨w.heap.size + 1, 1, none⟩ (.slice p8 (shortTs t.turns l).length c8)).setCell ⟨w.heap.size + 1, 2, none⟩ (.int .i64 t.breath) := ⟨_, rfl⟩
        rw [← hW3]
        have hx1 : W3.heap[w.heap.size + 1]? = some (.cells #[.slice (some ⟨g8, 0, none⟩) l.length l.length, .slice p8 (shortTs t.turns l).length c8, .int .i64 t.breath] 25 (0, 0)) := by
          rw [hW3]; exact heap_set_same _ (heap_set_same _ (heap_set_same _ HRES.out))
        have hhh := HRES.out
        have e0 := heap_set_same (o := 0) (.slice (some ⟨g8, 0, none⟩) l.length l.length) hhh
        have e1 := heap_set_same (o := 1) (.slice p8 (shortTs t.turns l).length c8) e0
        have hO : W3.ownsRow w.heap.size 77 3 (.slice (some ⟨g8, 0, none⟩) l.length l.length) l.length (wcells (shortW t.words l t.words.length)) := by
          rw [hW3]; exact own_setT (own_setT (own_setT (own_base O8.out (by have := HB6.out.size; omega)) hhh (by decide)) e0 (by decide)) e1 (by decide)
        have hQ : W3.ownsRow w.heap.size 80 3 (.slice p8 (shortTs t.turns l).length c8) (shortTs t.turns l).length (tcells (shortTs t.turns l)) := by
          rw [hW3]; exact own_setT (own_setT (own_setT (own_base Q8.out (by have := HB6.out.size; omega)) hhh (by decide)) e0 (by decide)) e1 (by decide)
        have hBW : Below w.heap.size w W3 := by
          rw [hW3]; exact ((HB6.out.setCell (p := ⟨w.heap.size + 1, 0, none⟩) (by show w.heap.size ≤ w.heap.size + 1; omega) _).setCell (p := ⟨w.heap.size + 1, 1, none⟩) (by show w.heap.size ≤ w.heap.size + 1; omega) _).setCell (p := ⟨w.heap.size + 1, 2, none⟩) (by show w.heap.size ≤ w.heap.size + 1; omega) _
        have c0 := blk_cells hx1 0 _ rfl
        have c1 := blk_cells hx1 1 _ rfl
        have c2 := blk_cells hx1 2 _ rfl
        refine bodyPost_ret (v := .tuple #[.agg #[.slice (some ⟨g8, 0, none⟩) l.length l.length, .slice p8 (shortTs t.turns l).length c8, .int .i64 t.breath], .int .i64 0]) (by simp [results, Try.results46, go_sem, c0, c1, c2]) rfl ⟨some ⟨g8, 0, none⟩, p8, l.length, c8, ?_, ?_, hQ, hBW⟩
        · rw [show (t.shortT l).words.length = l.length from HWL.out]; rfl
        · have e : (t.shortT l).words.length = l.length := HWL.out
          rw [e]; exact hO
  · have h1 : shoT t l = ⟨[], [], 0⟩ := by unfold shoT; rw [if_neg (fun h => he h.1)]
    have h2 : shoE t l = t.keptE l := if_neg he
    have HE := Lib.hid he
    have hne : (t.keptE l != 0) = true := by simpa using he
    rw [h1, h2]
    clear hW hL he h1 h2
    go_enter Try.func46, Try.ntmps46
    go_wp2_with fail
    refine (HS.out _ ((below1 _ _).alloc (by simp) _)).mono ?_
    rintro e w5 ⟨rfl, hB5⟩
    rw [if_neg HE.out]
    unfold wkNo
    have hz7 : w.heap.size + 1 < w5.heap.size := by have := hB5.size; simp at this; omega
    have HRES := Lib.hid (show w5.heap[w.heap.size + 1]? = some (.cells #[.slice none 0 0, .slice none 0 0, .int .i64 0] 25 (0, 0)) by
      rw [hB5.block _ (by simp)]
      have := heap_last (w.alloc (.cells #[.slice pw t.words.length cw, .slice pt t.turns.length ct, .int .i64 t.breath] 25)) (.cells #[.slice none 0 0, .slice none 0 0, .int .i64 0] 25)
      rwa [World.size_alloc] at this)
    have HB6 := Lib.hid (join ((below1 _ _).alloc (by simp) _) hB5)
    have z : ∀ i, w5.frozen? ⟨w.heap.size + 1, i, none⟩ = false := fun i => by simp [World.frozen?, HRES.out]
    obtain ⟨r0, r1, r2⟩ := blk3 HRES.out
    clear hB5
    go_wp2
    refine bodyPost_ret (v := .tuple #[.agg #[.slice none 0 0, .slice none 0 0, .int .i64 0], .int .i64 (t.keptE l)]) (by simp [results, Try.results46, go_sem, hz7, r0, r1, r2]) rfl ⟨none, none, 0, 0, rfl, own_none _ _ _ _, own_none _ _ _ _, ?_⟩
    have hz9 := HB6.out.size
    repeat' (first | exact HB6.out | apply belS | apply belA | apply belD)
    all_goals first | omega | (simp; done) | (simp; omega)
end Go.Proofs.Ytadnggecnjdhiaa
set_option linter.unusedSimpArgs false
set_option linter.unusedVariables false
namespace Go.Proofs.Ytadnggecnjdhiaa
open Tx

/-- words in order, out of so many -/
structure Asc (l : List Int) (n : Nat) : Prop where
  up : l.Pairwise (· < ·)
  rng : ∀ x ∈ l, 0 ≤ x ∧ x < (n : Int)
theorem keptE_ok {t : Text} {l : List Int} (h : t.err = 0) (h0 : l.length ≠ 0) (ha : Asc l t.words.length) : t.keptE l = 0 := by
  unfold Text.keptE Text.len
  rw [if_neg (by simpa using h), if_neg h0, if_neg, if_neg]
  · rw [Bool.not_eq_true]
    refine (notUp_iff l (-1)).2 (List.pairwise_cons.2 ⟨fun y hy => ?_, ha.up⟩)
    have := (ha.rng y hy).1
    omega
  · intro hh
    obtain ⟨x, hx, h2⟩ := List.any_eq_true.1 hh
    have := ha.rng x hx
    simp [absent, btw] at h2
    omega
theorem Asc.get {l : List Int} {n : Nat} (h : Asc l n) {i : Nat} (hi : i < l.length) : 0 ≤ l.getD i 0 ∧ l.getD i 0 < (n : Int) := h.rng _ (getD_memI hi)
theorem Asc.idx_get {l : List Int} {n : Nat} (h : Asc l n) {i : Nat} (hi : i < l.length) : l.idxOf (l.getD i 0) = i := by
  have hm := getD_memI hi
  have hj : l.idxOf (l.getD i 0) < l.length := List.idxOf_lt_length_of_mem hm
  have hg : l.getD (l.idxOf (l.getD i 0)) 0 = l.getD i 0 := by
    have e : l[l.idxOf (l.getD i 0)] = l.getD i 0 := List.getElem_idxOf hj
    rw [List.getD_eq_getElem?_getD, List.getElem?_eq_getElem hj, Option.getD_some]; exact e
  rcases Nat.lt_trichotomy (l.idxOf (l.getD i 0)) i with g | g | g
  · have := getD_lt h.up g hi; omega
  · exact g
  · have := getD_lt h.up g hj; omega
theorem get_idx {l : List Int} {x : Int} (h : x ∈ l) : l.idxOf x < l.length ∧ l.getD (l.idxOf x) 0 = x := by
  have hj := List.idxOf_lt_length_of_mem h
  refine ⟨hj, ?_⟩
  have e : l[l.idxOf x] = x := List.getElem_idxOf hj
  rw [List.getD_eq_getElem?_getD, List.getElem?_eq_getElem hj, Option.getD_some]; exact e
theorem Asc.lt_iff {l : List Int} {n : Nat} (h : Asc l n) {i j : Nat} (hi : i < l.length) (hj : j < l.length) : l.getD i 0 < l.getD j 0 ↔ i < j := by
  constructor
  · intro g
    rcases Nat.lt_trichotomy i j with q | q | q
    · exact q
    · subst q; omega
    · have := getD_lt h.up q hi; omega
  · intro g; exact getD_lt h.up g hj
/-- the words of a list that another list names -/
def comp (l k : List Int) : List Int := k.map fun i => l.getD i.toNat 0
theorem cmpI_len (l k : List Int) : (comp l k).length = k.length := by simp [comp]
theorem comp_get {l k : List Int} {i : Nat} (hi : i < k.length) : (comp l k).getD i 0 = l.getD (k.getD i 0).toNat 0 := by
  unfold comp; simp [hi]
theorem asc_comp {l k : List Int} {n : Nat} (h : Asc l n) (hk : Asc k l.length) : Asc (comp l k) n := by
  constructor
  · unfold comp
    rw [List.pairwise_map]
    refine List.Pairwise.imp_of_mem (fun {a b} ha hb hab => ?_) hk.up
    have h1 := hk.rng a ha
    have h2 := hk.rng b hb
    exact getD_lt h.up (by omega) (by omega)
  · intro x hx
    obtain ⟨i, hi, rfl⟩ := List.mem_map.1 hx
    have h1 := hk.rng i hi
    exact h.get (by omega)
theorem comp_mem {l k : List Int} {n : Nat} (h : Asc l n) (hk : Asc k l.length) {x : Int} (hx : x ∈ l) : (comp l k).contains x = k.contains (l.idxOf x : Int) := by
  rw [Bool.eq_iff_iff, List.contains_iff_mem, List.contains_iff_mem]
  obtain ⟨g1, g2⟩ := get_idx hx
  constructor
  · intro hc
    obtain ⟨i, hi, e⟩ := List.mem_map.1 hc
    have h1 := hk.rng i hi
    have h2 := h.idx_get (i := i.toNat) (by omega)
    rw [e] at h2
    rw [h2, show ((i.toNat : Nat) : Int) = i by omega]
    exact hi
  · intro hc
    exact List.mem_map.2 ⟨_, hc, by rw [show ((l.idxOf x : Int)).toNat = l.idxOf x by omega]; exact g2⟩
theorem comp_sub {l k : List Int} (hk : Asc k l.length) {x : Int} (hx : (comp l k).contains x = true) : l.contains x = true := by
  obtain ⟨i, hi, rfl⟩ := List.mem_map.1 (List.contains_iff_mem.1 hx)
  have h1 := hk.rng i hi
  exact List.contains_iff_mem.2 (getD_memI (by omega))
theorem comp_idx {l k : List Int} {n : Nat} (h : Asc l n) (hk : Asc k l.length) {x : Int} (hx : x ∈ l) (hc : k.contains (l.idxOf x : Int) = true) : (comp l k).idxOf x = k.idxOf (l.idxOf x : Int) := by
  obtain ⟨g1, g2⟩ := get_idx hx
  obtain ⟨q1, q2⟩ := get_idx (List.contains_iff_mem.1 hc)
  have e : (comp l k).getD (k.idxOf (l.idxOf x : Int)) 0 = x := by
    rw [comp_get q1, q2, show ((l.idxOf x : Int)).toNat = l.idxOf x by omega, g2]
  have := (asc_comp h hk).idx_get (i := k.idxOf (l.idxOf x : Int)) (by rw [cmpI_len]; exact q1)
  rw [e] at this
  exact this
/-- a Core that is kept lies in a row -/
theorem core_row {l : List Int} {n : Nat} (h : Asc l n) {u : Turn} (hu : u.lo ≤ u.hi) (hc : coreIn u l = true) : ∀ j : Nat, (j : Int) ≤ u.hi - u.lo → l.idxOf (u.lo + (j : Int)) = l.idxOf u.lo + j := by
  have hm : ∀ j : Nat, (j : Int) ≤ u.hi - u.lo → u.lo + (j : Int) ∈ l := fun j hj => by
    unfold coreIn at hc
    rw [List.all_eq_true] at hc
    exact List.contains_iff_mem.1 (hc j (List.mem_range.2 (by omega)))
  intro j
  induction j with
  | zero => intro _; simp
  | succ j ih =>
    intro hj
    have e := ih (by omega)
    obtain ⟨a1, a2⟩ := get_idx (hm j (by omega))
    obtain ⟨b1, b2⟩ := get_idx (hm (j + 1) hj)
    have hlt : l.idxOf (u.lo + (j : Int)) < l.idxOf (u.lo + ((j + 1 : Nat) : Int)) := (h.lt_iff a1 b1).1 (by rw [a2, b2]; omega)
    rcases Nat.lt_or_ge (l.idxOf (u.lo + (j : Int)) + 1) (l.idxOf (u.lo + ((j + 1 : Nat) : Int))) with g | g
    · have h1 := getD_lt h.up (show l.idxOf (u.lo + (j : Int)) < l.idxOf (u.lo + (j : Int)) + 1 by omega) (by omega)
      have h2 := getD_lt h.up g b1
      rw [a2] at h1
      rw [b2] at h2
      omega
    · omega
theorem idx_le {l : List Int} {n : Nat} (h : Asc l n) {u : Turn} (hu : u.lo ≤ u.hi) (hc : coreIn u l = true) : (l.idxOf u.hi : Int) = l.idxOf u.lo + (u.hi - u.lo) := by
  have := core_row h hu hc (u.hi - u.lo).toNat (by omega)
  rw [show u.lo + (((u.hi - u.lo).toNat : Nat) : Int) = u.hi by omega] at this
  omega
theorem core_short {l k : List Int} {n : Nat} (h : Asc l n) (hk : Asc k l.length) {u : Turn} (hu : u.lo ≤ u.hi) (hc : coreIn u l = true) : coreIn (shortTurn l u) k = coreIn u (comp l k) := by
  have he := idx_le h hu hc
  have hm : ∀ j : Nat, (j : Int) ≤ u.hi - u.lo → u.lo + (j : Int) ∈ l := fun j hj => by
    unfold coreIn at hc
    rw [List.all_eq_true] at hc
    exact List.contains_iff_mem.1 (hc j (List.mem_range.2 (by omega)))
  unfold coreIn shortTurn
  dsimp only
  rw [show ((l.idxOf u.hi : Int) + 1 - (l.idxOf u.lo : Int)).toNat = (u.hi + 1 - u.lo).toNat by omega]
  rw [Bool.eq_iff_iff, List.all_eq_true, List.all_eq_true]
  have key : ∀ j ∈ List.range (u.hi + 1 - u.lo).toNat, k.contains ((l.idxOf u.lo : Int) + (j : Int)) = (comp l k).contains (u.lo + (j : Int)) := fun j hj => by
    have hj := List.mem_range.1 hj
    rw [comp_mem h hk (hm j (by omega)), core_row h hu hc j (by omega)]
    rfl
  constructor
  · intro hh j hj; rw [← key j hj]; exact hh j hj
  · intro hh j hj; rw [key j hj]; exact hh j hj
theorem core_sub {l k : List Int} (hk : Asc k l.length) {u : Turn} (hc : coreIn u (comp l k) = true) : coreIn u l = true := by
  unfold coreIn at hc ⊢
  rw [List.all_eq_true] at hc ⊢
  exact fun j hj => comp_sub hk (hc j hj)
/-- a turn of the shorter text says a part otherwise just if the words of the part do so in the longer one -/
theorem part_turn {l k : List Int} {n : Nat} (h : Asc l n) (hk : Asc k l.length) {u : Turn} (hu : u.lo ≤ u.hi) (hks : (coreIn u l && !l.contains u.word) = false) :
    ((coreIn u l && l.contains u.word) && (coreIn (shortTurn l u) k && !k.contains (shortTurn l u).word)) = (coreIn u (comp l k) && !(comp l k).contains u.word) := by
  cases hc : coreIn u l with
  | false =>
    have : coreIn u (comp l k) = false := by
      cases g : coreIn u (comp l k)
      · rfl
      · rw [core_sub hk g] at hc; cases hc
    rw [this]; simp
  | true =>
    rw [hc] at hks
    have hw : l.contains u.word = true := by simpa using hks
    rw [core_short h hk hu hc, hw, comp_mem h hk (List.contains_iff_mem.1 hw)]
    simp [shortTurn]
theorem keep_turn {l k : List Int} {n : Nat} (h : Asc l n) (hk : Asc k l.length) {u : Turn} (hu : u.lo ≤ u.hi) :
    ((coreIn u l && l.contains u.word) && (coreIn (shortTurn l u) k && k.contains (shortTurn l u).word)) = (coreIn u (comp l k) && (comp l k).contains u.word) := by
  cases hc : coreIn u l with
  | false =>
    have : coreIn u (comp l k) = false := by
      cases g : coreIn u (comp l k)
      · rfl
      · rw [core_sub hk g] at hc; cases hc
    rw [this]; simp
  | true =>
    cases hw : l.contains u.word with
    | false =>
      have : (comp l k).contains u.word = false := by
        cases g : (comp l k).contains u.word
        · rfl
        · rw [comp_sub hk g] at hw; cases hw
      rw [this]; simp
    | true =>
      rw [core_short h hk hu hc, comp_mem h hk (List.contains_iff_mem.1 hw)]
      simp [shortTurn]
theorem filter_short {α β : Type} (P : α → Bool) (f : α → β) (Q : β → Bool) (ts : List α) : ((ts.filter P).map f).filter Q = (ts.filter fun u => P u && Q (f u)).map f := by
  induction ts with
  | nil => rfl
  | cons x ts ih =>
    by_cases h1 : P x = true
    · by_cases h2 : Q (f x) = true
      · simp [List.filter_cons, h1, h2, ih]
      · simp [List.filter_cons, h1, h2, ih]
    · simp [List.filter_cons, h1, ih]
theorem shortTs_comp {l k : List Int} {n : Nat} (h : Asc l n) (hk : Asc k l.length) {ts : List Turn} (hu : ∀ u ∈ ts, u.lo ≤ u.hi) : shortTs (shortTs ts l) k = shortTs ts (comp l k) := by
  unfold shortTs
  rw [filter_short, List.map_map]
  have e : (ts.filter fun u => (coreIn u l && l.contains u.word) && (coreIn (shortTurn l u) k && k.contains (shortTurn l u).word)) = ts.filter fun u => coreIn u (comp l k) && (comp l k).contains u.word :=
    List.filter_congr fun u hm => keep_turn h hk (hu u hm)
  rw [e]
  apply List.map_congr_left
  intro u hm
  obtain ⟨hm, hc⟩ := List.mem_filter.1 hm
  rw [Bool.and_eq_true] at hc
  have hl := hu u hm
  have he := core_ends hl hc.1
  have hcl := core_sub hk hc.1
  have hel := core_ends hl hcl
  have hwl := comp_sub hk hc.2
  have q : ∀ x, l.contains x = true → (comp l k).contains x = true → ((k.idxOf (l.idxOf x : Int) : Nat) : Int) = ((comp l k).idxOf x : Int) := fun x h1 h2 => by
    have hx := List.contains_iff_mem.1 h1
    rw [comp_mem h hk hx] at h2
    rw [comp_idx h hk hx h2]
  unfold shortTurn
  simp only [Function.comp]
  rw [q _ hwl hc.2, q _ hel.1 he.1, q _ hel.2 he.2]
/-- up to which word the stops of the first b words go -/
def bnd (l : List Int) (n : Int) (b : Nat) : Int := if b < l.length then l.getD b 0 else n
theorem stopsB_join {ws : List Word} {x y z : Int} (h1 : 0 ≤ x) (h2 : x ≤ y) (h3 : y ≤ z) : (stopsB ws x y || stopsB ws y z) = stopsB ws x z := by
  unfold stopsB slice
  rw [← List.any_append]
  congr 1
  have e1 : z.toNat - x.toNat = (y.toNat - x.toNat) + (z.toNat - y.toNat) := by omega
  rw [e1, List.take_add, List.drop_drop]
  congr 3
  omega
theorem stops_short {ws : List Word} {l : List Int} (h : Asc l ws.length) : ∀ (b a : Nat), a ≤ b → b ≤ l.length → stopsB (shortW ws l ws.length) a b = stopsB ws (bnd l ws.length a) (bnd l ws.length b) := by
  intro b
  induction b with
  | zero =>
    intro a ha _
    obtain rfl : a = 0 := by omega
    unfold stopsB slice; simp
  | succ b ih =>
    intro a ha hb
    rcases Nat.lt_or_ge b a with g | g
    · obtain rfl : a = b + 1 := by omega
      unfold stopsB slice; simp
    · have hbl : b < l.length := by omega
      have e1 : bnd l ws.length b = l.getD b 0 := if_pos hbl
      have e2 : bnd l ws.length (b + 1) = nextI l ws.length b := rfl
      have hlo : 0 ≤ bnd l ws.length a ∧ bnd l ws.length a ≤ bnd l ws.length b := by
        have ea : bnd l ws.length a = l.getD a 0 := if_pos (by omega)
        rw [ea, e1]
        refine ⟨(h.get (by omega)).1, ?_⟩
        rcases Nat.lt_or_ge a b with q | q
        · have := getD_lt h.up q hbl; omega
        · obtain rfl : a = b := by omega
          omega
      have hhi : bnd l ws.length b ≤ bnd l ws.length (b + 1) := by
        rw [e1]
        unfold bnd
        split
        · rename_i q; have := getD_lt h.up (show b < b + 1 by omega) q; omega
        · have := (h.get hbl).2; omega
      have e3 := stopsB_snoc (ws := shortW ws l ws.length) g (by rw [shortW_len]; exact hbl)
      rw [show ((b + 1 : Nat) : Int) = (b : Int) + 1 from rfl, e3, ih a g (by omega), shortW_get hbl]
      show (stopsB ws (bnd l ws.length a) (bnd l ws.length b) || stopsB ws (l.getD b 0) (nextI l ws.length b)) = _
      rw [← e2, ← e1]
      exact stopsB_join hlo.1 hlo.2 hhi
theorem shortW_comp {ws : List Word} {l k : List Int} (h : Asc l ws.length) (hk : Asc k l.length) : shortW (shortW ws l ws.length) k l.length = shortW ws (comp l k) ws.length := by
  unfold shortW
  rw [cmpI_len]
  apply List.map_congr_left
  intro i hi
  have hi : i < k.length := by simpa using hi
  have hki := hk.get hi
  obtain ⟨a, ha⟩ := Int.eq_ofNat_of_zero_le hki.1
  have hal : a < l.length := by omega
  have hnx : ∃ b : Nat, nextI k l.length i = (b : Int) ∧ a ≤ b ∧ b ≤ l.length ∧ bnd l ws.length b = nextI (comp l k) ws.length i := by
    unfold nextI
    rw [cmpI_len]
    by_cases g : i + 1 < k.length
    · have h2 := hk.get g
      have h3 := getD_lt hk.up (show i < i + 1 by omega) g
      obtain ⟨b, hb⟩ := Int.eq_ofNat_of_zero_le h2.1
      rw [if_pos g, if_pos g, hb, comp_get g, hb]
      have hbl : b < l.length := by omega
      exact ⟨b, rfl, by omega, by omega, by unfold bnd; rw [if_pos hbl]; rfl⟩
    · rw [if_neg g, if_neg g]
      exact ⟨l.length, rfl, by omega, Nat.le_refl _, by unfold bnd; rw [if_neg (by omega)]⟩
  obtain ⟨b, hb, hab, hbl, hbn⟩ := hnx
  have hst := stops_short h b a hab hbl
  unfold shortAt
  have hS : (shortW ws l ws.length).getD a default = shortAt ws l ws.length a := shortW_get hal
  rw [ha, hb, comp_get hi, ha]
  rw [show ((a : Int)).toNat = a by omega]
  show ({ (shortW ws l ws.length).getD a default with stop := stopsB (shortW ws l ws.length) a b } : Word) = _
  rw [hS, hst, hbn]
  unfold bnd
  rw [if_pos hal]
  rfl
end Go.Proofs.Ytadnggecnjdhiaa
set_option linter.unusedSimpArgs false
set_option linter.unusedVariables false
namespace Go.Proofs.Ytadnggecnjdhiaa
open Tx

theorem shortT_comp {t : Text} (ok : Text.Ok t) {l k : List Int} (h : Asc l t.words.length) (hk : Asc k l.length) : (t.shortT l).shortT k = t.shortT (comp l k) := by
  have e1 : (t.shortT l).words = shortW t.words l t.words.length := rfl
  unfold Text.shortT
  dsimp only
  rw [shortW_len, shortW_comp h hk, shortTs_comp h hk (fun u hu => by have := ok.turn u hu; omega)]
theorem keeps_all {t : Text} {l : List Int} (h : t.keeps l = true) : ∀ u ∈ t.turns, (coreIn u l && !l.contains u.word) = false := fun u hu => by
  unfold Text.keeps at h
  rw [Bool.not_eq_true'] at h
  cases g : (coreIn u l && !l.contains u.word)
  · rfl
  · rw [List.any_eq_true.2 ⟨u, hu, g⟩] at h; cases h
theorem any_short {α β : Type} (P : α → Bool) (f : α → β) (Q : β → Bool) (ts : List α) : ((ts.filter P).map f).any Q = ts.any fun u => P u && Q (f u) := by
  induction ts with
  | nil => rfl
  | cons x ts ih =>
    by_cases h1 : P x = true
    · simp [List.filter_cons, h1] at ih ⊢
    · simp [List.filter_cons, h1] at ih ⊢
theorem any_congrL {α : Type} {p q : α → Bool} {l : List α} (h : ∀ x ∈ l, p x = q x) : l.any p = l.any q := by
  induction l with
  | nil => rfl
  | cons x l ih => rw [List.any_cons, List.any_cons, h x (by simp), ih fun y hy => h y (by simp [hy])]
theorem keeps_comp {t : Text} (ok : Text.Ok t) {l k : List Int} (h : Asc l t.words.length) (hk : Asc k l.length) (hks : t.keeps l = true) : (t.shortT l).keeps k = t.keeps (comp l k) := by
  unfold Text.keeps Text.shortT shortTs
  dsimp only
  rw [any_short]
  congr 1
  exact any_congrL fun u hu => part_turn h hk (by have := ok.turn u hu; omega) (keeps_all hks u hu)
theorem count_short {α β : Type} (P : α → Bool) (f : α → β) (Q : β → Bool) (ts : List α) : ((ts.filter P).map f).countP Q = ts.countP fun u => P u && Q (f u) := by
  rw [List.countP_map, List.countP_filter]
  exact List.countP_congr fun x _ => by simp [Function.comp, Bool.and_comm]
/-- the part of the shorter text from lo to hi, in the longer one -/
theorem said_short {t : Text} (ok : Text.Ok t) {l : List Int} (h : Asc l t.words.length) (hks : t.keeps l = true) (lo m : Nat) (hm : lo + m ≤ l.length) :
    ((t.shortT l).said lo ((lo : Int) + (m : Int) - 1)).length = t.turns.countP fun u => coreIn u (comp l (wordsL lo m)) && !(comp l (wordsL lo m)).contains u.word := by
  have hk : Asc (wordsL lo m) l.length := by
    constructor
    · unfold wordsL
      rw [List.pairwise_map]
      exact List.pairwise_lt_range.imp (fun {a b} hab => by omega)
    · intro x hx
      have := mem_wordsL.1 hx
      omega
  unfold Text.said
  rw [idx_length]
  unfold Text.shortT shortTs
  dsimp only
  rw [count_short]
  refine List.countP_congr fun u hu => ?_
  have hul : u.lo ≤ u.hi := by have := ok.turn u hu; omega
  have e := part_turn h hk hul (keeps_all hks u hu)
  rw [← e]
  cases hc : (coreIn u l && l.contains u.word) with
  | false => simp
  | true =>
    rw [Bool.and_eq_true] at hc
    have hle : (shortTurn l u).lo ≤ (shortTurn l u).hi := by
      have := idx_le h hul hc.1
      show (l.idxOf u.lo : Int) ≤ (l.idxOf u.hi : Int)
      omega
    rw [core_wordsL _ _ _ hle, contains_wordsL]
    rfl
theorem asc_all (n : Nat) : Asc (wordsL 0 n) n := by
  constructor
  · unfold wordsL
    rw [List.pairwise_map]
    exact List.pairwise_lt_range.imp (fun {a b} hab => by omega)
  · intro x hx
    have := mem_wordsL.1 hx
    omega
theorem all_get (n i : Nat) (h : i < n) : (wordsL 0 n).getD i 0 = (i : Int) := by
  unfold wordsL; simp [h]
theorem all_idx (n : Nat) {x : Int} (h : 0 ≤ x ∧ x < (n : Int)) : ((wordsL 0 n).idxOf x : Int) = x := by
  obtain ⟨a, rfl⟩ := Int.eq_ofNat_of_zero_le h.1
  have ha : a < (wordsL 0 n).length := by rw [wordsL_length]; omega
  have := (asc_all n).idx_get ha
  rw [all_get n a (by omega)] at this
  rw [this]
theorem keeps_full {t : Text} (ok : Text.Ok t) : t.keeps (wordsL 0 t.words.length) = true := by
  unfold Text.keeps
  rw [Bool.not_eq_true', ← Bool.not_eq_true]
  intro hh
  obtain ⟨u, hu, h⟩ := List.any_eq_true.1 hh
  have := ok.turn u hu
  rw [contains_wordsL] at h
  simp [btw] at h
  omega
theorem shortT_all {t : Text} (ok : Text.Ok t) : t.shortT (wordsL 0 t.words.length) = t := by
  have hn := ok.n1
  have hw : shortW t.words (wordsL 0 t.words.length) t.words.length = t.words := by
    apply List.ext_getElem?
    intro i
    unfold shortW
    rw [wordsL_length]
    by_cases hi : i < t.words.length
    · rw [List.getElem?_map, List.getElem?_range hi, Option.map_some]
      have hx : nextI (wordsL 0 t.words.length) t.words.length i = (i : Int) + 1 := by
        unfold nextI
        rw [wordsL_length]
        split
        · rename_i g; rw [all_get _ _ g]; rfl
        · omega
      unfold shortAt
      rw [all_get _ _ hi, hx, stopsB_snoc (Nat.le_refl _) hi]
      have e0 : stopsB t.words (i : Int) (i : Int) = false := by unfold stopsB slice; simp
      rw [e0, Bool.false_or, show ((i : Int)).toNat = i by omega]
      simp [hi]
    · rw [List.getElem?_eq_none (by simpa using hi), List.getElem?_eq_none (by omega)]
  have ht : shortTs t.turns (wordsL 0 t.words.length) = t.turns := by
    unfold shortTs
    have e : (t.turns.filter fun u => coreIn u (wordsL 0 t.words.length) && (wordsL 0 t.words.length).contains u.word) = t.turns := by
      rw [List.filter_eq_self]
      intro u hu
      have := ok.turn u hu
      rw [core_wordsL u 0 _ (by omega), contains_wordsL]
      simp [btw]
      omega
    rw [e]
    have : t.turns.map (shortTurn (wordsL 0 t.words.length)) = t.turns.map id := by
      apply List.map_congr_left
      intro u hu
      have := ok.turn u hu
      unfold shortTurn
      rw [all_idx _ (by omega), all_idx _ (by omega), all_idx _ (by omega)]
      rfl
    rw [this, List.map_id]
  unfold Text.shortT
  rw [hw, ht]
theorem paid_sub (g : Nat → Int) (hg : ∀ i, 0 ≤ g i) : ∀ (n : Nat) (l : List Int) (a : Nat), (∀ x ∈ l, (a : Int) ≤ x ∧ x < (a : Int) + (n : Int)) → l.Pairwise (· < ·) → isum (l.map fun x => g x.toNat) ≤ isum ((List.range' a n).map g)
  | 0, l, a, hx, hp => by
    cases l with
    | nil => simp [isum]
    | cons x l => have := hx x (by simp); omega
  | n + 1, l, a, hx, hp => by
    rw [List.range'_succ, List.map_cons, isum_cons]
    cases l with
    | nil =>
      have := paid_sub g hg n [] (a + 1) (by simp) (by simp)
      have := hg a
      simp [isum] at *
      omega
    | cons x l =>
      have hx0 := hx x (by simp)
      have hp := List.pairwise_cons.1 hp
      rw [List.map_cons, isum_cons]
      by_cases hxa : x = (a : Int)
      · have := paid_sub g hg n l (a + 1) (fun y hy => by have h1 := hp.1 y hy; have h2 := hx y (by simp [hy]); omega) hp.2
        rw [hxa, show ((a : Int)).toNat = a by omega]
        omega
      · have := paid_sub g hg n (x :: l) (a + 1) (fun y hy => by
          have h2 := hx y hy
          rcases List.mem_cons.1 hy with rfl | hy
          · omega
          · have h1 := hp.1 y hy; omega) (List.pairwise_cons.2 hp)
        rw [List.map_cons, isum_cons] at this
        have := hg a
        omega
theorem paid_short {t : Text} {l : List Int} (h : Asc l t.words.length) : paidN (shortW t.words l t.words.length) ≤ paidN t.words := by
  have e1 : paidN (shortW t.words l t.words.length) = isum (l.map fun x => (fun i => if 3 < (t.words.getD i default).syl then (2 : Int) else 1) x.toNat) := by
    unfold paidN shortW
    rw [List.map_map]
    congr 1
    apply List.ext_getElem?
    intro i
    by_cases hi : i < l.length
    · rw [List.getElem?_map, List.getElem?_map, List.getElem?_range hi, List.getElem?_eq_getElem hi]
      simp [Function.comp, shortAt, hi]
    · rw [List.getElem?_eq_none (by simpa using hi), List.getElem?_eq_none (by simpa using hi)]
  have e2 : paidN t.words = isum ((List.range' 0 t.words.length).map fun i => if 3 < (t.words.getD i default).syl then (2 : Int) else 1) := by
    unfold paidN
    congr 1
    apply List.ext_getElem?
    intro i
    by_cases hi : i < t.words.length
    · rw [List.getElem?_map, List.getElem?_map, List.getElem?_range' hi, List.getElem?_eq_getElem hi]
      simp [hi]
    · rw [List.getElem?_eq_none (by simpa using hi), List.getElem?_eq_none (by simpa using hi)]
  rw [e1, e2]
  refine paid_sub _ (fun i => by split <;> omega) t.words.length l 0 (fun x hx => by have := h.rng x hx; omega) h.up
theorem short_ok {t : Text} (ok : Text.Ok t) {l : List Int} (h0 : l.length ≠ 0) (h : Asc l t.words.length) (hll : l.length ≤ t.words.length) : Text.Ok (t.shortT l) := by
  have hn := ok.n12
  have hwl : (t.shortT l).words.length = l.length := shortW_len _ _ _
  refine ⟨by rw [hwl]; omega, by rw [hwl]; omega, Nat.le_trans (shortTs_len _ _) ok.m6, ok.b1, ok.b40, fun x hx => ?_, fun u hu => ?_⟩
  · obtain ⟨i, hi, rfl⟩ := List.mem_map.1 hx
    have hi : i < l.length := by simpa using hi
    have hg := h.get hi
    exact ok.word (t.words.getD (l.getD i 0).toNat default) (getD_mem default (by omega))
  · obtain ⟨v, hv, rfl⟩ := List.mem_map.1 hu
    obtain ⟨hv, hc⟩ := List.mem_filter.1 hv
    rw [Bool.and_eq_true] at hc
    have hvt := ok.turn v hv
    have he := core_ends (show v.lo ≤ v.hi by omega) hc.1
    obtain ⟨a1, a2⟩ := get_idx (List.contains_iff_mem.1 hc.2)
    obtain ⟨b1, b2⟩ := get_idx (List.contains_iff_mem.1 he.1)
    obtain ⟨c1, c2⟩ := get_idx (List.contains_iff_mem.1 he.2)
    have hle := idx_le h (show v.lo ≤ v.hi by omega) hc.1
    rw [hwl]
    show 0 ≤ (l.idxOf v.word : Int) ∧ (l.idxOf v.word : Int) < (l.length : Int) ∧ 0 ≤ (l.idxOf v.lo : Int) ∧ (l.idxOf v.lo : Int) ≤ (l.idxOf v.hi : Int) ∧ (l.idxOf v.hi : Int) < (l.length : Int) ∧ ((l.idxOf v.word : Int) < (l.idxOf v.lo : Int) ∨ (l.idxOf v.hi : Int) < (l.idxOf v.word : Int))
    refine ⟨by omega, by omega, by omega, by omega, by omega, ?_⟩
    rcases hvt.2.2.2.2.2 with g | g
    · left
      have := (h.lt_iff a1 b1).1 (by rw [a2, b2]; exact g)
      omega
    · right
      have := (h.lt_iff c1 a1).1 (by rw [a2, c2]; exact g)
      omega
end Go.Proofs.Ytadnggecnjdhiaa
set_option linter.unusedSimpArgs false
set_option linter.unusedVariables false
namespace Go.Proofs.Ytadnggecnjdhiaa
open Go.RowKit Tx

theorem append_whichI (w : World) (base : Nat) (i0 : TypeInfo) (hi : Try.prog.info? 3 = some i0) (hz0 : i0.zero = some (.int .i64 0)) (hz1 : i0.size = 1) (hz2 : i0.bytes = 8) (ty : TypeId) (tv : Value) (n : Nat) (xs : List Value) (x : Value) (hx1 : x.oneCell' = true) (hown : w.ownsRow base 3 1 tv n xs) (hb : base ≤ w.heap.size) (hn : n ≤ 1000000) (a : Addr) (ha : w.cell? (a.add 0) = some x) :
    ∃ v' w', (Builtin.append_ #[28, 28] ty #[tv, .slice (some a) 1 1]).run Try.prog w = .ok v' w' ∧ w'.ownsRow base 3 1 v' (n + 1) (xs ++ [x]) ∧ w.grownBy w' tv.ownBlock ∧ (v'.ownBlock = tv.ownBlock ∨ v'.ownBlock = some w.heap.size) := by
  have hnews : ∀ j u, [x][j]? = some u → w.cell? (a.add j) = some u := fun j u hj => by
    match j, hj with
    | 0, hj => simp at hj; subst hj; exact ha
  obtain ⟨v', w', hr, h2, h3, h4⟩ := run_append_own (P := Try.prog) w base 28 ty 3 i0 (.int .i64 0) 1 8 A_undI hi hz0 hz1 hz2 rfl (by decide) tv n xs hown a 1 1 [x] rfl hnews (by simpa using hx1) (by unfold maxLen; omega) (by omega) hb
  refine ⟨v', w', hr, h2, h3, ?_⟩
  rcases hown.2 with ⟨rfl, rfl⟩ | ⟨g, cap, cur, rfl, hbg, hg, hnc, hcm, hcs, htake⟩
  · have hr2 := run_append_nil (P := Try.prog) w 28 ty 3 i0 (.int .i64 0) A_undI hi hz0 a 1 1 [x] (by rw [hz1]; rfl) hnews (by omega) (by omega) (by rw [hz2]; omega)
    rw [hr2] at hr
    injection hr with hv hw
    right; rw [← hv]; rfl
  · by_cases hroom : n + 1 ≤ cap
    · have hr2 := run_append_room (P := Try.prog) w 28 ty 3 i0 A_undI hi g n cap cur hg a 1 1 [x] (by rw [hz1]; rfl) hnews (by simpa using hx1) hroom (by rw [hcs, hz1]; simp; omega)
      rw [hr2] at hr
      injection hr with hv hw
      subst hv
      exact .inl rfl
    · have holds : ∀ j u, xs[j]? = some u → w.cell? ((⟨g, 0, none⟩ : Addr).add j) = some u := hown.cells (g := g) rfl
      have hr2 := run_append_grow (P := Try.prog) w 28 ty 3 i0 (.int .i64 0) A_undI hi hz0 ⟨g, 0, none⟩ n cap xs (by rw [hz1]; exact hown.1) holds a 1 1 [x] (by rw [hz1]; rfl) hnews (by omega) (by omega) (by rw [hz2]; exact growslice_fits (by omega) (by omega))
      rw [hr2] at hr
      injection hr with hv hw
      right; rw [← hv]; rfl
theorem wpList_append_whichI {ops : Array Oper} {rest : List Oper} {o : Oper} {a : Act} {w : World} {Q : Exit → Act → World → Prop} (hgd : o.guard = none) (s x : Operand)
    (ho : o.op = .call { callee := .builtin .append, args := #[s, x], argTypes := #[28, 28] }) (base : Nat) (tv : Value) (n : Nat) (xs : List Value) (hs : a.eval s = tv) (hown : w.ownsRow base 3 1 tv n xs)
    (ad : Addr) (u : Value) (hx : a.eval x = .slice (some ad) 1 1) (hu : w.cell? (ad.add 0) = some u) (hu1 : u.oneCell' = true) (hb : base ≤ w.heap.size) (hn : n ≤ 1000000)
    (h : ∀ v' w', w'.ownsRow base 3 1 v' (n + 1) (xs ++ [u]) → w.grownBy w' tv.ownBlock → (v'.ownBlock = tv.ownBlock ∨ v'.ownBlock = some w.heap.size) → wpList Try.prog ops Q rest (a.put o.dst v') w') : wpList Try.prog ops Q (o :: rest) a w :=
  wpList_plain hgd fun _ hK => by
    obtain ⟨i0, hi, hz0, hz1, hz2⟩ := info_parts A_infoI
    obtain ⟨v', w', hr, h2, h3, h4⟩ := append_whichI w base i0 hi hz0 hz1 hz2 o.type tv n xs u hu1 hown hb hn ad hu
    unfold Oper.wp execOp
    simp only [ho, resolve, invoke, builtin, Sem.run_bind, Sem.run_pure, Result.andThen_ok, List.map_toArray, List.map_cons, List.map_nil, hs, hx, hr]
    exact hK _ _ (h v' w' h2 h3 h4)
/-- two rows of numbers, apart -/
structure Two (B : Nat) (va : Value) (al : List Int) (vb : Value) (bl2 : List Int) (W : World) : Prop where
  oa : W.ownsRow B 3 1 va al.length (al.map (Value.int .i64))
  ob : W.ownsRow B 3 1 vb bl2.length (bl2.map (Value.int .i64))
  ne : va.ownBlock = none ∨ va.ownBlock ≠ vb.ownBlock
theorem Two.start (B : Nat) (W : World) : Two B (.slice none 0 0) [] (.slice none 0 0) [] W := ⟨own_none _ _ _ _, own_none _ _ _ _, .inl rfl⟩
theorem Two.swap {B : Nat} {va vb : Value} {al bl2 : List Int} {W : World} (h : Two B va al vb bl2 W) : Two B vb bl2 va al W := ⟨h.ob, h.oa, by
  rcases h.ne with e | e
  · rw [e]
    cases hb : vb.ownBlock with
    | none => exact .inl rfl
    | some g => exact .inr (by simp)
  · exact .inr (Ne.symm e)⟩
theorem Two.below {B : Nat} {va vb : Value} {al bl2 : List Int} {W W' : World} (h : Two B va al vb bl2 W) (hB : Below W.heap.size W W') : Two B va al vb bl2 W' := ⟨own_below h.oa hB, own_below h.ob hB, h.ne⟩
theorem Two.hold {B bl : Nat} {va vb : Value} {al bl2 : List Int} {W W' : World} (h : Two B va al vb bl2 W) (hh : Hold (fun k => k ≠ bl) W W') (hb : bl < B) : Two B va al vb bl2 W' :=
  ⟨own_hold h.oa hh (fun k hk => by show k ≠ bl; omega), own_hold h.ob hh (fun k hk => by show k ≠ bl; omega), h.ne⟩
theorem Two.lt {B : Nat} {va vb : Value} {al bl2 : List Int} {W : World} (h : Two B va al vb bl2 W) : ∀ k, vb.ownBlock = some k → k < W.heap.size := by
  intro k hk
  rcases h.ob.2 with ⟨h1, _⟩ | ⟨g, cap, cur, h1, hb, hg, _⟩
  · rw [h1] at hk; cases hk
  · rw [h1] at hk
    injection hk with hk
    subst hk
    exact (Array.getElem?_eq_some_iff.1 hg).1
theorem Two.app {B : Nat} {va vb v' : Value} {al bl2 : List Int} {x : Int} {W W' : World} (h : Two B va al vb bl2 W) (hown : W'.ownsRow B 3 1 v' (al.length + 1) (al.map (Value.int .i64) ++ [.int .i64 x])) (hg : W.grownBy W' va.ownBlock) (hw : v'.ownBlock = va.ownBlock ∨ v'.ownBlock = some W.heap.size) : Two B v' (al ++ [x]) vb bl2 W' := by
  have hlt := h.lt
  refine ⟨by simpa using hown, h.ob.kept hg ?_, ?_⟩
  · rcases h.ne with e | e
    · rw [e]
      cases hb : vb.ownBlock with
      | none => exact .inl rfl
      | some g => exact .inr (by simp)
    · exact .inr (Ne.symm e)
  · rcases hw with e | e
    · rw [e]; exact h.ne
    · right
      rw [e]
      intro e2
      exact absurd (hlt _ e2.symm) (by omega)
theorem hold_growI {W W' : World} {B : Nat} {e : TypeId} {s : Nat} {v : Value} {n : Nat} {xs : List Value} (h : W.ownsRow B e s v n xs) (hg : W.grownBy W' v.ownBlock) : Hold (fun k => k < B) W W' :=
  ⟨hg.os, hg.tape, hg.output, hg.size, fun k hk hl => hg.block k hl (by
    rcases h.2 with ⟨h1, _⟩ | ⟨g, cap, cur, h1, hb, _⟩
    · rw [h1]; show some k ≠ none; simp
    · rw [h1]; show some k ≠ some g; intro e; injection e; omega)⟩
theorem hold_then {Kp : Nat → Prop} {A B C : World} {S : Nat} (h : Hold Kp A B) (g : Hold (fun k => k < S) B C) (hS : A.heap.size ≤ S) : Hold Kp A C :=
  ⟨g.os.trans h.os, g.tape.trans h.tape, g.output.trans h.output, Nat.le_trans h.size g.size, fun k hk hl => (g.same k (by show k < S; omega) (Nat.lt_of_lt_of_le hl h.size)).trans (h.same k hk hl)⟩
/-- two rows that grow from B on while a bell rings, since world W4 -/
structure RowsB (W4 : World) (T B : Nat) (pq : Option Addr) (nq cq : Nat) (va : Value) (al : List Int) (vb : Value) (bl2 : List Int) (W : World) : Prop where
  two : Two B va al vb bl2 W
  bell : BellOk W (T + 1) pq nq cq
  hold : Hold (fun k => k ≠ T + 1) W4 W
  tb : T + 2 ≤ B
variable {W4 W W' : World} {T B : Nat} {pq : Option Addr} {nq cq : Nat} {va vb v' : Value} {al bl2 : List Int} {x : Int}
theorem RowsB.swap (h : RowsB W4 T B pq nq cq va al vb bl2 W) : RowsB W4 T B pq nq cq vb bl2 va al W := ⟨h.two.swap, h.bell, h.hold, h.tb⟩
theorem RowsB.below (h : RowsB W4 T B pq nq cq va al vb bl2 W) (hB : Below W.heap.size W W') : RowsB W4 T B pq nq cq va al vb bl2 W' := ⟨h.two.below hB, h.bell.below hB, h.hold.trans (Hold.below hB), h.tb⟩
theorem RowsB.ring (h : RowsB W4 T B pq nq cq va al vb bl2 W) (hb : BellOk W' (T + 1) pq nq cq) (hh : Hold (fun k => k ≠ T + 1) W W') : RowsB W4 T B pq nq cq va al vb bl2 W' := ⟨h.two.hold hh (by have := h.tb; omega), hb, h.hold.trans hh, h.tb⟩
theorem RowsB.app (hm : nq ≠ 0 → ∀ mb mo, pq = some ⟨mb, mo, none⟩ → mb < T + 2) (hz : W4.heap.size ≤ B) (h : RowsB W4 T B pq nq cq va al vb bl2 W)
    (hown : W'.ownsRow B 3 1 v' (al.length + 1) (al.map (Value.int .i64) ++ [.int .i64 x])) (hg : W.grownBy W' va.ownBlock) (hw : v'.ownBlock = va.ownBlock ∨ v'.ownBlock = some W.heap.size) : RowsB W4 T B pq nq cq v' (al ++ [x]) vb bl2 W' := by
  have hh := hold_growI h.two.oa hg
  have ht := h.tb
  exact ⟨h.two.app hown hg hw, h.bell.hold hh (by show T + 1 < B; omega) (fun hn mb mo e => by show mb < B; have := hm hn mb mo e; omega), hold_then h.hold hh hz, ht⟩
theorem asc_snoc {l : List Int} {k : Nat} (h : Asc l k) : Asc (l ++ [(k : Int)]) (k + 1) := by
  constructor
  · rw [List.pairwise_append]
    refine ⟨h.up, by simp, fun a ha b hb => ?_⟩
    have := h.rng a ha
    have e : b = (k : Int) := by simpa using hb
    omega
  · intro x hx
    rcases List.mem_append.1 hx with g | g
    · have := h.rng x g; omega
    · have e : x = (k : Int) := by simpa using g
      omega
theorem asc_mono {l : List Int} {k m : Nat} (h : Asc l k) (hm : k ≤ m) : Asc l m := ⟨h.up, fun x hx => by have := h.rng x hx; omega⟩
theorem asc_len {l : List Int} {n : Nat} (h : Asc l n) : l.length ≤ n := by
  have key : ∀ (l : List Int) (a : Int) (n : Nat), (∀ x ∈ l, a ≤ x ∧ x < a + (n : Int)) → l.Pairwise (· < ·) → l.length ≤ n := by
    intro l
    induction l with
    | nil => intro a n _ _; simp
    | cons x l ih =>
      intro a n hx hp
      have hp := List.pairwise_cons.1 hp
      have h0 := hx x (by simp)
      have := ih (x + 1) (a + n - (x + 1)).toNat (fun y hy => by
        have h1 := hp.1 y hy
        have h2 := hx y (by simp [hy])
        omega) hp.2
      rw [List.length_cons]
      omega
  exact key l 0 n (fun x hx => by have := h.rng x hx; omega) h.up
theorem comp_snoc (l k : List Int) (i : Nat) : comp l (k ++ [(i : Int)]) = comp l k ++ [l.getD i 0] := by
  unfold comp; simp
theorem slice_comp {l : List Int} {lo m : Nat} (h : lo + m ≤ l.length) : (l.drop lo).take m = comp l (wordsL lo m) := by
  apply List.ext_getElem?
  intro i
  unfold comp wordsL
  by_cases hi : i < m
  · rw [List.getElem?_take, if_pos hi, List.getElem?_drop, List.getElem?_map, List.getElem?_map, List.getElem?_range hi]
    simp only [Option.map_some]
    rw [show ((lo : Int) + (i : Int)).toNat = lo + i by omega]
    simp [show lo + i < l.length by omega]
  · rw [List.getElem?_take, if_neg hi, List.getElem?_eq_none (by simpa using hi)]
theorem ints_slice {w : World} {b o : Nat} {l : List Int} {lo m : Nat} (h : lo + m ≤ l.length) (hi : Ints w (some ⟨b, o, none⟩) l) : Ints w (some ⟨b, o + lo, none⟩) (comp l (wordsL lo m)) := by
  rcases hi with rfl | ⟨b', o', hp, hb, hc⟩
  · simp at h; obtain ⟨rfl, rfl⟩ := h; exact .inl rfl
  · injection hp with hp; injection hp with h1 h2 _
    subst h1; subst h2
    refine .inr ⟨b, o + lo, rfl, hb, fun i hi => ?_⟩
    rw [cmpI_len, wordsL_length] at hi
    rw [← slice_comp h]
    have e : ((l.drop lo).take m).getD i 0 = l.getD (lo + i) 0 := by simp [List.getElem?_take, hi]
    rw [e, Nat.add_assoc]
    exact hc (lo + i) (by omega)
end Go.Proofs.Ytadnggecnjdhiaa
set_option linter.unusedSimpArgs false
set_option linter.unusedVariables false
namespace Go.Proofs.Ytadnggecnjdhiaa
open Go.RowKit Tx
attribute [local go_sem] Oper.semAt_some

theorem asc_incr {n : Nat} : ∀ (l : List Int) (a : Int), (∀ x ∈ l, a ≤ x ∧ x < (n : Int)) → l.Pairwise (· < ·) → Incr a n l
  | [], _, _, _ => trivial
  | x :: l, a, hx, hp => by
    have hp := List.pairwise_cons.1 hp
    have h0 := hx x (by simp)
    exact ⟨h0.1, h0.2, asc_incr l (x + 1) (fun y hy => by have h1 := hp.1 y hy; have h2 := hx y (by simp [hy]); omega) hp.2⟩
theorem incr_up {hi : Int} : ∀ {lo : Int} {l : List Int}, Incr lo hi l → l.Pairwise (· < ·)
  | _, [], _ => List.Pairwise.nil
  | lo, x :: l, ⟨h1, h2, h3⟩ => List.pairwise_cons.2 ⟨fun y hy => by have := Incr.bd h3 y hy; omega, incr_up h3⟩
theorem lexB_asym {a b : List Int} (h : a.length = b.length) (h1 : lexB a b = true) : lexB b a = false := by
  cases g : lexB b a with
  | false => rfl
  | true =>
    have := lexB_trans h h.symm h1 g
    rw [lexB_irr] at this; cases this
theorem least_law {t : Text} (he : t.err = 0) (ok : Text.Ok t) {wt : Int} (hw : 0 ≤ wt) :
    (leaE t wt = 0 ∧ Asc (leaL t wt) t.words.length ∧ (leaL t wt).length ≠ 0 ∧ wt ≤ t.wtOf (leaL t wt) ∧ t.keeps (leaL t wt) = true ∧ ∀ l, Asc l t.words.length → l.length ≠ 0 → t.keeps l = true → wt ≤ t.wtOf l → ¬ l.length < (leaL t wt).length ∧ (l.length = (leaL t wt).length → lexB l (leaL t wt) = false)) ∨
    (leaE t wt = 6 ∧ ∀ l, Asc l t.words.length → l.length ≠ 0 → t.keeps l = true → wt ≤ t.wtOf l → False) := by
  have e1 : leaE t wt = (t.least wt).2 := by unfold leaE; rw [if_pos he, if_neg (by omega)]
  have e2 : leaL t wt = (t.least wt).1 := by unfold leaL; rw [if_pos he, if_neg (by omega)]
  rw [e1, e2]
  unfold Text.least
  have hp : (List.range' 1 t.len).Pairwise (· < ·) := List.pairwise_lt_range'
  obtain ⟨s1, s2⟩ := leastGo_spec t wt (List.range' 1 t.len) hp
  have hin : ∀ l, Asc l t.words.length → l.length ≠ 0 → l.length ∈ List.range' 1 t.len ∧ Incr 0 t.len l := fun l h h0 => by
    have hl := asc_len h
    refine ⟨List.mem_range'_1.2 ⟨by omega, by unfold Text.len; omega⟩, asc_incr l 0 (fun x hx => h.rng x hx) h.up⟩
  cases hg : t.leastGo wt (List.range' 1 t.len) with
  | none =>
    right
    refine ⟨rfl, fun l h h0 hk hwl => ?_⟩
    obtain ⟨a1, a2⟩ := hin l h h0
    have := s2 hg l a1 a2
    unfold Text.leastP at this
    rw [hk, decide_eq_true hwl] at this
    cases this
  | some L =>
    left
    obtain ⟨b1, b2, b3, b4⟩ := s1 L hg
    unfold Text.leastP at b3
    rw [Bool.and_eq_true, decide_eq_true_eq] at b3
    have hL0 := (List.mem_range'_1.1 b1).1
    refine ⟨rfl, ⟨incr_up b2, fun x hx => Incr.bd b2 x hx⟩, by show L.length ≠ 0; omega, b3.1, b3.2, fun l h h0 hk hwl => ?_⟩
    obtain ⟨a1, a2⟩ := hin l h h0
    have hlp : t.leastP wt l = true := by unfold Text.leastP; rw [hk, decide_eq_true hwl]; rfl
    show ¬ l.length < L.length ∧ (l.length = L.length → lexB l L = false)
    rcases b4 l a1 a2 hlp with e | e | ⟨e1, e2⟩
    · subst e; exact ⟨by omega, fun _ => lexB_irr _⟩
    · exact ⟨by omega, fun h => by omega⟩
    · exact ⟨by omega, fun _ => lexB_asym e1 e2⟩
theorem asc_erase {l : List Int} {n : Nat} (h : Asc l n) (i : Nat) : Asc (l.eraseIdx i) n :=
  ⟨h.up.sublist (List.eraseIdx_sublist ..), fun x hx => h.rng x (List.mem_of_mem_eraseIdx hx)⟩
theorem keeps_drop {t : Text} {l : List Int} (h : Asc l t.words.length) (hk : t.keeps l = true) {i : Nat} (hi : i < l.length) (hw : ∀ u ∈ t.turns, u.word ≠ l.getD i 0) : t.keeps (l.eraseIdx i) = true := by
  unfold Text.keeps
  rw [Bool.not_eq_true', ← Bool.not_eq_true]
  intro hh
  obtain ⟨u, hu, h1⟩ := List.any_eq_true.1 hh
  rw [Bool.and_eq_true] at h1
  have hsub : coreIn u l = true := by
    have h1 := h1.1
    unfold coreIn at h1 ⊢
    rw [List.all_eq_true] at h1 ⊢
    exact fun j hj => List.contains_iff_mem.2 (List.mem_of_mem_eraseIdx (List.contains_iff_mem.1 (h1 j hj)))
  have h2 := keeps_all hk u hu
  rw [hsub] at h2
  have hwl : u.word ∈ l := List.contains_iff_mem.1 (by simpa using h2)
  obtain ⟨g1, g2⟩ := get_idx hwl
  have hne : l.idxOf u.word ≠ i := fun e => hw u hu (by rw [← e, g2])
  have : u.word ∈ l.eraseIdx i := List.mem_eraseIdx_iff_getElem.2 ⟨l.idxOf u.word, g1, hne, List.getElem_idxOf g1⟩
  rw [List.contains_iff_mem.2 this] at h1
  simp at h1
theorem spare_has {t : Text} (he : t.err = 0) {x : Nat} (hx : x < t.words.length) : (spaL t).contains (x : Int) = spareP t x := by
  unfold spaL
  rw [if_pos he, Bool.eq_iff_iff, List.contains_iff_mem]
  unfold spareTo
  rw [List.mem_map]
  constructor
  · rintro ⟨a, ha, e⟩
    have := List.mem_filter.1 ha
    obtain rfl : a = x := by omega
    exact this.2
  · intro h
    exact ⟨x, List.mem_filter.2 ⟨List.mem_range.2 hx, h⟩, rfl⟩
theorem asc_wo (n x : Nat) : Asc (wo n x) n := by
  unfold wo
  constructor
  · rw [List.pairwise_map]
    exact (List.pairwise_lt_range.sublist List.filter_sublist).imp (fun {a b} hab => by omega)
  · intro y hy
    obtain ⟨a, ha, rfl⟩ := List.mem_map.1 hy
    have := List.mem_range.1 (List.mem_filter.1 ha).1
    omega
theorem keeps_fold (t : Text) (l : List Int) : (t.turns.all fun u => !coreIn u l || l.contains u.word) = t.keeps l := by
  unfold Text.keeps
  rw [List.not_any_eq_all_not]
  congr 1
  funext u
  simp
theorem keptK1_any (u : Turn) (x : Int) (A : Nat) (w : World) (hA : w.heap[A]? = some (.cells #[.int .i64 x] 3 (0, 0))) :
    Calls Try.prog 74 #[.agg #[.int .i64 u.word, .int .i64 u.lo, .int .i64 u.hi], .pointer (some ⟨A, 0, none⟩)] w fun e w' => e = .returned (.bool (u.word == x)) ∧ Below w.heap.size w w' := by
  have hAl := (Array.getElem?_eq_some_iff.1 hA).1
  have c0 := blk_cells hA 0 _ rfl
  obtain ⟨uw, ul, uh⟩ := u
  dsimp only
  clear hA
  go_enter Try.func74, Try.ntmps74
  go_wp2
  go_ret
  exact ⟨rfl, below1 _ _⟩
theorem entered_keptK1 : Entered 74 := fun args W => by kernel_rfl
set_option maxHeartbeats 1000000 in
theorem compare_any (a b : List Int) (hl : a.length = b.length) (hl2 : a.length ≤ 1000000) (p q : Option Addr) (c d : Nat) (w : World) (ha : Ints w p a) (hb : Ints w q b) :
    Calls Try.prog 70 #[.slice p a.length c, .slice q b.length d] w fun e w' => ∃ z : Int, e = .returned (.int .i64 z) ∧ decide (z < 0) = lexB a b ∧ w = w' := by
  have HA := Lib.hid ha
  have HB := Lib.hid hb
  have HL := Lib.hid hl
  clear ha hb hl
  go_enter Try.func70, Try.ntmps70
  go_wp2_with fail
  go_loopw [11] (fun i wr => ∃ k : Nat, k ≤ a.length ∧ i = .int .i64 k ∧ Hid (lexB (a.drop k) (b.drop k) = lexB a b) ∧ wr = w) (fun i _ => a.length - (intOf i).toNat)
  case atStart => exact ⟨0, Nat.zero_le _, rfl, Lib.hid rfl, rfl⟩
  case round =>
    obtain ⟨k, hk, rfl, HD, hww⟩ := hrel
    subst hww
    by_cases hlt : k < a.length
    · have hlt2 : k < b.length := by have := HL.out; omega
      have hlt' : (k : Int) < a.length := by omega
      have hlt2' : (k : Int) < b.length := by omega
      have hk0 : (0 : Int) ≤ (k : Int) := by omega
      obtain ⟨b1, o1, x, rfl, hb1, hx, c1⟩ := HA.out.at hlt
      obtain ⟨b2, o2, y, rfl, hb2, hy, d1⟩ := HB.out.at hlt2
      have HX := Lib.hid (lexB_drop hlt hlt2)
      rw [← hx, ← hy] at HX
      clear hx hy
      go_wp2_with fail
      refine (Try.cmp_Compare_int x y _).mono ?_
      rintro e w' ⟨rfl, rfl⟩
      by_cases hxy : x = y
      · subst hxy
        have HF := Lib.hid (show lexB (a.drop (k + 1)) (b.drop (k + 1)) = lexB a b by rw [← HD.out, HX.out, if_neg (by simp)])
        have hz : Lib.compareInt x x = 0 := by simp [Lib.compareInt]
        rw [hz]
        clear HX HD hz
        go_wp2
        go_roundw
        case rel => exact ⟨k + 1, by omega, by go_num, HF, trivial⟩
        case measure => simp [intOf]; omega
      · have HF := Lib.hid (show lexB a b = decide (x < y) by rw [← HD.out, HX.out, if_pos hxy])
        have hz : (Lib.compareInt x y != 0) = true ∧ decide (Lib.compareInt x y < 0) = decide (x < y) := by
          unfold Lib.compareInt
          by_cases g : x < y
          · simp [g]
          · have : y < x := by omega
            simp [g, this]
        generalize Lib.compareInt x y = z at hz ⊢
        obtain ⟨hz1, hz2⟩ := hz
        have HZ2 := Lib.hid hz2
        clear HX HD hz2
        go_wp2
        go_ret
        exact ⟨z, rfl, by rw [HZ2.out, HF.out], rfl⟩
    · obtain rfl : k = a.length := by omega
      have HF := Lib.hid (show lexB a b = false by rw [← HD.out, List.drop_length]; rfl)
      have hle : ¬ (a.length : Int) < (b.length : Int) := by have := HL.out; omega
      clear HD
      go_wp2
      go_ret
      exact ⟨0, rfl, by rw [HF.out]; rfl, rfl⟩
theorem clone_any (l : List Int) (hll : l.length ≤ 1000000) (p : Option Addr) (c : Nat) (h0 : l.length ≠ 0) (w : World) (hL : Ints w p l) :
    Calls Try.prog 72 #[.slice p l.length c] w fun e w' => ∃ g c', e = .returned (.slice (some ⟨g, 0, none⟩) l.length c') ∧ w'.ownsRow w.heap.size 3 1 (.slice (some ⟨g, 0, none⟩) l.length c') l.length (l.map (Value.int .i64)) ∧ Below w.heap.size w w' := by
  rcases hL with rfl | ⟨b, o, rfl, hb, hc⟩
  · simp at h0
  · refine (Try.slices_Clone_int b o l.length c l w (Nat.le_refl _) (by omega) hc).mono ?_
    rintro e w' ⟨v, rfl, ho, hv, hB⟩
    rw [List.take_length] at ho
    rcases ho.2 with ⟨h1, h2⟩ | ⟨g, cap, cur, rfl, _⟩
    · exact absurd h2 h0
    · exact ⟨g, cap, rfl, ho, hB⟩
theorem delete_any (l : List Int) (hll : l.length ≤ 1000000) (i : Nat) (hi : i < l.length) (B g c : Nat) (w : World) (ho : w.ownsRow B 3 1 (.slice (some ⟨g, 0, none⟩) l.length c) l.length (l.map (Value.int .i64))) :
    Calls Try.prog 71 #[.slice (some ⟨g, 0, none⟩) l.length c, .int .i64 (i : Int), .int .i64 ((i + 1 : Nat) : Int)] w fun e w' => e = .returned (.slice (some ⟨g, 0, none⟩) (l.length - 1) c) ∧ Ints w' (some ⟨g, 0, none⟩) (l.eraseIdx i) ∧ Below B w w' := by
  obtain ⟨p', c', e1, hI, hbase, hm, hlc⟩ := own_rd ho rfl
  injection e1 with e1 _ e3
  subst e1; subst e3
  obtain ⟨hB, -, hfz⟩ := hbase g 0 rfl
  rcases hI with h | ⟨b, o, hp, hgl, hc⟩
  · subst h; simp at hi
  · injection hp with hp; injection hp with h1 h2 _
    subst h1; subst h2
    refine (Try.slices_Delete_int_cells g 0 l.length c i (i + 1) l w (Nat.le_refl _) hlc (by unfold maxLen at hm; omega) (by omega) (by omega) hc (fun j _ => hfz _)).mono ?_
    rintro e w' ⟨rfl, q, rfl⟩
    rw [show l.length - (i + 1 - i) = l.length - 1 by omega]
    refine ⟨rfl, ?_, below_setCells' hB _ _ _ (below_drewN' (Below.refl _ _) _)⟩
    have hgb : ∃ cur, w.heap[g]? = some (.cells cur 3 (0, 0)) ∧ l.length ≤ cur.size := by
      rcases ho.2 with ⟨h1, _⟩ | ⟨g', cap, cur, hv, _, hg, k1, k2, k3, _⟩
      · cases h1
      · injection hv with f1 _ f3
        injection f1 with f1; injection f1 with f1
        subst f1; subst f3
        exact ⟨cur, hg, by omega⟩
    obtain ⟨cur, hg, hcs⟩ := hgb
    rw [List.take_length]
    have hsz : ((l.take i ++ l.drop (i + 1) ++ List.replicate (i + 1 - i) 0).map (Value.int .i64)).length = l.length := by simp; omega
    have hg2 := heap_setCells g ((l.take i ++ l.drop (i + 1) ++ List.replicate (i + 1 - i) 0).map (Value.int .i64)) 0 (w.drewN q) cur _ _ hg
    refine .inr ⟨g, 0, rfl, (Array.getElem?_eq_some_iff.1 hg2).1, fun j hj => ?_⟩
    have hjl : j < l.length - 1 := by rw [List.length_eraseIdx_of_lt hi] at hj; exact hj
    have hget : (setFrom cur 0 ((l.take i ++ l.drop (i + 1) ++ List.replicate (i + 1 - i) 0).map (Value.int .i64)))[j]? = some (.int .i64 ((l.eraseIdx i).getD j 0)) := by
      rw [get_setFrom _ _ _ _ (by rw [hsz]; omega), if_pos (by rw [hsz]; omega), Nat.sub_zero, List.eraseIdx_eq_take_drop_succ, List.getElem?_map, List.getElem?_append_left (by simp; omega)]
      have hj2 : j < (l.take i ++ l.drop (i + 1)).length := by simp; omega
      simp [List.getElem?_eq_getElem hj2]
    rw [Nat.zero_add]
    exact blk_cells hg2 j _ hget
end Go.Proofs.Ytadnggecnjdhiaa
