/- oyezlaw02.TextShorter: whether kept words keep the sense, their weight, the text of them, and what a text costs, or the errors, are as specified, for any text, kept words and pence. No condition. -/
import Derived.Test.YtadnggecnjdhiaaZl
import Derived.Lib.SliceRun
namespace Go.Proofs.Ytadnggecnjdhiaa.Tx
set_option linter.unusedSimpArgs false
set_option linter.unusedVariables false

/-- the word behind which the stops of word i of a list are looked for -/
def nextI (l : List Int) (n : Int) (i : Nat) : Int := if i + 1 < l.length then l.getD (i + 1) 0 else n
def stopsB (ws : List Word) (lo hi : Int) : Bool := (slice ws lo.toNat hi.toNat).any (·.stop)
def shortAt (ws : List Word) (l : List Int) (n : Int) (i : Nat) : Word := { ws.getD (l.getD i 0).toNat default with stop := stopsB ws (l.getD i 0) (nextI l n i) }
def shortW (ws : List Word) (l : List Int) (n : Int) : List Word := (List.range l.length).map (shortAt ws l n)
def nowF (l : List Int) (x : Int) : Int := if l.contains x then (l.idxOf x : Int) else -1
def shortTurn (l : List Int) (u : Turn) : Turn := ⟨l.idxOf u.word, l.idxOf u.lo, l.idxOf u.hi⟩
def shortTs (ts : List Turn) (l : List Int) : List Turn := (ts.filter fun u => coreIn u l && l.contains u.word).map (shortTurn l)
def Text.shortT (t : Text) (l : List Int) : Text := ⟨shortW t.words l t.words.length, shortTs t.turns l, t.breath⟩

theorem shortW_len (ws : List Word) (l : List Int) (n : Int) : (shortW ws l n).length = l.length := by simp [shortW]
theorem shortW_get {ws : List Word} {l : List Int} {n : Int} {i : Nat} (h : i < l.length) : (shortW ws l n).getD i default = shortAt ws l n i := by
  simp [shortW, h]
theorem slice_snoc {α : Type} (d : α) (ws : List α) {a b : Nat} (ha : a ≤ b) (hb : b < ws.length) : slice ws a (b + 1) = slice ws a b ++ [ws.getD b d] := by
  unfold slice
  rw [show b + 1 - a = (b - a) + 1 by omega, List.take_add_one]
  congr 1
  rw [List.getElem?_drop, show a + (b - a) = b by omega]
  simp [hb]
theorem stopsB_snoc {ws : List Word} {a b : Nat} (ha : a ≤ b) (hb : b < ws.length) : stopsB ws a ((b : Int) + 1) = (stopsB ws a b || (ws.getD b default).stop) := by
  unfold stopsB
  rw [show ((b : Int) + 1).toNat = b + 1 by omega, show ((a : Int)).toNat = a by omega, show ((b : Int)).toNat = b by omega, slice_snoc default ws ha hb]
  simp

/-- l's first k numbers are those below w -/
structure Upto (l : List Int) (n k w : Nat) : Prop where
  asc : l.Pairwise (· < ·)
  rng : ∀ x ∈ l, 0 ≤ x ∧ x < (n : Int)
  kl : k ≤ l.length
  lo : ∀ i, i < k → l.getD i 0 < (w : Int)
  hi : ∀ i, k ≤ i → i < l.length → (w : Int) ≤ l.getD i 0
theorem Upto.start {l : List Int} {n : Nat} (h1 : l.Pairwise (· < ·)) (h2 : ∀ x ∈ l, 0 ≤ x ∧ x < (n : Int)) : Upto l n 0 0 :=
  ⟨h1, h2, by omega, fun i h => by omega, fun i _ h => by
    have := (h2 (l.getD i 0) (by simp [h])).1
    exact this⟩
theorem getD_lt {l : List Int} (h : l.Pairwise (· < ·)) {i j : Nat} (hij : i < j) (hj : j < l.length) : l.getD i 0 < l.getD j 0 := by
  have := List.pairwise_iff_getElem.1 h i j (by omega) hj hij
  simpa [hj, show i < l.length by omega] using this
theorem getD_memI {l : List Int} {i : Nat} (h : i < l.length) : l.getD i 0 ∈ l := by simp [h]
theorem Upto.hit {l : List Int} {n k w : Nat} (h : Upto l n k w) (hc : l.contains (w : Int) = true) : k < l.length ∧ l.getD k 0 = (w : Int) := by
  obtain ⟨i, hi, he⟩ := List.mem_iff_getElem.1 (List.contains_iff_mem.1 hc)
  have hg : l.getD i 0 = (w : Int) := by simp [hi, he]
  have h1 : k ≤ i := by
    rcases Nat.lt_or_ge i k with g | g
    · have := h.lo i g; omega
    · exact g
  have h2 := h.hi k (Nat.le_refl _) (by omega)
  rcases Nat.lt_or_ge k i with g | g
  · have := getD_lt h.asc g hi; omega
  · obtain rfl : i = k := by omega
    exact ⟨hi, hg⟩
theorem Upto.next {l : List Int} {n k w : Nat} (h : Upto l n k w) (hc : l.contains (w : Int) = true) : Upto l n (k + 1) (w + 1) := by
  obtain ⟨h1, h2⟩ := h.hit hc
  refine ⟨h.asc, h.rng, h1, fun i hi => ?_, fun i hi hl => ?_⟩
  · rcases Nat.lt_or_ge i k with g | g
    · have := h.lo i g; omega
    · obtain rfl : i = k := by omega
      omega
  · have := getD_lt h.asc (show k < i by omega) hl; omega
theorem Upto.miss {l : List Int} {n k w : Nat} (h : Upto l n k w) (hc : l.contains (w : Int) = false) : Upto l n k (w + 1) := by
  refine ⟨h.asc, h.rng, h.kl, fun i hi => by have := h.lo i hi; omega, fun i hi hl => ?_⟩
  have h1 := h.hi i hi hl
  have h2 : l.getD i 0 ≠ (w : Int) := fun e => by
    have := getD_memI hl
    rw [e, ← List.contains_iff_mem, hc] at this
    exact absurd this (by simp)
  omega
theorem Upto.full {l : List Int} {n k : Nat} (h : Upto l n k n) : k = l.length := by
  rcases Nat.lt_or_ge k l.length with g | g
  · have h1 := h.hi k (Nat.le_refl _) g
    have h2 := (h.rng _ (getD_memI g)).2
    omega
  · have := h.kl; omega
theorem Upto.idx {l : List Int} {n k w : Nat} (h : Upto l n k w) (hc : l.contains (w : Int) = true) : nowF l w = (k : Int) := by
  obtain ⟨h1, h2⟩ := h.hit hc
  unfold nowF
  rw [if_pos hc]
  have hm := List.contains_iff_mem.1 hc
  have hi : l.idxOf (w : Int) < l.length := List.idxOf_lt_length_of_mem hm
  have hg : l[l.idxOf (w : Int)] = (w : Int) := List.getElem_idxOf hi
  have hg' : l.getD (l.idxOf (w : Int)) 0 = (w : Int) := by simp [hi, hg]
  rcases Nat.lt_trichotomy (l.idxOf (w : Int)) k with g | g | g
  · have := getD_lt h.asc g h1; omega
  · rw [g]
  · have := getD_lt h.asc g hi; omega
theorem nowF_miss {l : List Int} {x : Int} (hc : l.contains x = false) : nowF l x = -1 := by unfold nowF; rw [hc]; rfl
theorem nowF_pos (l : List Int) (x : Int) : decide (0 ≤ nowF l x) = l.contains x := by
  unfold nowF
  cases h : l.contains x <;> simp
theorem nowF_bd (l : List Int) (x : Int) : -1 ≤ nowF l x ∧ nowF l x ≤ l.length := by
  unfold nowF
  have := List.idxOf_le_length (a := x) (l := l)
  split <;> omega

theorem getD_takeI {l : List Int} {k i : Nat} (h : i < k) : (l.take k).getD i 0 = l.getD i 0 := by
  simp [List.getElem?_take, h]
/-- a word that is kept comes to the others -/
theorem short_hit {ws : List Word} {l : List Int} {k w : Nat} (h : Upto l ws.length k w) (hw : w < ws.length) (hc : l.contains (w : Int) = true) :
    shortW ws (l.take (k + 1)) ((w : Int) + 1) = shortW ws (l.take k) w ++ [ws.getD w default] := by
  obtain ⟨h1, h2⟩ := h.hit hc
  have hl1 : (l.take (k + 1)).length = k + 1 := by simp; omega
  have hl2 : (l.take k).length = k := by simp; omega
  unfold shortW
  rw [hl1, hl2, List.range_succ, List.map_append]
  congr 1
  · apply List.map_congr_left
    intro i hi
    have hi : i < k := by simpa using hi
    unfold shortAt nextI
    rw [getD_takeI (show i < k + 1 by omega), getD_takeI hi, hl1, hl2, if_pos (by omega), getD_takeI (show i + 1 < k + 1 by omega)]
    by_cases hk : i + 1 < k
    · rw [if_pos hk, getD_takeI hk]
    · obtain rfl : k = i + 1 := by omega
      rw [if_neg hk, h2]
  · simp only [List.map_cons, List.map_nil]
    unfold shortAt nextI
    rw [getD_takeI (show k < k + 1 by omega), hl1, if_neg (by omega), h2, stopsB_snoc (Nat.le_refl _) hw]
    have e0 : stopsB ws (w : Int) (w : Int) = false := by unfold stopsB slice; simp
    rw [e0, Bool.false_or, show ((w : Int)).toNat = w by omega]
/-- a word that is left out: its stop goes to the last one -/
theorem short_miss {ws : List Word} {l : List Int} {k w : Nat} (h : Upto l ws.length k w) (hw : w < ws.length) :
    shortW ws (l.take k) ((w : Int) + 1) = if 0 < k ∧ (ws.getD w default).stop = true then (shortW ws (l.take k) w).set (k - 1) { (shortW ws (l.take k) w).getD (k - 1) default with stop := true } else shortW ws (l.take k) w := by
  have hkl := h.kl
  have hl2 : (l.take k).length = k := by simp; omega
  apply List.ext_getElem?
  intro i
  by_cases hi : i < k
  · have e1 : ∀ n, (shortW ws (l.take k) n)[i]? = some (shortAt ws (l.take k) n i) := fun n => by
      unfold shortW; rw [hl2]; simp [hi]
    rw [e1]
    have hlo := h.lo i hi
    have h0 := (h.rng (l.getD i 0) (getD_memI (by omega))).1
    obtain ⟨a, ha⟩ := Int.eq_ofNat_of_zero_le h0
    have hnx : i + 1 < k → shortAt ws (l.take k) ((w : Int) + 1) i = shortAt ws (l.take k) w i := fun g => by
      unfold shortAt nextI; rw [hl2, if_pos g, if_pos g]
    have hla : ¬ i + 1 < k → shortAt ws (l.take k) ((w : Int) + 1) i = { shortAt ws (l.take k) w i with stop := (shortAt ws (l.take k) w i).stop || (ws.getD w default).stop } := fun g => by
      unfold shortAt nextI
      rw [hl2, if_neg g, if_neg g, getD_takeI hi, ha]
      simp only
      rw [stopsB_snoc (by omega) hw]
    by_cases g : i + 1 < k
    · rw [hnx g]
      split
      · rw [List.getElem?_set, if_neg (by omega), e1]
      · rw [e1]
    · rw [hla g]
      obtain rfl : k = i + 1 := by omega
      split
      · rename_i hh
        rw [List.getElem?_set, if_pos (by omega), if_pos (by rw [shortW_len, hl2]; omega), show i + 1 - 1 = i by omega, shortW_get (by rw [hl2]; omega), hh.2, Bool.or_true]
      · rename_i hh
        have : (ws.getD w default).stop = false := by
          cases hs : (ws.getD w default).stop
          · rfl
          · exact absurd ⟨by omega, hs⟩ hh
        rw [e1, this, Bool.or_false]
  · have e0 : ∀ n, (shortW ws (l.take k) n)[i]? = none := fun n => by
      rw [List.getElem?_eq_none]; rw [shortW_len, hl2]; omega
    rw [e0]
    split
    · rw [List.getElem?_set, if_neg (by omega), e0]
    · rw [e0]
theorem coreNow (u : Turn) (l : List Int) : ((List.range (u.hi + 1 - u.lo).toNat).all fun k => decide (0 ≤ nowF l (u.lo + (k : Int)))) = coreIn u l := by
  unfold coreIn
  congr 1
  funext k
  exact nowF_pos l _
/-- numbers that do not go up -/
def notUp : Int → List Int → Bool
  | _, [] => false
  | a, x :: l => decide (x ≤ a) || notUp x l
theorem notUp_snoc (x : Int) : ∀ (l : List Int) (a : Int), notUp a (l ++ [x]) = (notUp a l || decide (x ≤ (l.getLast?.getD a)))
  | [], a => by show (decide (x ≤ a) || false) = (false || decide (x ≤ a)); rw [Bool.or_false, Bool.false_or]
  | y :: l, a => by
    have e : (y :: l).getLast?.getD a = l.getLast?.getD y := by
      cases l with
      | nil => simp
      | cons z l => rw [List.getLast?_cons_cons, List.getLast?_eq_some_getLast (by simp)]; rfl
    rw [List.cons_append, notUp, notUp, notUp_snoc x l y, Bool.or_assoc, e]
theorem notUp_iff : ∀ (l : List Int) (a : Int), notUp a l = false ↔ (a :: l).Pairwise (· < ·)
  | [], a => by simp [notUp]
  | x :: l, a => by
    rw [notUp, Bool.or_eq_false_iff, notUp_iff l x]
    constructor
    · rintro ⟨h1, h2⟩
      have h1 : a < x := by simpa using h1
      refine List.pairwise_cons.2 ⟨fun y hy => ?_, h2⟩
      rcases List.mem_cons.1 hy with rfl | hy
      · exact h1
      · have := (List.pairwise_cons.1 h2).1 y hy; omega
    · intro h
      have := List.pairwise_cons.1 h
      exact ⟨by simpa using this.1 x (by simp), this.2⟩
/-- the reference's look: each number and the one ahead of it -/
theorem notUp_adj : ∀ (l : List Int) (a : Int), (∀ x ∈ l, a < x) → (notUp a l = (List.range (l.length - 1)).any fun i => decide (l.getD (i + 1) 0 ≤ l.getD i 0))
  | [], a, _ => by simp [notUp]
  | [x], a, h => by
    have := h x (by simp)
    simp [notUp]; omega
  | x :: y :: l, a, h => by
    have hx := h x (by simp)
    have e0 : decide (x ≤ a) = false := by simp; omega
    have e1 : (List.range ((x :: y :: l).length - 1)) = 0 :: (List.range ((y :: l).length - 1)).map (· + 1) := by
      rw [show (x :: y :: l).length - 1 = ((y :: l).length - 1) + 1 by simp, List.range_succ_eq_map]
    rw [e1, List.any_cons, List.any_map, notUp, e0, Bool.false_or]
    by_cases hyx : y ≤ x
    · rw [notUp]; simp [hyx]
    · have e2 : decide (y ≤ x) = false := by simpa using hyx
      have h3 : notUp x (y :: l) = notUp (y - 1) (y :: l) := by
        rw [notUp, notUp, e2]
        have : decide (y ≤ y - 1) = false := by simp; omega
        rw [this]
      by_cases hall : ∀ z ∈ l, y - 1 < z
      · rw [h3, notUp_adj (y :: l) (y - 1) (fun z hz => by
          rcases List.mem_cons.1 hz with rfl | hz
          · omega
          · exact hall z hz)]
        have e3 : decide ((x :: y :: l).getD (0 + 1) 0 ≤ (x :: y :: l).getD 0 0) = false := by simpa using e2
        rw [e3, Bool.false_or]
        rfl
      · have h4 : notUp x (y :: l) = true := by
          cases h5 : notUp x (y :: l) with
          | true => rfl
          | false =>
            exfalso
            have := (notUp_iff _ _).1 h5
            have := (List.pairwise_cons.1 (List.pairwise_cons.1 this).2).1
            exact hall fun z hz => by have := this z hz; omega
        rw [h4]
        have h5 : ¬ (∀ i, i < (y :: l).length - 1 → (y :: l).getD i 0 < (y :: l).getD (i + 1) 0) := fun hh => by
          apply hall
          have : ∀ i, i < (y :: l).length → y ≤ (y :: l).getD i 0 := fun i => by
            induction i with
            | zero => intro _; simp
            | succ i ih => intro hi; have := ih (by omega); have := hh i (by omega); omega
          intro z hz
          obtain ⟨i, hi, he⟩ := List.mem_iff_getElem.1 (List.mem_cons_of_mem y hz)
          have := this i hi
          simp only [List.getD_eq_getElem?_getD, List.getElem?_eq_getElem hi, Option.getD_some, he] at this
          omega
        symm
        rw [Bool.or_eq_true]
        right
        apply Classical.byContradiction
        intro h6
        apply h5
        intro i hi
        have h7 : ¬ (decide ((x :: y :: l).getD (i + 1 + 1) 0 ≤ (x :: y :: l).getD (i + 1) 0)) = true := fun e => h6 (List.any_eq_true.2 ⟨i, by simpa using hi, e⟩)
        simp only [List.getD_cons_succ] at h7
        have : ¬ ((y :: l).getD (i + 1) 0 ≤ (y :: l).getD i 0) := by simpa using h7
        omega
/-- the error of kept words -/
def Text.keptE (t : Text) (l : List Int) : Int :=
  if t.err ≠ 0 then t.err else if l.length = 0 then 2 else if l.any (absent t.len) then 1 else if notUp (-1) l then 4 else 0
theorem keptE_zero {t : Text} {l : List Int} (h : t.keptE l = 0) : t.err = 0 ∧ l.length ≠ 0 ∧ (∀ x ∈ l, 0 ≤ x ∧ x < (t.len : Int)) ∧ l.Pairwise (· < ·) := by
  unfold Text.keptE at h
  split at h
  · rename_i h1; exact absurd h h1
  · rename_i h1
    split at h
    · exact absurd h (by decide)
    · rename_i h2
      split at h
      · exact absurd h (by decide)
      · rename_i h3
        split at h
        · exact absurd h (by decide)
        · rename_i h4
          refine ⟨by simpa using h1, h2, fun x hx => ?_, ?_⟩
          · have h5 : absent t.len x = false := by
              cases h6 : absent t.len x
              · rfl
              · exact absurd (List.any_eq_true.2 ⟨x, hx, h6⟩) h3
            simp [absent, btw] at h5
            omega
          · have := (notUp_iff l (-1)).1 (by simpa using h4)
            exact (List.pairwise_cons.1 this).2
def paidN (ws : List Word) : Int := isum (ws.map fun x => if 3 < x.syl then 2 else 1)
theorem paidN_snoc (ws : List Word) (x : Word) : paidN (ws ++ [x]) = paidN ws + (if 3 < x.syl then 2 else 1) := by
  unfold paidN; rw [List.map_append, List.map_cons, List.map_nil, isum_snoc]
theorem paidN_bd (ws : List Word) : (ws.length : Int) ≤ paidN ws ∧ paidN ws ≤ (ws.length : Int) * 2 := by
  have := isum_bd (ws.map fun x => if 3 < x.syl then (2 : Int) else 1) 1 2 (fun x hx => by
    obtain ⟨y, _, rfl⟩ := List.mem_map.1 hx
    split <;> omega)
  rw [List.length_map] at this
  unfold paidN
  omega
def Text.priceE (t : Text) (p : Int) : Int := if t.err ≠ 0 then t.err else if btw p 1 100 then 0 else 3
def Text.priceV (t : Text) (p : Int) : Int := if t.priceE p = 0 then paidN t.words * p else 0
end Go.Proofs.Ytadnggecnjdhiaa.Tx
set_option linter.unusedSimpArgs false
set_option linter.unusedVariables false
namespace Go.Proofs.Ytadnggecnjdhiaa
open Go.RowKit Tx
attribute [local go_sem] Oper.semAt_some

set_option maxHeartbeats 400000 in
set_option maxRecDepth 100000 in
theorem errIfE_any (F : FuncId) (hF : Entered F) (E : Value) (q : Int → Bool) (xs : List Int) (p : Option Addr) (c : Nat) (n : Int) (w : World) (hl : xs.length ≤ 1000000) (hi : Ints w p xs) (hq : ∀ W, Below w.heap.size w W → ∀ u : Int, Calls Try.prog F #[E, .int .i64 u] W fun e w' => e = .returned (.bool (q u)) ∧ Below W.heap.size W w') :
    Calls Try.prog 105 #[.slice p xs.length c, .func (.func F) #[E] #[], .int .i64 n] w fun e w' => e = .returned (.int .i64 (errIf q xs n)) ∧ Below w.heap.size w w' := by
  have HI := Lib.hid hi
  have HQ := Lib.hid hq
  have HF := Lib.hid hF
  clear hi hq hF
  go_enter Try.func105, Try.ntmps105
  go_wp2
  go_loopw [11] (fun i wr => ∃ k : Nat, k ≤ xs.length ∧ i = .int .i64 k ∧ (xs.take k).any q = false ∧ Below w.heap.size w wr) (fun i _ => xs.length - (intOf i).toNat)
  case atStart => exact ⟨0, Nat.zero_le _, rfl, rfl, Below.refl _ _⟩
  case round =>
    obtain ⟨k, hk, rfl, hA, hB⟩ := hrel
    have HA := Lib.hid hA
    clear hA
    by_cases hlt : k < xs.length
    · obtain ⟨b, o, x, rfl, hb, hxx, c1⟩ := (HI.out.below hB).at hlt
      have HX := Lib.hid hxx
      have HB := Lib.hid hB
      have HASK := Lib.hid (HQ.out _ hB x)
      clear hxx hB
      go_wp2_with fail
      rw [HF.out, Oper.upon_enter]
      refine HASK.out.mono ?_
      rintro e w5 ⟨rfl, hB5⟩
      clear HASK
      cases hbad : q x with
      | true =>
        have HBAD := Lib.hid hbad
        clear hbad
        go_wp2
        go_ret
        exact ⟨by rw [errIf, if_pos (any_hit 0 hlt _ (by rw [← HX.out]; exact HBAD.out))]; rfl, join HB.out hB5⟩
      | false =>
        have HBAD := Lib.hid hbad
        clear hbad
        go_wp2
        go_roundw
        case rel => exact ⟨k + 1, by omega, by go_num, any_snoc 0 hlt _ HA.out (by rw [← HX.out]; exact HBAD.out), join HB.out hB5⟩
        case measure => simp [intOf]; omega
    · obtain rfl : k = xs.length := by omega
      go_wp2
      go_ret
      exact ⟨by have := HA.out; rw [List.take_length] at this; rw [errIf, this]; rfl, hB⟩

theorem notBeh1_any (x a : Int) (A : Nat) (w : World) (hA : w.heap[A]? = some (.cells #[.int .i64 a] 3 (0, 0))) :
    Calls Try.prog 169 #[.int .i64 x, .pointer (some ⟨A, 0, none⟩)] w fun e w' => e = .returned (.bool (decide (x ≤ a))) ∧ w.setCell ⟨A, 0, none⟩ (.int .i64 x) = w' := by
  have hAl := (Array.getElem?_eq_some_iff.1 hA).1
  have c0 := blk_cells hA 0 _ rfl
  have f0 : w.frozen? ⟨A, 0, none⟩ = false := by simp [World.frozen?, hA]
  clear hA
  by_cases h : x ≤ a
  · have h' : ¬ a < x := by omega
    have e0 : decide (x ≤ a) = true := by simpa using h
    rw [e0]
    clear e0 h
    go_enter Try.func169, Try.ntmps169
    go_wp2
    go_ret
    exact ⟨rfl, rfl⟩
  · have h' : a < x := by omega
    have e0 : decide (x ≤ a) = false := by simpa using h
    rw [e0]
    clear e0 h
    go_enter Try.func169, Try.ntmps169
    go_wp2
    go_ret
    exact ⟨rfl, rfl⟩
theorem entered_notBeh1 : Entered 169 := fun args W => by kernel_rfl
theorem notBeh_any (w : World) :
    Calls Try.prog 154 #[] w fun e w' => e = .returned (.func (.func 169) #[] #[.pointer (some ⟨w.heap.size, 0, none⟩)]) ∧ w.alloc (.cells #[.int .i64 (-1)] 3) = w' := by
  have hmf := mf
  go_enter Try.func154, Try.ntmps154
  go_wp2
  go_ret
  exact ⟨rfl, rfl⟩
def lastI (xs : List Int) (k : Nat) : Int := (xs.take k).getLast?.getD (-1)
theorem lastI_succ {xs : List Int} {k : Nat} (h : k < xs.length) : lastI xs (k + 1) = xs.getD k 0 := by
  unfold lastI; rw [take_snocD 0 h]; simp
theorem notUp_take {xs : List Int} {k : Nat} (h : k < xs.length) (h0 : notUp (-1) (xs.take k) = false) : notUp (-1) (xs.take (k + 1)) = decide (xs.getD k 0 ≤ lastI xs k) := by
  rw [take_snocD 0 h, notUp_snoc, h0, Bool.false_or]; rfl
theorem notUp_more : ∀ (xs ys : List Int) (a : Int), notUp a xs = true → notUp a (xs ++ ys) = true
  | [], _, _, h => by simp [notUp] at h
  | x :: xs, ys, a, h => by
    rw [notUp, Bool.or_eq_true] at h
    rw [List.cons_append, notUp, Bool.or_eq_true]
    exact h.imp id (notUp_more xs ys x)
def upErr (xs : List Int) (n : Int) : Int := if notUp (-1) xs then n else 0
set_option maxHeartbeats 400000 in
set_option maxRecDepth 100000 in
theorem errUp_any (xs : List Int) (p : Option Addr) (c : Nat) (n : Int) (A : Nat) (w0 w : World) (hl : xs.length ≤ 1000000) (hi : Ints w0 p xs) (hb : Below w0.heap.size w0 w) (hz : w0.heap.size ≤ A) (hA : w.heap[A]? = some (.cells #[.int .i64 (-1)] 3 (0, 0))) :
    Calls Try.prog 105 #[.slice p xs.length c, .func (.func 169) #[] #[.pointer (some ⟨A, 0, none⟩)], .int .i64 n] w fun e w' => e = .returned (.int .i64 (upErr xs n)) ∧ Below w0.heap.size w0 w' := by
  have HI := Lib.hid hi
  have hF := entered_notBeh1
  have HF := Lib.hid hF
  have HB := Lib.hid hb
  have HA := Lib.hid hA
  clear hi hF hb hA
  go_enter Try.func105, Try.ntmps105
  go_wp2
  go_loopw [11] (fun i wr => ∃ k : Nat, k ≤ xs.length ∧ i = .int .i64 k ∧ Hid (notUp (-1) (xs.take k) = false) ∧ Hid (wr.heap[A]? = some (.cells #[.int .i64 (lastI xs k)] 3 (0, 0))) ∧ Hid (Below w0.heap.size w0 wr)) (fun i _ => xs.length - (intOf i).toNat)
  case atStart => exact ⟨0, Nat.zero_le _, rfl, Lib.hid rfl, HA, HB⟩
  case round =>
    clear HA HB
    obtain ⟨k, hk, rfl, HU, HA, HB⟩ := hrel
    by_cases hlt : k < xs.length
    · obtain ⟨b, o, x, rfl, hb, hxx, c1⟩ := (HI.out.below HB.out).at hlt
      have HX := Lib.hid hxx
      have HASK := Lib.hid (notBeh1_any x (lastI xs k) A wr HA.out)
      clear hxx
      go_wp2_with fail
      refine HASK.out.mono ?_
      rintro e w5 ⟨rfl, rfl⟩
      have HB5 := Lib.hid (HB.out.setCell (p := ⟨A, 0, none⟩) hz (.int .i64 x))
      have HA5 := Lib.hid (show (wr.setCell ⟨A, 0, none⟩ (.int .i64 x)).heap[A]? = some (.cells #[.int .i64 x] 3 (0, 0)) from heap_set_same _ HA.out)
      clear HASK
      cases hbad : decide (x ≤ lastI xs k) with
      | true =>
        have HBAD := Lib.hid hbad
        clear hbad
        go_wp2
        go_ret
        refine ⟨?_, HB5.out⟩
        have h1 := notUp_take hlt HU.out
        rw [← HX.out, HBAD.out] at h1
        have h2 := notUp_more _ (xs.drop (k + 1)) _ h1
        rw [List.take_append_drop] at h2
        rw [upErr, if_pos h2]; rfl
      | false =>
        have HBAD := Lib.hid hbad
        clear hbad
        go_wp2
        go_roundw
        case rel => exact ⟨k + 1, by omega, by go_num, Lib.hid (by rw [notUp_take hlt HU.out, ← HX.out]; exact HBAD.out), Lib.hid (by rw [lastI_succ hlt, ← HX.out]; exact HA5.out), HB5⟩
        case measure => simp [intOf]; omega
    · obtain rfl : k = xs.length := by omega
      go_wp2
      go_ret
      refine ⟨?_, HB.out⟩
      have := HU.out
      rw [List.take_length] at this
      rw [upErr, this]; rfl

theorem absE_any (n c : Nat) (pw : Option Addr) (v1 v2 v3 : Value) (xs : List Int) (p : Option Addr) (cl : Nat) (w : World) (hn : n ≤ 1000000) (hl : xs.length ≤ 1000000) (hi : Ints w p xs) :
    Calls Try.prog 105 #[.slice p xs.length cl, .func (.func 90) #[.agg #[.slice pw n c, v1, v2, v3]] #[], .int .i64 1] w fun e w' => e = .returned (.int .i64 (errIf (absent n) xs 1)) ∧ Below w.heap.size w w' :=
  errIfE_any 90 entered_absent _ (absent n) xs p cl 1 w hl hi (fun W _ u => absent_b n c pw v1 v2 v3 u W (by omega))
theorem firstErr2 (a b : Int) : firstErr [a, b] = if a = 0 then b else a := by
  unfold firstErr
  by_cases h : a = 0
  · subst h
    by_cases h2 : b = 0
    · subst h2; rfl
    · rw [if_pos rfl, List.find?_cons_of_neg (by simp), List.find?_cons_of_pos (by simpa using h2)]; rfl
  · rw [if_neg h, List.find?_cons_of_pos (by simpa using h)]; rfl
theorem ints_two (w : World) (a b : Int) (T : TypeId) : Ints (w.alloc (.cells #[.int .i64 a, .int .i64 b] T)) (some ⟨w.heap.size, 0, none⟩) [a, b] := by
  refine .inr ⟨_, _, rfl, by simp, fun i hi => ?_⟩
  have hl := heap_last w (.cells #[.int .i64 a, .int .i64 b] T)
  have hi : i < 2 := hi
  match i, hi with
  | 0, _ => exact blk_cells hl 0 _ rfl
  | 1, _ => exact blk_cells hl 1 _ rfl
/-- the error of kept words behind that of the text -/
def keptB (n : Nat) (l : List Int) : Int := if errIf (absent n) l 1 = 0 then upErr l 4 else errIf (absent n) l 1
def wkOf (t : Text) (pw pt : Option Addr) (cw ct : Nat) : Value := .agg #[.slice pw t.words.length cw, .slice pt t.turns.length ct, .int .i64 t.breath, .func (.func 138) #[.agg #[.slice pw t.words.length cw, .slice pt t.turns.length ct, .int .i64 t.breath, .nilFunc]] #[]]
def wkNo : Value := .agg #[.slice none 0 0, .slice none 0 0, .int .i64 0, .nilFunc]
theorem keptE_eq (t : Text) (l : List Int) : t.keptE l = if t.err ≠ 0 then t.err else if l.length = 0 then 2 else keptB t.words.length l := by
  unfold Text.keptE keptB errIf upErr Text.len
  by_cases h : l.any (absent t.words.length) = true
  · simp [h]
  · simp [h]

set_option maxHeartbeats 1600000 in
theorem openKept_bad0 (t : Text) (l : List Int) (he : t.err ≠ 0) (hl1 : t.words.length ≤ 1000000) (hl2 : t.turns.length ≤ 1000000) (pw pt pl : Option Addr) (cw ct cl : Nat) (w : World) (hW : TxAt w t pw pt) :
    Calls Try.prog 117 #[.agg #[.slice pw t.words.length cw, .slice pt t.turns.length ct, .int .i64 t.breath], .slice pl l.length cl] w fun e w' =>
      e = .returned (.tuple #[wkNo, .int .i64 t.err]) ∧ Below w.heap.size w w' := by
  have HS := Lib.hid (fun W (h : Below w.heap.size w W) => open_bad t he hl1 hl2 pw pt cw ct W (hW.below h))
  have HE : (t.err != 0) = true := by simpa using he
  clear hW he
  generalize t.err = er at HE HS ⊢
  go_enter Try.func117, Try.ntmps117
  go_wp2_with fail
  refine (HS.out _ ((below1 _ _).alloc (by simp) _)).mono ?_
  rintro e w5 ⟨rfl, hB5⟩
  have hz5 : w.heap.size + 1 < w5.heap.size := by have := hB5.size; simp at this; omega
  have hy5 : w.heap.size < w5.heap.size := by omega
  have hblk : w5.heap[w.heap.size + 1]? = some (.cells #[.slice none 0 0, .slice none 0 0, .int .i64 0, .nilFunc] 125 (0, 0)) := by
    rw [hB5.block _ (by simp)]
    have := heap_last (w.alloc (.cells #[.slice pw t.words.length cw, .slice pt t.turns.length ct, .int .i64 t.breath] 25)) (.cells #[.slice none 0 0, .slice none 0 0, .int .i64 0, .nilFunc] 125)
    rwa [World.size_alloc] at this
  have HB5 := Lib.hid (join ((below1 _ _).alloc (by simp) _) hB5)
  clear hB5
  have r0 := blk_cells hblk 0 _ rfl
  have r1 := blk_cells hblk 1 _ rfl
  have r2 := blk_cells hblk 2 _ rfl
  have r3 := blk_cells hblk 3 _ rfl
  have z : ∀ i, w5.frozen? ⟨w.heap.size + 1, i, none⟩ = false := fun i => by simp [World.frozen?, hblk]
  clear hblk
  go_wp2
  refine bodyPost_ret (v := .tuple #[wkNo, .int .i64 er]) (by simp [results, Try.results117, wkNo, go_sem, hz5, hy5, r0, r1, r2, r3]) rfl ⟨rfl, ?_⟩
  have hz9 := HB5.out.size
  repeat' (first | exact HB5.out | apply belS | apply belA | apply belD)
  all_goals first | omega | (simp; done) | (simp; omega)
set_option maxHeartbeats 1600000 in
theorem openKept_bad1 (t : Text) (l : List Int) (he : t.err = 0) (hll : l.length = 0) (pw pt pl : Option Addr) (cw ct cl : Nat) (w : World) (hW : TxAt w t pw pt) :
    Calls Try.prog 117 #[.agg #[.slice pw t.words.length cw, .slice pt t.turns.length ct, .int .i64 t.breath], .slice pl l.length cl] w fun e w' =>
      e = .returned (.tuple #[wkNo, .int .i64 2]) ∧ Below w.heap.size w w' := by
  have HS := Lib.hid (fun W (h : Below w.heap.size w W) => open_ok t he pw pt cw ct W (hW.below h))
  clear hW he
  rw [hll]
  go_enter Try.func117, Try.ntmps117
  go_wp2_with fail
  refine (HS.out _ ((below1 _ _).alloc (by simp) _)).mono ?_
  rintro e w5 ⟨rfl, hB5⟩
  have hz5 : w.heap.size + 1 < w5.heap.size := by have := hB5.size; simp at this; omega
  have hy5 : w.heap.size < w5.heap.size := by omega
  have hblk : w5.heap[w.heap.size + 1]? = some (.cells #[.slice none 0 0, .slice none 0 0, .int .i64 0, .nilFunc] 125 (0, 0)) := by
    rw [hB5.block _ (by simp)]
    have := heap_last (w.alloc (.cells #[.slice pw t.words.length cw, .slice pt t.turns.length ct, .int .i64 t.breath] 25)) (.cells #[.slice none 0 0, .slice none 0 0, .int .i64 0, .nilFunc] 125)
    rwa [World.size_alloc] at this
  have HB5 := Lib.hid (join ((below1 _ _).alloc (by simp) _) hB5)
  clear hB5
  have r0 := blk_cells hblk 0 _ rfl
  have r1 := blk_cells hblk 1 _ rfl
  have r2 := blk_cells hblk 2 _ rfl
  have r3 := blk_cells hblk 3 _ rfl
  have z : ∀ i, w5.frozen? ⟨w.heap.size + 1, i, none⟩ = false := fun i => by simp [World.frozen?, hblk]
  clear hblk
  go_wp2
  refine bodyPost_ret (v := .tuple #[wkNo, .int .i64 2]) (by simp [results, Try.results117, wkNo, go_sem, hz5, hy5, r0, r1, r2, r3]) rfl ⟨rfl, ?_⟩
  have hz9 := HB5.out.size
  repeat' (first | exact HB5.out | apply belS | apply belA | apply belD)
  all_goals first | omega | (simp; done) | (simp; omega)
set_option maxHeartbeats 1600000 in
theorem openKept_two (t : Text) (l : List Int) (he : t.err = 0) (h0 : l.length ≠ 0) (hll : l.length ≤ 1000000) (pw pt pl : Option Addr) (cw ct cl : Nat) (w : World) (hW : TxAt w t pw pt) (hL : Ints w pl l) :
    Calls Try.prog 117 #[.agg #[.slice pw t.words.length cw, .slice pt t.turns.length ct, .int .i64 t.breath], .slice pl l.length cl] w fun e w' =>
      e = .returned (.tuple #[if keptB t.words.length l = 0 then wkOf t pw pt cw ct else wkNo, .int .i64 (keptB t.words.length l)]) ∧ Below w.heap.size w w' := by
  have hn := (err_ok he).n12
  have HS := Lib.hid (fun W (h : Below w.heap.size w W) => open_ok t he pw pt cw ct W (hW.below h))
  have HA := Lib.hid (fun W (h : Below w.heap.size w W) => absE_any t.words.length cw pw (.slice pt t.turns.length ct) (.int .i64 t.breath) (.func (.func 138) #[.agg #[.slice pw t.words.length cw, .slice pt t.turns.length ct, .int .i64 t.breath, .nilFunc]] #[]) l pl cl W (by omega) hll (hL.below h))
  have HU := Lib.hid (fun W (h : Below w.heap.size w W) => errUp_any l pl cl 4 W.heap.size W (W.alloc (.cells #[.int .i64 (-1)] 3)) hll (hL.below h) (below1 _ _) (Nat.le_refl _) (heap_last _ _))
  have HF2 := Lib.hid (show keptB t.words.length l = firstErr [errIf (absent t.words.length) l 1, upErr l 4] by rw [firstErr2]; rfl)
  generalize keptB t.words.length l = kb at HF2 ⊢
  have HV : Hid ((kb = 0 ∧ (if kb = 0 then wkOf t pw pt cw ct else wkNo) = wkOf t pw pt cw ct) ∨ (kb ≠ 0 ∧ (if kb = 0 then wkOf t pw pt cw ct else wkNo) = wkNo)) := by
    by_cases h : kb = 0
    · exact Lib.hid (.inl ⟨h, if_pos h⟩)
    · exact Lib.hid (.inr ⟨h, if_neg h⟩)
  generalize (if kb = 0 then wkOf t pw pt cw ct else wkNo) = vv at HV ⊢
  generalize errIf (absent t.words.length) l 1 = e1 at HA HF2
  generalize upErr l 4 = e2 at HU HF2
  have h0' : ((l.length : Int) == 0) = false := by rw [beq_eq_false_iff_ne]; omega
  have hmf := mf
  clear hW he hL
  go_enter Try.func117, Try.ntmps117
  go_wp2_with fail
  refine (HS.out _ ((below1 _ _).alloc (by simp) _)).mono ?_
  rintro e w5 ⟨rfl, hB5⟩
  have hz5 : w.heap.size + 1 < w5.heap.size := by have := hB5.size; simp at this; omega
  have hy5 : w.heap.size < w5.heap.size := by omega
  have hblk : w5.heap[w.heap.size + 1]? = some (.cells #[.slice none 0 0, .slice none 0 0, .int .i64 0, .nilFunc] 125 (0, 0)) := by
    rw [hB5.block _ (by simp)]
    have := heap_last (w.alloc (.cells #[.slice pw t.words.length cw, .slice pt t.turns.length ct, .int .i64 t.breath] 25)) (.cells #[.slice none 0 0, .slice none 0 0, .int .i64 0, .nilFunc] 125)
    rwa [World.size_alloc] at this
  have HB5 := Lib.hid (join ((below1 _ _).alloc (by simp) _) hB5)
  have HBLK := Lib.hid hblk
  clear hB5 hblk
  go_wp2_with fail
  refine (HA.out _ (join HB5.out (below1 _ _))).mono ?_
  rintro e w6 ⟨rfl, hB6⟩
  have hX6 := hB6.block w5.heap.size (by simp)
  rw [heap_last] at hX6
  have HX6 := Lib.hid hX6
  have hblk6 := (hB6.block (w.heap.size + 1) (by simp; omega)).trans ((Below.heap_alloc _ _ _ hz5).trans HBLK.out)
  have HBLK := Lib.hid hblk6
  have HB6 := Lib.hid (join (join HB5.out (below1 _ _)) hB6)
  have hz6 : w5.heap.size < w6.heap.size := by have := hB6.size; simp at this; omega
  clear hB6 hX6 hblk6
  go_wp2_with fail
  refine (notBeh_any w6).mono ?_
  rintro e w7 ⟨rfl, rfl⟩
  go_wp2_with fail
  refine (HU.out w6 HB6.out).mono ?_
  rintro e w8 ⟨rfl, hB8⟩
  have HX8 := (hB8.block w5.heap.size hz6).trans HX6.out
  have hs8 := hB8.size
  have hb8 := (hB8.block (w.heap.size + 1) (by omega)).trans HBLK.out
  have HBLK := Lib.hid hb8
  have HX8 := Lib.hid HX8
  have HB8 := Lib.hid (join HB6.out hB8)
  have hz8 : w5.heap.size < w8.heap.size := by omega
  clear hB8 hb8 hs8 HX6 HB6
  go_wp2_with fail
  refine (firstError_any [e1, e2] _ _ _ (by simp) (ints_two w8 e1 e2 _)).mono ?_
  rintro e w9 ⟨rfl, rfl⟩
  rw [← HF2.out]
  clear HF2
  have q1 : w.heap.size + 1 < w8.heap.size := by omega
  have q2 : w.heap.size < w8.heap.size := by omega
  have hne : ¬ w.heap.size + 1 = w5.heap.size := by omega
  have hne2 : ¬ w5.heap.size = w.heap.size + 1 := by omega
  have r0 := blk_cells HBLK.out 0 _ rfl
  have r1 := blk_cells HBLK.out 1 _ rfl
  have r2 := blk_cells HBLK.out 2 _ rfl
  have r3 := blk_cells HBLK.out 3 _ rfl
  have s0 := blk_cells HX8.out 0 _ rfl
  have s1 := blk_cells HX8.out 1 _ rfl
  have s2 := blk_cells HX8.out 2 _ rfl
  have s3 := blk_cells HX8.out 3 _ rfl
  have z : ∀ i, w8.frozen? ⟨w.heap.size + 1, i, none⟩ = false := fun i => by simp [World.frozen?, HBLK.out]
  rcases HV.out with ⟨hkb, hvv⟩ | ⟨hkb, hvv⟩
  · subst hkb
    subst hvv
    go_wp2
    refine bodyPost_ret (v := .tuple #[wkOf t pw pt cw ct, .int .i64 0]) (by simp [results, Try.results117, wkOf, go_sem, q1, q2, hz8, hne, hne2, r0, r1, r2, r3, s0, s1, s2, s3]) rfl ⟨rfl, ?_⟩
    have hz9 := HB8.out.size
    repeat' (first | exact HB8.out | apply belS | apply belA | apply belD)
    all_goals first | omega | (simp; done) | (simp; omega)
  · have hkb' : (kb != 0) = true := by simpa using hkb
    subst hvv
    clear hkb
    go_wp2
    refine bodyPost_ret (v := .tuple #[wkNo, .int .i64 kb]) (by simp [results, Try.results117, wkNo, go_sem, q1, q2, hz8, hne, hne2, r0, r1, r2, r3, s0, s1, s2, s3]) rfl ⟨rfl, ?_⟩
    have hz9 := HB8.out.size
    repeat' (first | exact HB8.out | apply belS | apply belA | apply belD)
    all_goals first | omega | (simp; done) | (simp; omega)
/-- openKept, of any words -/
theorem openKept_any (t : Text) (l : List Int) (hl1 : t.words.length ≤ 1000000) (hl2 : t.turns.length ≤ 1000000) (hll : l.length ≤ 1000000) (pw pt pl : Option Addr) (cw ct cl : Nat) (w : World) (hW : TxAt w t pw pt) (hL : Ints w pl l) :
    Calls Try.prog 117 #[.agg #[.slice pw t.words.length cw, .slice pt t.turns.length ct, .int .i64 t.breath], .slice pl l.length cl] w fun e w' =>
      e = .returned (.tuple #[if t.keptE l = 0 then wkOf t pw pt cw ct else wkNo, .int .i64 (t.keptE l)]) ∧ Below w.heap.size w w' := by
  by_cases he : t.err = 0
  · by_cases h0 : l.length = 0
    · have h : t.keptE l = 2 := by rw [keptE_eq, if_neg (by simpa using he), if_pos h0]
      rw [h]
      exact openKept_bad1 t l he h0 pw pt pl cw ct cl w hW
    · have h : t.keptE l = keptB t.words.length l := by rw [keptE_eq, if_neg (by simpa using he), if_neg h0]
      rw [h]
      exact openKept_two t l he h0 hll pw pt pl cw ct cl w hW hL
  · have h : t.keptE l = t.err := by rw [keptE_eq, if_pos he]
    rw [h, if_neg he]
    exact openKept_bad0 t l he hl1 hl2 pw pt pl cw ct cl w hW
end Go.Proofs.Ytadnggecnjdhiaa
set_option linter.unusedSimpArgs false
set_option linter.unusedVariables false
namespace Go.Proofs.Ytadnggecnjdhiaa
open Go.RowKit Tx
attribute [local go_sem] Oper.semAt_some

theorem keptWords1_any (x : Word) (w : World) :
    Calls Try.prog 158 #[.agg #[.int .i64 x.syl, .int .i64 x.wt, .bool x.stop]] w fun e w' => e = .returned (.bool x.stop) ∧ Below w.heap.size w w' := by
  obtain ⟨a, b, c⟩ := x
  dsimp only
  go_enter Try.func158, Try.ntmps158
  go_wp2
  go_ret
  exact ⟨rfl, below1 _ _⟩
theorem entered_keptWords1 : Entered 158 := fun args W => by kernel_rfl
def idxW (p : Word → Bool) (ts : List Word) (z : Int) : Prop := (z = -1 ∧ ts.any p = false) ∨ (0 ≤ z ∧ ts.any p = true)
set_option maxHeartbeats 1000000 in
set_option maxRecDepth 100000 in
theorem indexFuncW (F : FuncId) (hF : Entered F) (q : Word → Bool) (ts : List Word) (p : Option Addr) (c : Nat) (w : World) (hl : ts.length ≤ 1000000) (hi : Wds w p ts) (hq : ∀ W, Below w.heap.size w W → ∀ u ∈ ts, Calls Try.prog F #[.agg #[.int .i64 u.syl, .int .i64 u.wt, .bool u.stop]] W fun e w' => e = .returned (.bool (q u)) ∧ Below W.heap.size W w') :
    Calls Try.prog 170 #[.slice p ts.length c, .func (.func F) #[] #[]] w fun e w' => ∃ z : Int, e = .returned (.int .i64 z) ∧ idxW q ts z ∧ Below w.heap.size w w' := by
  have HI := Lib.hid hi
  have HQ := Lib.hid hq
  have HF := Lib.hid hF
  clear hi hq hF
  go_enter Try.func170, Try.ntmps170
  go_wp2_with fail
  go_loopw [5, 8] (fun u5 i wr => ∃ k : Nat, k ≤ ts.length ∧ i = .int .i64 k ∧ (ts.take k).any q = false ∧ Below w.heap.size w wr) (fun _ i _ => ts.length - (intOf i).toNat)
  case atStart => exact ⟨0, Nat.zero_le _, rfl, rfl, Below.refl _ _⟩
  case round =>
    obtain ⟨k, hk, rfl, hA, hB⟩ := hrel
    have HA := Lib.hid hA
    clear hA
    by_cases hlt : k < ts.length
    · have hlt' : (k : Int) < ts.length := by omega
      obtain ⟨b, o, x, rfl, hb, hxx, c1, c2, c3⟩ := (HI.out.below hB).at hlt
      have HX := Lib.hid hxx
      have HB := Lib.hid hB
      have HASK := Lib.hid (HQ.out _ hB x (by rw [hxx]; exact getD_mem default hlt))
      clear hxx hB
      go_wp2_with fail
      rw [HF.out, Oper.upon_enter]
      refine HASK.out.mono ?_
      rintro e w5 ⟨rfl, hB5⟩
      have HB5 := Lib.hid (join HB.out hB5)
      clear HASK hB5
      cases hbad : q x with
      | true =>
        have HBAD := Lib.hid hbad
        clear hbad
        go_wp2
        go_ret
        exact ⟨_, rfl, .inr ⟨by omega, any_hit default hlt _ (by rw [← HX.out]; exact HBAD.out)⟩, HB5.out⟩
      | false =>
        have HBAD := Lib.hid hbad
        clear hbad
        go_wp2
        go_roundw
        case rel => exact ⟨k + 1, by omega, by go_num, any_snoc default hlt _ HA.out (by rw [← HX.out]; exact HBAD.out), HB5.out⟩
        case measure => simp [intOf]; omega
    · obtain rfl : k = ts.length := by omega
      have HB := Lib.hid hB
      clear hB
      go_wp2
      go_ret
      exact ⟨_, rfl, .inl ⟨rfl, by have := HA.out; rwa [List.take_length] at this⟩, HB.out⟩

set_option maxHeartbeats 1000000 in
set_option maxRecDepth 100000 in
theorem containsFuncW (F : FuncId) (hF : Entered F) (q : Word → Bool) (ts : List Word) (p : Option Addr) (c : Nat) (w : World) (hl : ts.length ≤ 1000000) (hi : Wds w p ts) (hq : ∀ W, Below w.heap.size w W → ∀ u ∈ ts, Calls Try.prog F #[.agg #[.int .i64 u.syl, .int .i64 u.wt, .bool u.stop]] W fun e w' => e = .returned (.bool (q u)) ∧ Below W.heap.size W w') :
    Calls Try.prog 157 #[.slice p ts.length c, .func (.func F) #[] #[]] w fun e w' => e = .returned (.bool (ts.any q)) ∧ Below w.heap.size w w' := by
  have HI := Lib.hid (indexFuncW F hF q ts p c w hl hi hq)
  clear hi hq
  go_enter Try.func157, Try.ntmps157
  go_wp2_with fail
  refine HI.out.mono ?_
  rintro e w5 ⟨z, rfl, hz, hB5⟩
  rcases hz with ⟨rfl, ha⟩ | ⟨h0, ha⟩
  · have HA := Lib.hid ha
    clear ha
    go_wp2
    go_ret
    exact ⟨by rw [HA.out]; rfl, hB5⟩
  · have HA := Lib.hid ha
    have hz0 : decide (0 ≤ z) = true := by simpa using h0
    clear ha
    go_wp2
    go_ret
    exact ⟨by rw [HA.out]; rfl, hB5⟩

/-- the row of a shorter text's words behind k rounds -/
def kwTo (ws : List Word) (l : List Int) (n : Int) (k : Nat) : List Word := (List.range l.length).map fun i => if i < k then shortAt ws l n i else ⟨0, 0, false⟩
theorem kwTo_len (ws : List Word) (l : List Int) (n : Int) (k : Nat) : (kwTo ws l n k).length = l.length := by simp [kwTo]
theorem kwTo_succ (ws : List Word) (l : List Int) (n : Int) {k : Nat} (hk : k < l.length) : (kwTo ws l n k).set k (shortAt ws l n k) = kwTo ws l n (k + 1) := by
  apply List.ext_getElem?
  intro i
  rw [List.getElem?_set, kwTo_len]
  unfold kwTo
  rw [List.getElem?_map, List.getElem?_map]
  by_cases h : k = i
  · subst h; rw [if_pos rfl, if_pos hk]; simp [hk]
  · rw [if_neg h]
    by_cases hi : i < l.length
    · rw [List.getElem?_range hi]
      simp only [Option.map_some]
      by_cases g : i < k
      · rw [if_pos g, if_pos (by omega)]
      · rw [if_neg g, if_neg (by omega)]
    · rw [List.getElem?_eq_none (by simpa using hi)]; rfl
theorem kwTo_full (ws : List Word) (l : List Int) (n : Int) : kwTo ws l n l.length = shortW ws l n := by
  unfold kwTo shortW
  apply List.map_congr_left
  intro i hi
  rw [if_pos (by simpa using hi)]
theorem kwTo_zero (ws : List Word) (l : List Int) (n : Int) : kwTo ws l n 0 = List.replicate l.length ⟨0, 0, false⟩ := by
  apply List.ext_getElem?
  intro i
  unfold kwTo
  by_cases hi : i < l.length
  · simp [hi]
  · rw [List.getElem?_eq_none (by simpa using hi), List.getElem?_eq_none (by simpa using hi)]
theorem made_words (n : Nat) : madeCells #[.int .i64 0, .int .i64 0, .bool false] (n * 3) = (wcells (List.replicate n ⟨0, 0, false⟩)).toArray := by
  apply Array.ext_getElem?
  intro i
  unfold madeCells
  have e : (wcells (List.replicate n ⟨0, 0, false⟩)).toArray[i]? = (wcells (List.replicate n ⟨0, 0, false⟩))[i]? := List.getElem?_toArray
  rw [Array.getElem?_map, e]
  by_cases hi : i < n * 3
  · have hq : i / 3 < (List.replicate n (⟨0, 0, false⟩ : Word)).length := by rw [List.length_replicate]; omega
    have hdm : i = i / 3 * 3 + i % 3 := by omega
    have h1 := flat3_get default wcell (fun _ => rfl) (List.replicate n (⟨0, 0, false⟩ : Word)) (i / 3) (i % 3) hq (by omega)
    rw [← hdm] at h1
    unfold wcells
    rw [h1]
    have e0 : (List.replicate n (⟨0, 0, false⟩ : Word)).getD (i / 3) default = ⟨0, 0, false⟩ := by
      rw [List.length_replicate] at hq
      simp [hq]
    rw [e0]
    have hr : i % 3 = 0 ∨ i % 3 = 1 ∨ i % 3 = 2 := by omega
    simp only [Array.getElem?_range, hi]
    rcases hr with h | h | h <;> simp [h, wcell]
  · rw [List.getElem?_eq_none (by rw [wcells_len, List.length_replicate]; omega)]
    simp [hi]
theorem make_words (n : Nat) (hn : n ≤ 1000000) (W : World) : (Instr.makeSlice 22 (.int .i64 (n : Int)) (.int .i64 (n : Int))).run Try.prog W = .ok (.slice (some ⟨W.heap.size, 0, none⟩) n n) (W.alloc (.cells (wcells (List.replicate n ⟨0, 0, false⟩)).toArray 77)) := by
  obtain ⟨i0, hi0, hz0, hz1, hz2⟩ := info_parts A_infoWd
  have h := run_make (P := Try.prog) W 22 77 i0 (.agg #[.int .i64 0, .int .i64 0, .bool false]) A_undWs hi0 hz0 .i64 .i64 n n (by omega) (by omega) (by rw [hz2]; omega) (by omega)
  rw [hz1] at h
  rw [h, Int.toNat_natCast]
  show Result.ok _ (W.alloc (.cells (madeCells #[.int .i64 0, .int .i64 0, .bool false] (n * 3)) _)) = _
  rw [made_words]
/-- a word that is laid, and its stop once more -/
theorem wset (ws : List Word) (k : Nat) (hk : k < ws.length) (a b : Int) (c d : Bool) :
    ((((wcells ws).toArray.setIfInBounds (k * 3) (.int .i64 a)).setIfInBounds (k * 3 + 1) (.int .i64 b)).setIfInBounds (k * 3 + 2) (.bool c)).setIfInBounds (k * 3 + 2) (.bool d) = (wcells (ws.set k ⟨a, b, d⟩)).toArray := by
  apply Array.ext_getElem?
  intro j
  have hL := wcells_len ws
  simp only [Array.getElem?_setIfInBounds, Array.size_setIfInBounds, List.size_toArray, List.getElem?_toArray]
  rw [hL]
  by_cases hj : j < ws.length * 3
  · have hdm : j = j / 3 * 3 + j % 3 := by omega
    have hq : j / 3 < ws.length := by omega
    have f1 := flat3_get default wcell (fun _ => rfl) ws (j / 3) (j % 3) hq (by omega)
    have f2 := flat3_get default wcell (fun _ => rfl) (ws.set k ⟨a, b, d⟩) (j / 3) (j % 3) (by rw [List.length_set]; exact hq) (by omega)
    rw [← hdm] at f1 f2
    unfold wcells
    rw [f1, f2]
    by_cases hqk : j / 3 = k
    · subst hqk
      have e0 : (ws.set (j / 3) ⟨a, b, d⟩).getD (j / 3) default = ⟨a, b, d⟩ := by simp [hk]
      rw [e0]
      have hr : j % 3 = 0 ∨ j % 3 = 1 ∨ j % 3 = 2 := by omega
      rcases hr with h | h | h
      · rw [if_neg (by omega), if_neg (by omega), if_neg (by omega), if_pos (by omega), if_pos (by omega), h]; rfl
      · rw [if_neg (by omega), if_neg (by omega), if_pos (by omega), if_pos (by omega), h]; rfl
      · rw [if_pos (by omega), if_pos (by omega), h]; rfl
    · have e0 : (ws.set k ⟨a, b, d⟩).getD (j / 3) default = ws.getD (j / 3) default := by
        simp [List.getElem?_set, Ne.symm hqk]
      rw [e0, if_neg (by omega), if_neg (by omega), if_neg (by omega), if_neg (by omega)]
  · rw [if_neg (by omega), if_neg (by omega), if_neg (by omega), if_neg (by omega)]
    rw [List.getElem?_eq_none (by rw [wcells_len]; omega), List.getElem?_eq_none (by rw [wcells_len, List.length_set]; omega)]
/-- a row of words that is laid whole, as one that is owned -/
theorem own_words {w : World} {base A : Nat} {ws : List Word} {n : Nat} (hn : n = ws.length) (hb : base ≤ A) (hm : n ≤ maxLen) (h : w.heap[A]? = some (.cells (wcells ws).toArray 77 (0, 0))) :
    w.ownsRow base 77 3 (.slice (some ⟨A, 0, none⟩) n n) n (wcells ws) := by
  subst hn
  refine ⟨wcells_len ws, .inr ⟨A, ws.length, (wcells ws).toArray, rfl, hb, h, Nat.le_refl _, hm, ?_, ?_⟩⟩
  · rw [List.size_toArray, wcells_len]
  · rw [← wcells_len, List.take_length]
theorem wds_slice {w : World} {b o : Nat} {ws : List Word} (x y : Nat) (hxy : x ≤ y) (hy : y ≤ ws.length) (h : Wds w (some ⟨b, o, none⟩) ws) : Wds w (some ⟨b, o + x * 3, none⟩) (slice ws x y) := by
  have hlen : (slice ws x y).length = y - x := slice_len ws (a := x) hy
  rcases h with rfl | ⟨b', o', hp, hb, hc⟩
  · exact .inl (by simp [slice])
  · injection hp with hp; injection hp with h1 h2 _
    subst h1; subst h2
    refine .inr ⟨b, o + x * 3, rfl, hb, fun i hi => ?_⟩
    rw [hlen] at hi
    have e : (slice ws x y).getD i default = ws.getD (x + i) default := slice_getD _ _ hi hy
    rw [e]
    have := hc (x + i) (by omega)
    rw [show o + x * 3 + i * 3 = o + (x + i) * 3 by omega]
    exact this

set_option maxHeartbeats 4000000 in
set_option maxRecDepth 100000 in
theorem keptWords_any (t : Text) (ok : Text.Ok t) (l : List Int) (hll : l.length ≤ 100000) (hx : ∀ x ∈ l, 0 ≤ x ∧ x < (t.words.length : Int)) (ha : l.Pairwise (· < ·)) (pw pl : Option Addr) (cw cl : Nat) (hcw : t.words.length ≤ cw ∧ cw ≤ maxLen) (v1 v2 v3 : Value) (w : World) (hW : Wds w pw t.words) (hL : Ints w pl l) :
    Calls Try.prog 122 #[.agg #[.slice pw t.words.length cw, v1, v2, v3], .slice pl l.length cl] w fun e w' => ∃ A, e = .returned (.slice (some ⟨A, 0, none⟩) l.length l.length) ∧ w'.ownsRow w.heap.size 77 3 (.slice (some ⟨A, 0, none⟩) l.length l.length) l.length (wcells (shortW t.words l t.words.length)) ∧ Below w.heap.size w w' := by
  have hmk := make_words l.length (by omega)
  have hne := ok.n1
  obtain ⟨bb, o, x0, rfl, hbb, _⟩ := hW.at (i := 0) (by omega)
  have HW := Lib.hid hW
  have HL := Lib.hid hL
  have HX := Lib.hid hx
  have HA := Lib.hid ha
  have HOK := Lib.hid ok
  have hn12 := ok.n12
  obtain ⟨hcw1, hcw2⟩ := hcw
  unfold maxLen at hcw2
  have HX0 := Lib.hid (heap_last w (.cells #[.slice (some ⟨bb, o, none⟩) t.words.length cw, v1, v2, v3] 125))
  have HB1 := Lib.hid (below1 w (.cells #[.slice (some ⟨bb, o, none⟩) t.words.length cw, v1, v2, v3] 125))
  have hz1 : (w.alloc (.cells #[.slice (some ⟨bb, o, none⟩) t.words.length cw, v1, v2, v3] 125)).heap.size = w.heap.size + 1 := by simp
  clear hW hL hx ok ha
  go_enter Try.func122, Try.ntmps122
  go_wp2_with fail
  have hblk := heap_last (w.alloc (.cells #[.slice (some ⟨bb, o, none⟩) t.words.length cw, v1, v2, v3] 125)) (.cells (wcells (List.replicate l.length ⟨0, 0, false⟩)).toArray 77)
  rw [World.size_alloc] at hblk
  have hx2 := (Below.heap_alloc (w.alloc (.cells #[.slice (some ⟨bb, o, none⟩) t.words.length cw, v1, v2, v3] 125)) (.cells (wcells (List.replicate l.length ⟨0, 0, false⟩)).toArray 77) w.heap.size (by simp)).trans HX0.out
  have hB2 := join HB1.out (below1 (w.alloc (.cells #[.slice (some ⟨bb, o, none⟩) t.words.length cw, v1, v2, v3] 125)) (.cells (wcells (List.replicate l.length ⟨0, 0, false⟩)).toArray 77))
  go_loopw [14] (fun i wr => ∃ k : Nat, k ≤ l.length ∧ i = .int .i64 k ∧ Hid (wr.heap[w.heap.size]? = some (.cells #[.slice (some ⟨bb, o, none⟩) t.words.length cw, v1, v2, v3] 125 (0, 0))) ∧ Hid (wr.heap[w.heap.size + 1]? = some (.cells (wcells (kwTo t.words l t.words.length k)).toArray 77 (0, 0))) ∧ Hid (Below w.heap.size w wr)) (fun i _ => l.length - (intOf i).toNat)
  case atStart => exact ⟨0, Nat.zero_le _, rfl, Lib.hid hx2, Lib.hid (by rw [kwTo_zero]; exact hblk), Lib.hid hB2⟩
  case round =>
    obtain ⟨k, hk, rfl, H0, H1, HB⟩ := hrel
    have hs1 := (Array.getElem?_eq_some_iff.1 H1.out).1
    have hs0 : w.heap.size < wr.heap.size := by omega
    clear hblk hx2 hB2 hmk
    by_cases hlt : k < l.length
    · have hlt' : (k : Int) < l.length := by omega
      have k0 := blk_cells H0.out 0 _ rfl
      obtain ⟨lb, lo, x, rfl, hlb, hxx, c1⟩ := (HL.out.below HB.out).at hlt
      have hxb := HX.out x (by rw [hxx]; exact getD_mem 0 hlt)
      have HXX := Lib.hid hxx
      obtain ⟨y, rfl⟩ := Int.eq_ofNat_of_zero_le hxb.1
      have hyn : y < t.words.length := by omega
      have hyn' : (y : Int) < t.words.length := by omega
      obtain ⟨bb', bo', z, hp, hbbr, hzz, d1, d2, d3⟩ := (HW.out.below HB.out).at hyn
      injection hp with hp; injection hp with hp1 hp2 _
      subst hp1; subst hp2
      have HZZ := Lib.hid hzz
      have hkl : (wcells (kwTo t.words l t.words.length k)).toArray.size = l.length * 3 := by rw [List.size_toArray, wcells_len, kwTo_len]
      have hcell : ∀ j, j < 3 → ∃ v, wr.cell? ⟨w.heap.size + 1, k * 3 + j, none⟩ = some v := fun j hj => by
        refine ⟨(wcells (kwTo t.words l t.words.length k)).toArray[k * 3 + j]'(by rw [hkl]; omega), ?_⟩
        exact blk_cells H1.out _ _ (Array.getElem?_eq_getElem _)
      obtain ⟨u0, hu0⟩ := hcell 0 (by omega)
      obtain ⟨u1, hu1⟩ := hcell 1 (by omega)
      obtain ⟨u2, hu2⟩ := hcell 2 (by omega)
      have hu0 : wr.cell? ⟨w.heap.size + 1, k * 3, none⟩ = some u0 := hu0
      have hfz : ∀ i, wr.frozen? ⟨w.heap.size + 1, i, none⟩ = false := fun i => by simp [World.frozen?, H1.out]
      have hq1 : ¬ w.heap.size + 1 = w.heap.size := by omega
      have hq2 : ¬ w.heap.size = w.heap.size + 1 := by omega
      have hbq : ¬ w.heap.size + 1 = bb := by omega
      have hlq : ∀ _ : lb < w.heap.size, ¬ w.heap.size + 1 = lb := fun h => by omega
      clear hxx hzz hkl hcell hlb
      by_cases hla : k + 1 < l.length
      · have hla' : (k : Int) + 1 < l.length := by omega
        obtain ⟨lb', lo', x', hp, _, hxx', c2⟩ := (HL.out.below HB.out).at hla
        injection hp with hp; injection hp with hp1 hp2 _
        subst hp1; subst hp2
        have hxb' := HX.out x' (by rw [hxx']; exact getD_mem 0 hla)
        obtain ⟨m, rfl⟩ := Int.eq_ofNat_of_zero_le hxb'.1
        have hlt2 := getD_lt HA.out (Nat.lt_succ_self k) hla
        rw [← hxx', ← HXX.out] at hlt2
        have hnx : nextI l t.words.length k = (m : Int) := by unfold nextI; rw [if_pos hla]; exact hxx'.symm
        clear hxx'
        have hym : y ≤ m := by omega
        have hml : m ≤ t.words.length := by omega
        have HNX := Lib.hid hnx
        have hslw := slice_len t.words (a := y) hml
        have HCF := Lib.hid (fun W (h : Below w.heap.size w W) => containsFuncW 158 entered_keptWords1 (·.stop) (slice t.words y m) (some ⟨bb, o + y * 3, none⟩) (cw - y) W (by omega) (wds_slice y m hym hml (HW.out.below h)) (fun W' _ u _ => keptWords1_any u W'))
        rw [hslw] at HCF
        clear hnx hslw
        go_wp2_with fail
        obtain ⟨WS, hWS⟩ : ∃ WS, WS = ((wr.setCell ⟨w.heap.size + 1, k * 3, none⟩ (.int .i64 z.syl)).setCell ⟨w.heap.size + 1, k * 3 + 1, none⟩ (.int .i64 z.wt)).setCell ⟨w.heap.size + 1, k * 3 + 2, none⟩ (.bool z.stop) := ⟨_, rfl⟩
        rw [← hWS]
        have HBS := Lib.hid (show Below w.heap.size w WS by
          rw [hWS]; exact ((HB.out.setCell (p := ⟨w.heap.size + 1, k * 3, none⟩) (by show w.heap.size ≤ w.heap.size + 1; omega) _).setCell (p := ⟨w.heap.size + 1, k * 3 + 1, none⟩) (by show w.heap.size ≤ w.heap.size + 1; omega) _).setCell (p := ⟨w.heap.size + 1, k * 3 + 2, none⟩) (by show w.heap.size ≤ w.heap.size + 1; omega) _)
        have h0S : WS.heap[w.heap.size]? = some (.cells #[.slice (some ⟨bb, o, none⟩) t.words.length cw, v1, v2, v3] 125 (0, 0)) := by
          rw [hWS]
          exact (Below.heap_setCell _ _ _ _ (by show w.heap.size ≠ w.heap.size + 1; omega)).trans ((Below.heap_setCell _ _ _ _ (by show w.heap.size ≠ w.heap.size + 1; omega)).trans ((Below.heap_setCell _ _ _ _ (by show w.heap.size ≠ w.heap.size + 1; omega)).trans H0.out))
        have h1S : WS.heap[w.heap.size + 1]? = some (.cells ((((wcells (kwTo t.words l t.words.length k)).toArray.setIfInBounds (k * 3) (.int .i64 z.syl)).setIfInBounds (k * 3 + 1) (.int .i64 z.wt)).setIfInBounds (k * 3 + 2) (.bool z.stop)) 77 (0, 0)) := by
          rw [hWS]; exact heap_set_same _ (heap_set_same _ (heap_set_same _ H1.out))
        have HSUC := Lib.hid (show (((((wcells (kwTo t.words l t.words.length k)).toArray.setIfInBounds (k * 3) (.int .i64 z.syl)).setIfInBounds (k * 3 + 1) (.int .i64 z.wt)).setIfInBounds (k * 3 + 2) (.bool z.stop)).setIfInBounds (k * 3 + 2) (.bool ((slice t.words y m).any (·.stop)))) = (wcells (kwTo t.words l t.words.length (k + 1))).toArray by
          rw [wset _ k (by rw [kwTo_len]; exact hlt), ← kwTo_succ t.words l t.words.length hlt]
          congr 3
          unfold shortAt stopsB
          rw [HNX.out, ← HXX.out, HZZ.out]
          simp)
        have hu2' : ∃ v, WS.cell? ⟨w.heap.size + 1, k * 3 + 2, none⟩ = some v := by
          refine ⟨((((wcells (kwTo t.words l t.words.length k)).toArray.setIfInBounds (k * 3) (.int .i64 z.syl)).setIfInBounds (k * 3 + 1) (.int .i64 z.wt)).setIfInBounds (k * 3 + 2) (.bool z.stop))[k * 3 + 2]'(by simp only [Array.size_setIfInBounds, List.size_toArray]; rw [wcells_len, kwTo_len]; omega), ?_⟩
          exact blk_cells h1S _ _ (Array.getElem?_eq_getElem _)
        generalize (((wcells (kwTo t.words l t.words.length k)).toArray.setIfInBounds (k * 3) (.int .i64 z.syl)).setIfInBounds (k * 3 + 1) (.int .i64 z.wt)).setIfInBounds (k * 3 + 2) (.bool z.stop) = C3 at h1S HSUC
        obtain ⟨u2', hu2'⟩ := hu2'
        have hsS : w.heap.size + 1 < WS.heap.size := (Array.getElem?_eq_some_iff.1 h1S).1
        have HSS := Lib.hid hsS
        have H0S := Lib.hid h0S
        have H1S := Lib.hid h1S
        have HU2 := Lib.hid hu2'
        clear hWS h0S h1S hu2' hsS hu0 hu1 hu2 hfz d1 d2 d3 c1 k0 c2
        refine (HCF.out WS HBS.out).mono ?_
        rintro e w5 ⟨rfl, hB5⟩
        have hu5 := (hB5.cell (p := ⟨w.heap.size + 1, k * 3 + 2, none⟩) HSS.out).trans HU2.out
        have h15 := (hB5.block _ HSS.out).trans H1S.out
        have H05 := Lib.hid ((hB5.block w.heap.size (by have := HSS.out; omega)).trans H0S.out)
        have hf5 : ∀ i, w5.frozen? ⟨w.heap.size + 1, i, none⟩ = false := fun i => by simp [World.frozen?, h15]
        have H15 := Lib.hid h15
        have HB5 := Lib.hid (join HBS.out hB5)
        clear hB5 h15
        generalize (slice t.words y m).any (·.stop) = sb at HSUC ⊢
        go_wp2
        go_roundw
        case rel =>
          exact ⟨k + 1, by omega, by go_num, Lib.hid ((Below.heap_setCell _ _ _ _ (by show w.heap.size ≠ w.heap.size + 1; omega)).trans H05.out), Lib.hid (by rw [← HSUC.out]; exact heap_set_same _ H15.out), Lib.hid (HB5.out.setCell (p := ⟨w.heap.size + 1, k * 3 + 2, none⟩) (by show w.heap.size ≤ w.heap.size + 1; omega) _)⟩
        case measure => simp [intOf]; omega
      · have hnx : nextI l t.words.length k = (t.words.length : Int) := by unfold nextI; rw [if_neg hla]
        have hym : y ≤ t.words.length := by omega
        have hml : t.words.length ≤ t.words.length := by omega
        have HNX := Lib.hid hnx
        have hslw := slice_len t.words (a := y) hml
        have HCF := Lib.hid (fun W (h : Below w.heap.size w W) => containsFuncW 158 entered_keptWords1 (·.stop) (slice t.words y t.words.length) (some ⟨bb, o + y * 3, none⟩) (cw - y) W (by omega) (wds_slice y t.words.length hym hml (HW.out.below h)) (fun W' _ u _ => keptWords1_any u W'))
        rw [hslw] at HCF
        clear hnx hslw
        go_wp2_with fail
        obtain ⟨WS, hWS⟩ : ∃ WS, WS = ((wr.setCell ⟨w.heap.size + 1, k * 3, none⟩ (.int .i64 z.syl)).setCell ⟨w.heap.size + 1, k * 3 + 1, none⟩ (.int .i64 z.wt)).setCell ⟨w.heap.size + 1, k * 3 + 2, none⟩ (.bool z.stop) := ⟨_, rfl⟩
        rw [← hWS]
        have HBS := Lib.hid (show Below w.heap.size w WS by
          rw [hWS]; exact ((HB.out.setCell (p := ⟨w.heap.size + 1, k * 3, none⟩) (by show w.heap.size ≤ w.heap.size + 1; omega) _).setCell (p := ⟨w.heap.size + 1, k * 3 + 1, none⟩) (by show w.heap.size ≤ w.heap.size + 1; omega) _).setCell (p := ⟨w.heap.size + 1, k * 3 + 2, none⟩) (by show w.heap.size ≤ w.heap.size + 1; omega) _)
        have h0S : WS.heap[w.heap.size]? = some (.cells #[.slice (some ⟨bb, o, none⟩) t.words.length cw, v1, v2, v3] 125 (0, 0)) := by
          rw [hWS]
          exact (Below.heap_setCell _ _ _ _ (by show w.heap.size ≠ w.heap.size + 1; omega)).trans ((Below.heap_setCell _ _ _ _ (by show w.heap.size ≠ w.heap.size + 1; omega)).trans ((Below.heap_setCell _ _ _ _ (by show w.heap.size ≠ w.heap.size + 1; omega)).trans H0.out))
        have h1S : WS.heap[w.heap.size + 1]? = some (.cells ((((wcells (kwTo t.words l t.words.length k)).toArray.setIfInBounds (k * 3) (.int .i64 z.syl)).setIfInBounds (k * 3 + 1) (.int .i64 z.wt)).setIfInBounds (k * 3 + 2) (.bool z.stop)) 77 (0, 0)) := by
          rw [hWS]; exact heap_set_same _ (heap_set_same _ (heap_set_same _ H1.out))
        have HSUC := Lib.hid (show (((((wcells (kwTo t.words l t.words.length k)).toArray.setIfInBounds (k * 3) (.int .i64 z.syl)).setIfInBounds (k * 3 + 1) (.int .i64 z.wt)).setIfInBounds (k * 3 + 2) (.bool z.stop)).setIfInBounds (k * 3 + 2) (.bool ((slice t.words y t.words.length).any (·.stop)))) = (wcells (kwTo t.words l t.words.length (k + 1))).toArray by
          rw [wset _ k (by rw [kwTo_len]; exact hlt), ← kwTo_succ t.words l t.words.length hlt]
          congr 3
          unfold shortAt stopsB
          rw [HNX.out, ← HXX.out, HZZ.out]
          simp)
        have hu2' : ∃ v, WS.cell? ⟨w.heap.size + 1, k * 3 + 2, none⟩ = some v := by
          refine ⟨((((wcells (kwTo t.words l t.words.length k)).toArray.setIfInBounds (k * 3) (.int .i64 z.syl)).setIfInBounds (k * 3 + 1) (.int .i64 z.wt)).setIfInBounds (k * 3 + 2) (.bool z.stop))[k * 3 + 2]'(by simp only [Array.size_setIfInBounds, List.size_toArray]; rw [wcells_len, kwTo_len]; omega), ?_⟩
          exact blk_cells h1S _ _ (Array.getElem?_eq_getElem _)
        generalize (((wcells (kwTo t.words l t.words.length k)).toArray.setIfInBounds (k * 3) (.int .i64 z.syl)).setIfInBounds (k * 3 + 1) (.int .i64 z.wt)).setIfInBounds (k * 3 + 2) (.bool z.stop) = C3 at h1S HSUC
        obtain ⟨u2', hu2'⟩ := hu2'
        have hsS : w.heap.size + 1 < WS.heap.size := (Array.getElem?_eq_some_iff.1 h1S).1
        have HSS := Lib.hid hsS
        have H0S := Lib.hid h0S
        have H1S := Lib.hid h1S
        have HU2 := Lib.hid hu2'
        clear hWS h0S h1S hu2' hsS hu0 hu1 hu2 hfz d1 d2 d3 c1 k0 
        refine (HCF.out WS HBS.out).mono ?_
        rintro e w5 ⟨rfl, hB5⟩
        have hu5 := (hB5.cell (p := ⟨w.heap.size + 1, k * 3 + 2, none⟩) HSS.out).trans HU2.out
        have h15 := (hB5.block _ HSS.out).trans H1S.out
        have H05 := Lib.hid ((hB5.block w.heap.size (by have := HSS.out; omega)).trans H0S.out)
        have hf5 : ∀ i, w5.frozen? ⟨w.heap.size + 1, i, none⟩ = false := fun i => by simp [World.frozen?, h15]
        have H15 := Lib.hid h15
        have HB5 := Lib.hid (join HBS.out hB5)
        clear hB5 h15
        generalize (slice t.words y t.words.length).any (·.stop) = sb at HSUC ⊢
        go_wp2
        go_roundw
        case rel =>
          exact ⟨k + 1, by omega, by go_num, Lib.hid ((Below.heap_setCell _ _ _ _ (by show w.heap.size ≠ w.heap.size + 1; omega)).trans H05.out), Lib.hid (by rw [← HSUC.out]; exact heap_set_same _ H15.out), Lib.hid (HB5.out.setCell (p := ⟨w.heap.size + 1, k * 3 + 2, none⟩) (by show w.heap.size ≤ w.heap.size + 1; omega) _)⟩
        case measure => simp [intOf]; omega
    · obtain rfl : k = l.length := by omega
      have hfull := kwTo_full t.words l t.words.length
      have HF := Lib.hid hfull
      clear hfull
      go_wp2
      go_ret
      exact ⟨_, rfl, by have h := H1.out; rw [HF.out] at h; exact own_words (by rw [shortW_len]) (by omega) (by unfold maxLen; omega) h, HB.out⟩
end Go.Proofs.Ytadnggecnjdhiaa
set_option linter.unusedSimpArgs false
set_option linter.unusedVariables false
namespace Go.Proofs.Ytadnggecnjdhiaa
open Go.RowKit Tx
attribute [local go_sem] Oper.semAt_some

theorem blk2 {w : World} {A : Nat} {a b : Value} {T : TypeId} {tg : Nat × Nat} (h : w.heap[A]? = some (.cells #[a, b] T tg)) : w.cell? ⟨A, 0, none⟩ = some a ∧ w.cell? ⟨A, 1, none⟩ = some b := by
  simp [World.cell?, h]
theorem libFrom (x : Int) : ∀ (l : List Int) (i : Nat), l.contains x = true → Lib.idxFrom l x i = ((i + l.idxOf x : Nat) : Int)
  | [], i, h => by simp at h
  | z :: l, i, h => by
    unfold Lib.idxFrom
    by_cases hz : z = x
    · subst hz; rw [if_pos rfl, List.idxOf_cons_self]; rfl
    · have h' : l.contains x = true := by
        rw [List.contains_cons, Bool.or_eq_true, beq_iff_eq] at h
        exact h.resolve_left (fun e => hz e.symm)
      have e : (z :: l).idxOf x = l.idxOf x + 1 := by rw [List.idxOf_cons, show (z == x) = false by simpa using hz]; rfl
      rw [if_neg hz, libFrom x l (i + 1) h', e]
      congr 1
      omega
theorem libIdx {x : Int} {l : List Int} (h : l.contains x = true) : Lib.idxOf l x = (l.idxOf x : Int) := by
  unfold Lib.idxOf; rw [libFrom x l 0 h, Nat.zero_add]
theorem index_any (l : List Int) (hll : l.length ≤ 1000000) (p : Option Addr) (c : Nat) (x : Int) (w : World) (hL : Ints w p l) :
    Calls Try.prog 131 #[.slice p l.length c, .int .i64 x] w fun e w' => e = .returned (.int .i64 (Lib.idxOf l x)) ∧ w' = w := by
  rcases hL with rfl | ⟨b, o, rfl, hb, hc⟩
  · exact Try.slices_Index_int_empty p c x w
  · have h := Try.slices_Index_int b o l.length c l x w (Nat.le_refl _) (by omega) hc
    rw [List.take_length] at h
    exact h
theorem core_ends {u : Turn} {l : List Int} (h : u.lo ≤ u.hi) (hc : coreIn u l = true) : l.contains u.lo = true ∧ l.contains u.hi = true := by
  unfold coreIn at hc
  rw [List.all_eq_true] at hc
  have h1 := hc 0 (by rw [List.mem_range]; omega)
  have h2 := hc (u.hi - u.lo).toNat (by rw [List.mem_range]; omega)
  rw [show u.lo + ((0 : Nat) : Int) = u.lo by simp] at h1
  rw [show u.lo + (((u.hi - u.lo).toNat : Nat) : Int) = u.hi by omega] at h2
  exact ⟨h1, h2⟩
theorem shortTs_snoc (ts : List Turn) (u : Turn) (l : List Int) : shortTs (ts ++ [u]) l = shortTs ts l ++ (if coreIn u l && l.contains u.word then [shortTurn l u] else []) := by
  unfold shortTs
  rw [List.filter_append, List.map_append]
  rw [List.filter_cons, List.filter_nil]
  cases h : (coreIn u l && l.contains u.word)
  · simp only [Bool.false_eq_true, if_false, List.map_nil]
  · simp only [if_true, List.map_cons, List.map_nil]
theorem shortTs_len (ts : List Turn) (l : List Int) : (shortTs ts l).length ≤ ts.length := by
  unfold shortTs; rw [List.length_map]; exact List.length_filter_le _ _
theorem own_setT {w : World} {base R o : Nat} {e T : TypeId} {size : Nat} {v u : Value} {n : Nat} {xs : List Value} {cs : Array Value} {tg : Nat × Nat} (h : w.ownsRow base e size v n xs) (hb : w.heap[R]? = some (.cells cs T tg)) (hT : T ≠ e) : (w.setCell ⟨R, o, none⟩ u).ownsRow base e size v n xs := by
  refine h.kept (grown_set w R o u) ?_
  rcases h.2 with ⟨h1, _⟩ | ⟨g, cap, cur, h1, _, hg, _⟩
  · exact .inl (by rw [h1]; rfl)
  · right
    rw [h1]
    show some g ≠ some R
    intro e
    injection e with e
    subst e
    rw [hg] at hb
    injection hb with hb
    injection hb with _ hb
    exact hT hb.symm
theorem cell3_at {w : World} {p : Nat} {a b c : Value} {T : TypeId} {tg : Nat × Nat} (h : w.heap[p]? = some (.cells #[a, b, c] T tg)) : ∀ (j : Nat) (u : Value), [a, b, c][j]? = some u → w.cell? ((⟨p, 0, none⟩ : Addr).add j) = some u := by
  intro j u hj
  have hadd : (⟨p, 0, none⟩ : Addr).add j = ⟨p, j, none⟩ := by unfold Addr.add; split <;> simp_all
  rw [hadd]
  exact blk_cells h j u (by simpa using hj)
theorem below_trans2 {a b c : World} (h : Below a.heap.size a b) (g : Rs.Gr b c) : Below a.heap.size a c := h.trans (show Below a.heap.size b c from Below.mono (B := b.heap.size) g h.size)
def spKt6 (pl : Option Addr) (cl b7 : Nat) (l : List Int) (ul uh : Int) : Nat → List Value → Value → World → Prop
  | 0, _, v, _ => v = .slice pl l.length cl
  | 1, _, v, _ => v = .pointer (some ⟨b7, 1, none⟩)
  | 2, _, v, _ => v = .pointer (some ⟨b7, 1, none⟩)
  | 3, _, v, _ => v = .int .i64 ul
  | 4, _, v, _ => v = .int .i64 (Lib.idxOf l ul)
  | 5, _, v, _ => v = .slice pl l.length cl
  | 6, _, v, _ => v = .pointer (some ⟨b7, 1, none⟩)
  | 7, _, v, _ => v = .pointer (some ⟨b7, 2, none⟩)
  | 8, _, v, _ => v = .int .i64 uh
  | 9, _, v, _ => v = .int .i64 (Lib.idxOf l uh)
  | 10, _, v, _ => v = .agg #[.int .i64 (Lib.idxOf l ul), .int .i64 (Lib.idxOf l uh)]
  | 11, L, v, w => ∃ p, v = .pointer (some ⟨p, 0, none⟩) ∧ b7 < p ∧ w.heap[p]? = some (.cells #[.int .i64 0, .int .i64 0] 27 (0, 0))
  | _, _, _, _ => False
theorem spKt6_stable (pl : Option Addr) (cl b7 : Nat) (l : List Int) (ul uh : Int) : ∀ i L v w w', spKt6 pl cl b7 l ul uh i L v w → Rs.Gr w w' → spKt6 pl cl b7 l ul uh i L v w' := by
  intro i L v w w' h hg
  match i with
  | 0 => exact h
  | 1 => exact h
  | 2 => exact h
  | 3 => exact h
  | 4 => exact h
  | 5 => exact h
  | 6 => exact h
  | 7 => exact h
  | 8 => exact h
  | 9 => exact h
  | 10 => exact h
  | 11 => obtain ⟨p, h1, h2, h3⟩ := h; exact ⟨p, h1, h2, (hg.block p (Array.getElem?_eq_some_iff.1 h3).1).trans h3⟩
def spKt7 (pl : Option Addr) (cl b7 b8 : Nat) (l : List Int) (uw a b : Int) (v5 : Value) : Nat → List Value → Value → World → Prop
  | 0, _, v, _ => v = v5
  | 1, _, v, _ => v = .slice pl l.length cl
  | 2, _, v, _ => v = .pointer (some ⟨b7, 0, none⟩)
  | 3, _, v, _ => v = .int .i64 uw
  | 4, _, v, _ => v = .int .i64 (Lib.idxOf l uw)
  | 5, _, v, _ => v = .agg #[.int .i64 a, .int .i64 b]
  | 6, _, v, _ => v = .agg #[.int .i64 (Lib.idxOf l uw), .int .i64 a, .int .i64 b]
  | 7, L, v, w => ∃ p, v = .slice (some ⟨p, 0, none⟩) 1 1 ∧ b8 < p ∧ w.heap[p]? = some (.cells #[.int .i64 (Lib.idxOf l uw), .int .i64 a, .int .i64 b] 80 (0, 0))
  | _, _, _, _ => False
theorem spKt7_stable (pl : Option Addr) (cl b7 b8 : Nat) (l : List Int) (uw a b : Int) (v5 : Value) : ∀ i L v w w', spKt7 pl cl b7 b8 l uw a b v5 i L v w → Rs.Gr w w' → spKt7 pl cl b7 b8 l uw a b v5 i L v w' := by
  intro i L v w w' h hg
  match i with
  | 0 => exact h
  | 1 => exact h
  | 2 => exact h
  | 3 => exact h
  | 4 => exact h
  | 5 => exact h
  | 6 => exact h
  | 7 => obtain ⟨p, h1, h2, h3⟩ := h; exact ⟨p, h1, h2, (hg.block p (Array.getElem?_eq_some_iff.1 h3).1).trans h3⟩

set_option maxHeartbeats 8000000 in
set_option maxRecDepth 100000 in
theorem keptTurns_any (t : Text) (ok : Text.Ok t) (l : List Int) (hll : l.length ≤ 100000) (pt pl : Option Addr) (ct cl : Nat) (v0 v2 v3 : Value) (w : World) (hT : Tns w pt t.turns) (hL : Ints w pl l) :
    Calls Try.prog 123 #[.agg #[v0, .slice pt t.turns.length ct, v2, v3], .slice pl l.length cl] w fun e w' => ∃ v, e = .returned v ∧ w'.ownsRow w.heap.size 80 3 v (shortTs t.turns l).length (tcells (shortTs t.turns l)) ∧ Below w.heap.size w w' := by
  obtain ⟨j0, hj0, hy0, hy1, hy2⟩ := info_parts A_infoTn
  have hm6 := ok.m6
  have HT := Lib.hid hT
  have HIX := Lib.hid (fun x W (h : Below w.heap.size w W) => index_any l (by omega) pl cl x W (hL.below h))
  have HCK := Lib.hid (fun (u : Turn) (hu : u ∈ t.turns) W (h : Below w.heap.size w W) => coreKept_any u ⟨by have := (ok.turn u hu); omega, by have := (ok.turn u hu); omega, by have := (ok.turn u hu); have := ok.n12; omega⟩ l (by omega) pl cl W (hL.below h))
  have HCO := Lib.hid (fun x W (h : Below w.heap.size w W) => contains_any l (by omega) pl cl x W (hL.below h))
  have HOK := Lib.hid ok
  have HB := Lib.hid (below1 w (.cells #[v0, .slice pt t.turns.length ct, v2, v3] 125))
  have HX := Lib.hid (heap_last w (.cells #[v0, .slice pt t.turns.length ct, v2, v3] 125))
  have hsz : (w.alloc (.cells #[v0, .slice pt t.turns.length ct, v2, v3] 125)).heap.size = w.heap.size + 1 := by simp
  have k1 := blk_cells HX.out 1 _ rfl
  clear hT hL ok
  go_enter Try.func123, Try.ntmps123
  go_wp2_with fail
  generalize w.alloc (.cells #[v0, .slice pt t.turns.length ct, v2, v3] 125) = W1 at HB HX hsz k1 ⊢
  have hsz1 : w.heap.size + 1 ≤ W1.heap.size := by omega
  clear k1
  go_loopw [5, 13] (fun v i wr => ∃ k : Nat, k ≤ t.turns.length ∧ i = .int .i64 k ∧ Hid (wr.ownsRow W1.heap.size 80 3 v (shortTs (t.turns.take k) l).length (tcells (shortTs (t.turns.take k) l))) ∧ Hid (Below W1.heap.size W1 wr)) (fun _ i _ => t.turns.length - (intOf i).toNat)
  case atStart => exact ⟨0, Nat.zero_le _, rfl, Lib.hid (own_none _ _ _ _), Lib.hid (Below.refl _ _)⟩
  case round =>
    obtain ⟨k, hk, rfl, HO, HBr0⟩ := hrel
    have HBr := Lib.hid (join HB.out HBr0.out)
    obtain ⟨p5, c5, rfl⟩ := own_val HO.out
    have hsl : (shortTs (t.turns.take k) l).length ≤ t.turns.length := Nat.le_trans (shortTs_len _ _) (by simp; omega)
    generalize hS : shortTs (t.turns.take k) l = S at HO hsl
    have HS := Lib.hid hS
    clear hS
    by_cases hlt : k < t.turns.length
    · have hlt' : (k : Int) < t.turns.length := by omega
      obtain ⟨b, o, u, rfl, hb, hxx, d0, d1, d2⟩ := (HT.out.below HBr.out).at hlt
      have hum : u ∈ t.turns := by rw [hxx]; exact getD_mem default hlt
      have hur := HOK.out.turn u hum
      have HUR := Lib.hid (show u.lo ≤ u.hi by omega)
      have HCU := Lib.hid (HCK.out u hum)
      have HSN := Lib.hid (show shortTs (t.turns.take (k + 1)) l = S ++ (if coreIn u l && l.contains u.word then [shortTurn l u] else []) by rw [take_snocD default hlt, ← hxx, ← HS.out]; exact shortTs_snoc (t.turns.take k) u l)
      have hbz := HBr0.out.size
      clear hxx hum hur HCK
      obtain ⟨uw, ul, uh⟩ := u
      dsimp only at d0 d1 d2 HUR HCU HSN
      have HX7 := Lib.hid (heap_last wr (.cells #[.int .i64 uw, .int .i64 ul, .int .i64 uh] 80))
      have HZ7 := Lib.hid (show wr.heap.size < (wr.alloc (.cells #[.int .i64 uw, .int .i64 ul, .int .i64 uh] 80)).heap.size by rw [World.size_alloc]; omega)
      have HO7 := Lib.hid (own_below HO.out (below1 wr (.cells #[.int .i64 uw, .int .i64 ul, .int .i64 uh] 80)))
      have HBr7 := Lib.hid (HBr.out.trans ((below1 wr (.cells #[.int .i64 uw, .int .i64 ul, .int .i64 uh] 80)).mono HBr.out.size))
      have HB07 := Lib.hid (HBr0.out.trans ((below1 wr (.cells #[.int .i64 uw, .int .i64 ul, .int .i64 uh] 80)).mono hbz))
      clear HO HBr HBr0
      go_wp2_with fail
      clear d0 d1 d2
      refine (HCU.out _ HBr7.out).mono ?_
      rintro e w5 ⟨rfl, hB⟩
      have HX7 := Lib.hid ((hB.block _ HZ7.out).trans HX7.out)
      have HZ7 := Lib.hid (Nat.lt_of_lt_of_le HZ7.out hB.size)
      have HO7 := Lib.hid (own_below HO7.out hB)
      have HBr := Lib.hid (HBr7.out.trans (hB.mono HBr7.out.size))
      have HBr0 := Lib.hid (HB07.out.trans (hB.mono HB07.out.size))
      clear hB HBr7 HB07 HCU
      cases hc : coreIn ⟨uw, ul, uh⟩ l with
      | false =>
        rw [hc, Bool.false_and] at HSN
        clear hc
        go_wp2
        go_roundw
        case rel => exact ⟨k + 1, by omega, by go_num, by have h := HO7.out; have e := HSN.out; simp only [Bool.false_eq_true, if_false, List.append_nil] at e; exact Lib.hid (by rw [e]; exact h), HBr0⟩
        case measure => simp [intOf]; omega
      | true =>
        have HE := Lib.hid (core_ends HUR.out hc)
        rw [hc, Bool.true_and] at HSN
        clear hc
        obtain ⟨k0, k1, k2⟩ := blk3 HX7.out
        go_wp2_with fail
        refine (HCO.out _ _ HBr.out).mono ?_
        rintro e w6 ⟨rfl, rfl⟩
        clear k0 k1 k2
        cases hc2 : l.contains uw with
        | false =>
          rw [hc2] at HSN
          clear hc2
          go_wp2
          go_roundw
          case rel => exact ⟨k + 1, by omega, by go_num, by have h := HO7.out; have e := HSN.out; simp only [Bool.false_eq_true, if_false, List.append_nil] at e; exact Lib.hid (by rw [e]; exact h), HBr0⟩
          case measure => simp [intOf]; omega
        | true =>
          have HW2 := Lib.hid (libIdx hc2)
          rw [hc2] at HSN
          clear hc2
          go_wp2_with fail
          refine Rs.region_gen 12 [[], [], [1], [1, 2], [0, 1, 2, 3], [], [], [6], [6, 7], [0, 1, 2, 3, 4, 5, 6, 7, 8], [0, 1, 2, 3, 4, 5, 6, 7, 8, 9], []] [some 26, some 27, some 28, some 29, some 30, some 31, some 32, some 33, some 34, some 35, some 36, some 8] (spKt6 pl cl wr.heap.size l ul uh) (by kernel_rfl) (by kernel_rfl) rfl (spKt6_stable _ _ _ _ _ _) ?_ ?_
          · refine ⟨fun V w' hG hs => ?_, fun V w' hG hs => ?_, fun V w' hG hs => ?_, fun V w' hG hs => ?_, fun V w' hG hs => ?_, fun V w' hG hs => ?_, fun V w' hG hs => ?_, fun V w' hG hs => ?_, fun V w' hG hs => ?_, fun V w' hG hs => ?_, fun V w' hG hs => ?_, fun V w' hG hs => ?_, trivial⟩
            all_goals
              obtain ⟨k0, k1, k2⟩ := blk3 ((hG.block _ HZ7.out).trans HX7.out)
            · rw [if_pos (by rfl)]
              exact Rs.GrowL.value (v := .slice pl l.length cl) (w' := w') (by simp [go_sem, Rs.look]) (Rs.Gr.refl _) rfl
            · rw [if_pos (by rfl)]
              exact Rs.GrowL.value (v := .pointer (some ⟨wr.heap.size, 1, none⟩)) (w' := w') (by simp [go_sem, Rs.look]) (Rs.Gr.refl _) rfl
            · have e1 : V 1 = .pointer (some ⟨wr.heap.size, 1, none⟩) := hs 1 (by simp)
              rw [if_pos (by rfl)]
              exact Rs.GrowL.value (v := .pointer (some ⟨wr.heap.size, 1, none⟩)) (w' := w') (by simp [go_sem, Rs.look, e1]) (Rs.Gr.refl _) rfl
            · have e1 : V 1 = .pointer (some ⟨wr.heap.size, 1, none⟩) := hs 1 (by simp)
              have e2 : V 2 = .pointer (some ⟨wr.heap.size, 1, none⟩) := hs 2 (by simp)
              rw [if_pos (by rfl)]
              exact Rs.GrowL.value (v := .int .i64 ul) (w' := w') (by simp [go_sem, Rs.look, e1, e2, k1]) (Rs.Gr.refl _) rfl
            · have e0 : V 0 = .slice pl l.length cl := hs 0 (by simp)
              have e1 : V 1 = .pointer (some ⟨wr.heap.size, 1, none⟩) := hs 1 (by simp)
              have e2 : V 2 = .pointer (some ⟨wr.heap.size, 1, none⟩) := hs 2 (by simp)
              have e3 : V 3 = .int .i64 ul := hs 3 (by simp)
              rw [if_pos (by rfl)]
              refine Rs.GrowL.call (f := 131) (args := #[.slice pl l.length cl, .int .i64 ul]) (by simp [go_sem, Rs.look, e0, e3]) ?_
              refine (HIX.out _ w' (below_trans2 HBr.out hG)).mono ?_
              rintro e w2 ⟨rfl, rfl⟩
              exact ⟨_, rfl, Rs.Gr.refl _, rfl⟩
            · rw [if_pos (by rfl)]
              exact Rs.GrowL.value (v := .slice pl l.length cl) (w' := w') (by simp [go_sem, Rs.look]) (Rs.Gr.refl _) rfl
            · rw [if_pos (by rfl)]
              exact Rs.GrowL.value (v := .pointer (some ⟨wr.heap.size, 1, none⟩)) (w' := w') (by simp [go_sem, Rs.look]) (Rs.Gr.refl _) rfl
            · have e6 : V 6 = .pointer (some ⟨wr.heap.size, 1, none⟩) := hs 6 (by simp)
              rw [if_pos (by rfl)]
              exact Rs.GrowL.value (v := .pointer (some ⟨wr.heap.size, 2, none⟩)) (w' := w') (by simp [go_sem, Rs.look, e6]) (Rs.Gr.refl _) rfl
            · have e6 : V 6 = .pointer (some ⟨wr.heap.size, 1, none⟩) := hs 6 (by simp)
              have e7 : V 7 = .pointer (some ⟨wr.heap.size, 2, none⟩) := hs 7 (by simp)
              rw [if_pos (by rfl)]
              exact Rs.GrowL.value (v := .int .i64 uh) (w' := w') (by simp [go_sem, Rs.look, e6, e7, k2]) (Rs.Gr.refl _) rfl
            · have e0 : V 0 = .slice pl l.length cl := hs 0 (by simp)
              have e1 : V 1 = .pointer (some ⟨wr.heap.size, 1, none⟩) := hs 1 (by simp)
              have e2 : V 2 = .pointer (some ⟨wr.heap.size, 1, none⟩) := hs 2 (by simp)
              have e3 : V 3 = .int .i64 ul := hs 3 (by simp)
              have e4 : V 4 = .int .i64 (Lib.idxOf l ul) := hs 4 (by simp)
              have e5 : V 5 = .slice pl l.length cl := hs 5 (by simp)
              have e6 : V 6 = .pointer (some ⟨wr.heap.size, 1, none⟩) := hs 6 (by simp)
              have e7 : V 7 = .pointer (some ⟨wr.heap.size, 2, none⟩) := hs 7 (by simp)
              have e8 : V 8 = .int .i64 uh := hs 8 (by simp)
              rw [if_pos (by rfl)]
              refine Rs.GrowL.call (f := 131) (args := #[.slice pl l.length cl, .int .i64 uh]) (by simp [go_sem, Rs.look, e5, e8]) ?_
              refine (HIX.out _ w' (below_trans2 HBr.out hG)).mono ?_
              rintro e w2 ⟨rfl, rfl⟩
              exact ⟨_, rfl, Rs.Gr.refl _, rfl⟩
            · have e0 : V 0 = .slice pl l.length cl := hs 0 (by simp)
              have e1 : V 1 = .pointer (some ⟨wr.heap.size, 1, none⟩) := hs 1 (by simp)
              have e2 : V 2 = .pointer (some ⟨wr.heap.size, 1, none⟩) := hs 2 (by simp)
              have e3 : V 3 = .int .i64 ul := hs 3 (by simp)
              have e4 : V 4 = .int .i64 (Lib.idxOf l ul) := hs 4 (by simp)
              have e5 : V 5 = .slice pl l.length cl := hs 5 (by simp)
              have e6 : V 6 = .pointer (some ⟨wr.heap.size, 1, none⟩) := hs 6 (by simp)
              have e7 : V 7 = .pointer (some ⟨wr.heap.size, 2, none⟩) := hs 7 (by simp)
              have e8 : V 8 = .int .i64 uh := hs 8 (by simp)
              have e9 : V 9 = .int .i64 (Lib.idxOf l uh) := hs 9 (by simp)
              rw [if_pos (by rfl)]
              exact Rs.GrowL.value (v := .agg #[.int .i64 (Lib.idxOf l ul), .int .i64 (Lib.idxOf l uh)]) (w' := w') (by simp [go_sem, Rs.look, e0, e1, e2, e3, e4, e5, e6, e7, e8, e9]) (Rs.Gr.refl _) rfl
            · rw [if_pos (by rfl)]
              exact Rs.GrowL.value (v := .pointer (some ⟨w'.heap.size, 0, none⟩)) (w' := w'.alloc (.cells #[.int .i64 0, .int .i64 0] 27)) (by simp [go_sem, Rs.look]) (below1 _ _) ⟨_, rfl, by have := hG.size; have := HZ7.out; omega, heap_last _ _⟩
          · intro V w' hG hs
            have e0 : V 0 = .slice pl l.length cl := hs 0 (by omega)
            have e1 : V 1 = .pointer (some ⟨wr.heap.size, 1, none⟩) := hs 1 (by omega)
            have e2 : V 2 = .pointer (some ⟨wr.heap.size, 1, none⟩) := hs 2 (by omega)
            have e3 : V 3 = .int .i64 ul := hs 3 (by omega)
            have e4 : V 4 = .int .i64 (Lib.idxOf l ul) := hs 4 (by omega)
            have e5 : V 5 = .slice pl l.length cl := hs 5 (by omega)
            have e6 : V 6 = .pointer (some ⟨wr.heap.size, 1, none⟩) := hs 6 (by omega)
            have e7 : V 7 = .pointer (some ⟨wr.heap.size, 2, none⟩) := hs 7 (by omega)
            have e8 : V 8 = .int .i64 uh := hs 8 (by omega)
            have e9 : V 9 = .int .i64 (Lib.idxOf l uh) := hs 9 (by omega)
            have e10 : V 10 = .agg #[.int .i64 (Lib.idxOf l ul), .int .i64 (Lib.idxOf l uh)] := hs 10 (by omega)
            have r11 := hs 11 (by omega)
            obtain ⟨b8, e11, hb8, hx8⟩ := r11
            simp only [Rs.canon, Rs.dstOf, List.range_succ, List.range_zero, List.nil_append, List.cons_append, List.foldl_cons, List.foldl_nil, List.drop_succ_cons, List.drop_zero, List.drop_nil, List.getElem?_toArray, List.getElem?_cons_succ, List.getElem?_cons_zero, Option.bind_some, Act.put, List.getD_cons_succ, List.getD_cons_zero, List.setIfInBounds_toArray, List.set_cons_succ, List.set_cons_zero]
            rw [e0, e1, e2, e3, e4, e5, e6, e7, e8, e9, e10, e11]
            clear e0 e1 e2 e3 e4 e5 e6 e7 e8 e9 e10 e11 hs
            have HX7b := Lib.hid ((hG.block _ HZ7.out).trans HX7.out)
            have HBr := Lib.hid (below_trans2 HBr.out hG)
            have HBr0 := Lib.hid (below_trans2 HBr0.out hG)
            have HO7 := Lib.hid (own_below HO7.out hG)
            have HHX8 := Lib.hid hx8
            have hz8 := (Array.getElem?_eq_some_iff.1 hx8).1
            have fz : ∀ i, w'.frozen? ⟨b8, i, none⟩ = false := fun i => by simp [World.frozen?, hx8]
            obtain ⟨m0, m1⟩ := blk2 hx8
            clear hx8 hG HX7 HZ7
            go_wp2_with fail
            clear m0 m1 fz
            obtain ⟨WS, hWS⟩ : ∃ WS, WS = (w'.setCell ⟨b8, 0, none⟩ (.int .i64 (Lib.idxOf l ul))).setCell ⟨b8, 1, none⟩ (.int .i64 (Lib.idxOf l uh)) := ⟨_, rfl⟩
            rw [← hWS]
            have hb8' : W1.heap.size ≤ b8 := by omega
            have HX78 := Lib.hid (show WS.heap[wr.heap.size]? = some (.cells #[.int .i64 uw, .int .i64 ul, .int .i64 uh] 80 (0, 0)) by
              rw [hWS]; exact (Below.heap_setCell _ _ _ _ (by show wr.heap.size ≠ b8; omega)).trans ((Below.heap_setCell _ _ _ _ (by show wr.heap.size ≠ b8; omega)).trans HX7b.out))
            have HX8 := Lib.hid (show WS.heap[b8]? = some (.cells #[.int .i64 (Lib.idxOf l ul), .int .i64 (Lib.idxOf l uh)] 27 (0, 0)) by
              rw [hWS]; exact heap_set_same _ (heap_set_same _ HHX8.out))
            have HBr := Lib.hid (show Below w.heap.size w WS by
              rw [hWS]; exact (HBr.out.setCell (p := ⟨b8, 0, none⟩) (by show w.heap.size ≤ b8; omega) _).setCell (p := ⟨b8, 1, none⟩) (by show w.heap.size ≤ b8; omega) _)
            have HBr0 := Lib.hid (show Below W1.heap.size W1 WS by
              rw [hWS]; exact (HBr0.out.setCell (p := ⟨b8, 0, none⟩) hb8' _).setCell (p := ⟨b8, 1, none⟩) hb8' _)
            have HZ78 := Lib.hid (Array.getElem?_eq_some_iff.1 HX78.out).1
            have HZ8 := Lib.hid (Array.getElem?_eq_some_iff.1 HX8.out).1
            have HOS := Lib.hid (show WS.ownsRow W1.heap.size 80 3 (.slice p5 S.length c5) S.length (tcells S) by
              rw [hWS]; exact own_setT (own_setT HO7.out HHX8.out (by decide)) (heap_set_same _ HHX8.out) (by decide))
            clear hWS HHX8 HX7b HO7
            refine Rs.region_gen 8 [[], [], [], [2], [1, 2, 3], [], [1, 2, 3, 4, 5], [1, 2, 3, 4, 5, 6]] [some 37, some 38, some 39, some 40, some 41, some 42, some 43, some 44] (spKt7 pl cl wr.heap.size b8 l uw (Lib.idxOf l ul) (Lib.idxOf l uh) (.slice p5 S.length c5)) (by kernel_rfl) (by kernel_rfl) rfl (spKt7_stable _ _ _ _ _ _ _ _ _) ?_ ?_
            · refine ⟨fun V w' hG hs => ?_, fun V w' hG hs => ?_, fun V w' hG hs => ?_, fun V w' hG hs => ?_, fun V w' hG hs => ?_, fun V w' hG hs => ?_, fun V w' hG hs => ?_, fun V w' hG hs => ?_, trivial⟩
              all_goals
                obtain ⟨k0, k1, k2⟩ := blk3 ((hG.block _ HZ78.out).trans HX78.out)
                obtain ⟨m0, m1⟩ := blk2 ((hG.block _ HZ8.out).trans HX8.out)
              · rw [if_pos (by rfl)]
                exact Rs.GrowL.value (v := (.slice p5 S.length c5)) (w' := w') (by simp [go_sem, Rs.look]) (Rs.Gr.refl _) rfl
              · rw [if_pos (by rfl)]
                exact Rs.GrowL.value (v := .slice pl l.length cl) (w' := w') (by simp [go_sem, Rs.look]) (Rs.Gr.refl _) rfl
              · rw [if_pos (by rfl)]
                exact Rs.GrowL.value (v := .pointer (some ⟨wr.heap.size, 0, none⟩)) (w' := w') (by simp [go_sem, Rs.look]) (Rs.Gr.refl _) rfl
              · have e2 : V 2 = .pointer (some ⟨wr.heap.size, 0, none⟩) := hs 2 (by simp)
                rw [if_pos (by rfl)]
                exact Rs.GrowL.value (v := .int .i64 uw) (w' := w') (by simp [go_sem, Rs.look, e2, k0]) (Rs.Gr.refl _) rfl
              · have e1 : V 1 = .slice pl l.length cl := hs 1 (by simp)
                have e2 : V 2 = .pointer (some ⟨wr.heap.size, 0, none⟩) := hs 2 (by simp)
                have e3 : V 3 = .int .i64 uw := hs 3 (by simp)
                rw [if_pos (by rfl)]
                refine Rs.GrowL.call (f := 131) (args := #[.slice pl l.length cl, .int .i64 uw]) (by simp [go_sem, Rs.look, e1, e3]) ?_
                refine (HIX.out _ w' (below_trans2 HBr.out hG)).mono ?_
                rintro e w2 ⟨rfl, rfl⟩
                exact ⟨_, rfl, Rs.Gr.refl _, rfl⟩
              · rw [if_pos (by rfl)]
                exact Rs.GrowL.value (v := .agg #[.int .i64 (Lib.idxOf l ul), .int .i64 (Lib.idxOf l uh)]) (w' := w') (by simp [go_sem, Rs.look, m0, m1]) (Rs.Gr.refl _) rfl
              · have e1 : V 1 = .slice pl l.length cl := hs 1 (by simp)
                have e2 : V 2 = .pointer (some ⟨wr.heap.size, 0, none⟩) := hs 2 (by simp)
                have e3 : V 3 = .int .i64 uw := hs 3 (by simp)
                have e4 : V 4 = .int .i64 (Lib.idxOf l uw) := hs 4 (by simp)
                have e5 : V 5 = .agg #[.int .i64 (Lib.idxOf l ul), .int .i64 (Lib.idxOf l uh)] := hs 5 (by simp)
                rw [if_pos (by rfl)]
                exact Rs.GrowL.value (v := .agg #[.int .i64 (Lib.idxOf l uw), .int .i64 (Lib.idxOf l ul), .int .i64 (Lib.idxOf l uh)]) (w' := w') (by simp [go_sem, Rs.look, e1, e2, e3, e4, e5]) (Rs.Gr.refl _) rfl
              · have e1 : V 1 = .slice pl l.length cl := hs 1 (by simp)
                have e2 : V 2 = .pointer (some ⟨wr.heap.size, 0, none⟩) := hs 2 (by simp)
                have e3 : V 3 = .int .i64 uw := hs 3 (by simp)
                have e4 : V 4 = .int .i64 (Lib.idxOf l uw) := hs 4 (by simp)
                have e5 : V 5 = .agg #[.int .i64 (Lib.idxOf l ul), .int .i64 (Lib.idxOf l uh)] := hs 5 (by simp)
                have e6 : V 6 = .agg #[.int .i64 (Lib.idxOf l uw), .int .i64 (Lib.idxOf l ul), .int .i64 (Lib.idxOf l uh)] := hs 6 (by simp)
                rw [if_pos (by rfl)]
                exact Rs.GrowL.value (v := .slice (some ⟨w'.heap.size, 0, none⟩) 1 1) (w' := w'.alloc (.cells #[.int .i64 (Lib.idxOf l uw), .int .i64 (Lib.idxOf l ul), .int .i64 (Lib.idxOf l uh)] 80)) (by simp [go_sem, Rs.look, e6]) (below1 _ _) ⟨_, rfl, by have := hG.size; have := HZ8.out; omega, heap_last _ _⟩
            · intro V w' hG hs
              have e0 : V 0 = (.slice p5 S.length c5) := hs 0 (by omega)
              have e1 : V 1 = .slice pl l.length cl := hs 1 (by omega)
              have e2 : V 2 = .pointer (some ⟨wr.heap.size, 0, none⟩) := hs 2 (by omega)
              have e3 : V 3 = .int .i64 uw := hs 3 (by omega)
              have e4 : V 4 = .int .i64 (Lib.idxOf l uw) := hs 4 (by omega)
              have e5 : V 5 = .agg #[.int .i64 (Lib.idxOf l ul), .int .i64 (Lib.idxOf l uh)] := hs 5 (by omega)
              have e6 : V 6 = .agg #[.int .i64 (Lib.idxOf l uw), .int .i64 (Lib.idxOf l ul), .int .i64 (Lib.idxOf l uh)] := hs 6 (by omega)
              have r7 := hs 7 (by omega)
              obtain ⟨p9, e7, hp9, hx9⟩ := r7
              simp only [Rs.canon, Rs.dstOf, List.range_succ, List.range_zero, List.nil_append, List.cons_append, List.foldl_cons, List.foldl_nil, List.drop_succ_cons, List.drop_zero, List.drop_nil, List.getElem?_toArray, List.getElem?_cons_succ, List.getElem?_cons_zero, Option.bind_some, Act.put, List.getD_cons_succ, List.getD_cons_zero, List.setIfInBounds_toArray, List.set_cons_succ, List.set_cons_zero]
              rw [e0, e1, e2, e3, e4, e5, e6, e7]
              clear e0 e1 e2 e3 e4 e5 e6 e7 hs
              have HOS := Lib.hid (own_below HOS.out hG)
              have HBr := Lib.hid (below_trans2 HBr.out hG)
              have HBr0 := Lib.hid (below_trans2 HBr0.out hG)
              have HX9 := Lib.hid hx9
              clear hG hx9
              go_wp2_with (at_builtin; refine wpList_append_own _ rfl _ _ 23 rfl W1.heap.size 80 j0 (.agg #[.int .i64 0, .int .i64 0, .int .i64 0]) 3 24 A_undTs hj0 hy0 hy1 hy2 rfl (by decide) _ _ _ rfl HOS.out ⟨p9, 0, none⟩ 1 1 [.int .i64 (Lib.idxOf l uw), .int .i64 (Lib.idxOf l ul), .int .i64 (Lib.idxOf l uh)] rfl rfl ?e1 ?e2 ?e3 ?e4 ?e5 ?_)
              case e1 => exact cell3_at HX9.out
              case e2 => intro u hu; simp at hu; rcases hu with rfl | rfl | rfl <;> rfl
              case e3 => unfold maxLen; omega
              case e4 => omega
              case e5 => have := HBr0.out.size; omega
              intro v' w8 hown8 hgrow _
              have HO8 := Lib.hid hown8
              have HB8 := Lib.hid (below_grown HBr0.out HOS.out (Nat.le_refl _) (by have := HBr0.out.size; omega) hgrow)
              clear hown8 hgrow
              go_wp2
              go_roundw
              case rel =>
                refine ⟨k + 1, by omega, by go_num, Lib.hid ?_, HB8⟩
                have e := HSN.out
                simp only [if_true] at e
                rw [e, List.length_append, tcells_snoc]
                have h8 := HO8.out
                rw [libIdx HE.out.1, libIdx HE.out.2, HW2.out] at h8
                first | exact h8 | (rw [hsz]; exact h8)
              case measure => simp [intOf]; omega
    · obtain rfl : k = t.turns.length := by omega
      go_wp2
      go_ret
      exact ⟨_, rfl, by have h := HO.out; have e := HS.out; rw [List.take_length] at e; rw [e]; exact own_base h (by omega), HBr.out⟩
end Go.Proofs.Ytadnggecnjdhiaa
set_option linter.unusedSimpArgs false
set_option linter.unusedVariables false
namespace Go.Proofs.Ytadnggecnjdhiaa
open Go.RowKit Tx
attribute [local go_sem] Oper.semAt_some

/-- what Keeps tells -/
def keeB (t : Text) (l : List Int) : Bool := if t.keptE l = 0 then t.keeps l else false
def keeN (t : Text) (l : List Int) : Int := if t.keptE l = 0 then t.wtOf l else 0
theorem kept_len {t : Text} {l : List Int} (h : t.keptE l = 0) : l.length ≤ t.words.length := by
  obtain ⟨_, _, h2, h3⟩ := keptE_zero h
  have key : ∀ (l : List Int) (a : Int) (n : Nat), (∀ x ∈ l, a ≤ x ∧ x < a + (n : Int)) → l.Pairwise (· < ·) → l.length ≤ n := by
    intro l
    induction l with
    | nil => intro a n _ _; simp
    | cons x l ih =>
      intro a n hx hp
      have hp := List.pairwise_cons.1 hp
      have h0 := hx x (by simp)
      have := ih (x + 1) (a + n - (x + 1)).toNat (fun y hy => by
        have h1 := hp.1 y hy
        have h2 := hx y (by simp [hy])
        omega) hp.2
      rw [List.length_cons]
      omega
  exact key l 0 t.words.length (fun x hx => by have := h2 x hx; unfold Text.len at this; omega) h3
def spKe4 (pw pt pl : Option Addr) (n m ln cw ct cl : Nat) (br : Int) (fv : Value) (kb : Bool) (wt : Int) : Nat → List Value → Value → World → Prop
  | 0, _, v, _ => v = .agg #[.slice pw n cw, .slice pt m ct, .int .i64 br, fv]
  | 1, _, v, _ => v = .slice pl ln cl
  | 2, _, v, _ => v = .bool kb
  | 3, _, v, _ => v = .agg #[.slice pw n cw, .slice pt m ct, .int .i64 br, fv]
  | 4, _, v, _ => v = .slice pl ln cl
  | 5, _, v, _ => v = .int .i64 wt
  | _, _, _, _ => False
theorem spKe4_stable (pw pt pl : Option Addr) (n m ln cw ct cl : Nat) (br : Int) (fv : Value) (kb : Bool) (wt : Int) : ∀ i L v w w', spKe4 pw pt pl n m ln cw ct cl br fv kb wt i L v w → Rs.Gr w w' → spKe4 pw pt pl n m ln cw ct cl br fv kb wt i L v w' := by
  intro i L v w w' h hg
  match i with
  | 0 => exact h
  | 1 => exact h
  | 2 => exact h
  | 3 => exact h
  | 4 => exact h
  | 5 => exact h
def spSr6 (pw pt pl : Option Addr) (n m ln cw ct cl A B : Nat) (br : Int) (fv : Value) (ws : List Word) (ts : List Turn) : Nat → List Value → Value → World → Prop
  | 0, _, v, _ => v = .agg #[.slice pw n cw, .slice pt m ct, .int .i64 br, fv]
  | 1, _, v, _ => v = .slice pl ln cl
  | 2, L, v, w => ∃ g, v = .slice (some ⟨g, 0, none⟩) ln ln ∧ w.ownsRow B 77 3 (.slice (some ⟨g, 0, none⟩) ln ln) ln (wcells ws)
  | 3, _, v, _ => v = .agg #[.slice pw n cw, .slice pt m ct, .int .i64 br, fv]
  | 4, _, v, _ => v = .slice pl ln cl
  | 5, L, v, w => ∃ p c, v = .slice p ts.length c ∧ w.ownsRow B 80 3 (.slice p ts.length c) ts.length (tcells ts)
  | 6, _, v, _ => v = .pointer (some ⟨A, 2, none⟩)
  | 7, _, v, _ => v = .int .i64 br
  | 8, L, v, w => ∃ g p c, v = .agg #[.slice (some ⟨g, 0, none⟩) ln ln, .slice p ts.length c, .int .i64 br] ∧ w.ownsRow B 77 3 (.slice (some ⟨g, 0, none⟩) ln ln) ln (wcells ws) ∧ w.ownsRow B 80 3 (.slice p ts.length c) ts.length (tcells ts)
  | _, _, _, _ => False
theorem spSr6_stable (pw pt pl : Option Addr) (n m ln cw ct cl A B : Nat) (br : Int) (fv : Value) (ws : List Word) (ts : List Turn) : ∀ i L v w w', spSr6 pw pt pl n m ln cw ct cl A B br fv ws ts i L v w → Rs.Gr w w' → spSr6 pw pt pl n m ln cw ct cl A B br fv ws ts i L v w' := by
  intro i L v w w' h hg
  match i with
  | 0 => exact h
  | 1 => exact h
  | 2 => obtain ⟨g, h1, h2⟩ := h; exact ⟨g, h1, own_below h2 hg⟩
  | 3 => exact h
  | 4 => exact h
  | 5 => obtain ⟨p, c, h1, h2⟩ := h; exact ⟨p, c, h1, own_below h2 hg⟩
  | 6 => exact h
  | 7 => exact h
  | 8 => obtain ⟨g, p, c, h1, h2, h3⟩ := h; exact ⟨g, p, c, h1, own_below h2 hg, own_below h3 hg⟩

set_option maxHeartbeats 1600000 in
theorem paidWords_any (t : Text) (ok : Text.Ok t) (pw : Option Addr) (cw : Nat) (v1 v2 v3 : Value) (w : World) (hW : Wds w pw t.words) :
    Calls Try.prog 125 #[.agg #[.slice pw t.words.length cw, v1, v2, v3]] w fun e w' => e = .returned (.int .i64 (paidN t.words)) ∧ Below w.heap.size w w' := by
  have hn12 := ok.n12
  have HW := Lib.hid hW
  have HB := Lib.hid (below1 w (.cells #[.slice pw t.words.length cw, v1, v2, v3] 125))
  have HX := Lib.hid (heap_last w (.cells #[.slice pw t.words.length cw, v1, v2, v3] 125))
  have k0 := blk_cells HX.out 0 _ rfl
  clear hW ok
  go_enter Try.func125, Try.ntmps125
  go_wp2_with fail
  generalize w.alloc (.cells #[.slice pw t.words.length cw, v1, v2, v3] 125) = W1 at HB HX k0 ⊢
  clear k0
  go_loopw [3, 10] (fun s i wr => ∃ k : Nat, k ≤ t.words.length ∧ i = .int .i64 k ∧ s = .int .i64 (paidN (t.words.take k)) ∧ Hid (Below w.heap.size w wr)) (fun _ i _ => t.words.length - (intOf i).toNat)
  case atStart => exact ⟨0, Nat.zero_le _, rfl, rfl, HB⟩
  case round =>
    obtain ⟨k, hk, rfl, rfl, HBr⟩ := hrel
    have hbd := paidN_bd (t.words.take k)
    have htl : ((t.words.take k).length : Int) ≤ k := by rw [List.length_take]; omega
    by_cases hlt : k < t.words.length
    · have hlt' : (k : Int) < t.words.length := by omega
      obtain ⟨b, o, x, rfl, hb, hxx, d0, d1, d2⟩ := (HW.out.below HBr.out).at hlt
      have HS := Lib.hid (show paidN (t.words.take (k + 1)) = paidN (t.words.take k) + (if 3 < x.syl then 2 else 1) by rw [take_snocD default hlt, ← hxx, paidN_snoc])
      generalize paidN (t.words.take k) = s at hbd HS ⊢
      clear hxx
      by_cases h3 : 3 < x.syl
      · have e := HS.out
        rw [if_pos h3] at e
        have HE := Lib.hid e
        clear HS e
        go_wp2
        go_roundw
        case rel => exact ⟨k + 1, by omega, by go_num, by rw [HE.out]; go_num, Lib.hid (HBr.out.trans ((below1 _ _).mono HBr.out.size))⟩
        case measure => simp [intOf]; omega
      · have e := HS.out
        rw [if_neg h3] at e
        have HE := Lib.hid e
        clear HS e
        go_wp2
        go_roundw
        case rel => exact ⟨k + 1, by omega, by go_num, by rw [HE.out], Lib.hid (HBr.out.trans ((below1 _ _).mono HBr.out.size))⟩
        case measure => simp [intOf]; omega
    · obtain rfl : k = t.words.length := by omega
      have HF := Lib.hid (List.take_length (l := t.words))
      go_wp2
      go_ret
      exact ⟨by rw [HF.out]; rfl, HBr.out⟩
set_option maxHeartbeats 1600000 in
theorem Price_any (t : Text) (pc : Int) (hl1 : t.words.length ≤ 1000000) (hl2 : t.turns.length ≤ 1000000) (pw pt : Option Addr) (cw ct : Nat) (w : World) (hW : TxAt w t pw pt) :
    Calls Try.prog 48 #[.agg #[.slice pw t.words.length cw, .slice pt t.turns.length ct, .int .i64 t.breath], .int .i64 pc] w fun e w' => e = .returned (.tuple #[.int .i64 (t.priceV pc), .int .i64 (t.priceE pc)]) ∧ Below w.heap.size w w' := by
  by_cases he : t.err = 0
  · have ok := err_ok he
    have HS := Lib.hid (fun W (h : Below w.heap.size w W) => open_ok t he pw pt cw ct W (hW.below h))
    have HP := Lib.hid (fun W (h : Below w.heap.size w W) => paidWords_any t ok pw cw (.slice pt t.turns.length ct) (.int .i64 t.breath) (.func (.func 138) #[.agg #[.slice pw t.words.length cw, .slice pt t.turns.length ct, .int .i64 t.breath, .nilFunc]] #[]) W (hW.words.below h))
    have hbd := paidN_bd t.words
    have hn12 := ok.n12
    cases hb : btw pc 1 100 with
    | true =>
      have h2 : t.priceE pc = 0 := by unfold Text.priceE; rw [if_neg (by simpa using he), hb]; rfl
      have h1 : t.priceV pc = paidN t.words * pc := by unfold Text.priceV; rw [if_pos h2]
      have hbt := btw_true hb
      have HBT := Lib.hid hb
      rw [h1, h2]
      clear hW he h1 h2 ok hb
      generalize paidN t.words = s at HP hbd ⊢
      have hm : IntKind.wrap .i64 (s * pc) = s * pc := by
        have h1 : 0 ≤ s * pc := Int.mul_nonneg (by omega) (by omega)
        have h2 : s * pc ≤ 24 * 100 := Int.mul_le_mul (by omega) (by omega) (by omega) (by omega)
        exact IntWalk.i64_in _ (by omega)
      go_enter Try.func48, Try.ntmps48
      go_wp2_with fail
      refine (HS.out _ (below1 _ _)).mono ?_
      rintro e w5 ⟨rfl, hB5⟩
      have HB5 := Lib.hid (join (below1 _ _) hB5)
      clear hB5
      go_wp2_with fail
      refine (between_any pc 1 100 _).mono ?_
      rintro e w6 ⟨rfl, rfl⟩
      rw [HBT.out]
      go_wp2_with fail
      refine (HP.out _ (join HB5.out (below1 _ _))).mono ?_
      rintro e w7 ⟨rfl, hB7⟩
      go_wp2
      go_ret2
      exact ⟨rfl, join (join HB5.out (below1 _ _)) hB7⟩
    | false =>
      have h2 : t.priceE pc = 3 := by unfold Text.priceE; rw [if_neg (by simpa using he), hb]; rfl
      have h1 : t.priceV pc = 0 := by unfold Text.priceV; rw [h2]; rfl
      have HBT := Lib.hid hb
      rw [h1, h2]
      clear hW he h1 h2 ok hb hbd
      go_enter Try.func48, Try.ntmps48
      go_wp2_with fail
      refine (HS.out _ (below1 _ _)).mono ?_
      rintro e w5 ⟨rfl, hB5⟩
      have HB5 := Lib.hid (join (below1 _ _) hB5)
      clear hB5
      go_wp2_with fail
      refine (between_any pc 1 100 _).mono ?_
      rintro e w6 ⟨rfl, rfl⟩
      rw [HBT.out]
      go_wp2
      go_ret2
      exact ⟨rfl, join HB5.out (below1 _ _)⟩
  · have h2 : t.priceE pc = t.err := by unfold Text.priceE; rw [if_pos he]
    have h1 : t.priceV pc = 0 := by unfold Text.priceV; rw [h2, if_neg he]
    rw [h1, h2]
    have HS := Lib.hid (fun W (h : Below w.heap.size w W) => open_bad t he hl1 hl2 pw pt cw ct W (hW.below h))
    have HE : (t.err != 0) = true := by simpa using he
    clear hW he h1 h2
    generalize t.err = er at HE HS ⊢
    go_enter Try.func48, Try.ntmps48
    go_wp2_with fail
    refine (HS.out _ (below1 _ _)).mono ?_
    rintro e w5 ⟨rfl, hB5⟩
    have HB5 := Lib.hid (join (below1 _ _) hB5)
    clear hB5
    go_wp2
    go_ret2
    exact ⟨rfl, join HB5.out (below1 _ _)⟩
set_option maxHeartbeats 4000000 in
set_option maxRecDepth 100000 in
theorem Keeps_any (t : Text) (l : List Int) (hl1 : t.words.length ≤ 1000000) (hl2 : t.turns.length ≤ 1000000) (hll : l.length ≤ 1000000) (pw pt pl : Option Addr) (cw ct cl : Nat) (w : World) (hW : TxAt w t pw pt) (hL : Ints w pl l) :
    Calls Try.prog 44 #[.agg #[.slice pw t.words.length cw, .slice pt t.turns.length ct, .int .i64 t.breath], .slice pl l.length cl] w fun e w' => e = .returned (.tuple #[.bool (keeB t l), .int .i64 (keeN t l), .int .i64 (t.keptE l)]) ∧ Below w.heap.size w w' := by
  have HS := Lib.hid (fun W (h : Below w.heap.size w W) => openKept_any t l hl1 hl2 hll pw pt pl cw ct cl W (hW.below h) (hL.below h))
  by_cases he : t.keptE l = 0
  · have hk := keptE_zero he
    have ok := err_ok hk.1
    have h1 : keeB t l = t.keeps l := if_pos he
    have h2 : keeN t l = t.wtOf l := if_pos he
    have hlen := kept_len he
    have hn12 := ok.n12
    have HKS := Lib.hid (fun W (h : Below w.heap.size w W) => keepSense_any t ok l hll pt pl ct cl (.slice pw t.words.length cw) (.int .i64 t.breath) (.func (.func 138) #[.agg #[.slice pw t.words.length cw, .slice pt t.turns.length ct, .int .i64 t.breath, .nilFunc]] #[]) W (hW.turns.below h) (hL.below h))
    have HWT := Lib.hid (fun W (h : Below w.heap.size w W) => weight_any t ok l (by omega) hk.2.2.1 pw pl cw cl (.slice pt t.turns.length ct) (.int .i64 t.breath) (.func (.func 138) #[.agg #[.slice pw t.words.length cw, .slice pt t.turns.length ct, .int .i64 t.breath, .nilFunc]] #[]) W (hW.words.below h) (hL.below h))
    rw [h1, h2, he]
    have HE := Lib.hid he
    clear hW hL he h1 h2 ok hk
    generalize t.keeps l = kb at HKS ⊢
    generalize t.wtOf l = wt at HWT ⊢
    go_enter Try.func44, Try.ntmps44
    go_wp2_with fail
    refine (HS.out _ (below1 _ _)).mono ?_
    rintro e w5 ⟨rfl, hB5⟩
    rw [if_pos HE.out, HE.out]
    unfold wkOf
    have HB5 := Lib.hid (join (join (below1 _ _) hB5) (below1 w5 (.cells #[.slice pw t.words.length cw, .slice pt t.turns.length ct, .int .i64 t.breath, (.func (.func 138) #[.agg #[.slice pw t.words.length cw, .slice pt t.turns.length ct, .int .i64 t.breath, .nilFunc]] #[])] 125)))
    have HX5 := Lib.hid (heap_last w5 (.cells #[.slice pw t.words.length cw, .slice pt t.turns.length ct, .int .i64 t.breath, (.func (.func 138) #[.agg #[.slice pw t.words.length cw, .slice pt t.turns.length ct, .int .i64 t.breath, .nilFunc]] #[])] 125))
    clear hB5
    go_wp2_with fail
    refine Rs.region_gen 6 [[], [], [0, 1], [], [], [0, 1, 2, 3, 4]] [some 18, some 19, some 20, some 21, some 22, some 23] (spKe4 pw pt pl t.words.length t.turns.length l.length cw ct cl t.breath (.func (.func 138) #[.agg #[.slice pw t.words.length cw, .slice pt t.turns.length ct, .int .i64 t.breath, .nilFunc]] #[]) kb wt) (by kernel_rfl) (by kernel_rfl) rfl (spKe4_stable _ _ _ _ _ _ _ _ _ _ _ _ _) ?_ ?_
    · refine ⟨fun V w' hG hs => ?_, fun V w' hG hs => ?_, fun V w' hG hs => ?_, fun V w' hG hs => ?_, fun V w' hG hs => ?_, fun V w' hG hs => ?_, trivial⟩
      all_goals
        have hq := (hG.block _ (Array.getElem?_eq_some_iff.1 HX5.out).1).trans HX5.out
        have k0 := blk_cells hq 0 _ rfl
        have k1 := blk_cells hq 1 _ rfl
        have k2 := blk_cells hq 2 _ rfl
        have k3 := blk_cells hq 3 _ rfl
      · rw [if_pos (by rfl)]
        exact Rs.GrowL.value (v := .agg #[.slice pw t.words.length cw, .slice pt t.turns.length ct, .int .i64 t.breath, (.func (.func 138) #[.agg #[.slice pw t.words.length cw, .slice pt t.turns.length ct, .int .i64 t.breath, .nilFunc]] #[])]) (w' := w') (by simp [go_sem, Rs.look, k0, k1, k2, k3]) (Rs.Gr.refl _) rfl
      · rw [if_pos (by rfl)]
        exact Rs.GrowL.value (v := .slice pl l.length cl) (w' := w') (by simp [go_sem, Rs.look]) (Rs.Gr.refl _) rfl
      · have e0 : V 0 = .agg #[.slice pw t.words.length cw, .slice pt t.turns.length ct, .int .i64 t.breath, (.func (.func 138) #[.agg #[.slice pw t.words.length cw, .slice pt t.turns.length ct, .int .i64 t.breath, .nilFunc]] #[])] := hs 0 (by simp)
        have e1 : V 1 = .slice pl l.length cl := hs 1 (by simp)
        rw [if_pos (by rfl)]
        refine Rs.GrowL.call (f := 118) (args := #[.agg #[.slice pw t.words.length cw, .slice pt t.turns.length ct, .int .i64 t.breath, .func (.func 138) #[.agg #[.slice pw t.words.length cw, .slice pt t.turns.length ct, .int .i64 t.breath, .nilFunc]] #[]], .slice pl l.length cl]) (by simp [go_sem, Rs.look, e0, e1]) ?_
        refine (HKS.out w' (below_trans2 HB5.out hG)).mono ?_
        rintro e w2 ⟨rfl, hB2⟩
        exact ⟨_, rfl, hB2, rfl⟩
      · rw [if_pos (by rfl)]
        exact Rs.GrowL.value (v := .agg #[.slice pw t.words.length cw, .slice pt t.turns.length ct, .int .i64 t.breath, (.func (.func 138) #[.agg #[.slice pw t.words.length cw, .slice pt t.turns.length ct, .int .i64 t.breath, .nilFunc]] #[])]) (w' := w') (by simp [go_sem, Rs.look, k0, k1, k2, k3]) (Rs.Gr.refl _) rfl
      · rw [if_pos (by rfl)]
        exact Rs.GrowL.value (v := .slice pl l.length cl) (w' := w') (by simp [go_sem, Rs.look]) (Rs.Gr.refl _) rfl
      · have e0 : V 0 = .agg #[.slice pw t.words.length cw, .slice pt t.turns.length ct, .int .i64 t.breath, (.func (.func 138) #[.agg #[.slice pw t.words.length cw, .slice pt t.turns.length ct, .int .i64 t.breath, .nilFunc]] #[])] := hs 0 (by simp)
        have e1 : V 1 = .slice pl l.length cl := hs 1 (by simp)
        have e2 : V 2 = .bool kb := hs 2 (by simp)
        have e3 : V 3 = .agg #[.slice pw t.words.length cw, .slice pt t.turns.length ct, .int .i64 t.breath, (.func (.func 138) #[.agg #[.slice pw t.words.length cw, .slice pt t.turns.length ct, .int .i64 t.breath, .nilFunc]] #[])] := hs 3 (by simp)
        have e4 : V 4 = .slice pl l.length cl := hs 4 (by simp)
        rw [if_pos (by rfl)]
        refine Rs.GrowL.call (f := 119) (args := #[.agg #[.slice pw t.words.length cw, .slice pt t.turns.length ct, .int .i64 t.breath, .func (.func 138) #[.agg #[.slice pw t.words.length cw, .slice pt t.turns.length ct, .int .i64 t.breath, .nilFunc]] #[]], .slice pl l.length cl]) (by simp [go_sem, Rs.look, e3, e4]) ?_
        refine (HWT.out w' (below_trans2 HB5.out hG)).mono ?_
        rintro e w2 ⟨rfl, hB2⟩
        exact ⟨_, rfl, hB2, rfl⟩
    · intro V w' hG hs
      have e0 : V 0 = .agg #[.slice pw t.words.length cw, .slice pt t.turns.length ct, .int .i64 t.breath, (.func (.func 138) #[.agg #[.slice pw t.words.length cw, .slice pt t.turns.length ct, .int .i64 t.breath, .nilFunc]] #[])] := hs 0 (by omega)
      have e1 : V 1 = .slice pl l.length cl := hs 1 (by omega)
      have e2 : V 2 = .bool kb := hs 2 (by omega)
      have e3 : V 3 = .agg #[.slice pw t.words.length cw, .slice pt t.turns.length ct, .int .i64 t.breath, (.func (.func 138) #[.agg #[.slice pw t.words.length cw, .slice pt t.turns.length ct, .int .i64 t.breath, .nilFunc]] #[])] := hs 3 (by omega)
      have e4 : V 4 = .slice pl l.length cl := hs 4 (by omega)
      have e5 : V 5 = .int .i64 wt := hs 5 (by omega)
      simp only [Rs.canon, Rs.dstOf, List.range_succ, List.range_zero, List.nil_append, List.cons_append, List.foldl_cons, List.foldl_nil, List.drop_succ_cons, List.drop_zero, List.drop_nil, List.getElem?_toArray, List.getElem?_cons_succ, List.getElem?_cons_zero, Option.bind_some, Act.put, List.getD_cons_succ, List.getD_cons_zero, List.setIfInBounds_toArray, List.set_cons_succ, List.set_cons_zero]
      rw [e0, e1, e2, e3, e4, e5]
      clear e0 e1 e2 e3 e4 e5 hs
      have hB := below_trans2 HB5.out hG
      clear hG
      go_wp2
      go_ret3
      exact ⟨rfl, hB⟩
  · have h1 : keeB t l = false := if_neg he
    have h2 : keeN t l = 0 := if_neg he
    have HE := Lib.hid he
    have hne : (t.keptE l != 0) = true := by simpa using he
    rw [h1, h2]
    clear hW hL he h1 h2
    go_enter Try.func44, Try.ntmps44
    go_wp2_with fail
    refine (HS.out _ (below1 _ _)).mono ?_
    rintro e w5 ⟨rfl, hB5⟩
    rw [if_neg HE.out]
    unfold wkNo
    have HB5 := Lib.hid (join (below1 _ _) hB5)
    clear hB5
    go_wp2
    go_ret3
    exact ⟨rfl, join HB5.out (below1 _ _)⟩
/-- what Shorter tells -/
def shoT (t : Text) (l : List Int) : Text := if t.keptE l = 0 ∧ t.keeps l = true then t.shortT l else ⟨[], [], 0⟩
def shoE (t : Text) (l : List Int) : Int := if t.keptE l = 0 then (if t.keeps l then 0 else 8) else t.keptE l
/-- a text that is told, in rows of its own -/
def TextPost (E1 E2 : TypeId) (x : Text) (er : Int) (w : World) (e : Ending) (w' : World) : Prop := ∃ p q c d, e = .returned (.tuple #[.agg #[.slice p x.words.length c, .slice q x.turns.length d, .int .i64 x.breath], .int .i64 er]) ∧ w'.ownsRow w.heap.size E1 3 (.slice p x.words.length c) x.words.length (wcells x.words) ∧ w'.ownsRow w.heap.size E2 3 (.slice q x.turns.length d) x.turns.length (tcells x.turns) ∧ Below w.heap.size w w'
set_option maxHeartbeats 4000000 in
set_option maxRecDepth 100000 in
theorem Shorter_any (t : Text) (l : List Int) (hl1 : t.words.length ≤ 1000000) (hl2 : t.turns.length ≤ 1000000) (hll : l.length ≤ 1000000) (pw pt pl : Option Addr) (cw ct cl : Nat) (hcw : t.words.length ≤ cw ∧ cw ≤ maxLen) (w : World) (hW : TxAt w t pw pt) (hL : Ints w pl l) :
    Calls Try.prog 46 #[.agg #[.slice pw t.words.length cw, .slice pt t.turns.length ct, .int .i64 t.breath], .slice pl l.length cl] w (TextPost 77 80 (shoT t l) (shoE t l) w) := by
  have HS := Lib.hid (fun W (h : Below w.heap.size w W) => openKept_any t l hl1 hl2 hll pw pt pl cw ct cl W (hW.below h) (hL.below h))
  by_cases he : t.keptE l = 0
  · have hk := keptE_zero he
    have ok := err_ok hk.1
    have hlen := kept_len he
    have hn12 := ok.n12
    have HKS := Lib.hid (fun W (h : Below w.heap.size w W) => keepSense_any t ok l hll pt pl ct cl (.slice pw t.words.length cw) (.int .i64 t.breath) (.func (.func 138) #[.agg #[.slice pw t.words.length cw, .slice pt t.turns.length ct, .int .i64 t.breath, .nilFunc]] #[]) W (hW.turns.below h) (hL.below h))
    have HKW := Lib.hid (fun W (h : Below w.heap.size w W) => keptWords_any t ok l (by omega) hk.2.2.1 hk.2.2.2 pw pl cw cl hcw (.slice pt t.turns.length ct) (.int .i64 t.breath) (.func (.func 138) #[.agg #[.slice pw t.words.length cw, .slice pt t.turns.length ct, .int .i64 t.breath, .nilFunc]] #[]) W (hW.words.below h) (hL.below h))
    have HKT := Lib.hid (fun W (h : Below w.heap.size w W) => keptTurns_any t ok l (by omega) pt pl ct cl (.slice pw t.words.length cw) (.int .i64 t.breath) (.func (.func 138) #[.agg #[.slice pw t.words.length cw, .slice pt t.turns.length ct, .int .i64 t.breath, .nilFunc]] #[]) W (hW.turns.below h) (hL.below h))
    have HE := Lib.hid he
    cases hks : t.keeps l with
    | false =>
      have h1 : shoT t l = ⟨[], [], 0⟩ := by unfold shoT; rw [if_neg (by rw [hks]; simp)]
      have h2 : shoE t l = 8 := by unfold shoE; rw [if_pos he, hks]; rfl
      rw [h1, h2]
      have HK := Lib.hid hks
      clear hW hL he h1 h2 ok hk hks HKW HKT
      go_enter Try.func46, Try.ntmps46
      go_wp2_with fail
      refine (HS.out _ ((below1 _ _).alloc (by simp) _)).mono ?_
      rintro e w5 ⟨rfl, hB5⟩
      rw [if_pos HE.out, HE.out]
      unfold wkOf
      have hz5 : w.heap.size + 1 < w5.heap.size := by have := hB5.size; simp at this; omega
      have HRES := Lib.hid (show w5.heap[w.heap.size + 1]? = some (.cells #[.slice none 0 0, .slice none 0 0, .int .i64 0] 25 (0, 0)) by
        rw [hB5.block _ (by simp)]
        have := heap_last (w.alloc (.cells #[.slice pw t.words.length cw, .slice pt t.turns.length ct, .int .i64 t.breath] 25)) (.cells #[.slice none 0 0, .slice none 0 0, .int .i64 0] 25)
        rwa [World.size_alloc] at this)
      have HT5 := Lib.hid (show w5.heap[w.heap.size]? = some (.cells #[.slice pw t.words.length cw, .slice pt t.turns.length ct, .int .i64 t.breath] 25 (0, 0)) by
        rw [hB5.block _ (by simp; omega), Below.heap_alloc _ _ _ (by simp)]; exact heap_last _ _)
      have hbn := below1 w5 (.cells #[.slice pw t.words.length cw, .slice pt t.turns.length ct, .int .i64 t.breath, (.func (.func 138) #[.agg #[.slice pw t.words.length cw, .slice pt t.turns.length ct, .int .i64 t.breath, .nilFunc]] #[])] 125)
      have HB6 := Lib.hid (join (join ((below1 _ _).alloc (by simp) _) hB5) hbn)
      have HX6 := Lib.hid (heap_last w5 (.cells #[.slice pw t.words.length cw, .slice pt t.turns.length ct, .int .i64 t.breath, (.func (.func 138) #[.agg #[.slice pw t.words.length cw, .slice pt t.turns.length ct, .int .i64 t.breath, .nilFunc]] #[])] 125))
      have HRES := Lib.hid ((hbn.block _ hz5).trans HRES.out)
      have HT6 := Lib.hid ((hbn.block w.heap.size (by omega)).trans HT5.out)
      have HZ6 := Lib.hid (show w.heap.size + 1 < (w5.alloc (.cells #[.slice pw t.words.length cw, .slice pt t.turns.length ct, .int .i64 t.breath, (.func (.func 138) #[.agg #[.slice pw t.words.length cw, .slice pt t.turns.length ct, .int .i64 t.breath, .nilFunc]] #[])] 125)).heap.size by rw [World.size_alloc]; omega)
      have k0 := blk_cells HX6.out 0 _ rfl
      have k1 := blk_cells HX6.out 1 _ rfl
      have k2 := blk_cells HX6.out 2 _ rfl
      have k3 := blk_cells HX6.out 3 _ rfl
      clear hB5 hbn HT5
      go_wp2_with fail
      refine (HKS.out _ HB6.out).mono ?_
      rintro e w7 ⟨rfl, hB7⟩
      rw [HK.out]
      have HRES := Lib.hid ((hB7.block _ (by have := HZ6.out; omega)).trans HRES.out)
      have hz7 : w.heap.size + 1 < w7.heap.size := by have := hB7.size; have := HZ6.out; omega
      have HB6 := Lib.hid (HB6.out.trans (hB7.mono HB6.out.size))
      have z : ∀ i, w7.frozen? ⟨w.heap.size + 1, i, none⟩ = false := fun i => by simp [World.frozen?, HRES.out]
      obtain ⟨r0, r1, r2⟩ := blk3 HRES.out
      clear hB7
      go_wp2
      refine bodyPost_ret (v := .tuple #[.agg #[.slice none 0 0, .slice none 0 0, .int .i64 0], .int .i64 8]) (by simp [results, Try.results46, go_sem, hz7, r0, r1, r2]) rfl ⟨none, none, 0, 0, rfl, own_none _ _ _ _, own_none _ _ _ _, ?_⟩
      have hz9 := HB6.out.size
      repeat' (first | exact HB6.out | apply belS | apply belA | apply belD)
      all_goals first | omega | (simp; done) | (simp; omega)
    | true =>
      have h1 : shoT t l = t.shortT l := by unfold shoT; rw [if_pos ⟨he, hks⟩]
      have h2 : shoE t l = 0 := by unfold shoE; rw [if_pos he, hks]; rfl
      rw [h1, h2]
      have HK := Lib.hid hks
      have HWL := Lib.hid (shortW_len t.words l t.words.length)
      clear hW hL he h1 h2 ok hk hks
      go_enter Try.func46, Try.ntmps46
      go_wp2_with fail
      refine (HS.out _ ((below1 _ _).alloc (by simp) _)).mono ?_
      rintro e w5 ⟨rfl, hB5⟩
      rw [if_pos HE.out, HE.out]
      unfold wkOf
      have hz5 : w.heap.size + 1 < w5.heap.size := by have := hB5.size; simp at this; omega
      have HRES := Lib.hid (show w5.heap[w.heap.size + 1]? = some (.cells #[.slice none 0 0, .slice none 0 0, .int .i64 0] 25 (0, 0)) by
        rw [hB5.block _ (by simp)]
        have := heap_last (w.alloc (.cells #[.slice pw t.words.length cw, .slice pt t.turns.length ct, .int .i64 t.breath] 25)) (.cells #[.slice none 0 0, .slice none 0 0, .int .i64 0] 25)
        rwa [World.size_alloc] at this)
      have HT5 := Lib.hid (show w5.heap[w.heap.size]? = some (.cells #[.slice pw t.words.length cw, .slice pt t.turns.length ct, .int .i64 t.breath] 25 (0, 0)) by
        rw [hB5.block _ (by simp; omega), Below.heap_alloc _ _ _ (by simp)]; exact heap_last _ _)
      have hbn := below1 w5 (.cells #[.slice pw t.words.length cw, .slice pt t.turns.length ct, .int .i64 t.breath, (.func (.func 138) #[.agg #[.slice pw t.words.length cw, .slice pt t.turns.length ct, .int .i64 t.breath, .nilFunc]] #[])] 125)
      have HB6 := Lib.hid (join (join ((below1 _ _).alloc (by simp) _) hB5) hbn)
      have HX6 := Lib.hid (heap_last w5 (.cells #[.slice pw t.words.length cw, .slice pt t.turns.length ct, .int .i64 t.breath, (.func (.func 138) #[.agg #[.slice pw t.words.length cw, .slice pt t.turns.length ct, .int .i64 t.breath, .nilFunc]] #[])] 125))
      have HRES := Lib.hid ((hbn.block _ hz5).trans HRES.out)
      have HT6 := Lib.hid ((hbn.block w.heap.size (by omega)).trans HT5.out)
      have HZ6 := Lib.hid (show w.heap.size + 1 < (w5.alloc (.cells #[.slice pw t.words.length cw, .slice pt t.turns.length ct, .int .i64 t.breath, (.func (.func 138) #[.agg #[.slice pw t.words.length cw, .slice pt t.turns.length ct, .int .i64 t.breath, .nilFunc]] #[])] 125)).heap.size by rw [World.size_alloc]; omega)
      have k0 := blk_cells HX6.out 0 _ rfl
      have k1 := blk_cells HX6.out 1 _ rfl
      have k2 := blk_cells HX6.out 2 _ rfl
      have k3 := blk_cells HX6.out 3 _ rfl
      clear hB5 hbn HT5
      go_wp2_with fail
      refine (HKS.out _ HB6.out).mono ?_
      rintro e w7 ⟨rfl, hB7⟩
      rw [HK.out]
      have HRES := Lib.hid ((hB7.block _ (by have := HZ6.out; omega)).trans HRES.out)
      have HT6 := Lib.hid ((hB7.block _ (by have := HZ6.out; omega)).trans HT6.out)
      have HX6 := Lib.hid ((hB7.block _ (Array.getElem?_eq_some_iff.1 HX6.out).1).trans HX6.out)
      have HZ6 := Lib.hid (Nat.lt_of_lt_of_le HZ6.out hB7.size)
      have HB6 := Lib.hid (HB6.out.trans (hB7.mono HB6.out.size))
      clear hB7 k0 k1 k2 k3
      go_wp2_with fail
      refine Rs.region_gen 9 [[], [], [0, 1], [], [], [0, 1, 2, 3, 4], [], [6], [0, 1, 2, 3, 4, 5, 6, 7]] [some 23, some 24, some 25, some 26, some 27, some 28, some 29, some 30, some 31] (spSr6 pw pt pl t.words.length t.turns.length l.length cw ct cl w.heap.size w.heap.size t.breath (.func (.func 138) #[.agg #[.slice pw t.words.length cw, .slice pt t.turns.length ct, .int .i64 t.breath, .nilFunc]] #[]) (shortW t.words l t.words.length) (shortTs t.turns l)) (by kernel_rfl) (by kernel_rfl) rfl (spSr6_stable _ _ _ _ _ _ _ _ _ _ _ _ _ _ _) ?_ ?_
      · refine ⟨fun V w' hG hs => ?_, fun V w' hG hs => ?_, fun V w' hG hs => ?_, fun V w' hG hs => ?_, fun V w' hG hs => ?_, fun V w' hG hs => ?_, fun V w' hG hs => ?_, fun V w' hG hs => ?_, fun V w' hG hs => ?_, trivial⟩
        all_goals
          have hq := (hG.block _ (Array.getElem?_eq_some_iff.1 HX6.out).1).trans HX6.out
          have k0 := blk_cells hq 0 _ rfl
          have k1 := blk_cells hq 1 _ rfl
          have k2 := blk_cells hq 2 _ rfl
          have k3 := blk_cells hq 3 _ rfl
          have hqt := (hG.block _ (Array.getElem?_eq_some_iff.1 HT6.out).1).trans HT6.out
          obtain ⟨j0, j1, j2⟩ := blk3 hqt
        · rw [if_pos (by rfl)]
          exact Rs.GrowL.value (v := .agg #[.slice pw t.words.length cw, .slice pt t.turns.length ct, .int .i64 t.breath, (.func (.func 138) #[.agg #[.slice pw t.words.length cw, .slice pt t.turns.length ct, .int .i64 t.breath, .nilFunc]] #[])]) (w' := w') (by simp [go_sem, Rs.look, k0, k1, k2, k3]) (Rs.Gr.refl _) rfl
        · rw [if_pos (by rfl)]
          exact Rs.GrowL.value (v := .slice pl l.length cl) (w' := w') (by simp [go_sem, Rs.look]) (Rs.Gr.refl _) rfl
        · have e0 : V 0 = .agg #[.slice pw t.words.length cw, .slice pt t.turns.length ct, .int .i64 t.breath, (.func (.func 138) #[.agg #[.slice pw t.words.length cw, .slice pt t.turns.length ct, .int .i64 t.breath, .nilFunc]] #[])] := hs 0 (by simp)
          have e1 : V 1 = .slice pl l.length cl := hs 1 (by simp)
          rw [if_pos (by rfl)]
          refine Rs.GrowL.call (f := 122) (args := #[.agg #[.slice pw t.words.length cw, .slice pt t.turns.length ct, .int .i64 t.breath, .func (.func 138) #[.agg #[.slice pw t.words.length cw, .slice pt t.turns.length ct, .int .i64 t.breath, .nilFunc]] #[]], .slice pl l.length cl]) (by simp [go_sem, Rs.look, e0, e1]) ?_
          refine (HKW.out w' (below_trans2 HB6.out hG)).mono ?_
          rintro e w2 ⟨g, rfl, ho, hB2⟩
          exact ⟨_, rfl, hB2, g, rfl, own_base ho (by have := hG.size; have := HZ6.out; omega)⟩
        · rw [if_pos (by rfl)]
          exact Rs.GrowL.value (v := .agg #[.slice pw t.words.length cw, .slice pt t.turns.length ct, .int .i64 t.breath, (.func (.func 138) #[.agg #[.slice pw t.words.length cw, .slice pt t.turns.length ct, .int .i64 t.breath, .nilFunc]] #[])]) (w' := w') (by simp [go_sem, Rs.look, k0, k1, k2, k3]) (Rs.Gr.refl _) rfl
        · rw [if_pos (by rfl)]
          exact Rs.GrowL.value (v := .slice pl l.length cl) (w' := w') (by simp [go_sem, Rs.look]) (Rs.Gr.refl _) rfl
        · have e0 : V 0 = .agg #[.slice pw t.words.length cw, .slice pt t.turns.length ct, .int .i64 t.breath, (.func (.func 138) #[.agg #[.slice pw t.words.length cw, .slice pt t.turns.length ct, .int .i64 t.breath, .nilFunc]] #[])] := hs 0 (by simp)
          have e1 : V 1 = .slice pl l.length cl := hs 1 (by simp)
          have r2 := hs 2 (by simp)
          have e3 : V 3 = .agg #[.slice pw t.words.length cw, .slice pt t.turns.length ct, .int .i64 t.breath, (.func (.func 138) #[.agg #[.slice pw t.words.length cw, .slice pt t.turns.length ct, .int .i64 t.breath, .nilFunc]] #[])] := hs 3 (by simp)
          have e4 : V 4 = .slice pl l.length cl := hs 4 (by simp)
          rw [if_pos (by rfl)]
          refine Rs.GrowL.call (f := 123) (args := #[.agg #[.slice pw t.words.length cw, .slice pt t.turns.length ct, .int .i64 t.breath, .func (.func 138) #[.agg #[.slice pw t.words.length cw, .slice pt t.turns.length ct, .int .i64 t.breath, .nilFunc]] #[]], .slice pl l.length cl]) (by simp [go_sem, Rs.look, e3, e4]) ?_
          refine (HKT.out w' (below_trans2 HB6.out hG)).mono ?_
          rintro e w2 ⟨v, rfl, ho, hB2⟩
          obtain ⟨p, c, rfl⟩ := own_val ho
          exact ⟨_, rfl, hB2, p, c, rfl, own_base ho (by have := hG.size; have := HZ6.out; omega)⟩
        · rw [if_pos (by rfl)]
          exact Rs.GrowL.value (v := .pointer (some ⟨w.heap.size, 2, none⟩)) (w' := w') (by simp [go_sem, Rs.look]) (Rs.Gr.refl _) rfl
        · have e6 : V 6 = .pointer (some ⟨w.heap.size, 2, none⟩) := hs 6 (by simp)
          rw [if_pos (by rfl)]
          exact Rs.GrowL.value (v := .int .i64 t.breath) (w' := w') (by simp [go_sem, Rs.look, e6, j2]) (Rs.Gr.refl _) rfl
        · have e0 : V 0 = .agg #[.slice pw t.words.length cw, .slice pt t.turns.length ct, .int .i64 t.breath, (.func (.func 138) #[.agg #[.slice pw t.words.length cw, .slice pt t.turns.length ct, .int .i64 t.breath, .nilFunc]] #[])] := hs 0 (by simp)
          have e1 : V 1 = .slice pl l.length cl := hs 1 (by simp)
          have r2 := hs 2 (by simp)
          have e3 : V 3 = .agg #[.slice pw t.words.length cw, .slice pt t.turns.length ct, .int .i64 t.breath, (.func (.func 138) #[.agg #[.slice pw t.words.length cw, .slice pt t.turns.length ct, .int .i64 t.breath, .nilFunc]] #[])] := hs 3 (by simp)
          have e4 : V 4 = .slice pl l.length cl := hs 4 (by simp)
          have r5 := hs 5 (by simp)
          have e6 : V 6 = .pointer (some ⟨w.heap.size, 2, none⟩) := hs 6 (by simp)
          have e7 : V 7 = .int .i64 t.breath := hs 7 (by simp)
          rw [if_pos (by rfl)]
          obtain ⟨g, e2, o2⟩ := r2
          obtain ⟨p, c, e5, o5⟩ := r5
          exact Rs.GrowL.value (v := .agg #[.slice (some ⟨g, 0, none⟩) l.length l.length, .slice p (shortTs t.turns l).length c, .int .i64 t.breath]) (w' := w') (by simp [go_sem, Rs.look, e2, e5, e7]) (Rs.Gr.refl _) ⟨g, p, c, rfl, o2, o5⟩
      · intro V w' hG hs
        have e0 : V 0 = .agg #[.slice pw t.words.length cw, .slice pt t.turns.length ct, .int .i64 t.breath, (.func (.func 138) #[.agg #[.slice pw t.words.length cw, .slice pt t.turns.length ct, .int .i64 t.breath, .nilFunc]] #[])] := hs 0 (by omega)
        have e1 : V 1 = .slice pl l.length cl := hs 1 (by omega)
        have r2 := hs 2 (by omega)
        have e3 : V 3 = .agg #[.slice pw t.words.length cw, .slice pt t.turns.length ct, .int .i64 t.breath, (.func (.func 138) #[.agg #[.slice pw t.words.length cw, .slice pt t.turns.length ct, .int .i64 t.breath, .nilFunc]] #[])] := hs 3 (by omega)
        have e4 : V 4 = .slice pl l.length cl := hs 4 (by omega)
        have r5 := hs 5 (by omega)
        have e6 : V 6 = .pointer (some ⟨w.heap.size, 2, none⟩) := hs 6 (by omega)
        have e7 : V 7 = .int .i64 t.breath := hs 7 (by omega)
        have r8 := hs 8 (by omega)
        obtain ⟨g2, e2, -⟩ := r2
        obtain ⟨p5, c5, e5, -⟩ := r5
        obtain ⟨g8, p8, c8, e8, o8, q8⟩ := r8
        simp only [Rs.canon, Rs.dstOf, List.range_succ, List.range_zero, List.nil_append, List.cons_append, List.foldl_cons, List.foldl_nil, List.drop_succ_cons, List.drop_zero, List.drop_nil, List.getElem?_toArray, List.getElem?_cons_succ, List.getElem?_cons_zero, Option.bind_some, Act.put, List.getD_cons_succ, List.getD_cons_zero, List.setIfInBounds_toArray, List.set_cons_succ, List.set_cons_zero]
        rw [e0, e1, e3, e4, e6, e7, e2, e5, e8]
        clear e0 e1 e3 e4 e6 e7 e2 e5 e8 hs
        have HRES := Lib.hid ((hG.block _ HZ6.out).trans HRES.out)
        have hz8 : w.heap.size + 1 < w'.heap.size := by have := hG.size; have := HZ6.out; omega
        have HB6 := Lib.hid (below_trans2 HB6.out hG)
        have z : ∀ i, w'.frozen? ⟨w.heap.size + 1, i, none⟩ = false := fun i => by simp [World.frozen?, HRES.out]
        obtain ⟨r0, r1, r2⟩ := blk3 HRES.out
        have O8 := Lib.hid o8
        have Q8 := Lib.hid q8
        clear hG o8 q8
        go_wp2
        obtain ⟨W3, hW3⟩ : ∃ W3, W3 = ((w'.setCell ⟨w.heap.size + 1, 0, none⟩ (.slice (some ⟨g8, 0, none⟩) l.length l.length)).setCell ⟨w.heap.size + 1, 1, none⟩ (.slice p8 (shortTs t.turns l).length c8)).setCell ⟨w.heap.size + 1, 2, none⟩ (.int .i64 t.breath) := ⟨_, rfl⟩
        rw [← hW3]
        have hx1 : W3.heap[w.heap.size + 1]? = some (.cells #[.slice (some ⟨g8, 0, none⟩) l.length l.length, .slice p8 (shortTs t.turns l).length c8, .int .i64 t.breath] 25 (0, 0)) := by
          rw [hW3]; exact heap_set_same _ (heap_set_same _ (heap_set_same _ HRES.out))
        have hhh := HRES.out
        have e0 := heap_set_same (o := 0) (.slice (some ⟨g8, 0, none⟩) l.length l.length) hhh
        have e1 := heap_set_same (o := 1) (.slice p8 (shortTs t.turns l).length c8) e0
        have hO : W3.ownsRow w.heap.size 77 3 (.slice (some ⟨g8, 0, none⟩) l.length l.length) l.length (wcells (shortW t.words l t.words.length)) := by
          rw [hW3]; exact own_setT (own_setT (own_setT (own_base O8.out (by have := HB6.out.size; omega)) hhh (by decide)) e0 (by decide)) e1 (by decide)
        have hQ : W3.ownsRow w.heap.size 80 3 (.slice p8 (shortTs t.turns l).length c8) (shortTs t.turns l).length (tcells (shortTs t.turns l)) := by
          rw [hW3]; exact own_setT (own_setT (own_setT (own_base Q8.out (by have := HB6.out.size; omega)) hhh (by decide)) e0 (by decide)) e1 (by decide)
        have hBW : Below w.heap.size w W3 := by
          rw [hW3]; exact ((HB6.out.setCell (p := ⟨w.heap.size + 1, 0, none⟩) (by show w.heap.size ≤ w.heap.size + 1; omega) _).setCell (p := ⟨w.heap.size + 1, 1, none⟩) (by show w.heap.size ≤ w.heap.size + 1; omega) _).setCell (p := ⟨w.heap.size + 1, 2, none⟩) (by show w.heap.size ≤ w.heap.size + 1; omega) _
        have c0 := blk_cells hx1 0 _ rfl
        have c1 := blk_cells hx1 1 _ rfl
        have c2 := blk_cells hx1 2 _ rfl
        refine bodyPost_ret (v := .tuple #[.agg #[.slice (some ⟨g8, 0, none⟩) l.length l.length, .slice p8 (shortTs t.turns l).length c8, .int .i64 t.breath], .int .i64 0]) (by simp [results, Try.results46, go_sem, c0, c1, c2]) rfl ⟨some ⟨g8, 0, none⟩, p8, l.length, c8, ?_, ?_, hQ, hBW⟩
        · rw [show (t.shortT l).words.length = l.length from HWL.out]; rfl
        · have e : (t.shortT l).words.length = l.length := HWL.out
          rw [e]; exact hO
  · have h1 : shoT t l = ⟨[], [], 0⟩ := by unfold shoT; rw [if_neg (fun h => he h.1)]
    have h2 : shoE t l = t.keptE l := if_neg he
    have HE := Lib.hid he
    have hne : (t.keptE l != 0) = true := by simpa using he
    rw [h1, h2]
    clear hW hL he h1 h2
    go_enter Try.func46, Try.ntmps46
    go_wp2_with fail
    refine (HS.out _ ((below1 _ _).alloc (by simp) _)).mono ?_
    rintro e w5 ⟨rfl, hB5⟩
    rw [if_neg HE.out]
    unfold wkNo
    have hz7 : w.heap.size + 1 < w5.heap.size := by have := hB5.size; simp at this; omega
    have HRES := Lib.hid (show w5.heap[w.heap.size + 1]? = some (.cells #[.slice none 0 0, .slice none 0 0, .int .i64 0] 25 (0, 0)) by
      rw [hB5.block _ (by simp)]
      have := heap_last (w.alloc (.cells #[.slice pw t.words.length cw, .slice pt t.turns.length ct, .int .i64 t.breath] 25)) (.cells #[.slice none 0 0, .slice none 0 0, .int .i64 0] 25)
      rwa [World.size_alloc] at this)
    have HB6 := Lib.hid (join ((below1 _ _).alloc (by simp) _) hB5)
    have z : ∀ i, w5.frozen? ⟨w.heap.size + 1, i, none⟩ = false := fun i => by simp [World.frozen?, HRES.out]
    obtain ⟨r0, r1, r2⟩ := blk3 HRES.out
    clear hB5
    go_wp2
    refine bodyPost_ret (v := .tuple #[.agg #[.slice none 0 0, .slice none 0 0, .int .i64 0], .int .i64 (t.keptE l)]) (by simp [results, Try.results46, go_sem, hz7, r0, r1, r2]) rfl ⟨none, none, 0, 0, rfl, own_none _ _ _ _, own_none _ _ _ _, ?_⟩
    have hz9 := HB6.out.size
    repeat' (first | exact HB6.out | apply belS | apply belA | apply belD)
    all_goals first | omega | (simp; done) | (simp; omega)
end Go.Proofs.Ytadnggecnjdhiaa
set_option linter.unusedSimpArgs false
set_option linter.unusedVariables false
namespace Go.Proofs.Ytadnggecnjdhiaa
open Go.RowKit Tx
attribute [local go_sem] Oper.semAt_some

def adjB (l : List Int) (k : Nat) : Bool := (List.range k).any fun i => decide (l.getD (i + 1) 0 ≤ l.getD i 0)
theorem adj_succ (l : List Int) (k : Nat) : adjB l (k + 1) = (adjB l k || decide (l.getD (k + 1) 0 ≤ l.getD k 0)) := by
  unfold adjB; rw [List.range_succ, List.any_append]; simp
theorem adj_more (l : List Int) (k : Nat) (h : adjB l k = true) : ∀ n, k ≤ n → adjB l n = true := by
  intro n
  induction n with
  | zero => intro hk; obtain rfl : k = 0 := by omega
            exact h
  | succ n ih => intro hk
                 rcases Nat.lt_or_ge n k with g | g
                 · obtain rfl : k = n + 1 := by omega
                   exact h
                 · rw [adj_succ, ih g]; rfl
theorem keptE_1 {t : Text} {l : List Int} (h : t.err = 0) (h0 : l.length ≠ 0) (ha : l.any (absent t.words.length) = true) : t.keptE l = 1 := by
  unfold Text.keptE Text.len; rw [if_neg (by simpa using h), if_neg h0, if_pos ha]
theorem not_abs {n : Nat} {l : List Int} (ha : l.any (absent n) = false) : ∀ x ∈ l, 0 ≤ x ∧ x < (n : Int) := fun x hx => by
  have h5 : absent n x = false := by
    cases h6 : absent n x
    · rfl
    · rw [List.any_eq_true.2 ⟨x, hx, h6⟩] at ha; cases ha
  simp [absent, btw] at h5
  omega
theorem keptE_4 {t : Text} {l : List Int} (h : t.err = 0) (h0 : l.length ≠ 0) (ha : l.any (absent t.words.length) = false) {k : Nat} (hk : k ≤ l.length - 1) (hu : adjB l k = true) : t.keptE l = 4 := by
  unfold Text.keptE Text.len
  rw [if_neg (by simpa using h), if_neg h0, if_neg (by rw [ha]; simp), if_pos]
  rw [notUp_adj l (-1) (fun x hx => by have := not_abs ha x hx; omega)]
  exact adj_more l k hu _ hk
theorem keptE_0 {t : Text} {l : List Int} (h : t.err = 0) (h0 : l.length ≠ 0) (ha : l.any (absent t.words.length) = false) (hu : adjB l (l.length - 1) = false) : t.keptE l = 0 := by
  unfold Text.keptE Text.len
  rw [if_neg (by simpa using h), if_neg h0, if_neg (by rw [ha]; simp), if_neg]
  rw [notUp_adj l (-1) (fun x hx => by have := not_abs ha x hx; omega)]
  intro hh
  have : adjB l (l.length - 1) = true := hh
  rw [hu] at this
  cases this
theorem rsaid_keeps (t : Text) (l : List Int) : decide ((rsaid t l).length = 0) = t.keeps l := by
  unfold rsaid Text.keeps
  rw [← idx_any (fun u => coreIn u l && !l.contains u.word) t.turns 0]
  cases h : (idx (fun u => coreIn u l && !l.contains u.word) 0 t.turns).length <;> simp
def spRke4 (pw pt pl : Option Addr) (n m ln cw ct cl B : Nat) (br : Int) (sl : List Int) (wt : Int) : Nat → List Value → Value → World → Prop
  | 0, _, v, _ => v = .agg #[.slice pw n cw, .slice pt m ct, .int .i64 br]
  | 1, _, v, _ => v = .slice pl ln cl
  | 2, L, v, w => ∃ p c, v = .slice p sl.length c
  | 3, _, v, _ => v = .int .i64 (sl.length : Int)
  | 4, _, v, _ => v = .bool (decide (sl.length = 0))
  | 5, _, v, _ => v = .agg #[.slice pw n cw, .slice pt m ct, .int .i64 br]
  | 6, _, v, _ => v = .slice pl ln cl
  | 7, _, v, _ => v = .int .i64 wt
  | _, _, _, _ => False
theorem spRke4_stable (pw pt pl : Option Addr) (n m ln cw ct cl B : Nat) (br : Int) (sl : List Int) (wt : Int) : ∀ i L v w w', spRke4 pw pt pl n m ln cw ct cl B br sl wt i L v w → Rs.Gr w w' → spRke4 pw pt pl n m ln cw ct cl B br sl wt i L v w' := by
  intro i L v w w' h hg
  match i with
  | 0 => exact h
  | 1 => exact h
  | 2 => exact h
  | 3 => exact h
  | 4 => exact h
  | 5 => exact h
  | 6 => exact h
  | 7 => exact h

set_option maxHeartbeats 4000000 in
set_option maxRecDepth 100000 in
theorem rKept_any (t : Text) (l : List Int) (hl1 : t.words.length ≤ 1000000) (hl2 : t.turns.length ≤ 1000000) (hll : l.length ≤ 1000000) (pw pt pl : Option Addr) (cw ct cl : Nat) (w : World) (hW : TxAt w t pw pt) (hL : Ints w pl l) :
    Calls Try.prog 120 #[.agg #[.slice pw t.words.length cw, .slice pt t.turns.length ct, .int .i64 t.breath], .slice pl l.length cl] w fun e w' => e = .returned (.int .i64 (t.keptE l)) ∧ Below w.heap.size w w' := by
  have HX := Lib.hid (heap_last w (.cells #[.slice pw t.words.length cw, .slice pt t.turns.length ct, .int .i64 t.breath] 35))
  have HL := Lib.hid hL
  have HC := Lib.hid (fun W (h : Below w.heap.size w W) => rCheck_any t hl1 hl2 pw pt cw ct W (hW.below h))
  obtain ⟨k0, k1, k2⟩ := blk3 HX.out
  by_cases he : t.err = 0
  · by_cases h0 : l.length = 0
    · have hk : t.keptE l = 2 := by rw [keptE_eq, if_neg (by simpa using he), if_pos h0]
      rw [hk, h0]
      have HE := Lib.hid he
      clear hW hL he hk
      go_enter Try.func120, Try.ntmps120
      go_wp2_with fail
      refine (HC.out _ (below1 _ _)).mono ?_
      rintro e w5 ⟨rfl, hB5⟩
      rw [HE.out]
      go_wp2
      go_ret
      exact ⟨rfl, join (below1 _ _) hB5⟩
    · have HK1 := Lib.hid (fun h => keptE_1 he h0 h)
      have HK4 := Lib.hid (fun h k hk hu => keptE_4 (k := k) he h0 h hk hu)
      have HK0 := Lib.hid (fun h hu => keptE_0 he h0 h hu)
      have HE := Lib.hid he
      have h0' : ((l.length : Int) == 0) = false := by rw [beq_eq_false_iff_ne]; omega
      have hnn : ((t.words.length : Int) - 1) = ((t.words.length : Int) - 1) := rfl
      have hsub : IntKind.wrap .i64 ((t.words.length : Int) - 1) = (t.words.length : Int) - 1 := IntWalk.i64_in _ (by omega)
      generalize t.keptE l = ke at HK1 HK4 HK0 ⊢
      clear hW hL he hnn
      go_enter Try.func120, Try.ntmps120
      go_wp2_with fail
      refine (HC.out _ (below1 _ _)).mono ?_
      rintro e w5 ⟨rfl, hB5⟩
      rw [HE.out]
      have HX := Lib.hid ((hB5.block _ (Array.getElem?_eq_some_iff.1 HX.out).1).trans HX.out)
      have HB := Lib.hid (join (below1 _ _) hB5)
      clear hB5 k0 k1 k2
      go_wp2_with fail
      go_loopw [6] (fun i wr => ∃ k : Nat, k ≤ l.length ∧ i = .int .i64 k ∧ Hid ((l.take k).any (absent t.words.length) = false) ∧ Hid (Below w5.heap.size w5 wr)) (fun i _ => l.length - (intOf i).toNat)
      case atStart => exact ⟨0, Nat.zero_le _, rfl, Lib.hid rfl, Lib.hid (Below.refl _ _)⟩
      case round =>
        obtain ⟨k, hk, rfl, HA, HBr⟩ := hrel
        have HBr1 := Lib.hid (HB.out.trans (HBr.out.mono HB.out.size))
        by_cases hlt : k < l.length
        · have hlt' : (k : Int) < l.length := by omega
          obtain ⟨lb, lo, x, rfl, hlb, hxx, c1⟩ := (HL.out.below HBr1.out).at hlt
          have HXX := Lib.hid hxx
          obtain ⟨k0, k1, k2⟩ := blk3 ((HBr.out.block _ (Array.getElem?_eq_some_iff.1 HX.out).1).trans HX.out)
          have hAB : ∀ (W : World), Calls Try.prog 88 #[.int .i64 x, .int .i64 0, .int .i64 ((t.words.length : Int) - 1)] W fun e w' => e = .returned (.bool (absent t.words.length x)) ∧ w' = W := fun W => off_q x 0 _ _ rfl W
          have HAB := Lib.hid hAB
          clear hxx hAB
          go_wp2_with fail
          go_quiet ((go_at_call 88; exact Calls.quiet_of_same (HAB.out _)))
          have HG := Lib.hid (show Below w5.heap.size w5 (wr.drewN nq) from below_drewN' HBr.out nq)
          have HG1 := Lib.hid (show Below w.heap.size w (wr.drewN nq) from below_drewN' HBr1.out nq)
          clear c1 k0 k1 k2 HAB
          cases hbad : absent t.words.length x with
          | true =>
            have HBAD := Lib.hid hbad
            clear hbad
            go_wp2
            go_ret
            exact ⟨by rw [HK1.out (any_hit 0 hlt _ (by rw [← HXX.out]; exact HBAD.out))]; rfl, HG1.out⟩
          | false =>
            have HBAD := Lib.hid hbad
            clear hbad
            go_wp2
            go_roundw
            case rel => exact ⟨k + 1, by omega, by go_num, Lib.hid (any_snoc 0 hlt _ HA.out (by rw [← HXX.out]; exact HBAD.out)), HG⟩
            case measure => simp [intOf]; omega
        · obtain rfl : k = l.length := by omega
          have HAA := Lib.hid (show l.any (absent t.words.length) = false by have := HA.out; rwa [List.take_length] at this)
          have HB1 := Lib.hid (HB.out.trans (HBr.out.mono HB.out.size))
          clear HA HBr HBr1 hk hlt
          go_wp2_with fail
          go_loopw [7] (fun i wq => ∃ k : Nat, k ≤ l.length - 1 ∧ i = .int .i64 ((k + 1 : Nat) : Int) ∧ Hid (adjB l k = false) ∧ Hid (Below w.heap.size w wq)) (fun i _ => l.length - (intOf i).toNat)
          case atStart => exact ⟨0, Nat.zero_le _, rfl, Lib.hid rfl, HB1⟩
          case round =>
            obtain ⟨k, hk, rfl, HA, HBr⟩ := hrel
            by_cases hlt : k + 1 < l.length
            · have hlt' : ((k + 1 : Nat) : Int) < l.length := by omega
              obtain ⟨lb, lo, x, rfl, hlb, hxx, c1⟩ := (HL.out.below HBr.out).at (i := k) (by omega)
              obtain ⟨lb', lo', y, hp, _, hyy, c2⟩ := (HL.out.below HBr.out).at hlt
              injection hp with hp; injection hp with hp1 hp2 _
              subst hp1; subst hp2
              have HS := Lib.hid (adj_succ l k)
              rw [← hxx, ← hyy, HA.out, Bool.false_or] at HS
              have hs1 : IntKind.wrap .i64 (((k + 1 : Nat) : Int) - 1) = (k : Int) := by rw [show ((k + 1 : Nat) : Int) - 1 = (k : Int) by omega]; exact IntWalk.i64_in _ (by omega)
              have hk0 : (0 : Int) ≤ (k : Int) := by omega
              have hk1 : (k : Int) < (l.length : Int) := by omega
              have hk2 : k < l.length := by omega
              clear hxx hyy
              by_cases hyx : y ≤ x
              · have HT := Lib.hid (show adjB l (k + 1) = true by rw [HS.out]; simpa using hyx)
                clear HS
                go_wp2_with fail
                go_quiet (fail)
                have HG1 := Lib.hid (show Below w.heap.size w (wr.drewN nq) from below_drewN' HBr.out nq)
                clear c1 c2
                go_wp2
                go_ret
                exact ⟨by rw [HK4.out HAA.out (k + 1) (by omega) HT.out]; rfl, HG1.out⟩
              · have HT := Lib.hid (show adjB l (k + 1) = false by rw [HS.out]; simpa using hyx)
                clear HS
                go_wp2_with fail
                go_quiet (fail)
                have HG1 := Lib.hid (show Below w.heap.size w (wr.drewN nq) from below_drewN' HBr.out nq)
                clear c1 c2
                go_wp2
                go_roundw
                case rel => exact ⟨k + 1, by omega, by go_num, HT, HG1⟩
                case measure => simp [intOf]; omega
            · have hk3 : k = l.length - 1 := by omega
              have hlt' : ¬ ((k + 1 : Nat) : Int) < l.length := by omega
              have HA0 := HA.out
              rw [hk3] at HA0
              have HZ := Lib.hid (HK0.out HAA.out HA0)
              clear HA0
              go_wp2
              go_ret
              exact ⟨by rw [HZ.out]; rfl, HBr.out⟩
  · have hk : t.keptE l = t.err := by rw [keptE_eq, if_pos he]
    have hne : (t.err != 0) = true := by simpa using he
    rw [hk]
    clear hW hL he hk
    generalize t.err = er at HC hne ⊢
    go_enter Try.func120, Try.ntmps120
    go_wp2_with fail
    refine (HC.out _ (below1 _ _)).mono ?_
    rintro e w5 ⟨rfl, hB5⟩
    go_wp2
    go_ret
    exact ⟨rfl, join (below1 _ _) hB5⟩
set_option maxHeartbeats 4000000 in
set_option maxRecDepth 100000 in
theorem rKeeps_any (t : Text) (l : List Int) (hl1 : t.words.length ≤ 1000000) (hl2 : t.turns.length ≤ 1000000) (hll : l.length ≤ 1000000) (pw pt pl : Option Addr) (cw ct cl : Nat) (w : World) (hW : TxAt w t pw pt) (hL : Ints w pl l) :
    Calls Try.prog 45 #[.agg #[.slice pw t.words.length cw, .slice pt t.turns.length ct, .int .i64 t.breath], .slice pl l.length cl] w fun e w' => e = .returned (.tuple #[.bool (keeB t l), .int .i64 (keeN t l), .int .i64 (t.keptE l)]) ∧ Below w.heap.size w w' := by
  have HS := Lib.hid (fun W (h : Below w.heap.size w W) => rKept_any t l hl1 hl2 hll pw pt pl cw ct cl W (hW.below h) (hL.below h))
  have HX := Lib.hid (heap_last w (.cells #[.slice pw t.words.length cw, .slice pt t.turns.length ct, .int .i64 t.breath] 35))
  obtain ⟨k0, k1, k2⟩ := blk3 HX.out
  by_cases he : t.keptE l = 0
  · have hk := keptE_zero he
    have ok := err_ok hk.1
    have h1 : keeB t l = decide ((rsaid t l).length = 0) := by rw [rsaid_keeps]; exact if_pos he
    have h2 : keeN t l = t.wtOf l := if_pos he
    have hlen := kept_len he
    have hn12 := ok.n12
    have HSD := Lib.hid (fun W (h : Below w.heap.size w W) => Said_any t hl2 (fun u hu => ⟨by have := ok.turn u hu; omega, by have := ok.turn u hu; omega, by have := ok.turn u hu; omega⟩) l hll pt pl ct cl (.slice pw t.words.length cw) (.int .i64 t.breath) W (hW.turns.below h) (hL.below h))
    have HWT := Lib.hid (fun W (h : Below w.heap.size w W) => rWeight_any t ok l (by omega) hk.2.2.1 pw pl cw cl (.slice pt t.turns.length ct) (.int .i64 t.breath) W (hW.words.below h) (hL.below h))
    have hsl0 : (((rsaid t l).length : Int) == 0) = decide ((rsaid t l).length = 0) := by
      cases h : decide ((rsaid t l).length = 0)
      · rw [beq_eq_false_iff_ne]; simp at h; simpa using h
      · rw [beq_iff_eq]; simp at h; simp [h]
    rw [h1, h2, he]
    have HE := Lib.hid he
    clear hW hL he h1 h2 ok hk
    generalize t.wtOf l = wt at HWT ⊢
    go_enter Try.func45, Try.ntmps45
    go_wp2_with fail
    refine (HS.out _ (below1 _ _)).mono ?_
    rintro e w5 ⟨rfl, hB5⟩
    rw [HE.out]
    have HX5 := Lib.hid ((hB5.block _ (Array.getElem?_eq_some_iff.1 HX.out).1).trans HX.out)
    have HB5 := Lib.hid (join (below1 _ _) hB5)
    clear hB5 k0 k1 k2 HX
    go_wp2_with fail
    refine Rs.region_gen 8 [[], [], [0, 1], [0, 1, 2], [0, 1, 2, 3], [], [], [0, 1, 2, 5, 6]] [some 14, some 15, some 16, some 17, some 18, some 19, some 20, some 21] (spRke4 pw pt pl t.words.length t.turns.length l.length cw ct cl w.heap.size t.breath (rsaid t l) wt) (by kernel_rfl) (by kernel_rfl) rfl (spRke4_stable _ _ _ _ _ _ _ _ _ _ _ _ _) ?_ ?_
    · refine ⟨fun V w' hG hs => ?_, fun V w' hG hs => ?_, fun V w' hG hs => ?_, fun V w' hG hs => ?_, fun V w' hG hs => ?_, fun V w' hG hs => ?_, fun V w' hG hs => ?_, fun V w' hG hs => ?_, trivial⟩
      all_goals
        have hq := (hG.block _ (Array.getElem?_eq_some_iff.1 HX5.out).1).trans HX5.out
        obtain ⟨k0, k1, k2⟩ := blk3 hq
      · rw [if_pos (by rfl)]
        exact Rs.GrowL.value (v := .agg #[.slice pw t.words.length cw, .slice pt t.turns.length ct, .int .i64 t.breath]) (w' := w') (by simp [go_sem, Rs.look, k0, k1, k2]) (Rs.Gr.refl _) rfl
      · rw [if_pos (by rfl)]
        exact Rs.GrowL.value (v := .slice pl l.length cl) (w' := w') (by simp [go_sem, Rs.look]) (Rs.Gr.refl _) rfl
      · have e0 : V 0 = .agg #[.slice pw t.words.length cw, .slice pt t.turns.length ct, .int .i64 t.breath] := hs 0 (by simp)
        have e1 : V 1 = .slice pl l.length cl := hs 1 (by simp)
        rw [if_pos (by rfl)]
        refine Rs.GrowL.call (f := 92) (args := #[.agg #[.slice pw t.words.length cw, .slice pt t.turns.length ct, .int .i64 t.breath], .slice pl l.length cl]) (by simp [go_sem, Rs.look, e0, e1]) ?_
        refine (HSD.out w' (below_trans2 HB5.out hG)).mono ?_
        rintro e w2 ⟨v, rfl, ho, hB2⟩
        obtain ⟨p, c, rfl, -⟩ := own_rd ho rfl
        exact ⟨_, rfl, hB2, p, c, rfl⟩
      · have e0 : V 0 = .agg #[.slice pw t.words.length cw, .slice pt t.turns.length ct, .int .i64 t.breath] := hs 0 (by simp)
        have e1 : V 1 = .slice pl l.length cl := hs 1 (by simp)
        have r2 := hs 2 (by simp)
        rw [if_pos (by rfl)]
        obtain ⟨p, c, e2⟩ := r2
        exact Rs.GrowL.value (v := .int .i64 ((rsaid t l).length : Int)) (w' := w') (by simp [go_sem, Rs.look, e2]) (Rs.Gr.refl _) rfl
      · have e0 : V 0 = .agg #[.slice pw t.words.length cw, .slice pt t.turns.length ct, .int .i64 t.breath] := hs 0 (by simp)
        have e1 : V 1 = .slice pl l.length cl := hs 1 (by simp)
        have r2 := hs 2 (by simp)
        have e3 : V 3 = .int .i64 ((rsaid t l).length : Int) := hs 3 (by simp)
        rw [if_pos (by rfl)]
        exact Rs.GrowL.value (v := .bool (decide ((rsaid t l).length = 0))) (w' := w') (by simp [go_sem, Rs.look, e3, hsl0]) (Rs.Gr.refl _) rfl
      · rw [if_pos (by rfl)]
        exact Rs.GrowL.value (v := .agg #[.slice pw t.words.length cw, .slice pt t.turns.length ct, .int .i64 t.breath]) (w' := w') (by simp [go_sem, Rs.look, k0, k1, k2]) (Rs.Gr.refl _) rfl
      · rw [if_pos (by rfl)]
        exact Rs.GrowL.value (v := .slice pl l.length cl) (w' := w') (by simp [go_sem, Rs.look]) (Rs.Gr.refl _) rfl
      · have e0 : V 0 = .agg #[.slice pw t.words.length cw, .slice pt t.turns.length ct, .int .i64 t.breath] := hs 0 (by simp)
        have e1 : V 1 = .slice pl l.length cl := hs 1 (by simp)
        have r2 := hs 2 (by simp)
        have e5 : V 5 = .agg #[.slice pw t.words.length cw, .slice pt t.turns.length ct, .int .i64 t.breath] := hs 5 (by simp)
        have e6 : V 6 = .slice pl l.length cl := hs 6 (by simp)
        rw [if_pos (by rfl)]
        refine Rs.GrowL.call (f := 121) (args := #[.agg #[.slice pw t.words.length cw, .slice pt t.turns.length ct, .int .i64 t.breath], .slice pl l.length cl]) (by simp [go_sem, Rs.look, e5, e6]) ?_
        refine (HWT.out w' (below_trans2 HB5.out hG)).mono ?_
        rintro e w2 ⟨rfl, hB2⟩
        exact ⟨_, rfl, hB2, rfl⟩
    · intro V w' hG hs
      have e0 : V 0 = .agg #[.slice pw t.words.length cw, .slice pt t.turns.length ct, .int .i64 t.breath] := hs 0 (by omega)
      have e1 : V 1 = .slice pl l.length cl := hs 1 (by omega)
      have r2 := hs 2 (by omega)
      have e3 : V 3 = .int .i64 ((rsaid t l).length : Int) := hs 3 (by omega)
      have e4 : V 4 = .bool (decide ((rsaid t l).length = 0)) := hs 4 (by omega)
      have e5 : V 5 = .agg #[.slice pw t.words.length cw, .slice pt t.turns.length ct, .int .i64 t.breath] := hs 5 (by omega)
      have e6 : V 6 = .slice pl l.length cl := hs 6 (by omega)
      have e7 : V 7 = .int .i64 wt := hs 7 (by omega)
      obtain ⟨p2, c2, e2⟩ := r2
      simp only [Rs.canon, Rs.dstOf, List.range_succ, List.range_zero, List.nil_append, List.cons_append, List.foldl_cons, List.foldl_nil, List.drop_succ_cons, List.drop_zero, List.drop_nil, List.getElem?_toArray, List.getElem?_cons_succ, List.getElem?_cons_zero, Option.bind_some, Act.put, List.getD_cons_succ, List.getD_cons_zero, List.setIfInBounds_toArray, List.set_cons_succ, List.set_cons_zero]
      rw [e0, e1, e3, e4, e5, e6, e7, e2]
      clear e0 e1 e3 e4 e5 e6 e7 e2 hs
      have hB := below_trans2 HB5.out hG
      clear hG
      go_wp2
      go_ret3
      exact ⟨rfl, hB⟩
  · have h1 : keeB t l = false := if_neg he
    have h2 : keeN t l = 0 := if_neg he
    have HE := Lib.hid he
    have hne : (t.keptE l != 0) = true := by simpa using he
    rw [h1, h2]
    clear hW hL he h1 h2
    go_enter Try.func45, Try.ntmps45
    go_wp2_with fail
    refine (HS.out _ (below1 _ _)).mono ?_
    rintro e w5 ⟨rfl, hB5⟩
    go_wp2
    go_ret3
    exact ⟨rfl, join (below1 _ _) hB5⟩
set_option maxHeartbeats 1600000 in
theorem rPrice_any (t : Text) (pc : Int) (hl1 : t.words.length ≤ 1000000) (hl2 : t.turns.length ≤ 1000000) (pw pt : Option Addr) (cw ct : Nat) (w : World) (hW : TxAt w t pw pt) :
    Calls Try.prog 49 #[.agg #[.slice pw t.words.length cw, .slice pt t.turns.length ct, .int .i64 t.breath], .int .i64 pc] w fun e w' => e = .returned (.tuple #[.int .i64 (t.priceV pc), .int .i64 (t.priceE pc)]) ∧ Below w.heap.size w w' := by
  have HC := Lib.hid (fun W (h : Below w.heap.size w W) => rCheck_any t hl1 hl2 pw pt cw ct W (hW.below h))
  have HX := Lib.hid (heap_last w (.cells #[.slice pw t.words.length cw, .slice pt t.turns.length ct, .int .i64 t.breath] 35))
  have HW := Lib.hid hW.words
  obtain ⟨k0, k1, k2⟩ := blk3 HX.out
  by_cases he : t.err = 0
  · have ok := err_ok he
    have hbd := paidN_bd t.words
    have hn12 := ok.n12
    have HE := Lib.hid he
    cases hb : btw pc 1 100 with
    | true =>
      have h2 : t.priceE pc = 0 := by unfold Text.priceE; rw [if_neg (by simpa using he), hb]; rfl
      have h1 : t.priceV pc = paidN t.words * pc := by unfold Text.priceV; rw [if_pos h2]
      have hbt := btw_true hb
      have HBT := Lib.hid (not_btw hb)
      rw [h1, h2]
      clear hW he h1 h2 ok hb
      have hm : IntKind.wrap .i64 (paidN t.words * pc) = paidN t.words * pc := by
        have h1 : 0 ≤ paidN t.words * pc := Int.mul_nonneg (by omega) (by omega)
        have h2 : paidN t.words * pc ≤ 24 * 100 := Int.mul_le_mul (by omega) (by omega) (by omega) (by omega)
        exact IntWalk.i64_in _ (by omega)
      have HM := Lib.hid hm
      clear hm hbd
      go_enter Try.func49, Try.ntmps49
      go_wp2_with fail
      refine (HC.out _ (below1 _ _)).mono ?_
      rintro e w5 ⟨rfl, hB5⟩
      rw [HE.out]
      have HX := Lib.hid ((hB5.block _ (Array.getElem?_eq_some_iff.1 HX.out).1).trans HX.out)
      have HB := Lib.hid (join (below1 _ _) hB5)
      clear hB5 k0 k1 k2
      go_wp2_with fail
      refine (off_b _ _ _ _ HBT.out _).mono ?_
      rintro e w' ⟨rfl, rfl⟩
      go_wp2_with fail
      go_loopw [7, 8] (fun s i wr => ∃ k : Nat, k ≤ t.words.length ∧ i = .int .i64 k ∧ s = .int .i64 (paidN (t.words.take k)) ∧ Hid (Below w5.heap.size w5 wr)) (fun _ i _ => t.words.length - (intOf i).toNat)
      case atStart => exact ⟨0, Nat.zero_le _, rfl, rfl, Lib.hid (Below.refl _ _)⟩
      case round =>
        obtain ⟨k, hk, rfl, rfl, HBr⟩ := hrel
        have HBr1 := Lib.hid (HB.out.trans (HBr.out.mono HB.out.size))
        have hbd := paidN_bd (t.words.take k)
        have htl : ((t.words.take k).length : Int) ≤ k := by rw [List.length_take]; omega
        obtain ⟨k0, k1, k2⟩ := blk3 ((HBr.out.block _ (Array.getElem?_eq_some_iff.1 HX.out).1).trans HX.out)
        by_cases hlt : k < t.words.length
        · have hlt' : (k : Int) < t.words.length := by omega
          obtain ⟨b, o, x, rfl, hbl, hxx, d0, d1, d2⟩ := (HW.out.below HBr1.out).at hlt
          have HS := Lib.hid (show paidN (t.words.take (k + 1)) = paidN (t.words.take k) + (if 3 < x.syl then 2 else 1) by rw [take_snocD default hlt, ← hxx, paidN_snoc])
          generalize paidN (t.words.take k) = s at hbd HS ⊢
          clear hxx
          by_cases h3 : 3 < x.syl
          · have e := HS.out
            rw [if_pos h3] at e
            have HE := Lib.hid e
            clear HS e
            go_wp2
            go_roundw
            case rel => exact ⟨k + 1, by omega, by go_num, by rw [HE.out]; go_num, HBr⟩
            case measure => simp [intOf]; omega
          · have e := HS.out
            rw [if_neg h3] at e
            have HE := Lib.hid e
            clear HS e
            go_wp2
            go_roundw
            case rel => exact ⟨k + 1, by omega, by go_num, by rw [HE.out], HBr⟩
            case measure => simp [intOf]; omega
        · obtain rfl : k = t.words.length := by omega
          have HF := Lib.hid (List.take_length (l := t.words))
          rw [HF.out]
          have hm := HM.out
          go_wp2
          go_ret2
          exact ⟨rfl, HBr1.out⟩
    | false =>
      have h2 : t.priceE pc = 3 := by unfold Text.priceE; rw [if_neg (by simpa using he), hb]; rfl
      have h1 : t.priceV pc = 0 := by unfold Text.priceV; rw [h2]; rfl
      have HBT := Lib.hid (not_btw hb)
      rw [h1, h2]
      clear hW he h1 h2 ok hb hbd
      go_enter Try.func49, Try.ntmps49
      go_wp2_with fail
      refine (HC.out _ (below1 _ _)).mono ?_
      rintro e w5 ⟨rfl, hB5⟩
      rw [HE.out]
      have HB := Lib.hid (join (below1 _ _) hB5)
      clear hB5 k0 k1 k2
      go_wp2_with fail
      refine (off_b _ _ _ _ HBT.out _).mono ?_
      rintro e w' ⟨rfl, rfl⟩
      go_wp2
      go_ret2
      exact ⟨rfl, HB.out⟩
  · have h2 : t.priceE pc = t.err := by unfold Text.priceE; rw [if_pos he]
    have h1 : t.priceV pc = 0 := by unfold Text.priceV; rw [h2, if_neg he]
    rw [h1, h2]
    have HE : (t.err != 0) = true := by simpa using he
    clear hW he h1 h2
    generalize t.err = er at HE HC ⊢
    go_enter Try.func49, Try.ntmps49
    go_wp2_with fail
    refine (HC.out _ (below1 _ _)).mono ?_
    rintro e w5 ⟨rfl, hB5⟩
    go_wp2
    go_ret2
    exact ⟨rfl, join (below1 _ _) hB5⟩
end Go.Proofs.Ytadnggecnjdhiaa
set_option linter.unusedSimpArgs false
set_option linter.unusedVariables false
namespace Go.Proofs.Ytadnggecnjdhiaa
open Go.RowKit Tx

theorem below_hold {B : Nat} {Kp : Nat → Prop} {a b c : World} (h : Below B a b) (hB : B ≤ b.heap.size) (g : Hold Kp b c) (hk : ∀ k, k < B → Kp k) : Below B a c :=
  h.trans ⟨g.os, g.tape, g.output, g.size, fun k hl => g.same k (hk k hl) (by omega)⟩
theorem own_blockI {w : World} {base : Nat} {e : TypeId} {s : Nat} {v : Value} {n : Nat} {xs : List Value} (h : w.ownsRow base e s v n xs) : ∀ k, v.ownBlock = some k → base ≤ k ∧ k < w.heap.size := by
  intro k hk
  rcases h.2 with ⟨h1, _⟩ | ⟨g, cap, cur, h1, hb, hg, _⟩
  · rw [h1] at hk; cases hk
  · rw [h1] at hk
    injection hk with hk
    subst hk
    exact ⟨hb, (Array.getElem?_eq_some_iff.1 hg).1⟩
theorem grow_hold {w w' : World} {base M : Nat} {e : TypeId} {s : Nat} {v : Value} {n : Nat} {xs : List Value} (h : w.ownsRow base e s v n xs) (hM : M < base) (hg : w.grownBy w' v.ownBlock) : Hold (fun k => k ≤ M) w w' :=
  ⟨hg.os, hg.tape, hg.output, hg.size, fun k hk hl => hg.block k hl (fun e => by have := (own_blockI h k e.symm).1; omega)⟩
/-- a stop in a row of words that is owned -/
theorem own_stopE {w : World} {base g c : Nat} {E : TypeId} {ws : List Word} (k : Nat) (hk : k < ws.length) (h : w.ownsRow base E 3 (.slice (some ⟨g, 0, none⟩) ws.length c) ws.length (wcells ws)) :
    (w.setCell ⟨g, k * 3 + 2, none⟩ (.bool true)).ownsRow base E 3 (.slice (some ⟨g, 0, none⟩) ws.length c) ws.length (wcells (ws.set k { ws.getD k default with stop := true })) := by
  refine ⟨by rw [wcells_len, List.length_set], ?_⟩
  rcases h.2 with ⟨h1, _⟩ | ⟨g', cap, cur, hv, hb, hg, h1, h2, h3, h4⟩
  · cases h1
  · injection hv with e1 e2 e3
    injection e1 with e1; injection e1 with e1
    subst e1; subst e3
    refine .inr ⟨g, c, _, rfl, hb, heap_set_same _ hg, h1, h2, by rw [Array.size_setIfInBounds, h3], ?_⟩
    apply List.ext_getElem?
    intro j
    rw [List.getElem?_take, Array.getElem?_toList, Array.getElem?_setIfInBounds]
    by_cases hj : j < ws.length * 3
    · have hc : cur[j]? = (wcells ws)[j]? := by rw [← h4, List.getElem?_take, if_pos hj, Array.getElem?_toList]
      have hdm : j = j / 3 * 3 + j % 3 := by omega
      have hq : j / 3 < ws.length := by omega
      have hr : j % 3 < 3 := by omega
      have f1 := flat3_get default wcell (fun _ => rfl) ws (j / 3) (j % 3) hq hr
      have f2 := flat3_get default wcell (fun _ => rfl) (ws.set k { ws.getD k default with stop := true }) (j / 3) (j % 3) (by rw [List.length_set]; exact hq) hr
      rw [← hdm] at f1 f2
      rw [if_pos hj, hc]
      unfold wcells
      rw [f1, f2]
      by_cases hqk : j / 3 = k
      · subst hqk
        have e0 : (ws.set (j / 3) { ws.getD (j / 3) default with stop := true }).getD (j / 3) default = { ws.getD (j / 3) default with stop := true } := by simp [hk]
        rw [e0]
        by_cases hr2 : j % 3 = 2
        · rw [if_pos (by omega), if_pos (by omega), hr2]; rfl
        · rw [if_neg (by omega)]
          have : j % 3 = 0 ∨ j % 3 = 1 := by omega
          rcases this with h | h <;> rw [h] <;> rfl
      · have e0 : (ws.set k { ws.getD k default with stop := true }).getD (j / 3) default = ws.getD (j / 3) default := by
          simp [List.getElem?_set, Ne.symm hqk]
        rw [e0, if_neg (by omega)]
    · rw [if_neg hj, List.getElem?_eq_none (by rw [wcells_len, List.length_set]; omega)]
/-- a shorter text that is being made -/
structure SrT (w : World) (t : Text) (pw pt : Option Addr) (cw ct R M : Nat) (nw : List Int) (v u : Value) (ws : List Word) (ts : List Turn) (W : World) : Prop where
  txt : W.heap[w.heap.size]? = some (.cells #[.slice pw t.words.length cw, .slice pt t.turns.length ct, .int .i64 t.breath] 35 (0, 0))
  res : W.heap[w.heap.size + 1]? = some (.cells #[.slice none 0 0, .slice none 0 0, .int .i64 0] 35 (0, 0))
  box : W.heap[R]? = some (.cells #[v, u, .int .i64 t.breath] 35 (0, 0))
  now : W.heap[M]? = some (.cells (arrOf nw) 3 (0, 0))
  ow : W.ownsRow (M + 1) 78 3 v ws.length (wcells ws)
  ou : W.ownsRow (M + 1) 81 3 u ts.length (tcells ts)
  bel : Below w.heap.size w W
  lt1 : w.heap.size + 1 < R
  lt2 : R < M
variable {w : World} {t : Text} {pw pt : Option Addr} {cw ct R M : Nat} {nw : List Int} {v u : Value} {ws : List Word} {ts : List Turn} {W W' : World}
theorem SrT.siz (h : SrT w t pw pt cw ct R M nw v u ws ts W) : M < W.heap.size := (Array.getElem?_eq_some_iff.1 h.now).1
theorem SrT.low (h : SrT w t pw pt cw ct R M nw v u ws ts W) (hB : Below W.heap.size W W') : SrT w t pw pt cw ct R M nw v u ws ts W' := by
  have hs := h.siz
  have l1 := h.lt1
  have l2 := h.lt2
  exact ⟨(hB.block _ (by omega)).trans h.txt, (hB.block _ (by omega)).trans h.res, (hB.block _ (by omega)).trans h.box, (hB.block _ hs).trans h.now, own_below h.ow hB, own_below h.ou hB, h.bel.trans (hB.mono h.bel.size), l1, l2⟩
theorem SrT.setNow (h : SrT w t pw pt cw ct R M nw v u ws ts W) (i : Nat) (x : Int) : SrT w t pw pt cw ct R M (nw.set i x) v u ws ts (W.setCell ⟨M, i, none⟩ (.int .i64 x)) := by
  have l1 := h.lt1
  have l2 := h.lt2
  have ne : ∀ k, k < M → (W.setCell ⟨M, i, none⟩ (.int .i64 x)).heap[k]? = W.heap[k]? := fun k hk => Below.heap_setCell _ _ _ _ (by show k ≠ M; omega)
  refine ⟨(ne _ (by omega)).trans h.txt, (ne _ (by omega)).trans h.res, (ne _ (by omega)).trans h.box, ?_, own_setC h.ow (by omega), own_setC h.ou (by omega), h.bel.setCell (p := ⟨M, i, none⟩) (by show w.heap.size ≤ M; omega) _, l1, l2⟩
  rw [← arrOf_set]; exact heap_set_same _ h.now
/-- behind an append to the words, and the store of the new row -/
theorem SrT.wapp {Kp : Nat → Prop} {v' : Value} {x : Word} (h : SrT w t pw pt cw ct R M nw v u ws ts W) (hh : Hold Kp W W') (hk : ∀ k, k ≤ M → Kp k) (hu : W'.ownsRow (M + 1) 81 3 u ts.length (tcells ts)) (ho : W'.ownsRow (M + 1) 78 3 v' (ws.length + 1) (wcells ws ++ wcell x)) :
    SrT w t pw pt cw ct R M nw v' u (ws ++ [x]) ts (W'.setCell ⟨R, 0, none⟩ v') := by
  have hs := h.siz
  have l1 := h.lt1
  have l2 := h.lt2
  have ne : ∀ k, k ≠ R → k ≤ M → (W'.setCell ⟨R, 0, none⟩ v').heap[k]? = W.heap[k]? := fun k hk1 hk2 => (Below.heap_setCell _ _ _ _ (by show k ≠ R; omega)).trans (hh.same k (hk k hk2) (by omega))
  refine ⟨(ne _ (by omega) (by omega)).trans h.txt, (ne _ (by omega) (by omega)).trans h.res, heap_set_same _ ((hh.same R (hk R (by omega)) (by omega)).trans h.box), (ne _ (by omega) (by omega)).trans h.now, ?_, own_setC hu (by omega), (below_hold h.bel h.bel.size hh (fun k hl => hk k (by omega))).setCell (p := ⟨R, 0, none⟩) (by show w.heap.size ≤ R; omega) _, l1, l2⟩
  have := own_setC (R := R) (o := 0) (u := v') ho (by omega)
  rw [← wcells_snoc] at this
  rw [List.length_append]
  exact this
theorem SrT.tapp {Kp : Nat → Prop} {u' : Value} {x : Turn} (h : SrT w t pw pt cw ct R M nw v u ws ts W) (hh : Hold Kp W W') (hk : ∀ k, k ≤ M → Kp k) (hu : W'.ownsRow (M + 1) 78 3 v ws.length (wcells ws)) (ho : W'.ownsRow (M + 1) 81 3 u' (ts.length + 1) (tcells ts ++ tcell x)) :
    SrT w t pw pt cw ct R M nw v u' ws (ts ++ [x]) (W'.setCell ⟨R, 1, none⟩ u') := by
  have hs := h.siz
  have l1 := h.lt1
  have l2 := h.lt2
  have ne : ∀ k, k ≠ R → k ≤ M → (W'.setCell ⟨R, 1, none⟩ u').heap[k]? = W.heap[k]? := fun k hk1 hk2 => (Below.heap_setCell _ _ _ _ (by show k ≠ R; omega)).trans (hh.same k (hk k hk2) (by omega))
  refine ⟨(ne _ (by omega) (by omega)).trans h.txt, (ne _ (by omega) (by omega)).trans h.res, heap_set_same _ ((hh.same R (hk R (by omega)) (by omega)).trans h.box), (ne _ (by omega) (by omega)).trans h.now, own_setC hu (by omega), ?_, (below_hold h.bel h.bel.size hh (fun k hl => hk k (by omega))).setCell (p := ⟨R, 1, none⟩) (by show w.heap.size ≤ R; omega) _, l1, l2⟩
  have := own_setC (R := R) (o := 1) (u := u') ho (by omega)
  rw [← tcells_snoc] at this
  rw [List.length_append]
  exact this
theorem SrT.stop {g c : Nat} (h : SrT w t pw pt cw ct R M nw (.slice (some ⟨g, 0, none⟩) ws.length c) u ws ts W) (k : Nat) (hk : k < ws.length) :
    SrT w t pw pt cw ct R M nw (.slice (some ⟨g, 0, none⟩) ws.length c) u (ws.set k { ws.getD k default with stop := true }) ts (W.setCell ⟨g, k * 3 + 2, none⟩ (.bool true)) := by
  have hs := h.siz
  have l1 := h.lt1
  have l2 := h.lt2
  have hg := (own_blockI h.ow g rfl).1
  have ne : ∀ k', k' ≤ M → (W.setCell ⟨g, k * 3 + 2, none⟩ (.bool true)).heap[k']? = W.heap[k']? := fun k' hk' => Below.heap_setCell _ _ _ _ (by show k' ≠ g; omega)
  refine ⟨(ne _ (by omega)).trans h.txt, (ne _ (by omega)).trans h.res, (ne _ (by omega)).trans h.box, (ne _ (by omega)).trans h.now, ?_, own_other h.ou h.ow (by decide) (grown_set _ _ _ _), h.bel.setCell (p := ⟨g, k * 3 + 2, none⟩) (by show w.heap.size ≤ g; omega) _, l1, l2⟩
  rw [List.length_set]
  exact own_stopE k hk h.ow
theorem Ints.hold {Kp : Nat → Prop} {xs : List Int} {p : Option Addr} (h : Ints w p xs) (hB : Below w.heap.size w W) : Ints W p xs := h.below hB
end Go.Proofs.Ytadnggecnjdhiaa
set_option linter.unusedSimpArgs false
set_option linter.unusedVariables false
namespace Go.Proofs.Ytadnggecnjdhiaa
open Go.RowKit Tx
attribute [local go_sem] Oper.semAt_some

theorem own_cellE {w : World} {base : Nat} {E : TypeId} {g n c : Nat} {xs : List Value} (h : w.ownsRow base E 3 (.slice (some ⟨g, 0, none⟩) n c) n xs) {j : Nat} (hj : j < n * 3) : ∃ v, w.cell? ⟨g, j, none⟩ = some v ∧ ∀ i, w.frozen? ⟨g, i, none⟩ = false := by
  rcases h.2 with ⟨h1, _⟩ | ⟨g', cap, cur, hv, hb, hg, h1, h2, h3, h4⟩
  · cases h1
  · injection hv with e1 _ e3
    injection e1 with e1; injection e1 with e1
    subst e1
    have hlt : j < cur.size := by omega
    exact ⟨cur[j], by simp only [World.cell?, hg]; simp [hlt], fun i => by simp only [World.frozen?, hg]; simp⟩
theorem own_some {w : World} {base : Nat} {E : TypeId} {p : Option Addr} {n c : Nat} {xs : List Value} (h : w.ownsRow base E 3 (.slice p n c) n xs) (hn : 0 < n) : ∃ g, p = some ⟨g, 0, none⟩ := by
  rcases h.2 with ⟨h1, h2⟩ | ⟨g', cap, cur, hv, _⟩
  · omega
  · injection hv with e1
    exact ⟨g', e1⟩
/-- the new numbers of the words up to k -/
def nowTo (l : List Int) (n k : Nat) : List Int := (List.range n).map fun (i : Nat) => if i < k then nowF l i else 0
theorem nowTo_len (l : List Int) (n k : Nat) : (nowTo l n k).length = n := by simp [nowTo]
theorem nowTo_zero (l : List Int) (n : Nat) : nowTo l n 0 = List.replicate n 0 := by
  apply List.ext_getElem?
  intro i
  unfold nowTo
  by_cases hi : i < n
  · simp [hi]
  · rw [List.getElem?_eq_none (by simpa using hi), List.getElem?_eq_none (by simpa using hi)]
theorem nowTo_succ (l : List Int) (n : Nat) {k : Nat} (hk : k < n) : (nowTo l n k).set k (nowF l k) = nowTo l n (k + 1) := by
  apply List.ext_getElem?
  intro i
  rw [List.getElem?_set, nowTo_len]
  unfold nowTo
  rw [List.getElem?_map, List.getElem?_map]
  by_cases h : k = i
  · subst h; rw [if_pos rfl, if_pos hk]; simp [hk]
  · rw [if_neg h]
    by_cases hi : i < n
    · rw [List.getElem?_range hi]
      simp only [Option.map_some]
      by_cases g : i < k
      · rw [if_pos g, if_pos (by omega)]
      · rw [if_neg g, if_neg (by omega)]
    · rw [List.getElem?_eq_none (by simpa using hi)]; rfl
theorem nowTo_full (l : List Int) (n : Nat) {k : Nat} (hk : k < n) : (nowTo l n n).getD k 0 = nowF l k := by
  unfold nowTo; simp [hk]
theorem now_at {W : World} {M n k : Nat} {l : List Int} {tg : Nat × Nat} (h : W.heap[M]? = some (.cells (arrOf (nowTo l n n)) 3 tg)) (hk : k < n) : W.cell? ⟨M, k, none⟩ = some (.int .i64 (nowF l k)) := by
  have h2 : (arrOf (nowTo l n n))[k]? = some (.int .i64 (nowF l k)) := by rw [arrOf_get (by rw [nowTo_len]; exact hk), nowTo_full l n hk]
  simp [World.cell?, h, h2]
theorem coreUp (a : Bool) (b j : Nat) (l : List Int) : (a && (List.range (j + 1)).all fun i => l.contains ((b : Int) + (i : Int))) = ((a && (List.range j).all fun i => l.contains ((b : Int) + (i : Int))) && l.contains ((b : Int) + (j : Int))) := by
  rw [List.range_succ, List.all_append, Bool.and_assoc]; simp
theorem take_all {l : List Int} {n k : Nat} (h : Upto l n k n) : l.take k = l := by rw [h.full, List.take_length]
def spSr16 (A R bb o n cw k : Nat) (v1 : Value) (x : Word) : Nat → List Value → Value → World → Prop
  | 0, _, v, _ => v = .pointer (some ⟨R, 0, none⟩)
  | 1, _, v, _ => v = v1
  | 2, _, v, _ => v = .pointer (some ⟨A, 0, none⟩)
  | 3, _, v, _ => v = .slice (some ⟨bb, o, none⟩) n cw
  | 4, _, v, _ => v = .int .i64 (k : Int)
  | 5, _, v, _ => v = .pointer (some ⟨bb, o + k * 3, none⟩)
  | 6, _, v, _ => v = .agg #[.int .i64 x.syl, .int .i64 x.wt, .bool x.stop]
  | 7, L, v, w => ∃ p, v = .slice (some ⟨p, 0, none⟩) 1 1 ∧ w.heap[p]? = some (.cells #[.int .i64 x.syl, .int .i64 x.wt, .bool x.stop] 78 (0, 0))
  | _, _, _, _ => False
theorem spSr16_stable (A R bb o n cw k : Nat) (v1 : Value) (x : Word) : ∀ i L v w w', spSr16 A R bb o n cw k v1 x i L v w → Rs.Gr w w' → spSr16 A R bb o n cw k v1 x i L v w' := by
  intro i L v w w' h hg
  match i with
  | 0 => exact h
  | 1 => exact h
  | 2 => exact h
  | 3 => exact h
  | 4 => exact h
  | 5 => exact h
  | 6 => exact h
  | 7 => obtain ⟨p, h1, h3⟩ := h; exact ⟨p, h1, (hg.block p (Array.getElem?_eq_some_iff.1 h3).1).trans h3⟩
def spSr29 (R M b14 n : Nat) (u1 : Value) (l : List Int) (a b c : Nat) : Nat → List Value → Value → World → Prop
  | 0, _, v, _ => v = .pointer (some ⟨R, 1, none⟩)
  | 1, _, v, _ => v = u1
  | 2, _, v, _ => v = .slice (some ⟨M, 0, none⟩) n n
  | 3, _, v, _ => v = .pointer (some ⟨b14, 0, none⟩)
  | 4, _, v, _ => v = .int .i64 (a : Int)
  | 5, _, v, _ => v = .pointer (some ⟨M, a, none⟩)
  | 6, _, v, _ => v = .int .i64 (nowF l a)
  | 7, _, v, _ => v = .slice (some ⟨M, 0, none⟩) n n
  | 8, _, v, _ => v = .pointer (some ⟨b14, 1, none⟩)
  | 9, _, v, _ => v = .pointer (some ⟨b14, 1, none⟩)
  | 10, _, v, _ => v = .int .i64 (b : Int)
  | 11, _, v, _ => v = .pointer (some ⟨M, b, none⟩)
  | 12, _, v, _ => v = .int .i64 (nowF l b)
  | 13, _, v, _ => v = .slice (some ⟨M, 0, none⟩) n n
  | 14, _, v, _ => v = .pointer (some ⟨b14, 1, none⟩)
  | 15, _, v, _ => v = .pointer (some ⟨b14, 2, none⟩)
  | 16, _, v, _ => v = .int .i64 (c : Int)
  | 17, _, v, _ => v = .pointer (some ⟨M, c, none⟩)
  | 18, _, v, _ => v = .int .i64 (nowF l c)
  | 19, _, v, _ => v = .agg #[.int .i64 (nowF l b), .int .i64 (nowF l c)]
  | 20, _, v, _ => v = .agg #[.int .i64 (nowF l a), .int .i64 (nowF l b), .int .i64 (nowF l c)]
  | 21, L, v, w => ∃ p, v = .slice (some ⟨p, 0, none⟩) 1 1 ∧ w.heap[p]? = some (.cells #[.int .i64 (nowF l a), .int .i64 (nowF l b), .int .i64 (nowF l c)] 81 (0, 0))
  | _, _, _, _ => False
theorem spSr29_stable (R M b14 n : Nat) (u1 : Value) (l : List Int) (a b c : Nat) : ∀ i L v w w', spSr29 R M b14 n u1 l a b c i L v w → Rs.Gr w w' → spSr29 R M b14 n u1 l a b c i L v w' := by
  intro i L v w w' h hg
  match i with
  | 0 => exact h
  | 1 => exact h
  | 2 => exact h
  | 3 => exact h
  | 4 => exact h
  | 5 => exact h
  | 6 => exact h
  | 7 => exact h
  | 8 => exact h
  | 9 => exact h
  | 10 => exact h
  | 11 => exact h
  | 12 => exact h
  | 13 => exact h
  | 14 => exact h
  | 15 => exact h
  | 16 => exact h
  | 17 => exact h
  | 18 => exact h
  | 19 => exact h
  | 20 => exact h
  | 21 => obtain ⟨p, h1, h3⟩ := h; exact ⟨p, h1, (hg.block p (Array.getElem?_eq_some_iff.1 h3).1).trans h3⟩

set_option maxHeartbeats 16000000 in
set_option maxRecDepth 100000 in
theorem rShorter_any (t : Text) (l : List Int) (hl1 : t.words.length ≤ 1000000) (hl2 : t.turns.length ≤ 1000000) (hll : l.length ≤ 1000000) (pw pt pl : Option Addr) (cw ct cl : Nat) (w : World) (hW : TxAt w t pw pt) (hL : Ints w pl l) :
    Calls Try.prog 47 #[.agg #[.slice pw t.words.length cw, .slice pt t.turns.length ct, .int .i64 t.breath], .slice pl l.length cl] w (TextPost 78 81 (shoT t l) (shoE t l) w) := by
  have HS := Lib.hid (fun W (h : Below w.heap.size w W) => rKeeps_any t l hl1 hl2 hll pw pt pl cw ct cl W (hW.below h) (hL.below h))
  by_cases he : t.keptE l = 0
  · have HE := Lib.hid he
    cases hks : t.keeps l with
    | false =>
    have h1 : shoT t l = ⟨[], [], 0⟩ := by unfold shoT; rw [if_neg (by rw [hks]; simp)]
    have h2 : shoE t l = 8 := by unfold shoE; rw [if_pos he, hks]; rfl
    have h3 : keeB t l = false := by unfold keeB; rw [if_pos he, hks]
    rw [h1, h2]
    have HK := Lib.hid h3
    clear hW hL he h1 h2 h3 hks
    go_enter Try.func47, Try.ntmps47
    go_wp2_with fail
    refine (HS.out _ ((below1 _ _).alloc (by simp) _)).mono ?_
    rintro e w5 ⟨rfl, hB5⟩
    have hz7 : w.heap.size + 1 < w5.heap.size := by have := hB5.size; simp at this; omega
    have HRES := Lib.hid (show w5.heap[w.heap.size + 1]? = some (.cells #[.slice none 0 0, .slice none 0 0, .int .i64 0] 35 (0, 0)) by
      rw [hB5.block _ (by simp)]
      have := heap_last (w.alloc (.cells #[.slice pw t.words.length cw, .slice pt t.turns.length ct, .int .i64 t.breath] 35)) (.cells #[.slice none 0 0, .slice none 0 0, .int .i64 0] 35)
      rwa [World.size_alloc] at this)
    have HT5 := Lib.hid (show w5.heap[w.heap.size]? = some (.cells #[.slice pw t.words.length cw, .slice pt t.turns.length ct, .int .i64 t.breath] 35 (0, 0)) by
      rw [hB5.block _ (by simp; omega), Below.heap_alloc _ _ _ (by simp)]; exact heap_last _ _)
    have HB6 := Lib.hid (join ((below1 _ _).alloc (by simp) _) hB5)
    clear hB5
    rw [HK.out, HE.out]
    have z : ∀ i, w5.frozen? ⟨w.heap.size + 1, i, none⟩ = false := fun i => by simp [World.frozen?, HRES.out]
    obtain ⟨r0, r1, r2⟩ := blk3 HRES.out
    go_wp2
    refine bodyPost_ret (v := .tuple #[.agg #[.slice none 0 0, .slice none 0 0, .int .i64 0], .int .i64 8]) (by simp [results, Try.results47, go_sem, hz7, r0, r1, r2]) rfl ⟨none, none, 0, 0, rfl, own_none _ _ _ _, own_none _ _ _ _, ?_⟩
    have hz9 := HB6.out.size
    repeat' (first | exact HB6.out | apply belS | apply belA | apply belD)
    all_goals first | omega | (simp; done) | (simp; omega)
    | true =>
    have hk := keptE_zero he
    have ok := err_ok hk.1
    have h1 : shoT t l = t.shortT l := by unfold shoT; rw [if_pos ⟨he, hks⟩]
    have h2 : shoE t l = 0 := by unfold shoE; rw [if_pos he, hks]; rfl
    have h3 : keeB t l = true := by unfold keeB; rw [if_pos he, hks]
    rw [h1, h2]
    have HK := Lib.hid h3
    have HOK := Lib.hid ok
    have hn12 := ok.n12
    have hm6 := ok.m6
    have hlen := kept_len he
    have HU0 := Lib.hid (Upto.start (n := t.words.length) hk.2.2.2 hk.2.2.1)
    have HHAS := Lib.hid (fun x W (h : Below w.heap.size w W) => has_any l x hll pl cl W (hL.below h))
    obtain ⟨bb, o, x0, rfl, hbb, _⟩ := hW.words.at (i := 0) (by have := ok.n1; omega)
    have HWD := Lib.hid hW.words
    have HTN := Lib.hid hW.turns
    have hmk := make_ints t.words.length (by omega)
    obtain ⟨i0, hi0, hz0, hz1, hz2⟩ := info_parts A_infoRW
    obtain ⟨j0, hj0, hy0, hy1, hy2⟩ := info_parts A_infoRT
    clear hW hL he h1 h2 h3 hks ok hk
    go_enter Try.func47, Try.ntmps47
    go_wp2_with fail
    refine (HS.out _ ((below1 _ _).alloc (by simp) _)).mono ?_
    rintro e w5 ⟨rfl, hB5⟩
    have hz7 : w.heap.size + 1 < w5.heap.size := by have := hB5.size; simp at this; omega
    have HRES := Lib.hid (show w5.heap[w.heap.size + 1]? = some (.cells #[.slice none 0 0, .slice none 0 0, .int .i64 0] 35 (0, 0)) by
      rw [hB5.block _ (by simp)]
      have := heap_last (w.alloc (.cells #[.slice (some ⟨bb, o, none⟩) t.words.length cw, .slice pt t.turns.length ct, .int .i64 t.breath] 35)) (.cells #[.slice none 0 0, .slice none 0 0, .int .i64 0] 35)
      rwa [World.size_alloc] at this)
    have HT5 := Lib.hid (show w5.heap[w.heap.size]? = some (.cells #[.slice (some ⟨bb, o, none⟩) t.words.length cw, .slice pt t.turns.length ct, .int .i64 t.breath] 35 (0, 0)) by
      rw [hB5.block _ (by simp; omega), Below.heap_alloc _ _ _ (by simp)]; exact heap_last _ _)
    have HB6 := Lib.hid (join ((below1 _ _).alloc (by simp) _) hB5)
    clear hB5
    rw [HK.out, HE.out]
    have hz6 : w.heap.size < w5.heap.size := by omega
    obtain ⟨k0, k1, k2⟩ := blk3 HT5.out
    go_wp2_with fail
    clear k0 k1 k2 hmk
    obtain ⟨WL, hWL⟩ : ∃ WL, WL = (w5.alloc (.cells #[.slice none 0 0, .slice none 0 0, .int .i64 t.breath] 35)).alloc (.cells (arrOf (List.replicate t.words.length 0)) 3) := ⟨_, rfl⟩
    rw [← hWL]
    obtain ⟨R, hR⟩ : ∃ R, R = w5.heap.size := ⟨_, rfl⟩
    have HM0 := Lib.hid (show SrT w t (some ⟨bb, o, none⟩) pt cw ct R (R + 1) (nowTo l t.words.length 0) (.slice none 0 0) (.slice none 0 0) [] [] WL by
      have hb : Below w5.heap.size w5 WL := by rw [hWL]; exact (below1 _ _).alloc (by simp) _
      have hl := heap_last (w5.alloc (.cells #[.slice none 0 0, .slice none 0 0, .int .i64 t.breath] 35)) (.cells (arrOf (List.replicate t.words.length 0)) 3)
      rw [World.size_alloc, ← hWL] at hl
      refine ⟨(hb.block _ (by omega)).trans HT5.out, (hb.block _ (by omega)).trans HRES.out, ?_, by rw [nowTo_zero, hR]; exact hl, own_none _ _ _ _, own_none _ _ _ _, HB6.out.trans (hb.mono HB6.out.size), by omega, by omega⟩
      rw [hWL, hR]
      exact ((below1 (w5.alloc (.cells #[.slice none 0 0, .slice none 0 0, .int .i64 t.breath] 35)) _).block w5.heap.size (by simp)).trans (heap_last _ _))
    rw [← hR]
    clear hWL hR HB6 HT5 HRES hz7 hz6
    go_loopw [11, 12] (fun a i wr => ∃ (k kk : Nat) (v : Value), k ≤ t.words.length ∧ i = .int .i64 k ∧ a = .int .i64 ((kk : Int) - 1) ∧ Hid (Upto l t.words.length kk k) ∧ Hid (SrT w t (some ⟨bb, o, none⟩) pt cw ct R (R + 1) (nowTo l t.words.length k) v (.slice none 0 0) (shortW t.words (l.take kk) k) [] wr)) (fun _ i _ => t.words.length - (intOf i).toNat)
    case atStart => exact ⟨0, 0, _, Nat.zero_le _, rfl, rfl, HU0, HM0⟩
    case round =>
      obtain ⟨k, kk, v, hk, rfl, rfl, HU, HM⟩ := hrel
      clear HM0 HU0
      obtain ⟨p1, c1, rfl⟩ := own_val HM.out.ow
      have hkl := HU.out.kl
      have hRM := HM.out.lt1
      have hMs := HM.out.siz
      have hSl := Lib.hid (show (shortW t.words (l.take kk) k).length = kk by rw [shortW_len, List.length_take]; omega)
      obtain ⟨k0, k1, k2⟩ := blk3 HM.out.txt
      have hA0 : w.heap.size < wr.heap.size := by omega
      by_cases hlt : k < t.words.length
      · have hlt' : (k : Int) < t.words.length := by omega
        have hk0 : (0 : Int) ≤ (k : Int) := by omega
        have HHIT := Lib.hid (fun h => short_hit HU.out hlt h)
        have HMISS := Lib.hid (short_miss HU.out hlt)
        generalize shortW t.words (l.take kk) k = S at HM hSl HHIT HMISS ⊢
        obtain ⟨bb', o', x, hp, _, hxx, d0, d1, d2⟩ := HWD.out.at hlt
        injection hp with hp; injection hp with hp1 hp2 _
        subst hp1; subst hp2
        have HD := Lib.hid (show w.cell? ⟨bb, o + k * 3, none⟩ = some (.int .i64 x.syl) ∧ w.cell? ⟨bb, o + k * 3 + 1, none⟩ = some (.int .i64 x.wt) ∧ w.cell? ⟨bb, o + k * 3 + 2, none⟩ = some (.bool x.stop) from ⟨d0, d1, d2⟩)
        rw [← hxx] at HHIT HMISS
        clear d0 d1 d2 hxx
        have cM := blk_cells HM.out.now k _ (arrOf_get (by rw [nowTo_len]; exact hlt))
        have fM : ∀ i, wr.frozen? ⟨R + 1, i, none⟩ = false := fun i => by simp [World.frozen?, HM.out.now]
        generalize (nowTo l t.words.length k).getD k 0 = old at cM
        go_wp2_with fail
        clear cM fM k0 k1 k2
        have HM1 := Lib.hid (HM.out.setNow k (-1))
        clear HM
        refine (HHAS.out (k : Int) _ HM1.out.bel).mono ?_
        rintro e w8 ⟨rfl, hB⟩
        have HM := Lib.hid (HM1.out.low hB)
        clear HM1 hB
        have hA0 : w.heap.size < w8.heap.size := by have := HM.out.siz; omega
        obtain ⟨k0, k1, k2⟩ := blk3 HM.out.txt
        have cM := blk_cells HM.out.now k _ (arrOf_get (by rw [List.length_set, nowTo_len]; exact hlt))
        have fM : ∀ i, w8.frozen? ⟨R + 1, i, none⟩ = false := fun i => by simp [World.frozen?, HM.out.now]
        generalize ((nowTo l t.words.length k).set k (-1)).getD k 0 = old2 at cM
        cases hc : l.contains (k : Int) with
        | true =>
          have HIDX := Lib.hid (HU.out.idx hc)
          have HUN := Lib.hid (HU.out.next hc)
          have HSN := Lib.hid (HHIT.out hc)
          have hadd : IntKind.wrap .i64 ((kk : Int) - 1 + 1) = (kk : Int) := by rw [show (kk : Int) - 1 + 1 = (kk : Int) by omega]; exact IntWalk.i64_in _ (by omega)
          clear hc HHIT HMISS
          go_wp2_with fail
          clear cM fM k0 k1 k2 hA0
          have HM2 := Lib.hid (HM.out.setNow k (kk : Int))
          rw [List.set_set, ← HIDX.out, nowTo_succ l _ hlt] at HM2
          rw [← HIDX.out]
          have HNK := Lib.hid (show nowF l k = (kk : Int) from HIDX.out)
          generalize w8.setCell ⟨R + 1, k, none⟩ (.int .i64 (nowF l k)) = w9 at HM2 ⊢
          clear HM
          have HM := HM2
          clear HM2
          refine Rs.region_gen 8 [[], [0], [], [2], [], [2, 3, 4], [2, 3, 4, 5], [2, 3, 4, 5, 6]] [some 57, some 58, some 59, some 60, some 61, some 62, some 63, some 64] (spSr16 w.heap.size R bb o t.words.length cw k (.slice p1 S.length c1) x) (by kernel_rfl) (by kernel_rfl) rfl (spSr16_stable _ _ _ _ _ _ _ _ _) ?_ ?_
          · refine ⟨fun V w' hG hs => ?_, fun V w' hG hs => ?_, fun V w' hG hs => ?_, fun V w' hG hs => ?_, fun V w' hG hs => ?_, fun V w' hG hs => ?_, fun V w' hG hs => ?_, fun V w' hG hs => ?_, trivial⟩
            all_goals
              obtain ⟨j0, j1, j2⟩ := blk3 ((hG.block R (by have := HM.out.siz; have := HM.out.lt2; omega)).trans HM.out.box)
              obtain ⟨k0, k1, k2⟩ := blk3 ((hG.block w.heap.size (by have := HM.out.siz; have := HM.out.lt2; have := HM.out.lt1; omega)).trans HM.out.txt)
              have hBw := below_trans2 HM.out.bel hG
              have d0 := (hBw.cell (p := ⟨bb, o + k * 3, none⟩) hbb).trans HD.out.1
              have d1 := (hBw.cell (p := ⟨bb, o + k * 3 + 1, none⟩) hbb).trans HD.out.2.1
              have d2 := (hBw.cell (p := ⟨bb, o + k * 3 + 2, none⟩) hbb).trans HD.out.2.2
            · rw [if_pos (by rfl)]
              exact Rs.GrowL.value (v := .pointer (some ⟨R, 0, none⟩)) (w' := w') (by simp [go_sem, Rs.look]) (Rs.Gr.refl _) rfl
            · have e0 : V 0 = .pointer (some ⟨R, 0, none⟩) := hs 0 (by simp)
              rw [if_pos (by rfl)]
              exact Rs.GrowL.value (v := (.slice p1 S.length c1)) (w' := w') (by simp [go_sem, Rs.look, e0, j0]) (Rs.Gr.refl _) rfl
            · rw [if_pos (by rfl)]
              exact Rs.GrowL.value (v := .pointer (some ⟨w.heap.size, 0, none⟩)) (w' := w') (by simp [go_sem, Rs.look]) (Rs.Gr.refl _) rfl
            · have e2 : V 2 = .pointer (some ⟨w.heap.size, 0, none⟩) := hs 2 (by simp)
              rw [if_pos (by rfl)]
              exact Rs.GrowL.value (v := .slice (some ⟨bb, o, none⟩) t.words.length cw) (w' := w') (by simp [go_sem, Rs.look, e2, k0]) (Rs.Gr.refl _) rfl
            · rw [if_pos (by rfl)]
              exact Rs.GrowL.value (v := .int .i64 (k : Int)) (w' := w') (by simp [go_sem, Rs.look]) (Rs.Gr.refl _) rfl
            · have e2 : V 2 = .pointer (some ⟨w.heap.size, 0, none⟩) := hs 2 (by simp)
              have e3 : V 3 = .slice (some ⟨bb, o, none⟩) t.words.length cw := hs 3 (by simp)
              have e4 : V 4 = .int .i64 (k : Int) := hs 4 (by simp)
              rw [if_pos (by rfl)]
              exact Rs.GrowL.value (v := .pointer (some ⟨bb, o + k * 3, none⟩)) (w' := w') (by simp [go_sem, Rs.look, e2, e3, e4, hk0, hlt', hlt]) (Rs.Gr.refl _) rfl
            · have e2 : V 2 = .pointer (some ⟨w.heap.size, 0, none⟩) := hs 2 (by simp)
              have e3 : V 3 = .slice (some ⟨bb, o, none⟩) t.words.length cw := hs 3 (by simp)
              have e4 : V 4 = .int .i64 (k : Int) := hs 4 (by simp)
              have e5 : V 5 = .pointer (some ⟨bb, o + k * 3, none⟩) := hs 5 (by simp)
              rw [if_pos (by rfl)]
              exact Rs.GrowL.value (v := .agg #[.int .i64 x.syl, .int .i64 x.wt, .bool x.stop]) (w' := w') (by simp [go_sem, Rs.look, e2, e3, e4, e5, d0, d1, d2]) (Rs.Gr.refl _) rfl
            · have e2 : V 2 = .pointer (some ⟨w.heap.size, 0, none⟩) := hs 2 (by simp)
              have e3 : V 3 = .slice (some ⟨bb, o, none⟩) t.words.length cw := hs 3 (by simp)
              have e4 : V 4 = .int .i64 (k : Int) := hs 4 (by simp)
              have e5 : V 5 = .pointer (some ⟨bb, o + k * 3, none⟩) := hs 5 (by simp)
              have e6 : V 6 = .agg #[.int .i64 x.syl, .int .i64 x.wt, .bool x.stop] := hs 6 (by simp)
              rw [if_pos (by rfl)]
              exact Rs.GrowL.value (v := .slice (some ⟨w'.heap.size, 0, none⟩) 1 1) (w' := w'.alloc (.cells #[.int .i64 x.syl, .int .i64 x.wt, .bool x.stop] 78)) (by simp [go_sem, Rs.look, e6]) (below1 _ _) ⟨_, rfl, heap_last _ _⟩
          · intro V w' hG hs
            have e0 : V 0 = .pointer (some ⟨R, 0, none⟩) := hs 0 (by omega)
            have e1 : V 1 = (.slice p1 S.length c1) := hs 1 (by omega)
            have e2 : V 2 = .pointer (some ⟨w.heap.size, 0, none⟩) := hs 2 (by omega)
            have e3 : V 3 = .slice (some ⟨bb, o, none⟩) t.words.length cw := hs 3 (by omega)
            have e4 : V 4 = .int .i64 (k : Int) := hs 4 (by omega)
            have e5 : V 5 = .pointer (some ⟨bb, o + k * 3, none⟩) := hs 5 (by omega)
            have e6 : V 6 = .agg #[.int .i64 x.syl, .int .i64 x.wt, .bool x.stop] := hs 6 (by omega)
            have r7 := hs 7 (by omega)
            obtain ⟨p9, e7, hx9⟩ := r7
            simp only [Rs.canon, Rs.dstOf, List.range_succ, List.range_zero, List.nil_append, List.cons_append, List.foldl_cons, List.foldl_nil, List.drop_succ_cons, List.drop_zero, List.drop_nil, List.getElem?_toArray, List.getElem?_cons_succ, List.getElem?_cons_zero, Option.bind_some, Act.put, List.getD_cons_succ, List.getD_cons_zero, List.setIfInBounds_toArray, List.set_cons_succ, List.set_cons_zero]
            rw [e0, e1, e2, e3, e4, e5, e6, e7]
            clear e0 e1 e2 e3 e4 e5 e6 e7 hs
            have HM := Lib.hid (HM.out.low hG)
            have HX9 := Lib.hid hx9
            clear hG hx9
            go_wp2_with (at_builtin; refine wpList_append_own _ rfl _ _ 32 rfl (R + 1 + 1) 78 i0 (.agg #[.int .i64 0, .int .i64 0, .bool false]) 3 24 A_undRW hi0 hz0 hz1 hz2 rfl (by decide) _ _ _ rfl HM.out.ow ⟨p9, 0, none⟩ 1 1 [.int .i64 x.syl, .int .i64 x.wt, .bool x.stop] rfl rfl ?e1 ?e2 ?e3 ?e4 ?e5 ?_)
            case e1 => exact cell3_at HX9.out
            case e2 => intro u hu; simp at hu; rcases hu with rfl | rfl | rfl <;> rfl
            case e3 => have := hSl.out; unfold maxLen; omega
            case e4 => have := hSl.out; omega
            case e5 => have := HM.out.siz; omega
            intro v' w10 hown hgrow _
            obtain ⟨vp, vc, rfl⟩ := own_val hown
            have hh := grow_hold (M := R + 1) HM.out.ow (by omega) hgrow
            have hu := own_other HM.out.ou HM.out.ow (by decide) hgrow
            have HM3 := Lib.hid (HM.out.wapp (x := x) hh (fun k hk => hk) hu hown)
            have hbx := (hh.same R (by show R ≤ R + 1; omega) (by have := HM.out.siz; omega)).trans HM.out.box
            have fR : ∀ i, w10.frozen? ⟨R, i, none⟩ = false := fun i => by simp [World.frozen?, hbx]
            obtain ⟨j0', j1', j2'⟩ := blk3 hbx
            have hRl := (Array.getElem?_eq_some_iff.1 hbx).1
            clear hh hu hgrow hown hbx HM
            go_wp2
            go_roundw
            case rel => exact ⟨k + 1, kk + 1, _, by omega, by go_num, by rw [HNK.out]; congr 1; omega, HUN, Lib.hid (by rw [show ((k + 1 : Nat) : Int) = (k : Int) + 1 from rfl, HSN.out]; exact HM3.out)⟩
            case measure => simp [intOf]; omega
        | false =>
          have HUM := Lib.hid (HU.out.miss hc)
          have HM2 := HM
          rw [← nowF_miss hc, nowTo_succ l _ hlt] at HM2
          clear hc HHIT HM
          have HM := HM2
          clear HM2 cM fM
          by_cases hkk : kk = 0
          · have hge : ¬ (0 : Int) ≤ (kk : Int) - 1 := by omega
            have HMS := Lib.hid (show shortW t.words (l.take kk) ((k : Int) + 1) = S by rw [HMISS.out, if_neg (by omega)])
            clear hkk HMISS
            go_wp2
            go_roundw
            case rel => exact ⟨k + 1, kk, _, by omega, by go_num, rfl, HUM, Lib.hid (by rw [show ((k + 1 : Nat) : Int) = (k : Int) + 1 from rfl, HMS.out]; exact HM.out)⟩
            case measure => simp [intOf]; omega
          · obtain ⟨q, rfl⟩ : ∃ q, kk = q + 1 := ⟨kk - 1, by omega⟩
            have hq : ((q + 1 : Nat) : Int) - 1 = (q : Int) := by omega
            rw [hq]
            have hge : (0 : Int) ≤ (q : Int) := by omega
            have d2 := (HM.out.bel.cell (p := ⟨bb, o + k * 3 + 2, none⟩) hbb).trans HD.out.2.2
            cases hst : x.stop with
            | false =>
              have HMS := Lib.hid (show shortW t.words (l.take (q + 1)) ((k : Int) + 1) = S by rw [HMISS.out, if_neg (by rw [hst]; simp)])
              rw [hst] at d2
              clear hkk HMISS hst
              go_wp2
              go_roundw
              case rel => exact ⟨k + 1, q + 1, _, by omega, by go_num, by rw [hq], HUM, Lib.hid (by rw [show ((k + 1 : Nat) : Int) = (k : Int) + 1 from rfl, HMS.out]; exact HM.out)⟩
              case measure => simp [intOf]; omega
            | true =>
              have HMS := Lib.hid (show shortW t.words (l.take (q + 1)) ((k : Int) + 1) = S.set q { S.getD q default with stop := true } by rw [HMISS.out, if_pos ⟨by omega, hst⟩]; rfl)
              rw [hst] at d2
              clear hkk HMISS hst
              have hSq : S.length = q + 1 := hSl.out
              obtain ⟨g, rfl⟩ := own_some HM.out.ow (by omega)
              obtain ⟨uq, cq, fq⟩ := own_cellE HM.out.ow (j := q * 3 + 2) (by omega)
              have HM3 := Lib.hid (HM.out.stop q (by omega))
              obtain ⟨j0', j1', j2'⟩ := blk3 HM.out.box
              have hRl := (Array.getElem?_eq_some_iff.1 HM.out.box).1
              have hq1 : (q : Int) < (S.length : Int) := by omega
              have hq2 : q < S.length := by omega
              go_wp2
              go_roundw
              case rel => exact ⟨k + 1, q + 1, _, by omega, by go_num, by rw [hq], HUM, Lib.hid (by rw [show ((k + 1 : Nat) : Int) = (k : Int) + 1 from rfl, HMS.out]; exact HM3.out)⟩
              case measure => simp [intOf]; omega
      · obtain rfl : k = t.words.length := by omega
        have hta := take_all HU.out
        rw [hta] at HM
        clear HU hSl hkl hk hta
        generalize hSW : shortW t.words l t.words.length = SW at HM
        have HSW := Lib.hid hSW
        clear hSW
        go_wp2_with fail
        clear k0 k1 k2 hA0 hlt hRM hMs
        go_loopw [13] (fun i wr => ∃ (k : Nat) (u : Value), k ≤ t.turns.length ∧ i = .int .i64 k ∧ Hid (SrT w t (some ⟨bb, o, none⟩) pt cw ct R (R + 1) (nowTo l t.words.length t.words.length) (.slice p1 SW.length c1) u SW (shortTs (t.turns.take k) l) wr)) (fun i _ => t.turns.length - (intOf i).toNat)
        case atStart => exact ⟨0, _, Nat.zero_le _, rfl, HM⟩
        case round =>
          clear HM
          obtain ⟨k, u, hk, rfl, HM⟩ := hrel
          obtain ⟨p2, c2, rfl⟩ := own_val HM.out.ou
          have hRM := HM.out.lt1
          have hMs := HM.out.siz
          obtain ⟨k0, k1, k2⟩ := blk3 HM.out.txt
          have hA0 : w.heap.size < wr.heap.size := by omega
          by_cases hlt : k < t.turns.length
          · have hlt' : (k : Int) < t.turns.length := by omega
            have hk0 : (0 : Int) ≤ (k : Int) := by omega
            obtain ⟨tb, to', u, rfl, _, hxx, d0, d1, d2⟩ := (HTN.out.below HM.out.bel).at hlt
            have hur := HOK.out.turn u (by rw [hxx]; exact getD_mem default hlt)
            have HSN := Lib.hid (show shortTs (t.turns.take (k + 1)) l = shortTs (t.turns.take k) l ++ (if coreIn u l && l.contains u.word then [shortTurn l u] else []) by rw [take_snocD default hlt, ← hxx]; exact shortTs_snoc (t.turns.take k) u l)
            clear hxx
            obtain ⟨uw, ul, uh⟩ := u
            dsimp only at d0 d1 d2 hur HSN
            obtain ⟨a, rfl⟩ := Int.eq_ofNat_of_zero_le hur.1
            obtain ⟨b, rfl⟩ := Int.eq_ofNat_of_zero_le hur.2.2.1
            obtain ⟨c, rfl⟩ := Int.eq_ofNat_of_zero_le (show 0 ≤ uh by omega)
            have ha0 : (0 : Int) ≤ (a : Int) := by omega
            have ha1 : (a : Int) < (t.words.length : Int) := hur.2.1
            have ha2 : a < t.words.length := by omega
            have hb0 : (0 : Int) ≤ (b : Int) := by omega
            have hb1 : (b : Int) < (t.words.length : Int) := by omega
            have hb2 : b < t.words.length := by omega
            have hc0 : (0 : Int) ≤ (c : Int) := by omega
            have hc1 : (c : Int) < (t.words.length : Int) := by omega
            have hc2 : c < t.words.length := by omega
            have hbc : b ≤ c := by omega
            obtain ⟨b14, hb14⟩ : ∃ b14, b14 = wr.heap.size := ⟨_, rfl⟩
            have HX14 := Lib.hid (heap_last wr (.cells #[.int .i64 (a : Int), .int .i64 (b : Int), .int .i64 (c : Int)] 81))
            have HM1 := Lib.hid (HM.out.low (below1 wr (.cells #[.int .i64 (a : Int), .int .i64 (b : Int), .int .i64 (c : Int)] 81)))
            have hca := now_at HM.out.now ha2
            have HGA := Lib.hid (nowF_pos l (a : Int))
            clear hur
            go_wp2_with fail
            clear d0 d1 d2 k0 k1 k2 hca
            generalize wr.alloc (.cells #[.int .i64 (a : Int), .int .i64 (b : Int), .int .i64 (c : Int)] 81) = W8 at HX14 HM1 ⊢
            clear HM
            have HM := HM1
            clear HM1
            rw [← hb14] at HX14 ⊢
            clear hb14 hA0 hRM hMs
            obtain ⟨m0, m1, m2⟩ := blk3 HX14.out
            have h14 := (Array.getElem?_eq_some_iff.1 HX14.out).1
            go_loop [15, 16] (fun al i => ∃ j : Nat, b + j ≤ c + 1 ∧ i = .int .i64 ((b : Int) + (j : Int)) ∧ al = .bool (l.contains (a : Int) && (List.range j).all fun i => l.contains ((b : Int) + (i : Int)))) (fun _ i => c + 1 - (intOf i).toNat)
            case atStart => exact ⟨0, by omega, by simp, by rw [← HGA.out]; simp⟩
            case round =>
              obtain ⟨j, hj, rfl, rfl⟩ := hrel
              by_cases hjc : b + j ≤ c
              · have hjc' : (b : Int) + (j : Int) ≤ (c : Int) := by omega
                have hq0 : (0 : Int) ≤ (b : Int) + (j : Int) := by omega
                have hq1 : (b : Int) + (j : Int) < (t.words.length : Int) := by omega
                have hq2 : b + j < t.words.length := by omega
                have hadd : IntKind.wrap .i64 ((b : Int) + (j : Int) + 1) = (b : Int) + (j : Int) + 1 := IntWalk.i64_in _ (by omega)
                have hcq := now_at HM.out.now hq2
                have HGQ := Lib.hid (nowF_pos l ((b + j : Nat) : Int))
                have HUP := Lib.hid (coreUp (l.contains (a : Int)) b j l)
                have hcast : ((b + j : Nat) : Int) = (b : Int) + (j : Int) := by omega
                rw [hcast] at hcq HGQ
                generalize (l.contains (a : Int) && (List.range j).all fun i => l.contains ((b : Int) + (i : Int))) = al at HUP ⊢
                cases al with
                | true =>
                  rw [Bool.true_and, ← HGQ.out] at HUP
                  go_wp2
                  go_round
                  case rel => exact ⟨j + 1, by omega, by push_cast; rw [Int.add_assoc], by rw [HUP.out]⟩
                  case measure => simp only [intOf]; omega
                | false =>
                  rw [Bool.false_and] at HUP
                  go_wp2
                  go_round
                  case rel => exact ⟨j + 1, by omega, by push_cast; rw [Int.add_assoc], by rw [HUP.out]⟩
                  case measure => simp only [intOf]; omega
              · have hjc' : ¬ (b : Int) + (j : Int) ≤ (c : Int) := by omega
                have HAL := Lib.hid (show (l.contains (a : Int) && (List.range j).all fun i => l.contains ((b : Int) + (i : Int))) = (coreIn ⟨(a : Int), (b : Int), (c : Int)⟩ l && l.contains (a : Int)) by
                  rw [Bool.and_comm]
                  unfold coreIn
                  rw [show ((c : Int) + 1 - (b : Int)).toNat = j by omega])
                rw [HAL.out]
                clear HAL
                cases hall : (coreIn ⟨(a : Int), (b : Int), (c : Int)⟩ l && l.contains (a : Int)) with
                | false =>
                  have HSM := Lib.hid (show shortTs (t.turns.take (k + 1)) l = shortTs (t.turns.take k) l by rw [HSN.out, hall]; simp)
                  clear hall HSN
                  go_wp2
                  go_roundw
                  case rel => exact ⟨k + 1, _, by omega, by go_num, Lib.hid (by rw [HSM.out]; exact HM.out)⟩
                  case measure => simp [intOf]; omega
                | true =>
                  have HSM := Lib.hid (show shortTs (t.turns.take (k + 1)) l = shortTs (t.turns.take k) l ++ [⟨nowF l a, nowF l b, nowF l c⟩] by
                    rw [HSN.out, hall, if_pos rfl]
                    rw [Bool.and_eq_true] at hall
                    have he := core_ends (show (b : Int) ≤ (c : Int) by omega) hall.1
                    unfold shortTurn nowF
                    rw [if_pos hall.2, if_pos he.1, if_pos he.2])
                  clear hall HSN
                  go_wp2_with fail
                  refine Rs.region_gen 22 [[], [0], [], [], [3], [2, 3, 4], [2, 3, 4, 5], [], [], [8], [8, 9], [7, 8, 9, 10], [7, 8, 9, 10, 11], [], [], [14], [14, 15], [13, 14, 15, 16], [13, 14, 15, 16, 17], [7, 8, 9, 10, 11, 12, 13, 14, 15, 16, 17, 18], [2, 3, 4, 5, 6, 7, 8, 9, 10, 11, 12, 13, 14, 15, 16, 17, 18, 19], [2, 3, 4, 5, 6, 7, 8, 9, 10, 11, 12, 13, 14, 15, 16, 17, 18, 19, 20]] [some 119, some 120, some 121, some 122, some 123, some 124, some 125, some 126, some 127, some 128, some 129, some 130, some 131, some 132, some 133, some 134, some 135, some 136, some 137, some 138, some 139, some 140] (spSr29 R (R + 1) b14 t.words.length (.slice p2 (shortTs (t.turns.take k) l).length c2) l a b c) (by kernel_rfl) (by kernel_rfl) rfl (spSr29_stable _ _ _ _ _ _ _ _ _) ?_ ?_
                  · refine ⟨fun V w' hG hs => ?_, fun V w' hG hs => ?_, fun V w' hG hs => ?_, fun V w' hG hs => ?_, fun V w' hG hs => ?_, fun V w' hG hs => ?_, fun V w' hG hs => ?_, fun V w' hG hs => ?_, fun V w' hG hs => ?_, fun V w' hG hs => ?_, fun V w' hG hs => ?_, fun V w' hG hs => ?_, fun V w' hG hs => ?_, fun V w' hG hs => ?_, fun V w' hG hs => ?_, fun V w' hG hs => ?_, fun V w' hG hs => ?_, fun V w' hG hs => ?_, fun V w' hG hs => ?_, fun V w' hG hs => ?_, fun V w' hG hs => ?_, fun V w' hG hs => ?_, trivial⟩
                    all_goals
                      obtain ⟨j0, j1, j2⟩ := blk3 ((hG.block R (by have := HM.out.siz; have := HM.out.lt2; omega)).trans HM.out.box)
                      obtain ⟨m0, m1, m2⟩ := blk3 ((hG.block b14 (Array.getElem?_eq_some_iff.1 HX14.out).1).trans HX14.out)
                      have hNW := (hG.block (R + 1) HM.out.siz).trans HM.out.now
                      have ca := now_at hNW ha2
                      have cb := now_at hNW hb2
                      have cc := now_at hNW hc2
                    · rw [if_pos (by rfl)]
                      exact Rs.GrowL.value (v := .pointer (some ⟨R, 1, none⟩)) (w' := w') (by simp [go_sem, Rs.look]) (Rs.Gr.refl _) rfl
                    · have e0 : V 0 = .pointer (some ⟨R, 1, none⟩) := hs 0 (by simp)
                      rw [if_pos (by rfl)]
                      exact Rs.GrowL.value (v := (.slice p2 (shortTs (t.turns.take k) l).length c2)) (w' := w') (by simp [go_sem, Rs.look, e0, j1]) (Rs.Gr.refl _) rfl
                    · rw [if_pos (by rfl)]
                      exact Rs.GrowL.value (v := .slice (some ⟨(R + 1), 0, none⟩) t.words.length t.words.length) (w' := w') (by simp [go_sem, Rs.look]) (Rs.Gr.refl _) rfl
                    · rw [if_pos (by rfl)]
                      exact Rs.GrowL.value (v := .pointer (some ⟨b14, 0, none⟩)) (w' := w') (by simp [go_sem, Rs.look]) (Rs.Gr.refl _) rfl
                    · have e3 : V 3 = .pointer (some ⟨b14, 0, none⟩) := hs 3 (by simp)
                      rw [if_pos (by rfl)]
                      exact Rs.GrowL.value (v := .int .i64 (a : Int)) (w' := w') (by simp [go_sem, Rs.look, e3, m0]) (Rs.Gr.refl _) rfl
                    · have e2 : V 2 = .slice (some ⟨(R + 1), 0, none⟩) t.words.length t.words.length := hs 2 (by simp)
                      have e3 : V 3 = .pointer (some ⟨b14, 0, none⟩) := hs 3 (by simp)
                      have e4 : V 4 = .int .i64 (a : Int) := hs 4 (by simp)
                      rw [if_pos (by rfl)]
                      exact Rs.GrowL.value (v := .pointer (some ⟨(R + 1), a, none⟩)) (w' := w') (by simp [go_sem, Rs.look, e2, e3, e4, ha0, ha1, ha2]) (Rs.Gr.refl _) rfl
                    · have e2 : V 2 = .slice (some ⟨(R + 1), 0, none⟩) t.words.length t.words.length := hs 2 (by simp)
                      have e3 : V 3 = .pointer (some ⟨b14, 0, none⟩) := hs 3 (by simp)
                      have e4 : V 4 = .int .i64 (a : Int) := hs 4 (by simp)
                      have e5 : V 5 = .pointer (some ⟨(R + 1), a, none⟩) := hs 5 (by simp)
                      rw [if_pos (by rfl)]
                      exact Rs.GrowL.value (v := .int .i64 (nowF l a)) (w' := w') (by simp [go_sem, Rs.look, e2, e3, e4, e5, ca]) (Rs.Gr.refl _) rfl
                    · rw [if_pos (by rfl)]
                      exact Rs.GrowL.value (v := .slice (some ⟨(R + 1), 0, none⟩) t.words.length t.words.length) (w' := w') (by simp [go_sem, Rs.look]) (Rs.Gr.refl _) rfl
                    · rw [if_pos (by rfl)]
                      exact Rs.GrowL.value (v := .pointer (some ⟨b14, 1, none⟩)) (w' := w') (by simp [go_sem, Rs.look]) (Rs.Gr.refl _) rfl
                    · have e8 : V 8 = .pointer (some ⟨b14, 1, none⟩) := hs 8 (by simp)
                      rw [if_pos (by rfl)]
                      exact Rs.GrowL.value (v := .pointer (some ⟨b14, 1, none⟩)) (w' := w') (by simp [go_sem, Rs.look, e8]) (Rs.Gr.refl _) rfl
                    · have e8 : V 8 = .pointer (some ⟨b14, 1, none⟩) := hs 8 (by simp)
                      have e9 : V 9 = .pointer (some ⟨b14, 1, none⟩) := hs 9 (by simp)
                      rw [if_pos (by rfl)]
                      exact Rs.GrowL.value (v := .int .i64 (b : Int)) (w' := w') (by simp [go_sem, Rs.look, e8, e9, m1]) (Rs.Gr.refl _) rfl
                    · have e7 : V 7 = .slice (some ⟨(R + 1), 0, none⟩) t.words.length t.words.length := hs 7 (by simp)
                      have e8 : V 8 = .pointer (some ⟨b14, 1, none⟩) := hs 8 (by simp)
                      have e9 : V 9 = .pointer (some ⟨b14, 1, none⟩) := hs 9 (by simp)
                      have e10 : V 10 = .int .i64 (b : Int) := hs 10 (by simp)
                      rw [if_pos (by rfl)]
                      exact Rs.GrowL.value (v := .pointer (some ⟨(R + 1), b, none⟩)) (w' := w') (by simp [go_sem, Rs.look, e7, e8, e9, e10, hb0, hb1, hb2]) (Rs.Gr.refl _) rfl
                    · have e7 : V 7 = .slice (some ⟨(R + 1), 0, none⟩) t.words.length t.words.length := hs 7 (by simp)
                      have e8 : V 8 = .pointer (some ⟨b14, 1, none⟩) := hs 8 (by simp)
                      have e9 : V 9 = .pointer (some ⟨b14, 1, none⟩) := hs 9 (by simp)
                      have e10 : V 10 = .int .i64 (b : Int) := hs 10 (by simp)
                      have e11 : V 11 = .pointer (some ⟨(R + 1), b, none⟩) := hs 11 (by simp)
                      rw [if_pos (by rfl)]
                      exact Rs.GrowL.value (v := .int .i64 (nowF l b)) (w' := w') (by simp [go_sem, Rs.look, e7, e8, e9, e10, e11, cb]) (Rs.Gr.refl _) rfl
                    · rw [if_pos (by rfl)]
                      exact Rs.GrowL.value (v := .slice (some ⟨(R + 1), 0, none⟩) t.words.length t.words.length) (w' := w') (by simp [go_sem, Rs.look]) (Rs.Gr.refl _) rfl
                    · rw [if_pos (by rfl)]
                      exact Rs.GrowL.value (v := .pointer (some ⟨b14, 1, none⟩)) (w' := w') (by simp [go_sem, Rs.look]) (Rs.Gr.refl _) rfl
                    · have e14 : V 14 = .pointer (some ⟨b14, 1, none⟩) := hs 14 (by simp)
                      rw [if_pos (by rfl)]
                      exact Rs.GrowL.value (v := .pointer (some ⟨b14, 2, none⟩)) (w' := w') (by simp [go_sem, Rs.look, e14]) (Rs.Gr.refl _) rfl
                    · have e14 : V 14 = .pointer (some ⟨b14, 1, none⟩) := hs 14 (by simp)
                      have e15 : V 15 = .pointer (some ⟨b14, 2, none⟩) := hs 15 (by simp)
                      rw [if_pos (by rfl)]
                      exact Rs.GrowL.value (v := .int .i64 (c : Int)) (w' := w') (by simp [go_sem, Rs.look, e14, e15, m2]) (Rs.Gr.refl _) rfl
                    · have e13 : V 13 = .slice (some ⟨(R + 1), 0, none⟩) t.words.length t.words.length := hs 13 (by simp)
                      have e14 : V 14 = .pointer (some ⟨b14, 1, none⟩) := hs 14 (by simp)
                      have e15 : V 15 = .pointer (some ⟨b14, 2, none⟩) := hs 15 (by simp)
                      have e16 : V 16 = .int .i64 (c : Int) := hs 16 (by simp)
                      rw [if_pos (by rfl)]
                      exact Rs.GrowL.value (v := .pointer (some ⟨(R + 1), c, none⟩)) (w' := w') (by simp [go_sem, Rs.look, e13, e14, e15, e16, hc0, hc1, hc2]) (Rs.Gr.refl _) rfl
                    · have e13 : V 13 = .slice (some ⟨(R + 1), 0, none⟩) t.words.length t.words.length := hs 13 (by simp)
                      have e14 : V 14 = .pointer (some ⟨b14, 1, none⟩) := hs 14 (by simp)
                      have e15 : V 15 = .pointer (some ⟨b14, 2, none⟩) := hs 15 (by simp)
                      have e16 : V 16 = .int .i64 (c : Int) := hs 16 (by simp)
                      have e17 : V 17 = .pointer (some ⟨(R + 1), c, none⟩) := hs 17 (by simp)
                      rw [if_pos (by rfl)]
                      exact Rs.GrowL.value (v := .int .i64 (nowF l c)) (w' := w') (by simp [go_sem, Rs.look, e13, e14, e15, e16, e17, cc]) (Rs.Gr.refl _) rfl
                    · have e7 : V 7 = .slice (some ⟨(R + 1), 0, none⟩) t.words.length t.words.length := hs 7 (by simp)
                      have e8 : V 8 = .pointer (some ⟨b14, 1, none⟩) := hs 8 (by simp)
                      have e9 : V 9 = .pointer (some ⟨b14, 1, none⟩) := hs 9 (by simp)
                      have e10 : V 10 = .int .i64 (b : Int) := hs 10 (by simp)
                      have e11 : V 11 = .pointer (some ⟨(R + 1), b, none⟩) := hs 11 (by simp)
                      have e12 : V 12 = .int .i64 (nowF l b) := hs 12 (by simp)
                      have e13 : V 13 = .slice (some ⟨(R + 1), 0, none⟩) t.words.length t.words.length := hs 13 (by simp)
                      have e14 : V 14 = .pointer (some ⟨b14, 1, none⟩) := hs 14 (by simp)
                      have e15 : V 15 = .pointer (some ⟨b14, 2, none⟩) := hs 15 (by simp)
                      have e16 : V 16 = .int .i64 (c : Int) := hs 16 (by simp)
                      have e17 : V 17 = .pointer (some ⟨(R + 1), c, none⟩) := hs 17 (by simp)
                      have e18 : V 18 = .int .i64 (nowF l c) := hs 18 (by simp)
                      rw [if_pos (by rfl)]
                      exact Rs.GrowL.value (v := .agg #[.int .i64 (nowF l b), .int .i64 (nowF l c)]) (w' := w') (by simp [go_sem, Rs.look, e7, e8, e9, e10, e11, e12, e13, e14, e15, e16, e17, e18]) (Rs.Gr.refl _) rfl
                    · have e2 : V 2 = .slice (some ⟨(R + 1), 0, none⟩) t.words.length t.words.length := hs 2 (by simp)
                      have e3 : V 3 = .pointer (some ⟨b14, 0, none⟩) := hs 3 (by simp)
                      have e4 : V 4 = .int .i64 (a : Int) := hs 4 (by simp)
                      have e5 : V 5 = .pointer (some ⟨(R + 1), a, none⟩) := hs 5 (by simp)
                      have e6 : V 6 = .int .i64 (nowF l a) := hs 6 (by simp)
                      have e7 : V 7 = .slice (some ⟨(R + 1), 0, none⟩) t.words.length t.words.length := hs 7 (by simp)
                      have e8 : V 8 = .pointer (some ⟨b14, 1, none⟩) := hs 8 (by simp)
                      have e9 : V 9 = .pointer (some ⟨b14, 1, none⟩) := hs 9 (by simp)
                      have e10 : V 10 = .int .i64 (b : Int) := hs 10 (by simp)
                      have e11 : V 11 = .pointer (some ⟨(R + 1), b, none⟩) := hs 11 (by simp)
                      have e12 : V 12 = .int .i64 (nowF l b) := hs 12 (by simp)
                      have e13 : V 13 = .slice (some ⟨(R + 1), 0, none⟩) t.words.length t.words.length := hs 13 (by simp)
                      have e14 : V 14 = .pointer (some ⟨b14, 1, none⟩) := hs 14 (by simp)
                      have e15 : V 15 = .pointer (some ⟨b14, 2, none⟩) := hs 15 (by simp)
                      have e16 : V 16 = .int .i64 (c : Int) := hs 16 (by simp)
                      have e17 : V 17 = .pointer (some ⟨(R + 1), c, none⟩) := hs 17 (by simp)
                      have e18 : V 18 = .int .i64 (nowF l c) := hs 18 (by simp)
                      have e19 : V 19 = .agg #[.int .i64 (nowF l b), .int .i64 (nowF l c)] := hs 19 (by simp)
                      rw [if_pos (by rfl)]
                      exact Rs.GrowL.value (v := .agg #[.int .i64 (nowF l a), .int .i64 (nowF l b), .int .i64 (nowF l c)]) (w' := w') (by simp [go_sem, Rs.look, e2, e3, e4, e5, e6, e7, e8, e9, e10, e11, e12, e13, e14, e15, e16, e17, e18, e19]) (Rs.Gr.refl _) rfl
                    · have e2 : V 2 = .slice (some ⟨(R + 1), 0, none⟩) t.words.length t.words.length := hs 2 (by simp)
                      have e3 : V 3 = .pointer (some ⟨b14, 0, none⟩) := hs 3 (by simp)
                      have e4 : V 4 = .int .i64 (a : Int) := hs 4 (by simp)
                      have e5 : V 5 = .pointer (some ⟨(R + 1), a, none⟩) := hs 5 (by simp)
                      have e6 : V 6 = .int .i64 (nowF l a) := hs 6 (by simp)
                      have e7 : V 7 = .slice (some ⟨(R + 1), 0, none⟩) t.words.length t.words.length := hs 7 (by simp)
                      have e8 : V 8 = .pointer (some ⟨b14, 1, none⟩) := hs 8 (by simp)
                      have e9 : V 9 = .pointer (some ⟨b14, 1, none⟩) := hs 9 (by simp)
                      have e10 : V 10 = .int .i64 (b : Int) := hs 10 (by simp)
                      have e11 : V 11 = .pointer (some ⟨(R + 1), b, none⟩) := hs 11 (by simp)
                      have e12 : V 12 = .int .i64 (nowF l b) := hs 12 (by simp)
                      have e13 : V 13 = .slice (some ⟨(R + 1), 0, none⟩) t.words.length t.words.length := hs 13 (by simp)
                      have e14 : V 14 = .pointer (some ⟨b14, 1, none⟩) := hs 14 (by simp)
                      have e15 : V 15 = .pointer (some ⟨b14, 2, none⟩) := hs 15 (by simp)
                      have e16 : V 16 = .int .i64 (c : Int) := hs 16 (by simp)
                      have e17 : V 17 = .pointer (some ⟨(R + 1), c, none⟩) := hs 17 (by simp)
                      have e18 : V 18 = .int .i64 (nowF l c) := hs 18 (by simp)
                      have e19 : V 19 = .agg #[.int .i64 (nowF l b), .int .i64 (nowF l c)] := hs 19 (by simp)
                      have e20 : V 20 = .agg #[.int .i64 (nowF l a), .int .i64 (nowF l b), .int .i64 (nowF l c)] := hs 20 (by simp)
                      rw [if_pos (by rfl)]
                      exact Rs.GrowL.value (v := .slice (some ⟨w'.heap.size, 0, none⟩) 1 1) (w' := w'.alloc (.cells #[.int .i64 (nowF l a), .int .i64 (nowF l b), .int .i64 (nowF l c)] 81)) (by simp [go_sem, Rs.look, e20]) (below1 _ _) ⟨_, rfl, heap_last _ _⟩
                  · intro V w' hG hs
                    have e0 : V 0 = .pointer (some ⟨R, 1, none⟩) := hs 0 (by omega)
                    have e1 : V 1 = (.slice p2 (shortTs (t.turns.take k) l).length c2) := hs 1 (by omega)
                    have e2 : V 2 = .slice (some ⟨(R + 1), 0, none⟩) t.words.length t.words.length := hs 2 (by omega)
                    have e3 : V 3 = .pointer (some ⟨b14, 0, none⟩) := hs 3 (by omega)
                    have e4 : V 4 = .int .i64 (a : Int) := hs 4 (by omega)
                    have e5 : V 5 = .pointer (some ⟨(R + 1), a, none⟩) := hs 5 (by omega)
                    have e6 : V 6 = .int .i64 (nowF l a) := hs 6 (by omega)
                    have e7 : V 7 = .slice (some ⟨(R + 1), 0, none⟩) t.words.length t.words.length := hs 7 (by omega)
                    have e8 : V 8 = .pointer (some ⟨b14, 1, none⟩) := hs 8 (by omega)
                    have e9 : V 9 = .pointer (some ⟨b14, 1, none⟩) := hs 9 (by omega)
                    have e10 : V 10 = .int .i64 (b : Int) := hs 10 (by omega)
                    have e11 : V 11 = .pointer (some ⟨(R + 1), b, none⟩) := hs 11 (by omega)
                    have e12 : V 12 = .int .i64 (nowF l b) := hs 12 (by omega)
                    have e13 : V 13 = .slice (some ⟨(R + 1), 0, none⟩) t.words.length t.words.length := hs 13 (by omega)
                    have e14 : V 14 = .pointer (some ⟨b14, 1, none⟩) := hs 14 (by omega)
                    have e15 : V 15 = .pointer (some ⟨b14, 2, none⟩) := hs 15 (by omega)
                    have e16 : V 16 = .int .i64 (c : Int) := hs 16 (by omega)
                    have e17 : V 17 = .pointer (some ⟨(R + 1), c, none⟩) := hs 17 (by omega)
                    have e18 : V 18 = .int .i64 (nowF l c) := hs 18 (by omega)
                    have e19 : V 19 = .agg #[.int .i64 (nowF l b), .int .i64 (nowF l c)] := hs 19 (by omega)
                    have e20 : V 20 = .agg #[.int .i64 (nowF l a), .int .i64 (nowF l b), .int .i64 (nowF l c)] := hs 20 (by omega)
                    have r21 := hs 21 (by omega)
                    obtain ⟨p9, e21, hx9⟩ := r21
                    simp only [Rs.canon, Rs.dstOf, List.range_succ, List.range_zero, List.nil_append, List.cons_append, List.foldl_cons, List.foldl_nil, List.drop_succ_cons, List.drop_zero, List.drop_nil, List.getElem?_toArray, List.getElem?_cons_succ, List.getElem?_cons_zero, Option.bind_some, Act.put, List.getD_cons_succ, List.getD_cons_zero, List.setIfInBounds_toArray, List.set_cons_succ, List.set_cons_zero]
                    rw [e0, e1, e2, e3, e4, e5, e6, e7, e8, e9, e10, e11, e12, e13, e14, e15, e16, e17, e18, e19, e20, e21]
                    clear e0 e1 e2 e3 e4 e5 e6 e7 e8 e9 e10 e11 e12 e13 e14 e15 e16 e17 e18 e19 e20 e21 hs
                    have HM := Lib.hid (HM.out.low hG)
                    have HX9 := Lib.hid hx9
                    have htl := shortTs_len (t.turns.take k) l
                    have htk : (t.turns.take k).length ≤ 6 := by rw [List.length_take]; omega
                    clear hG hx9
                    go_wp2_with (at_builtin; refine wpList_append_own _ rfl _ _ 33 rfl (R + 1 + 1) 81 j0 (.agg #[.int .i64 0, .int .i64 0, .int .i64 0]) 3 24 A_undRT hj0 hy0 hy1 hy2 rfl (by decide) _ _ _ rfl HM.out.ou ⟨p9, 0, none⟩ 1 1 [.int .i64 (nowF l a), .int .i64 (nowF l b), .int .i64 (nowF l c)] rfl rfl ?e1 ?e2 ?e3 ?e4 ?e5 ?_)
                    case e1 => exact cell3_at HX9.out
                    case e2 => intro u hu; simp at hu; rcases hu with rfl | rfl | rfl <;> rfl
                    case e3 => unfold maxLen; omega
                    case e4 => omega
                    case e5 => have := HM.out.siz; omega
                    intro v' w10 hown hgrow _
                    obtain ⟨vp, vc, rfl⟩ := own_val hown
                    have hh := grow_hold (M := R + 1) HM.out.ou (by omega) hgrow
                    have hu := own_other HM.out.ow HM.out.ou (by decide) hgrow
                    have HM3 := Lib.hid (HM.out.tapp (x := ⟨nowF l a, nowF l b, nowF l c⟩) hh (fun k hk => hk) hu hown)
                    have hbx := (hh.same R (by show R ≤ R + 1; omega) (by have := HM.out.siz; omega)).trans HM.out.box
                    have fR : ∀ i, w10.frozen? ⟨R, i, none⟩ = false := fun i => by simp [World.frozen?, hbx]
                    obtain ⟨j0', j1', j2'⟩ := blk3 hbx
                    have hRl := (Array.getElem?_eq_some_iff.1 hbx).1
                    clear hh hu hgrow hown hbx HM
                    go_wp2
                    go_roundw
                    case rel => exact ⟨k + 1, _, by omega, by go_num, Lib.hid (by rw [HSM.out]; exact HM3.out)⟩
                    case measure => simp [intOf]; omega
          · obtain rfl : k = t.turns.length := by omega
            have HTT := Lib.hid (show shortTs (t.turns.take t.turns.length) l = shortTs t.turns l by rw [List.take_length])
            rw [HTT.out] at HM
            generalize hTS : shortTs t.turns l = TS at HM
            have HTS := Lib.hid hTS
            clear HTT hTS
            obtain ⟨j0', j1', j2'⟩ := blk3 HM.out.box
            have hRl := (Array.getElem?_eq_some_iff.1 HM.out.box).1
            obtain ⟨r0, r1, r2⟩ := blk3 HM.out.res
            have z : ∀ i, wr.frozen? ⟨w.heap.size + 1, i, none⟩ = false := fun i => by simp [World.frozen?, HM.out.res]
            have hz7 : w.heap.size + 1 < wr.heap.size := by omega
            go_wp2
            obtain ⟨W3, hW3⟩ : ∃ W3, W3 = ((wr.setCell ⟨w.heap.size + 1, 0, none⟩ (.slice p1 SW.length c1)).setCell ⟨w.heap.size + 1, 1, none⟩ (.slice p2 TS.length c2)).setCell ⟨w.heap.size + 1, 2, none⟩ (.int .i64 t.breath) := ⟨_, rfl⟩
            rw [← hW3]
            have hx1 : W3.heap[w.heap.size + 1]? = some (.cells #[.slice p1 SW.length c1, .slice p2 TS.length c2, .int .i64 t.breath] 35 (0, 0)) := by
              rw [hW3]; exact heap_set_same _ (heap_set_same _ (heap_set_same _ HM.out.res))
            have hO : W3.ownsRow w.heap.size 78 3 (.slice p1 SW.length c1) SW.length (wcells SW) := by
              rw [hW3]; exact own_base (own_setC (own_setC (own_setC HM.out.ow (by omega)) (by omega)) (by omega)) (by omega)
            have hQ : W3.ownsRow w.heap.size 81 3 (.slice p2 TS.length c2) TS.length (tcells TS) := by
              rw [hW3]; exact own_base (own_setC (own_setC (own_setC HM.out.ou (by omega)) (by omega)) (by omega)) (by omega)
            have hBW : Below w.heap.size w W3 := by
              rw [hW3]; exact ((HM.out.bel.setCell (p := ⟨w.heap.size + 1, 0, none⟩) (by show w.heap.size ≤ w.heap.size + 1; omega) _).setCell (p := ⟨w.heap.size + 1, 1, none⟩) (by show w.heap.size ≤ w.heap.size + 1; omega) _).setCell (p := ⟨w.heap.size + 1, 2, none⟩) (by show w.heap.size ≤ w.heap.size + 1; omega) _
            have e0 : (t.shortT l).words = SW := HSW.out
            have e1 : (t.shortT l).turns = TS := HTS.out
            have e2 : (t.shortT l).breath = t.breath := rfl
            generalize t.shortT l = X at e0 e1 e2 ⊢
            subst e0
            subst e1
            have q0 := blk_cells hx1 0 _ rfl
            have q1 := blk_cells hx1 1 _ rfl
            have q2 := blk_cells hx1 2 _ rfl
            refine bodyPost_ret (v := .tuple #[.agg #[.slice p1 X.words.length c1, .slice p2 X.turns.length c2, .int .i64 t.breath], .int .i64 0]) (by simp [results, Try.results47, go_sem, q0, q1, q2]) rfl ⟨p1, p2, c1, c2, by rw [e2], hO, hQ, hBW⟩
  · have h1 : shoT t l = ⟨[], [], 0⟩ := by unfold shoT; rw [if_neg (fun h => he h.1)]
    have h2 : shoE t l = t.keptE l := if_neg he
    have hne : (t.keptE l != 0) = true := by simpa using he
    rw [h1, h2]
    clear hW hL he h1 h2
    go_enter Try.func47, Try.ntmps47
    go_wp2_with fail
    refine (HS.out _ ((below1 _ _).alloc (by simp) _)).mono ?_
    rintro e w5 ⟨rfl, hB5⟩
    have hz7 : w.heap.size + 1 < w5.heap.size := by have := hB5.size; simp at this; omega
    have HRES := Lib.hid (show w5.heap[w.heap.size + 1]? = some (.cells #[.slice none 0 0, .slice none 0 0, .int .i64 0] 35 (0, 0)) by
      rw [hB5.block _ (by simp)]
      have := heap_last (w.alloc (.cells #[.slice pw t.words.length cw, .slice pt t.turns.length ct, .int .i64 t.breath] 35)) (.cells #[.slice none 0 0, .slice none 0 0, .int .i64 0] 35)
      rwa [World.size_alloc] at this)
    have HT5 := Lib.hid (show w5.heap[w.heap.size]? = some (.cells #[.slice pw t.words.length cw, .slice pt t.turns.length ct, .int .i64 t.breath] 35 (0, 0)) by
      rw [hB5.block _ (by simp; omega), Below.heap_alloc _ _ _ (by simp)]; exact heap_last _ _)
    have HB6 := Lib.hid (join ((below1 _ _).alloc (by simp) _) hB5)
    clear hB5
    have z : ∀ i, w5.frozen? ⟨w.heap.size + 1, i, none⟩ = false := fun i => by simp [World.frozen?, HRES.out]
    obtain ⟨r0, r1, r2⟩ := blk3 HRES.out
    go_wp2
    refine bodyPost_ret (v := .tuple #[.agg #[.slice none 0 0, .slice none 0 0, .int .i64 0], .int .i64 (t.keptE l)]) (by simp [results, Try.results47, go_sem, hz7, r0, r1, r2]) rfl ⟨none, none, 0, 0, rfl, own_none _ _ _ _, own_none _ _ _ _, ?_⟩
    have hz9 := HB6.out.size
    repeat' (first | exact HB6.out | apply belS | apply belA | apply belD)
    all_goals first | omega | (simp; done) | (simp; omega)
end Go.Proofs.Ytadnggecnjdhiaa
set_option linter.unusedSimpArgs false
set_option linter.unusedVariables false
namespace Go.Proofs.Ytadnggecnjdhiaa
open Go.RowKit Tx

theorem zero3_len (a b c : Value) (n : Nat) : (Builtin.zeroCells #[a, b, c] n).toList.length = n * 3 := by
  simp [Builtin.zeroCells]
theorem zero3_one (a b c : Value) (n : Nat) (h : ∀ u ∈ [a, b, c], u.oneCell' = true) : ∀ v ∈ (Builtin.zeroCells #[a, b, c] n).toList, v.oneCell' = true := by
  intro v hv
  simp [Builtin.zeroCells] at hv
  obtain ⟨i, _, rfl⟩ := hv
  have hi : i % 3 = 0 ∨ i % 3 = 1 ∨ i % 3 = 2 := by omega
  rcases hi with h1 | h1 | h1 <;> rw [h1] <;> exact h _ (by simp)
theorem grown_setCells (g : Nat) : ∀ (vs : List Value) (o : Nat) (w : World), w.grownBy (w.setCells g o vs) (some g)
  | [], _, _ => ⟨rfl, rfl, rfl, Nat.le_refl _, fun _ _ _ => rfl⟩
  | v :: r, o, w => by
    have h1 := grown_set w g o v
    have h2 := grown_setCells g r (o + 1) (w.setCell ⟨g, o, none⟩ v)
    exact ⟨h2.os.trans h1.os, h2.tape.trans h1.tape, h2.output.trans h1.output, Nat.le_trans h1.size h2.size, fun k hk hn => (h2.block k (Nat.lt_of_lt_of_le hk h1.size) hn).trans (h1.block k hk hn)⟩
theorem clear_own {Ts e : TypeId} {i0 : TypeInfo} {a b c : Value} (hu : Try.prog.underlying Ts = some (.slice e)) (hi : Try.prog.info? e = some i0) (hz : i0.zero = some (.agg #[a, b, c])) (h1 : ∀ u ∈ [a, b, c], u.oneCell' = true)
    {w : World} {base : Nat} {p : Option Addr} {n cp : Nat} {xs : List Value} (h : w.ownsRow base e 3 (.slice p n cp) n xs) :
    ∃ w', (∀ ty, (Builtin.clear_ #[Ts] ty #[.slice p n cp]).run Try.prog w = .ok (.tuple #[]) w') ∧ Below base w w' ∧ w.grownBy w' (Value.slice p n cp).ownBlock := by
  have hv : ∀ w, (zeroValue e).run Try.prog w = .ok (.agg #[a, b, c]) w := fun w => by simp [zeroValue, typeInfo, hi, hz]
  rcases h.2 with ⟨h2, h3⟩ | ⟨g, cap, cur, h2, hb, hg, hnc, hcm, hcs, _⟩
  · injection h2 with h2
    subst h2
    exact ⟨w, fun ty => by simp [Builtin.clear_, run_underlying hu], Below.refl _ _, ⟨rfl, rfl, rfl, Nat.le_refl _, fun _ _ _ => rfl⟩⟩
  · injection h2 with h2 _ h4
    subst h2
    rcases Nat.eq_zero_or_pos n with rfl | hn
    · exact ⟨w, fun ty => by simp [Builtin.clear_, run_underlying hu], Below.refl _ _, ⟨rfl, rfl, rfl, Nat.le_refl _, fun _ _ _ => rfl⟩⟩
    · have hst := run_storeCells_cells (P := Try.prog) g 0 (Builtin.zeroCells #[a, b, c] n).toList 0 w (fun j hj => by
        rw [zero3_len] at hj
        have hlt : j < cur.size := by
          have : n * 3 ≤ cap * 3 := Nat.mul_le_mul_right 3 hnc
          omega
        simp only [World.cell?, hg]
        simp [hlt]) (fun j hj => by simp only [World.frozen?, hg]; simp) (zero3_one a b c n h1)
      simp only [Nat.add_zero] at hst
      obtain ⟨m, rfl⟩ : ∃ m, n = m + 1 := ⟨n - 1, by omega⟩
      refine ⟨w.setCells g 0 (Builtin.zeroCells #[a, b, c] (m + 1)).toList, fun ty => ?_, below_setCells' hb _ _ _ (Below.refl _ _), grown_setCells g _ _ _⟩
      have hc : (Value.agg #[a, b, c]).cells = #[a, b, c] := rfl
      simp [Builtin.clear_, run_underlying hu, hv, hc, hst]
theorem blk_other {w w' : World} {base R : Nat} {e T : TypeId} {s : Nat} {v : Value} {n : Nat} {xs : List Value} {cs : Array Value} {tg : Nat × Nat} (h : w.heap[R]? = some (.cells cs T tg)) (ho : w.ownsRow base e s v n xs) (hT : T ≠ e) (hg : w.grownBy w' v.ownBlock) : w'.heap[R]? = some (.cells cs T tg) := by
  refine (hg.block R (Array.getElem?_eq_some_iff.1 h).1 ?_).trans h
  rcases ho.2 with ⟨h1, _⟩ | ⟨g, cap, cur, h1, _, hgx, _⟩
  · rw [h1]; show some R ≠ none; simp
  · rw [h1]
    show some R ≠ some g
    intro e2
    injection e2 with e2
    subst e2
    rw [hgx] at h
    injection h with h
    injection h with _ h
    exact hT h.symm
end Go.Proofs.Ytadnggecnjdhiaa
set_option linter.unusedSimpArgs false
set_option linter.unusedVariables false
namespace Go.Proofs.Ytadnggecnjdhiaa
open Go.RowKit Tx
attribute [local go_sem] Oper.semAt_some
def spLsh (t : Text) (pw pt : Option Addr) (cw ct B : Nat) (l : List Int) (pl : Option Addr) (cl : Nat) : Nat → List Value → Value → World → Prop
  | 0, _, v, _ => v = .agg #[.slice pw t.words.length cw, .slice pt t.turns.length ct, .int .i64 t.breath]
  | 1, L, v, w => ∃ p q c d, v = .agg #[.slice p t.words.length c, .slice q t.turns.length d, .int .i64 t.breath] ∧ w.ownsRow B 77 3 (.slice p t.words.length c) t.words.length (wcells t.words) ∧ w.ownsRow B 80 3 (.slice q t.turns.length d) t.turns.length (tcells t.turns) ∧ t.words.length ≤ c ∧ c ≤ maxLen
  | 2, _, v, _ => v = .agg #[.slice pw t.words.length cw, .slice pt t.turns.length ct, .int .i64 t.breath]
  | 3, L, v, w => ∃ p q c d, v = .agg #[.slice p t.words.length c, .slice q t.turns.length d, .int .i64 t.breath] ∧ w.ownsRow B 78 3 (.slice p t.words.length c) t.words.length (wcells t.words) ∧ w.ownsRow B 81 3 (.slice q t.turns.length d) t.turns.length (tcells t.turns)
  | 4, _, v, _ => v = .slice pl l.length cl
  | 5, L, v, w => ∃ p c, v = .slice p l.length c ∧ w.ownsRow B 3 1 (.slice p l.length c) l.length (l.map (Value.int .i64))
  | 6, L, v, w => ∃ p, v = .pointer (some ⟨p, 0, none⟩) ∧ B ≤ p ∧ w.heap[p]? = some (.cells #[.slice none 0 0, .slice none 0 0, .int .i64 0] 25 (0, 0))
  | 7, L, v, w => ∃ p, v = .pointer (some ⟨p, 0, none⟩) ∧ B ≤ p ∧ w.heap[p]? = some (.cells #[.slice none 0 0, .slice none 0 0, .int .i64 0] 35 (0, 0))
  | _, _, _, _ => False
theorem spLsh_stable (t : Text) (pw pt : Option Addr) (cw ct B : Nat) (l : List Int) (pl : Option Addr) (cl : Nat) : ∀ i L v w w', spLsh t pw pt cw ct B l pl cl i L v w → Rs.Gr w w' → spLsh t pw pt cw ct B l pl cl i L v w' := by
  intro i L v w w' h hg
  match i with
  | 0 => exact h
  | 1 => obtain ⟨p, q, c, d, h1, h2, h3, h4⟩ := h; exact ⟨p, q, c, d, h1, own_below h2 hg, own_below h3 hg, h4⟩
  | 2 => exact h
  | 3 => obtain ⟨p, q, c, d, h1, h2, h3⟩ := h; exact ⟨p, q, c, d, h1, own_below h2 hg, own_below h3 hg⟩
  | 4 => exact h
  | 5 => obtain ⟨p, c, h1, h2⟩ := h; exact ⟨p, c, h1, own_below h2 hg⟩
  | 6 => obtain ⟨p, h1, h2, h3⟩ := h; exact ⟨p, h1, h2, (hg.block p (Array.getElem?_eq_some_iff.1 h3).1).trans h3⟩
  | 7 => obtain ⟨p, h1, h2, h3⟩ := h; exact ⟨p, h1, h2, (hg.block p (Array.getElem?_eq_some_iff.1 h3).1).trans h3⟩

set_option maxHeartbeats 8000000 in
set_option maxRecDepth 100000 in
theorem TextShorter_any (t : Text) (l : List Int) (pc : Int) (hm1 : t.words.length ≤ 9223372036854775807) (hm2 : t.turns.length ≤ 9223372036854775807) (hm3 : l.length ≤ 9223372036854775807) (pw pt pl : Option Addr) (cw ct cl : Nat) (w : World) (hW : TxAt w t pw pt) (hL : Ints w pl l) :
    Calls Try.prog 7 #[.agg #[.slice pw t.words.length cw, .slice pt t.turns.length ct, .int .i64 t.breath], .slice pl l.length cl, .int .i64 pc] w fun e w' => e = .returned (.bool true) ∧ Below w.heap.size w w' := by
  have HW := Lib.hid hW
  have HL := Lib.hid hL
  have HB0 := Lib.hid (below1 w (.cells #[.slice pw t.words.length cw, .slice pt t.turns.length ct, .int .i64 t.breath] 25))
  have HX0 := Lib.hid (heap_last w (.cells #[.slice pw t.words.length cw, .slice pt t.turns.length ct, .int .i64 t.breath] 25))
  have HG := Lib.hid (fun W => great_any t 20 hm1 hm2 pw pt cw ct W)
  have HN := Lib.hid (great_no (t := t) (n := 20))
  generalize greatB t 20 = gb at HG HN
  clear hW hL
  cases gb with
  | true =>
    obtain ⟨k0, k1, k2⟩ := blk3 HX0.out
    go_enter Try.func7, Try.ntmps7
    go_wp2_with fail
    refine (HG.out _).mono ?_
    rintro e w1 ⟨rfl, hB⟩
    have HB1 := Lib.hid (join HB0.out hB)
    clear hB k0 k1 k2
    go_wp2_with fail
    refine (awake_any w1).mono ?_
    rintro e w2 ⟨rfl, hB⟩
    have HB2 := Lib.hid (join HB1.out hB)
    clear hB
    go_wp2
    go_ret
    exact ⟨rfl, HB2.out⟩
  | false =>
  have hn := HN.out rfl
  clear HN
  by_cases hgt : 20 < l.length
  · have hgt' : (20 : Int) < l.length := by omega
    obtain ⟨k0, k1, k2⟩ := blk3 HX0.out
    go_enter Try.func7, Try.ntmps7
    go_wp2_with fail
    refine (HG.out _).mono ?_
    rintro e w1 ⟨rfl, hB⟩
    have HB1 := Lib.hid (join HB0.out hB)
    clear hB k0 k1 k2
    go_wp2_with fail
    refine (awake_any w1).mono ?_
    rintro e w2 ⟨rfl, hB⟩
    have HB2 := Lib.hid (join HB1.out hB)
    clear hB
    go_wp2
    go_ret
    exact ⟨rfl, HB2.out⟩
  · have hgt' : ¬ (20 : Int) < l.length := by omega
    have hl1 : t.words.length ≤ 1000000 := by omega
    have hl2 : t.turns.length ≤ 1000000 := by omega
    have hl3 : l.length ≤ 1000000 := by omega
    have CKE := Lib.hid (fun p q r c d e W (h : TxAt W t p q) (hL : Ints W r l) => Keeps_any t l hl1 hl2 hl3 p q r c d e W h hL)
    have CRK := Lib.hid (fun p q r c d e W (h : TxAt W t p q) (hL : Ints W r l) => rKeeps_any t l hl1 hl2 hl3 p q r c d e W h hL)
    have CSH := Lib.hid (fun p q r c d e hc W (h : TxAt W t p q) (hL : Ints W r l) => Shorter_any t l hl1 hl2 hl3 p q r c d e hc W h hL)
    have CRS := Lib.hid (fun p q r c d e W (h : TxAt W t p q) (hL : Ints W r l) => rShorter_any t l hl1 hl2 hl3 p q r c d e W h hL)
    have CPR := Lib.hid (fun p q c d W (h : TxAt W t p q) => Price_any t pc hl1 hl2 p q c d W h)
    have CRP := Lib.hid (fun p q c d W (h : TxAt W t p q) => rPrice_any t pc hl1 hl2 p q c d W h)
    have hXw : (shoT t l).words.length ≤ 1000000 := by
      unfold shoT
      split
      · show (shortW t.words l t.words.length).length ≤ 1000000
        rw [shortW_len]; exact hl3
      · simp
    have hXt : (shoT t l).turns.length ≤ 1000000 := by
      unfold shoT
      split
      · exact Nat.le_trans (shortTs_len _ _) hl2
      · simp
    generalize keeB t l = kb at CKE CRK
    generalize keeN t l = kn at CKE CRK
    generalize t.keptE l = ke at CKE CRK
    generalize shoT t l = X at CSH CRS hXw hXt
    generalize shoE t l = xe at CSH CRS
    generalize t.priceV pc = pv at CPR CRP
    generalize t.priceE pc = pe at CPR CRP
    obtain ⟨k0, k1, k2⟩ := blk3 HX0.out
    go_enter Try.func7, Try.ntmps7
    go_wp2_with fail
    refine (HG.out _).mono ?_
    rintro e w1 ⟨rfl, hB⟩
    have HX1 := Lib.hid ((hB.block w.heap.size (Array.getElem?_eq_some_iff.1 HX0.out).1).trans HX0.out)
    have HB1 := Lib.hid (join HB0.out hB)
    have HZ0 : w.heap.size < w1.heap.size := (Array.getElem?_eq_some_iff.1 HX1.out).1
    clear hB k0 k1 k2 HX0 HB0 HG
    go_wp2_with fail
    refine Rs.region_gen 8 [[], [0], [], [0, 1, 2], [], [0, 1, 2, 3, 4], [], []] [some 30, some 31, some 32, some 33, some 34, some 35, some 7, some 8] (spLsh t pw pt cw ct w1.heap.size l pl cl) (by kernel_rfl) (by kernel_rfl) rfl (spLsh_stable _ _ _ _ _ _ _ _ _) ?_ ?_
    · refine ⟨fun V w' hG hs => ?_, fun V w' hG hs => ?_, fun V w' hG hs => ?_, fun V w' hG hs => ?_, fun V w' hG hs => ?_, fun V w' hG hs => ?_, fun V w' hG hs => ?_, fun V w' hG hs => ?_, trivial⟩
      all_goals
        obtain ⟨k0, k1, k2⟩ := blk3 ((hG.block w.heap.size HZ0).trans HX1.out)
      · rw [if_pos (by rfl)]
        exact Rs.GrowL.value (v := .agg #[.slice pw t.words.length cw, .slice pt t.turns.length ct, .int .i64 t.breath]) (w' := w') (by simp [go_sem, Rs.look, k0, k1, k2]) (Rs.Gr.refl _) rfl
      · have e0 : V 0 = .agg #[.slice pw t.words.length cw, .slice pt t.turns.length ct, .int .i64 t.breath] := hs 0 (by simp)
        rw [if_pos (by rfl)]
        refine Rs.GrowL.call (f := 19) (args := #[.agg #[.slice pw t.words.length cw, .slice pt t.turns.length ct, .int .i64 t.breath]]) (by simp [go_sem, Rs.look, e0]) ?_
        refine (lCopy_any t hl1 hl2 pw pt cw ct w' (HW.out.below (join HB1.out hG))).mono ?_
        rintro e w2 ⟨g, h, rfl, o1, o2, hB2⟩
        exact ⟨_, rfl, hB2, _, _, _, _, rfl, own_base o1 hG.size, own_base o2 hG.size, Nat.le_refl _, by unfold maxLen; omega⟩
      · rw [if_pos (by rfl)]
        exact Rs.GrowL.value (v := .agg #[.slice pw t.words.length cw, .slice pt t.turns.length ct, .int .i64 t.breath]) (w' := w') (by simp [go_sem, Rs.look, k0, k1, k2]) (Rs.Gr.refl _) rfl
      · have e0 : V 0 = .agg #[.slice pw t.words.length cw, .slice pt t.turns.length ct, .int .i64 t.breath] := hs 0 (by simp)
        have r1 := hs 1 (by simp)
        have e2 : V 2 = .agg #[.slice pw t.words.length cw, .slice pt t.turns.length ct, .int .i64 t.breath] := hs 2 (by simp)
        rw [if_pos (by rfl)]
        refine Rs.GrowL.call (f := 20) (args := #[.agg #[.slice pw t.words.length cw, .slice pt t.turns.length ct, .int .i64 t.breath]]) (by simp [go_sem, Rs.look, e2]) ?_
        refine (theirs_any t hl1 hl2 pw pt cw ct w' (HW.out.below (join HB1.out hG))).mono ?_
        rintro e w2 ⟨p, q, c, d, rfl, o1, o2, hB2⟩
        exact ⟨_, rfl, hB2, _, _, _, _, rfl, own_base o1 hG.size, own_base o2 hG.size⟩
      · rw [if_pos (by rfl)]
        exact Rs.GrowL.value (v := .slice pl l.length cl) (w' := w') (by simp [go_sem, Rs.look]) (Rs.Gr.refl _) rfl
      · have e0 : V 0 = .agg #[.slice pw t.words.length cw, .slice pt t.turns.length ct, .int .i64 t.breath] := hs 0 (by simp)
        have r1 := hs 1 (by simp)
        have e2 : V 2 = .agg #[.slice pw t.words.length cw, .slice pt t.turns.length ct, .int .i64 t.breath] := hs 2 (by simp)
        have r3 := hs 3 (by simp)
        have e4 : V 4 = .slice pl l.length cl := hs 4 (by simp)
        rw [if_pos (by rfl)]
        refine Rs.GrowL.call (f := 21) (args := #[.slice pl l.length cl]) (by simp [go_sem, Rs.look, e4]) ?_
        refine (Copy_ints l hl3 pl cl w' (HL.out.below (join HB1.out hG))).mono ?_
        rintro e w2 ⟨v, rfl, ho, hB2⟩
        obtain ⟨p, c, rfl⟩ := own_val ho
        exact ⟨_, rfl, hB2, p, c, rfl, own_base ho hG.size⟩
      · rw [if_pos (by rfl)]
        exact Rs.GrowL.value (v := .pointer (some ⟨w'.heap.size, 0, none⟩)) (w' := w'.alloc (.cells #[.slice none 0 0, .slice none 0 0, .int .i64 0] 25)) (by simp [go_sem, Rs.look]) (below1 _ _) ⟨_, rfl, hG.size, heap_last _ _⟩
      · rw [if_pos (by rfl)]
        exact Rs.GrowL.value (v := .pointer (some ⟨w'.heap.size, 0, none⟩)) (w' := w'.alloc (.cells #[.slice none 0 0, .slice none 0 0, .int .i64 0] 35)) (by simp [go_sem, Rs.look]) (below1 _ _) ⟨_, rfl, hG.size, heap_last _ _⟩
    · intro V w' hG hs
      have e0 : V 0 = .agg #[.slice pw t.words.length cw, .slice pt t.turns.length ct, .int .i64 t.breath] := hs 0 (by omega)
      have r1 := hs 1 (by omega)
      have e2 : V 2 = .agg #[.slice pw t.words.length cw, .slice pt t.turns.length ct, .int .i64 t.breath] := hs 2 (by omega)
      have r3 := hs 3 (by omega)
      have e4 : V 4 = .slice pl l.length cl := hs 4 (by omega)
      have r5 := hs 5 (by omega)
      have r6 := hs 6 (by omega)
      have r7 := hs 7 (by omega)
      obtain ⟨p7, q7, a7, b7, e1, o1, o2, hcw⟩ := r1
      obtain ⟨p8, q8, a8, b8, e3, o3, o4⟩ := r3
      obtain ⟨p9, c9, e5, o9⟩ := r5
      obtain ⟨c7, e6, hc7, x7⟩ := r6
      obtain ⟨c8, e7, hc8, x8⟩ := r7
      simp only [Rs.canon, Rs.dstOf, List.range_succ, List.range_zero, List.nil_append, List.cons_append, List.foldl_cons, List.foldl_nil, List.drop_succ_cons, List.drop_zero, List.drop_nil, List.getElem?_toArray, List.getElem?_cons_succ, List.getElem?_cons_zero, Option.bind_some, Act.put, List.getD_cons_succ, List.getD_cons_zero, List.setIfInBounds_toArray, List.set_cons_succ, List.set_cons_zero]
      rw [e0, e1, e2, e3, e4, e5, e6, e7]
      clear e0 e1 e2 e3 e4 e5 e6 e7 hs
      have hne : c7 ≠ c8 := fun e => by rw [e, x8] at x7; injection x7 with h; injection h with _ h; cases h
      have hz2 := hG.size
      have hz1 := HB1.out.size
      have HBx := Lib.hid (join HB1.out hG)
      have hAx := (hG.block w.heap.size HZ0).trans HX1.out
      have HLW := Lib.hid (LwT.start hAx (by omega) (by omega) x7 x8 o1 o2 o3 o4 HW.out HBx.out (by omega) (by omega))
      have HBW := Lib.hid (lwSet_bel HBx.out (show w.heap.size ≤ c7 by omega) (show w.heap.size ≤ c8 by omega) (.slice p7 t.words.length a7) (.slice q7 t.turns.length b7) (.int .i64 t.breath) (.slice p8 t.words.length a8) (.slice q8 t.turns.length b8) (.int .i64 t.breath))
      have HI9 := Lib.hid (own_rd (own_lwSet x7 x8 hne (by decide) (by decide) (.slice p7 t.words.length a7) (.slice q7 t.turns.length b7) (.int .i64 t.breath) (.slice p8 t.words.length a8) (.slice q8 t.turns.length b8) (.int .i64 t.breath) o9) rfl)
      have f7 : ∀ i, w'.frozen? ⟨c7, i, none⟩ = false := fun i => by simp [World.frozen?, x7]
      have f8 : ∀ i, w'.frozen? ⟨c8, i, none⟩ = false := fun i => by simp [World.frozen?, x8]
      obtain ⟨m0, m1, m2⟩ := blk3 x7
      obtain ⟨n0, n1, n2⟩ := blk3 x8
      have h7 : c7 < w'.heap.size := (Array.getElem?_eq_some_iff.1 x7).1
      have h8 : c8 < w'.heap.size := (Array.getElem?_eq_some_iff.1 x8).1
      clear o1 o2 o3 o4 o9 x7 x8 hAx hz2 hz1 HX1 HB1 HBx
      clear hG
      go_wp2_with fail
      refine calls_named fun W hW => ?_
      have hW2 : W = lwSet w' c7 c8 (.slice p7 t.words.length a7) (.slice q7 t.turns.length b7) (.int .i64 t.breath) (.slice p8 t.words.length a8) (.slice q8 t.turns.length b8) (.int .i64 t.breath) := hW
      rw [← hW2] at HLW HBW HI9
      clear hW hW2 f7 f8 m0 m1 m2 n0 n1 n2 h7 h8
      obtain ⟨p9', c9', e9, hI9, -⟩ := HI9.out
      injection e9 with e9 _ e9c; subst e9; subst e9c
      clear HI9
      have HI9 := Lib.hid hI9
      clear hI9
      refine (CKE.out p7 q7 p9 a7 b7 c9 _ HLW.out.r7 HI9.out).mono ?_
      rintro e w2 ⟨rfl, hB⟩
      have HLW := Lib.hid (HLW.out.below hB)
      have HI9 := Lib.hid (HI9.out.below hB)
      have HBW := Lib.hid (join HBW.out hB)
      clear hB 
      obtain ⟨k0, k1, k2⟩ := blk3 HLW.out.prm
      obtain ⟨k3, k4, k5⟩ := blk3 HLW.out.x7
      obtain ⟨k6, k7, k8⟩ := blk3 HLW.out.x8
      go_wp2_with fail
      refine (CRK.out p8 q8 pl a8 b8 cl _ HLW.out.r8 (HL.out.below HBW.out)).mono ?_
      rintro e w2 ⟨rfl, hB⟩
      have HLW := Lib.hid (HLW.out.below hB)
      have HI9 := Lib.hid (HI9.out.below hB)
      have HBW := Lib.hid (join HBW.out hB)
      clear k0 k1 k2 k3 k4 k5 k6 k7 k8
      clear hB 
      obtain ⟨wS, hwS⟩ : ∃ wS, wS = w2 := ⟨_, rfl⟩
      rw [← hwS] at HLW HI9 HBW ⊢
      clear hwS
      have HLS := HLW
      have HIS := HI9
      have HBS := HBW
      obtain ⟨k0, k1, k2⟩ := blk3 HLW.out.prm
      obtain ⟨k3, k4, k5⟩ := blk3 HLW.out.x7
      obtain ⟨k6, k7, k8⟩ := blk3 HLW.out.x8
      go_wp2_with fail
      refine (CSH.out p7 q7 p9 a7 b7 c9 ⟨hcw.1, hcw.2⟩ _ HLW.out.r7 HI9.out).mono ?_
      rintro e w2 ⟨pa, qa, ca, da, rfl, oa, ob, hB⟩
      have HLW := Lib.hid (HLW.out.below hB)
      have HI9 := Lib.hid (HI9.out.below hB)
      have HBW := Lib.hid (join HBW.out hB)
      have OA := Lib.hid oa
      have OB := Lib.hid ob
      have HS2 := Lib.hid hB
      clear k0 k1 k2 k3 k4 k5 k6 k7 k8
      clear hB oa ob
      have HB16 := Lib.hid (heap_last w2 (.cells #[.slice pa X.words.length ca, .slice qa X.turns.length da, .int .i64 X.breath] 25))
      have hB := below1 w2 (.cells #[.slice pa X.words.length ca, .slice qa X.turns.length da, .int .i64 X.breath] 25)
      have HLW := Lib.hid (HLW.out.below hB)
      have HI9 := Lib.hid (HI9.out.below hB)
      have HBW := Lib.hid (join HBW.out hB)
      have OA := Lib.hid (own_below OA.out hB)
      have OB := Lib.hid (own_below OB.out hB)
      have HS2 := Lib.hid (HS2.out.trans (hB.mono HS2.out.size))
      clear hB
      obtain ⟨k0, k1, k2⟩ := blk3 HLW.out.prm
      obtain ⟨k3, k4, k5⟩ := blk3 HLW.out.x7
      obtain ⟨k6, k7, k8⟩ := blk3 HLW.out.x8
      have y0 := blk_cells HB16.out 0 _ rfl
      have y1 := blk_cells HB16.out 1 _ rfl
      have y2 := blk_cells HB16.out 2 _ rfl
      go_wp2_with fail
      refine (CRS.out p8 q8 pl a8 b8 cl _ HLW.out.r8 (HL.out.below HBW.out)).mono ?_
      rintro e w3 ⟨pb, qb, cb, db, rfl, oc, od, hB⟩
      have HB16 := Lib.hid ((hB.block _ (Array.getElem?_eq_some_iff.1 HB16.out).1).trans HB16.out)
      have HLW := Lib.hid (HLW.out.below hB)
      have HI9 := Lib.hid (HI9.out.below hB)
      have HBW := Lib.hid (join HBW.out hB)
      have OA := Lib.hid (own_below OA.out hB)
      have OB := Lib.hid (own_below OB.out hB)
      have HS2 := Lib.hid (HS2.out.trans (hB.mono HS2.out.size))
      have OC := Lib.hid oc
      have OD := Lib.hid od
      clear k0 k1 k2 k3 k4 k5 k6 k7 k8 y0 y1 y2
      clear hB oc od
      have HB17 := Lib.hid (heap_last w3 (.cells #[.slice pb X.words.length cb, .slice qb X.turns.length db, .int .i64 X.breath] 35))
      have hB := below1 w3 (.cells #[.slice pb X.words.length cb, .slice qb X.turns.length db, .int .i64 X.breath] 35)
      have HB16 := Lib.hid ((hB.block _ (Array.getElem?_eq_some_iff.1 HB16.out).1).trans HB16.out)
      have HLW := Lib.hid (HLW.out.below hB)
      have HI9 := Lib.hid (HI9.out.below hB)
      have HBW := Lib.hid (join HBW.out hB)
      have OA := Lib.hid (own_below OA.out hB)
      have OB := Lib.hid (own_below OB.out hB)
      have OC := Lib.hid (own_below OC.out hB)
      have OD := Lib.hid (own_below OD.out hB)
      have HS2 := Lib.hid (HS2.out.trans (hB.mono HS2.out.size))
      clear hB
      obtain ⟨k0, k1, k2⟩ := blk3 HLW.out.prm
      obtain ⟨k3, k4, k5⟩ := blk3 HLW.out.x7
      obtain ⟨k6, k7, k8⟩ := blk3 HLW.out.x8
      have y0 := blk_cells HB16.out 0 _ rfl
      have y1 := blk_cells HB16.out 1 _ rfl
      have y2 := blk_cells HB16.out 2 _ rfl
      have z0 := blk_cells HB17.out 0 _ rfl
      have z1 := blk_cells HB17.out 1 _ rfl
      have z2 := blk_cells HB17.out 2 _ rfl
      obtain ⟨pa', ca', ea, RA, -⟩ := own_wds OA.out rfl
      injection ea with ea _ ec; subst ea; subst ec
      obtain ⟨pb', cb', eb, RB, -⟩ := own_wds OC.out rfl
      injection eb with eb _ ec; subst eb; subst ec
      obtain ⟨qa', da', ea, SA, -⟩ := own_tns OB.out rfl
      injection ea with ea _ ec; subst ea; subst ec
      obtain ⟨qb', db', eb, SB, -⟩ := own_tns OD.out rfl
      injection eb with eb _ ec; subst eb; subst ec
      have RA := Lib.hid RA
      have RB := Lib.hid RB
      have SA := Lib.hid SA
      have SB := Lib.hid SB
      go_wp2_with fail
      clear k0 k1 k2 k3 k4 k5 k6 k7 k8 y0 y1 y2 z0 z1 z2
      obtain ⟨c16, h16⟩ : ∃ c, c = w2.heap.size := ⟨_, rfl⟩
      obtain ⟨c17, h17⟩ : ∃ c, c = w3.heap.size := ⟨_, rfl⟩
      generalize w3.alloc (.cells #[.slice pb X.words.length cb, .slice qb X.turns.length db, .int .i64 X.breath] 35) = WL at HLW HI9 HBW HB16 HB17 RA RB SA SB OA OB OC OD HS2 ⊢
      rw [← h16] at HB16 ⊢
      rw [← h17] at HB17 ⊢
      clear h16 h17 CKE CRK CSH CRS
      go_loopw [106] (fun i wr => ∃ k : Nat, k ≤ X.words.length ∧ i = .int .i64 k ∧ Hid (Below WL.heap.size WL wr)) (fun i _ => X.words.length - (intOf i).toNat)
      case atStart => exact ⟨0, Nat.zero_le _, rfl, Lib.hid (Below.refl _ _)⟩
      case round =>
        obtain ⟨k, hk, rfl, HBr⟩ := hrel
        by_cases hlt : k < X.words.length
        · have hlt' : (k : Int) < X.words.length := by omega
          have hk0 : (0 : Int) ≤ (k : Int) := by omega
          obtain ⟨ba, oa, x, rfl, hba, hxx, c1, c2, c3⟩ := (RA.out.below HBr.out).at hlt
          obtain ⟨bb, ob, y, rfl, hbb, hyy, d1, d2, d3⟩ := (RB.out.below HBr.out).at hlt
          have hxy : y = x := by rw [hyy, hxx]
          subst hxy
          clear hxx hyy
          obtain ⟨xa, xb, xc⟩ := y
          dsimp only at c1 c2 c3 d1 d2 d3
          have hb17 := (HBr.out.block _ (Array.getElem?_eq_some_iff.1 HB17.out).1).trans HB17.out
          obtain ⟨z0, z1, z2⟩ := blk3 hb17
          have hl17 := (Array.getElem?_eq_some_iff.1 hb17).1
          clear hb17
          go_wp2
          go_quiet (fail)
          go_wp2
          go_roundw
          case rel => exact ⟨k + 1, by omega, by go_num, Lib.hid (below_drewN' (HBr.out.trans ((below1 _ _).mono HBr.out.size)) _)⟩
          case measure => simp [intOf]; omega
        · obtain rfl : k = X.words.length := by omega
          have hB := HBr.out
          clear HBr hk hlt
          have HB16 := Lib.hid ((hB.block _ (Array.getElem?_eq_some_iff.1 HB16.out).1).trans HB16.out)
          have HB17 := Lib.hid ((hB.block _ (Array.getElem?_eq_some_iff.1 HB17.out).1).trans HB17.out)
          have HLW := Lib.hid (HLW.out.below hB)
          have HI9 := Lib.hid (HI9.out.below hB)
          have HBW := Lib.hid (join HBW.out hB)
          have OA := Lib.hid (own_below OA.out hB)
          have OB := Lib.hid (own_below OB.out hB)
          have OC := Lib.hid (own_below OC.out hB)
          have OD := Lib.hid (own_below OD.out hB)
          have HS2 := Lib.hid (HS2.out.trans (hB.mono HS2.out.size))
          have RA := Lib.hid (RA.out.below hB)
          have RB := Lib.hid (RB.out.below hB)
          have SA := Lib.hid (SA.out.below hB)
          have SB := Lib.hid (SB.out.below hB)
          clear hB
          obtain ⟨k0, k1, k2⟩ := blk3 HLW.out.prm
          obtain ⟨k3, k4, k5⟩ := blk3 HLW.out.x7
          obtain ⟨k6, k7, k8⟩ := blk3 HLW.out.x8
          have y0 := blk_cells HB16.out 0 _ rfl
          have y1 := blk_cells HB16.out 1 _ rfl
          have y2 := blk_cells HB16.out 2 _ rfl
          have z0 := blk_cells HB17.out 0 _ rfl
          have z1 := blk_cells HB17.out 1 _ rfl
          have z2 := blk_cells HB17.out 2 _ rfl
          go_wp2_with fail
          clear k0 k1 k2 k3 k4 k5 k6 k7 k8 y0 y1 y2 z0 z1 z2
          obtain ⟨WL, hWL⟩ : ∃ W, W = wr := ⟨_, rfl⟩
          rw [← hWL] at HLW HI9 HBW HB16 HB17 RA RB SA SB OA OB OC OD HS2 ⊢
          clear hWL
          go_loopw [122] (fun i wr => ∃ k : Nat, k ≤ X.turns.length ∧ i = .int .i64 k ∧ Hid (Below WL.heap.size WL wr)) (fun i _ => X.turns.length - (intOf i).toNat)
          case atStart => exact ⟨0, Nat.zero_le _, rfl, Lib.hid (Below.refl _ _)⟩
          case round =>
            obtain ⟨k, hk, rfl, HBr⟩ := hrel
            by_cases hlt : k < X.turns.length
            · have hlt' : (k : Int) < X.turns.length := by omega
              have hk0 : (0 : Int) ≤ (k : Int) := by omega
              obtain ⟨ba, oa, x, rfl, hba, hxx, c1, c2, c3⟩ := (SA.out.below HBr.out).at hlt
              obtain ⟨bb, ob, y, rfl, hbb, hyy, d1, d2, d3⟩ := (SB.out.below HBr.out).at hlt
              have hxy : y = x := by rw [hyy, hxx]
              subst hxy
              clear hxx hyy
              obtain ⟨xa, xb, xc⟩ := y
              dsimp only at c1 c2 c3 d1 d2 d3
              have hb17 := (HBr.out.block _ (Array.getElem?_eq_some_iff.1 HB17.out).1).trans HB17.out
              obtain ⟨z0, z1, z2⟩ := blk3 hb17
              have hl17 := (Array.getElem?_eq_some_iff.1 hb17).1
              clear hb17
              go_wp2
              go_quiet (fail)
              go_wp2
              go_roundw
              case rel => exact ⟨k + 1, by omega, by go_num, Lib.hid (below_drewN' (HBr.out.trans ((below1 _ _).mono HBr.out.size)) _)⟩
              case measure => simp [intOf]; omega
            · obtain rfl : k = X.turns.length := by omega
              have hB := HBr.out
              clear HBr hk hlt
              have HB16 := Lib.hid ((hB.block _ (Array.getElem?_eq_some_iff.1 HB16.out).1).trans HB16.out)
              have HB17 := Lib.hid ((hB.block _ (Array.getElem?_eq_some_iff.1 HB17.out).1).trans HB17.out)
              have HLW := Lib.hid (HLW.out.below hB)
              have HI9 := Lib.hid (HI9.out.below hB)
              have HBW := Lib.hid (join HBW.out hB)
              have OA := Lib.hid (own_below OA.out hB)
              have OB := Lib.hid (own_below OB.out hB)
              have OC := Lib.hid (own_below OC.out hB)
              have OD := Lib.hid (own_below OD.out hB)
              have HS2 := Lib.hid (HS2.out.trans (hB.mono HS2.out.size))
              have RA := Lib.hid (RA.out.below hB)
              have RB := Lib.hid (RB.out.below hB)
              have SA := Lib.hid (SA.out.below hB)
              have SB := Lib.hid (SB.out.below hB)
              clear hB
              obtain ⟨k0, k1, k2⟩ := blk3 HLW.out.prm
              obtain ⟨k3, k4, k5⟩ := blk3 HLW.out.x7
              obtain ⟨k6, k7, k8⟩ := blk3 HLW.out.x8
              have y0 := blk_cells HB16.out 0 _ rfl
              have y1 := blk_cells HB16.out 1 _ rfl
              have y2 := blk_cells HB16.out 2 _ rfl
              have z0 := blk_cells HB17.out 0 _ rfl
              have z1 := blk_cells HB17.out 1 _ rfl
              have z2 := blk_cells HB17.out 2 _ rfl
              obtain ⟨i0, hi0, hz0, hz1, hz2⟩ := info_parts A_infoWd
              obtain ⟨j0, hj0, hy0, hy1, hy2⟩ := info_parts A_infoTn
              obtain ⟨W1, hcl1, hb1, hg1⟩ := clear_own A_undWs hi0 hz0 (by intro u hu; simp at hu; rcases hu with rfl | rfl | rfl <;> rfl) OA.out
              have hb16' := blk_other HB16.out OA.out (by decide) hg1
              have OB1 := own_other OB.out OA.out (by decide) hg1
              obtain ⟨W2, hcl2, hb2, hg2⟩ := clear_own A_undTs hj0 hy0 (by intro u hu; simp at hu; rcases hu with rfl | rfl | rfl <;> rfl) OB1
              obtain ⟨v0, v1, v2⟩ := blk3 hb16'
              have HS3 := Lib.hid (HS2.out.trans (hb1.trans hb2))
              have HLW2 := Lib.hid (HLS.out.below HS3.out)
              have HI2 := Lib.hid (HIS.out.below HS3.out)
              have HBW2 := Lib.hid (join HBS.out HS3.out)
              obtain ⟨n0, n1, n2⟩ := blk3 HLW2.out.x7
              clear hi0 hz0 hz1 hz2 hj0 hy0 hy1 hy2 hb16' OB1 hb1 hb2 hg1 hg2 RA RB SA SB OA OB OC OD HLS HIS HBS HB16 HB17 hXw hXt
              go_wp2_with fail
              clear hcl1 hcl2 v0 v1 v2 n0 n1 n2 y0 y1 y2 z0 z1 z2 k0 k1 k2 k3 k4 k5 k6 k7 k8 HLW HI9 HBW HS2 HS3
              have HLW := HLW2
              have HI9 := HI2
              have HBW := HBW2
              clear HLW2 HI2 HBW2
              refine (CPR.out p7 q7 a7 b7 _ HLW.out.r7).mono ?_
              rintro e w2 ⟨rfl, hB⟩
              have HLW := Lib.hid (HLW.out.below hB)
              have HI9 := Lib.hid (HI9.out.below hB)
              have HBW := Lib.hid (join HBW.out hB)
              clear hB
              obtain ⟨k0, k1, k2⟩ := blk3 HLW.out.prm
              obtain ⟨k3, k4, k5⟩ := blk3 HLW.out.x7
              obtain ⟨k6, k7, k8⟩ := blk3 HLW.out.x8
              go_wp2_with fail
              refine (CRP.out p8 q8 a8 b8 _ HLW.out.r8).mono ?_
              rintro e w2 ⟨rfl, hB⟩
              have HLW := Lib.hid (HLW.out.below hB)
              have HI9 := Lib.hid (HI9.out.below hB)
              have HBW := Lib.hid (join HBW.out hB)
              clear k0 k1 k2 k3 k4 k5 k6 k7 k8
              clear hB 
              obtain ⟨k0, k1, k2⟩ := blk3 HLW.out.prm
              obtain ⟨k3, k4, k5⟩ := blk3 HLW.out.x7
              obtain ⟨k6, k7, k8⟩ := blk3 HLW.out.x8
              go_wp2_with fail
              refine (same_yes t hl1 hl2 p7 q7 pw pt a7 b7 cw ct _ HLW.out.r7 HLW.out.r0).mono ?_
              rintro e w2 ⟨rfl, hB⟩
              have HLW := Lib.hid (HLW.out.below hB)
              have HI9 := Lib.hid (HI9.out.below hB)
              have HBW := Lib.hid (join HBW.out hB)
              clear k0 k1 k2 k3 k4 k5 k6 k7 k8
              clear hB 
              obtain ⟨k0, k1, k2⟩ := blk3 HLW.out.prm
              obtain ⟨k3, k4, k5⟩ := blk3 HLW.out.x7
              obtain ⟨k6, k7, k8⟩ := blk3 HLW.out.x8
              go_wp2_with fail
              refine (Like_ints p9 pl c9 cl l l true (by simp) _ hl3 hl3 HI9.out (HL.out.below HBW.out)).mono ?_
              rintro e w2 ⟨rfl, hB⟩
              have HLW := Lib.hid (HLW.out.below hB)
              have HI9 := Lib.hid (HI9.out.below hB)
              have HBW := Lib.hid (join HBW.out hB)
              clear k0 k1 k2 k3 k4 k5 k6 k7 k8
              clear hB 
              obtain ⟨k0, k1, k2⟩ := blk3 HLW.out.prm
              obtain ⟨k3, k4, k5⟩ := blk3 HLW.out.x7
              obtain ⟨k6, k7, k8⟩ := blk3 HLW.out.x8
              go_wp2_with fail
              refine (awake_any _).mono ?_
              rintro e w10 ⟨rfl, hB10⟩
              have HBW := Lib.hid (join HBW.out hB10)
              clear hB10
              go_wp2
              go_ret
              exact ⟨rfl, HBW.out⟩
end Go.Proofs.Ytadnggecnjdhiaa
namespace Go.Proofs.Ytadnggecnjdhiaa
open Go.ChangeShapes Go.WideShapes Go.ChangeAt Go.RowKit Go.Joins Tx
set_option linter.unusedVariables false
set_option linter.unusedSimpArgs false

set_option maxRecDepth 100000 in
theorem TextShorter_lifted (os : Os) (started : os.Started) (H : Type) (enc : TypeId × Value → H) :
    ReturnsInHanded {} Try.checked os 7 .any (Rows.textShorterSpec.pre6 enc Try.prog Try.f7 Rows.textShorterRow.domain false) (Rows.textShorterSpec.post enc Try.prog Try.f7 false true false false) := by
  refine returnsInHanded_of_change (C := Try.checked) Try.own started (by kernel_rfl) Try.func7
    (ChangeSpec.witness6 (enc := enc) (C := Try.checked) false ⟨#[], #[.agg #[.slice none 0 0, .slice none 0 0, .int .i64 0], .slice none 0 0, .int .i64 0], []⟩ 8 (by kernel_rfl) (by kernel_rfl) (by kernel_rfl) (by kernel_rfl)) ?_
  intro W base args ds gs before hval0 hW hcnd _
  have hval : ∀ (j : Nat) t v, Try.f7.params[j]? = some t → args[j]? = some v → Value.okWide Try.prog W .any base t v := hval0
  have hW' := hW
  obtain ⟨p, q, hA0, hV, rfl, hfz, hnd⟩ := hW
  have hA : DataW.TrodAll enc Try.prog W 0 (fun _ => true) true Try.f7.params.toList args.toList ds p := hA0
  rw [Try.params7] at hA hval
  obtain ⟨v0, vs0, d0, ds0, p0, q0, hargs, rfl, rfl, h0, r0⟩ := trodAll_cons hA
  obtain ⟨v1, vs1, d1, ds1, p1, q1, rfl, rfl, rfl, h1, r1⟩ := trodAll_cons r0
  obtain ⟨v2, vs2, d2, ds2, p2, q2, rfl, rfl, rfl, h2, r2⟩ := trodAll_cons r1
  obtain ⟨rfl, rfl, rfl⟩ := trodAll_nil r2
  obtain rfl : args = #[v0, v1, v2] := by cases args; simp_all
  obtain ⟨rfl, rfl⟩ := trodVars_none hV
  have lt0 := lt_of_trod h0
  have k0 := h0
  obtain ⟨pw0, pt0, cw0, ct0, t0, e0, hT0, l0, m0⟩ := text_of_trod (fun _ => rfl) (hval 0 25 v0 rfl rfl) h0
  have lt1 := lt_of_trod h1
  have k1 := h1
  obtain ⟨a1, c1, xs1, e1, hL1, l1⟩ := ints_of_Trod (fun _ => rfl) (hval 1 28 v1 rfl rfl) h1
  obtain ⟨x2, rfl, rfl, rfl, w2⟩ := open_int Try.underlying3 (hval 2 3 v2 rfl rfl) h2
  clear hA0 hval0
  subst e0
  subst e1
  refine (TextShorter_any t0 xs1 x2 l0 m0 l1 pw0 pt0 a1 cw0 ct0 c1 W hT0 hL1).mono fun e W' ⟨he, bel⟩ => ?_
  subst he
  exact ⟨_, rfl, _, _, _, [], _, [], hW', trodAll_mk1 (shut_bool Try.underlying4 _), (trodAll_cons_mk (Below.trod Try.laidOut (by kernel_rfl) (of_decide_eq_true (by kernel_rfl)) k0 bel lt0) (trodAll_cons_mk (Below.trod Try.laidOut (by kernel_rfl) (of_decide_eq_true (by kernel_rfl)) k1 bel lt1) (trodAll_cons_mk (shut_int Try.underlying3 w2) trodAll_mk0))), rfl, bel.frame _, fun h => by cases h⟩

theorem TextShorter_holds : Rows.TextShorterSaid :=
  OpenClaim.holds_of_wide 7 Try.f7 rfl rfl rfl rfl rfl rfl rfl ⟨rfl, rfl, rfl, rfl, rfl⟩ rfl rfl rfl rfl rfl (by kernel_rfl) Try.func7 (by kernel_rfl)
    (of_decide_eq_true (by kernel_rfl)) (by unfold Func.isWrapper; first | (rw [if_pos (by decide +kernel)]; kernel_rfl) | (rw [if_neg (by decide +kernel)]; exact ⟨rfl, rfl⟩))
    (fun os started H enc _ => TextShorter_lifted os started H enc)
end Go.Proofs.Ytadnggecnjdhiaa
