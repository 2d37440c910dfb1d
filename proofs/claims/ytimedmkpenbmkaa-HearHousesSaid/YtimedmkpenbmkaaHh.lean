import Derived.Test.YtimedmkpenbmkaaEa
import Derived.Test.YtimedmkpenbmkaaL1
namespace Go.Proofs.Ytimedmkpenbmkaa
open Go.RowKit Go.Shelf
set_option linter.unusedSimpArgs false
set_option linter.unusedVariables false

/-- three rows that grow, of which no two lie in one block -/
structure R3 (B : Nat) (b1 b2 b3 : Value) (l1 l2 l3 : List Int) (W : World) : Prop where
  o1 : W.ownsRow B 3 1 b1 l1.length (l1.map (Value.int .i64))
  o2 : W.ownsRow B 3 1 b2 l2.length (l2.map (Value.int .i64))
  o3 : W.ownsRow B 3 1 b3 l3.length (l3.map (Value.int .i64))
  a12 : ∀ g, b1.ownBlock = some g → b2.ownBlock ≠ some g
  a13 : ∀ g, b1.ownBlock = some g → b3.ownBlock ≠ some g
  a23 : ∀ g, b2.ownBlock = some g → b3.ownBlock ≠ some g
theorem R3.swap12 {B : Nat} {b1 b2 b3 : Value} {l1 l2 l3 : List Int} {W : World} (h : R3 B b1 b2 b3 l1 l2 l3 W) : R3 B b2 b1 b3 l2 l1 l3 W :=
  ⟨h.o2, h.o1, h.o3, fun g h1 h2 => h.a12 g h2 h1, h.a23, h.a13⟩
theorem R3.swap13 {B : Nat} {b1 b2 b3 : Value} {l1 l2 l3 : List Int} {W : World} (h : R3 B b1 b2 b3 l1 l2 l3 W) : R3 B b3 b2 b1 l3 l2 l1 W :=
  ⟨h.o3, h.o2, h.o1, fun g h1 h2 => h.a23 g h2 h1, fun g h1 h2 => h.a13 g h2 h1, fun g h1 h2 => h.a12 g h2 h1⟩
theorem R3.nil (B : Nat) (W : World) : R3 B (.slice none 0 0) (.slice none 0 0) (.slice none 0 0) [] [] [] W :=
  ⟨own_none _ _ _ _, own_none _ _ _ _, own_none _ _ _ _, (fun g h => by cases h), (fun g h => by cases h), (fun g h => by cases h)⟩
theorem own_kept2 {W W' : World} {B : Nat} {b b2 : Value} {l : List Int} (h : W.ownsRow B 3 1 b2 l.length (l.map (Value.int .i64))) (hg : W.grownBy W' b.ownBlock) (ha : ∀ g, b.ownBlock = some g → b2.ownBlock ≠ some g) : W'.ownsRow B 3 1 b2 l.length (l.map (Value.int .i64)) := by
  refine h.kept hg ?_
  cases hb : b2.ownBlock with
  | none => exact .inl rfl
  | some g => exact .inr (fun e => ha g e.symm hb)
theorem R3.app {B : Nat} {b1 b2 b3 v' : Value} {l1 l2 l3 : List Int} {W W2 w8 : World} (h : R3 B b1 b2 b3 l1 l2 l3 W) (hB : Below W.heap.size W W2) {x : Int}
    (ho : w8.ownsRow B 3 1 v' (l1.length + 1) (l1.map (Value.int .i64) ++ [.int .i64 x])) (hg : W2.grownBy w8 b1.ownBlock) (hat : v'.ownBlock = b1.ownBlock ∨ v'.ownBlock = some W2.heap.size) : R3 B v' b2 b3 (l1 ++ [x]) l2 l3 w8 := by
  have h2 := own_below h.o2 hB
  have h3 := own_below h.o3 hB
  have hnew : ∀ (b : Value) (l : List Int), W2.ownsRow B 3 1 b l.length (l.map (Value.int .i64)) → (∀ g, b1.ownBlock = some g → b.ownBlock ≠ some g) → ∀ g, v'.ownBlock = some g → b.ownBlock ≠ some g := by
    intro b l hb ha g e e2
    rcases hat with ht | ht
    · rw [ht] at e; exact ha g e e2
    · rw [ht] at e; injection e with e; have := (hb.lt g e2).2; omega
  refine ⟨?_, own_kept2 h2 hg h.a12, own_kept2 h3 hg h.a13, hnew b2 l2 h2 h.a12, hnew b3 l3 h3 h.a13, h.a23⟩
  have : (l1 ++ [x]).length = l1.length + 1 := by simp
  rw [this, List.map_append]
  exact ho
theorem R3.below {B : Nat} {b1 b2 b3 : Value} {l1 l2 l3 : List Int} {W W' : World} (h : R3 B b1 b2 b3 l1 l2 l3 W) (hB : Below W.heap.size W W') : R3 B b1 b2 b3 l1 l2 l3 W' :=
  ⟨own_below h.o1 hB, own_below h.o2 hB, own_below h.o3 hB, h.a12, h.a13, h.a23⟩

/-! ### what the law's lists are -/
def byAt (st : Int) (p : Nat) (l : List Int) : List Int := (l.filter fun s => s == st).map fun _ => (p : Int)
theorem byAt_yes {st s : Int} {p : Nat} {l : List Int} (h : s = st) : byAt st p (l ++ [s]) = byAt st p l ++ [(p : Int)] := by
  unfold byAt; rw [List.filter_append]; simp [h]
theorem byAt_no {st s : Int} {p : Nat} {l : List Int} (h : s ≠ st) : byAt st p (l ++ [s]) = byAt st p l := by
  unfold byAt; rw [List.filter_append]; simp [h]
def ofAt (hs : Int) (p : Nat) (l : List Int) : List Int := if (p : Int) = hs then l else []
theorem ofAt_yes {hs s : Int} {p : Nat} {l : List Int} (h : (p : Int) = hs) : ofAt hs p (l ++ [s]) = ofAt hs p l ++ [s] := by unfold ofAt; rw [if_pos h, if_pos h]
theorem ofAt_no {hs s : Int} {p : Nat} {l : List Int} (h : (p : Int) ≠ hs) : ofAt hs p (l ++ [s]) = ofAt hs p l := by unfold ofAt; rw [if_neg h, if_neg h]
def byTo (t : Hr.Town) (wind voice st : Int) (k : Nat) : List Int := (List.range k).flatMap fun p => byAt st p (earsE t wind voice t.plots.length p)
def ofTo (t : Hr.Town) (wind voice hs : Int) (k : Nat) : List Int := (List.range k).flatMap fun p => ofAt hs p (earsE t wind voice t.plots.length p)
def noTo (t : Hr.Town) (wind voice : Int) (k : Nat) : List Int := ((List.range k).filter fun p => t.at p == 1 && (earsE t wind voice t.plots.length p).isEmpty).map fun (p : Nat) => (p : Int)
theorem byTo_succ (t : Hr.Town) (wind voice st : Int) (k : Nat) : byTo t wind voice st (k + 1) = byTo t wind voice st k ++ byAt st k (earsE t wind voice t.plots.length k) := by
  unfold byTo; rw [List.range_succ, List.flatMap_append]; simp
theorem ofTo_succ (t : Hr.Town) (wind voice hs : Int) (k : Nat) : ofTo t wind voice hs (k + 1) = ofTo t wind voice hs k ++ ofAt hs k (earsE t wind voice t.plots.length k) := by
  unfold ofTo; rw [List.range_succ, List.flatMap_append]; simp
theorem noTo_yes {t : Hr.Town} {wind voice : Int} {k : Nat} (h1 : t.at k = 1) (h : earsE t wind voice t.plots.length k = []) : noTo t wind voice (k + 1) = noTo t wind voice k ++ [(k : Int)] := by
  unfold noTo; rw [List.range_succ, List.filter_append]; simp [h1, h]
theorem noTo_no {t : Hr.Town} {wind voice : Int} {k : Nat} (h : t.at k ≠ 1 ∨ earsE t wind voice t.plots.length k ≠ []) : noTo t wind voice (k + 1) = noTo t wind voice k := by
  unfold noTo; rw [List.range_succ, List.filter_append]
  have : (t.at k == 1 && (earsE t wind voice t.plots.length k).isEmpty) = false := by
    rcases h with h | h
    · simp [h]
    · cases hh : earsE t wind voice t.plots.length k with
      | nil => exact absurd hh h
      | cons a l => simp
  simp [this]
theorem earsE_nil {t : Hr.Town} {wind voice : Int} {n p : Nat} (h : t.at p ≠ 1) : earsE t wind voice n p = [] := if_neg h
theorem byTo_len (t : Hr.Town) (wind voice st : Int) : ∀ k, (byTo t wind voice st k).length ≤ t.plots.length * k
  | 0 => by simp [byTo]
  | k + 1 => by
    rw [byTo_succ, List.length_append, Nat.mul_succ]
    have h1 := byTo_len t wind voice st k
    have h2 := earsE_len t wind voice t.plots.length k
    have h3 : (byAt st k (earsE t wind voice t.plots.length k)).length ≤ (earsE t wind voice t.plots.length k).length := by unfold byAt; rw [List.length_map]; exact List.length_filter_le _ _
    omega
theorem ofTo_len (t : Hr.Town) (wind voice hs : Int) : ∀ k, (ofTo t wind voice hs k).length ≤ t.plots.length * k
  | 0 => by simp [ofTo]
  | k + 1 => by
    rw [ofTo_succ, List.length_append, Nat.mul_succ]
    have h1 := ofTo_len t wind voice hs k
    have h2 := earsE_len t wind voice t.plots.length k
    have h3 : (ofAt hs k (earsE t wind voice t.plots.length k)).length ≤ (earsE t wind voice t.plots.length k).length := by unfold ofAt; split <;> simp
    omega
theorem noTo_len (t : Hr.Town) (wind voice : Int) (k : Nat) : (noTo t wind voice k).length ≤ k := by
  unfold noTo
  have := List.length_filter_le (fun p => t.at p == 1 && (earsE t wind voice t.plots.length p).isEmpty) (List.range k)
  simp at this ⊢; omega
theorem stands_one (t : Hr.Town) (wind voice : Int) (p s : Nat) : ∀ k, (standsTo t wind voice p k).filter (fun x => x == (s : Int)) = if s < k ∧ hearB t wind voice p s = true then [(s : Int)] else []
  | 0 => by simp [standsTo]
  | k + 1 => by
    have ih := stands_one t wind voice p s k
    by_cases h : hearB t wind voice p k = true
    · rw [standsTo_yes h, List.filter_append, ih]
      by_cases e : s = k
      · subst e
        rw [if_neg (by omega), if_pos ⟨by omega, h⟩]
        simp
      · have : ¬ ((k : Int) = s) := by omega
        have e2 : List.filter (fun x => x == (s : Int)) [(k : Int)] = [] := by simp [this]
        rw [e2, List.append_nil]
        by_cases h2 : s < k ∧ hearB t wind voice p s = true
        · rw [if_pos h2, if_pos ⟨by omega, h2.2⟩]
        · rw [if_neg h2, if_neg (fun h3 => h2 ⟨by omega, h3.2⟩)]
    · have h' : hearB t wind voice p k = false := by simpa using h
      rw [standsTo_no h', ih]
      by_cases e : s = k
      · subst e
        rw [if_neg (by omega), if_neg (fun h3 => h h3.2)]
      · by_cases h2 : s < k ∧ hearB t wind voice p s = true
        · rw [if_pos h2, if_pos ⟨by omega, h2.2⟩]
        · rw [if_neg h2, if_neg (fun h3 => h2 ⟨by omega, h3.2⟩)]
theorem by_all {t : Hr.Town} {wind voice : Int} {s : Nat} (hs : s < t.len) : ∀ k, byTo t wind voice s k = housesTo t wind voice s k
  | 0 => by simp [byTo, housesTo]
  | k + 1 => by
    rw [byTo_succ, by_all hs k]
    have hn : s < t.plots.length := hs
    by_cases h1 : t.at k = 1
    · have e : earsE t wind voice t.plots.length k = standsTo t wind voice k t.plots.length := if_pos h1
      have e2 : byAt s k (earsE t wind voice t.plots.length k) = if hearB t wind voice k s = true then [(k : Int)] else [] := by
        unfold byAt; rw [e, stands_one]
        by_cases h : hearB t wind voice k s = true
        · rw [if_pos ⟨hn, h⟩, if_pos h]; rfl
        · rw [if_neg (fun h2 => h h2.2), if_neg h]; rfl
      rw [e2]
      by_cases h : hearB t wind voice k s = true
      · rw [if_pos h, housesTo_yes (by simp [h1, h])]
      · rw [if_neg h, housesTo_no (by simp [h1, h]), List.append_nil]
    · rw [earsE_nil h1, housesTo_no (by simp [h1])]
      simp [byAt]
theorem of_all {t : Hr.Town} {wind voice : Int} {h : Nat} (h1 : t.at h = 1) : ∀ k, ofTo t wind voice h k = if h < k then standsTo t wind voice h t.plots.length else []
  | 0 => by simp [ofTo]
  | k + 1 => by
    rw [ofTo_succ, of_all h1 k]
    by_cases e : k = h
    · subst e
      rw [if_neg (by omega), if_pos (by omega)]
      unfold ofAt
      rw [if_pos rfl]
      show [] ++ earsE t wind voice t.plots.length k = _
      rw [List.nil_append]
      exact if_pos h1
    · have e3 : ofAt (h : Int) k (earsE t wind voice t.plots.length k) = [] := if_neg (by omega)
      rw [e3, List.append_nil]
      by_cases h2 : h < k
      · rw [if_pos h2, if_pos (by omega)]
      · rw [if_neg h2, if_neg (by omega)]
theorem stands_more (t : Hr.Town) (wind voice : Int) (h : Nat) : ∀ k, t.len ≤ k → standsTo t wind voice h k = standsTo t wind voice h t.len
  | 0, hk => by have : t.len = 0 := by omega
                rw [this]
  | k + 1, hk => by
    by_cases e : t.len = k + 1
    · rw [e]
    · have : hearB t wind voice h k = false := by unfold hearB; simp; omega
      rw [standsTo_no this]
      exact stands_more t wind voice h k (by omega)
theorem deaf_ears (t : Hr.Town) (wind voice : Int) (h30 : t.len ≤ 30) (p : Nat) : deafB (ears t wind voice p) = (standsTo t wind voice p t.plots.length).isEmpty := by
  have hl : t.plots.length = t.len := rfl
  rw [Bool.eq_iff_iff]
  unfold deafB
  rw [decide_eq_true_iff, List.isEmpty_iff]
  constructor
  · intro h
    have key : ∀ s, s < 30 → hearB t wind voice p s = false := fun s hs => by
      have h1 : (ears t wind voice p)[s]? = some (hearB t wind voice p s) := by unfold ears; simp [hs]
      rw [h, List.getElem?_replicate, if_pos hs] at h1
      injection h1 with h1
      exact h1.symm
    unfold standsTo
    have : (List.range t.plots.length).filter (fun s => hearB t wind voice p s) = [] := by
      rw [List.filter_eq_nil_iff]
      intro s hs
      have := List.mem_range.1 hs
      rw [key s (by omega)]; simp
    rw [this]; rfl
  · intro h
    apply List.ext_getElem?
    intro s
    by_cases hs : s < 30
    · have h1 : (ears t wind voice p)[s]? = some (hearB t wind voice p s) := by unfold ears; simp [hs]
      rw [h1, List.getElem?_replicate, if_pos hs]
      congr 1
      by_cases h2 : hearB t wind voice p s = true
      · have hsl : s < t.len := by unfold hearB at h2; simp at h2; exact h2.1.1
        have := stands_one t wind voice p s t.plots.length
        rw [h, if_pos ⟨by omega, h2⟩] at this
        cases this
      · simpa using h2
    · rw [List.getElem?_eq_none (by unfold ears; simp; omega), List.getElem?_replicate, if_neg hs]
theorem deaf_fold (t : Hr.Town) (wind voice : Int) (h30 : t.len ≤ 30) : ∀ k, ((lisTo t wind voice (fun _ => true) k).filter fun x => deafB x.2).map (fun x => (x.1 : Int)) = noTo t wind voice k
  | 0 => by simp [lisTo, noTo]
  | k + 1 => by
    have ih := deaf_fold t wind voice h30 k
    by_cases h1 : t.at k = 1
    · rw [lisTo_yes (by simp [h1]), List.filter_append, List.map_append, ih]
      have e : earsE t wind voice t.plots.length k = standsTo t wind voice k t.plots.length := if_pos h1
      have hd := deaf_ears t wind voice h30 k
      by_cases h2 : earsE t wind voice t.plots.length k = []
      · rw [noTo_yes h1 h2]
        rw [e] at h2
        rw [h2] at hd
        have hd' : deafB (ears t wind voice k) = true := hd
        simp [hd']
      · rw [noTo_no (.inr h2)]
        have hd' : deafB (ears t wind voice k) = false := by
          rw [hd, ← e]
          cases hh : earsE t wind voice t.plots.length k with
          | nil => exact absurd hh h2
          | cons a l => rfl
        simp [hd']
    · rw [lisTo_no (by simp [h1]), noTo_no (.inl h1), ih]
theorem deaf_all (t : Hr.Town) (wind voice : Int) (h30 : t.len ≤ 30) : deafOf t wind voice = noTo t wind voice t.plots.length := by
  unfold deafOf deafTo
  rw [List.take_length]
  exact deaf_fold t wind voice h30 t.len
theorem hearsR_eq {t : Hr.Town} (ok : t.Ok) {d voice : Int} (d0 : 0 ≤ d) (d4 : d ≤ 4) {s h : Nat} (hc : checkErr t.wide t.plots = 0) (hs : s < t.len) (hs0 : t.at s = 0) (hh : h < t.len) : hearsR t.wide t.plots d voice s h = hearB t d voice h s := by
  have he : needsErr t.wide t.plots d s = 0 := by
    have hp : plotErr t.plots s 0 = 0 := by
      unfold plotErr
      have e : t.plots.length = t.len := rfl
      rw [if_neg (by omega), Int.toNat_natCast]; exact if_pos hs0
    have ha : airErr d 40 = 0 := by unfold airErr; rw [if_neg (by omega)]
    unfold needsErr openErr
    simp [hc, ha, hp]
  have hl := needs_len ok d hs
  have e1 : needE t.wide t.plots d s h = (if (t.needs d s).getD h 0 = -1 then 6 else 0) := by
    unfold needE reachErr
    rw [if_neg (by rw [he]; simp), needsL_ok t he, if_neg (by omega), Int.toNat_natCast]
  unfold hearsR hearB
  by_cases hn : (t.needs d s).getD h 0 = -1
  · rw [e1, if_pos hn, hn]; simp
  · have e2 : needV t.wide t.plots d s h = (t.needs d s).getD h 0 := by
      unfold needV
      rw [e1, if_neg hn, if_pos rfl, needsL_ok t he, Int.toNat_natCast]
    have e3 : ((t.needs d s).getD h 0 != -1) = true := bne_iff_ne.2 hn
    rw [e1, if_neg hn, e2, e3]
    simp [hs, hs0]
/-- the winds that the law finds -/
def wiTo (WE wd : Int) (xs : List Int) (voice s h : Int) (k : Nat) : List Int := ((List.range k).filter fun (i : Nat) => decide (WE = 0) && hearsR wd xs (i : Int) voice s h).map fun (p : Nat) => (p : Int)
theorem wiTo_yes {WE wd : Int} {xs : List Int} {voice s h : Int} {k : Nat} (e : (decide (WE = 0) && hearsR wd xs (k : Int) voice s h) = true) : wiTo WE wd xs voice s h (k + 1) = wiTo WE wd xs voice s h k ++ [(k : Int)] := by
  unfold wiTo; rw [List.range_succ, List.filter_append, List.filter_cons, if_pos e]; simp
theorem wiTo_no {WE wd : Int} {xs : List Int} {voice s h : Int} {k : Nat} (e : (decide (WE = 0) && hearsR wd xs (k : Int) voice s h) = false) : wiTo WE wd xs voice s h (k + 1) = wiTo WE wd xs voice s h k := by
  unfold wiTo; rw [List.range_succ, List.filter_append, List.filter_cons, if_neg (by rw [e]; simp)]; simp
theorem wiTo_len (WE wd : Int) (xs : List Int) (voice s h : Int) (k : Nat) : (wiTo WE wd xs voice s h k).length ≤ k := by
  unfold wiTo
  have := List.length_filter_le (fun (i : Nat) => decide (WE = 0) && hearsR wd xs (i : Int) voice s h) (List.range k)
  simp at this ⊢; omega
theorem winds_law (wd : Int) (xs : List Int) (voice s h : Int) : windsL wd xs voice s h = wiTo (windsE wd xs voice s h) wd xs voice s h 5 := by
  by_cases h0 : windsE wd xs voice s h = 0
  · have hA : atE wd xs 0 voice s 0 = 0 := by
      false_or_by_contra
      rename_i h1
      unfold windsE at h0
      rw [if_pos h1] at h0
      exact h1 h0
    have hP : plotErr xs h 1 = 0 := by
      unfold windsE at h0
      rwa [if_neg (by rw [hA]; simp)] at h0
    obtain ⟨h1, h2, h3⟩ := atE_ok hA
    obtain ⟨t, -, hw, hx, ok⟩ := town_name h1
    subst hw hx
    obtain ⟨p, rfl, hp, hp0⟩ := plot_ok h3
    obtain ⟨q, rfl, hq, hq1⟩ := plot_ok hP
    unfold windsL
    rw [if_pos h0, h0, townOf_self, Int.toNat_natCast, Int.toNat_natCast]
    unfold windsOf windsTo wiTo
    congr 1
    apply List.filter_congr
    intro d hd
    have hd5 := List.mem_range.1 hd
    rw [hearsR_eq ok (by omega) (by omega) h1 hp hp0 hq]
    simp
  · unfold windsL wiTo
    rw [if_neg h0, decide_eq_false h0]
    simp
end Go.Proofs.Ytimedmkpenbmkaa
