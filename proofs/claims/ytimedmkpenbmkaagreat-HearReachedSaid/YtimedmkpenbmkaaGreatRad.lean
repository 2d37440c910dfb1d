/- Contracts and mathematics, part 4. -/
import Derived.Test.YtimedmkpenbmkaaGreatRac
section
namespace Go.Proofs.YtimedmkpenbmkaaGreat
open Go.RowKit Go.Shelf
set_option linter.unusedSimpArgs false
set_option linter.unusedVariables false
def inL (hs : List Int) (p : Nat) : Bool := decide ((p : Int) ∈ hs)
theorem qAll_named (xs : List Int) (h30 : xs.length ≤ 30) : ∀ (hs : List Int) (nm : List Bool), nm.length = 30 → (∀ h ∈ hs, ∃ p : Nat, h = p ∧ p < xs.length ∧ xs.getD p 0 = 1 ∧ nm.getD p false = false) → hs.Nodup →
    (qAll xs nm hs).1 = 0 ∧ (qAll xs nm hs).2.length = 30 ∧ ∀ p, p < 30 → (qAll xs nm hs).2.getD p false = (nm.getD p false || inL hs p)
  | [], nm, hl, _, _ => ⟨rfl, hl, fun p hp => by
    show nm.getD p false = _
    simp [inL]⟩
  | h :: r, nm, hl, hh, hn => by
    rw [List.nodup_cons] at hn
    obtain ⟨p, rfl, hp, h1, h0⟩ := hh h (by simp)
    have hq : qStep xs nm (p : Int) = (0, nm.set p true) := by
      unfold qStep
      have hpe : plotErr xs (p : Int) 1 = 0 := by unfold plotErr; rw [if_neg (by omega), Int.toNat_natCast, if_pos h1]
      rw [if_neg (by rw [hpe]; simp), Int.toNat_natCast, h0]
      simp
    have e1 : qAll xs nm ((p : Int) :: r) = qAll xs (nm.set p true) r := by
      show (if (qStep xs nm (p : Int)).1 ≠ 0 then qStep xs nm (p : Int) else qAll xs (qStep xs nm (p : Int)).2 r) = _
      rw [hq]; rfl
    have hset : ∀ q, q < 30 → (nm.set p true).getD q false = (nm.getD q false || decide (p = q)) := fun q hq2 => by
      rw [List.getD_eq_getElem?_getD, List.getElem?_set]
      by_cases e : p = q
      · subst e; rw [if_pos rfl, if_pos (by omega)]; simp
      · rw [if_neg e, ← List.getD_eq_getElem?_getD]; simp [e]
    obtain ⟨a, b, c⟩ := qAll_named xs h30 r (nm.set p true) (by simp [hl]) (fun k hk => by
      obtain ⟨q, rfl, hq1, hq2, hq3⟩ := hh k (by simp [hk])
      refine ⟨q, rfl, hq1, hq2, ?_⟩
      rw [hset q (by omega), hq3]
      have : p ≠ q := fun e => hn.1 (by rw [e]; exact hk)
      simp [this]) hn.2
    rw [e1]
    refine ⟨a, b, fun q hq2 => ?_⟩
    rw [c q hq2, hset q hq2]
    unfold inL
    by_cases e : p = q
    · subst e; simp
    · have e2 : ¬ ((q : Int) = (p : Int)) := by omega
      simp [e, e2]
theorem lis_named {t : Hr.Town} (ok : t.Ok) (wind voice : Int) {hs : List Int} (hv : ∀ h ∈ hs, h ∈ kindIdx t.plots 1) (hn : hs.Nodup) :
    (qAll t.plots (List.replicate 30 false) hs).1 = 0 ∧ (qAll t.plots (List.replicate 30 false) hs).2.length = 30 ∧ lis t wind voice ((qAll t.plots (List.replicate 30 false) hs).2.getD · false) = lis t wind voice (inL hs) := by
  have hp30 : t.plots.length ≤ 30 := ok.n30
  obtain ⟨a, b, c⟩ := qAll_named t.plots hp30 hs (List.replicate 30 false) (by simp) (fun h hh => by
    obtain ⟨p, e, h1, h2⟩ := mem_kindIdx.1 (hv h hh)
    refine ⟨p, e, h1, h2, ?_⟩
    rw [List.getD_eq_getElem?_getD, List.getElem?_replicate, if_pos (by omega)]; rfl) hn
  refine ⟨a, b, ?_⟩
  unfold lis lisTo
  congr 1
  apply List.filter_congr
  intro p hp
  have hp := List.mem_range.1 hp
  have : t.len ≤ 30 := ok.n30
  show (t.at p == 1 && (qAll t.plots (List.replicate 30 false) hs).2.getD p false) = (t.at p == 1 && inL hs p)
  rw [c p (by omega), List.getD_eq_getElem?_getD, List.getElem?_replicate, if_pos (by omega)]
  simp
theorem mem_lisN {t : Hr.Town} {wind voice : Int} {hs : List Int} {x : Nat × List Bool} : x ∈ lis t wind voice (inL hs) ↔ x.1 < t.len ∧ t.at x.1 = 1 ∧ (x.1 : Int) ∈ hs ∧ x.2 = ears t wind voice x.1 := by
  unfold lis lisTo
  rw [List.mem_map]
  constructor
  · rintro ⟨q, hq, rfl⟩
    rw [List.mem_filter, List.mem_range, Bool.and_eq_true, beq_iff_eq] at hq
    exact ⟨hq.1, hq.2.1, by simpa [inL] using hq.2.2, rfl⟩
  · rintro ⟨a, b, c, d⟩
    exact ⟨x.1, by rw [List.mem_filter, List.mem_range, Bool.and_eq_true, beq_iff_eq]; exact ⟨a, b, by simpa [inL] using c⟩, by rw [← d]⟩
theorem lis_fsts (t : Hr.Town) (wind voice : Int) (cnt : Nat → Bool) : fsts (lis t wind voice cnt) = (List.range t.len).filter fun p => t.at p == 1 && cnt p := by
  unfold fsts lis lisTo
  rw [List.map_map]
  have : ((fun x : Nat × List Bool => x.1) ∘ fun p => (p, ears t wind voice p)) = id := rfl
  rw [this, List.map_id]
theorem lis_sorted (t : Hr.Town) (wind voice : Int) (cnt : Nat → Bool) : (fsts (lis t wind voice cnt)).Pairwise (· < ·) := by
  rw [lis_fsts]; exact List.Pairwise.filter _ List.pairwise_lt_range
theorem lis_count {t : Hr.Town} {wind voice : Int} {hs : List Int} (hv : ∀ h ∈ hs, h ∈ kindIdx t.plots 1) (hn : hs.Nodup) : (lis t wind voice (inL hs)).length = hs.length := by
  have e1 : (lis t wind voice (inL hs)).length = ((fsts (lis t wind voice (inL hs))).map fun (p : Nat) => (p : Int)).length := by simp [fsts]
  have hnd : ((fsts (lis t wind voice (inL hs))).map fun (p : Nat) => (p : Int)).Nodup := by
    unfold List.Nodup
    rw [List.pairwise_map]
    exact (lis_sorted t wind voice _).imp fun h => by omega
  have hmem : ∀ h : Int, h ∈ ((fsts (lis t wind voice (inL hs))).map fun (p : Nat) => (p : Int)) ↔ h ∈ hs := fun h => by
    rw [List.mem_map]
    constructor
    · rintro ⟨p, hp, rfl⟩
      obtain ⟨x, hx, rfl⟩ := List.mem_map.1 hp
      exact (mem_lisN.1 hx).2.2.1
    · intro hh
      obtain ⟨p, rfl, h1, h2⟩ := mem_kindIdx.1 (hv h hh)
      exact ⟨p, List.mem_map.2 ⟨(p, ears t wind voice p), mem_lisN.2 ⟨h1, h2, hh, rfl⟩, rfl⟩, rfl⟩
  have le : ∀ {A B : List Int}, A.Nodup → (∀ a ∈ A, a ∈ B) → A.length ≤ B.length := by
    intro A
    induction A with
    | nil => intro B _ _; simp
    | cons a A ih =>
      intro B hn hs
      rw [List.nodup_cons] at hn
      have h1 := ih (B := B.erase a) hn.2 fun x hx => by
        have hne : x ≠ a := fun e => hn.1 (by rw [← e]; exact hx)
        exact (List.mem_erase_of_ne hne).2 (hs x (by simp [hx]))
      have h2 := hs a (by simp)
      rw [List.length_erase_of_mem h2] at h1
      have : 0 < B.length := List.length_pos_of_mem h2
      simp; omega
  rw [e1]
  exact Nat.le_antisymm (le hnd fun a ha => (hmem a).1 ha) (le hn fun a ha => (hmem a).2 ha)
theorem deaf_hit {e : List Bool} (hl : e.length = 30) (h : deafB e = false) : ∃ s, s < 30 ∧ e.getD s false = true := by
  false_or_by_contra
  rename_i h2
  have : deafB e = true := by
    unfold deafB
    rw [decide_eq_true_iff]
    apply List.ext_getElem?
    intro s
    by_cases hs : s < 30
    · rw [List.getElem?_eq_getElem (by omega), List.getElem?_replicate, if_pos hs]
      congr 1
      cases hh : e[s]'(by omega)
      · rfl
      · exact absurd ⟨s, hs, by rw [List.getD_eq_getElem?_getD, List.getElem?_eq_getElem (by omega), hh]; rfl⟩ h2
    · rw [List.getElem?_eq_none (by omega), List.getElem?_replicate, if_neg hs]
  rw [this] at h; cases h
theorem cnt_all {l : List (Nat × List Bool)} {S : List Nat} : cntS l S = l.length ↔ ∀ x ∈ l, hit S x.2 = true := by
  unfold cntS
  exact List.length_filter_eq_length_iff
theorem cnt_le (l : List (Nat × List Bool)) (S : List Nat) : cntS l S ≤ l.length := List.length_filter_le _ _
def Heard (l : List (Nat × List Bool)) : Prop := ∀ x ∈ l, x.2.length = 30 ∧ deafB x.2 = false
theorem heard_err {l : List (Nat × List Bool)} (h : Heard l) : firstE l = 0 := by
  rw [firstE_eq, if_neg]
  intro e
  obtain ⟨x, hx, hd⟩ := List.any_eq_true.1 e
  rw [(h x hx).2] at hd; cases hd
theorem err_heard {l : List (Nat × List Bool)} (hl : ∀ x ∈ l, x.2.length = 30) (h : firstE l = 0) : Heard l := fun x hx => by
  refine ⟨hl x hx, ?_⟩
  cases hd : deafB x.2
  · rfl
  · rw [firstE_eq, if_pos (List.any_eq_true.2 ⟨x, hx, hd⟩)] at h; cases h
theorem chosen_all {l : List (Nat × List Bool)} (h : Heard l) {st : Nat} (hst : 30 ≤ st) {ch : List Nat} {n : Nat} (hc : Chosen l st ch n) : n = l.length := by
  have h1 := hc.most (List.range 30) (fun s hs => List.mem_range.1 hs) (by simp; exact hst)
  have h2 : cntS l (List.range 30) = l.length := cnt_all.2 fun x hx => by
    obtain ⟨s, hs, he⟩ := deaf_hit (h x hx).1 (h x hx).2
    exact List.any_eq_true.2 ⟨s, List.mem_range.2 hs, he⟩
  have h3 := cnt_le l ch
  rw [hc.cnt] at h3
  omega
theorem chosen_serves {l : List (Nat × List Bool)} (h : Heard l) {st : Nat} (hst : 30 ≤ st) {ch : List Nat} {n : Nat} (hc : Chosen l st ch n) : ∀ x ∈ l, hit ch x.2 = true := by
  rw [← cnt_all, hc.cnt]; exact chosen_all h hst hc
end Go.Proofs.YtimedmkpenbmkaaGreat
end
section
namespace Go.Proofs.YtimedmkpenbmkaaGreat
open Go.RowKit Go.Shelf
set_option linter.unusedSimpArgs false
set_option linter.unusedVariables false
theorem append_which (w : World) (base : Nat) (tv : Value) (n : Nat) (xs : List Value) (x : Value) (hx1 : x.oneCell' = true) (hown : w.ownsRow base 3 1 tv n xs) (hb : base ≤ w.heap.size) (hn : n ≤ 1000) (a : Addr) (ha : w.cell? (a.add 0) = some x) :
    ∃ v' w', (Builtin.append_ #[22, 22] 22 #[tv, .slice (some a) 1 1]).run Tryz.prog w = .ok v' w' ∧ w'.ownsRow base 3 1 v' (n + 1) (xs ++ [x]) ∧ w.grownBy w' tv.ownBlock ∧ w'.ownsRow base 3 1 tv n xs ∧ (v'.ownBlock = tv.ownBlock ∨ v'.ownBlock = some w.heap.size) := by
  obtain ⟨i0, hi, hz0, hz1, hz2⟩ := info_parts A_info3
  have hnews : ∀ j u, [x][j]? = some u → w.cell? (a.add j) = some u := fun j u hj => by
    match j, hj with
    | 0, hj => simp at hj; subst hj; exact ha
  obtain ⟨v', w', hr, h2, h3, h4⟩ := run_append_own (P := Tryz.prog) w base 22 22 3 i0 (.int .i64 0) 1 8 A_und31 hi hz0 hz1 hz2 rfl (by decide) tv n xs hown a 1 1 [x] rfl hnews (by simpa using hx1) (by unfold maxLen; omega) (by omega) hb
  refine ⟨v', w', hr, h2, h3, ?_⟩
  rcases hown.2 with ⟨rfl, rfl⟩ | ⟨g, cap, cur, rfl, hbg, hg, hnc, hcm, hcs, htake⟩
  · have hx : xs = [] := List.eq_nil_of_length_eq_zero (by simpa using hown.1)
    subst hx
    refine ⟨World.ownsRow_nil _ _ _ _, ?_⟩
    have hr2 := run_append_nil (P := Tryz.prog) w 22 22 3 i0 (.int .i64 0) A_und31 hi hz0 a 1 1 [x] (by rw [hz1]; rfl) hnews (by omega) (by omega) (by rw [hz2]; omega)
    rw [hr2] at hr
    injection hr with hv hw
    right; rw [← hv]; rfl
  · by_cases hroom : n + 1 ≤ cap
    · have hr2 := run_append_room (P := Tryz.prog) w 22 22 3 i0 A_und31 hi g n cap cur hg a 1 1 [x] (by rw [hz1]; rfl) hnews (by simpa using hx1) hroom (by rw [hcs, hz1]; simp; omega)
      rw [hr2] at hr
      injection hr with hv hw
      subst hv
      refine ⟨?_, .inl rfl⟩
      refine ⟨hown.1, .inr ?_⟩
      rcases h2.2 with ⟨h5, _⟩ | ⟨g', cap', cur', h5, h6, h7, h8, h9, h10, h11⟩
      · cases h5
      · injection h5 with e1 e2 e3
        injection e1 with e1
        injection e1 with e1
        subst e1 e3
        refine ⟨_, _, cur', rfl, hbg, h7, hnc, hcm, h10, ?_⟩
        have h12 : (cur'.toList.take ((n + 1) * 1)).take (n * 1) = xs := by
          rw [h11, List.take_append_of_le_length (by rw [hown.1]; exact Nat.le_refl _), List.take_of_length_le (by rw [hown.1]; exact Nat.le_refl _)]
        rw [List.take_take, Nat.min_eq_left (by omega)] at h12
        exact h12
    · have holds : ∀ j u, xs[j]? = some u → w.cell? ((⟨g, 0, none⟩ : Addr).add j) = some u := hown.cells (g := g) rfl
      have hr2 := run_append_grow (P := Tryz.prog) w 22 22 3 i0 (.int .i64 0) A_und31 hi hz0 ⟨g, 0, none⟩ n cap xs (by rw [hz1]; exact hown.1) holds a 1 1 [x] (by rw [hz1]; rfl) hnews (by omega) (by omega) (by rw [hz2]; exact growslice_fits (by omega) (by omega))
      rw [hr2] at hr
      injection hr with hv hw
      refine ⟨?_, .inr (by rw [← hv]; rfl)⟩
      rw [← hw]
      exact hown.kept (row := none) ⟨rfl, rfl, rfl, by simp, fun k hk _ => heap_alloc_old w.drew _ k hk⟩ (by right; simp [Value.ownBlock])
def takeF (LB BB TB : Nat) : Value := .func (.func 126) #[] #[.pointer (some ⟨LB, 0, none⟩), .pointer (some ⟨BB, 0, none⟩), .pointer (some ⟨TB, 0, none⟩)]
/-- a row of ints that is owned -/
def OwnN (W : World) (base : Nat) (v : Value) (l : List Nat) : Prop := W.ownsRow base 3 1 v l.length (l.map fun (x : Nat) => Value.int .i64 x)
structure ApI (W : World) (LB BB TB : Nat) (ob : Option Addr) (cap : Nat) (l : List (Nat × List Bool)) (bv : Value) : Prop where
  lb : W.heap[LB]? = some (.cells #[.slice ob l.length cap] 111 (0, 0))
  bb : W.heap[BB]? = some (.cells #[bv] 22 (0, 0))
  tb : W.heap[TB]? = some (.cells #[takeF LB BB TB] 170 (0, 0))
  li : LiIn W ob l
/-- all but one box and one row is as it was -/
structure ApF (BB : Nat) (row : Option Nat) (W W' : World) : Prop where
  os : W'.os = W.os
  tape : W'.tape = W.tape
  output : W'.output = W.output
  size : W.heap.size ≤ W'.heap.size
  block : ∀ k, k < W.heap.size → k ≠ BB → some k ≠ row → W'.heap[k]? = W.heap[k]?
theorem ApF.refl (BB : Nat) (row : Option Nat) (W : World) : ApF BB row W W := ⟨rfl, rfl, rfl, Nat.le_refl _, fun _ _ _ _ => rfl⟩
theorem ApF.of_below {BB : Nat} {row : Option Nat} {W W' : World} (h : Below W.heap.size W W') : ApF BB row W W' := ⟨h.os, h.tape, h.output, h.size, fun k hk _ _ => h.block k hk⟩
theorem ApF.of_grown {BB : Nat} {row : Option Nat} {W W' : World} (h : W.grownBy W' row) : ApF BB row W W' := ⟨h.os, h.tape, h.output, h.size, fun k hk _ hr => h.block k hk hr⟩
theorem ApF.trans {BB : Nat} {row : Option Nat} {W W1 W2 : World} (h : ApF BB row W W1) (k : ApF BB row W1 W2) : ApF BB row W W2 :=
  ⟨k.os.trans h.os, k.tape.trans h.tape, k.output.trans h.output, Nat.le_trans h.size k.size, fun i hi h1 h2 => (k.block i (Nat.lt_of_lt_of_le hi h.size) h1 h2).trans (h.block i hi h1 h2)⟩
theorem OwnN.kept {W W' : World} {base BB : Nat} {row : Option Nat} {v : Value} {l : List Nat} (h : OwnN W base v l) (hF : ApF BB row W W') (hB : BB < base) (hne : v.ownBlock = none ∨ v.ownBlock ≠ row) : OwnN W' base v l := by
  refine ⟨h.1, ?_⟩
  rcases h.2 with hn | ⟨g, cap, cur, rfl, hb, hgg, rest⟩
  · exact .inl hn
  · refine .inr ⟨g, cap, cur, rfl, hb, ?_, rest⟩
    rw [hF.block g (Array.getElem?_eq_some_iff.1 hgg).1 (by omega) (by simpa [Value.ownBlock] using hne)]
    exact hgg
theorem LiIn.apf {W W' : World} {BB base : Nat} {row : Option Nat} {ob : Option Addr} {l : List (Nat × List Bool)} (h : LiIn W ob l) (hF : ApF BB row W W') (hB : ∀ g, ob = some ⟨g, 0, none⟩ → l ≠ [] → g < base ∧ g ≠ BB) (hr : ∀ k, row = some k → base ≤ k) : LiIn W' ob l := fun k c hc => by
  obtain ⟨g, h1, h2, h3⟩ := h k c hc
  obtain ⟨b1, b2⟩ := hB g h1 (by intro e; rw [e] at hc; simp at hc)
  have hb := hF.block g h2 b2 (by intro e; have := hr g e.symm; omega)
  exact ⟨g, h1, Nat.lt_of_lt_of_le h2 hF.size, fun j u hu => (World.cell?_of_block (a := ⟨g, k * 31 + j, none⟩) hb).trans (h3 j u hu)⟩
structure ApB (LB BB TB base : Nat) (ob : Option Addr) (l : List (Nat × List Bool)) : Prop where
  lb : LB < base
  bb : BB < base
  tb : TB < base
  n1 : LB ≠ BB
  n2 : TB ≠ BB
  ob : ∀ g, ob = some ⟨g, 0, none⟩ → l ≠ [] → g < base ∧ g ≠ BB
theorem ApI.apf {W W' : World} {LB BB TB base : Nat} {ob : Option Addr} {cap : Nat} {l : List (Nat × List Bool)} {bv bv' : Value} {row : Option Nat} (h : ApI W LB BB TB ob cap l bv) (hb : ApB LB BB TB base ob l) (hF : ApF BB row W W') (hr : ∀ k, row = some k → base ≤ k) (hbb : W'.heap[BB]? = some (.cells #[bv'] 22 (0, 0))) : ApI W' LB BB TB ob cap l bv' :=
  ⟨(hF.block LB (Array.getElem?_eq_some_iff.1 h.lb).1 hb.n1 (by intro e; have := hr _ e.symm; have := hb.lb; omega)).trans h.lb, hbb, (hF.block TB (Array.getElem?_eq_some_iff.1 h.tb).1 hb.n2 (by intro e; have := hr _ e.symm; have := hb.tb; omega)).trans h.tb, h.li.apf hF hb.ob hr⟩
/-- what a call of take is good for -/
structure ApPost (LB BB TB base : Nat) (ob : Option Addr) (cap : Nat) (l : List (Nat × List Bool)) (tv : Value) (taken : List Nat) (bv : Value) (res : List Nat) (W w' : World) : Prop where
  ex : ∃ bv', ApI w' LB BB TB ob cap l bv' ∧ OwnN w' base bv' res ∧ (bv' = bv ∨ ∃ g, bv'.ownBlock = some g ∧ W.heap.size ≤ g)
  tk : OwnN w' base tv taken
  fr : ApF BB tv.ownBlock W w'
def TakeCall (LB BB TB base : Nat) (ob : Option Addr) (cap : Nat) (l : List (Nat × List Bool)) (i : Nat) : Prop :=
  ∀ (W : World) (tv : Value) (taken : List Nat) (heard : List Bool) (bv : Value) (best : List Nat), ApI W LB BB TB ob cap l bv → base ≤ W.heap.size → OwnN W base tv taken → OwnN W base bv best → (bv.ownBlock = none ∨ bv.ownBlock ≠ tv.ownBlock) → heard.length = 30 → taken.length ≤ i → best.length ≤ 30 →
    Calls Tryz.prog 126 #[.int .i64 i, tv, .agg (heard.map Value.bool).toArray, .pointer (some ⟨LB, 0, none⟩), .pointer (some ⟨BB, 0, none⟩), .pointer (some ⟨TB, 0, none⟩)] W fun e w' =>
      (∃ r, e = .returned r) ∧ ApPost LB BB TB base ob cap l tv taken bv (takeP (l.drop i) taken heard best) W w'
theorem ApF.join {BB : Nat} {row row' : Option Nat} {W W7 w6 : World} (h : ApF BB row W W7) (k : ApF BB row' W7 w6) (hr : row' = row ∨ ∃ g, row' = some g ∧ W.heap.size ≤ g) : ApF BB row W w6 :=
  ⟨k.os.trans h.os, k.tape.trans h.tape, k.output.trans h.output, Nat.le_trans h.size k.size, fun i hi h1 h2 => by
    refine (k.block i (Nat.lt_of_lt_of_le hi h.size) h1 ?_).trans (h.block i hi h1 h2)
    rcases hr with rfl | ⟨g, rfl, hg⟩
    · exact h2
    · intro e; injection e; omega⟩
theorem below_grownBy {a b : World} {row : Option Nat} (h : Below a.heap.size a b) : a.grownBy b row := ⟨h.os, h.tape, h.output, h.size, fun k hk _ => h.block k hk⟩
theorem own_below' {W W' : World} {base : Nat} {v : Value} {n : Nat} {xs : List Value} (h : W.ownsRow base 3 1 v n xs) (hB : Below W.heap.size W W') : W'.ownsRow base 3 1 v n xs :=
  h.kept (row := none) (below_grownBy hB) (by cases hv : v.ownBlock <;> simp)
theorem OwnN.below {W W' : World} {base : Nat} {v : Value} {l : List Nat} (h : OwnN W base v l) (hB : Below W.heap.size W W') : OwnN W' base v l := own_below' h hB
/-- one row grows, and what it held it holds -/
def GT7 (base : Nat) (tv : Value) (taken : List Nat) (a b : World) : Prop := a.grownBy b tv.ownBlock ∧ (OwnN a base tv taken → OwnN b base tv taken)
def gT7 (base : Nat) (tv : Value) (taken : List Nat) (i : Nat) (a b : World) : Prop := if i = 7 then GT7 base tv taken a b else Below a.heap.size a b
theorem grown_isGr (base : Nat) (tv : Value) (taken : List Nat) : Rg.IsGr (GT7 base tv taken) where
  refl w := ⟨⟨rfl, rfl, rfl, Nat.le_refl _, fun _ _ _ => rfl⟩, fun h => h⟩
  drew w := ⟨⟨rfl, rfl, rfl, Nat.le_refl _, fun _ _ _ => rfl⟩, fun h => h⟩
  trans h k := ⟨grown_trans h.1 k.1, fun o => k.2 (h.2 o)⟩
theorem gT7_all (base : Nat) (tv : Value) (taken : List Nat) (i : Nat) (a b : World) (h : gT7 base tv taken i a b) : GT7 base tv taken a b := by
  unfold gT7 at h
  split at h
  · exact h
  · exact ⟨below_grownBy h, fun o => o.below h⟩
theorem gT7_refl (base : Nat) (tv : Value) (taken : List Nat) (i : Nat) (a : World) : gT7 base tv taken i a a := by
  unfold gT7
  split
  · exact (grown_isGr base tv taken).refl a
  · exact Below.refl _ _
theorem gT7_of {base : Nat} {tv : Value} {taken : List Nat} {i : Nat} {a b : World} (hi : i ≠ 7) (h : Below a.heap.size a b) : gT7 base tv taken i a b := by unfold gT7; rw [if_neg hi]; exact h
/-- what the region of the inner call leaves -/
def spT7 (LB BB TB i base B g9 : Nat) (tv both : Value) (taken : List Nat) (x : Nat) : Nat → Bool → List Value → Value → World → Prop
  | 0, _, _, v, _ => v = takeF LB BB TB
  | 1, _, _, v, _ => v = .int .i64 i
  | 2, _, _, v, _ => v = .int .i64 ((i + 1 : Nat) : Int)
  | 3, _, _, v, _ => v = tv
  | 4, _, _, v, _ => v = .pointer (some ⟨g9, 0, none⟩)
  | 5, _, _, v, _ => v = .int .i64 x
  | 6, c, _, v, w => c = false → ∃ g, v = .slice (some ⟨g, 0, none⟩) 1 1 ∧ g < w.heap.size ∧ w.cell? ⟨g, 0, none⟩ = some (.int .i64 x)
  | 7, c, _, v, w => c = true ∧ OwnN w base v (taken ++ [x]) ∧ (v.ownBlock = tv.ownBlock ∨ ∃ g, v.ownBlock = some g ∧ B ≤ g)
  | 8, _, _, v, _ => v = both
  | _, _, _, _, _ => False
theorem spT7_stable (LB BB TB i base B g9 : Nat) (tv both : Value) (taken : List Nat) (x : Nat) : ∀ i' c w w', (i' = 7 → c = false) → gT7 base tv taken i' w w' → ∀ k D v, spT7 LB BB TB i base B g9 tv both taken x k c D v w → spT7 LB BB TB i base B g9 tv both taken x k (c || i' == 7) D v w' := by
  intro i' c w w' hc hg k D v h
  by_cases hi : i' = 7
  · have hcf := hc hi
    subst hcf
    subst hi
    match k with
    | 0 => exact h
    | 1 => exact h
    | 2 => exact h
    | 3 => exact h
    | 4 => exact h
    | 5 => exact h
    | 6 => exact fun e => by cases e
    | 7 => exact absurd h.1 (by simp)
    | 8 => exact h
    | _ + 9 => exact h.elim
  · have e1 : (c || i' == 7) = c := by simp [hi]
    rw [e1]
    have hb : Below w.heap.size w w' := by unfold gT7 at hg; rw [if_neg hi] at hg; exact hg
    match k with
    | 0 => exact h
    | 1 => exact h
    | 2 => exact h
    | 3 => exact h
    | 4 => exact h
    | 5 => exact h
    | 6 => exact fun e => by obtain ⟨g, h1, h2, h3⟩ := h e; exact ⟨g, h1, Nat.lt_of_lt_of_le h2 hb.size, (World.cell?_of_block (hb.block g h2)).trans h3⟩
    | 7 => exact ⟨h.1, h.2.1.below hb, h.2.2⟩
    | 8 => exact h
    | _ + 9 => exact h.elim
/-- what is a part of a longer list in the same row -/
theorem own_prefix {w w8 : World} {base : Nat} {tv v7 : Value} {taken : List Nat} {x : Nat} (h7 : OwnN w base v7 (taken ++ [x])) (ht : OwnN w base tv taken) (hb : v7.ownBlock = tv.ownBlock) (h8 : OwnN w8 base v7 (taken ++ [x])) : OwnN w8 base tv taken := by
  have hl : (taken ++ [x]).length = taken.length + 1 := by simp
  rcases ht.2 with hn | ⟨g, cap, cur, rfl, hbg, hg, hnc, hcm, hcs, _⟩
  · exact ⟨ht.1, .inl hn⟩
  · rcases h7.2 with ⟨h1, h2⟩ | ⟨g2, cap2, cur2, rfl, _, hg2, _, _, hcs2, _⟩
    · rw [hl] at h2; omega
    · rcases h8.2 with ⟨h1, h2⟩ | ⟨g3, cap3, cur3, h3, _, hg3, _, _, hcs3, ht3⟩
      · rw [hl] at h2; omega
      · simp only [Value.ownBlock] at hb
        injection hb with hb
        subst hb
        injection h3 with e1 e2 e3
        injection e1 with e1
        injection e1 with e1
        subst e1 e3
        rw [hg] at hg2
        injection hg2 with hg2
        injection hg2 with e4
        subst e4
        have hcc : cap = cap2 := by omega
        subst hcc
        refine ⟨ht.1, .inr ⟨_, _, cur3, rfl, hbg, hg3, hnc, hcm, hcs3, ?_⟩⟩
        have h12 := congrArg (List.take (taken.length * 1)) ht3
        have h13 : ((taken ++ [x]).map fun (x : Nat) => Value.int .i64 x).take (taken.length * 1) = taken.map fun (x : Nat) => Value.int .i64 x := by
          rw [List.map_append]; exact List.take_left' (by simp)
        rw [h13, List.take_take, Nat.min_eq_left (by rw [hl]; omega)] at h12
        exact h12
set_option maxHeartbeats 4000000 in
set_option maxRecDepth 100000 in
theorem take_step (LB BB TB base : Nat) (ob : Option Addr) (cap : Nat) (l : List (Nat × List Bool)) (hl30 : ∀ y ∈ l, y.2.length = 30) (hlen : l.length ≤ 30) (hb : ApB LB BB TB base ob l) (i : Nat) (hi : i ≤ l.length) (ih : i < l.length → TakeCall LB BB TB base ob cap l (i + 1)) : TakeCall LB BB TB base ob cap l i := by
  intro W tv taken heard bv best hI hbW ht hbo hdis hhl htl hbl
  obtain ⟨ta, tc, rfl⟩ := own_slice ht
  obtain ⟨ba, bc, rfl⟩ := own_slice hbo
  have lLB := (Array.getElem?_eq_some_iff.1 hI.lb).1
  have lBB := (Array.getElem?_eq_some_iff.1 hI.bb).1
  have lTB := (Array.getElem?_eq_some_iff.1 hI.tb).1
  have c1 : ∀ o, (W.alloc o).cell? ⟨LB, 0, none⟩ = some (.slice ob l.length cap) := fun o => by rw [cell_of_row _ _ _ _ _ _ ((Below.heap_alloc _ _ _ lLB).trans hI.lb)]; rfl
  have c2 : ∀ o, (W.alloc o).cell? ⟨BB, 0, none⟩ = some (.slice ba best.length bc) := fun o => by rw [cell_of_row _ _ _ _ _ _ ((Below.heap_alloc _ _ _ lBB).trans hI.bb)]; rfl
  have hd1 : ∀ d, decide (taken.length + (l.length - i) ≤ best.length) = d → decide ((taken.length : Int) + l.length - i ≤ best.length) = d := fun d h => by rw [← h]; congr 1; apply propext; omega
  have HI := Lib.hid hI
  have HT := Lib.hid ht
  have HBO := Lib.hid hbo
  have HDIS := Lib.hid hdis
  have HB := Lib.hid hb
  have HIH := Lib.hid ih
  have HHL := Lib.hid hhl
  have HL30 := Lib.hid hl30
  clear hI ht hbo hdis hb ih hhl hl30
  by_cases h0 : taken.length + (l.length - i) ≤ best.length
  · have hd := hd1 true (by simpa using h0)
    have hres : takeP (l.drop i) taken heard best = best := by
      have hdl : (l.drop i).length = l.length - i := List.length_drop
      match hD : l.drop i with
      | [] => rw [hD] at hdl; unfold takeP; rw [if_pos (by simp at hdl; omega)]
      | x :: r => rw [hD] at hdl; unfold takeP; rw [if_pos (by simp at hdl; omega)]
    rw [hres]
    clear hres hd1
    go_enter Tryz.func126, Tryz.ntmps126
    go_wp2_with fail
    refine bodyPost_ret (results_none rfl _ _ _) rfl ?_
    exact ⟨⟨_, rfl⟩, ⟨_, HI.out.apf HB.out (ApF.of_below (row := none) (below1 _ _)) (by simp) ((Below.heap_alloc _ _ _ lBB).trans HI.out.bb), HBO.out.below (below1 _ _), .inl rfl⟩, HT.out.below (below1 _ _), ApF.of_below (below1 _ _)⟩
  · have hd := hd1 false (by simpa using h0)
    clear hd1
    by_cases hil : i = l.length
    · have hres : takeP (l.drop i) taken heard best = taken := by
        rw [hil, List.drop_length]; unfold takeP; rw [if_neg (by omega)]
      rw [hres]
      have htn : taken ≠ [] := by rintro rfl; simp at h0; omega
      have HTN := Lib.hid htn
      clear hres htn
      have hil' : ((i : Int) == (l.length : Int)) = true := by rw [hil]; simp
      obtain ⟨gt, rfl, hgt, hgl, hcells⟩ : ∃ gt, ta = some ⟨gt, 0, none⟩ ∧ base ≤ gt ∧ gt < W.heap.size ∧ ∀ j u, (taken.map fun (x : Nat) => Value.int .i64 x)[j]? = some u → W.cell? ((⟨gt, 0, none⟩ : Addr).add j) = some u := by
        have h2 := HT.out.2
        rcases h2 with ⟨h3, h4⟩ | ⟨g, cp, cur, h3, h4, h5, _⟩
        · exact absurd (List.length_eq_zero_iff.1 h4) HTN.out
        · injection h3 with e1
          exact ⟨g, e1, h4, (Array.getElem?_eq_some_iff.1 h5).1, HT.out.cells (by rw [e1]; rfl)⟩
      obtain ⟨i0, hi, hz0, hz1, hz2⟩ := info_parts A_info3
      have hone : ∀ u ∈ (taken.map fun (x : Nat) => Value.int .i64 x), u.oneCell' = true := fun u hu => by obtain ⟨x, _, rfl⟩ := List.mem_map.1 hu; rfl
      have HCE := Lib.hid hcells
      have HON := Lib.hid hone
      clear hcells hone
      go_enter Tryz.func126, Tryz.ntmps126
      go_wp2_with (at_builtin; refine wpList_append_own _ rfl _ _ 22 rfl W.heap.size 3 i0 (.int .i64 0) 1 8 A_und31 hi hz0 hz1 hz2 rfl (by decide) (.slice (some ⟨W.heap.size + 1, 0, none⟩) 0 0) 0 [] rfl ?f0 ⟨gt, 0, none⟩ taken.length tc (taken.map fun (x : Nat) => Value.int .i64 x) rfl ?f6 ?f1 HON.out ?f3 ?f4 ?f5 ?_)
      case f0 =>
        refine ⟨by simp, .inr ⟨W.heap.size + 1, 0, #[], rfl, by omega, ?_, Nat.le_refl _, by unfold maxLen; omega, by simp, by simp⟩⟩
        have := heap_alloc_last (W.alloc (.cells (heard.map Value.bool).toArray 124)) (.cells #[] 3); simpa using this
      case f6 => simp
      case f1 =>
        intro j u hj
        have hab : ((⟨gt, 0, none⟩ : Addr).add j).block = gt := by unfold Addr.add; split <;> rfl
        exact ((World.cell?_of_block (by rw [hab, Below.heap_alloc _ _ _ (by simp; omega), Below.heap_alloc _ _ _ hgl])).trans (HCE.out j u hj))
      case f3 => unfold maxLen; omega
      case f4 => omega
      case f5 => simp; omega
      intro v' w' hown hgrow _
      obtain ⟨va, vc, rfl⟩ := own_slice hown
      have hB1 : Below W.heap.size W ((W.alloc (.cells (heard.map Value.bool).toArray 124)).alloc (.cells #[] 3)) := al (al (Below.refl _ _) _) _
      have hF : Below W.heap.size W w' := ⟨hgrow.os.trans hB1.os, hgrow.tape.trans hB1.tape, hgrow.output.trans hB1.output, Nat.le_trans hB1.size hgrow.size, fun k hk => (hgrow.block k (Nat.lt_of_lt_of_le hk hB1.size) (by show some k ≠ some (W.heap.size + 1); intro e; injection e; omega)).trans (hB1.block k hk)⟩
      have hbb := (hF.block _ lBB).trans HI.out.bb
      have hbc : w'.cell? ⟨BB, 0, none⟩ = some (.slice ba best.length bc) := by rw [cell_of_row _ _ _ _ _ _ hbb]; rfl
      have hbf := frozen_of_row w' BB 0 _ _ hbb
      have hblt : BB < w'.heap.size := Nat.lt_of_lt_of_le lBB hF.size
      have HF := Lib.hid hF
      have HOW := Lib.hid hown
      have HBB := Lib.hid hbb
      clear hF hown hbb hB1 hgrow
      go_wp2_with fail
      refine bodyPost_ret (results_none rfl _ _ _) rfl ?_
      have hS : ApF BB (some gt) w' (w'.setCell ⟨BB, 0, none⟩ (.slice va taken.length vc)) := ⟨rfl, rfl, rfl, by simp, fun k hk h1 _ => Below.heap_setCell _ _ _ _ h1⟩
      have hFS : ApF BB (some gt) W (w'.setCell ⟨BB, 0, none⟩ (.slice va taken.length vc)) := (ApF.of_below HF.out).trans hS
      have hv : ∀ k, (Value.slice va taken.length vc).ownBlock = some k → W.heap.size ≤ k := fun k hk => (HOW.out.lt k hk).1
      refine ⟨⟨_, rfl⟩, ⟨_, HI.out.apf HB.out hFS (fun k hk => by injection hk with hk; rw [← hk]; exact hgt) (heap_set_same _ HBB.out), ?_, ?_⟩, ?_, hFS⟩
      · have := OwnN.kept (l := taken) (own_base HOW.out hbW) hS HB.out.bb (by
          cases hob : (Value.slice va taken.length vc).ownBlock with
          | none => exact .inl rfl
          | some k => right; intro e; injection e with e; have := hv k hob; omega)
        exact this
      · right
        rcases HOW.out.2 with ⟨_, h4⟩ | ⟨g, cp, cur, h3, h4, _⟩
        · exact absurd (List.length_eq_zero_iff.1 h4) HTN.out
        · exact ⟨g, by rw [h3]; rfl, h4⟩
      · have h1 : OwnN w' base (.slice (some ⟨gt, 0, none⟩) taken.length tc) taken := HT.out.kept (ApF.of_below (row := none) HF.out) HB.out.bb (by right; simp [Value.ownBlock])
        refine h1.kept (row := none) ⟨hS.os, hS.tape, hS.output, hS.size, fun k hk hk1 _ => Below.heap_setCell _ _ _ _ hk1⟩ HB.out.bb (by right; simp [Value.ownBlock])
    · have hlt : i < l.length := by omega
      obtain ⟨x, hx⟩ : ∃ x, l[i]? = some x := ⟨_, List.getElem?_eq_getElem hlt⟩
      have hdrop : l.drop i = x :: l.drop (i + 1) := by
        rw [List.drop_eq_getElem_cons hlt]
        rw [List.getElem?_eq_getElem hlt] at hx
        injection hx with hx
        rw [hx]
      have hx30 := HL30.out x (List.mem_of_getElem? hx)
      obtain ⟨gl, rfl, hgl, hrg⟩ := HI.out.li i x hx
      have hres : takeP (l.drop i) taken heard best = takeP (l.drop (i + 1)) taken heard (if clashTo heard x.2 30 then best else takeP (l.drop (i + 1)) (taken ++ [x.1]) (mixTo heard x.2 30) best) := by
        rw [hdrop]
        have hdl : (l.drop (i + 1)).length = l.length - (i + 1) := List.length_drop
        conv => lhs; unfold takeP
        rw [if_neg (by omega)]
      obtain ⟨RES, hRES⟩ : ∃ RES, RES = takeP (l.drop (i + 1)) taken heard (if clashTo heard x.2 30 then best else takeP (l.drop (i + 1)) (taken ++ [x.1]) (mixTo heard x.2 30) best) := ⟨_, rfl⟩
      rw [hres, ← hRES]
      have HRES := Lib.hid hRES
      clear hRES
      have HIH1 := Lib.hid (HIH.out hlt)
      have hil' : ((i : Int) == (l.length : Int)) = false := by simp; omega
      have hli : (i : Int) < l.length := by omega
      obtain ⟨HA, hHA⟩ : ∃ HA, HA = (heard.map Value.bool).toArray := ⟨_, rfl⟩
      obtain ⟨es, hes⟩ : ∃ es, es = x.2.map Value.bool := ⟨_, rfl⟩
      obtain ⟨row, hrow⟩ : ∃ row, row = Value.int .i64 (x.1 : Int) :: es := ⟨_, rfl⟩
      have hrowx : lisRow x = row := by rw [hrow, hes]; rfl
      rw [hrowx] at hrg
      rw [← hHA]
      have hsz : (Tryz.prog.info? 126).map (·.size) = some row.length := by rw [← hrowx, lisRow_len hx30]; exact size135
      have hesz : (Tryz.prog.info? 124).map (·.size) = some es.length := by rw [hes, List.length_map, hx30]; exact size128
      have hHsz : (Tryz.prog.info? 124).map (·.size) = some HA.size := by rw [hHA, List.size_toArray, List.length_map, HHL.out]; exact size128
      have hone : row.toArray.all (·.oneCell') = true := by
        rw [Array.all_eq_true]; intro k hk
        have hm : ∀ v ∈ row, v.oneCell' = true := fun v hv => by
          rw [hrow, hes] at hv
          rcases List.mem_cons.1 hv with e | e
          · rw [e]; rfl
          · obtain ⟨b, _, e⟩ := List.mem_map.1 e; rw [← e]; rfl
        exact hm _ (by simp)
      have hrg1 : (W.alloc (.cells HA 124)).rangeAt gl (i * 31) row := fun j u hu => (World.cell?_of_block (a := ⟨gl, i * 31 + j, none⟩) (Below.heap_alloc _ _ _ hgl)).trans (hrg j u hu)
      have HRG1 := Lib.hid hrg1
      have HSZ := Lib.hid hsz
      have HESZ := Lib.hid hesz
      have HHSZ := Lib.hid hHsz
      have HONE := Lib.hid hone
      have HSZA : Hid ((Tryz.prog.info? 126).map (·.size) = some row.toArray.size) := Lib.hid (by rw [List.size_toArray]; exact HSZ.out)
      have HROW := Lib.hid hrow
      have HES := Lib.hid hes
      have HHA := Lib.hid hHA
      have HX30 := Lib.hid hx30
      clear hrg hrg1 hsz hesz hHsz hone hrow hes hHA hx30 hdrop hrowx hx hres
      obtain ⟨W2, hW2⟩ : ∃ W2 : World, W2 = (W.alloc (.cells HA 124)).alloc (.cells row.toArray 126) := ⟨_, rfl⟩
      have hB2 : Below W.heap.size W W2 := by rw [hW2]; exact al (al (Below.refl _ _) _) _
      have hs2 : W2.heap.size = W.heap.size + 2 := by rw [hW2]; simp
      have hh0 : W2.heap[W.heap.size]? = some (.cells HA 124 (0, 0)) := by rw [hW2, Below.heap_alloc _ _ _ (by simp)]; exact heap_alloc_last _ _
      have hh1 : W2.heap[W.heap.size + 1]? = some (.cells row.toArray 126 (0, 0)) := by rw [hW2]; have := heap_alloc_last (W.alloc (.cells HA 124)) (.cells row.toArray 126); simpa using this
      have hr1 : W2.rangeAt (W.heap.size + 1) 1 es := fun j u hu => by
        rw [cell_of_row _ _ _ _ _ _ hh1, HROW.out, Nat.add_comm]; simpa using hu
      have HW2 := Lib.hid hW2
      have HB2 := Lib.hid hB2
      have HH0 := Lib.hid hh0
      have HH1 := Lib.hid hh1
      have HR1 := Lib.hid hr1
      have HTO := Lib.hid (together_any heard x.2 HHL.out HX30.out W2)
      rw [← HHA.out, ← HES.out] at HTO
      clear hW2 hB2 hh0 hh1 hr1
      go_enter Tryz.func126, Tryz.ntmps126
      go_upto_region 5 with (first
        | (with_reducible refine wpList_load_mid rfl 126 _ rfl gl (i * 31) rfl row _ HRG1.out und135 rfl HSZ.out ?_)
        | (with_reducible refine wpList_store_new2 rfl 126 _ _ rfl (W.heap.size + 1) _ row.toArray rfl ?hb rfl HSZA.out ?hs HONE.out ?_))
      case hb => simp
      case hs => have := HSZA.out; rw [size135] at this; injection this
      rw [← HW2.out]
      clear HW2 HRG1
      go_wp2_with (first
        | (with_reducible refine wpList_load_row rfl 124 _ rfl W.heap.size rfl 124 HA (0, 0) _ HH0.out und128 rfl HHSZ.out ?_)
        | (with_reducible refine wpList_load_mid rfl 124 _ rfl (W.heap.size + 1) 1 rfl es _ HR1.out und128 rfl HESZ.out ?_))
      refine HTO.out.mono ?_
      rintro e w5 ⟨rfl, hB5⟩
      obtain ⟨cl, hcl⟩ : ∃ cl, cl = clashTo heard x.2 30 := ⟨_, rfl⟩
      rw [← hcl]
      obtain ⟨MX, hMX⟩ : ∃ MX, MX = mixTo heard x.2 30 := ⟨_, rfl⟩
      rw [← hMX]
      have hMl : MX.length = 30 := by rw [hMX]; exact mix_len _ _ _
      have HMX := Lib.hid hMX
      have HML := Lib.hid hMl
      have HCL := Lib.hid hcl
      have HB5 := Lib.hid (join HB2.out hB5)
      have hs5 := hB5.size
      have HH0 := Lib.hid ((hB5.block _ (by omega)).trans HH0.out)
      have HH1 := Lib.hid ((hB5.block _ (by omega)).trans HH1.out)
      have HTA := Lib.hid (HT.out.below HB5.out)
      have HBA := Lib.hid (HBO.out.below HB5.out)
      have HIA := Lib.hid (HI.out.apf HB.out (ApF.of_below (row := none) HB5.out) (by simp) ((HB5.out.block _ lBB).trans HI.out.bb))
      clear hcl hMX hMl hB5 HTO HB2 HR1
      obtain ⟨BA, hBA⟩ : ∃ BA, BA = if cl then ((List.replicate 30 false).map Value.bool).toArray else (MX.map Value.bool).toArray := ⟨_, rfl⟩
      have hBsz : (Tryz.prog.info? 124).map (·.size) = some BA.size := by rw [hBA]; cases cl <;> simp [HML.out, size128]
      have hBon : BA.all (·.oneCell') = true := by rw [hBA]; cases cl <;> exact bools_all _
      have heq : (if cl then .tuple #[.agg ((List.replicate 30 false).map Value.bool).toArray, .bool false] else .tuple #[.agg (MX.map Value.bool).toArray, .bool true] : Value) = .tuple #[.agg BA, .bool (!cl)] := by rw [hBA]; cases cl <;> rfl
      rw [heq]
      have HBSZ := Lib.hid hBsz
      have HBON := Lib.hid hBon
      obtain ⟨W6, hW6⟩ : ∃ W6 : World, W6 = w5.alloc (.cells BA 124) := ⟨_, rfl⟩
      have h56 : Below w5.heap.size w5 W6 := by rw [hW6]; exact below1 _ _
      have hs6 : W6.heap.size = w5.heap.size + 1 := by rw [hW6]; simp
      have HB6 := Lib.hid (join HB5.out h56)
      have H60 := Lib.hid ((h56.block _ (by omega)).trans HH0.out)
      have H61 := Lib.hid ((h56.block _ (by omega)).trans HH1.out)
      have H62 : Hid (W6.heap[w5.heap.size]? = some (.cells BA 124 (0, 0))) := Lib.hid (by rw [hW6]; exact heap_alloc_last _ _)
      have HT6 := Lib.hid (HTA.out.below h56)
      have HBO6 := Lib.hid (HBA.out.below h56)
      have HI6 := Lib.hid (HIA.out.apf HB.out (ApF.of_below (row := none) h56) (by simp) ((h56.block _ (by have := HB5.out.size; omega)).trans HIA.out.bb))
      have c3 : W6.cell? ⟨TB, 0, none⟩ = some (takeF LB BB TB) := by rw [cell_of_row _ _ _ _ _ _ HI6.out.tb]; rfl
      have l6 : TB < W6.heap.size := (Array.getElem?_eq_some_iff.1 HI6.out.tb).1
      have HW6 := Lib.hid hW6
      have HBA2 := Lib.hid hBA
      unfold takeF at c3
      clear hBA heq hBsz hBon h56 HTA HBA HIA hW6 c1 c2
      cases cl with
      | true =>
        go_upto_region 8 with (with_reducible refine wpList_store_new rfl 124 _ _ rfl _ BA rfl rfl HBSZ.out ?hs HBON.out ?_)
        case hs => have := HBSZ.out; rw [size128] at this; injection this
        rw [← HW6.out]
        have hq := HIH1.out W6 _ taken heard _ best HI6.out (by omega) HT6.out HBO6.out HDIS.out HHL.out (by omega) hbl
        rw [← HHA.out] at hq
        have HQ := Lib.hid hq
        clear hq
        go_wp2_with (with_reducible refine wpList_load_row rfl 124 _ rfl W.heap.size rfl 124 HA (0, 0) _ H60.out und128 rfl HHSZ.out ?_)
        refine HQ.out.mono ?_
        rintro e w7 ⟨⟨r, rfl⟩, hP⟩
        have HP := Lib.hid hP
        clear hP HQ
        go_wp2_with fail
        refine bodyPost_end (results_none rfl _ _ _) rfl ?_
        obtain ⟨bv', e1, e2, e3⟩ := HP.out.ex
        have hR : RES = takeP (l.drop (i + 1)) taken heard best := by rw [HRES.out, ← HCL.out]; rfl
        rw [hR]
        refine ⟨⟨_, rfl⟩, ⟨bv', e1, e2, ?_⟩, HP.out.tk, ApF.join (ApF.of_below HB6.out) HP.out.fr (.inl rfl)⟩
        rcases e3 with e3 | ⟨g, e3, e4⟩
        · exact .inl e3
        · exact .inr ⟨g, e3, Nat.le_trans HB6.out.size e4⟩
      | false =>
        go_upto_region 7 with (with_reducible refine wpList_store_new rfl 124 _ _ rfl _ BA rfl rfl HBSZ.out ?hs HBON.out ?_)
        case hs => have := HBSZ.out; rw [size128] at this; injection this
        rw [← HW6.out]
        have hrl : ∀ k, (Value.slice ta taken.length tc).ownBlock = some k → base ≤ k ∧ k < W.heap.size := HT.out.lt
        have hsB := HB6.out.size
        have hs56 := HB5.out.size
        have hk1 : W6.cell? ⟨W.heap.size + 1, 0, none⟩ = some (.int .i64 x.1) := by rw [cell_of_row _ _ _ _ _ _ H61.out, HROW.out]; rfl
        have hwi : IntKind.wrap .i64 ((i : Int) + 1) = ((i + 1 : Nat) : Int) := wrap_nat (n := i + 1) (by omega)
        have hBl : BA.toList.toArray = BA := by simp
        have hBr : W6.rangeAt w5.heap.size 0 BA.toList := fun j u hu => by rw [cell_of_row _ _ _ _ _ _ H62.out, Nat.zero_add]; simpa using hu
        have hBz : (Tryz.prog.info? 124).map (·.size) = some BA.toList.length := by rw [Array.length_toList]; exact HBSZ.out
        have HRL := Lib.hid hrl
        have HBL := Lib.hid hBl
        have HBR := Lib.hid hBr
        have HBZ := Lib.hid hBz
        have HK1 := Lib.hid hk1
        have HC3 := Lib.hid c3
        clear hrl hBl hBr hBz hk1 c3
        refine Rk.region_gen 7 (gT7 base (.slice ta taken.length tc) taken) (grown_isGr base (.slice ta taken.length tc) taken) (fun i a b h => gT7_all _ _ _ i a b h) (fun i a => gT7_refl _ _ _ i a) 9 [[], [], [1], [], [], [4], [4, 5], [3, 4, 5, 6], []] [some 41, some 42, some 43, some 44, some 45, some 46, some 47, some 48, some 49] (by omega)
          (spT7 LB BB TB i base W6.heap.size (W.heap.size + 1) (.slice ta taken.length tc) (.agg BA) taken x.1) (by kernel_rfl) (by kernel_rfl) rfl (spT7_stable _ _ _ _ _ _ _ _ _ _ _) ?_ ?_
        · refine ⟨fun V w' c hG hc hs => ?_, fun V w' c hG hc hs => ?_, fun V w' c hG hc hs => ?_, fun V w' c hG hc hs => ?_, fun V w' c hG hc hs => ?_, fun V w' c hG hc hs => ?_, fun V w' c hG hc hs => ?_, fun V w' c hG hc hs => ?_, fun V w' c hG hc hs => ?_, trivial⟩
          all_goals
            have k3 : w'.cell? ⟨TB, 0, none⟩ = some (takeF LB BB TB) := (World.cell?_of_block (hG.1.block TB l6 (by intro e; have := HRL.out _ e.symm; have := HB.out.tb; omega))).trans HC3.out
            have k1 : w'.cell? ⟨W.heap.size + 1, 0, none⟩ = some (.int .i64 x.1) := (World.cell?_of_block (hG.1.block (W.heap.size + 1) (by omega) (by intro e; have := HRL.out _ e.symm; omega))).trans HK1.out
            rw [if_pos (by rfl)]
          · unfold takeF at k3
            exact Rk.GrowL.value (v := takeF LB BB TB) (w' := w') (by simp [go_sem, Rs.look, k3, takeF]) (gT7_refl _ _ _ _ _) rfl
          · exact Rk.GrowL.value (v := .int .i64 i) (w' := w') (by simp [go_sem, Rs.look]) (gT7_refl _ _ _ _ _) rfl
          · have e1 : V 1 = .int .i64 i := hs 1 (by simp)
            exact Rk.GrowL.value (v := .int .i64 ((i + 1 : Nat) : Int)) (w' := w') (by simp [go_sem, Rs.look, e1, hwi]) (gT7_refl _ _ _ _ _) rfl
          · exact Rk.GrowL.value (v := .slice ta taken.length tc) (w' := w') (by simp [go_sem, Rs.look]) (gT7_refl _ _ _ _ _) rfl
          · exact Rk.GrowL.value (v := .pointer (some ⟨W.heap.size + 1, 0, none⟩)) (w' := w') (by simp [go_sem, Rs.look]) (gT7_refl _ _ _ _ _) rfl
          · have e4 : V 4 = .pointer (some ⟨W.heap.size + 1, 0, none⟩) := hs 4 (by simp)
            exact Rk.GrowL.value (v := .int .i64 x.1) (w' := w') (by simp [go_sem, Rs.look, e4, k1]) (gT7_refl _ _ _ _ _) rfl
          · have e5 : V 5 = .int .i64 x.1 := hs 5 (by simp)
            refine Rk.GrowL.value (v := .slice (some ⟨w'.heap.size, 0, none⟩) 1 1) (w' := w'.alloc (.cells #[.int .i64 x.1] 3)) (by simp [go_sem, Rs.look, e5]) (gT7_of (by decide) (below1 _ _)) (fun _ => ⟨_, rfl, by simp, ?_⟩)
            rw [cell_of_row _ _ _ _ _ _ (heap_alloc_last _ _)]; rfl
          · have e3 : V 3 = .slice ta taken.length tc := hs 3 (by simp)
            have r6 : c = false → ∃ g, V 6 = .slice (some ⟨g, 0, none⟩) 1 1 ∧ g < w'.heap.size ∧ w'.cell? ⟨g, 0, none⟩ = some (.int .i64 x.1) := hs 6 (by simp)
            obtain ⟨g, e6, hg, hcg⟩ := r6 (hc rfl)
            obtain ⟨v', w8, hr, hown, hgr, hold, hwh⟩ := append_which w' base (.slice ta taken.length tc) taken.length _ (.int .i64 x.1) rfl (hG.2 HT6.out) (by have := hG.1.size; omega) (by omega) ⟨g, 0, none⟩ (by simpa [Addr.add] using hcg)
            refine Rk.GrowL.value (v := v') (w' := w8) (exec_append2 rfl rfl (by simp [Rs.look, e3]) (by simp [Rs.look, e6]) hr) (by unfold gT7; rw [if_pos rfl]; exact ⟨hgr, fun _ => hold⟩) ⟨by simp, ?_, ?_⟩
            · unfold OwnN
              rw [List.length_append, List.map_append]
              exact hown
            · rcases hwh with h | h
              · exact .inl h
              · exact .inr ⟨_, h, hG.1.size⟩
          · have k8 : w'.rangeAt w5.heap.size 0 BA.toList := fun j u hu => (World.cell?_of_block (a := ⟨w5.heap.size, 0 + j, none⟩) (hG.1.block w5.heap.size (by omega) (by intro e; have := HRL.out _ e.symm; omega))).trans (HBR.out j u hu)
            refine Rk.GrowL.value (v := .agg BA.toList.toArray) (w' := w') (exec_load_mid 124 _ rfl rfl k8 und128 rfl HBZ.out) (gT7_refl _ _ _ _ _) ?_
            show Value.agg BA.toList.toArray = .agg BA
            rw [HBL.out]
        · intro V w' hG hs
          have e0 : V 0 = takeF LB BB TB := hs 0 (by omega)
          have e1 : V 1 = .int .i64 i := hs 1 (by omega)
          have e2 : V 2 = .int .i64 ((i + 1 : Nat) : Int) := hs 2 (by omega)
          have e3 : V 3 = .slice ta taken.length tc := hs 3 (by omega)
          have e4 : V 4 = .pointer (some ⟨W.heap.size + 1, 0, none⟩) := hs 4 (by omega)
          have e5 : V 5 = .int .i64 x.1 := hs 5 (by omega)
          obtain ⟨-, r7, r7b⟩ : true = true ∧ OwnN w' base (V 7) (taken ++ [x.1]) ∧ ((V 7).ownBlock = (Value.slice ta taken.length tc).ownBlock ∨ ∃ g, (V 7).ownBlock = some g ∧ W6.heap.size ≤ g) := hs 7 (by omega)
          have e8 : V 8 = .agg BA := hs 8 (by omega)
          simp only [Rs.canon, Rs.dstOf, List.range_succ, List.range_zero, List.nil_append, List.cons_append, List.foldl_cons, List.foldl_nil, List.drop_succ_cons, List.drop_zero, List.drop_nil, List.getElem?_toArray, List.getElem?_cons_succ, List.getElem?_cons_zero, Option.bind_some, Act.put, List.getD_cons_succ, List.getD_cons_zero, List.setIfInBounds_toArray, List.set_cons_succ, List.set_cons_zero]
          rw [e0, e1, e2, e3, e4, e5, e8]
          generalize V 6 = y6
          generalize V 7 = v7 at r7 r7b ⊢
          clear e0 e1 e2 e3 e4 e5 e8 hs
          have hG1 := hG.1
          have hTd := hG.2 HT6.out
          have hF : ApF BB (Value.slice ta taken.length tc).ownBlock W6 w' := ApF.of_grown hG1
          have hbl7 : ∀ k, (Value.slice ba best.length bc).ownBlock = some k → k < W6.heap.size := fun k hk => (HBO6.out.lt k hk).2
          have hI7 := HI6.out.apf HB.out hF (fun k hk => (HRL.out k hk).1) ((hG1.block BB (by have := (Array.getElem?_eq_some_iff.1 HI6.out.bb).1; exact this) (by intro e; have := HRL.out _ e.symm; have := HB.out.bb; omega)).trans HI6.out.bb)
          have hO7 : OwnN w' base (.slice ba best.length bc) best := HBO6.out.kept hF HB.out.bb HDIS.out
          have hdis7 : (Value.slice ba best.length bc).ownBlock = none ∨ (Value.slice ba best.length bc).ownBlock ≠ v7.ownBlock := by
            cases hob : (Value.slice ba best.length bc).ownBlock with
            | none => exact .inl rfl
            | some k =>
              right
              rcases r7b with h | ⟨g, h, hg⟩
              · rw [h, ← hob]
                rcases HDIS.out with h2 | h2
                · rw [h2] at hob; cases hob
                · exact h2
              · rw [h]; intro e; injection e; have := hbl7 k hob; omega
          have hq := HIH1.out w' v7 (taken ++ [x.1]) MX _ best hI7 (by have := hG1.size; omega) r7 hO7 hdis7 HML.out (by rw [List.length_append, List.length_singleton]; omega) hbl
          have hlen7 : (taken ++ [x.1]).length = taken.length + 1 := by simp
          obtain ⟨va7, vc7, rfl⟩ := own_slice r7
          have hBt : (MX.map Value.bool).toArray = BA := by rw [HBA2.out]; rfl
          rw [hBt] at hq
          rw [hlen7] at hq r7b r7
          have HQ := Lib.hid hq
          have HO7 := Lib.hid r7
          have HG := Lib.hid hG
          have HR7 := Lib.hid r7b
          have HTD := Lib.hid hTd
          have HF7 := Lib.hid hF
          clear hq hG hG1 r7 r7b hTd hF hbl7 hI7 hO7 hdis7
          unfold takeF
          go_wp2_with fail
          refine HQ.out.mono ?_
          rintro e w8 ⟨⟨r, rfl⟩, hP⟩
          obtain ⟨bv1, i1, o1, f1⟩ := hP.ex
          have hG1 := HG.out.1
          have hb8 : ∀ k, k < W6.heap.size → k ≠ BB → some k ≠ (Value.slice ta taken.length tc).ownBlock → w8.heap[k]? = W6.heap[k]? := fun k hk h1 h2 => by
            refine (hP.fr.block k (Nat.lt_of_lt_of_le hk hG1.size) h1 ?_).trans (hG1.block k hk h2)
            rcases HR7.out with h | ⟨g, h, hg⟩
            · rw [h]; exact h2
            · rw [h]; intro e; injection e; omega
          have hn0 : some W.heap.size ≠ (Value.slice ta taken.length tc).ownBlock := by intro e; have := HRL.out _ e.symm; omega
          have h80 := (hb8 W.heap.size (by omega) (by omega) hn0).trans H60.out
          have hnT : some TB ≠ (Value.slice ta taken.length tc).ownBlock := by intro e; have := HRL.out _ e.symm; have := HB.out.tb; omega
          have c8 : w8.cell? ⟨TB, 0, none⟩ = some (takeF LB BB TB) := (World.cell?_of_block (hb8 TB l6 HB.out.n2 hnT)).trans HC3.out
          have l8 : TB < w8.heap.size := (Array.getElem?_eq_some_iff.1 i1.tb).1
          have ot8 : OwnN w8 base (.slice ta taken.length tc) taken := by
            rcases HR7.out with h | ⟨g, h, hg⟩
            · refine own_prefix (x := x.1) (v7 := .slice va7 (taken.length + 1) vc7) ?_ HTD.out h ?_
              · exact HO7.out
              · exact hP.tk
            · refine HTD.out.kept hP.fr HB.out.bb ?_
              cases hob : (Value.slice ta taken.length tc).ownBlock with
              | none => exact .inl rfl
              | some k => right; rw [h]; intro e; injection e; have := HRL.out k hob; omega
          have hdis8 : bv1.ownBlock = none ∨ bv1.ownBlock ≠ (Value.slice ta taken.length tc).ownBlock := by
            rcases f1 with rfl | ⟨g, h, hg⟩
            · exact HDIS.out
            · right; rw [h]; intro e; have := HRL.out g e.symm; have := hG1.size; omega
          obtain ⟨R1, hR1⟩ : ∃ R1, R1 = takeP (l.drop (i + 1)) (taken ++ [x.1]) MX best := ⟨_, rfl⟩
          rw [← hR1] at o1
          have hR1l : R1.length ≤ 30 := by
            have := take_len (l.drop (i + 1)) (taken ++ [x.1]) MX best
            rw [← hR1, hlen7, List.length_drop] at this
            omega
          have hq := HIH1.out w8 _ taken heard bv1 R1 i1 (by have := hG1.size; have := hP.fr.size; omega) ot8 o1 hdis8 HHL.out (by omega) hR1l
          rw [← HHA.out] at hq
          have HQ2 := Lib.hid hq
          have HFR := Lib.hid hP.fr
          have HF1 := Lib.hid f1
          have HR1 := Lib.hid hR1
          have H80 := Lib.hid h80
          have hs8 := hP.fr.size
          unfold takeF at c8
          clear hq hP i1 o1 f1 hG1 hb8 hn0 h80 hnT ot8 hdis8 hR1 hR1l HQ
          go_wp2_with (with_reducible refine wpList_load_row rfl 124 _ rfl W.heap.size rfl 124 HA (0, 0) _ H80.out und128 rfl HHSZ.out ?_)
          refine HQ2.out.mono ?_
          rintro e w9 ⟨⟨r, rfl⟩, hP⟩
          have HP := Lib.hid hP
          clear hP HQ2
          go_wp2_with fail
          refine bodyPost_end (results_none rfl _ _ _) rfl ?_
          obtain ⟨bv', e1, e2, e3⟩ := HP.out.ex
          have hR : RES = takeP (l.drop (i + 1)) taken heard R1 := by rw [HRES.out, ← HCL.out, HR1.out, HMX.out]; rfl
          rw [hR]
          have hfr1 : ApF BB (Value.slice ta taken.length tc).ownBlock W w8 := ApF.join ((ApF.of_below HB6.out).trans HF7.out) HFR.out (by
            rcases HR7.out with h | ⟨g, h, hg⟩
            · exact .inl h
            · exact .inr ⟨g, h, by omega⟩)
          refine ⟨⟨_, rfl⟩, ⟨bv', e1, e2, ?_⟩, HP.out.tk, hfr1.trans HP.out.fr⟩
          rcases e3 with rfl | ⟨g, e3, e4⟩
          · rcases HF1.out with e5 | ⟨g, e5, e6⟩
            · exact .inl e5
            · exact .inr ⟨g, e5, by have := HF7.out.size; omega⟩
          · exact .inr ⟨g, e3, by have := hfr1.size; omega⟩
theorem take_all (LB BB TB base : Nat) (ob : Option Addr) (cap : Nat) (l : List (Nat × List Bool)) (hl30 : ∀ y ∈ l, y.2.length = 30) (hlen : l.length ≤ 30) (hb : ApB LB BB TB base ob l) : ∀ k i, i + k = l.length → TakeCall LB BB TB base ob cap l i
  | 0, i, h => take_step LB BB TB base ob cap l hl30 hlen hb i (by omega) (fun h2 => by omega)
  | k + 1, i, h => take_step LB BB TB base ob cap l hl30 hlen hb i (by omega) (fun _ => take_all LB BB TB base ob cap l hl30 hlen hb k (i + 1) (by omega))
end Go.Proofs.YtimedmkpenbmkaaGreat
end
section
namespace Go.Proofs.YtimedmkpenbmkaaGreat
open Go.RowKit Go.Shelf
set_option linter.unusedSimpArgs false
set_option linter.unusedVariables false
set_option maxHeartbeats 2000000 in
set_option maxRecDepth 100000 in
theorem apart_any (ob : Option Addr) (cap : Nat) (l : List (Nat × List Bool)) (hl30 : ∀ y ∈ l, y.2.length = 30) (hlen : l.length ≤ 30) (w : World) (hI : LiIn w ob l) :
    Calls Tryz.prog 77 #[.slice ob l.length cap] w fun e w' => ∃ v, e = .returned v ∧ OwnN w' w.heap.size v (apartP l) ∧ Below w.heap.size w w' := by
  obtain ⟨W, hW⟩ : ∃ W : World, W = ((w.alloc (.cells #[.slice ob l.length cap] 111)).alloc (.cells #[.slice none 0 0] 22)).alloc (.cells #[takeF w.heap.size (w.heap.size + 1) (w.heap.size + 2)] 170) := ⟨_, rfl⟩
  have hs : W.heap.size = w.heap.size + 3 := by rw [hW]; simp
  have hB : Below w.heap.size w W := by rw [hW]; exact al (al (al (Below.refl _ _) _) _) _
  have h0 : W.heap[w.heap.size]? = some (.cells #[.slice ob l.length cap] 111 (0, 0)) := by
    rw [hW, Below.heap_alloc _ _ _ (by simp; omega), Below.heap_alloc _ _ _ (by simp)]; exact heap_alloc_last _ _
  have h1 : W.heap[w.heap.size + 1]? = some (.cells #[.slice none 0 0] 22 (0, 0)) := by
    rw [hW, Below.heap_alloc _ _ _ (by simp)]; have := heap_alloc_last (w.alloc (.cells #[.slice ob l.length cap] 111)) (.cells #[.slice none 0 0] 22); simpa using this
  have h2 : W.heap[w.heap.size + 2]? = some (.cells #[takeF w.heap.size (w.heap.size + 1) (w.heap.size + 2)] 170 (0, 0)) := by
    rw [hW]; have := heap_alloc_last ((w.alloc (.cells #[.slice ob l.length cap] 111)).alloc (.cells #[.slice none 0 0] 22)) (.cells #[takeF w.heap.size (w.heap.size + 1) (w.heap.size + 2)] 170); simpa using this
  have hob : ∀ g, ob = some ⟨g, 0, none⟩ → l ≠ [] → g < w.heap.size := fun g e hne => by
    obtain ⟨c, hc⟩ : ∃ c, l[0]? = some c := by cases l with
      | nil => exact absurd rfl hne
      | cons c l => exact ⟨c, rfl⟩
    obtain ⟨g', e1, e2, _⟩ := hI 0 c hc
    rw [e] at e1; injection e1 with e1; injection e1 with e1; omega
  have hA : ApB w.heap.size (w.heap.size + 1) (w.heap.size + 2) (w.heap.size + 3) ob l := ⟨by omega, by omega, by omega, by omega, by omega, fun g e hne => by have := hob g e hne; omega⟩
  have hAI : ApI W w.heap.size (w.heap.size + 1) (w.heap.size + 2) ob cap l (.slice none 0 0) := ⟨h0, h1, h2, hI.below hB⟩
  have hnil : OwnN W (w.heap.size + 3) (.slice none 0 0) [] := World.ownsRow_nil _ _ _ _
  have hq := take_all w.heap.size (w.heap.size + 1) (w.heap.size + 2) (w.heap.size + 3) ob cap l hl30 hlen hA l.length 0 (by omega) W (.slice none 0 0) [] (List.replicate 30 false) (.slice none 0 0) [] hAI (by omega) hnil hnil (.inl rfl) (by simp) (by simp) (by simp)
  rw [show ((List.replicate 30 false).map Value.bool).toArray = #[Value.bool false, Value.bool false, Value.bool false, Value.bool false, Value.bool false, Value.bool false, Value.bool false, Value.bool false, Value.bool false, Value.bool false, Value.bool false, Value.bool false, Value.bool false, Value.bool false, Value.bool false, Value.bool false, Value.bool false, Value.bool false, Value.bool false, Value.bool false, Value.bool false, Value.bool false, Value.bool false, Value.bool false, Value.bool false, Value.bool false, Value.bool false, Value.bool false, Value.bool false, Value.bool false] from rfl] at hq
  have HQ := Lib.hid hq
  have HB := Lib.hid hB
  have HW := Lib.hid hW
  have c2 : W.cell? ⟨w.heap.size + 2, 0, none⟩ = some (takeF w.heap.size (w.heap.size + 1) (w.heap.size + 2)) := by rw [cell_of_row _ _ _ _ _ _ h2]; rfl
  have hWt : ((w.alloc (.cells #[.slice ob l.length cap] 111)).alloc (.cells #[.slice none 0 0] 22)).alloc (.cells #[.func (.func 126) #[] #[.pointer (some ⟨w.heap.size, 0, none⟩), .pointer (some ⟨w.heap.size + 1, 0, none⟩), .pointer (some ⟨w.heap.size + 1 + 1, 0, none⟩)]] 170) = W := by rw [hW]; rfl
  have HWT := Lib.hid hWt
  unfold takeF at c2
  clear hq hB hW h0 h1 h2 hob hA hAI hnil hWt
  go_enter Tryz.func77, Tryz.ntmps77
  go_upto_region 4 with fail
  rw [HWT.out]
  clear HWT
  have hl2 : w.heap.size + 1 + 1 < W.heap.size := by omega
  have c2' : W.cell? ⟨w.heap.size + 1 + 1, 0, none⟩ = some (.func (.func 126) #[] #[.pointer (some ⟨w.heap.size, 0, none⟩), .pointer (some ⟨w.heap.size + 1, 0, none⟩), .pointer (some ⟨w.heap.size + 1 + 1, 0, none⟩)]) := c2
  clear c2
  go_wp2_with fail
  refine HQ.out.mono ?_
  rintro e w8 ⟨⟨r, rfl⟩, hP⟩
  obtain ⟨bv', i1, o1, f1⟩ := hP.ex
  have hfr := hP.fr
  have c1 : w8.cell? ⟨w.heap.size + 1, 0, none⟩ = some bv' := by rw [cell_of_row _ _ _ _ _ _ i1.bb]; rfl
  have hl1 : w.heap.size + 1 < w8.heap.size := (Array.getElem?_eq_some_iff.1 i1.bb).1
  obtain ⟨bb, bc, rfl⟩ := own_slice o1
  have HO := Lib.hid o1
  have HFR := Lib.hid hfr
  clear i1 o1 f1 hP hfr HQ c2'
  go_wp2_with fail
  go_ret
  have hBB : Below w.heap.size w w8 := ⟨HFR.out.os.trans HB.out.os, HFR.out.tape.trans HB.out.tape, HFR.out.output.trans HB.out.output, Nat.le_trans HB.out.size HFR.out.size, fun k hk => (HFR.out.block k (Nat.lt_of_lt_of_le hk HB.out.size) (by omega) (by show some k ≠ none; simp)).trans (HB.out.block k hk)⟩
  exact ⟨_, rfl, own_base HO.out (by omega), hBB⟩
/-- what is left of the region 'apart(listeners(w, tables(w)))' -/
def spAp (t : Hr.Town) (wind voice : Int) (cnt : Nat → Bool) (wk : Value) (B : Nat) : Nat → List Value → Value → World → Prop
  | 0, _, v, _ => v = wk
  | 1, _, v, _ => v = wk
  | 2, _, v, w => ∃ vs, v = .agg vs ∧ TabsTo t wind 30 w vs
  | 3, _, v, w => w.ownsRow B 126 31 v (lis t wind voice cnt).length (lisV (lis t wind voice cnt))
  | 4, _, v, w => OwnN w B v (apartP (lis t wind voice cnt))
  | 5, _, v, w => OwnN w B v (apartP (lis t wind voice cnt))
  | 6, _, v, _ => v = .int .i64 0
  | _, _, _, _ => False
theorem spAp_stable (t : Hr.Town) (wind voice : Int) (cnt : Nat → Bool) (wk : Value) (B : Nat) : ∀ i L v w w', spAp t wind voice cnt wk B i L v w → Rs.Gr w w' → spAp t wind voice cnt wk B i L v w' := by
  intro i L v w w' h hg
  match i with
  | 0 => exact h
  | 1 => exact h
  | 2 => obtain ⟨vs, h1, h2⟩ := h; exact ⟨vs, h1, h2.below hg⟩
  | 3 => exact own_below h hg
  | 4 => exact OwnN.below h hg
  | 5 => exact OwnN.below h hg
  | 6 => exact h
  | _ + 7 => exact h.elim
set_option maxHeartbeats 2000000 in
set_option maxRecDepth 100000 in
theorem Apart_ok (t : Hr.Town) (hok : t.Ok) (wind voice : Int) (hw0 : 0 ≤ wind) (hw4 : wind ≤ 4) (b o cap : Nat) (hv : Value) (nm : List Bool) (hnl : nm.length = 30) (w : World) (hI : Ints w b o t.plots)
    (hOQ : OQ w t.wide wind voice (.slice (some ⟨b, o, none⟩) t.plots.length cap) hv nm) :
    Calls Tryz.prog 21 #[.agg #[.int .i64 t.wide, .slice (some ⟨b, o, none⟩) t.plots.length cap], .agg #[.int .i64 wind, .int .i64 voice], hv] w fun e w' =>
      ∃ v, e = .returned (.tuple #[v, .int .i64 0]) ∧ Below w.heap.size w w' ∧ OwnN w' w.heap.size v (apartP (lis t wind voice (nm.getD · false))) := by
  have HI := Lib.hid hI
  have HOQ := Lib.hid hOQ
  have hbl := hI.1
  clear hI hOQ
  have hB2 : ∀ o1 o2, Below w.heap.size w ((w.alloc o1).alloc o2) := fun o1 o2 => al (al (Below.refl _ _) _) _
  go_enter Tryz.func21, Tryz.ntmps21
  go_wp2_with fail
  refine (HOQ.out _ (hB2 _ _)).mono ?_
  rintro e w1 ⟨r, N, rfl, hD, hr, hN0, hN, hB⟩
  unfold qWork
  have HB := Lib.hid (join (hB2 _ _) hB)
  have HD := Lib.hid hD
  have HN := Lib.hid hN
  have hrl : r < w1.heap.size := dir_lt hD
  have hNl : N < w1.heap.size := (Array.getElem?_eq_some_iff.1 hN).1
  have hz1 : w.heap.size + 1 + 1 ≤ w1.heap.size := by have := hB.size; simp at this; omega
  clear hD hN hB hr
  go_wp2_with fail
  obtain ⟨wk, hwk⟩ : ∃ wk : Value, wk = .agg #[.int .i64 t.wide, .slice (some ⟨b, o, none⟩) t.plots.length cap, .int .i64 wind, .int .i64 voice, .map (some r), .func (.func 125) #[] #[.pointer (some ⟨N, 0, none⟩)]] := ⟨_, rfl⟩
  refine Rs.region_gen 7 [[], [], [1], [0, 1, 2], [0, 1, 2, 3], [0, 1, 2, 3, 4], [0, 1, 2, 3, 4, 5]] [some 20, some 21, some 22, some 23, some 24, some 6, some 7] (spAp t wind voice (nm.getD · false) wk w.heap.size) (by kernel_rfl) (by kernel_rfl) rfl (spAp_stable _ _ _ _ _ _) ?_ ?_
  · refine ⟨fun V w' hG hs => ?_, fun V w' hG hs => ?_, fun V w' hG hs => ?_, fun V w' hG hs => ?_, fun V w' hG hs => ?_, fun V w' hG hs => ?_, fun V w' hG hs => ?_, trivial⟩
    all_goals
      have hb0 := (hG.block w1.heap.size (by simp)).trans (heap_alloc_last _ _)
      obtain ⟨⟨k0, k1, k2, k3, k4, k5⟩, _, kl⟩ := blk_cells6 hb0
      rw [if_pos (by rfl)]
    · refine Rs.GrowL.value (v := wk) (w' := w') ?_ (Rs.Gr.refl _) rfl
      rw [hwk]
      simp [go_sem, Rs.look, k0, k1, k2, k3, k4, k5]
    · refine Rs.GrowL.value (v := wk) (w' := w') ?_ (Rs.Gr.refl _) rfl
      rw [hwk]
      simp [go_sem, Rs.look, k0, k1, k2, k3, k4, k5]
    · have e1 : V 1 = wk := hs 1 (by simp)
      refine Rs.GrowL.call (f := 74) (args := #[wk]) (by simp [go_sem, Rs.look, e1]) ?_
      have hBw := join (al HB.out _) hG
      rw [hwk]
      refine (tables_any t hok wind voice hw0 hw4 b o cap r _ _ _ w' (HI.out.below hBw hbl) ((hG.block r (by simp; omega)).trans (dir_al HD.out hrl _))).mono ?_
      rintro e w2 ⟨vs, rfl, hT, hB2⟩
      exact ⟨_, rfl, hB2, vs, rfl, hT⟩
    · have e0 : V 0 = wk := hs 0 (by simp)
      obtain ⟨vs, e2, hT⟩ : ∃ vs, V 2 = .agg vs ∧ TabsTo t wind 30 w' vs := hs 2 (by simp)
      refine Rs.GrowL.call (f := 73) (args := #[wk, .agg vs]) (by simp [go_sem, Rs.look, e0, e2]) ?_
      have hBw := join (al HB.out _) hG
      rw [hwk]
      have hN' := (hG.block N (by simp; omega)).trans ((Below.heap_alloc _ _ _ hNl).trans HN.out)
      refine (listeners_any t hok wind voice b o cap _ 125 _ (nm.getD · false) vs w' (HI.out.below hBw hbl) hT callF144 (fun p hp => cntQ_call N nm hnl w' hN' p (by have := hok.n30; omega))).mono ?_
      rintro e w2 ⟨v, rfl, hown, hB2⟩
      exact ⟨_, rfl, hB2, own_base hown (by have := hBw.size; omega)⟩
    · have r3 : w'.ownsRow w.heap.size 126 31 (V 3) (lis t wind voice (nm.getD · false)).length (lisV (lis t wind voice (nm.getD · false))) := hs 3 (by simp)
      obtain ⟨ob, cp, e3⟩ := own_slice r3
      rw [e3] at r3
      refine Rs.GrowL.call (f := 77) (args := #[.slice ob (lis t wind voice (nm.getD · false)).length cp]) (by simp [go_sem, Rs.look, e3]) ?_
      have hBw := join (al HB.out _) hG
      refine (apart_any ob cp (lis t wind voice (nm.getD · false)) (lis_row _ _ _ _).1 (Nat.le_trans (lisTo_len t wind voice _ t.len) hok.n30) w' (LiIn.of_own (lis_row _ _ _ _).1 r3)).mono ?_
      rintro e w2 ⟨v, rfl, hown, hB2⟩
      exact ⟨_, rfl, hB2, own_base hown (by have := hBw.size; omega)⟩
    · have r4 : OwnN w' w.heap.size (V 4) (apartP (lis t wind voice (nm.getD · false))) := hs 4 (by simp)
      exact Rs.GrowL.value (v := V 4) (w' := w') (by simp [go_sem, Rs.look]) (Rs.Gr.refl _) r4
    · exact Rs.GrowL.value (v := .int .i64 0) (w' := w') (by simp [go_sem, Rs.look]) (Rs.Gr.refl _) rfl
  · intro V w' hG hs
    have r5 : OwnN w' w.heap.size (V 5) (apartP (lis t wind voice (nm.getD · false))) := hs 5 (by omega)
    have e6 : V 6 = .int .i64 0 := hs 6 (by omega)
    have hBw := join (al HB.out (.cells #[.int .i64 t.wide, .slice (some ⟨b, o, none⟩) t.plots.length cap, .int .i64 wind, .int .i64 voice, .map (some r), .func (.func 125) #[] #[.pointer (some ⟨N, 0, none⟩)]] 117)) hG
    simp only [Rs.canon, Rs.dstOf, List.range_succ, List.range_zero, List.nil_append, List.cons_append, List.foldl_cons, List.foldl_nil, List.drop_succ_cons, List.drop_zero, List.drop_nil, List.getElem?_toArray, List.getElem?_cons_succ, List.getElem?_cons_zero, Option.bind_some, Act.put, List.getD_cons_succ, List.getD_cons_zero, List.setIfInBounds_toArray, List.set_cons_succ, List.set_cons_zero]
    rw [e6]
    generalize V 0 = y0
    generalize V 1 = y1
    generalize V 2 = y2
    generalize V 3 = y3
    generalize V 4 = y4
    generalize V 5 = v at r5 ⊢
    have H5 := Lib.hid r5
    have HBW := Lib.hid hBw
    clear hs e6 r5 hBw hG hwk
    go_wp2_with fail
    go_ret2
    exact ⟨_, rfl, HBW.out, H5.out⟩
end Go.Proofs.YtimedmkpenbmkaaGreat
end
section
namespace Go.Proofs.YtimedmkpenbmkaaGreat
open Go.RowKit Go.Shelf
set_option linter.unusedSimpArgs false
set_option linter.unusedVariables false
/-- what is left of the region 'choose(listeners(w, tables(w)), stands)' -/
def spBe (t : Hr.Town) (wind voice : Int) (cnt : Nat → Bool) (wk : Value) (B : Nat) (st : Nat) (X : List Int) (N : Int) : Nat → List Value → Value → World → Prop
  | 0, _, v, _ => v = wk
  | 1, _, v, _ => v = wk
  | 2, _, v, w => ∃ vs, v = .agg vs ∧ TabsTo t wind 30 w vs
  | 3, _, v, w => w.ownsRow B 126 31 v (lis t wind voice cnt).length (lisV (lis t wind voice cnt))
  | 4, _, v, _ => v = .int .i64 st
  | 5, _, v, w => ∃ u, v = .tuple #[u, .int .i64 N] ∧ w.ownsRow B 3 1 u X.length (X.map (Value.int .i64))
  | 6, _, v, w => ∃ u, v = .tuple #[u, .int .i64 N] ∧ w.ownsRow B 3 1 u X.length (X.map (Value.int .i64))
  | 7, _, v, w => w.ownsRow B 3 1 v X.length (X.map (Value.int .i64))
  | 8, _, v, _ => v = .int .i64 N
  | 9, _, v, w => w.ownsRow B 3 1 v X.length (X.map (Value.int .i64))
  | 10, _, v, _ => v = .int .i64 N
  | _, _, _, _ => False
theorem spBe_stable (t : Hr.Town) (wind voice : Int) (cnt : Nat → Bool) (wk : Value) (B : Nat) (st : Nat) (X : List Int) (N : Int) : ∀ i L v w w', spBe t wind voice cnt wk B st X N i L v w → Rs.Gr w w' → spBe t wind voice cnt wk B st X N i L v w' := by
  intro i L v w w' h hg
  match i with
  | 0 => exact h
  | 1 => exact h
  | 2 => obtain ⟨vs, h1, h2⟩ := h; exact ⟨vs, h1, h2.below hg⟩
  | 3 => exact own_below h hg
  | 4 => exact h
  | 5 => obtain ⟨u, h1, h2⟩ := h; exact ⟨u, h1, own_below h2 hg⟩
  | 6 => obtain ⟨u, h1, h2⟩ := h; exact ⟨u, h1, own_below h2 hg⟩
  | 7 => exact own_below h hg
  | 8 => exact h
  | 9 => exact own_below h hg
  | 10 => exact h
  | _ + 11 => exact h.elim
set_option maxHeartbeats 2000000 in
set_option maxRecDepth 100000 in
theorem Best_ok (t : Hr.Town) (hok : t.Ok) (wind voice : Int) (hw0 : 0 ≤ wind) (hw4 : wind ≤ 4) (b o cap : Nat) (hv : Value) (nm : List Bool) (hnl : nm.length = 30) (st : Nat) (hst : st ≤ 30) (w : World) (hI : Ints w b o t.plots)
    (hOQ : OQ w t.wide wind voice (.slice (some ⟨b, o, none⟩) t.plots.length cap) hv nm) :
    Calls Tryz.prog 61 #[.agg #[.int .i64 t.wide, .slice (some ⟨b, o, none⟩) t.plots.length cap], .agg #[.int .i64 wind, .int .i64 voice], hv, .int .i64 st] w fun e w' =>
      ∃ v, e = .returned (.tuple #[v, .int .i64 (chooseP (lis t wind voice (nm.getD · false)) st).2, .int .i64 0]) ∧ Below w.heap.size w w' ∧ w'.ownsRow w.heap.size 3 1 v (chooseP (lis t wind voice (nm.getD · false)) st).1.length ((chooseP (lis t wind voice (nm.getD · false)) st).1.map (Value.int .i64)) := by
  have hs1 : decide ((st : Int) < 0) = false := by simp
  have hs2 : decide ((st : Int) > 30) = false := by simp; omega
  have HCH := Lib.hid (fun ob cp w' hI => choose_any ob cp (lis t wind voice (nm.getD · false)) (lis_row _ _ _ _).1 (Nat.le_trans (lisTo_len t wind voice _ t.len) hok.n30) st (by omega) w' hI)
  obtain ⟨X, hX⟩ : ∃ X, X = (chooseP (lis t wind voice (nm.getD · false)) st).1 := ⟨_, rfl⟩
  obtain ⟨M, hM⟩ : ∃ M, M = (chooseP (lis t wind voice (nm.getD · false)) st).2 := ⟨_, rfl⟩
  rw [← hX, ← hM] at HCH ⊢
  clear hX hM
  have HI := Lib.hid hI
  have HOQ := Lib.hid hOQ
  have hbl := hI.1
  clear hI hOQ
  have hB2 : ∀ o1 o2, Below w.heap.size w ((w.alloc o1).alloc o2) := fun o1 o2 => al (al (Below.refl _ _) _) _
  go_enter Tryz.func61, Tryz.ntmps61
  go_wp2_with fail
  refine (HOQ.out _ (hB2 _ _)).mono ?_
  rintro e w1 ⟨r, N, rfl, hD, hr, hN0, hN, hB⟩
  unfold qWork
  have HB := Lib.hid (join (hB2 _ _) hB)
  have HD := Lib.hid hD
  have HN := Lib.hid hN
  have hrl : r < w1.heap.size := dir_lt hD
  have hNl : N < w1.heap.size := (Array.getElem?_eq_some_iff.1 hN).1
  have hz1 : w.heap.size + 1 + 1 ≤ w1.heap.size := by have := hB.size; simp at this; omega
  clear hD hN hB hr
  go_wp2_with fail
  obtain ⟨wk, hwk⟩ : ∃ wk : Value, wk = .agg #[.int .i64 t.wide, .slice (some ⟨b, o, none⟩) t.plots.length cap, .int .i64 wind, .int .i64 voice, .map (some r), .func (.func 125) #[] #[.pointer (some ⟨N, 0, none⟩)]] := ⟨_, rfl⟩
  refine Rs.region_gen 11 [[], [], [1], [0, 1, 2], [], [0, 1, 2, 3, 4], [0, 1, 2, 3, 4, 5], [0, 1, 2, 3, 4, 5, 6], [0, 1, 2, 3, 4, 5, 6], [0, 1, 2, 3, 4, 5, 6, 7], [0, 1, 2, 3, 4, 5, 6, 7, 8, 9]] [some 32, some 33, some 34, some 35, some 36, some 37, some 31, some 38, some 39, some 13, some 14] (spBe t wind voice (nm.getD · false) wk w.heap.size st X M) (by kernel_rfl) (by kernel_rfl) rfl (spBe_stable _ _ _ _ _ _ _ _ _) ?_ ?_
  · refine ⟨fun V w' hG hs => ?_, fun V w' hG hs => ?_, fun V w' hG hs => ?_, fun V w' hG hs => ?_, fun V w' hG hs => ?_, fun V w' hG hs => ?_, fun V w' hG hs => ?_, fun V w' hG hs => ?_, fun V w' hG hs => ?_, fun V w' hG hs => ?_, fun V w' hG hs => ?_, trivial⟩
    all_goals
      have hb0 := (hG.block w1.heap.size (by simp)).trans (heap_alloc_last _ _)
      obtain ⟨⟨k0, k1, k2, k3, k4, k5⟩, _, kl⟩ := blk_cells6 hb0
      rw [if_pos (by rfl)]
    · refine Rs.GrowL.value (v := wk) (w' := w') ?_ (Rs.Gr.refl _) rfl
      rw [hwk]
      simp [go_sem, Rs.look, k0, k1, k2, k3, k4, k5]
    · refine Rs.GrowL.value (v := wk) (w' := w') ?_ (Rs.Gr.refl _) rfl
      rw [hwk]
      simp [go_sem, Rs.look, k0, k1, k2, k3, k4, k5]
    · have e1 : V 1 = wk := hs 1 (by simp)
      refine Rs.GrowL.call (f := 74) (args := #[wk]) (by simp [go_sem, Rs.look, e1]) ?_
      have hBw := join (al HB.out _) hG
      rw [hwk]
      refine (tables_any t hok wind voice hw0 hw4 b o cap r _ _ _ w' (HI.out.below hBw hbl) ((hG.block r (by simp; omega)).trans (dir_al HD.out hrl _))).mono ?_
      rintro e w2 ⟨vs, rfl, hT, hB2⟩
      exact ⟨_, rfl, hB2, vs, rfl, hT⟩
    · have e0 : V 0 = wk := hs 0 (by simp)
      obtain ⟨vs, e2, hT⟩ : ∃ vs, V 2 = .agg vs ∧ TabsTo t wind 30 w' vs := hs 2 (by simp)
      refine Rs.GrowL.call (f := 73) (args := #[wk, .agg vs]) (by simp [go_sem, Rs.look, e0, e2]) ?_
      have hBw := join (al HB.out _) hG
      rw [hwk]
      have hN' := (hG.block N (by simp; omega)).trans ((Below.heap_alloc _ _ _ hNl).trans HN.out)
      refine (listeners_any t hok wind voice b o cap _ 125 _ (nm.getD · false) vs w' (HI.out.below hBw hbl) hT callF144 (fun p hp => cntQ_call N nm hnl w' hN' p (by have := hok.n30; omega))).mono ?_
      rintro e w2 ⟨v, rfl, hown, hB2⟩
      exact ⟨_, rfl, hB2, own_base hown (by have := hBw.size; omega)⟩
    · exact Rs.GrowL.value (v := .int .i64 st) (w' := w') (by simp [go_sem, Rs.look]) (Rs.Gr.refl _) rfl
    · have r3 : w'.ownsRow w.heap.size 126 31 (V 3) (lis t wind voice (nm.getD · false)).length (lisV (lis t wind voice (nm.getD · false))) := hs 3 (by simp)
      have e4 : V 4 = .int .i64 st := hs 4 (by simp)
      obtain ⟨ob, cp, e3⟩ := own_slice r3
      rw [e3] at r3
      refine Rs.GrowL.call (f := 71) (args := #[.slice ob (lis t wind voice (nm.getD · false)).length cp, .int .i64 st]) (by simp [go_sem, Rs.look, e3, e4]) ?_
      have hBw := join (al HB.out _) hG
      refine (HCH.out ob cp w' (LiIn.of_own (lis_row _ _ _ _).1 r3)).mono ?_
      rintro e w2 ⟨v, rfl, hown, hB2⟩
      exact ⟨_, rfl, hB2, v, rfl, own_base hown (by have := hBw.size; omega)⟩
    · obtain ⟨u, e5, r5⟩ : ∃ u, V 5 = .tuple #[u, .int .i64 M] ∧ w'.ownsRow w.heap.size 3 1 u X.length (X.map (Value.int .i64)) := hs 5 (by simp)
      exact Rs.GrowL.value (v := .tuple #[u, .int .i64 M]) (w' := w') (by simp [go_sem, Rs.look, e5]) (Rs.Gr.refl _) ⟨u, rfl, r5⟩
    · obtain ⟨u, e6, r6⟩ : ∃ u, V 6 = .tuple #[u, .int .i64 M] ∧ w'.ownsRow w.heap.size 3 1 u X.length (X.map (Value.int .i64)) := hs 6 (by simp)
      exact Rs.GrowL.value (v := u) (w' := w') (by simp [go_sem, Rs.look, e6]) (Rs.Gr.refl _) r6
    · obtain ⟨u, e6, r6⟩ : ∃ u, V 6 = .tuple #[u, .int .i64 M] ∧ w'.ownsRow w.heap.size 3 1 u X.length (X.map (Value.int .i64)) := hs 6 (by simp)
      exact Rs.GrowL.value (v := .int .i64 M) (w' := w') (by simp [go_sem, Rs.look, e6]) (Rs.Gr.refl _) rfl
    · have r7 : w'.ownsRow w.heap.size 3 1 (V 7) X.length (X.map (Value.int .i64)) := hs 7 (by simp)
      exact Rs.GrowL.value (v := V 7) (w' := w') (by simp [go_sem, Rs.look]) (Rs.Gr.refl _) r7
    · have e8 : V 8 = .int .i64 M := hs 8 (by simp)
      exact Rs.GrowL.value (v := .int .i64 M) (w' := w') (by simp [go_sem, Rs.look, e8]) (Rs.Gr.refl _) rfl
  · intro V w' hG hs
    have r9 : w'.ownsRow w.heap.size 3 1 (V 9) X.length (X.map (Value.int .i64)) := hs 9 (by omega)
    have e10 : V 10 = .int .i64 M := hs 10 (by omega)
    have hBw := join (al HB.out (.cells #[.int .i64 t.wide, .slice (some ⟨b, o, none⟩) t.plots.length cap, .int .i64 wind, .int .i64 voice, .map (some r), .func (.func 125) #[] #[.pointer (some ⟨N, 0, none⟩)]] 117)) hG
    simp only [Rs.canon, Rs.dstOf, List.range_succ, List.range_zero, List.nil_append, List.cons_append, List.foldl_cons, List.foldl_nil, List.drop_succ_cons, List.drop_zero, List.drop_nil, List.getElem?_toArray, List.getElem?_cons_succ, List.getElem?_cons_zero, Option.bind_some, Act.put, List.getD_cons_succ, List.getD_cons_zero, List.setIfInBounds_toArray, List.set_cons_succ, List.set_cons_zero]
    rw [e10]
    generalize V 0 = y0
    generalize V 1 = y1
    generalize V 2 = y2
    generalize V 3 = y3
    generalize V 4 = y4
    generalize V 5 = y5
    generalize V 6 = y6
    generalize V 7 = y7
    generalize V 8 = y8
    generalize V 9 = v at r9 ⊢
    have H5 := Lib.hid r9
    have HBW := Lib.hid hBw
    clear hs e10 r9 hBw hG hwk
    go_wp2_with fail
    go_ret3
    exact ⟨_, rfl, HBW.out, H5.out⟩
end Go.Proofs.YtimedmkpenbmkaaGreat
end
section
namespace Go.Proofs.YtimedmkpenbmkaaGreat
open Go.RowKit Go.Shelf
set_option linter.unusedSimpArgs false
set_option linter.unusedVariables false
def TabQ (w : World) (b : Nat) (xs : List Int) : Prop := ∃ cur : Array Value, w.heap[b]? = some (.cells cur 3 (0, 0)) ∧ cur.toList.take xs.length = xs.map (Value.int .i64)
theorem TabQ.lt {w : World} {b : Nat} {xs : List Int} (h : TabQ w b xs) : b < w.heap.size := by obtain ⟨cur, h, _⟩ := h; exact (Array.getElem?_eq_some_iff.1 h).1
theorem TabQ.cell {w : World} {b : Nat} {xs : List Int} (h : TabQ w b xs) {i : Nat} (hi : i < xs.length) : w.cell? ⟨b, i, none⟩ = some (.int .i64 (xs.getD i 0)) := by
  obtain ⟨cur, h, ht⟩ := h
  rw [cell_of_row _ _ _ _ _ _ h]
  have h2 : (cur.toList.take xs.length)[i]? = (xs.map (Value.int .i64))[i]? := by rw [ht]
  rw [List.getElem?_take, if_pos hi, List.getElem?_map, List.getElem?_eq_getElem hi] at h2
  rw [List.getD_eq_getElem?_getD, List.getElem?_eq_getElem hi]
  simpa using h2
theorem TabQ.of_own {w : World} {base : Nat} {e : Option Addr} {cap : Nat} {xs : List Int} (h : w.ownsRow base 3 1 (.slice e xs.length cap) xs.length (xs.map (Value.int .i64))) (hne : xs ≠ []) : ∃ g, e = some ⟨g, 0, none⟩ ∧ base ≤ g ∧ xs.length ≤ cap ∧ TabQ w g xs := by
  rcases h.2 with ⟨h1, h0⟩ | ⟨g, cap', cur, h1, hb, hg, hn, hm, hs, ht⟩
  · exact absurd (List.length_eq_zero_iff.1 h0) hne
  · injection h1 with e1 e2 e3
    subst e1 e3
    exact ⟨g, rfl, hb, hn, cur, hg, by simpa using ht⟩
end Go.Proofs.YtimedmkpenbmkaaGreat
end
section
namespace Go.Proofs.YtimedmkpenbmkaaGreat
open Go.RowKit Go.Shelf
set_option linter.unusedSimpArgs false
set_option linter.unusedVariables false
set_option maxHeartbeats 1000000 in
set_option maxRecDepth 100000 in
theorem indexFuncE (F : FuncId) (E : Value) (a : Option Addr) (cap : Nat) (w : World) :
    Calls Tryz.prog 85 #[.slice a 0 cap, .func (.func F) #[] #[E]] w fun e w' => e = .returned (.int .i64 (-1)) ∧ Below w.heap.size w w' := by
  go_enter Tryz.func85, Tryz.ntmps85
  go_wp2_with fail
  go_loopw [8] (fun i wr => i = .int .i64 0 ∧ Below w.heap.size w wr) (fun i _ => 0)
  case atStart => exact ⟨rfl, Below.refl _ _⟩
  case round =>
    obtain ⟨rfl, hB⟩ := hrel
    go_wp2_with fail
    go_ret
    exact ⟨rfl, hB⟩
theorem indexFuncR (F : FuncId) (hF : Entered F) (E : Value) (p : Int → Bool) (v : Value) (xs : List Int) (hl : xs.length ≤ 1000000) (w : World) (hR : RdI w v xs) (hp : ∀ W, Below w.heap.size w W → AskI F E p W) :
    Calls Tryz.prog 85 #[v, .func (.func F) #[] #[E]] w fun e w' => ∃ z : Int, e = .returned (.int .i64 z) ∧ idxOk p xs z ∧ Below w.heap.size w w' := by
  obtain ⟨_, a, cap, rfl, hI⟩ := hR
  by_cases h0 : xs = []
  · subst h0
    refine (indexFuncE F E a cap w).mono ?_
    rintro e w' ⟨rfl, hB⟩
    exact ⟨-1, rfl, .inl ⟨rfl, fun i hi => absurd hi (Nat.not_lt_zero _)⟩, hB⟩
  · obtain ⟨b, o, rfl, hI2⟩ := hI h0
    exact indexFuncI F hF E p b o xs.length cap xs rfl hl w hI2 hp
theorem idx_any {p : Int → Bool} {xs : List Int} {z : Int} (h : idxOk p xs z) : decide (z ≥ 0) = xs.any p := by
  rcases h with ⟨rfl, h⟩ | ⟨k, rfl, hk, h1, _⟩
  · have : xs.any p = false := by
      rw [List.any_eq_false]
      intro x hx
      obtain ⟨i, hi, rfl⟩ := List.getElem_of_mem hx
      have := h i hi
      rw [List.getD_eq_getElem?_getD, List.getElem?_eq_getElem hi] at this
      simpa using this
    rw [this]; simp
  · have : xs.any p = true := by
      rw [List.any_eq_true]
      refine ⟨xs.getD k 0, ?_, h1⟩
      rw [List.getD_eq_getElem?_getD, List.getElem?_eq_getElem hk]
      exact List.getElem_mem hk
    rw [this]; simp
set_option maxHeartbeats 1000000 in
theorem containsFuncR (F : FuncId) (hF : Entered F) (E : Value) (p : Int → Bool) (v : Value) (xs : List Int) (hl : xs.length ≤ 1000000) (w : World) (hR : RdI w v xs) (hp : ∀ W, Below w.heap.size w W → AskI F E p W) :
    Calls Tryz.prog 27 #[v, .func (.func F) #[] #[E]] w fun e w' => e = .returned (.bool (xs.any p)) ∧ Below w.heap.size w w' := by
  have HX := Lib.hid (indexFuncR F hF E p v xs hl w hR hp)
  clear hR hp
  go_enter Tryz.func27, Tryz.ntmps27
  go_wp2_with fail
  refine HX.out.mono ?_
  rintro e w1 ⟨z, rfl, hz, hB⟩
  have HZ := Lib.hid (idx_any hz)
  have HB := Lib.hid hB
  clear hz hB HX
  go_wp2
  go_ret
  exact ⟨by show Ending.returned (.bool (decide (z ≥ 0))) = _; rw [HZ.out], HB.out⟩
end Go.Proofs.YtimedmkpenbmkaaGreat
end
section
namespace Go.Proofs.YtimedmkpenbmkaaGreat
open Go.RowKit Go.Shelf
set_option linter.unusedSimpArgs false
set_option linter.unusedVariables false
theorem kind_count : ∀ (xs : List Int), (kindIdx xs 1).length = cnt1 xs := by
  intro xs
  have h : ∀ k, k ≤ xs.length → (kindTo xs 1 k).length = cnt1 (xs.take k) := by
    intro k
    induction k with
    | zero => intro _; rfl
    | succ k ih =>
      intro hk
      have e1 : xs.take (k + 1) = xs.take k ++ [xs[k]'(by omega)] := List.take_succ_eq_append_getElem (by omega)
      have e2 : xs.getD k 0 = xs[k]'(by omega) := by rw [List.getD_eq_getElem?_getD, List.getElem?_eq_getElem (by omega)]; rfl
      have ih := ih (by omega)
      unfold cnt1 at ih ⊢
      rw [e1, List.countP_append]
      by_cases e : (xs.getD k 0 == 1) = true
      · rw [kindTo_yes e, List.length_append, ih, List.countP_cons_of_pos (by rw [← e2]; exact e)]; rfl
      · rw [kindTo_no (by simpa using e), ih, List.countP_cons_of_neg (by rw [← e2]; exact e)]; rfl
  have := h xs.length (Nat.le_refl _)
  rwa [List.take_length] at this
theorem houses_ten {t : Hr.Town} (hc : checkErr t.wide t.plots = 0) : (kindIdx t.plots 1).length ≤ 10 := by
  rw [kind_count]
  unfold checkErr at hc
  by_cases h1 : ((t.wide : Int) < 1 ∨ 6 < (t.wide : Int) ∨ t.plots.length < 1 ∨ 30 < t.plots.length ∨ (t.plots.length : Int) % (t.wide : Int) ≠ 0)
  · rw [if_pos h1] at hc; cases hc
  · rw [if_neg h1] at hc
    by_cases h2 : t.plots.any badPlot = true
    · rw [if_pos h2] at hc; cases hc
    · rw [if_neg h2] at hc
      by_cases h3 : 10 < cnt1 t.plots
      · rw [if_pos h3] at hc; cases hc
      · omega
theorem kind_nodup (xs : List Int) (k : Int) : (kindIdx xs k).Nodup := by
  unfold kindIdx kindTo List.Nodup
  rw [List.pairwise_map]
  exact (List.Pairwise.filter _ List.nodup_range).imp fun h => by omega
/-- houses of a town, each at most once -/
structure Named (t : Hr.Town) (hs : List Int) : Prop where
  ok : t.Ok
  chk : checkErr t.wide t.plots = 0
  all : ∀ h ∈ hs, h ∈ kindIdx t.plots 1
  nd : hs.Nodup
theorem Named.len {t : Hr.Town} {hs : List Int} (h : Named t hs) : hs.length ≤ 10 := by
  have le : ∀ {A B : List Int}, A.Nodup → (∀ a ∈ A, a ∈ B) → A.length ≤ B.length := by
    intro A
    induction A with
    | nil => intro B _ _; simp
    | cons a A ih =>
      intro B hn hs
      rw [List.nodup_cons] at hn
      have h1 := ih (B := B.erase a) hn.2 fun x hx => by
        have hne : x ≠ a := fun e => hn.1 (by rw [← e]; exact hx)
        exact (List.mem_erase_of_ne hne).2 (hs x (by simp [hx]))
      have h2 := hs a (by simp)
      rw [List.length_erase_of_mem h2] at h1
      have : 0 < B.length := List.length_pos_of_mem h2
      simp; omega
  exact Nat.le_trans (le h.nd h.all) (houses_ten h.chk)
theorem Named.lis {t : Hr.Town} {hs : List Int} (h : Named t hs) (wind voice : Int) : (lis t wind voice (inL hs)).length ≤ 10 := by
  rw [lis_count h.all h.nd]; exact h.len
def qN (t : Hr.Town) (hs : List Int) : List Bool := (qAll t.plots (List.replicate 30 false) hs).2
theorem named_OQ {t : Hr.Town} {hs : List Int} (h : Named t hs) (wind voice : Int) (ha : airErr wind voice = 0) (b o cap : Nat) (a : Option Addr) (hcap : Nat) (w : World) (hP : RdI w (.slice (some ⟨b, o, none⟩) t.plots.length cap) t.plots)
    (hR : RdI w (.slice a hs.length hcap) hs) :
    Ints w b o t.plots ∧ OQ w t.wide wind voice (.slice (some ⟨b, o, none⟩) t.plots.length cap) (.slice a hs.length hcap) (qN t hs) := by
  have hne : t.plots ≠ [] := by intro e; have := (check_len h.chk).2; rw [e] at this; simp at this
  obtain ⟨b', o', e', -, hI⟩ := rd_ints hP hne
  cases e'
  have hn30 : t.plots.length ≤ 30 := h.ok.n30
  have := h.len
  exact ⟨hI, oq_of t h.chk wind voice ha b o cap a hcap hs (by omega) w (rd_plots hP (by omega)) hI hR (lis_named h.ok wind voice h.all h.nd).1⟩
def natI (l : List Nat) : List Int := l.map fun (x : Nat) => (x : Int)
theorem natI_len (l : List Nat) : (natI l).length = l.length := by simp [natI]
theorem OwnN.rd {W : World} {base : Nat} {v : Value} {l : List Nat} (h : OwnN W base v l) : RdI W v (natI l) :=
  RdI.own (by simp [natI]) (by simp [natI]) h
theorem mem_deafOf {t : Hr.Town} {wind voice x : Int} : x ∈ deafOf t wind voice ↔ ∃ y ∈ lis t wind voice fun _ => true, deafB y.2 = true ∧ x = (y.1 : Int) := by
  unfold deafOf deafTo
  rw [List.take_length, List.mem_map]
  constructor
  · rintro ⟨y, hy, rfl⟩
    rw [List.mem_filter] at hy
    exact ⟨y, hy.1, hy.2, rfl⟩
  · rintro ⟨y, hy, hd, rfl⟩
    exact ⟨y, by rw [List.mem_filter]; exact ⟨hy, hd⟩, rfl⟩
theorem any_no {A B : List Int} (h : ∀ s ∈ A, s ∈ B) : A.any (fun s => !B.contains s) = false := by
  rw [List.any_eq_false]
  intro s hs
  simp [h s hs]
end Go.Proofs.YtimedmkpenbmkaaGreat
end
