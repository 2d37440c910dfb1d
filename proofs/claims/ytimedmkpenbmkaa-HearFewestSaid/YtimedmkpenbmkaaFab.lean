/- Contracts and mathematics, part 2. -/
import Derived.Test.YtimedmkpenbmkaaFaa
import Derived.Maps.AppendAt
section
namespace Go.Proofs.Ytimedmkpenbmkaa
open Go.RowKit Go.Shelf
set_option linter.unusedSimpArgs false
set_option linter.unusedVariables false
def takeP : List (Nat × List Bool) → List Nat → List Bool → List Nat → List Nat
  | [], taken, _, best => if taken.length ≤ best.length then best else taken
  | x :: r, taken, heard, best =>
    if taken.length + (r.length + 1) ≤ best.length then best
    else takeP r taken heard (if clashTo heard x.2 30 then best else takeP r (taken ++ [x.1]) (mixTo heard x.2 30) best)
def apartP (l : List (Nat × List Bool)) : List Nat := takeP l [] (List.replicate 30 false) []
def Sep : List Bool → List (Nat × List Bool) → Prop
  | _, [] => True
  | heard, x :: E => clashTo heard x.2 30 = false ∧ Sep (mixTo heard x.2 30) E
def fsts (E : List (Nat × List Bool)) : List Nat := E.map (·.1)
theorem sub_cons {α : Type} {E r : List α} {x : α} (h : E.Sublist (x :: r)) : E.Sublist r ∨ ∃ E', E = x :: E' ∧ E'.Sublist r := by
  cases h with
  | cons _ h => exact .inl h
  | cons_cons _ h => exact .inr ⟨_, rfl, h⟩
structure TakeS (r : List (Nat × List Bool)) (taken : List Nat) (heard : List Bool) (best res : List Nat) : Prop where
  is : res = best ∨ (best.length < res.length ∧ ∃ E, E.Sublist r ∧ Sep heard E ∧ res = taken ++ fsts E)
  most : ∀ E : List (Nat × List Bool), E.Sublist r → Sep heard E → taken.length + E.length ≤ res.length
  first : best.length < res.length → ∀ E : List (Nat × List Bool), E.Sublist r → Sep heard E → taken.length + E.length = res.length → res = taken ++ fsts E ∨ Bef res (taken ++ fsts E)
theorem TakeS.ge {r : List (Nat × List Bool)} {taken : List Nat} {heard : List Bool} {best res : List Nat} (h : TakeS r taken heard best res) : best.length ≤ res.length := by
  rcases h.is with h | h
  · rw [h]; exact Nat.le_refl _
  · omega
theorem take_spec : ∀ (r : List (Nat × List Bool)), (fsts r).Pairwise (· < ·) → ∀ (taken : List Nat) (heard : List Bool) (best : List Nat), TakeS r taken heard best (takeP r taken heard best)
  | [], _, taken, heard, best => by
    have hE : ∀ E : List (Nat × List Bool), E.Sublist [] → E = [] := fun E h => List.sublist_nil.1 h
    unfold takeP
    split
    · rename_i h
      exact ⟨.inl rfl, fun E hs _ => by rw [hE E hs]; simpa using h, fun h2 => absurd h2 (by omega)⟩
    · rename_i h
      refine ⟨.inr ⟨by omega, [], List.Sublist.refl _, trivial, by simp [fsts]⟩, fun E hs _ => by rw [hE E hs]; simp, fun _ E hs _ _ => ?_⟩
      rw [hE E hs]; left; simp [fsts]
  | x :: r, hs, taken, heard, best => by
    unfold fsts at hs
    rw [List.map_cons, List.pairwise_cons] at hs
    unfold takeP
    split
    · rename_i h
      refine ⟨.inl rfl, fun E hE _ => ?_, fun h2 => absurd h2 (by omega)⟩
      have := hE.length_le
      simp at this; omega
    · rename_i h
      clear h
      obtain ⟨b1, hb1⟩ : ∃ b1, b1 = if clashTo heard x.2 30 then best else takeP r (taken ++ [x.1]) (mixTo heard x.2 30) best := ⟨_, rfl⟩
      rw [← hb1]
      have ih2 := take_spec r hs.2 taken heard b1
      have hge2 := ih2.ge
      have h1 : clashTo heard x.2 30 = true ∧ b1 = best ∨ clashTo heard x.2 30 = false ∧ TakeS r (taken ++ [x.1]) (mixTo heard x.2 30) best b1 := by
        cases hc : clashTo heard x.2 30
        · right; rw [hc] at hb1; refine ⟨rfl, ?_⟩; rw [hb1]; exact take_spec r hs.2 _ _ _
        · left; rw [hc] at hb1; exact ⟨rfl, hb1⟩
      obtain ⟨res, hres⟩ : ∃ res, res = takeP r taken heard b1 := ⟨_, rfl⟩
      rw [← hres] at ih2 hge2 ⊢
      clear hres hb1
      have hge1 : best.length ≤ b1.length := by
        rcases h1 with ⟨_, h⟩ | ⟨_, h⟩
        · rw [h]; exact Nat.le_refl _
        · exact h.ge
      refine ⟨?_, fun E hE hS => ?_, fun hlt E hE hS hl => ?_⟩
      · rcases ih2.is with h | ⟨h, E, h2, h3, h4⟩
        · rcases h1 with ⟨_, h5⟩ | ⟨hc, h5⟩
          · left; rw [h, h5]
          · rcases h5.is with h6 | ⟨h6, E, h7, h8, h9⟩
            · left; rw [h, h6]
            · right
              refine ⟨by rw [h]; exact h6, x :: E, h7.cons_cons _, ⟨hc, h8⟩, ?_⟩
              rw [h, h9]; simp [fsts]
        · right
          exact ⟨by omega, E, h2.cons _, h3, h4⟩
      · rcases sub_cons hE with hE | ⟨E', rfl, hE'⟩
        · exact ih2.most E hE hS
        · rcases h1 with ⟨hc, _⟩ | ⟨hc, h5⟩
          · exact absurd hS.1 (by rw [hc]; simp)
          · have := h5.most E' hE' hS.2
            simp at this ⊢; omega
      · rcases sub_cons hE with hE | ⟨E', rfl, hE'⟩
        · rcases ih2.is with h | ⟨h, _⟩
          · rcases h1 with ⟨_, h5⟩ | ⟨hc, h5⟩
            · rw [h, h5] at hlt; omega
            · rcases h5.is with h6 | ⟨h6, E2, h7, h8, h9⟩
              · rw [h, h6] at hlt; omega
              · right
                rw [h, h9]
                match E, hE, hl with
                | [], _, hl => rw [h, h9] at hl; simp at hl
                | y :: E, hE, hl =>
                  have hy : y ∈ r := hE.subset (by simp)
                  refine ⟨taken, x.1, y.1, fsts E2, fsts E, by simp, by simp [fsts], hs.1 y.1 (List.mem_map.2 ⟨y, hy, rfl⟩)⟩
          · exact ih2.first h E hE hS hl
        · rcases h1 with ⟨hc, _⟩ | ⟨hc, h5⟩
          · exact absurd hS.1 (by rw [hc]; simp)
          · have hm := h5.most E' hE' hS.2
            have hl' : (taken ++ [x.1]).length + E'.length = b1.length := by simp at hl hm ⊢; omega
            have he : res = b1 := by
              rcases ih2.is with h | ⟨h, _⟩
              · exact h
              · simp at hl hl'; omega
            rw [he]
            have := h5.first (by rw [← he]; exact hlt) E' hE' hS.2 hl'
            simpa [fsts] using this
theorem clash_iff (us es : List Bool) (k : Nat) : clashTo us es k = true ↔ ∃ s, s < k ∧ us.getD s false = true ∧ es.getD s false = true := by
  unfold clashTo
  rw [List.any_eq_true]
  constructor
  · rintro ⟨s, h1, h2⟩; rw [Bool.and_eq_true] at h2; exact ⟨s, List.mem_range.1 h1, h2.1, h2.2⟩
  · rintro ⟨s, h1, h2, h3⟩; exact ⟨s, List.mem_range.2 h1, by rw [h2, h3]; rfl⟩
theorem clash_no {us es : List Bool} {k : Nat} : clashTo us es k = false ↔ ∀ s, s < k → us.getD s false = true → es.getD s false = false := by
  rw [← Bool.not_eq_true, clash_iff]
  constructor
  · intro h s h1 h2
    cases h3 : es.getD s false
    · rfl
    · exact absurd ⟨s, h1, h2, h3⟩ h
  · rintro h ⟨s, h1, h2, h3⟩
    rw [h s h1 h2] at h3; cases h3
theorem clash_mix {us es xs : List Bool} : clashTo (mixTo us es 30) xs 30 = false ↔ clashTo us xs 30 = false ∧ clashTo es xs 30 = false := by
  rw [clash_no, clash_no, clash_no]
  constructor
  · intro h
    refine ⟨fun s h1 h2 => h s h1 ?_, fun s h1 h2 => h s h1 ?_⟩
    · rw [mix_get us es 30 h1, h2]; simp
    · rw [mix_get us es 30 h1, h2]; simp [h1]
  · rintro ⟨h1, h2⟩ s hs h3
    rw [mix_get us es 30 hs, Bool.or_eq_true, Bool.and_eq_true] at h3
    rcases h3 with h3 | h3
    · exact h1 s hs h3
    · exact h2 s hs h3.2
def Apt (E : List (Nat × List Bool)) : Prop := E.Pairwise fun x y => clashTo x.2 y.2 30 = false
theorem sep_iff : ∀ (E : List (Nat × List Bool)) (heard : List Bool), Sep heard E ↔ (∀ x ∈ E, clashTo heard x.2 30 = false) ∧ Apt E
  | [], _ => by simp [Sep, Apt]
  | x :: E, heard => by
    unfold Sep
    rw [sep_iff E (mixTo heard x.2 30)]
    unfold Apt
    rw [List.pairwise_cons]
    constructor
    · rintro ⟨a, b, c⟩
      refine ⟨fun y hy => ?_, fun y hy => (clash_mix.1 (b y hy)).2, c⟩
      rcases List.mem_cons.1 hy with rfl | hy
      · exact a
      · exact (clash_mix.1 (b y hy)).1
    · rintro ⟨a, b, c⟩
      exact ⟨a x (by simp), fun y hy => clash_mix.2 ⟨a y (by simp [hy]), b y hy⟩, c⟩
theorem sep_none (E : List (Nat × List Bool)) : Sep (List.replicate 30 false) E ↔ Apt E := by
  rw [sep_iff]
  refine ⟨fun h => h.2, fun h => ⟨fun x _ => ?_, h⟩⟩
  rw [clash_no]
  intro s hs h2
  rw [List.getD_eq_getElem?_getD, List.getElem?_replicate, if_pos hs] at h2; cases h2
/-- as many houses as can be no two of which hear the same stand, and of several such lists the first one -/
structure Aparts (l E : List (Nat × List Bool)) : Prop where
  sub : E.Sublist l
  apt : Apt E
  most : ∀ F : List (Nat × List Bool), F.Sublist l → Apt F → F.length ≤ E.length
  first : ∀ F : List (Nat × List Bool), F.Sublist l → Apt F → F.length = E.length → fsts E = fsts F ∨ Bef (fsts E) (fsts F)
theorem aparts (l : List (Nat × List Bool)) (hs : (fsts l).Pairwise (· < ·)) : ∃ E, apartP l = fsts E ∧ Aparts l E := by
  have h := take_spec l hs [] (List.replicate 30 false) []
  have hm : ∀ F : List (Nat × List Bool), F.Sublist l → Apt F → F.length ≤ (apartP l).length := fun F hF hA => by
    have := h.most F hF ((sep_none F).2 hA)
    rw [List.length_nil, Nat.zero_add] at this
    exact this
  rcases h.is with h1 | ⟨h1, E, h2, h3, h4⟩
  · have e : apartP l = [] := h1
    refine ⟨[], by rw [e]; rfl, List.nil_sublist _, List.Pairwise.nil, fun F hF hA => by have := hm F hF hA; rw [e] at this; exact this, fun F hF hA hl => ?_⟩
    left
    have : F = [] := List.length_eq_zero_iff.1 hl
    rw [this]
  · have e : apartP l = fsts E := by rw [List.nil_append] at h4; exact h4
    have hl : (apartP l).length = E.length := by rw [e]; simp [fsts]
    refine ⟨E, e, h2, (sep_none E).1 h3, fun F hF hA => by have := hm F hF hA; omega, fun F hF hA hl2 => ?_⟩
    have := h.first h1 F hF ((sep_none F).2 hA) (by show 0 + F.length = (apartP l).length; rw [hl, hl2]; omega)
    rw [← e]
    rw [List.nil_append] at this
    exact this
theorem take_len : ∀ (r : List (Nat × List Bool)) (taken : List Nat) (heard : List Bool) (best : List Nat), (takeP r taken heard best).length ≤ max best.length (taken.length + r.length)
  | [], taken, heard, best => by unfold takeP; split <;> simp <;> omega
  | x :: r, taken, heard, best => by
    unfold takeP
    split
    · omega
    · have h2 := take_len r taken heard (if clashTo heard x.2 30 then best else takeP r (taken ++ [x.1]) (mixTo heard x.2 30) best)
      have h1 := take_len r (taken ++ [x.1]) (mixTo heard x.2 30) best
      rw [List.length_append, List.length_singleton] at h1
      rw [List.length_cons]
      split at h2
      · rename_i hc; rw [if_pos hc]; omega
      · rename_i hc; rw [if_neg hc]; omega
end Go.Proofs.Ytimedmkpenbmkaa
end
section
namespace Go.Proofs.Ytimedmkpenbmkaa
open Go.RowKit Go.Shelf
set_option linter.unusedSimpArgs false
set_option linter.unusedVariables false
def inL (hs : List Int) (p : Nat) : Bool := decide ((p : Int) ∈ hs)
theorem qAll_named (xs : List Int) (h30 : xs.length ≤ 30) : ∀ (hs : List Int) (nm : List Bool), nm.length = 30 → (∀ h ∈ hs, ∃ p : Nat, h = p ∧ p < xs.length ∧ xs.getD p 0 = 1 ∧ nm.getD p false = false) → hs.Nodup →
    (qAll xs nm hs).1 = 0 ∧ (qAll xs nm hs).2.length = 30 ∧ ∀ p, p < 30 → (qAll xs nm hs).2.getD p false = (nm.getD p false || inL hs p)
  | [], nm, hl, _, _ => ⟨rfl, hl, fun p hp => by
    show nm.getD p false = _
    simp [inL]⟩
  | h :: r, nm, hl, hh, hn => by
    rw [List.nodup_cons] at hn
    obtain ⟨p, rfl, hp, h1, h0⟩ := hh h (by simp)
    have hq : qStep xs nm (p : Int) = (0, nm.set p true) := by
      unfold qStep
      have hpe : plotErr xs (p : Int) 1 = 0 := by unfold plotErr; rw [if_neg (by omega), Int.toNat_natCast, if_pos h1]
      rw [if_neg (by rw [hpe]; simp), Int.toNat_natCast, h0]
      simp
    have e1 : qAll xs nm ((p : Int) :: r) = qAll xs (nm.set p true) r := by
      show (if (qStep xs nm (p : Int)).1 ≠ 0 then qStep xs nm (p : Int) else qAll xs (qStep xs nm (p : Int)).2 r) = _
      rw [hq]; rfl
    have hset : ∀ q, q < 30 → (nm.set p true).getD q false = (nm.getD q false || decide (p = q)) := fun q hq2 => by
      rw [List.getD_eq_getElem?_getD, List.getElem?_set]
      by_cases e : p = q
      · subst e; rw [if_pos rfl, if_pos (by omega)]; simp
      · rw [if_neg e, ← List.getD_eq_getElem?_getD]; simp [e]
    obtain ⟨a, b, c⟩ := qAll_named xs h30 r (nm.set p true) (by simp [hl]) (fun k hk => by
      obtain ⟨q, rfl, hq1, hq2, hq3⟩ := hh k (by simp [hk])
      refine ⟨q, rfl, hq1, hq2, ?_⟩
      rw [hset q (by omega), hq3]
      have : p ≠ q := fun e => hn.1 (by rw [e]; exact hk)
      simp [this]) hn.2
    rw [e1]
    refine ⟨a, b, fun q hq2 => ?_⟩
    rw [c q hq2, hset q hq2]
    unfold inL
    by_cases e : p = q
    · subst e; simp
    · have e2 : ¬ ((q : Int) = (p : Int)) := by omega
      simp [e, e2]
theorem lis_named {t : Hr.Town} (ok : t.Ok) (wind voice : Int) {hs : List Int} (hv : ∀ h ∈ hs, h ∈ kindIdx t.plots 1) (hn : hs.Nodup) :
    (qAll t.plots (List.replicate 30 false) hs).1 = 0 ∧ (qAll t.plots (List.replicate 30 false) hs).2.length = 30 ∧ lis t wind voice ((qAll t.plots (List.replicate 30 false) hs).2.getD · false) = lis t wind voice (inL hs) := by
  have hp30 : t.plots.length ≤ 30 := ok.n30
  obtain ⟨a, b, c⟩ := qAll_named t.plots hp30 hs (List.replicate 30 false) (by simp) (fun h hh => by
    obtain ⟨p, e, h1, h2⟩ := mem_kindIdx.1 (hv h hh)
    refine ⟨p, e, h1, h2, ?_⟩
    rw [List.getD_eq_getElem?_getD, List.getElem?_replicate, if_pos (by omega)]; rfl) hn
  refine ⟨a, b, ?_⟩
  unfold lis lisTo
  congr 1
  apply List.filter_congr
  intro p hp
  have hp := List.mem_range.1 hp
  have : t.len ≤ 30 := ok.n30
  show (t.at p == 1 && (qAll t.plots (List.replicate 30 false) hs).2.getD p false) = (t.at p == 1 && inL hs p)
  rw [c p (by omega), List.getD_eq_getElem?_getD, List.getElem?_replicate, if_pos (by omega)]
  simp
theorem mem_lisN {t : Hr.Town} {wind voice : Int} {hs : List Int} {x : Nat × List Bool} : x ∈ lis t wind voice (inL hs) ↔ x.1 < t.len ∧ t.at x.1 = 1 ∧ (x.1 : Int) ∈ hs ∧ x.2 = ears t wind voice x.1 := by
  unfold lis lisTo
  rw [List.mem_map]
  constructor
  · rintro ⟨q, hq, rfl⟩
    rw [List.mem_filter, List.mem_range, Bool.and_eq_true, beq_iff_eq] at hq
    exact ⟨hq.1, hq.2.1, by simpa [inL] using hq.2.2, rfl⟩
  · rintro ⟨a, b, c, d⟩
    exact ⟨x.1, by rw [List.mem_filter, List.mem_range, Bool.and_eq_true, beq_iff_eq]; exact ⟨a, b, by simpa [inL] using c⟩, by rw [← d]⟩
theorem lis_fsts (t : Hr.Town) (wind voice : Int) (cnt : Nat → Bool) : fsts (lis t wind voice cnt) = (List.range t.len).filter fun p => t.at p == 1 && cnt p := by
  unfold fsts lis lisTo
  rw [List.map_map]
  have : ((fun x : Nat × List Bool => x.1) ∘ fun p => (p, ears t wind voice p)) = id := rfl
  rw [this, List.map_id]
theorem lis_sorted (t : Hr.Town) (wind voice : Int) (cnt : Nat → Bool) : (fsts (lis t wind voice cnt)).Pairwise (· < ·) := by
  rw [lis_fsts]; exact List.Pairwise.filter _ List.pairwise_lt_range
theorem lis_count {t : Hr.Town} {wind voice : Int} {hs : List Int} (hv : ∀ h ∈ hs, h ∈ kindIdx t.plots 1) (hn : hs.Nodup) : (lis t wind voice (inL hs)).length = hs.length := by
  have e1 : (lis t wind voice (inL hs)).length = ((fsts (lis t wind voice (inL hs))).map fun (p : Nat) => (p : Int)).length := by simp [fsts]
  have hnd : ((fsts (lis t wind voice (inL hs))).map fun (p : Nat) => (p : Int)).Nodup := by
    unfold List.Nodup
    rw [List.pairwise_map]
    exact (lis_sorted t wind voice _).imp fun h => by omega
  have hmem : ∀ h : Int, h ∈ ((fsts (lis t wind voice (inL hs))).map fun (p : Nat) => (p : Int)) ↔ h ∈ hs := fun h => by
    rw [List.mem_map]
    constructor
    · rintro ⟨p, hp, rfl⟩
      obtain ⟨x, hx, rfl⟩ := List.mem_map.1 hp
      exact (mem_lisN.1 hx).2.2.1
    · intro hh
      obtain ⟨p, rfl, h1, h2⟩ := mem_kindIdx.1 (hv h hh)
      exact ⟨p, List.mem_map.2 ⟨(p, ears t wind voice p), mem_lisN.2 ⟨h1, h2, hh, rfl⟩, rfl⟩, rfl⟩
  have le : ∀ {A B : List Int}, A.Nodup → (∀ a ∈ A, a ∈ B) → A.length ≤ B.length := by
    intro A
    induction A with
    | nil => intro B _ _; simp
    | cons a A ih =>
      intro B hn hs
      rw [List.nodup_cons] at hn
      have h1 := ih (B := B.erase a) hn.2 fun x hx => by
        have hne : x ≠ a := fun e => hn.1 (by rw [← e]; exact hx)
        exact (List.mem_erase_of_ne hne).2 (hs x (by simp [hx]))
      have h2 := hs a (by simp)
      rw [List.length_erase_of_mem h2] at h1
      have : 0 < B.length := List.length_pos_of_mem h2
      simp; omega
  rw [e1]
  exact Nat.le_antisymm (le hnd fun a ha => (hmem a).1 ha) (le hn fun a ha => (hmem a).2 ha)
theorem deaf_hit {e : List Bool} (hl : e.length = 30) (h : deafB e = false) : ∃ s, s < 30 ∧ e.getD s false = true := by
  false_or_by_contra
  rename_i h2
  have : deafB e = true := by
    unfold deafB
    rw [decide_eq_true_iff]
    apply List.ext_getElem?
    intro s
    by_cases hs : s < 30
    · rw [List.getElem?_eq_getElem (by omega), List.getElem?_replicate, if_pos hs]
      congr 1
      cases hh : e[s]'(by omega)
      · rfl
      · exact absurd ⟨s, hs, by rw [List.getD_eq_getElem?_getD, List.getElem?_eq_getElem (by omega), hh]; rfl⟩ h2
    · rw [List.getElem?_eq_none (by omega), List.getElem?_replicate, if_neg hs]
  rw [this] at h; cases h
theorem cnt_all {l : List (Nat × List Bool)} {S : List Nat} : cntS l S = l.length ↔ ∀ x ∈ l, hit S x.2 = true := by
  unfold cntS
  exact List.length_filter_eq_length_iff
theorem cnt_le (l : List (Nat × List Bool)) (S : List Nat) : cntS l S ≤ l.length := List.length_filter_le _ _
def Heard (l : List (Nat × List Bool)) : Prop := ∀ x ∈ l, x.2.length = 30 ∧ deafB x.2 = false
theorem err_heard {l : List (Nat × List Bool)} (hl : ∀ x ∈ l, x.2.length = 30) (h : firstE l = 0) : Heard l := fun x hx => by
  refine ⟨hl x hx, ?_⟩
  cases hd : deafB x.2
  · rfl
  · rw [firstE_eq, if_pos (List.any_eq_true.2 ⟨x, hx, hd⟩)] at h; cases h
theorem chosen_all {l : List (Nat × List Bool)} (h : Heard l) {st : Nat} (hst : 30 ≤ st) {ch : List Nat} {n : Nat} (hc : Chosen l st ch n) : n = l.length := by
  have h1 := hc.most (List.range 30) (fun s hs => List.mem_range.1 hs) (by simp; exact hst)
  have h2 : cntS l (List.range 30) = l.length := cnt_all.2 fun x hx => by
    obtain ⟨s, hs, he⟩ := deaf_hit (h x hx).1 (h x hx).2
    exact List.any_eq_true.2 ⟨s, List.mem_range.2 hs, he⟩
  have h3 := cnt_le l ch
  rw [hc.cnt] at h3
  omega
end Go.Proofs.Ytimedmkpenbmkaa
end
section
namespace Go.Proofs.Ytimedmkpenbmkaa
open Go.RowKit Go.Shelf
set_option linter.unusedSimpArgs false
set_option linter.unusedVariables false
theorem append_which (w : World) (base : Nat) (tv : Value) (n : Nat) (xs : List Value) (x : Value) (hx1 : x.oneCell' = true) (hown : w.ownsRow base 3 1 tv n xs) (hb : base ≤ w.heap.size) (hn : n ≤ 1000) (a : Addr) (ha : w.cell? (a.add 0) = some x) :
    ∃ v' w', (Builtin.append_ #[31, 31] 31 #[tv, .slice (some a) 1 1]).run Try.prog w = .ok v' w' ∧ w'.ownsRow base 3 1 v' (n + 1) (xs ++ [x]) ∧ w.grownBy w' tv.ownBlock ∧ w'.ownsRow base 3 1 tv n xs ∧ (v'.ownBlock = tv.ownBlock ∨ v'.ownBlock = some w.heap.size) := by
  obtain ⟨i0, hi, hz0, hz1, hz2⟩ := info_parts A_info3
  have hnews : ∀ j u, [x][j]? = some u → w.cell? (a.add j) = some u := fun j u hj => by
    match j, hj with
    | 0, hj => simp at hj; subst hj; exact ha
  obtain ⟨v', w', hr, h2, h3, h4⟩ := run_append_own (P := Try.prog) w base 31 31 3 i0 (.int .i64 0) 1 8 A_und31 hi hz0 hz1 hz2 rfl (by decide) tv n xs hown a 1 1 [x] rfl hnews (by simpa using hx1) (by unfold maxLen; omega) (by omega) hb
  refine ⟨v', w', hr, h2, h3, ?_⟩
  rcases hown.2 with ⟨rfl, rfl⟩ | ⟨g, cap, cur, rfl, hbg, hg, hnc, hcm, hcs, htake⟩
  · have hx : xs = [] := List.eq_nil_of_length_eq_zero (by simpa using hown.1)
    subst hx
    refine ⟨World.ownsRow_nil _ _ _ _, ?_⟩
    have hr2 := run_append_nil (P := Try.prog) w 31 31 3 i0 (.int .i64 0) A_und31 hi hz0 a 1 1 [x] (by rw [hz1]; rfl) hnews (by omega) (by omega) (by rw [hz2]; omega)
    rw [hr2] at hr
    injection hr with hv hw
    right; rw [← hv]; rfl
  · by_cases hroom : n + 1 ≤ cap
    · have hr2 := run_append_room (P := Try.prog) w 31 31 3 i0 A_und31 hi g n cap cur hg a 1 1 [x] (by rw [hz1]; rfl) hnews (by simpa using hx1) hroom (by rw [hcs, hz1]; simp; omega)
      rw [hr2] at hr
      injection hr with hv hw
      subst hv
      refine ⟨?_, .inl rfl⟩
      refine ⟨hown.1, .inr ?_⟩
      rcases h2.2 with ⟨h5, _⟩ | ⟨g', cap', cur', h5, h6, h7, h8, h9, h10, h11⟩
      · cases h5
      · injection h5 with e1 e2 e3
        injection e1 with e1
        injection e1 with e1
        subst e1 e3
        refine ⟨_, _, cur', rfl, hbg, h7, hnc, hcm, h10, ?_⟩
        have h12 : (cur'.toList.take ((n + 1) * 1)).take (n * 1) = xs := by
          rw [h11, List.take_append_of_le_length (by rw [hown.1]; exact Nat.le_refl _), List.take_of_length_le (by rw [hown.1]; exact Nat.le_refl _)]
        rw [List.take_take, Nat.min_eq_left (by omega)] at h12
        exact h12
    · have holds : ∀ j u, xs[j]? = some u → w.cell? ((⟨g, 0, none⟩ : Addr).add j) = some u := hown.cells (g := g) rfl
      have hr2 := run_append_grow (P := Try.prog) w 31 31 3 i0 (.int .i64 0) A_und31 hi hz0 ⟨g, 0, none⟩ n cap xs (by rw [hz1]; exact hown.1) holds a 1 1 [x] (by rw [hz1]; rfl) hnews (by omega) (by omega) (by rw [hz2]; exact growslice_fits (by omega) (by omega))
      rw [hr2] at hr
      injection hr with hv hw
      refine ⟨?_, .inr (by rw [← hv]; rfl)⟩
      rw [← hw]
      exact hown.kept (row := none) ⟨rfl, rfl, rfl, by simp, fun k hk _ => heap_alloc_old w.drew _ k hk⟩ (by right; simp [Value.ownBlock])
def takeF (LB BB TB : Nat) : Value := .func (.func 145) #[] #[.pointer (some ⟨LB, 0, none⟩), .pointer (some ⟨BB, 0, none⟩), .pointer (some ⟨TB, 0, none⟩)]
/-- a row of ints that is owned -/
def OwnN (W : World) (base : Nat) (v : Value) (l : List Nat) : Prop := W.ownsRow base 3 1 v l.length (l.map fun (x : Nat) => Value.int .i64 x)
structure ApI (W : World) (LB BB TB : Nat) (ob : Option Addr) (cap : Nat) (l : List (Nat × List Bool)) (bv : Value) : Prop where
  lb : W.heap[LB]? = some (.cells #[.slice ob l.length cap] 132 (0, 0))
  bb : W.heap[BB]? = some (.cells #[bv] 31 (0, 0))
  tb : W.heap[TB]? = some (.cells #[takeF LB BB TB] 179 (0, 0))
  li : LiIn W ob l
/-- all but one box and one row is as it was -/
structure ApF (BB : Nat) (row : Option Nat) (W W' : World) : Prop where
  os : W'.os = W.os
  tape : W'.tape = W.tape
  output : W'.output = W.output
  size : W.heap.size ≤ W'.heap.size
  block : ∀ k, k < W.heap.size → k ≠ BB → some k ≠ row → W'.heap[k]? = W.heap[k]?
theorem ApF.of_below {BB : Nat} {row : Option Nat} {W W' : World} (h : Below W.heap.size W W') : ApF BB row W W' := ⟨h.os, h.tape, h.output, h.size, fun k hk _ _ => h.block k hk⟩
theorem ApF.of_grown {BB : Nat} {row : Option Nat} {W W' : World} (h : W.grownBy W' row) : ApF BB row W W' := ⟨h.os, h.tape, h.output, h.size, fun k hk _ hr => h.block k hk hr⟩
theorem ApF.trans {BB : Nat} {row : Option Nat} {W W1 W2 : World} (h : ApF BB row W W1) (k : ApF BB row W1 W2) : ApF BB row W W2 :=
  ⟨k.os.trans h.os, k.tape.trans h.tape, k.output.trans h.output, Nat.le_trans h.size k.size, fun i hi h1 h2 => (k.block i (Nat.lt_of_lt_of_le hi h.size) h1 h2).trans (h.block i hi h1 h2)⟩
theorem OwnN.kept {W W' : World} {base BB : Nat} {row : Option Nat} {v : Value} {l : List Nat} (h : OwnN W base v l) (hF : ApF BB row W W') (hB : BB < base) (hne : v.ownBlock = none ∨ v.ownBlock ≠ row) : OwnN W' base v l := by
  refine ⟨h.1, ?_⟩
  rcases h.2 with hn | ⟨g, cap, cur, rfl, hb, hgg, rest⟩
  · exact .inl hn
  · refine .inr ⟨g, cap, cur, rfl, hb, ?_, rest⟩
    rw [hF.block g (Array.getElem?_eq_some_iff.1 hgg).1 (by omega) (by simpa [Value.ownBlock] using hne)]
    exact hgg
theorem LiIn.apf {W W' : World} {BB base : Nat} {row : Option Nat} {ob : Option Addr} {l : List (Nat × List Bool)} (h : LiIn W ob l) (hF : ApF BB row W W') (hB : ∀ g, ob = some ⟨g, 0, none⟩ → l ≠ [] → g < base ∧ g ≠ BB) (hr : ∀ k, row = some k → base ≤ k) : LiIn W' ob l := fun k c hc => by
  obtain ⟨g, h1, h2, h3⟩ := h k c hc
  obtain ⟨b1, b2⟩ := hB g h1 (by intro e; rw [e] at hc; simp at hc)
  have hb := hF.block g h2 b2 (by intro e; have := hr g e.symm; omega)
  exact ⟨g, h1, Nat.lt_of_lt_of_le h2 hF.size, fun j u hu => (World.cell?_of_block (a := ⟨g, k * 31 + j, none⟩) hb).trans (h3 j u hu)⟩
structure ApB (LB BB TB base : Nat) (ob : Option Addr) (l : List (Nat × List Bool)) : Prop where
  lb : LB < base
  bb : BB < base
  tb : TB < base
  n1 : LB ≠ BB
  n2 : TB ≠ BB
  ob : ∀ g, ob = some ⟨g, 0, none⟩ → l ≠ [] → g < base ∧ g ≠ BB
theorem ApI.apf {W W' : World} {LB BB TB base : Nat} {ob : Option Addr} {cap : Nat} {l : List (Nat × List Bool)} {bv bv' : Value} {row : Option Nat} (h : ApI W LB BB TB ob cap l bv) (hb : ApB LB BB TB base ob l) (hF : ApF BB row W W') (hr : ∀ k, row = some k → base ≤ k) (hbb : W'.heap[BB]? = some (.cells #[bv'] 31 (0, 0))) : ApI W' LB BB TB ob cap l bv' :=
  ⟨(hF.block LB (Array.getElem?_eq_some_iff.1 h.lb).1 hb.n1 (by intro e; have := hr _ e.symm; have := hb.lb; omega)).trans h.lb, hbb, (hF.block TB (Array.getElem?_eq_some_iff.1 h.tb).1 hb.n2 (by intro e; have := hr _ e.symm; have := hb.tb; omega)).trans h.tb, h.li.apf hF hb.ob hr⟩
/-- what a call of take is good for -/
structure ApPost (LB BB TB base : Nat) (ob : Option Addr) (cap : Nat) (l : List (Nat × List Bool)) (tv : Value) (taken : List Nat) (bv : Value) (res : List Nat) (W w' : World) : Prop where
  ex : ∃ bv', ApI w' LB BB TB ob cap l bv' ∧ OwnN w' base bv' res ∧ (bv' = bv ∨ ∃ g, bv'.ownBlock = some g ∧ W.heap.size ≤ g)
  tk : OwnN w' base tv taken
  fr : ApF BB tv.ownBlock W w'
def TakeCall (LB BB TB base : Nat) (ob : Option Addr) (cap : Nat) (l : List (Nat × List Bool)) (i : Nat) : Prop :=
  ∀ (W : World) (tv : Value) (taken : List Nat) (heard : List Bool) (bv : Value) (best : List Nat), ApI W LB BB TB ob cap l bv → base ≤ W.heap.size → OwnN W base tv taken → OwnN W base bv best → (bv.ownBlock = none ∨ bv.ownBlock ≠ tv.ownBlock) → heard.length = 30 → taken.length ≤ i → best.length ≤ 30 →
    Calls Try.prog 145 #[.int .i64 i, tv, .agg (heard.map Value.bool).toArray, .pointer (some ⟨LB, 0, none⟩), .pointer (some ⟨BB, 0, none⟩), .pointer (some ⟨TB, 0, none⟩)] W fun e w' =>
      (∃ r, e = .returned r) ∧ ApPost LB BB TB base ob cap l tv taken bv (takeP (l.drop i) taken heard best) W w'
theorem ApF.join {BB : Nat} {row row' : Option Nat} {W W7 w6 : World} (h : ApF BB row W W7) (k : ApF BB row' W7 w6) (hr : row' = row ∨ ∃ g, row' = some g ∧ W.heap.size ≤ g) : ApF BB row W w6 :=
  ⟨k.os.trans h.os, k.tape.trans h.tape, k.output.trans h.output, Nat.le_trans h.size k.size, fun i hi h1 h2 => by
    refine (k.block i (Nat.lt_of_lt_of_le hi h.size) h1 ?_).trans (h.block i hi h1 h2)
    rcases hr with rfl | ⟨g, rfl, hg⟩
    · exact h2
    · intro e; injection e; omega⟩
theorem below_grownBy {a b : World} {row : Option Nat} (h : Below a.heap.size a b) : a.grownBy b row := ⟨h.os, h.tape, h.output, h.size, fun k hk _ => h.block k hk⟩
theorem own_below' {W W' : World} {base : Nat} {v : Value} {n : Nat} {xs : List Value} (h : W.ownsRow base 3 1 v n xs) (hB : Below W.heap.size W W') : W'.ownsRow base 3 1 v n xs :=
  h.kept (row := none) (below_grownBy hB) (by cases hv : v.ownBlock <;> simp)
theorem OwnN.below {W W' : World} {base : Nat} {v : Value} {l : List Nat} (h : OwnN W base v l) (hB : Below W.heap.size W W') : OwnN W' base v l := own_below' h hB
/-- one row grows, and what it held it holds -/
def GT7 (base : Nat) (tv : Value) (taken : List Nat) (a b : World) : Prop := a.grownBy b tv.ownBlock ∧ (OwnN a base tv taken → OwnN b base tv taken)
def gT7 (base : Nat) (tv : Value) (taken : List Nat) (i : Nat) (a b : World) : Prop := if i = 7 then GT7 base tv taken a b else Below a.heap.size a b
theorem grown_isGr (base : Nat) (tv : Value) (taken : List Nat) : Rg.IsGr (GT7 base tv taken) where
  refl w := ⟨⟨rfl, rfl, rfl, Nat.le_refl _, fun _ _ _ => rfl⟩, fun h => h⟩
  drew w := ⟨⟨rfl, rfl, rfl, Nat.le_refl _, fun _ _ _ => rfl⟩, fun h => h⟩
  trans h k := ⟨grown_trans h.1 k.1, fun o => k.2 (h.2 o)⟩
theorem gT7_all (base : Nat) (tv : Value) (taken : List Nat) (i : Nat) (a b : World) (h : gT7 base tv taken i a b) : GT7 base tv taken a b := by
  unfold gT7 at h
  split at h
  · exact h
  · exact ⟨below_grownBy h, fun o => o.below h⟩
theorem gT7_refl (base : Nat) (tv : Value) (taken : List Nat) (i : Nat) (a : World) : gT7 base tv taken i a a := by
  unfold gT7
  split
  · exact (grown_isGr base tv taken).refl a
  · exact Below.refl _ _
theorem gT7_of {base : Nat} {tv : Value} {taken : List Nat} {i : Nat} {a b : World} (hi : i ≠ 7) (h : Below a.heap.size a b) : gT7 base tv taken i a b := by unfold gT7; rw [if_neg hi]; exact h
/-- what the region of the inner call leaves -/
def spT7 (LB BB TB i base B g9 : Nat) (tv both : Value) (taken : List Nat) (x : Nat) : Nat → Bool → List Value → Value → World → Prop
  | 0, _, _, v, _ => v = takeF LB BB TB
  | 1, _, _, v, _ => v = .int .i64 i
  | 2, _, _, v, _ => v = .int .i64 ((i + 1 : Nat) : Int)
  | 3, _, _, v, _ => v = tv
  | 4, _, _, v, _ => v = .pointer (some ⟨g9, 0, none⟩)
  | 5, _, _, v, _ => v = .int .i64 x
  | 6, c, _, v, w => c = false → ∃ g, v = .slice (some ⟨g, 0, none⟩) 1 1 ∧ g < w.heap.size ∧ w.cell? ⟨g, 0, none⟩ = some (.int .i64 x)
  | 7, c, _, v, w => c = true ∧ OwnN w base v (taken ++ [x]) ∧ (v.ownBlock = tv.ownBlock ∨ ∃ g, v.ownBlock = some g ∧ B ≤ g)
  | 8, _, _, v, _ => v = both
  | _, _, _, _, _ => False
theorem spT7_stable (LB BB TB i base B g9 : Nat) (tv both : Value) (taken : List Nat) (x : Nat) : ∀ i' c w w', (i' = 7 → c = false) → gT7 base tv taken i' w w' → ∀ k D v, spT7 LB BB TB i base B g9 tv both taken x k c D v w → spT7 LB BB TB i base B g9 tv both taken x k (c || i' == 7) D v w' := by
  intro i' c w w' hc hg k D v h
  by_cases hi : i' = 7
  · have hcf := hc hi
    subst hcf
    subst hi
    match k with
    | 0 => exact h
    | 1 => exact h
    | 2 => exact h
    | 3 => exact h
    | 4 => exact h
    | 5 => exact h
    | 6 => exact fun e => by cases e
    | 7 => exact absurd h.1 (by simp)
    | 8 => exact h
    | _ + 9 => exact h.elim
  · have e1 : (c || i' == 7) = c := by simp [hi]
    rw [e1]
    have hb : Below w.heap.size w w' := by unfold gT7 at hg; rw [if_neg hi] at hg; exact hg
    match k with
    | 0 => exact h
    | 1 => exact h
    | 2 => exact h
    | 3 => exact h
    | 4 => exact h
    | 5 => exact h
    | 6 => exact fun e => by obtain ⟨g, h1, h2, h3⟩ := h e; exact ⟨g, h1, Nat.lt_of_lt_of_le h2 hb.size, (World.cell?_of_block (hb.block g h2)).trans h3⟩
    | 7 => exact ⟨h.1, h.2.1.below hb, h.2.2⟩
    | 8 => exact h
    | _ + 9 => exact h.elim
/-- what is a part of a longer list in the same row -/
theorem own_prefix {w w8 : World} {base : Nat} {tv v7 : Value} {taken : List Nat} {x : Nat} (h7 : OwnN w base v7 (taken ++ [x])) (ht : OwnN w base tv taken) (hb : v7.ownBlock = tv.ownBlock) (h8 : OwnN w8 base v7 (taken ++ [x])) : OwnN w8 base tv taken := by
  have hl : (taken ++ [x]).length = taken.length + 1 := by simp
  rcases ht.2 with hn | ⟨g, cap, cur, rfl, hbg, hg, hnc, hcm, hcs, _⟩
  · exact ⟨ht.1, .inl hn⟩
  · rcases h7.2 with ⟨h1, h2⟩ | ⟨g2, cap2, cur2, rfl, _, hg2, _, _, hcs2, _⟩
    · rw [hl] at h2; omega
    · rcases h8.2 with ⟨h1, h2⟩ | ⟨g3, cap3, cur3, h3, _, hg3, _, _, hcs3, ht3⟩
      · rw [hl] at h2; omega
      · simp only [Value.ownBlock] at hb
        injection hb with hb
        subst hb
        injection h3 with e1 e2 e3
        injection e1 with e1
        injection e1 with e1
        subst e1 e3
        rw [hg] at hg2
        injection hg2 with hg2
        injection hg2 with e4
        subst e4
        have hcc : cap = cap2 := by omega
        subst hcc
        refine ⟨ht.1, .inr ⟨_, _, cur3, rfl, hbg, hg3, hnc, hcm, hcs3, ?_⟩⟩
        have h12 := congrArg (List.take (taken.length * 1)) ht3
        have h13 : ((taken ++ [x]).map fun (x : Nat) => Value.int .i64 x).take (taken.length * 1) = taken.map fun (x : Nat) => Value.int .i64 x := by
          rw [List.map_append]; exact List.take_left' (by simp)
        rw [h13, List.take_take, Nat.min_eq_left (by rw [hl]; omega)] at h12
        exact h12
set_option maxHeartbeats 4000000 in
set_option maxRecDepth 100000 in
theorem take_step (LB BB TB base : Nat) (ob : Option Addr) (cap : Nat) (l : List (Nat × List Bool)) (hl30 : ∀ y ∈ l, y.2.length = 30) (hlen : l.length ≤ 30) (hb : ApB LB BB TB base ob l) (i : Nat) (hi : i ≤ l.length) (ih : i < l.length → TakeCall LB BB TB base ob cap l (i + 1)) : TakeCall LB BB TB base ob cap l i := by
  intro W tv taken heard bv best hI hbW ht hbo hdis hhl htl hbl
  obtain ⟨ta, tc, rfl⟩ := own_slice ht
  obtain ⟨ba, bc, rfl⟩ := own_slice hbo
  have lLB := (Array.getElem?_eq_some_iff.1 hI.lb).1
  have lBB := (Array.getElem?_eq_some_iff.1 hI.bb).1
  have lTB := (Array.getElem?_eq_some_iff.1 hI.tb).1
  have c1 : ∀ o, (W.alloc o).cell? ⟨LB, 0, none⟩ = some (.slice ob l.length cap) := fun o => by rw [cell_of_row _ _ _ _ _ _ ((Below.heap_alloc _ _ _ lLB).trans hI.lb)]; rfl
  have c2 : ∀ o, (W.alloc o).cell? ⟨BB, 0, none⟩ = some (.slice ba best.length bc) := fun o => by rw [cell_of_row _ _ _ _ _ _ ((Below.heap_alloc _ _ _ lBB).trans hI.bb)]; rfl
  have hd1 : ∀ d, decide (taken.length + (l.length - i) ≤ best.length) = d → decide ((taken.length : Int) + l.length - i ≤ best.length) = d := fun d h => by rw [← h]; congr 1; apply propext; omega
  have HI := Lib.hid hI
  have HT := Lib.hid ht
  have HBO := Lib.hid hbo
  have HDIS := Lib.hid hdis
  have HB := Lib.hid hb
  have HIH := Lib.hid ih
  have HHL := Lib.hid hhl
  have HL30 := Lib.hid hl30
  clear hI ht hbo hdis hb ih hhl hl30
  by_cases h0 : taken.length + (l.length - i) ≤ best.length
  · have hd := hd1 true (by simpa using h0)
    have hres : takeP (l.drop i) taken heard best = best := by
      have hdl : (l.drop i).length = l.length - i := List.length_drop
      match hD : l.drop i with
      | [] => rw [hD] at hdl; unfold takeP; rw [if_pos (by simp at hdl; omega)]
      | x :: r => rw [hD] at hdl; unfold takeP; rw [if_pos (by simp at hdl; omega)]
    rw [hres]
    clear hres hd1
    go_enter Try.func145, Try.ntmps145
    go_wp2_with fail
    refine bodyPost_ret (results_none rfl _ _ _) rfl ?_
    exact ⟨⟨_, rfl⟩, ⟨_, HI.out.apf HB.out (ApF.of_below (row := none) (below1 _ _)) (by simp) ((Below.heap_alloc _ _ _ lBB).trans HI.out.bb), HBO.out.below (below1 _ _), .inl rfl⟩, HT.out.below (below1 _ _), ApF.of_below (below1 _ _)⟩
  · have hd := hd1 false (by simpa using h0)
    clear hd1
    by_cases hil : i = l.length
    · have hres : takeP (l.drop i) taken heard best = taken := by
        rw [hil, List.drop_length]; unfold takeP; rw [if_neg (by omega)]
      rw [hres]
      have htn : taken ≠ [] := by rintro rfl; simp at h0; omega
      have HTN := Lib.hid htn
      clear hres htn
      have hil' : ((i : Int) == (l.length : Int)) = true := by rw [hil]; simp
      obtain ⟨gt, rfl, hgt, hgl, hcells⟩ : ∃ gt, ta = some ⟨gt, 0, none⟩ ∧ base ≤ gt ∧ gt < W.heap.size ∧ ∀ j u, (taken.map fun (x : Nat) => Value.int .i64 x)[j]? = some u → W.cell? ((⟨gt, 0, none⟩ : Addr).add j) = some u := by
        have h2 := HT.out.2
        rcases h2 with ⟨h3, h4⟩ | ⟨g, cp, cur, h3, h4, h5, _⟩
        · exact absurd (List.length_eq_zero_iff.1 h4) HTN.out
        · injection h3 with e1
          exact ⟨g, e1, h4, (Array.getElem?_eq_some_iff.1 h5).1, HT.out.cells (by rw [e1]; rfl)⟩
      obtain ⟨i0, hi, hz0, hz1, hz2⟩ := info_parts A_info3
      have hone : ∀ u ∈ (taken.map fun (x : Nat) => Value.int .i64 x), u.oneCell' = true := fun u hu => by obtain ⟨x, _, rfl⟩ := List.mem_map.1 hu; rfl
      have HCE := Lib.hid hcells
      have HON := Lib.hid hone
      clear hcells hone
      go_enter Try.func145, Try.ntmps145
      go_wp2_with (at_builtin; refine wpList_append_own _ rfl _ _ 31 rfl W.heap.size 3 i0 (.int .i64 0) 1 8 A_und31 hi hz0 hz1 hz2 rfl (by decide) (.slice (some ⟨W.heap.size + 1, 0, none⟩) 0 0) 0 [] rfl ?f0 ⟨gt, 0, none⟩ taken.length tc (taken.map fun (x : Nat) => Value.int .i64 x) rfl ?f6 ?f1 HON.out ?f3 ?f4 ?f5 ?_)
      case f0 =>
        refine ⟨by simp, .inr ⟨W.heap.size + 1, 0, #[], rfl, by omega, ?_, Nat.le_refl _, by unfold maxLen; omega, by simp, by simp⟩⟩
        have := heap_alloc_last (W.alloc (.cells (heard.map Value.bool).toArray 128)) (.cells #[] 3); simpa using this
      case f6 => simp
      case f1 =>
        intro j u hj
        have hab : ((⟨gt, 0, none⟩ : Addr).add j).block = gt := by unfold Addr.add; split <;> rfl
        exact ((World.cell?_of_block (by rw [hab, Below.heap_alloc _ _ _ (by simp; omega), Below.heap_alloc _ _ _ hgl])).trans (HCE.out j u hj))
      case f3 => unfold maxLen; omega
      case f4 => omega
      case f5 => simp; omega
      intro v' w' hown hgrow _
      obtain ⟨va, vc, rfl⟩ := own_slice hown
      have hB1 : Below W.heap.size W ((W.alloc (.cells (heard.map Value.bool).toArray 128)).alloc (.cells #[] 3)) := al (al (Below.refl _ _) _) _
      have hF : Below W.heap.size W w' := ⟨hgrow.os.trans hB1.os, hgrow.tape.trans hB1.tape, hgrow.output.trans hB1.output, Nat.le_trans hB1.size hgrow.size, fun k hk => (hgrow.block k (Nat.lt_of_lt_of_le hk hB1.size) (by show some k ≠ some (W.heap.size + 1); intro e; injection e; omega)).trans (hB1.block k hk)⟩
      have hbb := (hF.block _ lBB).trans HI.out.bb
      have hbc : w'.cell? ⟨BB, 0, none⟩ = some (.slice ba best.length bc) := by rw [cell_of_row _ _ _ _ _ _ hbb]; rfl
      have hbf := frozen_of_row w' BB 0 _ _ hbb
      have hblt : BB < w'.heap.size := Nat.lt_of_lt_of_le lBB hF.size
      have HF := Lib.hid hF
      have HOW := Lib.hid hown
      have HBB := Lib.hid hbb
      clear hF hown hbb hB1 hgrow
      go_wp2_with fail
      refine bodyPost_ret (results_none rfl _ _ _) rfl ?_
      have hS : ApF BB (some gt) w' (w'.setCell ⟨BB, 0, none⟩ (.slice va taken.length vc)) := ⟨rfl, rfl, rfl, by simp, fun k hk h1 _ => Below.heap_setCell _ _ _ _ h1⟩
      have hFS : ApF BB (some gt) W (w'.setCell ⟨BB, 0, none⟩ (.slice va taken.length vc)) := (ApF.of_below HF.out).trans hS
      have hv : ∀ k, (Value.slice va taken.length vc).ownBlock = some k → W.heap.size ≤ k := fun k hk => (HOW.out.lt k hk).1
      refine ⟨⟨_, rfl⟩, ⟨_, HI.out.apf HB.out hFS (fun k hk => by injection hk with hk; rw [← hk]; exact hgt) (heap_set_same _ HBB.out), ?_, ?_⟩, ?_, hFS⟩
      · have := OwnN.kept (l := taken) (own_base HOW.out hbW) hS HB.out.bb (by
          cases hob : (Value.slice va taken.length vc).ownBlock with
          | none => exact .inl rfl
          | some k => right; intro e; injection e with e; have := hv k hob; omega)
        exact this
      · right
        rcases HOW.out.2 with ⟨_, h4⟩ | ⟨g, cp, cur, h3, h4, _⟩
        · exact absurd (List.length_eq_zero_iff.1 h4) HTN.out
        · exact ⟨g, by rw [h3]; rfl, h4⟩
      · have h1 : OwnN w' base (.slice (some ⟨gt, 0, none⟩) taken.length tc) taken := HT.out.kept (ApF.of_below (row := none) HF.out) HB.out.bb (by right; simp [Value.ownBlock])
        refine h1.kept (row := none) ⟨hS.os, hS.tape, hS.output, hS.size, fun k hk hk1 _ => Below.heap_setCell _ _ _ _ hk1⟩ HB.out.bb (by right; simp [Value.ownBlock])
    · have hlt : i < l.length := by omega
      obtain ⟨x, hx⟩ : ∃ x, l[i]? = some x := ⟨_, List.getElem?_eq_getElem hlt⟩
      have hdrop : l.drop i = x :: l.drop (i + 1) := by
        rw [List.drop_eq_getElem_cons hlt]
        rw [List.getElem?_eq_getElem hlt] at hx
        injection hx with hx
        rw [hx]
      have hx30 := HL30.out x (List.mem_of_getElem? hx)
      obtain ⟨gl, rfl, hgl, hrg⟩ := HI.out.li i x hx
      have hres : takeP (l.drop i) taken heard best = takeP (l.drop (i + 1)) taken heard (if clashTo heard x.2 30 then best else takeP (l.drop (i + 1)) (taken ++ [x.1]) (mixTo heard x.2 30) best) := by
        rw [hdrop]
        have hdl : (l.drop (i + 1)).length = l.length - (i + 1) := List.length_drop
        conv => lhs; unfold takeP
        rw [if_neg (by omega)]
      obtain ⟨RES, hRES⟩ : ∃ RES, RES = takeP (l.drop (i + 1)) taken heard (if clashTo heard x.2 30 then best else takeP (l.drop (i + 1)) (taken ++ [x.1]) (mixTo heard x.2 30) best) := ⟨_, rfl⟩
      rw [hres, ← hRES]
      have HRES := Lib.hid hRES
      clear hRES
      have HIH1 := Lib.hid (HIH.out hlt)
      have hil' : ((i : Int) == (l.length : Int)) = false := by simp; omega
      have hli : (i : Int) < l.length := by omega
      obtain ⟨HA, hHA⟩ : ∃ HA, HA = (heard.map Value.bool).toArray := ⟨_, rfl⟩
      obtain ⟨es, hes⟩ : ∃ es, es = x.2.map Value.bool := ⟨_, rfl⟩
      obtain ⟨row, hrow⟩ : ∃ row, row = Value.int .i64 (x.1 : Int) :: es := ⟨_, rfl⟩
      have hrowx : lisRow x = row := by rw [hrow, hes]; rfl
      rw [hrowx] at hrg
      rw [← hHA]
      have hsz : (Try.prog.info? 135).map (·.size) = some row.length := by rw [← hrowx, lisRow_len hx30]; exact size135
      have hesz : (Try.prog.info? 128).map (·.size) = some es.length := by rw [hes, List.length_map, hx30]; exact size128
      have hHsz : (Try.prog.info? 128).map (·.size) = some HA.size := by rw [hHA, List.size_toArray, List.length_map, HHL.out]; exact size128
      have hone : row.toArray.all (·.oneCell') = true := by
        rw [Array.all_eq_true]; intro k hk
        have hm : ∀ v ∈ row, v.oneCell' = true := fun v hv => by
          rw [hrow, hes] at hv
          rcases List.mem_cons.1 hv with e | e
          · rw [e]; rfl
          · obtain ⟨b, _, e⟩ := List.mem_map.1 e; rw [← e]; rfl
        exact hm _ (by simp)
      have hrg1 : (W.alloc (.cells HA 128)).rangeAt gl (i * 31) row := fun j u hu => (World.cell?_of_block (a := ⟨gl, i * 31 + j, none⟩) (Below.heap_alloc _ _ _ hgl)).trans (hrg j u hu)
      have HRG1 := Lib.hid hrg1
      have HSZ := Lib.hid hsz
      have HESZ := Lib.hid hesz
      have HHSZ := Lib.hid hHsz
      have HONE := Lib.hid hone
      have HSZA : Hid ((Try.prog.info? 135).map (·.size) = some row.toArray.size) := Lib.hid (by rw [List.size_toArray]; exact HSZ.out)
      have HROW := Lib.hid hrow
      have HES := Lib.hid hes
      have HHA := Lib.hid hHA
      have HX30 := Lib.hid hx30
      clear hrg hrg1 hsz hesz hHsz hone hrow hes hHA hx30 hdrop hrowx hx hres
      obtain ⟨W2, hW2⟩ : ∃ W2 : World, W2 = (W.alloc (.cells HA 128)).alloc (.cells row.toArray 135) := ⟨_, rfl⟩
      have hB2 : Below W.heap.size W W2 := by rw [hW2]; exact al (al (Below.refl _ _) _) _
      have hs2 : W2.heap.size = W.heap.size + 2 := by rw [hW2]; simp
      have hh0 : W2.heap[W.heap.size]? = some (.cells HA 128 (0, 0)) := by rw [hW2, Below.heap_alloc _ _ _ (by simp)]; exact heap_alloc_last _ _
      have hh1 : W2.heap[W.heap.size + 1]? = some (.cells row.toArray 135 (0, 0)) := by rw [hW2]; have := heap_alloc_last (W.alloc (.cells HA 128)) (.cells row.toArray 135); simpa using this
      have hr1 : W2.rangeAt (W.heap.size + 1) 1 es := fun j u hu => by
        rw [cell_of_row _ _ _ _ _ _ hh1, HROW.out, Nat.add_comm]; simpa using hu
      have HW2 := Lib.hid hW2
      have HB2 := Lib.hid hB2
      have HH0 := Lib.hid hh0
      have HH1 := Lib.hid hh1
      have HR1 := Lib.hid hr1
      have HTO := Lib.hid (together_any heard x.2 HHL.out HX30.out W2)
      rw [← HHA.out, ← HES.out] at HTO
      clear hW2 hB2 hh0 hh1 hr1
      go_enter Try.func145, Try.ntmps145
      go_upto_region 5 with (first
        | (with_reducible refine wpList_load_mid rfl 135 _ rfl gl (i * 31) rfl row _ HRG1.out und135 rfl HSZ.out ?_)
        | (with_reducible refine wpList_store_new2 rfl 135 _ _ rfl (W.heap.size + 1) _ row.toArray rfl ?hb rfl HSZA.out ?hs HONE.out ?_))
      case hb => simp
      case hs => have := HSZA.out; rw [size135] at this; injection this
      rw [← HW2.out]
      clear HW2 HRG1
      go_wp2_with (first
        | (with_reducible refine wpList_load_row rfl 128 _ rfl W.heap.size rfl 128 HA (0, 0) _ HH0.out und128 rfl HHSZ.out ?_)
        | (with_reducible refine wpList_load_mid rfl 128 _ rfl (W.heap.size + 1) 1 rfl es _ HR1.out und128 rfl HESZ.out ?_))
      refine HTO.out.mono ?_
      rintro e w5 ⟨rfl, hB5⟩
      obtain ⟨cl, hcl⟩ : ∃ cl, cl = clashTo heard x.2 30 := ⟨_, rfl⟩
      rw [← hcl]
      obtain ⟨MX, hMX⟩ : ∃ MX, MX = mixTo heard x.2 30 := ⟨_, rfl⟩
      rw [← hMX]
      have hMl : MX.length = 30 := by rw [hMX]; exact mix_len _ _ _
      have HMX := Lib.hid hMX
      have HML := Lib.hid hMl
      have HCL := Lib.hid hcl
      have HB5 := Lib.hid (join HB2.out hB5)
      have hs5 := hB5.size
      have HH0 := Lib.hid ((hB5.block _ (by omega)).trans HH0.out)
      have HH1 := Lib.hid ((hB5.block _ (by omega)).trans HH1.out)
      have HTA := Lib.hid (HT.out.below HB5.out)
      have HBA := Lib.hid (HBO.out.below HB5.out)
      have HIA := Lib.hid (HI.out.apf HB.out (ApF.of_below (row := none) HB5.out) (by simp) ((HB5.out.block _ lBB).trans HI.out.bb))
      clear hcl hMX hMl hB5 HTO HB2 HR1
      obtain ⟨BA, hBA⟩ : ∃ BA, BA = if cl then ((List.replicate 30 false).map Value.bool).toArray else (MX.map Value.bool).toArray := ⟨_, rfl⟩
      have hBsz : (Try.prog.info? 128).map (·.size) = some BA.size := by rw [hBA]; cases cl <;> simp [HML.out, size128]
      have hBon : BA.all (·.oneCell') = true := by rw [hBA]; cases cl <;> exact bools_all _
      have heq : (if cl then .tuple #[.agg ((List.replicate 30 false).map Value.bool).toArray, .bool false] else .tuple #[.agg (MX.map Value.bool).toArray, .bool true] : Value) = .tuple #[.agg BA, .bool (!cl)] := by rw [hBA]; cases cl <;> rfl
      rw [heq]
      have HBSZ := Lib.hid hBsz
      have HBON := Lib.hid hBon
      obtain ⟨W6, hW6⟩ : ∃ W6 : World, W6 = w5.alloc (.cells BA 128) := ⟨_, rfl⟩
      have h56 : Below w5.heap.size w5 W6 := by rw [hW6]; exact below1 _ _
      have hs6 : W6.heap.size = w5.heap.size + 1 := by rw [hW6]; simp
      have HB6 := Lib.hid (join HB5.out h56)
      have H60 := Lib.hid ((h56.block _ (by omega)).trans HH0.out)
      have H61 := Lib.hid ((h56.block _ (by omega)).trans HH1.out)
      have H62 : Hid (W6.heap[w5.heap.size]? = some (.cells BA 128 (0, 0))) := Lib.hid (by rw [hW6]; exact heap_alloc_last _ _)
      have HT6 := Lib.hid (HTA.out.below h56)
      have HBO6 := Lib.hid (HBA.out.below h56)
      have HI6 := Lib.hid (HIA.out.apf HB.out (ApF.of_below (row := none) h56) (by simp) ((h56.block _ (by have := HB5.out.size; omega)).trans HIA.out.bb))
      have c3 : W6.cell? ⟨TB, 0, none⟩ = some (takeF LB BB TB) := by rw [cell_of_row _ _ _ _ _ _ HI6.out.tb]; rfl
      have l6 : TB < W6.heap.size := (Array.getElem?_eq_some_iff.1 HI6.out.tb).1
      have HW6 := Lib.hid hW6
      have HBA2 := Lib.hid hBA
      unfold takeF at c3
      clear hBA heq hBsz hBon h56 HTA HBA HIA hW6 c1 c2
      cases cl with
      | true =>
        go_upto_region 8 with (with_reducible refine wpList_store_new rfl 128 _ _ rfl _ BA rfl rfl HBSZ.out ?hs HBON.out ?_)
        case hs => have := HBSZ.out; rw [size128] at this; injection this
        rw [← HW6.out]
        have hq := HIH1.out W6 _ taken heard _ best HI6.out (by omega) HT6.out HBO6.out HDIS.out HHL.out (by omega) hbl
        rw [← HHA.out] at hq
        have HQ := Lib.hid hq
        clear hq
        go_wp2_with (with_reducible refine wpList_load_row rfl 128 _ rfl W.heap.size rfl 128 HA (0, 0) _ H60.out und128 rfl HHSZ.out ?_)
        refine HQ.out.mono ?_
        rintro e w7 ⟨⟨r, rfl⟩, hP⟩
        have HP := Lib.hid hP
        clear hP HQ
        go_wp2_with fail
        refine bodyPost_end (results_none rfl _ _ _) rfl ?_
        obtain ⟨bv', e1, e2, e3⟩ := HP.out.ex
        have hR : RES = takeP (l.drop (i + 1)) taken heard best := by rw [HRES.out, ← HCL.out]; rfl
        rw [hR]
        refine ⟨⟨_, rfl⟩, ⟨bv', e1, e2, ?_⟩, HP.out.tk, ApF.join (ApF.of_below HB6.out) HP.out.fr (.inl rfl)⟩
        rcases e3 with e3 | ⟨g, e3, e4⟩
        · exact .inl e3
        · exact .inr ⟨g, e3, Nat.le_trans HB6.out.size e4⟩
      | false =>
        go_upto_region 7 with (with_reducible refine wpList_store_new rfl 128 _ _ rfl _ BA rfl rfl HBSZ.out ?hs HBON.out ?_)
        case hs => have := HBSZ.out; rw [size128] at this; injection this
        rw [← HW6.out]
        have hrl : ∀ k, (Value.slice ta taken.length tc).ownBlock = some k → base ≤ k ∧ k < W.heap.size := HT.out.lt
        have hsB := HB6.out.size
        have hs56 := HB5.out.size
        have hk1 : W6.cell? ⟨W.heap.size + 1, 0, none⟩ = some (.int .i64 x.1) := by rw [cell_of_row _ _ _ _ _ _ H61.out, HROW.out]; rfl
        have hwi : IntKind.wrap .i64 ((i : Int) + 1) = ((i + 1 : Nat) : Int) := wrap_nat (n := i + 1) (by omega)
        have hBl : BA.toList.toArray = BA := by simp
        have hBr : W6.rangeAt w5.heap.size 0 BA.toList := fun j u hu => by rw [cell_of_row _ _ _ _ _ _ H62.out, Nat.zero_add]; simpa using hu
        have hBz : (Try.prog.info? 128).map (·.size) = some BA.toList.length := by rw [Array.length_toList]; exact HBSZ.out
        have HRL := Lib.hid hrl
        have HBL := Lib.hid hBl
        have HBR := Lib.hid hBr
        have HBZ := Lib.hid hBz
        have HK1 := Lib.hid hk1
        have HC3 := Lib.hid c3
        clear hrl hBl hBr hBz hk1 c3
        refine Rk.region_gen 7 (gT7 base (.slice ta taken.length tc) taken) (grown_isGr base (.slice ta taken.length tc) taken) (fun i a b h => gT7_all _ _ _ i a b h) (fun i a => gT7_refl _ _ _ i a) 9 [[], [], [1], [], [], [4], [4, 5], [3, 4, 5, 6], []] [some 41, some 42, some 43, some 44, some 45, some 46, some 47, some 48, some 49] (by omega)
          (spT7 LB BB TB i base W6.heap.size (W.heap.size + 1) (.slice ta taken.length tc) (.agg BA) taken x.1) (by kernel_rfl) (by kernel_rfl) rfl (spT7_stable _ _ _ _ _ _ _ _ _ _ _) ?_ ?_
        · refine ⟨fun V w' c hG hc hs => ?_, fun V w' c hG hc hs => ?_, fun V w' c hG hc hs => ?_, fun V w' c hG hc hs => ?_, fun V w' c hG hc hs => ?_, fun V w' c hG hc hs => ?_, fun V w' c hG hc hs => ?_, fun V w' c hG hc hs => ?_, fun V w' c hG hc hs => ?_, trivial⟩
          all_goals
            have k3 : w'.cell? ⟨TB, 0, none⟩ = some (takeF LB BB TB) := (World.cell?_of_block (hG.1.block TB l6 (by intro e; have := HRL.out _ e.symm; have := HB.out.tb; omega))).trans HC3.out
            have k1 : w'.cell? ⟨W.heap.size + 1, 0, none⟩ = some (.int .i64 x.1) := (World.cell?_of_block (hG.1.block (W.heap.size + 1) (by omega) (by intro e; have := HRL.out _ e.symm; omega))).trans HK1.out
            rw [if_pos (by rfl)]
          · unfold takeF at k3
            exact Rk.GrowL.value (v := takeF LB BB TB) (w' := w') (by simp [go_sem, Rs.look, k3, takeF]) (gT7_refl _ _ _ _ _) rfl
          · exact Rk.GrowL.value (v := .int .i64 i) (w' := w') (by simp [go_sem, Rs.look]) (gT7_refl _ _ _ _ _) rfl
          · have e1 : V 1 = .int .i64 i := hs 1 (by simp)
            exact Rk.GrowL.value (v := .int .i64 ((i + 1 : Nat) : Int)) (w' := w') (by simp [go_sem, Rs.look, e1, hwi]) (gT7_refl _ _ _ _ _) rfl
          · exact Rk.GrowL.value (v := .slice ta taken.length tc) (w' := w') (by simp [go_sem, Rs.look]) (gT7_refl _ _ _ _ _) rfl
          · exact Rk.GrowL.value (v := .pointer (some ⟨W.heap.size + 1, 0, none⟩)) (w' := w') (by simp [go_sem, Rs.look]) (gT7_refl _ _ _ _ _) rfl
          · have e4 : V 4 = .pointer (some ⟨W.heap.size + 1, 0, none⟩) := hs 4 (by simp)
            exact Rk.GrowL.value (v := .int .i64 x.1) (w' := w') (by simp [go_sem, Rs.look, e4, k1]) (gT7_refl _ _ _ _ _) rfl
          · have e5 : V 5 = .int .i64 x.1 := hs 5 (by simp)
            refine Rk.GrowL.value (v := .slice (some ⟨w'.heap.size, 0, none⟩) 1 1) (w' := w'.alloc (.cells #[.int .i64 x.1] 3)) (by simp [go_sem, Rs.look, e5]) (gT7_of (by decide) (below1 _ _)) (fun _ => ⟨_, rfl, by simp, ?_⟩)
            rw [cell_of_row _ _ _ _ _ _ (heap_alloc_last _ _)]; rfl
          · have e3 : V 3 = .slice ta taken.length tc := hs 3 (by simp)
            have r6 : c = false → ∃ g, V 6 = .slice (some ⟨g, 0, none⟩) 1 1 ∧ g < w'.heap.size ∧ w'.cell? ⟨g, 0, none⟩ = some (.int .i64 x.1) := hs 6 (by simp)
            obtain ⟨g, e6, hg, hcg⟩ := r6 (hc rfl)
            obtain ⟨v', w8, hr, hown, hgr, hold, hwh⟩ := append_which w' base (.slice ta taken.length tc) taken.length _ (.int .i64 x.1) rfl (hG.2 HT6.out) (by have := hG.1.size; omega) (by omega) ⟨g, 0, none⟩ (by simpa [Addr.add] using hcg)
            refine Rk.GrowL.value (v := v') (w' := w8) (exec_append2 rfl rfl (by simp [Rs.look, e3]) (by simp [Rs.look, e6]) hr) (by unfold gT7; rw [if_pos rfl]; exact ⟨hgr, fun _ => hold⟩) ⟨by simp, ?_, ?_⟩
            · unfold OwnN
              rw [List.length_append, List.map_append]
              exact hown
            · rcases hwh with h | h
              · exact .inl h
              · exact .inr ⟨_, h, hG.1.size⟩
          · have k8 : w'.rangeAt w5.heap.size 0 BA.toList := fun j u hu => (World.cell?_of_block (a := ⟨w5.heap.size, 0 + j, none⟩) (hG.1.block w5.heap.size (by omega) (by intro e; have := HRL.out _ e.symm; omega))).trans (HBR.out j u hu)
            refine Rk.GrowL.value (v := .agg BA.toList.toArray) (w' := w') (exec_load_mid 128 _ rfl rfl k8 und128 rfl HBZ.out) (gT7_refl _ _ _ _ _) ?_
            show Value.agg BA.toList.toArray = .agg BA
            rw [HBL.out]
        · intro V w' hG hs
          have e0 : V 0 = takeF LB BB TB := hs 0 (by omega)
          have e1 : V 1 = .int .i64 i := hs 1 (by omega)
          have e2 : V 2 = .int .i64 ((i + 1 : Nat) : Int) := hs 2 (by omega)
          have e3 : V 3 = .slice ta taken.length tc := hs 3 (by omega)
          have e4 : V 4 = .pointer (some ⟨W.heap.size + 1, 0, none⟩) := hs 4 (by omega)
          have e5 : V 5 = .int .i64 x.1 := hs 5 (by omega)
          obtain ⟨-, r7, r7b⟩ : true = true ∧ OwnN w' base (V 7) (taken ++ [x.1]) ∧ ((V 7).ownBlock = (Value.slice ta taken.length tc).ownBlock ∨ ∃ g, (V 7).ownBlock = some g ∧ W6.heap.size ≤ g) := hs 7 (by omega)
          have e8 : V 8 = .agg BA := hs 8 (by omega)
          simp only [Rs.canon, Rs.dstOf, List.range_succ, List.range_zero, List.nil_append, List.cons_append, List.foldl_cons, List.foldl_nil, List.drop_succ_cons, List.drop_zero, List.drop_nil, List.getElem?_toArray, List.getElem?_cons_succ, List.getElem?_cons_zero, Option.bind_some, Act.put, List.getD_cons_succ, List.getD_cons_zero, List.setIfInBounds_toArray, List.set_cons_succ, List.set_cons_zero]
          rw [e0, e1, e2, e3, e4, e5, e8]
          generalize V 6 = y6
          generalize V 7 = v7 at r7 r7b ⊢
          clear e0 e1 e2 e3 e4 e5 e8 hs
          have hG1 := hG.1
          have hTd := hG.2 HT6.out
          have hF : ApF BB (Value.slice ta taken.length tc).ownBlock W6 w' := ApF.of_grown hG1
          have hbl7 : ∀ k, (Value.slice ba best.length bc).ownBlock = some k → k < W6.heap.size := fun k hk => (HBO6.out.lt k hk).2
          have hI7 := HI6.out.apf HB.out hF (fun k hk => (HRL.out k hk).1) ((hG1.block BB (by have := (Array.getElem?_eq_some_iff.1 HI6.out.bb).1; exact this) (by intro e; have := HRL.out _ e.symm; have := HB.out.bb; omega)).trans HI6.out.bb)
          have hO7 : OwnN w' base (.slice ba best.length bc) best := HBO6.out.kept hF HB.out.bb HDIS.out
          have hdis7 : (Value.slice ba best.length bc).ownBlock = none ∨ (Value.slice ba best.length bc).ownBlock ≠ v7.ownBlock := by
            cases hob : (Value.slice ba best.length bc).ownBlock with
            | none => exact .inl rfl
            | some k =>
              right
              rcases r7b with h | ⟨g, h, hg⟩
              · rw [h, ← hob]
                rcases HDIS.out with h2 | h2
                · rw [h2] at hob; cases hob
                · exact h2
              · rw [h]; intro e; injection e; have := hbl7 k hob; omega
          have hq := HIH1.out w' v7 (taken ++ [x.1]) MX _ best hI7 (by have := hG1.size; omega) r7 hO7 hdis7 HML.out (by rw [List.length_append, List.length_singleton]; omega) hbl
          have hlen7 : (taken ++ [x.1]).length = taken.length + 1 := by simp
          obtain ⟨va7, vc7, rfl⟩ := own_slice r7
          have hBt : (MX.map Value.bool).toArray = BA := by rw [HBA2.out]; rfl
          rw [hBt] at hq
          rw [hlen7] at hq r7b r7
          have HQ := Lib.hid hq
          have HO7 := Lib.hid r7
          have HG := Lib.hid hG
          have HR7 := Lib.hid r7b
          have HTD := Lib.hid hTd
          have HF7 := Lib.hid hF
          clear hq hG hG1 r7 r7b hTd hF hbl7 hI7 hO7 hdis7
          unfold takeF
          go_wp2_with fail
          refine HQ.out.mono ?_
          rintro e w8 ⟨⟨r, rfl⟩, hP⟩
          obtain ⟨bv1, i1, o1, f1⟩ := hP.ex
          have hG1 := HG.out.1
          have hb8 : ∀ k, k < W6.heap.size → k ≠ BB → some k ≠ (Value.slice ta taken.length tc).ownBlock → w8.heap[k]? = W6.heap[k]? := fun k hk h1 h2 => by
            refine (hP.fr.block k (Nat.lt_of_lt_of_le hk hG1.size) h1 ?_).trans (hG1.block k hk h2)
            rcases HR7.out with h | ⟨g, h, hg⟩
            · rw [h]; exact h2
            · rw [h]; intro e; injection e; omega
          have hn0 : some W.heap.size ≠ (Value.slice ta taken.length tc).ownBlock := by intro e; have := HRL.out _ e.symm; omega
          have h80 := (hb8 W.heap.size (by omega) (by omega) hn0).trans H60.out
          have hnT : some TB ≠ (Value.slice ta taken.length tc).ownBlock := by intro e; have := HRL.out _ e.symm; have := HB.out.tb; omega
          have c8 : w8.cell? ⟨TB, 0, none⟩ = some (takeF LB BB TB) := (World.cell?_of_block (hb8 TB l6 HB.out.n2 hnT)).trans HC3.out
          have l8 : TB < w8.heap.size := (Array.getElem?_eq_some_iff.1 i1.tb).1
          have ot8 : OwnN w8 base (.slice ta taken.length tc) taken := by
            rcases HR7.out with h | ⟨g, h, hg⟩
            · refine own_prefix (x := x.1) (v7 := .slice va7 (taken.length + 1) vc7) ?_ HTD.out h ?_
              · exact HO7.out
              · exact hP.tk
            · refine HTD.out.kept hP.fr HB.out.bb ?_
              cases hob : (Value.slice ta taken.length tc).ownBlock with
              | none => exact .inl rfl
              | some k => right; rw [h]; intro e; injection e; have := HRL.out k hob; omega
          have hdis8 : bv1.ownBlock = none ∨ bv1.ownBlock ≠ (Value.slice ta taken.length tc).ownBlock := by
            rcases f1 with rfl | ⟨g, h, hg⟩
            · exact HDIS.out
            · right; rw [h]; intro e; have := HRL.out g e.symm; have := hG1.size; omega
          obtain ⟨R1, hR1⟩ : ∃ R1, R1 = takeP (l.drop (i + 1)) (taken ++ [x.1]) MX best := ⟨_, rfl⟩
          rw [← hR1] at o1
          have hR1l : R1.length ≤ 30 := by
            have := take_len (l.drop (i + 1)) (taken ++ [x.1]) MX best
            rw [← hR1, hlen7, List.length_drop] at this
            omega
          have hq := HIH1.out w8 _ taken heard bv1 R1 i1 (by have := hG1.size; have := hP.fr.size; omega) ot8 o1 hdis8 HHL.out (by omega) hR1l
          rw [← HHA.out] at hq
          have HQ2 := Lib.hid hq
          have HFR := Lib.hid hP.fr
          have HF1 := Lib.hid f1
          have HR1 := Lib.hid hR1
          have H80 := Lib.hid h80
          have hs8 := hP.fr.size
          unfold takeF at c8
          clear hq hP i1 o1 f1 hG1 hb8 hn0 h80 hnT ot8 hdis8 hR1 hR1l HQ
          go_wp2_with (with_reducible refine wpList_load_row rfl 128 _ rfl W.heap.size rfl 128 HA (0, 0) _ H80.out und128 rfl HHSZ.out ?_)
          refine HQ2.out.mono ?_
          rintro e w9 ⟨⟨r, rfl⟩, hP⟩
          have HP := Lib.hid hP
          clear hP HQ2
          go_wp2_with fail
          refine bodyPost_end (results_none rfl _ _ _) rfl ?_
          obtain ⟨bv', e1, e2, e3⟩ := HP.out.ex
          have hR : RES = takeP (l.drop (i + 1)) taken heard R1 := by rw [HRES.out, ← HCL.out, HR1.out, HMX.out]; rfl
          rw [hR]
          have hfr1 : ApF BB (Value.slice ta taken.length tc).ownBlock W w8 := ApF.join ((ApF.of_below HB6.out).trans HF7.out) HFR.out (by
            rcases HR7.out with h | ⟨g, h, hg⟩
            · exact .inl h
            · exact .inr ⟨g, h, by omega⟩)
          refine ⟨⟨_, rfl⟩, ⟨bv', e1, e2, ?_⟩, HP.out.tk, hfr1.trans HP.out.fr⟩
          rcases e3 with rfl | ⟨g, e3, e4⟩
          · rcases HF1.out with e5 | ⟨g, e5, e6⟩
            · exact .inl e5
            · exact .inr ⟨g, e5, by have := HF7.out.size; omega⟩
          · exact .inr ⟨g, e3, by have := hfr1.size; omega⟩
theorem take_all (LB BB TB base : Nat) (ob : Option Addr) (cap : Nat) (l : List (Nat × List Bool)) (hl30 : ∀ y ∈ l, y.2.length = 30) (hlen : l.length ≤ 30) (hb : ApB LB BB TB base ob l) : ∀ k i, i + k = l.length → TakeCall LB BB TB base ob cap l i
  | 0, i, h => take_step LB BB TB base ob cap l hl30 hlen hb i (by omega) (fun h2 => by omega)
  | k + 1, i, h => take_step LB BB TB base ob cap l hl30 hlen hb i (by omega) (fun _ => take_all LB BB TB base ob cap l hl30 hlen hb k (i + 1) (by omega))
end Go.Proofs.Ytimedmkpenbmkaa
end
section
namespace Go.Proofs.Ytimedmkpenbmkaa
open Go.RowKit Go.Shelf
set_option linter.unusedSimpArgs false
set_option linter.unusedVariables false
set_option maxHeartbeats 2000000 in
set_option maxRecDepth 100000 in
theorem apart_any (ob : Option Addr) (cap : Nat) (l : List (Nat × List Bool)) (hl30 : ∀ y ∈ l, y.2.length = 30) (hlen : l.length ≤ 30) (w : World) (hI : LiIn w ob l) :
    Calls Try.prog 114 #[.slice ob l.length cap] w fun e w' => ∃ v, e = .returned v ∧ OwnN w' w.heap.size v (apartP l) ∧ Below w.heap.size w w' := by
  obtain ⟨W, hW⟩ : ∃ W : World, W = ((w.alloc (.cells #[.slice ob l.length cap] 132)).alloc (.cells #[.slice none 0 0] 31)).alloc (.cells #[takeF w.heap.size (w.heap.size + 1) (w.heap.size + 2)] 179) := ⟨_, rfl⟩
  have hs : W.heap.size = w.heap.size + 3 := by rw [hW]; simp
  have hB : Below w.heap.size w W := by rw [hW]; exact al (al (al (Below.refl _ _) _) _) _
  have h0 : W.heap[w.heap.size]? = some (.cells #[.slice ob l.length cap] 132 (0, 0)) := by
    rw [hW, Below.heap_alloc _ _ _ (by simp; omega), Below.heap_alloc _ _ _ (by simp)]; exact heap_alloc_last _ _
  have h1 : W.heap[w.heap.size + 1]? = some (.cells #[.slice none 0 0] 31 (0, 0)) := by
    rw [hW, Below.heap_alloc _ _ _ (by simp)]; have := heap_alloc_last (w.alloc (.cells #[.slice ob l.length cap] 132)) (.cells #[.slice none 0 0] 31); simpa using this
  have h2 : W.heap[w.heap.size + 2]? = some (.cells #[takeF w.heap.size (w.heap.size + 1) (w.heap.size + 2)] 179 (0, 0)) := by
    rw [hW]; have := heap_alloc_last ((w.alloc (.cells #[.slice ob l.length cap] 132)).alloc (.cells #[.slice none 0 0] 31)) (.cells #[takeF w.heap.size (w.heap.size + 1) (w.heap.size + 2)] 179); simpa using this
  have hob : ∀ g, ob = some ⟨g, 0, none⟩ → l ≠ [] → g < w.heap.size := fun g e hne => by
    obtain ⟨c, hc⟩ : ∃ c, l[0]? = some c := by cases l with
      | nil => exact absurd rfl hne
      | cons c l => exact ⟨c, rfl⟩
    obtain ⟨g', e1, e2, _⟩ := hI 0 c hc
    rw [e] at e1; injection e1 with e1; injection e1 with e1; omega
  have hA : ApB w.heap.size (w.heap.size + 1) (w.heap.size + 2) (w.heap.size + 3) ob l := ⟨by omega, by omega, by omega, by omega, by omega, fun g e hne => by have := hob g e hne; omega⟩
  have hAI : ApI W w.heap.size (w.heap.size + 1) (w.heap.size + 2) ob cap l (.slice none 0 0) := ⟨h0, h1, h2, hI.below hB⟩
  have hnil : OwnN W (w.heap.size + 3) (.slice none 0 0) [] := World.ownsRow_nil _ _ _ _
  have hq := take_all w.heap.size (w.heap.size + 1) (w.heap.size + 2) (w.heap.size + 3) ob cap l hl30 hlen hA l.length 0 (by omega) W (.slice none 0 0) [] (List.replicate 30 false) (.slice none 0 0) [] hAI (by omega) hnil hnil (.inl rfl) (by simp) (by simp) (by simp)
  rw [show ((List.replicate 30 false).map Value.bool).toArray = #[Value.bool false, Value.bool false, Value.bool false, Value.bool false, Value.bool false, Value.bool false, Value.bool false, Value.bool false, Value.bool false, Value.bool false, Value.bool false, Value.bool false, Value.bool false, Value.bool false, Value.bool false, Value.bool false, Value.bool false, Value.bool false, Value.bool false, Value.bool false, Value.bool false, Value.bool false, Value.bool false, Value.bool false, Value.bool false, Value.bool false, Value.bool false, Value.bool false, Value.bool false, Value.bool false] from rfl] at hq
  have HQ := Lib.hid hq
  have HB := Lib.hid hB
  have HW := Lib.hid hW
  have c2 : W.cell? ⟨w.heap.size + 2, 0, none⟩ = some (takeF w.heap.size (w.heap.size + 1) (w.heap.size + 2)) := by rw [cell_of_row _ _ _ _ _ _ h2]; rfl
  have hWt : ((w.alloc (.cells #[.slice ob l.length cap] 132)).alloc (.cells #[.slice none 0 0] 31)).alloc (.cells #[.func (.func 145) #[] #[.pointer (some ⟨w.heap.size, 0, none⟩), .pointer (some ⟨w.heap.size + 1, 0, none⟩), .pointer (some ⟨w.heap.size + 1 + 1, 0, none⟩)]] 179) = W := by rw [hW]; rfl
  have HWT := Lib.hid hWt
  unfold takeF at c2
  clear hq hB hW h0 h1 h2 hob hA hAI hnil hWt
  go_enter Try.func114, Try.ntmps114
  go_upto_region 4 with fail
  rw [HWT.out]
  clear HWT
  have hl2 : w.heap.size + 1 + 1 < W.heap.size := by omega
  have c2' : W.cell? ⟨w.heap.size + 1 + 1, 0, none⟩ = some (.func (.func 145) #[] #[.pointer (some ⟨w.heap.size, 0, none⟩), .pointer (some ⟨w.heap.size + 1, 0, none⟩), .pointer (some ⟨w.heap.size + 1 + 1, 0, none⟩)]) := c2
  clear c2
  go_wp2_with fail
  refine HQ.out.mono ?_
  rintro e w8 ⟨⟨r, rfl⟩, hP⟩
  obtain ⟨bv', i1, o1, f1⟩ := hP.ex
  have hfr := hP.fr
  have c1 : w8.cell? ⟨w.heap.size + 1, 0, none⟩ = some bv' := by rw [cell_of_row _ _ _ _ _ _ i1.bb]; rfl
  have hl1 : w.heap.size + 1 < w8.heap.size := (Array.getElem?_eq_some_iff.1 i1.bb).1
  obtain ⟨bb, bc, rfl⟩ := own_slice o1
  have HO := Lib.hid o1
  have HFR := Lib.hid hfr
  clear i1 o1 f1 hP hfr HQ c2'
  go_wp2_with fail
  go_ret
  have hBB : Below w.heap.size w w8 := ⟨HFR.out.os.trans HB.out.os, HFR.out.tape.trans HB.out.tape, HFR.out.output.trans HB.out.output, Nat.le_trans HB.out.size HFR.out.size, fun k hk => (HFR.out.block k (Nat.lt_of_lt_of_le hk HB.out.size) (by omega) (by show some k ≠ none; simp)).trans (HB.out.block k hk)⟩
  exact ⟨_, rfl, own_base HO.out (by omega), hBB⟩
set_option maxHeartbeats 1000000 in
set_option maxRecDepth 100000 in
theorem Apart_err (wd wind voice : Int) (pl : Value) (hv : Value) (E : Int) (w : World) (hOQ : OQerr w wd wind voice pl hv E) :
    Calls Try.prog 50 #[.agg #[.int .i64 wd, pl], .agg #[.int .i64 wind, .int .i64 voice], hv] w fun e w' => e = .returned (.tuple #[.slice none 0 0, .int .i64 E]) ∧ Below w.heap.size w w' := by
  have hE : (E != 0) = true := by simpa using hOQ.1
  have HOQ := Lib.hid hOQ.2
  clear hOQ
  have hB2 : ∀ o1 o2, Below w.heap.size w ((w.alloc o1).alloc o2) := fun o1 o2 => al (al (Below.refl _ _) _) _
  unfold zeroWork at HOQ
  go_enter Try.func50, Try.ntmps50
  go_wp2_with fail
  refine (HOQ.out _ (hB2 _ _)).mono ?_
  rintro e w1 ⟨rfl, hB⟩
  have HB := Lib.hid (join (hB2 _ _) hB)
  clear hB hB2
  go_wp2
  go_ret2
  exact ⟨rfl, al HB.out _⟩
/-- what is left of the region 'apart(listeners(w, tables(w)))' -/
def spAp (t : Hr.Town) (wind voice : Int) (cnt : Nat → Bool) (wk : Value) (B : Nat) : Nat → List Value → Value → World → Prop
  | 0, _, v, _ => v = wk
  | 1, _, v, _ => v = wk
  | 2, _, v, w => ∃ vs, v = .agg vs ∧ TabsTo t wind 30 w vs
  | 3, _, v, w => w.ownsRow B 135 31 v (lis t wind voice cnt).length (lisV (lis t wind voice cnt))
  | 4, _, v, w => OwnN w B v (apartP (lis t wind voice cnt))
  | 5, _, v, w => OwnN w B v (apartP (lis t wind voice cnt))
  | 6, _, v, _ => v = .int .i64 0
  | _, _, _, _ => False
theorem spAp_stable (t : Hr.Town) (wind voice : Int) (cnt : Nat → Bool) (wk : Value) (B : Nat) : ∀ i L v w w', spAp t wind voice cnt wk B i L v w → Rs.Gr w w' → spAp t wind voice cnt wk B i L v w' := by
  intro i L v w w' h hg
  match i with
  | 0 => exact h
  | 1 => exact h
  | 2 => obtain ⟨vs, h1, h2⟩ := h; exact ⟨vs, h1, h2.below hg⟩
  | 3 => exact own_below h hg
  | 4 => exact OwnN.below h hg
  | 5 => exact OwnN.below h hg
  | 6 => exact h
  | _ + 7 => exact h.elim
set_option maxHeartbeats 2000000 in
set_option maxRecDepth 100000 in
theorem Apart_ok (t : Hr.Town) (hok : t.Ok) (wind voice : Int) (hw0 : 0 ≤ wind) (hw4 : wind ≤ 4) (b o cap : Nat) (hv : Value) (nm : List Bool) (hnl : nm.length = 30) (w : World) (hI : Ints w b o t.plots)
    (hOQ : OQ w t.wide wind voice (.slice (some ⟨b, o, none⟩) t.plots.length cap) hv nm) :
    Calls Try.prog 50 #[.agg #[.int .i64 t.wide, .slice (some ⟨b, o, none⟩) t.plots.length cap], .agg #[.int .i64 wind, .int .i64 voice], hv] w fun e w' =>
      ∃ v, e = .returned (.tuple #[v, .int .i64 0]) ∧ Below w.heap.size w w' ∧ OwnN w' w.heap.size v (apartP (lis t wind voice (nm.getD · false))) := by
  have HI := Lib.hid hI
  have HOQ := Lib.hid hOQ
  have hbl := hI.1
  clear hI hOQ
  have hB2 : ∀ o1 o2, Below w.heap.size w ((w.alloc o1).alloc o2) := fun o1 o2 => al (al (Below.refl _ _) _) _
  go_enter Try.func50, Try.ntmps50
  go_wp2_with fail
  refine (HOQ.out _ (hB2 _ _)).mono ?_
  rintro e w1 ⟨r, N, rfl, hD, hr, hN0, hN, hB⟩
  unfold qWork
  have HB := Lib.hid (join (hB2 _ _) hB)
  have HD := Lib.hid hD
  have HN := Lib.hid hN
  have hrl : r < w1.heap.size := dir_lt hD
  have hNl : N < w1.heap.size := (Array.getElem?_eq_some_iff.1 hN).1
  have hz1 : w.heap.size + 1 + 1 ≤ w1.heap.size := by have := hB.size; simp at this; omega
  clear hD hN hB hr
  go_wp2_with fail
  obtain ⟨wk, hwk⟩ : ∃ wk : Value, wk = .agg #[.int .i64 t.wide, .slice (some ⟨b, o, none⟩) t.plots.length cap, .int .i64 wind, .int .i64 voice, .map (some r), .func (.func 144) #[] #[.pointer (some ⟨N, 0, none⟩)]] := ⟨_, rfl⟩
  refine Rs.region_gen 7 [[], [], [1], [0, 1, 2], [0, 1, 2, 3], [0, 1, 2, 3, 4], [0, 1, 2, 3, 4, 5]] [some 20, some 21, some 22, some 23, some 24, some 6, some 7] (spAp t wind voice (nm.getD · false) wk w.heap.size) (by kernel_rfl) (by kernel_rfl) rfl (spAp_stable _ _ _ _ _ _) ?_ ?_
  · refine ⟨fun V w' hG hs => ?_, fun V w' hG hs => ?_, fun V w' hG hs => ?_, fun V w' hG hs => ?_, fun V w' hG hs => ?_, fun V w' hG hs => ?_, fun V w' hG hs => ?_, trivial⟩
    all_goals
      have hb0 := (hG.block w1.heap.size (by simp)).trans (heap_alloc_last _ _)
      obtain ⟨⟨k0, k1, k2, k3, k4, k5⟩, _, kl⟩ := blk_cells6 hb0
      rw [if_pos (by rfl)]
    · refine Rs.GrowL.value (v := wk) (w' := w') ?_ (Rs.Gr.refl _) rfl
      rw [hwk]
      simp [go_sem, Rs.look, k0, k1, k2, k3, k4, k5]
    · refine Rs.GrowL.value (v := wk) (w' := w') ?_ (Rs.Gr.refl _) rfl
      rw [hwk]
      simp [go_sem, Rs.look, k0, k1, k2, k3, k4, k5]
    · have e1 : V 1 = wk := hs 1 (by simp)
      refine Rs.GrowL.call (f := 101) (args := #[wk]) (by simp [go_sem, Rs.look, e1]) ?_
      have hBw := join (al HB.out _) hG
      rw [hwk]
      refine (tables_any t hok wind voice hw0 hw4 b o cap r _ _ _ w' (HI.out.below hBw hbl) ((hG.block r (by simp; omega)).trans (dir_al HD.out hrl _))).mono ?_
      rintro e w2 ⟨vs, rfl, hT, hB2⟩
      exact ⟨_, rfl, hB2, vs, rfl, hT⟩
    · have e0 : V 0 = wk := hs 0 (by simp)
      obtain ⟨vs, e2, hT⟩ : ∃ vs, V 2 = .agg vs ∧ TabsTo t wind 30 w' vs := hs 2 (by simp)
      refine Rs.GrowL.call (f := 102) (args := #[wk, .agg vs]) (by simp [go_sem, Rs.look, e0, e2]) ?_
      have hBw := join (al HB.out _) hG
      rw [hwk]
      have hN' := (hG.block N (by simp; omega)).trans ((Below.heap_alloc _ _ _ hNl).trans HN.out)
      refine (listeners_any t hok wind voice b o cap _ 144 _ (nm.getD · false) vs w' (HI.out.below hBw hbl) hT callF144 (fun p hp => cntQ_call N nm hnl w' hN' p (by have := hok.n30; omega))).mono ?_
      rintro e w2 ⟨v, rfl, hown, hB2⟩
      exact ⟨_, rfl, hB2, own_base hown (by have := hBw.size; omega)⟩
    · have r3 : w'.ownsRow w.heap.size 135 31 (V 3) (lis t wind voice (nm.getD · false)).length (lisV (lis t wind voice (nm.getD · false))) := hs 3 (by simp)
      obtain ⟨ob, cp, e3⟩ := own_slice r3
      rw [e3] at r3
      refine Rs.GrowL.call (f := 114) (args := #[.slice ob (lis t wind voice (nm.getD · false)).length cp]) (by simp [go_sem, Rs.look, e3]) ?_
      have hBw := join (al HB.out _) hG
      refine (apart_any ob cp (lis t wind voice (nm.getD · false)) (lis_row _ _ _ _).1 (Nat.le_trans (lisTo_len t wind voice _ t.len) hok.n30) w' (LiIn.of_own (lis_row _ _ _ _).1 r3)).mono ?_
      rintro e w2 ⟨v, rfl, hown, hB2⟩
      exact ⟨_, rfl, hB2, own_base hown (by have := hBw.size; omega)⟩
    · have r4 : OwnN w' w.heap.size (V 4) (apartP (lis t wind voice (nm.getD · false))) := hs 4 (by simp)
      exact Rs.GrowL.value (v := V 4) (w' := w') (by simp [go_sem, Rs.look]) (Rs.Gr.refl _) r4
    · exact Rs.GrowL.value (v := .int .i64 0) (w' := w') (by simp [go_sem, Rs.look]) (Rs.Gr.refl _) rfl
  · intro V w' hG hs
    have r5 : OwnN w' w.heap.size (V 5) (apartP (lis t wind voice (nm.getD · false))) := hs 5 (by omega)
    have e6 : V 6 = .int .i64 0 := hs 6 (by omega)
    have hBw := join (al HB.out (.cells #[.int .i64 t.wide, .slice (some ⟨b, o, none⟩) t.plots.length cap, .int .i64 wind, .int .i64 voice, .map (some r), .func (.func 144) #[] #[.pointer (some ⟨N, 0, none⟩)]] 119)) hG
    simp only [Rs.canon, Rs.dstOf, List.range_succ, List.range_zero, List.nil_append, List.cons_append, List.foldl_cons, List.foldl_nil, List.drop_succ_cons, List.drop_zero, List.drop_nil, List.getElem?_toArray, List.getElem?_cons_succ, List.getElem?_cons_zero, Option.bind_some, Act.put, List.getD_cons_succ, List.getD_cons_zero, List.setIfInBounds_toArray, List.set_cons_succ, List.set_cons_zero]
    rw [e6]
    generalize V 0 = y0
    generalize V 1 = y1
    generalize V 2 = y2
    generalize V 3 = y3
    generalize V 4 = y4
    generalize V 5 = v at r5 ⊢
    have H5 := Lib.hid r5
    have HBW := Lib.hid hBw
    clear hs e6 r5 hBw hG hwk
    go_wp2_with fail
    go_ret2
    exact ⟨_, rfl, HBW.out, H5.out⟩
end Go.Proofs.Ytimedmkpenbmkaa
end
section
namespace Go.Proofs.Ytimedmkpenbmkaa
open Go.RowKit Go.Shelf
set_option linter.unusedSimpArgs false
set_option linter.unusedVariables false
theorem kind_count : ∀ (xs : List Int), (kindIdx xs 1).length = cnt1 xs := by
  intro xs
  have h : ∀ k, k ≤ xs.length → (kindTo xs 1 k).length = cnt1 (xs.take k) := by
    intro k
    induction k with
    | zero => intro _; rfl
    | succ k ih =>
      intro hk
      have e1 : xs.take (k + 1) = xs.take k ++ [xs[k]'(by omega)] := List.take_succ_eq_append_getElem (by omega)
      have e2 : xs.getD k 0 = xs[k]'(by omega) := by rw [List.getD_eq_getElem?_getD, List.getElem?_eq_getElem (by omega)]; rfl
      have ih := ih (by omega)
      unfold cnt1 at ih ⊢
      rw [e1, List.countP_append]
      by_cases e : (xs.getD k 0 == 1) = true
      · rw [kindTo_yes e, List.length_append, ih, List.countP_cons_of_pos (by rw [← e2]; exact e)]; rfl
      · rw [kindTo_no (by simpa using e), ih, List.countP_cons_of_neg (by rw [← e2]; exact e)]; rfl
  have := h xs.length (Nat.le_refl _)
  rwa [List.take_length] at this
theorem houses_ten {t : Hr.Town} (hc : checkErr t.wide t.plots = 0) : (kindIdx t.plots 1).length ≤ 10 := by
  rw [kind_count]
  unfold checkErr at hc
  by_cases h1 : ((t.wide : Int) < 1 ∨ 6 < (t.wide : Int) ∨ t.plots.length < 1 ∨ 30 < t.plots.length ∨ (t.plots.length : Int) % (t.wide : Int) ≠ 0)
  · rw [if_pos h1] at hc; cases hc
  · rw [if_neg h1] at hc
    by_cases h2 : t.plots.any badPlot = true
    · rw [if_pos h2] at hc; cases hc
    · rw [if_neg h2] at hc
      by_cases h3 : 10 < cnt1 t.plots
      · rw [if_pos h3] at hc; cases hc
      · omega
theorem kind_nodup (xs : List Int) (k : Int) : (kindIdx xs k).Nodup := by
  unfold kindIdx kindTo List.Nodup
  rw [List.pairwise_map]
  exact (List.Pairwise.filter _ List.nodup_range).imp fun h => by omega
/-- houses of a town, each at most once -/
structure Named (t : Hr.Town) (hs : List Int) : Prop where
  ok : t.Ok
  chk : checkErr t.wide t.plots = 0
  all : ∀ h ∈ hs, h ∈ kindIdx t.plots 1
  nd : hs.Nodup
theorem Named.len {t : Hr.Town} {hs : List Int} (h : Named t hs) : hs.length ≤ 10 := by
  have le : ∀ {A B : List Int}, A.Nodup → (∀ a ∈ A, a ∈ B) → A.length ≤ B.length := by
    intro A
    induction A with
    | nil => intro B _ _; simp
    | cons a A ih =>
      intro B hn hs
      rw [List.nodup_cons] at hn
      have h1 := ih (B := B.erase a) hn.2 fun x hx => by
        have hne : x ≠ a := fun e => hn.1 (by rw [← e]; exact hx)
        exact (List.mem_erase_of_ne hne).2 (hs x (by simp [hx]))
      have h2 := hs a (by simp)
      rw [List.length_erase_of_mem h2] at h1
      have : 0 < B.length := List.length_pos_of_mem h2
      simp; omega
  exact Nat.le_trans (le h.nd h.all) (houses_ten h.chk)
theorem Named.lis {t : Hr.Town} {hs : List Int} (h : Named t hs) (wind voice : Int) : (lis t wind voice (inL hs)).length ≤ 10 := by
  rw [lis_count h.all h.nd]; exact h.len
def qN (t : Hr.Town) (hs : List Int) : List Bool := (qAll t.plots (List.replicate 30 false) hs).2
theorem named_OQ {t : Hr.Town} {hs : List Int} (h : Named t hs) (wind voice : Int) (ha : airErr wind voice = 0) (b o cap : Nat) (a : Option Addr) (hcap : Nat) (w : World) (hP : RdI w (.slice (some ⟨b, o, none⟩) t.plots.length cap) t.plots)
    (hR : RdI w (.slice a hs.length hcap) hs) :
    Ints w b o t.plots ∧ OQ w t.wide wind voice (.slice (some ⟨b, o, none⟩) t.plots.length cap) (.slice a hs.length hcap) (qN t hs) := by
  have hne : t.plots ≠ [] := by intro e; have := (check_len h.chk).2; rw [e] at this; simp at this
  obtain ⟨b', o', e', -, hI⟩ := rd_ints hP hne
  cases e'
  have hn30 : t.plots.length ≤ 30 := h.ok.n30
  have := h.len
  exact ⟨hI, oq_of t h.chk wind voice ha b o cap a hcap hs (by omega) w (rd_plots hP (by omega)) hI hR (lis_named h.ok wind voice h.all h.nd).1⟩
def natI (l : List Nat) : List Int := l.map fun (x : Nat) => (x : Int)
theorem natI_len (l : List Nat) : (natI l).length = l.length := by simp [natI]
theorem OwnN.rd {W : World} {base : Nat} {v : Value} {l : List Nat} (h : OwnN W base v l) : RdI W v (natI l) :=
  RdI.own (by simp [natI]) (by simp [natI]) h
theorem Apart_n {t : Hr.Town} {hs : List Int} (h : Named t hs) (wind voice : Int) (ha : airErr wind voice = 0) (b o cap : Nat) (a : Option Addr) (hcap : Nat) (w : World) (hP : RdI w (.slice (some ⟨b, o, none⟩) t.plots.length cap) t.plots)
    (hR : RdI w (.slice a hs.length hcap) hs) :
    Calls Try.prog 50 #[.agg #[.int .i64 t.wide, .slice (some ⟨b, o, none⟩) t.plots.length cap], .agg #[.int .i64 wind, .int .i64 voice], .slice a hs.length hcap] w fun e w' =>
      ∃ v, e = .returned (.tuple #[v, .int .i64 0]) ∧ Below w.heap.size w w' ∧ RdI w' v (natI (apartP (lis t wind voice (inL hs)))) := by
  obtain ⟨hI, hOQ⟩ := named_OQ h wind voice ha b o cap a hcap w hP hR
  obtain ⟨w0, w4, v1, v40⟩ := wind_ok ha
  obtain ⟨-, hnl, hl⟩ := lis_named h.ok wind voice h.all h.nd
  refine (Apart_ok t h.ok wind voice w0 w4 b o cap _ (qN t hs) hnl w hI hOQ).mono ?_
  rintro e w' ⟨v, rfl, hB, h1⟩
  change lis t wind voice ((qN t hs).getD · false) = _ at hl
  rw [hl] at h1
  exact ⟨v, rfl, hB, h1.rd⟩
end Go.Proofs.Ytimedmkpenbmkaa
end
section
namespace Go.Proofs.Ytimedmkpenbmkaa
open Go.RowKit Go.Shelf
set_option linter.unusedSimpArgs false
set_option linter.unusedVariables false
theorem ears_get {t : Hr.Town} {wind voice : Int} {h s : Nat} : (ears t wind voice h).getD s false = (decide (s < 30) && hearB t wind voice h s) := by
  unfold ears
  rw [List.getD_eq_getElem?_getD, List.getElem?_map]
  by_cases e : s < 30
  · simp [List.getElem?_range, e]
  · simp [e]
theorem hit_ears {t : Hr.Town} {wind voice : Int} {S : List Nat} {h : Nat} : hit S (ears t wind voice h) = true ↔ ∃ s ∈ S, s < 30 ∧ hearB t wind voice h s = true := by
  unfold hit
  rw [List.any_eq_true]
  constructor
  · rintro ⟨s, hs, e⟩
    rw [ears_get, Bool.and_eq_true, decide_eq_true_iff] at e
    exact ⟨s, hs, e⟩
  · rintro ⟨s, hs, e⟩
    exact ⟨s, hs, by rw [ears_get, Bool.and_eq_true, decide_eq_true_iff]; exact e⟩
theorem cnt_lis (t : Hr.Town) (wind voice : Int) (cnt : Nat → Bool) (S : List Nat) : cntS (lis t wind voice cnt) S = ((List.range t.len).filter fun p => t.at p == 1 && cnt p).countP fun p => hit S (ears t wind voice p) := by
  unfold cntS lis lisTo
  rw [List.filter_map, List.length_map, List.countP_eq_length_filter]
  rfl
theorem no_deaf {e : List Bool} {s : Nat} (h : e.getD s false = true) : deafB e = false := by
  cases hd : deafB e
  · rfl
  · unfold deafB at hd
    rw [decide_eq_true_iff] at hd
    rw [hd, List.getD_eq_getElem?_getD, List.getElem?_replicate] at h
    split at h <;> cases h
/-- stands that are chosen are streets -/
theorem chosen_street {t : Hr.Town} {wind voice : Int} {cnt : Nat → Bool} {st : Nat} {ch : List Nat} {n : Nat} (hc : Chosen (lis t wind voice cnt) st ch n) : ∀ s ∈ ch, s < t.len ∧ t.at s = 0 := by
  intro s hs
  false_or_by_contra
  rename_i hno
  have hb : ∀ h, hearB t wind voice h s = false := fun h => by
    unfold hearB
    rw [decide_eq_false hno, Bool.false_and]
  have e : cntS (lis t wind voice cnt) (ch.erase s) = n := by
    rw [← hc.cnt, cnt_lis, cnt_lis]
    apply List.countP_congr
    intro p _
    rw [hit_ears, hit_ears]
    constructor
    · rintro ⟨q, hq, h1, h2⟩
      exact ⟨q, List.mem_of_mem_erase hq, h1, h2⟩
    · rintro ⟨q, hq, h1, h2⟩
      have hne : q ≠ s := fun e => by rw [e, hb p] at h2; cases h2
      exact ⟨q, (List.mem_erase_of_ne hne).2 hq, h1, h2⟩
  have h1 := hc.short (ch.erase s) (fun q hq => hc.bd q (List.mem_of_mem_erase hq)) (by omega)
  rw [List.length_erase_of_mem hs] at h1
  have : 0 < ch.length := List.length_pos_of_mem hs
  omega
end Go.Proofs.Ytimedmkpenbmkaa
end
section
namespace Go.Proofs.Ytimedmkpenbmkaa
open Go.RowKit Go.Shelf
set_option linter.unusedSimpArgs false
set_option linter.unusedVariables false
theorem hearB_lt {t : Hr.Town} {wind voice : Int} {h s : Nat} (e : hearB t wind voice h s = true) : s < t.len := by
  unfold hearB at e
  rw [Bool.and_eq_true, decide_eq_true_iff] at e
  exact e.1.1
theorem firstE_okv {l : List (Nat × List Bool)} (hl : ∀ x ∈ l, x.2.length = 30) : firstE l = 0 ↔ ∀ x ∈ l, ∃ s, s < 30 ∧ x.2.getD s false = true := by
  constructor
  · intro h x hx
    have := err_heard hl h x hx
    exact deaf_hit this.1 this.2
  · intro h
    rw [firstE_eq, if_neg]
    intro e
    obtain ⟨x, hx, hd⟩ := List.any_eq_true.1 e
    obtain ⟨s, _, hs⟩ := h x hx
    rw [no_deaf hs] at hd; cases hd
end Go.Proofs.Ytimedmkpenbmkaa
end
section
namespace Go.Proofs.Ytimedmkpenbmkaa
open Go.RowKit Go.Shelf
set_option linter.unusedSimpArgs false
set_option linter.unusedVariables false
theorem A_info31 : (Try.prog.info? 31).map (fun i => (i.zero, i.size, i.bytes)) = some (some (.slice none 0 0), 1, 24) := by kernel_rfl
theorem make62 (k : Nat) (hk : k ≤ 1000) (W : World) : (Instr.makeSlice 62 (.int .i64 k) (.int .i64 k)).run Try.prog W = .ok (.slice (some ⟨W.heap.size, 0, none⟩) k k) (W.alloc (.cells (Array.replicate k (Value.slice none 0 0)) 31)) := by
  obtain ⟨i0, hi, hz0, hz1, hz2⟩ := info_parts A_info31
  have h := run_make (P := Try.prog) W 62 31 i0 (.slice none 0 0) Try.underlying62 hi hz0 .i64 .i64 k k (by omega) (by omega) (by rw [hz2]; omega) (by omega)
  rw [h]
  have e : madeCells (Value.slice none 0 0).cells ((k : Int).toNat * i0.size) = Array.replicate k (Value.slice none 0 0) := by
    rw [hz1]
    apply Array.ext
    · simp [madeCells]
    · intro i h1 h2
      simp [madeCells, Value.cells, Nat.mod_one]
  rw [e]
  simp
/-- rows of numbers that grow, in a row of slices -/
structure ErW (n O : Nat) (E : Nat → List Int) (vs : List Value) (W : World) : Prop where
  len : vs.length = n
  blk : W.heap[O]? = some (.cells vs.toArray 31 (0, 0))
  own : ∀ p, p < n → W.ownsRow (O + 1) 3 1 (vs.getD p (.slice none 0 0)) (E p).length ((E p).map (Value.int .i64))
  apart : ∀ p q, p < n → q < n → p ≠ q → ∀ g, (vs.getD p (.slice none 0 0)).ownBlock = some g → (vs.getD q (.slice none 0 0)).ownBlock ≠ some g
theorem ErW.below {n O : Nat} {E : Nat → List Int} {vs : List Value} {W W' : World} (h : ErW n O E vs W) (hB : Below W.heap.size W W') : ErW n O E vs W' :=
  ⟨h.len, (hB.block _ (Array.getElem?_eq_some_iff.1 h.blk).1).trans h.blk, fun p hp => own_below (h.own p hp) hB, h.apart⟩
theorem ErW.congr {n O : Nat} {E E' : Nat → List Int} {vs : List Value} {W : World} (h : ErW n O E vs W) (he : ∀ p, p < n → E' p = E p) : ErW n O E' vs W :=
  ⟨h.len, h.blk, fun p hp => by rw [he p hp]; exact h.own p hp, h.apart⟩
theorem ErW.lt {n O : Nat} {E : Nat → List Int} {vs : List Value} {W : World} (h : ErW n O E vs W) : O < W.heap.size := (Array.getElem?_eq_some_iff.1 h.blk).1
theorem ErW.cell {n O : Nat} {E : Nat → List Int} {vs : List Value} {W : World} (h : ErW n O E vs W) {p : Nat} (hp : p < n) : W.cell? ⟨O, p, none⟩ = some (vs.getD p (.slice none 0 0)) := by
  rw [cell_of_row _ _ _ _ _ _ h.blk]
  simp [List.getElem?_eq_getElem (show p < vs.length by rw [h.len]; exact hp)]
theorem getD_setV (l : List Value) (i j : Nat) (v z : Value) (h : i < l.length) : (l.set i v).getD j z = if i = j then v else l.getD j z := by
  simp only [List.getD_eq_getElem?_getD, List.getElem?_set]
  split
  · rename_i e; subst e; simp [h]
  · rfl
theorem ErW.app {n O : Nat} {E : Nat → List Int} {vs : List Value} {W W2 w8 : World} (h : ErW n O E vs W) (hB : Below W.heap.size W W2) {p : Nat} (hp : p < n) {x : Int} {v' : Value}
    (ho : w8.ownsRow (O + 1) 3 1 v' ((E p).length + 1) ((E p).map (Value.int .i64) ++ [.int .i64 x])) (hg : W2.grownBy w8 (vs.getD p (.slice none 0 0)).ownBlock) (hat : v'.ownBlock = (vs.getD p (.slice none 0 0)).ownBlock ∨ v'.ownBlock = some W2.heap.size) :
    ErW n O (fun q => if q = p then E p ++ [x] else E q) (vs.set p v') (w8.setCell ⟨O, p, none⟩ v') ∧ w8.cell? ⟨O, p, none⟩ = some (vs.getD p (.slice none 0 0)) ∧ w8.frozen? ⟨O, p, none⟩ = false := by
  have h2 := h.below hB
  have hOl := h2.lt
  have hpl : p < vs.length := by rw [h.len]; exact hp
  have hOne : some O ≠ (vs.getD p (.slice none 0 0)).ownBlock := fun e => by have := (h.own p hp).lt O e.symm; omega
  have hb8 := (hg.block O hOl hOne).trans h2.blk
  refine ⟨⟨by rw [List.length_set]; exact h.len, ?_, fun q hq => ?_, fun q r hq hr hne g h1 h3 => ?_⟩, ?_, frozen_of_row _ _ _ _ _ hb8⟩
  · rw [heap_set_same _ hb8]; simp [List.set_toArray]
  · have hset := grown_set w8 O p v'
    rw [getD_setV _ _ _ _ _ hpl]
    by_cases e : p = q
    · subst e
      simp only [if_true]
      have : (E p ++ [x]).length = (E p).length + 1 := by simp
      rw [this, List.map_append]
      refine ho.kept hset ?_
      by_cases hn : v'.ownBlock = none
      · exact .inl hn
      · right; intro e; have := ho.lt O e; omega
    · rw [if_neg e]
      have e' : ¬ q = p := fun h => e h.symm
      simp only [e', if_false]
      have hq8 : w8.ownsRow (O + 1) 3 1 (vs.getD q (.slice none 0 0)) (E q).length ((E q).map (Value.int .i64)) := by
        refine (h2.own q hq).kept hg ?_
        cases hb : (vs.getD q (.slice none 0 0)).ownBlock with
        | none => exact .inl rfl
        | some g => exact .inr (fun e2 => h.apart p q hp hq e g e2.symm hb)
      refine hq8.kept hset ?_
      by_cases hn : (vs.getD q (.slice none 0 0)).ownBlock = none
      · exact .inl hn
      · right; intro e; have := hq8.lt O e; omega
  · rw [getD_setV _ _ _ _ _ hpl] at h1 h3
    by_cases e1 : p = q
    · subst e1
      rw [if_pos rfl] at h1
      rw [if_neg hne] at h3
      rcases hat with ha | ha
      · rw [ha] at h1; exact h.apart p r hp hr hne g h1 h3
      · rw [ha] at h1; injection h1 with h1; have := (h2.own r hr).lt g h3; omega
    · rw [if_neg e1] at h1
      by_cases e2 : p = r
      · subst e2
        rw [if_pos rfl] at h3
        rcases hat with ha | ha
        · rw [ha] at h3; exact h.apart q p hq hp hne g h1 h3
        · rw [ha] at h3; injection h3 with h3; have := (h2.own q hq).lt g h1; omega
      · rw [if_neg e2] at h3; exact h.apart q r hq hr hne g h1 h3
  · rw [cell_of_row _ _ _ _ _ _ hb8]
    simp [List.getElem?_eq_getElem hpl]
/-- the stands among the first ones that a house hears -/
def earsE (t : Hr.Town) (wind voice : Int) (k p : Nat) : List Int := if t.at p = 1 then standsTo t wind voice p k else []
theorem earsE_len (t : Hr.Town) (wind voice : Int) (k p : Nat) : (earsE t wind voice k p).length ≤ k := by
  unfold earsE; split
  · exact standsTo_len _ _ _ _ _
  · simp
theorem earsE_no {t : Hr.Town} {wind voice : Int} {k p : Nat} (h : t.at p = 1 → hearB t wind voice p k = false) : earsE t wind voice (k + 1) p = earsE t wind voice k p := by
  unfold earsE; split
  · rename_i e; rw [standsTo_no (h e)]
  · rfl
theorem earsE_yes {t : Hr.Town} {wind voice : Int} {k p : Nat} (h1 : t.at p = 1) (h : hearB t wind voice p k = true) : earsE t wind voice (k + 1) p = earsE t wind voice k p ++ [(k : Int)] := by
  unfold earsE; rw [if_pos h1, if_pos h1, standsTo_yes h]
def earsM (t : Hr.Town) (wind voice : Int) (k q p : Nat) : List Int := if p < q then earsE t wind voice (k + 1) p else earsE t wind voice k p
set_option maxHeartbeats 4000000 in
set_option maxRecDepth 100000 in
theorem refEars_yes (t : Hr.Town) (ok : t.Ok) (wind voice : Int) (he : openErr t.wide t.plots wind voice = 0) (b o cap : Nat) (w : World) (hI : Ints w b o t.plots) :
    Calls Try.prog 38 #[.agg #[.int .i64 t.wide, .slice (some ⟨b, o, none⟩) t.plots.length cap], .int .i64 wind, .int .i64 voice] w fun e w' => ∃ O vs, e = .returned (.slice (some ⟨O, 0, none⟩) t.plots.length t.plots.length) ∧ ErW t.plots.length O (earsE t wind voice t.plots.length) vs w' ∧ w.heap.size ≤ O ∧ Below w.heap.size w w' := by
  obtain ⟨i0, hi, hz0, hz1, hz2⟩ := info_parts A_info3
  obtain ⟨hc, ha⟩ := openErr_ok he
  obtain ⟨w0, w4, v1, v40⟩ := wind_ok ha
  have h30 : t.plots.length ≤ 30 := ok.n30
  have hmk := make62 t.plots.length (by omega)
  have HC := Lib.hid hc
  have HB := Lib.hid (below1 w (.cells #[.int .i64 t.wide, .slice (some ⟨b, o, none⟩) t.plots.length cap] 33))
  have hx0 : (w.alloc (.cells #[.int .i64 t.wide, .slice (some ⟨b, o, none⟩) t.plots.length cap] 33)).heap[w.heap.size]? = some (.cells #[.int .i64 t.wide, .slice (some ⟨b, o, none⟩) t.plots.length cap] 33 (0, 0)) := heap_alloc_last _ _
  obtain ⟨k0, k1⟩ := blk_cells2 hx0
  have HI := Lib.hid (hI.below HB.out hI.1)
  have HX0 := Lib.hid hx0
  clear he hc ha hI hx0
  go_enter Try.func38, Try.ntmps38
  go_wp2_with fail
  clear hmk
  obtain ⟨W1, hW1⟩ : ∃ W1, W1 = w.alloc (.cells #[.int .i64 t.wide, .slice (some ⟨b, o, none⟩) t.plots.length cap] 33) := ⟨_, rfl⟩
  rw [← hW1] at HI HX0 HB k0 k1 ⊢
  have hs1 : w.heap.size < W1.heap.size := by rw [hW1]; simp
  have hs1e : W1.heap.size = w.heap.size + 1 := by rw [hW1]; simp
  obtain ⟨W2, hW2⟩ : ∃ W2, W2 = W1.alloc (.cells (Array.replicate t.plots.length (Value.slice none 0 0)) 31) := ⟨_, rfl⟩
  rw [← hW2]
  have hE2 : ErW t.plots.length (w.heap.size + 1) (earsE t wind voice 0) (List.replicate t.plots.length (Value.slice none 0 0)) W2 := by
    refine ⟨by simp, by rw [hW2, ← hs1e]; have := heap_alloc_last W1 (.cells (Array.replicate t.plots.length (Value.slice none 0 0)) 31); simpa using this, fun p hp => ?_, fun p q hp hq hne g h => ?_⟩
    · have e : earsE t wind voice 0 p = [] := by unfold earsE standsTo; split <;> simp
      rw [e]
      have : (List.replicate t.plots.length (Value.slice none 0 0)).getD p (.slice none 0 0) = .slice none 0 0 := by simp [List.getD_eq_getElem?_getD, List.getElem?_replicate, hp]
      rw [this]
      exact own_none _ _ _ _
    · have : (List.replicate t.plots.length (Value.slice none 0 0)).getD p (.slice none 0 0) = .slice none 0 0 := by simp [List.getD_eq_getElem?_getD, List.getElem?_replicate, hp]
      rw [this] at h; cases h
  have HE2 := Lib.hid hE2
  have HB2 : Hid (Below (w.heap.size + 1) W1 W2) := Lib.hid (by rw [hW2, ← hs1e]; exact below1 _ _)
  have HS1 := Lib.hid hs1e
  clear hE2 hW1 hW2 k0 k1 hs1e hs1
  go_loopw [8] (fun i wr => ∃ (k : Nat) (vs : List Value), k ≤ t.plots.length ∧ i = .int .i64 k ∧ ErW t.plots.length (w.heap.size + 1) (earsE t wind voice k) vs wr ∧ Below (w.heap.size + 1) W1 wr) (fun i _ => t.plots.length - (intOf i).toNat)
  case atStart => exact ⟨0, _, Nat.zero_le _, rfl, HE2.out, HB2.out⟩
  case round =>
    obtain ⟨k, vs, hk, rfl, hE, hBr⟩ := hrel
    obtain ⟨wk, rfl⟩ : ∃ wk : World, wk = wr := ⟨_, rfl⟩
    have HE := Lib.hid hE
    have HBr := Lib.hid hBr
    have hx0 := (hBr.block _ (by omega)).trans HX0.out
    obtain ⟨k0, k1⟩ := blk_cells2 hx0
    have hz0l : w.heap.size < wk.heap.size := (Array.getElem?_eq_some_iff.1 hx0).1
    have HX1 := Lib.hid hx0
    have hIk := HI.out.below hBr (by rw [← HS1.out]; exact HI.out.1)
    have HIk := Lib.hid hIk
    have hwk : w.heap.size + 1 ≤ wk.heap.size := by have := hBr.size; omega
    clear hE hBr hx0
    by_cases hlt : k < t.plots.length
    · have hlt' : (k : Int) < t.plots.length := by omega
      have hc := hIk.2 k hlt
      have hbl := hIk.1
      obtain ⟨kd, hkd⟩ : ∃ kd, t.plots.getD k 0 = kd := ⟨_, rfl⟩
      rw [hkd] at hc
      have HKD : Hid (t.at k = kd) := Lib.hid hkd
      clear hkd hIk
      by_cases h0 : kd = 0
      · subst h0
        have he : needsErr t.wide t.plots wind k = 0 := by
          have hp : plotErr t.plots k 0 = 0 := by unfold plotErr; rw [if_neg (by omega), Int.toNat_natCast]; exact if_pos HKD.out
          have ha : airErr wind 40 = 0 := by unfold airErr; rw [if_neg (by omega)]
          unfold needsErr openErr
          simp [HC.out, ha, hp]
        have HN := Lib.hid (fun W (hI : Ints W b o t.plots) => refNeeds_yes t ok wind k hlt he b o cap W hI)
        clear he
        go_wp2_with fail
        refine (HN.out _ HIk.out).mono ?_
        rintro e w5 ⟨tb, rfl, hT, htb, hB⟩
        obtain ⟨X, hX⟩ : ∃ X, X = t.needs wind k := ⟨_, rfl⟩
        rw [← hX] at hT
        have HT := Lib.hid hT
        have HX := Lib.hid hX
        have HXL : Hid (X.length = t.plots.length) := Lib.hid (by rw [hX]; exact needs_len ok wind hlt)
        have HE5 := Lib.hid (HE.out.below hB)
        have HB5 := Lib.hid (HBr.out.trans (hB.mono hwk))
        have HOF : Hid (∀ p, p < t.plots.length → ∀ g, (vs.getD p (.slice none 0 0)).ownBlock = some g → g ≠ tb) := Lib.hid (fun p hp g hg => by have := (HE.out.own p hp).lt g hg; omega)
        have hl5 : t.len = t.plots.length := rfl
        have HTL := Lib.hid hl5
        have htbO : w.heap.size + 1 < tb := by have := HE.out.lt; omega
        rw [hl5]
        clear hT hX hB hl5 HE HBr HN hc k0 k1 HIk HX1 htb
        go_wp2_with fail
        go_loopw [11] (fun i wr => ∃ (q : Nat) (us : List Value), q ≤ t.plots.length ∧ i = .int .i64 q ∧ ErW t.plots.length (w.heap.size + 1) (earsM t wind voice k q) us wr ∧ (∀ p, p < t.plots.length → ∀ g, (us.getD p (.slice none 0 0)).ownBlock = some g → g ≠ tb) ∧ TabAt wr tb X ∧ Below (w.heap.size + 1) W1 wr) (fun i _ => t.plots.length - (intOf i).toNat)
        case atStart => exact ⟨0, vs, Nat.zero_le _, rfl, HE5.out.congr (fun p hp => by unfold earsM; rw [if_neg (by omega)]), HOF.out, HT.out, HB5.out⟩
        case round =>
          obtain ⟨q, us, hq, rfl, hE, hOF, hT, hBr⟩ := hrel
          obtain ⟨wq, rfl⟩ : ∃ wq : World, wq = wr := ⟨_, rfl⟩
          have HEq := Lib.hid hE
          have HBq := Lib.hid hBr
          have HOFq := Lib.hid hOF
          have HTq := Lib.hid hT
          have hx0 := (hBr.block _ (by omega)).trans HX0.out
          obtain ⟨k0, k1⟩ := blk_cells2 hx0
          have hz0l : w.heap.size < wq.heap.size := (Array.getElem?_eq_some_iff.1 hx0).1
          have hIq := HI.out.below hBr (by rw [← HS1.out]; exact HI.out.1)
          have hwq : w.heap.size + 1 ≤ wq.heap.size := by have := hBr.size; omega
          clear hBr hx0 hE hOF hT HE5 HB5 HOF HT
          by_cases hlq : q < t.plots.length
          · have hlq' : (q : Int) < t.plots.length := by omega
            have hcq := hIq.2 q hlq
            have hbq := hIq.1
            obtain ⟨kq, hkq⟩ : ∃ kq, t.plots.getD q 0 = kq := ⟨_, rfl⟩
            rw [hkq] at hcq
            have HKQ : Hid (t.at q = kq) := Lib.hid hkq
            have cx := HTq.out.cell (i := q) (by rw [HXL.out]; exact hlq)
            have htl := HTq.out.lt
            obtain ⟨y, hy⟩ : ∃ y, X.getD q 0 = y := ⟨_, rfl⟩
            rw [hy] at cx
            have hyr : y = -1 ∨ 0 ≤ y := by
              rw [← hy, HX.out]; exact (Hr.needs_fix ok wind hlt).inv.nn q hlq
            have HHB : Hid (hearB t wind voice q k = (y != -1 && decide (y ≤ voice))) := Lib.hid (by unfold hearB; rw [← hy, HX.out]; simp [HKD.out, show k < t.len from hlt])
            clear hkq hy hIq
            have HNO : Hid (hearB t wind voice q k = false ∨ kq ≠ 1 → ∀ p, p < t.plots.length → earsM t wind voice k (q + 1) p = earsM t wind voice k q p) := Lib.hid (fun h p hp => by
              unfold earsM
              by_cases e : p = q
              · subst e
                rw [if_pos (by omega), if_neg (by omega)]
                refine earsE_no (fun h1 => ?_)
                rcases h with h | h
                · exact h
                · exact absurd (HKQ.out.symm.trans h1) h
              · by_cases e2 : p < q
                · rw [if_pos (by omega), if_pos e2]
                · rw [if_neg (by omega), if_neg e2])
            by_cases h1 : kq = 1
            · by_cases hh : 0 ≤ y ∧ y ≤ voice
              · obtain ⟨hy0, hyv⟩ := hh
                have HYES : Hid (hearB t wind voice q k = true) := Lib.hid (by rw [HHB.out]; simp; omega)
                have hlen : (earsM t wind voice k q q).length ≤ 30 := by unfold earsM; rw [if_neg (by omega)]; have := earsE_len t wind voice k q; omega
                have cO := HEq.out.cell hlq
                have hOl := HEq.out.lt
                obtain ⟨uq, huq⟩ : ∃ uq, us.getD q (.slice none 0 0) = uq := ⟨_, rfl⟩
                have HUQ := Lib.hid huq
                have hown := HEq.out.own q hlq
                rw [huq] at cO hown
                have HOQ := Lib.hid hown
                subst h1
                clear hyr huq hown HNO
                go_wp2_with (at_builtin; refine wpList_append_own_at _ rfl _ _ 31 rfl (w.heap.size + 1 + 1) 3 i0 (.int .i64 0) 1 8 A_und31 hi hz0 hz1 hz2 rfl (by decide) _ _ _ rfl (HOQ.out.alloc _) ⟨wq.heap.size, 0, none⟩ 1 1 [.int .i64 (k : Int)] rfl rfl ?d1 ?d2 ?d3 ?d4 ?d5 ?_)
                case d1 => exact cell_one_new _ _ _
                case d2 => intro u hu; simp at hu; subst hu; rfl
                case d3 => unfold maxLen; omega
                case d4 => omega
                case d5 => simp; omega
                intro v' w8 hown8 hgrow _ hat
                obtain ⟨ob8, cp8, rfl⟩ := own_slice hown8
                have hal := below1 wq (.cells #[.int .i64 (k : Int)] 3)
                have happ := HEq.out.app hal hlq (x := k) hown8 (by rw [HUQ.out]; exact hgrow) (by rw [HUQ.out]; simpa using hat)
                obtain ⟨hE8, c8, f8⟩ := happ
                have hOl8 : w.heap.size + 1 < w8.heap.size := by have := hgrow.size; simp at this; omega
                have hB8 := below_grown (al2 HBq.out (by omega) (.cells #[.int .i64 (k : Int)] 3)) (HOQ.out.alloc _) (by omega) (by simp; omega) hgrow
                have hT8 : TabAt w8 tb X := by
                  refine (hgrow.block tb (by simp; omega) (fun e => ?_)).trans ((Below.heap_alloc _ _ _ htl).trans HTq.out)
                  exact HOFq.out q hlq tb (by rw [HUQ.out]; exact e.symm) rfl
                have HE8 := Lib.hid (hE8.congr (E' := earsM t wind voice k (q + 1)) (fun p hp => by
                  by_cases e : p = q
                  · subst e
                    rw [if_pos rfl]
                    unfold earsM
                    rw [if_pos (by omega), if_neg (by omega)]
                    exact earsE_yes HKQ.out HYES.out
                  · rw [if_neg e]
                    unfold earsM
                    by_cases e2 : p < q
                    · rw [if_pos (by omega), if_pos e2]
                    · rw [if_neg (by omega), if_neg e2]))
                have HB8 := Lib.hid (hB8.setCell (p := ⟨w.heap.size + 1, q, none⟩) (Nat.le_refl _) (.slice ob8 ((earsM t wind voice k q q).length + 1) cp8))
                have HT8 : Hid (TabAt (w8.setCell ⟨w.heap.size + 1, q, none⟩ (.slice ob8 ((earsM t wind voice k q q).length + 1) cp8)) tb X) := Lib.hid ((Below.heap_setCell _ _ _ _ (show tb ≠ w.heap.size + 1 by omega)).trans hT8)
                have HOF8 : Hid (∀ p, p < t.plots.length → ∀ g, ((us.set q (.slice ob8 ((earsM t wind voice k q q).length + 1) cp8)).getD p (.slice none 0 0)).ownBlock = some g → g ≠ tb) := Lib.hid (fun p hp g hg => by
                  rw [getD_setV _ _ _ _ _ (by rw [HEq.out.len]; exact hlq)] at hg
                  by_cases e : q = p
                  · rw [if_pos e] at hg
                    rcases hat with ha | ha
                    · rw [ha] at hg; exact HOFq.out q hlq g (by rw [HUQ.out]; exact hg)
                    · rw [ha] at hg; injection hg with hg; omega
                  · rw [if_neg e] at hg; exact HOFq.out p hp g hg)
                clear hown8 hgrow hat hal hE8 hB8 hT8
                go_wp2_with fail
                go_roundw
                case rel => exact ⟨q + 1, _, by omega, by simp, HE8.out, HOF8.out, HT8.out, HB8.out⟩
                case measure => simp [intOf]; omega
              · have HNE := Lib.hid (HEq.out.congr (HNO.out (.inl (by rw [HHB.out]; simp; omega))))
                subst h1
                by_cases hy0 : 0 ≤ y
                · have hyv : voice < y := by omega
                  clear hyr hh HNO
                  go_wp2_with fail
                  go_roundw
                  case rel => exact ⟨q + 1, us, by omega, by simp, HNE.out, HOFq.out, HTq.out, HBq.out⟩
                  case measure => simp [intOf]; omega
                · have hyn : y < 0 := by omega
                  clear hyr hh HNO
                  go_wp2_with fail
                  go_roundw
                  case rel => exact ⟨q + 1, us, by omega, by simp, HNE.out, HOFq.out, HTq.out, HBq.out⟩
                  case measure => simp [intOf]; omega
            · have HNE := Lib.hid (HEq.out.congr (HNO.out (.inr h1)))
              have h1' : (kq == 1) = false := by simpa using h1
              clear hyr HNO h1
              go_wp2_with fail
              go_roundw
              case rel => exact ⟨q + 1, us, by omega, by simp, HNE.out, HOFq.out, HTq.out, HBq.out⟩
              case measure => simp [intOf]; omega
          · obtain rfl : q = t.plots.length := by omega
            have HEf := Lib.hid (HEq.out.congr (E' := earsE t wind voice (k + 1)) (fun p hp => by unfold earsM; rw [if_pos hp]))
            clear hIq
            go_wp2_with fail
            go_roundw
            case rel => exact ⟨k + 1, us, by omega, by simp, HEf.out, HBq.out⟩
            case measure => simp [intOf]; omega
      · have h0' : (kd != 0) = true := by simpa using h0
        have HNE := Lib.hid (HE.out.congr (E' := earsE t wind voice (k + 1)) (fun p hp => earsE_no (fun _ => by unfold hearB; rw [HKD.out]; simp [h0])))
        clear h0
        go_wp2_with fail
        go_roundw
        case rel => exact ⟨k + 1, vs, by omega, by simp, HNE.out, HBr.out⟩
        case measure => simp [intOf]; omega
    · obtain rfl : k = t.plots.length := by omega
      clear hIk
      go_wp2_with fail
      go_ret
      exact ⟨_, vs, rfl, HE.out, by omega, HB.out.trans (HBr.out.mono (by omega))⟩
end Go.Proofs.Ytimedmkpenbmkaa
end
section
namespace Go.Proofs.Ytimedmkpenbmkaa
open Go.RowKit Go.Shelf
set_option linter.unusedSimpArgs false
set_option linter.unusedVariables false
set_option maxHeartbeats 2000000 in
set_option maxRecDepth 100000 in
theorem has_any (v : Value) (xs : List Int) (n : Int) (hl : xs.length ≤ 1000000) (w : World) (hR : RdI w v xs) :
    Calls Try.prog 115 #[v, .int .i64 n] w fun e w' => e = .returned (.bool (xs.contains n)) ∧ w' = w := by
  have HR := Lib.hid hR
  obtain ⟨_, a, cap, rfl, -⟩ := hR
  go_enter Try.func115, Try.ntmps115
  go_wp2_with fail
  go_loopw [5] (fun i wr => ∃ k : Nat, i = .int .i64 k ∧ k ≤ xs.length ∧ (∀ j, j < k → xs.getD j 0 ≠ n) ∧ wr = w) (fun i _ => xs.length - (intOf i).toNat)
  case atStart => exact ⟨0, rfl, Nat.zero_le _, fun j hj => absurd hj (Nat.not_lt_zero _), rfl⟩
  case round =>
    obtain ⟨k, rfl, hk, hno, rfl⟩ := hrel
    by_cases hlt : k < xs.length
    · have hlt' : (k : Int) < xs.length := by omega
      obtain ⟨b, o, rfl, -, hI⟩ := rd_ints HR.out (by intro e; rw [e] at hlt; simp at hlt)
      have ck := hI.2 k hlt
      have hbl := hI.1
      obtain ⟨x, hx⟩ : ∃ x, xs.getD k 0 = x := ⟨_, rfl⟩
      rw [hx] at ck
      have HNO := Lib.hid hno
      have HX := Lib.hid hx
      clear hI hx hno
      by_cases hxn : x = n
      · have d1 : (x == n) = true := by simpa using hxn
        go_wp2_with fail
        go_ret
        refine ⟨?_, rfl⟩
        have : xs.contains n = true := by
          rw [List.contains_iff_mem, ← hxn, ← HX.out, List.getD_eq_getElem?_getD, List.getElem?_eq_getElem hlt]
          exact List.getElem_mem _
        rw [this]; rfl
      · have d1 : (x == n) = false := by simpa using hxn
        go_wp2_with fail
        go_roundw
        case rel =>
          refine ⟨k + 1, by simp, by omega, fun j hj => ?_, trivial⟩
          by_cases e : j = k
          · rw [e, HX.out]; exact hxn
          · exact HNO.out j (by omega)
        case measure => simp [intOf]; omega
    · obtain rfl : k = xs.length := by omega
      have HNO := Lib.hid hno
      clear hno
      go_wp2_with fail
      go_ret
      refine ⟨?_, rfl⟩
      have : xs.contains n = false := by
        rw [← Bool.not_eq_true, List.contains_iff_mem]
        intro h
        obtain ⟨i, hi, e⟩ := List.getElem_of_mem h
        have := HNO.out i hi
        rw [List.getD_eq_getElem?_getD, List.getElem?_eq_getElem hi] at this
        exact this e
      rw [this]; rfl
/-- ears that can be read: a row of slices of numbers -/
structure ErR (n O : Nat) (E : Nat → List Int) (W : World) : Prop where
  lt : O < W.heap.size
  at' : ∀ p, p < n → ∃ v, W.cell? ⟨O, p, none⟩ = some v ∧ RdI W v (E p)
theorem ErW.read {n O : Nat} {E : Nat → List Int} {vs : List Value} {W : World} (h : ErW n O E vs W) : ErR n O E W :=
  ⟨h.lt, fun p hp => ⟨_, h.cell hp, RdI.own rfl rfl (h.own p hp)⟩⟩
theorem ErR.below {n O : Nat} {E : Nat → List Int} {W W' : World} (h : ErR n O E W) (hB : Below W.heap.size W W') : ErR n O E W' :=
  ⟨Nat.lt_of_lt_of_le h.lt hB.size, fun p hp => by
    obtain ⟨v, h1, h2⟩ := h.at' p hp
    refine ⟨v, ?_, h2.below hB⟩
    unfold World.cell? at h1 ⊢
    rw [hB.block O h.lt]
    exact h1⟩
set_option maxHeartbeats 2000000 in
set_option maxRecDepth 100000 in
theorem refDeaf_any (n O c : Nat) (E : Nat → List Int) (hn : n ≤ 1000000) (hEl : ∀ p, p < n → (E p).length ≤ 1000000) (v : Value) (hs : List Int) (hl : hs.length ≤ 1000000) (hh : ∀ k, k < hs.length → ∃ p : Nat, hs.getD k 0 = p ∧ p < n) (w : World) (hE : ErR n O E w) (hR : RdI w v hs) :
    Calls Try.prog 107 #[.slice (some ⟨O, 0, none⟩) n c, v] w fun e w' => e = .returned (.bool (hs.any fun h => (E h.toNat).isEmpty)) ∧ w' = w := by
  have HR := Lib.hid hR
  have HE := Lib.hid hE
  have HH := Lib.hid hh
  have HEL := Lib.hid hEl
  obtain ⟨_, a, cap, rfl, -⟩ := hR
  clear hE hh hEl
  go_enter Try.func107, Try.ntmps107
  go_wp2_with fail
  go_loopw [5] (fun i wr => ∃ k : Nat, i = .int .i64 k ∧ k ≤ hs.length ∧ (∀ j, j < k → (E (hs.getD j 0).toNat).isEmpty = false) ∧ wr = w) (fun i _ => hs.length - (intOf i).toNat)
  case atStart => exact ⟨0, rfl, Nat.zero_le _, fun j hj => absurd hj (Nat.not_lt_zero _), rfl⟩
  case round =>
    obtain ⟨k, rfl, hk, hno, rfl⟩ := hrel
    by_cases hlt : k < hs.length
    · have hlt' : (k : Int) < hs.length := by omega
      obtain ⟨b, o, rfl, -, hI⟩ := rd_ints HR.out (by intro e; rw [e] at hlt; simp at hlt)
      have ck := hI.2 k hlt
      have hbl := hI.1
      obtain ⟨p, hp, hpn⟩ := HH.out k hlt
      have hpn' : (p : Int) < n := by omega
      rw [hp] at ck
      obtain ⟨ve, ce, hre⟩ := HE.out.at' p hpn
      obtain ⟨_, ae, qe, rfl, -⟩ := hre
      have hol := HE.out.lt
      have hel := HEL.out p hpn
      have HNO := Lib.hid hno
      have HX := Lib.hid hp
      clear hI hp hno
      by_cases hx : (E p).length = 0
      · have d1 : (((E p).length : Int) == 0) = true := by rw [hx]; rfl
        have d1' : ((E p).length == 0) = true := by rw [hx]; rfl
        go_wp2_with fail
        go_ret
        refine ⟨?_, rfl⟩
        have : (hs.any fun h => (E h.toNat).isEmpty) = true := by
          rw [List.any_eq_true]
          refine ⟨hs.getD k 0, ?_, ?_⟩
          · rw [List.getD_eq_getElem?_getD, List.getElem?_eq_getElem hlt]; exact List.getElem_mem _
          · rw [HX.out, Int.toNat_natCast, List.isEmpty_iff]; exact List.length_eq_zero_iff.1 hx
        rw [this]; rfl
      · have d1 : (((E p).length : Int) == 0) = false := by simp; intro e; rw [e] at hx; exact hx rfl
        have d1' : ((E p).length == 0) = false := by simpa using hx
        go_wp2_with fail
        go_roundw
        case rel =>
          refine ⟨k + 1, by simp, by omega, fun j hj => ?_, trivial⟩
          by_cases e : j = k
          · rw [e, HX.out, Int.toNat_natCast]
            cases hE : E p with
            | nil => rw [hE] at hx; exact absurd rfl hx
            | cons a l => rfl
          · exact HNO.out j (by omega)
        case measure => simp [intOf]; omega
    · obtain rfl : k = hs.length := by omega
      have HNO := Lib.hid hno
      clear hno
      go_wp2_with fail
      go_ret
      refine ⟨?_, rfl⟩
      have : (hs.any fun h => (E h.toNat).isEmpty) = false := by
        rw [List.any_eq_false]
        intro h hm
        obtain ⟨i, hi, e⟩ := List.getElem_of_mem hm
        have := HNO.out i hi
        rw [List.getD_eq_getElem?_getD, List.getElem?_eq_getElem hi] at this
        have e2 : (some hs[i]).getD 0 = h := e
        rw [e2] at this
        rw [this]; simp
      rw [this]; rfl
end Go.Proofs.Ytimedmkpenbmkaa
end
section
namespace Go.Proofs.Ytimedmkpenbmkaa
open Go.RowKit Go.Shelf
set_option linter.unusedSimpArgs false
set_option linter.unusedVariables false
/-- how many of some houses hear one of some stands, by lists of ears -/
def srvE (E : Nat → List Int) (hs S : List Int) (k : Nat) : Nat := ((hs.take k).filter fun h => S.any fun s => (E h.toNat).contains s).length
theorem srvE_next {E : Nat → List Int} {hs S : List Int} {k : Nat} (h : k < hs.length) : srvE E hs S (k + 1) = srvE E hs S k + if (S.any fun s => (E (hs.getD k 0).toNat).contains s) then 1 else 0 := by
  unfold srvE
  have e : hs.getD k 0 = hs[k] := by rw [List.getD_eq_getElem?_getD, List.getElem?_eq_getElem h]; rfl
  rw [List.take_succ_eq_append_getElem h, List.filter_append, List.length_append, e]
  congr 1
  cases hb : S.any fun s => (E hs[k].toNat).contains s
  · rw [List.filter_cons, if_neg (by rw [hb]; simp)]; rfl
  · rw [List.filter_cons, if_pos (by rw [hb])]; rfl
theorem srvE_le (E : Nat → List Int) (hs S : List Int) (k : Nat) : srvE E hs S k ≤ k := by
  unfold srvE
  refine Nat.le_trans (List.length_filter_le _ _) ?_
  rw [List.length_take]; omega
set_option maxHeartbeats 4000000 in
set_option maxRecDepth 100000 in
theorem refServed_any (n O c : Nat) (E : Nat → List Int) (hn : n ≤ 1000000) (hEl : ∀ p, p < n → (E p).length ≤ 1000000) (v u : Value) (hs S : List Int) (hl : hs.length ≤ 1000000) (hSl : S.length ≤ 1000000) (hh : ∀ k, k < hs.length → ∃ p : Nat, hs.getD k 0 = p ∧ p < n) (w : World) (hE : ErR n O E w) (hR : RdI w v hs) (hS : RdI w u S) :
    Calls Try.prog 110 #[.slice (some ⟨O, 0, none⟩) n c, v, u] w fun e w' => e = .returned (.int .i64 (srvE E hs S hs.length)) ∧ Below w.heap.size w w' := by
  have HR := Lib.hid hR
  have HE := Lib.hid hE
  have HH := Lib.hid hh
  have HEL := Lib.hid hEl
  have HS := Lib.hid hS
  obtain ⟨_, a, cap, rfl, -⟩ := hR
  obtain ⟨_, a2, cap2, rfl, -⟩ := hS
  clear hE hh hEl
  go_enter Try.func110, Try.ntmps110
  go_wp2_with fail
  go_loopw [7, 8] (fun v i wr => ∃ k : Nat, i = .int .i64 k ∧ k ≤ hs.length ∧ v = .int .i64 (srvE E hs S k) ∧ Below w.heap.size w wr) (fun _ i _ => hs.length - (intOf i).toNat)
  case atStart => exact ⟨0, rfl, Nat.zero_le _, by simp [srvE], Below.refl _ _⟩
  case round =>
    obtain ⟨k, rfl, hk, rfl, hB⟩ := hrel
    have hsl := srvE_le E hs S k
    by_cases hlt : k < hs.length
    · have hlt' : (k : Int) < hs.length := by omega
      obtain ⟨b, o, rfl, -, hI0⟩ := rd_ints HR.out (by intro e; rw [e] at hlt; simp at hlt)
      obtain ⟨p, hp, hpn⟩ := HH.out k hlt
      have hpn' : (p : Int) < n := by omega
      have HNX := Lib.hid (srvE_next (E := E) (S := S) hlt)
      rw [hp, Int.toNat_natCast] at HNX
      have HP := Lib.hid hp
      have HB := Lib.hid hB
      have hel := HEL.out p hpn
      clear hI0 hp hB
      go_wp2_with fail
      go_loopw [9, 10] (fun q i wq => ∃ j : Nat, i = .int .i64 j ∧ j ≤ S.length ∧ q = .bool ((S.take j).any fun s => (E p).contains s) ∧ Below w.heap.size w wq) (fun _ i _ => S.length - (intOf i).toNat)
      case atStart => exact ⟨0, rfl, Nat.zero_le _, by simp, HB.out⟩
      case round =>
        obtain ⟨j, rfl, hj, rfl, hBj⟩ := hrel
        by_cases hjl : j < S.length
        · have hjl' : (j : Int) < S.length := by omega
          obtain ⟨b2, o2, rfl, -, hI2⟩ := rd_ints (HS.out.below hBj) (by intro e; rw [e] at hjl; simp at hjl)
          obtain ⟨b', o', e', -, hI⟩ := rd_ints (HR.out.below hBj) (by intro e; rw [e] at hlt; simp at hlt)
          cases e'
          have ck := hI.2 k hlt
          rw [HP.out] at ck
          have hbl := hI.1
          have cj := hI2.2 j hjl
          have hbl2 := hI2.1
          obtain ⟨x, hx⟩ : ∃ x, S.getD j 0 = x := ⟨_, rfl⟩
          rw [hx] at cj
          have hEr := HE.out.below hBj
          obtain ⟨ve, ce, hre⟩ := hEr.at' p hpn
          have hol := hEr.lt
          have HRE := Lib.hid hre
          obtain ⟨_, ae, qe, rfl, -⟩ := hre
          have HHS := Lib.hid (fun W (h : RdI W (.slice ae (E p).length qe) (E p)) => has_any (.slice ae (E p).length qe) (E p) x hel W h)
          have hq : ((S.take (j + 1)).any fun s => (E p).contains s) = (((S.take j).any fun s => (E p).contains s) || (E p).contains x) := by
            have e : S[j] = x := by rw [← hx, List.getD_eq_getElem?_getD, List.getElem?_eq_getElem hjl]; rfl
            rw [List.take_succ_eq_append_getElem hjl, List.any_append, e]; simp
          have HQ := Lib.hid hq
          have HBJ := Lib.hid hBj
          clear hI hI2 hx hq hEr hBj
          generalize hbq : ((S.take j).any fun s => (E p).contains s) = bq at HQ ⊢
          clear hbq
          cases bq with
          | true =>
            go_wp2_with fail
            go_quiet (fail)
            go_wp2_with fail
            go_roundw
            case rel => exact ⟨j + 1, by simp, by omega, by rw [HQ.out]; rfl, ⟨HBJ.out.os, HBJ.out.tape, HBJ.out.output, HBJ.out.size, HBJ.out.block⟩⟩
            case measure => simp [intOf]; omega
          | false =>
            go_wp2_with fail
            go_quiet ((go_at_call 115; exact Calls.quiet_of_same (HHS.out _ (by exact HRE.out))))
            go_wp2_with fail
            go_roundw
            case rel => exact ⟨j + 1, by simp, by omega, by rw [HQ.out, Bool.false_or]; congr 1; rw [Bool.eq_iff_iff]; simp, ⟨HBJ.out.os, HBJ.out.tape, HBJ.out.output, HBJ.out.size, HBJ.out.block⟩⟩
            case measure => simp [intOf]; omega
        · obtain rfl : j = S.length := by omega
          have HBJ := Lib.hid hBj
          rw [List.take_length]
          generalize (S.any fun s => (E p).contains s) = bq at HNX ⊢
          clear hBj
          cases bq with
          | true =>
            go_wp2_with fail
            go_roundw
            case rel => exact ⟨k + 1, by simp, by omega, by rw [HNX.out]; simp, HBJ.out⟩
            case measure => simp [intOf]; omega
          | false =>
            go_wp2_with fail
            go_roundw
            case rel => exact ⟨k + 1, by simp, by omega, by rw [HNX.out]; simp, HBJ.out⟩
            case measure => simp [intOf]; omega
    · obtain rfl : k = hs.length := by omega
      have HB := Lib.hid hB
      clear hB
      go_wp2_with fail
      go_ret
      exact ⟨rfl, HB.out⟩
end Go.Proofs.Ytimedmkpenbmkaa
end
