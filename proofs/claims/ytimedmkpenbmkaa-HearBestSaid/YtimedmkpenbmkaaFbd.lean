/- Contracts and mathematics, part 4. -/
import Derived.Test.YtimedmkpenbmkaaFbc
section
namespace Go.Proofs.Ytimedmkpenbmkaa
open Go.RowKit Go.Shelf
set_option linter.unusedSimpArgs false
set_option linter.unusedVariables false
theorem lists_mem : ∀ (m : Nat) (l L : List Int), L ∈ listsP m l ↔ L.Sublist l ∧ L.length = m
  | 0, l, L => by
    have e : listsP 0 l = [[]] := rfl
    rw [e, List.mem_singleton]
    constructor
    · rintro rfl; exact ⟨List.nil_sublist _, rfl⟩
    · rintro ⟨_, h⟩; exact List.length_eq_zero_iff.1 h
  | m + 1, [], L => by
    have e : listsP (m + 1) [] = [] := rfl
    rw [e]
    constructor
    · intro h; cases h
    · rintro ⟨h1, h2⟩
      have := h1.length_le
      simp at this
      rw [this] at h2; simp at h2
  | m + 1, x :: r, L => by
    have e : listsP (m + 1) (x :: r) = (listsP m r).map (x :: ·) ++ listsP (m + 1) r := rfl
    rw [e, List.mem_append, List.mem_map]
    constructor
    · rintro (⟨L', h, rfl⟩ | h)
      · obtain ⟨h1, h2⟩ := (lists_mem m r L').1 h
        exact ⟨h1.cons_cons x, by simp [h2]⟩
      · obtain ⟨h1, h2⟩ := (lists_mem (m + 1) r L).1 h
        exact ⟨h1.cons x, h2⟩
    · rintro ⟨h1, h2⟩
      rcases sub_cons h1 with h | ⟨L', rfl, h⟩
      · exact .inr ((lists_mem (m + 1) r L).2 ⟨h, h2⟩)
      · exact .inl ⟨L', (lists_mem m r L').2 ⟨h, by simpa using h2⟩, rfl⟩
def BefI (A B : List Int) : Prop := ∃ p a b A' B', A = p ++ a :: A' ∧ B = p ++ b :: B' ∧ a < b
theorem BefI.cons {A B : List Int} (h : BefI A B) (x : Int) : BefI (x :: A) (x :: B) := by
  obtain ⟨p, a, b, A', B', rfl, rfl, hab⟩ := h
  exact ⟨x :: p, a, b, A', B', rfl, rfl, hab⟩
theorem lists_ord : ∀ (m : Nat) (l : List Int), l.Pairwise (· < ·) → (listsP m l).Pairwise BefI
  | 0, l, _ => by show [([] : List Int)].Pairwise BefI; exact List.pairwise_singleton _ _
  | m + 1, [], _ => List.Pairwise.nil
  | m + 1, x :: r, h => by
    have e : listsP (m + 1) (x :: r) = (listsP m r).map (x :: ·) ++ listsP (m + 1) r := rfl
    rw [List.pairwise_cons] at h
    rw [e, List.pairwise_append]
    refine ⟨?_, lists_ord (m + 1) r h.2, fun A hA B hB => ?_⟩
    · rw [List.pairwise_map]
      exact (lists_ord m r h.2).imp fun h => h.cons x
    · obtain ⟨A', _, rfl⟩ := List.mem_map.1 hA
      obtain ⟨h1, h2⟩ := (lists_mem (m + 1) r B).1 hB
      cases B with
      | nil => cases h2
      | cons y B' => exact ⟨[], x, y, A', B', rfl, rfl, h.1 y (h1.subset (by simp))⟩
theorem befI_asymm {A B : List Int} (h : BefI A B) : ¬ BefI B A := by
  obtain ⟨p, a, b, A', B', rfl, rfl, hab⟩ := h
  rintro ⟨q, c, d, C', D', h1, h2, hcd⟩
  have key : ∀ (p q : List Int) (a b c d : Int) (A' B' C' D' : List Int), p ++ b :: B' = q ++ c :: C' → p ++ a :: A' = q ++ d :: D' → a < b → c < d → False := by
    intro p
    induction p with
    | nil =>
      intro q a b c d A' B' C' D' h1 h2 hab hcd
      cases q with
      | nil =>
        simp only [List.nil_append, List.cons.injEq] at h1 h2
        omega
      | cons y q =>
        simp only [List.nil_append, List.cons_append, List.cons.injEq] at h1 h2
        omega
    | cons z p ih =>
      intro q a b c d A' B' C' D' h1 h2 hab hcd
      cases q with
      | nil =>
        simp only [List.nil_append, List.cons_append, List.cons.injEq] at h1 h2
        omega
      | cons y q =>
        simp only [List.cons_append, List.cons.injEq] at h1 h2
        exact ih q a b c d A' B' C' D' h1.2 h2.2 hab hcd
  exact key p q a b c d A' B' C' D' h1 h2 hab hcd
theorem befI_irrefl (A : List Int) : ¬ BefI A A := fun h => befI_asymm h h
theorem bef_int {A B : List Nat} (h : Bef A B) : BefI (natI A) (natI B) := by
  obtain ⟨p, a, b, A', B', rfl, rfl, hab⟩ := h
  exact ⟨natI p, a, b, natI A', natI B', by simp [natI], by simp [natI], by omega⟩
/-- what is found first is what is chosen -/
theorem find_first {m : Nat} {l : List Int} (hl : l.Pairwise (· < ·)) {P : List Int → Bool} {C : List Int} (hC : C ∈ listsP m l) (hP : P C = true) (hf : ∀ F ∈ listsP m l, P F = true → C = F ∨ BefI C F) {i : Nat} (hi : i < (listsP m l).length) (hPi : P ((listsP m l).getD i []) = true) (hno : ∀ j, j < i → P ((listsP m l).getD j []) = false) : (listsP m l).getD i [] = C := by
  have ho := lists_ord m l hl
  obtain ⟨c, hc, e⟩ := List.getElem_of_mem hC
  have eg : ∀ j (hj : j < (listsP m l).length), (listsP m l).getD j [] = (listsP m l)[j] := fun j hj => by rw [List.getD_eq_getElem?_getD, List.getElem?_eq_getElem hj]; rfl
  have hic : i ≤ c := by
    rcases Nat.lt_or_ge c i with h | h
    · have := hno c h
      rw [eg c hc, e, hP] at this; cases this
    · exact h
  rw [eg i hi] at hPi ⊢
  rcases Nat.lt_or_ge i c with h | h
  · have hb := List.pairwise_iff_getElem.1 ho i c hi hc h
    rw [e] at hb
    rcases hf _ (List.getElem_mem hi) hPi with h2 | h2
    · rw [← h2] at hb; exact absurd hb (befI_irrefl _)
    · exact absurd hb (befI_asymm h2)
  · have : i = c := by omega
    subst this; exact e
theorem kind_sorted (xs : List Int) (k : Int) : (kindIdx xs k).Pairwise (· < ·) := by
  unfold kindIdx kindTo
  rw [List.pairwise_map]
  exact (List.Pairwise.filter _ List.pairwise_lt_range).imp fun h => by omega
theorem sorted_sub {A B : List Int} (hA : A.Pairwise (· < ·)) (hB : B.Pairwise (· < ·)) (hs : ∀ a ∈ A, a ∈ B) : A.Sublist B := by
  have key : ∀ (B A : List Int), A.Pairwise (· < ·) → B.Pairwise (· < ·) → (∀ a ∈ A, a ∈ B) → A.Sublist B := by
    intro B
    induction B with
    | nil =>
      intro A _ _ hs
      cases A with
      | nil => exact List.Sublist.slnil
      | cons a A => exact absurd (hs a (by simp)) (by simp)
    | cons b B ih =>
      intro A hA hB hs
      cases A with
      | nil => exact List.nil_sublist _
      | cons a A =>
        rw [List.pairwise_cons] at hA hB
        rcases List.mem_cons.1 (hs a (by simp)) with e | e
        · subst e
          refine (ih A hA.2 hB.2 fun x hx => ?_).cons_cons a
          rcases List.mem_cons.1 (hs x (by simp [hx])) with e2 | e2
          · have := hA.1 x hx; omega
          · exact e2
        · refine (ih (a :: A) (List.pairwise_cons.2 hA) hB.2 fun x hx => ?_).cons b
          rcases List.mem_cons.1 hx with e2 | e2
          · rw [e2]; exact e
          · rcases List.mem_cons.1 (hs x (by simp [e2])) with e3 | e3
            · have := hA.1 x e2; have := hB.1 a e; omega
            · exact e3
  exact key B A hA hB hs
end Go.Proofs.Ytimedmkpenbmkaa
end
section
namespace Go.Proofs.Ytimedmkpenbmkaa
open Go.RowKit Go.Shelf
set_option linter.unusedSimpArgs false
set_option linter.unusedVariables false
theorem qAll_zero (xs : List Int) : ∀ (qs : List Int) (nm : List Bool), (qAll xs nm qs).1 = 0 → xs.length ≤ nm.length → (∀ h ∈ qs, plotErr xs h 1 = 0 ∧ nm.getD h.toNat false = false) ∧ qs.Nodup
  | [], nm, _, _ => ⟨by simp, List.nodup_nil⟩
  | h :: r, nm, h0, hn => by
    have eq : qAll xs nm (h :: r) = (if (qStep xs nm h).1 ≠ 0 then qStep xs nm h else qAll xs (qStep xs nm h).2 r) := rfl
    rw [eq] at h0
    by_cases hs : (qStep xs nm h).1 = 0
    · rw [if_neg (by simp [hs])] at h0
      have hp : plotErr xs h 1 = 0 := by
        false_or_by_contra
        rename_i hne
        unfold qStep at hs
        rw [if_pos hne] at hs
        exact hne hs
      have hg : nm.getD h.toNat false = false := by
        cases hb : nm.getD h.toNat false
        · rfl
        · unfold qStep at hs
          rw [if_neg (by simp [hp]), hb] at hs
          simp at hs
      have hst : (qStep xs nm h).2 = nm.set h.toNat true := by
        unfold qStep
        rw [if_neg (by simp [hp]), hg]; rfl
      rw [hst] at h0
      obtain ⟨p, rfl, hpl, _⟩ := plot_ok hp
      obtain ⟨a, b⟩ := qAll_zero xs r _ h0 (by simpa using hn)
      have hset : ∀ q, q ≠ p → (nm.set p true).getD q false = nm.getD q false := fun q hq => by
        rw [List.getD_eq_getElem?_getD, List.getElem?_set, if_neg (fun e => hq e.symm), ← List.getD_eq_getElem?_getD]
      have hself : (nm.set p true).getD p false = true := by
        rw [List.getD_eq_getElem?_getD, List.getElem?_set, if_pos rfl, if_pos (by omega)]; rfl
      refine ⟨fun k hk => ?_, List.nodup_cons.2 ⟨fun hm => ?_, b⟩⟩
      · rcases List.mem_cons.1 hk with rfl | hk
        · exact ⟨hp, hg⟩
        · obtain ⟨a1, a2⟩ := a k hk
          refine ⟨a1, ?_⟩
          by_cases e : k.toNat = p
          · rw [e] at a2
            have : (((p : Nat) : Int)).toNat = p := Int.toNat_natCast p
            rw [this] at a2
            rw [hself] at a2; cases a2
          · rw [Int.toNat_natCast, hset _ e] at a2; exact a2
      · obtain ⟨_, a2⟩ := a _ hm
        rw [Int.toNat_natCast, hself] at a2; cases a2
    · rw [if_pos hs] at h0
      exact absurd h0 hs
theorem quarter_named {t : Hr.Town} (ok : t.Ok) {wind voice : Int} {qs : List Int} (h : quarterE t.wide t.plots wind voice qs = 0) : Named t qs ∧ airErr wind voice = 0 := by
  unfold quarterE at h
  by_cases h1 : openErr t.wide t.plots wind voice = 0
  · rw [if_neg (by simp [h1])] at h
    obtain ⟨hc, ha⟩ := openErr_ok h1
    obtain ⟨a, b⟩ := qAll_zero t.plots qs _ h (by have : t.plots.length ≤ 30 := ok.n30; simpa using this)
    exact ⟨⟨ok, hc, fun k hk => by
      obtain ⟨p, rfl, h2, h3⟩ := plot_ok (a k hk).1
      exact mem_kindIdx.2 ⟨p, rfl, h2, h3⟩, b⟩, ha⟩
  · rw [if_pos h1] at h; exact absurd h h1
theorem len_le_int : ∀ {A B : List Int}, A.Nodup → (∀ a ∈ A, a ∈ B) → A.length ≤ B.length
  | [], B, _, _ => by simp
  | a :: A, B, hn, hs => by
    rw [List.nodup_cons] at hn
    have h1 := len_le_int (A := A) (B := B.erase a) hn.2 fun x hx => by
      have hne : x ≠ a := fun e => hn.1 (by rw [← e]; exact hx)
      exact (List.mem_erase_of_ne hne).2 (hs x (by simp [hx]))
    have h2 := hs a (by simp)
    rw [List.length_erase_of_mem h2] at h1
    have : 0 < B.length := List.length_pos_of_mem h2
    simp; omega
theorem mem_standsTo {t : Hr.Town} {wind voice : Int} {p s n : Nat} : (s : Int) ∈ standsTo t wind voice p n ↔ s < n ∧ hearB t wind voice p s = true := by
  unfold standsTo
  rw [List.mem_map]
  constructor
  · rintro ⟨q, hq, e⟩
    obtain rfl : q = s := by omega
    rw [List.mem_filter, List.mem_range] at hq
    exact hq
  · rintro ⟨a, b⟩
    exact ⟨s, by rw [List.mem_filter, List.mem_range]; exact ⟨a, b⟩, rfl⟩
theorem mem_earsE {t : Hr.Town} {wind voice : Int} {p s : Nat} (h1 : t.at p = 1) : (s : Int) ∈ earsE t wind voice t.plots.length p ↔ hearB t wind voice p s = true := by
  unfold earsE
  rw [if_pos h1, mem_standsTo]
  exact ⟨fun h => h.2, fun h => ⟨hearB_lt h, h⟩⟩
theorem srv_cnt {t : Hr.Town} {qs : List Int} (h : Named t qs) (wind voice : Int) (O : List Nat) : srvE (earsE t wind voice t.plots.length) qs (natI O) qs.length = cntS (lis t wind voice (inL qs)) O := by
  have h30 : t.len ≤ 30 := h.ok.n30
  have hf : ∀ p : Nat, p < t.len → t.at p = 1 → (((natI O).any fun s => (earsE t wind voice t.plots.length p).contains s) = true ↔ hit O (ears t wind voice p) = true) := fun p hp h1 => by
    rw [List.any_eq_true, hit_ears]
    constructor
    · rintro ⟨s, hs, he⟩
      obtain ⟨q, hq, rfl⟩ := List.mem_map.1 hs
      have h2 := (mem_earsE h1).1 (List.contains_iff_mem.1 he)
      exact ⟨q, hq, by have := hearB_lt h2; omega, h2⟩
    · rintro ⟨s, hs, _, he⟩
      exact ⟨(s : Int), List.mem_map.2 ⟨s, hs, rfl⟩, List.contains_iff_mem.2 ((mem_earsE h1).2 he)⟩
  unfold srvE
  rw [List.take_length, cnt_lis, List.countP_eq_length_filter]
  have e : (((List.range t.len).filter fun p => t.at p == 1 && inL qs p).filter fun p => hit O (ears t wind voice p)).length = ((((List.range t.len).filter fun p => t.at p == 1 && inL qs p).filter fun p => hit O (ears t wind voice p)).map fun (p : Nat) => (p : Int)).length := by rw [List.length_map]
  rw [e]
  have hB : ((((List.range t.len).filter fun p => t.at p == 1 && inL qs p).filter fun p => hit O (ears t wind voice p)).map fun (p : Nat) => (p : Int)).Nodup := by
    unfold List.Nodup
    rw [List.pairwise_map]
    exact ((List.nodup_range.filter _).filter _).imp fun h => by omega
  refine Nat.le_antisymm (len_le_int (h.nd.filter _) fun a ha => ?_) (len_le_int hB fun a ha => ?_)
  · rw [List.mem_filter] at ha
    obtain ⟨p, rfl, hp, h1⟩ := mem_kindIdx.1 (h.all a ha.1)
    rw [Int.toNat_natCast] at ha
    refine List.mem_map.2 ⟨p, ?_, rfl⟩
    rw [List.mem_filter, List.mem_filter, List.mem_range, Bool.and_eq_true, beq_iff_eq]
    exact ⟨⟨hp, h1, by unfold inL; exact decide_eq_true ha.1⟩, (hf p hp h1).1 ha.2⟩
  · obtain ⟨p, hp, rfl⟩ := List.mem_map.1 ha
    rw [List.mem_filter, List.mem_filter, List.mem_range, Bool.and_eq_true, beq_iff_eq] at hp
    rw [List.mem_filter, Int.toNat_natCast]
    exact ⟨by have := hp.1.2.2; unfold inL at this; exact of_decide_eq_true this, (hf p hp.1.1 hp.1.2.1).2 hp.2⟩
/-- lists of streets are lists of natural numbers in order -/
theorem street_list {t : Hr.Town} {m : Nat} {L : List Int} (h : L ∈ listsP m (kindIdx t.plots 0)) : ∃ O : List Nat, L = natI O ∧ O.Pairwise (· < ·) ∧ (∀ s ∈ O, s < t.len ∧ t.at s = 0) ∧ O.length = m := by
  obtain ⟨hs, hl⟩ := (lists_mem m _ L).1 h
  have hc : ∀ x ∈ L, ∃ p : Nat, x = p ∧ p < t.len ∧ t.at p = 0 := fun x hx => by
    obtain ⟨p, e, h1, h2⟩ := mem_kindIdx.1 (hs.subset hx)
    exact ⟨p, e, h1, h2⟩
  have hy : natI (L.map Int.toNat) = L := by
    unfold natI
    rw [List.map_map]
    conv => rhs; rw [← List.map_id L]
    apply List.map_congr_left
    intro x hx
    obtain ⟨p, rfl, _⟩ := hc x hx
    rfl
  refine ⟨L.map Int.toNat, hy.symm, ?_, fun s hs => ?_, by rw [List.length_map]; exact hl⟩
  · rw [List.pairwise_map]
    refine List.Pairwise.imp_of_mem (fun {a b} ha hb h => ?_) ((kind_sorted t.plots 0).sublist hs)
    obtain ⟨p, rfl, _⟩ := hc a ha
    obtain ⟨q, rfl, _⟩ := hc b hb
    show (((p : Nat) : Int)).toNat < (((q : Nat) : Int)).toNat
    rw [Int.toNat_natCast, Int.toNat_natCast]
    omega
  · obtain ⟨x, hx, rfl⟩ := List.mem_map.1 hs
    obtain ⟨p, rfl, h1, h2⟩ := hc x hx
    exact ⟨h1, h2⟩
end Go.Proofs.Ytimedmkpenbmkaa
end
section
namespace Go.Proofs.Ytimedmkpenbmkaa
open Go.RowKit Go.Shelf
set_option linter.unusedSimpArgs false
set_option linter.unusedVariables false
theorem box33 {W1 W : World} {c : Nat} {u v : Value} (h : W1.heap[c]? = some (.cells #[u, v] 33 (0, 0))) (hB : Below W1.heap.size W1 W) : W.cell? ⟨c, 0, none⟩ = some u ∧ W.cell? ⟨c, 1, none⟩ = some v ∧ c < W.heap.size := by
  have hb := (hB.block _ (Array.getElem?_eq_some_iff.1 h).1).trans h
  obtain ⟨a, b⟩ := blk_cells2 hb
  exact ⟨a, b, (Array.getElem?_eq_some_iff.1 hb).1⟩
end Go.Proofs.Ytimedmkpenbmkaa
end
section
namespace Go.Proofs.Ytimedmkpenbmkaa
open Go.RowKit Go.Shelf
set_option linter.unusedSimpArgs false
set_option linter.unusedVariables false
theorem rd_nil (W : World) : RdI W (.slice none 0 0) [] := ⟨by simp, none, 0, rfl, fun h => absurd rfl h⟩
/-- a quarter without errors: its town -/
theorem quarter_town {wd : Int} {xs : List Int} {wind voice : Int} {qs : List Int} (h : quarterE wd xs wind voice qs = 0) : ∃ t : Hr.Town, (t.wide : Int) = wd ∧ t.plots = xs ∧ Named t qs ∧ airErr wind voice = 0 := by
  have h1 : checkErr wd xs = 0 := by
    unfold quarterE at h
    by_cases h0 : openErr wd xs wind voice = 0
    · exact (openErr_ok h0).1
    · rw [if_pos h0] at h; exact absurd h h0
  obtain ⟨t, -, hw, hx, ok⟩ := town_name h1
  subst hw hx
  obtain ⟨a, b⟩ := quarter_named ok h
  exact ⟨t, rfl, rfl, a, b⟩
theorem plots_some {t : Hr.Town} {qs : List Int} (h : Named t qs) {W : World} {a : Option Addr} {cap : Nat} (hR : RdI W (.slice a t.plots.length cap) t.plots) : ∃ b o, a = some ⟨b, o, none⟩ := by
  have hne : t.plots ≠ [] := by intro e; have := (check_len h.chk).2; rw [e] at this; simp at this
  obtain ⟨b, o, e, -, -⟩ := rd_ints hR hne
  exact ⟨b, o, e⟩
end Go.Proofs.Ytimedmkpenbmkaa
end
section
namespace Go.Proofs.Ytimedmkpenbmkaa
open Go.RowKit Go.Shelf
set_option linter.unusedSimpArgs false
set_option linter.unusedVariables false
/-- of the lists of stands with m' stands, the j'th one: how many houses it serves -/
def srvL (t : Hr.Town) (wind voice : Int) (qs : List Int) (m j : Nat) : Nat := srvE (earsE t wind voice t.plots.length) qs ((listsP m (kindIdx t.plots 0)).getD j []) qs.length
def nLists (t : Hr.Town) (m : Nat) : Nat := (listsP m (kindIdx t.plots 0)).length
def listAt (t : Hr.Town) (m j : Nat) : List Int := (listsP m (kindIdx t.plots 0)).getD j []
/-- the best of all lists of fewer than m stands, and of the first j of those with m stands -/
structure BestI (t : Hr.Town) (wind voice : Int) (qs : List Int) (m j : Nat) (best : List Int) (n : Nat) : Prop where
  le : ∀ m' j', 1 ≤ m' → j' < nLists t m' → (m' < m ∨ m' = m ∧ j' < j) → srvL t wind voice qs m' j' ≤ n
  is : (n = 0 ∧ best = []) ∨ ∃ m0 j0, 1 ≤ m0 ∧ j0 < nLists t m0 ∧ (m0 < m ∨ m0 = m ∧ j0 < j) ∧ best = listAt t m0 j0 ∧ srvL t wind voice qs m0 j0 = n ∧ 0 < n ∧ ∀ m' j', 1 ≤ m' → j' < nLists t m' → (m' < m0 ∨ m' = m0 ∧ j' < j0) → srvL t wind voice qs m' j' < n
theorem BestI.start (t : Hr.Town) (wind voice : Int) (qs : List Int) : BestI t wind voice qs 1 0 [] 0 :=
  ⟨fun m' j' h1 _ h => by omega, .inl ⟨rfl, rfl⟩⟩
theorem BestI.keep {t : Hr.Town} {wind voice : Int} {qs : List Int} {m j : Nat} {best : List Int} {n : Nat} (h : BestI t wind voice qs m j best n) (hs : srvL t wind voice qs m j ≤ n) : BestI t wind voice qs m (j + 1) best n := by
  refine ⟨fun m' j' h1 h2 h3 => ?_, ?_⟩
  · by_cases e : m' = m ∧ j' = j
    · rw [e.1, e.2]; exact hs
    · exact h.le m' j' h1 h2 (by omega)
  · rcases h.is with h1 | ⟨m0, j0, a, b, c, d⟩
    · exact .inl h1
    · exact .inr ⟨m0, j0, a, b, by omega, d⟩
theorem BestI.take {t : Hr.Town} {wind voice : Int} {qs : List Int} {m j : Nat} {best : List Int} {n : Nat} (h : BestI t wind voice qs m j best n) (hm : 1 ≤ m) (hj : j < nLists t m) (hs : n < srvL t wind voice qs m j) : BestI t wind voice qs m (j + 1) (listAt t m j) (srvL t wind voice qs m j) := by
  refine ⟨fun m' j' h1 h2 h3 => ?_, .inr ⟨m, j, hm, hj, by omega, rfl, rfl, by omega, fun m' j' h1 h2 h3 => ?_⟩⟩
  · by_cases e : m' = m ∧ j' = j
    · rw [e.1, e.2]; exact Nat.le_refl _
    · have := h.le m' j' h1 h2 (by omega); omega
  · have := h.le m' j' h1 h2 h3; omega
theorem BestI.turn {t : Hr.Town} {wind voice : Int} {qs : List Int} {m : Nat} {best : List Int} {n : Nat} (h : BestI t wind voice qs m (nLists t m) best n) : BestI t wind voice qs (m + 1) 0 best n := by
  refine ⟨fun m' j' h1 h2 h3 => ?_, ?_⟩
  · by_cases e : m' = m
    · subst e; exact h.le m' j' h1 h2 (.inr ⟨rfl, h2⟩)
    · exact h.le m' j' h1 h2 (by omega)
  · rcases h.is with h1 | ⟨m0, j0, a, b, c, d⟩
    · exact .inl h1
    · exact .inr ⟨m0, j0, a, b, by omega, d⟩
/-- stands that serve some houses: no more of them are needed than there are such houses -/
theorem chosen_le {l : List (Nat × List Bool)} {st : Nat} {ch : List Nat} {n : Nat} (hc : Chosen l st ch n) : ch.length ≤ n := by
  have hx : ∀ x ∈ l.filter fun x => hit ch x.2, ∃ s ∈ ch, x.2.getD s false = true := fun x hx => by
    rw [List.mem_filter] at hx
    obtain ⟨s, a, b⟩ := List.any_eq_true.1 hx.2
    exact ⟨s, a, b⟩
  have key : ∀ L : List (Nat × List Bool), (∀ x ∈ L, ∃ s ∈ ch, x.2.getD s false = true) → ∃ S : List Nat, S.length = L.length ∧ (∀ s ∈ S, s ∈ ch) ∧ ∀ x ∈ L, hit S x.2 = true := by
    intro L
    induction L with
    | nil => intro _; exact ⟨[], rfl, fun s hs => by simp at hs, fun x hx => by simp at hx⟩
    | cons y L ih =>
      intro h
      obtain ⟨S, a, b, c⟩ := ih fun x hx => h x (by simp [hx])
      obtain ⟨s, h1, h2⟩ := h y (by simp)
      refine ⟨s :: S, by simp [a], fun z hz => ?_, fun x hx => ?_⟩
      · rcases List.mem_cons.1 hz with rfl | hz
        · exact h1
        · exact b z hz
      · unfold hit
        rw [List.any_cons, Bool.or_eq_true]
        rcases List.mem_cons.1 hx with rfl | hx
        · exact .inl h2
        · exact .inr (c x hx)
  obtain ⟨S, a, b, c⟩ := key _ hx
  have hn : (l.filter fun x => hit ch x.2).length = n := hc.cnt
  have hS : n ≤ cntS l S := by
    rw [← hn]
    unfold cntS
    have : (l.filter fun x => hit ch x.2).Sublist (l.filter fun x => hit S x.2) := by
      have e : l.filter (fun x => hit ch x.2) = (l.filter fun x => hit S x.2).filter fun x => hit ch x.2 := by
        rw [List.filter_filter]
        refine List.filter_congr fun x hx => ?_
        cases h : hit ch x.2
        · rfl
        · rw [c x (List.mem_filter.2 ⟨hx, h⟩)]; rfl
      rw [e]
      exact List.filter_sublist
    exact this.length_le
  have := hc.short S (fun s hs => hc.bd s (b s hs)) hS
  omega
theorem best_end {t : Hr.Town} {qs : List Int} (h : Named t qs) (wind voice : Int) (st : Nat) {best : List Int} {n' : Nat} (hB : BestI t wind voice qs (min st qs.length + 1) 0 best n') :
    best = (chooseP (lis t wind voice (inL qs)) st).1 ∧ ((n' : Nat) : Int) = (chooseP (lis t wind voice (inL qs)) st).2 := by
  obtain ⟨ch, n, h1, h2, hc⟩ := chosen (lis t wind voice (inL qs)) (h.lis wind voice) st
  have h30 : t.len ≤ 30 := h.ok.n30
  rw [h1, h2]
  have hcl := chosen_le hc
  have hlis : (lis t wind voice (inL qs)).length = qs.length := lis_count h.all h.nd
  have hnq : n ≤ qs.length := by rw [← hc.cnt, ← hlis]; exact cnt_le _ _
  have hget : ∀ m j, j < nLists t m → listAt t m j ∈ listsP m (kindIdx t.plots 0) := fun m j hj => by
    unfold listAt
    rw [List.getD_eq_getElem?_getD, List.getElem?_eq_getElem hj]; exact List.getElem_mem _
  have hst := chosen_street hc
  have hchI : natI ch ∈ listsP ch.length (kindIdx t.plots 0) := by
    rw [lists_mem]
    refine ⟨sorted_sub ?_ (kind_sorted _ _) fun a ha => ?_, natI_len ch⟩
    · unfold natI
      rw [List.pairwise_map]
      exact hc.sorted.imp fun h => by omega
    · obtain ⟨p, hp, rfl⟩ := List.mem_map.1 ha
      exact mem_kindIdx.2 ⟨p, rfl, (hst p hp).1, (hst p hp).2⟩
  obtain ⟨jc, hjc, ejc⟩ := List.getElem_of_mem hchI
  have hla : listAt t ch.length jc = natI ch := by
    unfold listAt
    rw [List.getD_eq_getElem?_getD, List.getElem?_eq_getElem hjc]
    exact ejc
  have hsc : srvL t wind voice qs ch.length jc = n := by
    have : srvL t wind voice qs ch.length jc = srvE (earsE t wind voice t.plots.length) qs (listAt t ch.length jc) qs.length := rfl
    rw [this, hla, srv_cnt h, hc.cnt]
  have hup : ∀ m j, j < nLists t m → m ≤ st → srvL t wind voice qs m j ≤ n ∧ (srvL t wind voice qs m j = n → ch.length ≤ m) := fun m j hj hm => by
    obtain ⟨O, e, hO, hs, hl⟩ := street_list (hget m j hj)
    have e2 : srvL t wind voice qs m j = cntS (lis t wind voice (inL qs)) O := by
      have : srvL t wind voice qs m j = srvE (earsE t wind voice t.plots.length) qs (listAt t m j) qs.length := rfl
      rw [this, e, srv_cnt h]
    have := chosen_best hc hO (fun s hs' => by have := (hs s hs').1; omega) (by omega)
    rw [e2]
    exact ⟨this.1, fun e3 => by have := (this.2 e3).1; omega⟩
  have hn1 : n ≤ n' := by
    rcases Nat.eq_zero_or_pos ch.length with h0 | h0
    · have : ch = [] := List.length_eq_zero_iff.1 h0
      have : n = 0 := by
        rw [← hc.cnt, this]
        unfold cntS
        rw [List.length_eq_zero_iff, List.filter_eq_nil_iff]
        intro x _; simp [hit]
      omega
    · have := hB.le ch.length jc h0 hjc (.inl (by have := hc.len; omega))
      omega
  rcases hB.is with ⟨h3, h4⟩ | ⟨m0, j0, a, b, c, d, e, f, g⟩
  · have h0 : n = 0 := by omega
    have : ch = [] := List.length_eq_zero_iff.1 (by omega)
    rw [h4, this, h3, h0]
    exact ⟨rfl, rfl⟩
  · have hm0 : m0 ≤ st := by omega
    have := hup m0 j0 b hm0
    have hnn : n' = n := by omega
    have hcm := this.2 (by omega)
    have hm : m0 = ch.length := by
      false_or_by_contra
      have hc0 : 1 ≤ ch.length := by
        rcases Nat.eq_zero_or_pos ch.length with h0 | h0
        · have h5 : ch = [] := List.length_eq_zero_iff.1 h0
          have : n = 0 := by
            rw [← hc.cnt, h5]
            unfold cntS
            rw [List.length_eq_zero_iff, List.filter_eq_nil_iff]
            intro x _; simp [hit]
          omega
        · exact h0
      have := g ch.length jc hc0 hjc (.inl (by omega))
      omega
    refine ⟨?_, by rw [hnn]⟩
    subst hm
    rw [d]
    have hchS : srvE (earsE t wind voice t.plots.length) qs (natI ch) qs.length = n := by rw [srv_cnt h, hc.cnt]
    refine find_first (kind_sorted _ _) (P := fun S => decide (srvE (earsE t wind voice t.plots.length) qs S qs.length = n)) hchI (decide_eq_true hchS) (fun F hF hPF => ?_) b (decide_eq_true (e.trans hnn)) fun j hj => decide_eq_false (fun e2 => ?_)
    · obtain ⟨O, e, hO, hs, hl⟩ := street_list hF
      have hPF := of_decide_eq_true hPF
      rw [e, srv_cnt h] at hPF
      rcases hc.first O hO (fun s hs' => by have := (hs s hs').1; omega) hl (by omega) with h3 | h3
      · left; rw [e, h3]
      · right; rw [e]; exact bef_int h3
    · have := g ch.length j a (by have : j0 < nLists t ch.length := b; omega) (.inr ⟨rfl, hj⟩)
      have e3 : srvL t wind voice qs ch.length j = n := e2
      omega
end Go.Proofs.Ytimedmkpenbmkaa
end
section
namespace Go.Proofs.Ytimedmkpenbmkaa
open Go.RowKit Go.Shelf
set_option linter.unusedSimpArgs false
set_option linter.unusedVariables false
set_option maxHeartbeats 2000000 in
set_option maxRecDepth 100000 in
theorem Best_rng (t : Hr.Town) (hok : t.Ok) (wind voice : Int) (hw0 : 0 ≤ wind) (hw4 : wind ≤ 4) (b o cap : Nat) (hv : Value) (nm : List Bool) (hnl : nm.length = 30) (st : Int) (hst : ¬ (0 ≤ st ∧ st ≤ 30)) (w : World) (hI : Ints w b o t.plots)
    (hOQ : OQ w t.wide wind voice (.slice (some ⟨b, o, none⟩) t.plots.length cap) hv nm) :
    Calls Try.prog 52 #[.agg #[.int .i64 t.wide, .slice (some ⟨b, o, none⟩) t.plots.length cap], .agg #[.int .i64 wind, .int .i64 voice], hv, .int .i64 st] w fun e w' => e = .returned (.tuple #[.slice none 0 0, .int .i64 0, .int .i64 3]) ∧ Below w.heap.size w w' := by
  have HI := Lib.hid hI
  have HOQ := Lib.hid hOQ
  have hbl := hI.1
  clear hI hOQ
  have hB2 : ∀ o1 o2, Below w.heap.size w ((w.alloc o1).alloc o2) := fun o1 o2 => al (al (Below.refl _ _) _) _
  go_enter Try.func52, Try.ntmps52
  go_wp2_with fail
  refine (HOQ.out _ (hB2 _ _)).mono ?_
  rintro e w1 ⟨r, N, rfl, hD, hr, hN0, hN, hB⟩
  unfold qWork
  have HB := Lib.hid (join (hB2 _ _) hB)
  have HD := Lib.hid hD
  have HN := Lib.hid hN
  have hrl : r < w1.heap.size := dir_lt hD
  have hNl : N < w1.heap.size := (Array.getElem?_eq_some_iff.1 hN).1
  have hz1 : w.heap.size + 1 + 1 ≤ w1.heap.size := by have := hB.size; simp at this; omega
  clear hD hN hB hr
  rcases Best_rng_dec hst with h1 | ⟨h1, h2⟩
  · go_wp2_with fail
    go_ret3
    exact ⟨rfl, by first | (with_reducible exact al HB.out _) | (with_reducible refine setc6 HB.out ?_; omega)⟩
  · go_wp2_with fail
    go_ret3
    exact ⟨rfl, by first | (with_reducible exact al HB.out _) | (with_reducible refine setc6 HB.out ?_; omega)⟩
set_option maxHeartbeats 2000000 in
set_option maxRecDepth 100000 in
theorem Louder_rng (t : Hr.Town) (hok : t.Ok) (wind : Int) (hw0 : 0 ≤ wind) (hw4 : wind ≤ 4) (b o cap : Nat) (hv : Value) (nm : List Bool) (hnl : nm.length = 30) (st : Int) (hst : ¬ (0 ≤ st ∧ st ≤ 30)) (w : World) (hI : Ints w b o t.plots)
    (hOQ : OQ w t.wide wind 40 (.slice (some ⟨b, o, none⟩) t.plots.length cap) hv nm) :
    Calls Try.prog 53 #[.agg #[.int .i64 t.wide, .slice (some ⟨b, o, none⟩) t.plots.length cap], .int .i64 wind, hv, .int .i64 st] w fun e w' => e = .returned (.tuple #[.int .i64 0, .int .i64 3]) ∧ Below w.heap.size w w' := by
  have HI := Lib.hid hI
  have HOQ := Lib.hid hOQ
  have hle : w.heap.size ≤ w.heap.size := Nat.le_refl _
  have hbl := hI.1
  clear hI hOQ
  unfold OQ qWork at HOQ
  go_enter Try.func53, Try.ntmps53
  go_upto_region 1 with fail
  go_cut [10, 11] from 13 to 21 (fun s10 s11 wx => ∃ c r N, s10 = .pointer (some ⟨c, 0, none⟩) ∧ s11 = .int .i64 0 ∧ QOp t wind 40 b o cap r N nm w c wx)
  case first =>
    go_region_with (first | (go_at_call 90; refine (windOnly_eq _ _).mono ?_; rintro e w' ⟨rfl, rfl⟩) | (go_at_call 113; refine (HOQ.out _ (by repeat (first | exact Below.refl _ _ | refine Below.drew ?_ | refine al ?_ _))).mono ?_; rintro e w5 ⟨r, N, rfl, hD5, hr5, hN5, hNN, hB5⟩; have HBW := Lib.hid (join (a := w) (by repeat (first | exact Below.refl _ _ | refine Below.drew ?_ | refine al ?_ _)) hB5); obtain ⟨hc5, hf5⟩ := kept hB5; have hz5 := hB5.size; have HD := Lib.hid hD5; have HNN := Lib.hid hNN; clear hD5 hNN))
    all_goals go_wp2_with fail
    all_goals go_meet
    all_goals refine ⟨_, r, N, rfl, rfl, ?_⟩
    all_goals (first
      | (with_reducible refine qop_alloc HBW.out ?_ HI.out HD.out HNN.out)
      | (with_reducible refine qop_set (z0 := .int .i64 0) (z1 := .slice none 0 0) (z2 := .int .i64 0) (z3 := .int .i64 0) (z4 := .map none) (z5 := .nilFunc) HBW.out ?_ ?_ ?_ HI.out HD.out HNN.out ?_ ?_ ?_ ?_ ?_ ?_))
    all_goals first
      | omega
      | (simp at hz5; omega)
      | (simp at hr5; omega)
      | (simp at hN5; omega)
      | (rw [hc5 _ _ (by simp <;> omega)]; clear hc5 hf5 hB5; go_simp; done)
  case rest =>
    obtain ⟨c, r, N, rfl, rfl, hO⟩ := hcut
    have HB := Lib.hid hO.bel
    have HO := Lib.hid hO
    have c0 := hO.wk.c0
    have c1 := hO.wk.c1
    have c2 := hO.wk.c2
    have c3 := hO.wk.c3
    have c4 := hO.wk.c4
    have c5 := hO.wk.c5
    have hcl := hO.wk.lt.1
    clear hO
    rcases Best_rng_dec hst with h1 | ⟨h1, h2⟩
    · go_wp2_with fail
      go_ret2
      exact ⟨rfl, HB.out⟩
    · go_wp2_with fail
      go_ret2
      exact ⟨rfl, HB.out⟩
end Go.Proofs.Ytimedmkpenbmkaa
end
section
namespace Go.Proofs.Ytimedmkpenbmkaa
open Go.RowKit Go.Shelf
set_option linter.unusedSimpArgs false
set_option linter.unusedVariables false
theorem air_open {t : Hr.Town} {qs : List Int} (h : Named t qs) {wind voice : Int} (ha : airErr wind voice = 0) : openErr t.wide t.plots wind voice = 0 := by unfold openErr; rw [h.chk]; exact ha
set_option maxHeartbeats 8000000 in
set_option maxRecDepth 100000 in
theorem RefBest_ok (t : Hr.Town) (wind voice : Int) (b o cap : Nat) (a2 : Option Addr) (hcap : Nat) (qs : List Int) (hNm : Named t qs) (ha : airErr wind voice = 0) (hSt : (kindIdx t.plots 0).length ≤ 20) (st : Nat) (hst : st ≤ 30) (w : World) (hR : RdI w (.slice (some ⟨b, o, none⟩) t.plots.length cap) t.plots) (hH : RdI w (.slice a2 qs.length hcap) qs) :
    Calls Try.prog 55 #[.agg #[.int .i64 t.wide, .slice (some ⟨b, o, none⟩) t.plots.length cap], .int .i64 wind, .int .i64 voice, .slice a2 qs.length hcap, .int .i64 st] w fun e w' => ∃ v, e = .returned (.tuple #[v, .int .i64 (chooseP (lis t wind voice (inL qs)) st).2]) ∧ Below w.heap.size w w' ∧ RdI w' v (chooseP (lis t wind voice (inL qs)) st).1 := by
  have hl30 : t.plots.length ≤ 30 := hNm.ok.n30
  have hqs := hNm.len
  have HB := Lib.hid (below1 w (.cells #[.int .i64 t.wide, .slice (some ⟨b, o, none⟩) t.plots.length cap] 33))
  have hx0 : (w.alloc (.cells #[.int .i64 t.wide, .slice (some ⟨b, o, none⟩) t.plots.length cap] 33)).heap[w.heap.size]? = some (.cells #[.int .i64 t.wide, .slice (some ⟨b, o, none⟩) t.plots.length cap] 33 (0, 0)) := heap_alloc_last _ _
  obtain ⟨W1, hW1⟩ : ∃ W1, W1 = w.alloc (.cells #[.int .i64 t.wide, .slice (some ⟨b, o, none⟩) t.plots.length cap] 33) := ⟨_, rfl⟩
  have HR := Lib.hid (show RdI W1 (.slice (some ⟨b, o, none⟩) t.plots.length cap) t.plots by rw [hW1]; exact hR.below HB.out)
  have HH := Lib.hid (show RdI W1 (.slice a2 qs.length hcap) qs by rw [hW1]; exact hH.below HB.out)
  rw [← hW1] at HB hx0
  obtain ⟨k0, k1⟩ := blk_cells2 hx0
  have k2 := (Array.getElem?_eq_some_iff.1 hx0).1
  have HW1 := Lib.hid hW1
  have HX0 := Lib.hid hx0
  have HNM := Lib.hid hNm
  have HEND := Lib.hid (fun best n' hB => best_end hNm wind voice st (best := best) (n' := n') hB)
  obtain ⟨X, hX⟩ : ∃ X, X = (chooseP (lis t wind voice (inL qs)) st).1 := ⟨_, rfl⟩
  obtain ⟨M, hM⟩ : ∃ M, M = (chooseP (lis t wind voice (inL qs)) st).2 := ⟨_, rfl⟩
  rw [← hX, ← hM] at HEND ⊢
  have hne : t.plots ≠ [] := by intro e; have := (check_len hNm.chk).2; rw [e] at this; simp at this
  obtain ⟨b', o', e', -, hI⟩ := rd_ints HR.out hne
  cases e'
  have HEA := Lib.hid (refEars_yes t hNm.ok wind voice (air_open hNm ha) b o cap W1 hI)
  clear hR hH hx0 hW1 hNm hX hM hne hI
  go_enter Try.func55, Try.ntmps55
  go_upto_region 1 with fail
  rw [← HW1.out]
  go_wp2_with fail
  refine HEA.out.mono ?_
  rintro e w3 ⟨O, vs, rfl, hE, hOl, hB⟩
  have HE := Lib.hid hE.read
  have HB3 := Lib.hid hB
  have hEl : ∀ p, p < t.plots.length → (earsE t wind voice t.plots.length p).length ≤ 1000000 := fun p _ => Nat.le_trans (earsE_len _ _ _ _ _) (by omega)
  have hhv : ∀ k, k < qs.length → ∃ p : Nat, qs.getD k 0 = p ∧ p < t.plots.length := fun k hk => by
    have hm : qs.getD k 0 ∈ qs := by rw [List.getD_eq_getElem?_getD, List.getElem?_eq_getElem hk]; exact List.getElem_mem _
    obtain ⟨p, e1, e2, _⟩ := mem_kindIdx.1 (HNM.out.all _ hm)
    exact ⟨p, e1, e2⟩
  have HSV := Lib.hid (fun W u S (h1 : ErR t.plots.length O (earsE t wind voice t.plots.length) W) (h2 : RdI W (.slice a2 qs.length hcap) qs) (hSl : S.length ≤ 1000000) (h3 : RdI W u S) => refServed_any t.plots.length O t.plots.length (earsE t wind voice t.plots.length) (by omega) hEl (.slice a2 qs.length hcap) u qs S (by omega) hSl hhv W h1 h2 h3)
  clear hE hB HEA k0 k1 k2 hEl hhv
  go_wp2_with fail
  go_loopw [13, 14, 15] (fun v n i wr => ∃ (m : Nat) (best : List Int) (n' : Nat) (av : Option Addr) (cv : Nat), i = .int .i64 m ∧ 1 ≤ m ∧ m ≤ min st qs.length + 1 ∧ n = .int .i64 n' ∧ v = .slice av best.length cv ∧ BestI t wind voice qs m 0 best n' ∧ RdI wr (.slice av best.length cv) best ∧ Below w3.heap.size w3 wr) (fun _ _ i _ => min st qs.length + 1 - (intOf i).toNat)
  case atStart => exact ⟨1, [], 0, none, 0, rfl, Nat.le_refl _, by omega, rfl, rfl, BestI.start _ _ _ _, rd_nil _, Below.refl _ _⟩
  case round =>
    obtain ⟨m, best, n', av, cv, rfl, hm1, hm, rfl, rfl, hBI, hrb, hB⟩ := hrel
    obtain ⟨wm, rfl⟩ : ∃ wm : World, wm = wr := ⟨_, rfl⟩
    have HB5 := Lib.hid (join HB3.out hB)
    have HBm := Lib.hid hB
    have HBI := Lib.hid hBI
    have HRB := Lib.hid hrb
    by_cases hmK : m ≤ min st qs.length
    · have hm2 : (m : Int) ≤ st := by omega
      have hm3 : (m : Int) ≤ qs.length := by omega
      obtain ⟨k0, k1, k2⟩ := box33 HX0.out (join HB3.out hB)
      have HST := Lib.hid (refStreets_any t.wide (some ⟨b, o, none⟩) cap t.plots (by omega) wm (HR.out.below (join HB3.out hB)))
      clear hB hBI hrb
      go_wp2_with fail
      refine HST.out.mono ?_
      rintro e w6 ⟨v33, rfl, ho33, hB⟩
      have HRS := Lib.hid (RdI.own rfl rfl ho33)
      have hcs : ∃ a33 c33, v33 = .slice a33 (kindIdx t.plots 0).length c33 ∧ (kindIdx t.plots 0).length ≤ c33 := by
        rcases ho33.2 with ⟨h1, h2⟩ | ⟨g, cp, cur, h1, _, _, hn, _⟩
        · exact ⟨none, 0, by rw [h1, h2], by omega⟩
        · exact ⟨_, cp, h1, hn⟩
      obtain ⟨a33, c33, rfl, hc33⟩ := hcs
      have HB6 := Lib.hid (join HBm.out hB)
      have HRB6 := Lib.hid (HRB.out.below hB)
      have HLI := Lib.hid (Lists_any m a33 c33 (kindIdx t.plots 0) (by omega) hSt hc33 w6 HRS.out)
      clear ho33 hB HST k0 k1 k2
      go_wp2_with fail
      refine HLI.out.mono ?_
      rintro e w7 ⟨v13, vs13, rfl, hL, hB⟩
      have HL7 := Lib.hid hL
      have HB7 := Lib.hid (join HB6.out hB)
      have HRB7 := Lib.hid (HRB6.out.below hB)
      obtain ⟨a13, c13, rfl⟩ := own_slice hL.own
      obtain ⟨Ls, hLs⟩ : ∃ Ls, Ls = listsP m (kindIdx t.plots 0) := ⟨_, rfl⟩
      rw [← hLs] at HL7
      have hLn : Ls.length ≤ 1048576 := by rw [hLs]; exact Nat.le_trans (lists_many m _) (Nat.le_trans (Nat.pow_le_pow_right (by omega) hSt) (by decide))
      have HLQ := Lib.hid hLs
      have HNL : Hid (nLists t m = Ls.length) := Lib.hid (by unfold nLists; rw [hLs])
      clear hL hB HLI HRB HRB6
      rw [← hLs]
      clear hLs
      go_wp2_with fail
      go_loopw [13, 14, 17] (fun v n i wq => ∃ (j : Nat) (best : List Int) (n' : Nat) (av : Option Addr) (cv : Nat), i = .int .i64 j ∧ j ≤ Ls.length ∧ n = .int .i64 n' ∧ v = .slice av best.length cv ∧ BestI t wind voice qs m j best n' ∧ RdI wq (.slice av best.length cv) best ∧ Below w7.heap.size w7 wq) (fun _ _ i _ => Ls.length - (intOf i).toNat)
      case atStart => exact ⟨0, best, n', av, cv, rfl, Nat.zero_le _, rfl, rfl, HBI.out, HRB7.out, Below.refl _ _⟩
      case round =>
        clear HBI HRB7
        obtain ⟨j, best, n', av, cv, rfl, hj, rfl, rfl, hBI, hrb, hBq⟩ := hrel
        obtain ⟨wq, rfl⟩ : ∃ wq : World, wq = wr := ⟨_, rfl⟩
        have HBI := Lib.hid hBI
        have HRB := Lib.hid hrb
        have HBq := Lib.hid hBq
        by_cases hjl : j < Ls.length
        · have hjl' : (j : Int) < Ls.length := by omega
          have hLq := HL7.out.below hBq
          obtain ⟨g, cg, hv, hgl, -, hcell⟩ := hLq.cell (by intro e; rw [e] at hjl; simp at hjl)
          injection hv with hv1 hv2 hv3
          subst hv1 hv3
          clear hv2
          have cu := hcell j hjl
          have hel := hLq.el j hjl
          obtain ⟨S, hS⟩ : ∃ S, S = Ls.getD j [] := ⟨_, rfl⟩
          obtain ⟨uv, huv⟩ : ∃ uv, uv = vs13.getD j (.slice none 0 0) := ⟨_, rfl⟩
          rw [← hS, ← huv] at hel
          rw [← huv] at cu
          have hSl : S.length ≤ 1000000 := by
            have hm2 : S ∈ listsP m (kindIdx t.plots 0) := by rw [hS, ← HLQ.out, List.getD_eq_getElem?_getD, List.getElem?_eq_getElem hjl]; exact List.getElem_mem _
            rw [lists_len _ _ _ hm2]; omega
          have hrs := RdI.own rfl rfl hel.1
          have HSQ := Lib.hid (HSV.out wq uv S ((HE.out.below HB7.out).below hBq) ((HH.out.below HB3.out).below (join HB7.out hBq)) hSl hrs)
          obtain ⟨ua, uc, huq⟩ := own_slice hel.1
          subst huq
          have HRSv := Lib.hid hrs
          obtain ⟨n, hn⟩ : ∃ n, n = srvE (earsE t wind voice t.plots.length) qs S qs.length := ⟨_, rfl⟩
          rw [← hn] at HSQ
          have HNQ : Hid (srvL t wind voice qs m j = n) := Lib.hid (by rw [hn, hS, HLQ.out]; rfl)
          have HSS : Hid (listAt t m j = S) := Lib.hid (by rw [hS, HLQ.out]; rfl)
          clear hS huv hel hrs hn hBI hrb hBq hLq hcell
          go_wp2_with fail
          refine HSQ.out.mono ?_
          rintro e w9 ⟨rfl, hB⟩
          have HB9 := Lib.hid (join HBq.out hB)
          have cu9 : w9.cell? ⟨g, j, none⟩ = some (.slice ua S.length uc) := (World.cell?_of_block (a := ⟨g, j, none⟩) (hB.block g hgl)).trans cu
          have hgl9 : g < w9.heap.size := Nat.lt_of_lt_of_le hgl hB.size
          have HRSv := Lib.hid (HRSv.out.below hB)
          have HRB9 := Lib.hid (HRB.out.below hB)
          clear hB HSQ cu hgl
          by_cases he : n' < n
          · have de : (n' : Int) < (n : Int) := by omega
            have hst2 := HBI.out.take hm1 (by rw [HNL.out]; exact hjl) (by rw [HNQ.out]; exact he)
            rw [HSS.out, HNQ.out] at hst2
            have HT := Lib.hid hst2
            clear he hst2
            go_wp2_with fail
            go_roundw
            case rel => exact ⟨j + 1, S, n, ua, uc, by simp, by omega, rfl, rfl, HT.out, HRSv.out, HB9.out⟩
            case measure => simp [intOf]; omega
          · have de : ¬ (n' : Int) < (n : Int) := by omega
            have HT := Lib.hid (HBI.out.keep (by rw [HNQ.out]; omega))
            clear he
            go_wp2_with fail
            go_roundw
            case rel => exact ⟨j + 1, best, n', av, cv, by simp, by omega, rfl, rfl, HT.out, HRB9.out, HB9.out⟩
            case measure => simp [intOf]; omega
        · obtain rfl : j = Ls.length := by omega
          have hT := HBI.out
          rw [← HNL.out] at hT
          have HT := Lib.hid hT.turn
          clear hBI hrb hBq hT
          go_wp2_with fail
          go_roundw
          case rel => exact ⟨m + 1, best, n', av, cv, by simp, by omega, by omega, rfl, rfl, HT.out, HRB.out, join HB7.out HBq.out⟩
          case measure => simp [intOf]; omega
    · obtain rfl : m = min st qs.length + 1 := by omega
      obtain ⟨e1, e2⟩ := HEND.out best n' hBI
      have HE1 := Lib.hid e1
      have HE2 := Lib.hid e2
      clear hBI hrb hB e1 e2
      by_cases hs : (((min st qs.length + 1 : Nat) : Int) ≤ st)
      · have hs2 : ¬ (((min st qs.length + 1 : Nat) : Int) ≤ qs.length) := by omega
        go_wp2_with fail
        go_ret2
        refine ⟨_, by rw [← HE2.out]; rfl, join HB.out (join HB3.out HBm.out), ?_⟩
        rw [← HE1.out]
        exact HRB.out
      · go_wp2_with fail
        go_ret2
        refine ⟨_, by rw [← HE2.out]; rfl, join HB.out (join HB3.out HBm.out), ?_⟩
        rw [← HE1.out]
        exact HRB.out
end Go.Proofs.Ytimedmkpenbmkaa
end
section
namespace Go.Proofs.Ytimedmkpenbmkaa
open Go.RowKit Go.Shelf
set_option linter.unusedSimpArgs false
set_option linter.unusedVariables false
theorem okV_named {t : Hr.Town} {qs : List Int} (h : Named t qs) (wind voice : Int) (st : Nat) : okV (lis t wind voice (inL qs)) st = true ↔ (chooseP (lis t wind voice (inL qs)) st).2 = (qs.length : Nat) := by
  have hlen : (lis t wind voice (inL qs)).length = qs.length := lis_count h.all h.nd
  unfold okV
  rw [hlen, Bool.and_eq_true, decide_eq_true_iff]
  obtain ⟨ch, n, h1, h2, hch⟩ := chosen (lis t wind voice (inL qs)) (h.lis wind voice) st
  refine ⟨fun h => h.2, fun e => ⟨?_, e⟩⟩
  rw [List.all_eq_true]
  intro x hx
  rw [h2] at e
  have e2 : cntS (lis t wind voice (inL qs)) ch = (lis t wind voice (inL qs)).length := by rw [hch.cnt]; omega
  have h3 := cnt_all.1 e2 x hx
  unfold hit at h3
  obtain ⟨s, _, hs⟩ := List.any_eq_true.1 h3
  rw [no_deaf hs]; rfl
theorem leastV_found {t : Hr.Town} {wind : Int} {cnt : Nat → Bool} {st v : Nat} (h1 : 1 ≤ v) (h2 : v ≤ 40) (hv : okV (lis t wind (v : Nat) cnt) st = true) (hl : ∀ u : Nat, 1 ≤ u → u < v → okV (lis t wind (u : Nat) cnt) st = false) : leastV t wind cnt st = v := by
  rcases lvF_spec t wind cnt st 40 1 with ⟨_, h⟩ | ⟨x, a, b, c, d, e⟩
  · rw [h v h1 (by omega)] at hv; cases hv
  · have hx : x = v := by
      rcases Nat.lt_trichotomy x v with h | h | h
      · rw [hl x b h] at d; cases d
      · exact h
      · rw [e v h1 h] at hv; cases hv
    rw [← hx]; exact a
theorem leastV_none {t : Hr.Town} {wind : Int} {cnt : Nat → Bool} {st : Nat} (hl : ∀ u : Nat, 1 ≤ u → u < 41 → okV (lis t wind (u : Nat) cnt) st = false) : leastV t wind cnt st = -1 := by
  rcases lvF_spec t wind cnt st 40 1 with ⟨h, _⟩ | ⟨x, a, b, c, d, e⟩
  · exact h
  · rw [hl x b c] at d; cases d
/-- the least voice with which so many stands serve some houses; 0 if there is none -/
def louV (t : Hr.Town) (wind : Int) (qs : List Int) (st : Nat) : Int := if leastV t wind (inL qs) st = -1 then 0 else leastV t wind (inL qs) st
set_option maxHeartbeats 8000000 in
set_option maxRecDepth 100000 in
theorem RefLouder_ok (t : Hr.Town) (wind : Int) (b o cap : Nat) (a2 : Option Addr) (hcap : Nat) (qs : List Int) (hNm : Named t qs) (hw0 : 0 ≤ wind) (hw4 : wind ≤ 4) (hSt : (kindIdx t.plots 0).length ≤ 20) (st : Nat) (hst : st ≤ 30) (w : World) (hR : RdI w (.slice (some ⟨b, o, none⟩) t.plots.length cap) t.plots) (hH : RdI w (.slice a2 qs.length hcap) qs) :
    Calls Try.prog 56 #[.agg #[.int .i64 t.wide, .slice (some ⟨b, o, none⟩) t.plots.length cap], .int .i64 wind, .slice a2 qs.length hcap, .int .i64 st] w fun e w' => e = .returned (.int .i64 (louV t wind qs st)) ∧ Below w.heap.size w w' := by
  have hqs := hNm.len
  have HB := Lib.hid (below1 w (.cells #[.int .i64 t.wide, .slice (some ⟨b, o, none⟩) t.plots.length cap] 33))
  have hx0 : (w.alloc (.cells #[.int .i64 t.wide, .slice (some ⟨b, o, none⟩) t.plots.length cap] 33)).heap[w.heap.size]? = some (.cells #[.int .i64 t.wide, .slice (some ⟨b, o, none⟩) t.plots.length cap] 33 (0, 0)) := heap_alloc_last _ _
  obtain ⟨W1, hW1⟩ : ∃ W1, W1 = w.alloc (.cells #[.int .i64 t.wide, .slice (some ⟨b, o, none⟩) t.plots.length cap] 33) := ⟨_, rfl⟩
  have HR := Lib.hid (show RdI W1 (.slice (some ⟨b, o, none⟩) t.plots.length cap) t.plots by rw [hW1]; exact hR.below HB.out)
  have HH := Lib.hid (show RdI W1 (.slice a2 qs.length hcap) qs by rw [hW1]; exact hH.below HB.out)
  rw [← hW1] at HB hx0
  have HW1 := Lib.hid hW1
  have HX0 := Lib.hid hx0
  have HBE := Lib.hid (fun (v : Nat) (hv1 : 1 ≤ v) (hv2 : v ≤ 40) W (h1 : RdI W (.slice (some ⟨b, o, none⟩) t.plots.length cap) t.plots) (h2 : RdI W (.slice a2 qs.length hcap) qs) => RefBest_ok t wind v b o cap a2 hcap qs hNm (by unfold airErr; rw [if_neg (by omega)]) hSt st hst W h1 h2)
  have HOK := Lib.hid (fun (v : Nat) => okV_named hNm wind v st)
  obtain ⟨Ch, hCh⟩ : ∃ Ch : Nat → Int, Ch = fun (v : Nat) => (chooseP (lis t wind v (inL qs)) st).2 := ⟨_, rfl⟩
  have hCv : ∀ v : Nat, (chooseP (lis t wind v (inL qs)) st).2 = Ch v := fun v => by rw [hCh]
  simp only [hCv] at HBE HOK
  clear hR hH hx0 hW1 hCh hCv hNm
  go_enter Try.func56, Try.ntmps56
  go_upto_region 1 with fail
  rw [← HW1.out]
  go_wp2_with fail
  go_loopw [9] (fun i wr => ∃ v : Nat, i = .int .i64 v ∧ 1 ≤ v ∧ v ≤ 41 ∧ (∀ u : Nat, 1 ≤ u → u < v → okV (lis t wind (u : Nat) (inL qs)) st = false) ∧ Below W1.heap.size W1 wr) (fun i _ => 41 - (intOf i).toNat)
  case atStart => exact ⟨1, rfl, Nat.le_refl _, by omega, fun u h1 h2 => by omega, Below.refl _ _⟩
  case round =>
    obtain ⟨v, rfl, hv1, hv2, hno, hB⟩ := hrel
    obtain ⟨wm, rfl⟩ : ∃ wm : World, wm = wr := ⟨_, rfl⟩
    have HBm := Lib.hid hB
    have HNO := Lib.hid hno
    by_cases hv : v ≤ 40
    · have hv' : (v : Int) ≤ 40 := by omega
      obtain ⟨k0, k1, k2⟩ := box33 HX0.out hB
      have HBV := Lib.hid (HBE.out v hv1 hv wm (HR.out.below hB) (HH.out.below hB))
      have HOV := Lib.hid (HOK.out v)
      obtain ⟨n, hn⟩ : ∃ n, n = Ch v := ⟨_, rfl⟩
      rw [← hn] at HBV HOV
      clear hB hno hn
      go_wp2_with fail
      refine HBV.out.mono ?_
      rintro e w6 ⟨v33, rfl, hB, -⟩
      have HB6 := Lib.hid (join HBm.out hB)
      clear hB HBV
      by_cases he : n = (qs.length : Nat)
      · subst he
        have hl := leastV_found hv1 hv (HOV.out.2 rfl) HNO.out
        have HL := Lib.hid hl
        clear hl
        go_wp2_with fail
        go_ret
        refine ⟨?_, join HB.out HB6.out⟩
        unfold louV
        rw [HL.out, if_neg (by omega)]
        rfl
      · have de : (n == ((qs.length : Nat) : Int)) = false := by simpa using he
        have HF : Hid (okV (lis t wind (v : Nat) (inL qs)) st = false) := Lib.hid (by rw [← Bool.not_eq_true]; exact fun h => he (HOV.out.1 h))
        clear he
        go_wp2_with fail
        go_roundw
        case rel =>
          refine ⟨v + 1, by simp, by omega, by omega, fun u h1 h2 => ?_, HB6.out⟩
          by_cases e : u = v
          · rw [e]; exact HF.out
          · exact HNO.out u h1 (by omega)
        case measure => simp [intOf]; omega
    · obtain rfl : v = 41 := by omega
      have hl := leastV_none HNO.out
      have HL := Lib.hid hl
      clear hl hB hno
      go_wp2_with fail
      go_ret
      refine ⟨?_, join HB.out HBm.out⟩
      unfold louV
      rw [HL.out, if_pos rfl]
      rfl
end Go.Proofs.Ytimedmkpenbmkaa
end
section
namespace Go.Proofs.Ytimedmkpenbmkaa
open Go.RowKit Go.Shelf
set_option linter.unusedSimpArgs false
set_option linter.unusedVariables false
/-- the error of a call with a number of stands: that of the quarter, or of the number -/
def rngE (q st : Int) : Int := if q ≠ 0 then q else if 0 ≤ st ∧ st ≤ 30 then 0 else 3
structure PairB (wd : Int) (xs : List Int) (wind voice : Int) (qs : List Int) (st : Int) (N : Int) (L : List Int) : Prop where
  code : ∀ a cap a2 hcap W, RdI W (.slice a xs.length cap) xs → RdI W (.slice a2 qs.length hcap) qs → Calls Try.prog 52 #[.agg #[.int .i64 wd, .slice a xs.length cap], .agg #[.int .i64 wind, .int .i64 voice], .slice a2 qs.length hcap, .int .i64 st] W fun e w' => ∃ v, e = .returned (.tuple #[v, .int .i64 N, .int .i64 (rngE (quarterE wd xs wind voice qs) st)]) ∧ Below W.heap.size W w' ∧ RdI w' v L
  ref : rngE (quarterE wd xs wind voice qs) st = 0 → ∀ a cap a2 hcap W, qs.length ≤ hcap → RdI W (.slice a xs.length cap) xs → RdI W (.slice a2 qs.length hcap) qs → Calls Try.prog 55 #[.agg #[.int .i64 wd, .slice a xs.length cap], .int .i64 wind, .int .i64 voice, .slice a2 qs.length hcap, .int .i64 st] W fun e w' => ∃ v, e = .returned (.tuple #[v, .int .i64 N]) ∧ Below W.heap.size W w' ∧ RdI w' v L
  none : rngE (quarterE wd xs wind voice qs) st ≠ 0 → L = [] ∧ N = 0
theorem best_pair (wd : Int) (xs : List Int) (hl : xs.length ≤ 1000000) (hSt : xs.length ≤ 30 → (kindIdx xs 0).length ≤ 20) (wind voice : Int) (qs : List Int) (hq : qs.length ≤ 1000000) (st : Int) : ∃ N L, PairB wd xs wind voice qs st N L := by
  by_cases h0 : quarterE wd xs wind voice qs = 0
  · obtain ⟨t, rfl, rfl, hN, ha⟩ := quarter_town h0
    obtain ⟨w0, w4, v1, v40⟩ := wind_ok ha
    obtain ⟨-, hnl, hl⟩ := lis_named hN.ok wind voice hN.all hN.nd
    by_cases hs : 0 ≤ st ∧ st ≤ 30
    · obtain ⟨n, rfl⟩ := Int.eq_ofNat_of_zero_le hs.1
      have e0 : rngE (quarterE t.wide t.plots wind voice qs) (n : Nat) = 0 := by unfold rngE; rw [h0, if_neg (by simp), if_pos (by omega)]
      refine ⟨(chooseP (lis t wind voice (inL qs)) n).2, (chooseP (lis t wind voice (inL qs)) n).1, ⟨fun a cap a2 hcap W hR hH => ?_, fun _ a cap a2 hcap W hc hR hH => ?_, fun h => absurd e0 h⟩⟩
      · obtain ⟨b, o, rfl⟩ := plots_some hN hR
        obtain ⟨hI, hOQ⟩ := named_OQ hN wind voice ha b o cap a2 hcap W hR hH
        refine (Best_ok t hN.ok wind voice w0 w4 b o cap _ (qN t qs) hnl n (by omega) W hI hOQ).mono ?_
        rintro e w' ⟨v, rfl, hB, h1⟩
        change lis t wind voice ((qN t qs).getD · false) = _ at hl
        rw [hl] at h1 ⊢
        exact ⟨v, by rw [e0], hB, RdI.own rfl rfl h1⟩
      · obtain ⟨b, o, rfl⟩ := plots_some hN hR
        exact RefBest_ok t wind voice b o cap a2 hcap qs hN ha (hSt hN.ok.n30) n (by omega) W hR hH
    · have e3 : rngE (quarterE t.wide t.plots wind voice qs) st = 3 := by unfold rngE; rw [h0, if_neg (by simp), if_neg hs]
      refine ⟨0, [], ⟨fun a cap a2 hcap W hR hH => ?_, fun h => ?_, fun _ => ⟨rfl, rfl⟩⟩⟩
      · obtain ⟨b, o, rfl⟩ := plots_some hN hR
        obtain ⟨hI, hOQ⟩ := named_OQ hN wind voice ha b o cap a2 hcap W hR hH
        refine (Best_rng t hN.ok wind voice w0 w4 b o cap _ (qN t qs) hnl st hs W hI hOQ).mono ?_
        rintro e w' ⟨rfl, hB⟩
        exact ⟨_, by rw [e3], hB, rd_nil _⟩
      · rw [e3] at h; cases h
  · have e3 : rngE (quarterE wd xs wind voice qs) st = quarterE wd xs wind voice qs := by unfold rngE; rw [if_pos h0]
    refine ⟨0, [], ⟨fun a cap a2 hcap W hR hH => ?_, fun h => ?_, fun _ => ⟨rfl, rfl⟩⟩⟩
    · refine (Best_err wd wind voice _ _ _ W st (oq_err wd wind voice a a2 cap hcap xs qs hl W hR hH h0)).mono ?_
      rintro e w' ⟨rfl, hB⟩
      exact ⟨_, by rw [e3], hB, rd_nil _⟩
    · rw [e3] at h; exact absurd h h0
theorem quarterE_voice (wd : Int) (xs : List Int) (wind : Int) (qs : List Int) : quarterE wd xs wind 40 qs = quarterE wd xs wind 1 qs := by
  have : airErr wind 40 = airErr wind 1 := by unfold airErr; simp
  unfold quarterE openErr; rw [this]
/-- what the law makes of the reference's answer: no voice is an error -/
def louE (q V : Int) : Int := if q = 0 then (if V = 0 then 6 else 0) else q
structure PairV (wd : Int) (xs : List Int) (wind : Int) (qs : List Int) (st : Int) (V : Int) : Prop where
  code : ∀ a cap a2 hcap W, RdI W (.slice a xs.length cap) xs → RdI W (.slice a2 qs.length hcap) qs → Calls Try.prog 53 #[.agg #[.int .i64 wd, .slice a xs.length cap], .int .i64 wind, .slice a2 qs.length hcap, .int .i64 st] W fun e w' => e = .returned (.tuple #[.int .i64 V, .int .i64 (louE (rngE (quarterE wd xs wind 1 qs) st) V)]) ∧ Below W.heap.size W w'
  ref : rngE (quarterE wd xs wind 1 qs) st = 0 → ∀ a cap a2 hcap W, qs.length ≤ hcap → RdI W (.slice a xs.length cap) xs → RdI W (.slice a2 qs.length hcap) qs → Calls Try.prog 56 #[.agg #[.int .i64 wd, .slice a xs.length cap], .int .i64 wind, .slice a2 qs.length hcap, .int .i64 st] W fun e w' => e = .returned (.int .i64 V) ∧ Below W.heap.size W w'
  none : rngE (quarterE wd xs wind 1 qs) st ≠ 0 → V = 0
theorem louder_pair (wd : Int) (xs : List Int) (hl : xs.length ≤ 1000000) (hSt : xs.length ≤ 30 → (kindIdx xs 0).length ≤ 20) (wind : Int) (qs : List Int) (hq : qs.length ≤ 1000000) (st : Int) : ∃ V, PairV wd xs wind qs st V := by
  by_cases h0 : quarterE wd xs wind 1 qs = 0
  · have h40 : quarterE wd xs wind 40 qs = 0 := by rw [quarterE_voice, h0]
    obtain ⟨t, rfl, rfl, hN, ha⟩ := quarter_town h40
    obtain ⟨w0, w4, v1, v40⟩ := wind_ok ha
    obtain ⟨-, hnl, hl⟩ := lis_named hN.ok wind 40 hN.all hN.nd
    by_cases hs : 0 ≤ st ∧ st ≤ 30
    · obtain ⟨n, rfl⟩ := Int.eq_ofNat_of_zero_le hs.1
      have e0 : rngE (quarterE t.wide t.plots wind 1 qs) (n : Nat) = 0 := by unfold rngE; rw [h0, if_neg (by simp), if_pos (by omega)]
      refine ⟨louV t wind qs n, ⟨fun a cap a2 hcap W hR hH => ?_, fun _ a cap a2 hcap W hc hR hH => ?_, fun h => absurd e0 h⟩⟩
      · obtain ⟨b, o, rfl⟩ := plots_some hN hR
        obtain ⟨hI, hOQ⟩ := named_OQ hN wind 40 ha b o cap a2 hcap W hR hH
        have hh := Louder_ok t hN.ok wind w0 w4 b o cap _ (qN t qs) hnl n (by omega) W hI hOQ
        have e : leastV t wind ((qN t qs).getD · false) n = leastV t wind (inL qs) n := by
          unfold leastV
          refine lvF_congr (fun v => ?_) _ _
          have hl := (lis_named hN.ok wind v hN.all hN.nd).2.2
          change lis t wind v ((qN t qs).getD · false) = _ at hl
          rw [hl]
        rw [e] at hh
        refine hh.mono ?_
        rintro e w' ⟨rfl, hB⟩
        refine ⟨?_, hB⟩
        rw [e0]
        unfold louderAns louE louV
        have hv : leastV t wind (inL qs) n ≠ 0 := by
          rcases lvF_spec t wind (inL qs) n 40 1 with ⟨h, _⟩ | ⟨x, a, b, c, d, e⟩
          · intro h2; unfold leastV at h2; rw [h2] at h; cases h
          · intro h2; unfold leastV at h2; omega
        by_cases hm : leastV t wind (inL qs) n = -1
        · simp [hm]
        · simp [hm, hv]
      · obtain ⟨b, o, rfl⟩ := plots_some hN hR
        exact RefLouder_ok t wind b o cap a2 hcap qs hN w0 w4 (hSt hN.ok.n30) n (by omega) W hR hH
    · have e3 : rngE (quarterE t.wide t.plots wind 1 qs) st = 3 := by unfold rngE; rw [h0, if_neg (by simp), if_neg hs]
      refine ⟨0, ⟨fun a cap a2 hcap W hR hH => ?_, fun h => ?_, fun _ => rfl⟩⟩
      · obtain ⟨b, o, rfl⟩ := plots_some hN hR
        obtain ⟨hI, hOQ⟩ := named_OQ hN wind 40 ha b o cap a2 hcap W hR hH
        refine (Louder_rng t hN.ok wind w0 w4 b o cap _ (qN t qs) hnl st hs W hI hOQ).mono ?_
        rintro e w' ⟨rfl, hB⟩
        exact ⟨by rw [e3]; rfl, hB⟩
      · rw [e3] at h; cases h
  · have h40 : quarterE wd xs wind 40 qs ≠ 0 := by rw [quarterE_voice]; exact h0
    have e3 : rngE (quarterE wd xs wind 1 qs) st = quarterE wd xs wind 1 qs := by unfold rngE; rw [if_pos h0]
    refine ⟨0, ⟨fun a cap a2 hcap W hR hH => ?_, fun h => ?_, fun _ => rfl⟩⟩
    · refine (Louder_err wd wind _ _ st _ W (oq_err wd wind 40 a a2 cap hcap xs qs hl W hR hH h40)).mono ?_
      rintro e w' ⟨rfl, hB⟩
      refine ⟨?_, hB⟩
      rw [e3, quarterE_voice]
      unfold louE
      rw [if_neg h0]
    · rw [e3] at h; exact absurd h h0
end Go.Proofs.Ytimedmkpenbmkaa
end
section
namespace Go.Proofs.Ytimedmkpenbmkaa.Rg
open Go
theorem GrowL.skip {P : Program} {G : World → World → Prop} {o : Oper} {ρ : Operand → Value} {w w' : World} {Φ : Value → World → Prop} (h : (execOp ρ o).run P w = .ok .skip w') (hg : G w w') (hv : Φ undef w') : GrowL G P o ρ w Φ := by
  unfold GrowL; rw [h]; exact ⟨hg, hv⟩
end Go.Proofs.Ytimedmkpenbmkaa.Rg
namespace Go.Proofs.Ytimedmkpenbmkaa
open Go.RowKit Go.Shelf
set_option linter.unusedSimpArgs false
set_option linter.unusedVariables false
def Box2 (T e : TypeId) : Prop := T = 24 ∧ e = 102 ∨ T = 33 ∧ e = 3
/-- worlds go on: what was there stays, but for boxes behind B, which may be filled with a town -/
structure Bx (wd : Int) (xs : List Int) (B : Nat) (a b : World) : Prop where
  os : b.os = a.os
  tape : b.tape = a.tape
  output : b.output = a.output
  size : a.heap.size ≤ b.heap.size
  same : ∀ k, k < a.heap.size → b.heap[k]? = a.heap[k]? ∨ (B ≤ k ∧ ∃ T e u cs, Box2 T e ∧ a.heap[k]? = some (.cells cs T (0, 0)) ∧ b.heap[k]? = some (.cells #[.int .i64 wd, u] T (0, 0)) ∧ b.ownsRow B e 1 u xs.length (xs.map (Value.int .i64)))
theorem Bx.of_gr {wd : Int} {xs : List Int} {B : Nat} {a b : World} (h : Below a.heap.size a b) : Bx wd xs B a b := ⟨h.os, h.tape, h.output, h.size, fun k hk => .inl (h.block k hk)⟩
theorem Bx.low {wd : Int} {xs : List Int} {B : Nat} {a b : World} (h : Bx wd xs B a b) (hB : B ≤ a.heap.size) : Below B a b := ⟨h.os, h.tape, h.output, h.size, fun k hk => by
  rcases h.same k (by omega) with e | ⟨e, _⟩
  · exact e
  · omega⟩
theorem Bx.row {wd : Int} {xs : List Int} {B B0 : Nat} {a b : World} (h : Bx wd xs B a b) {e : TypeId} (he : e = 102 ∨ e = 3) {v : Value} {n : Nat} {l : List Value} (ho : a.ownsRow B0 e 1 v n l) : b.ownsRow B0 e 1 v n l := by
  refine ⟨ho.1, ?_⟩
  rcases ho.2 with h1 | ⟨g, cap, cur, h1, h2, h3, h4⟩
  · exact .inl h1
  · refine .inr ⟨g, cap, cur, h1, h2, ?_, h4⟩
    rcases h.same g (Array.getElem?_eq_some_iff.1 h3).1 with e1 | ⟨_, T, e', u, cs, hT, e1, _⟩
    · rw [e1]; exact h3
    · rw [h3] at e1
      injection e1 with e1
      injection e1 with _ e1
      rcases hT with ⟨rfl, _⟩ | ⟨rfl, _⟩ <;> rcases he with rfl | rfl <;> cases e1
theorem Box2.ty {T e : TypeId} (h : Box2 T e) : e = 102 ∨ e = 3 := h.imp And.right And.right
theorem Bx.isGr (wd : Int) (xs : List Int) (B : Nat) : Rg.IsGr (Bx wd xs B) where
  refl w := .of_gr (Below.refl _ _)
  drew w := .of_gr ((Below.refl _ _).drew)
  trans {a b c} h k := ⟨k.os.trans h.os, k.tape.trans h.tape, k.output.trans h.output, Nat.le_trans h.size k.size, fun i hi => by
    rcases k.same i (Nat.lt_of_lt_of_le hi h.size) with e1 | ⟨hB, T, e, u, cs, hT, e1, e2, e3⟩
    · rcases h.same i hi with e2 | ⟨hB, T, e, u, cs, hT, e2, e3, e4⟩
      · exact .inl (e1.trans e2)
      · exact .inr ⟨hB, T, e, u, cs, hT, e2, e1.trans e3, k.row hT.ty e4⟩
    · rcases h.same i hi with e4 | ⟨_, T', e', u', cs', hT', e4, e5, _⟩
      · exact .inr ⟨hB, T, e, u, cs, hT, e4.symm.trans e1, e2, e3⟩
      · rw [e5] at e1
        injection e1 with e1
        injection e1 with _ e1
        subst e1
        exact .inr ⟨hB, T', e, u, cs', hT, e4, e2, e3⟩⟩
/-- a box is filled -/
theorem Bx.fill {wd : Int} {xs : List Int} {B p : Nat} {a : World} {T e : TypeId} {c0 c1 u : Value} (hT : Box2 T e) (hp : B ≤ p) (hb : a.heap[p]? = some (.cells #[c0, c1] T (0, 0))) (ho : a.ownsRow B e 1 u xs.length (xs.map (Value.int .i64))) :
    Bx wd xs B a ((a.setCell ⟨p, 0, none⟩ (.int .i64 wd)).setCell ⟨p, 1, none⟩ u) ∧ ((a.setCell ⟨p, 0, none⟩ (.int .i64 wd)).setCell ⟨p, 1, none⟩ u).heap[p]? = some (.cells #[.int .i64 wd, u] T (0, 0)) ∧ ((a.setCell ⟨p, 0, none⟩ (.int .i64 wd)).setCell ⟨p, 1, none⟩ u).ownsRow B e 1 u xs.length (xs.map (Value.int .i64)) := by
  have h1 := heap_set_same (o := 0) (.int .i64 wd) hb
  have h2 := heap_set_same (o := 1) u h1
  have h3 : ((a.setCell ⟨p, 0, none⟩ (.int .i64 wd)).setCell ⟨p, 1, none⟩ u).heap[p]? = some (.cells #[.int .i64 wd, u] T (0, 0)) := h2
  have hne : ∀ g, u.ownBlock = some g → g ≠ p := fun g hg e2 => by
    rcases ho.2 with ⟨g1, _⟩ | ⟨g', cap, cur, g1, _, g3, _⟩
    · rw [g1] at hg; cases hg
    · rw [g1] at hg
      injection hg with hg
      simp only at hg
      rw [hg, e2, hb] at g3
      injection g3 with g3
      injection g3 with _ g3
      rcases hT with ⟨rfl, rfl⟩ | ⟨rfl, rfl⟩ <;> cases g3
  have hk : ∀ (W : World) (o : Nat) (x : Value), W.ownsRow B e 1 u xs.length (xs.map (Value.int .i64)) → (W.setCell ⟨p, o, none⟩ x).ownsRow B e 1 u xs.length (xs.map (Value.int .i64)) := fun W o x h => by
    refine h.kept (grown_set W p o x) ?_
    cases hu : u.ownBlock with
    | none => exact .inl rfl
    | some g => exact .inr (fun e2 => by injection e2 with e2; exact hne g hu e2)
  refine ⟨⟨rfl, rfl, rfl, by simp, fun k hk' => ?_⟩, h3, hk _ _ _ (hk _ _ _ ho)⟩
  by_cases e2 : k = p
  · subst e2
    exact .inr ⟨hp, T, e, u, _, hT, hb, h3, hk _ _ _ (hk _ _ _ ho)⟩
  · exact .inl ((Below.heap_setCell _ _ _ _ e2).trans (Below.heap_setCell _ _ _ _ e2))
end Go.Proofs.Ytimedmkpenbmkaa
end
section
namespace Go.Proofs.Ytimedmkpenbmkaa
open Go.RowKit Go.Shelf
set_option linter.unusedSimpArgs false
set_option linter.unusedVariables false
/-- what stands in the law: both towns in their boxes, the houses twice, what was passed in in its boxes -/
structure Ho8 (wd : Int) (xs qs : List Int) (sv qv mv : Value) (wind voice : Int) (c7 : Nat) (u7 : Value) (c8 : Nat) (u8 : Value) (w W : World) : Prop where
  lw : LwT wd xs c7 u7 c8 u8 W
  x0 : W.heap[w.heap.size]? = some (.cells #[.int .i64 wd, sv] 24 (0, 0))
  x1 : W.heap[w.heap.size + 1]? = some (.cells #[.int .i64 wind, .int .i64 voice] 27 (0, 0))
  rs : RdI W sv xs
  rq : RdI W qv qs
  rm : RdI W mv qs
  bel : Below w.heap.size w W
theorem Ho8.below {wd : Int} {xs qs : List Int} {sv qv mv : Value} {wind voice : Int} {c7 : Nat} {u7 : Value} {c8 : Nat} {u8 : Value} {w W W' : World} (h : Ho8 wd xs qs sv qv mv wind voice c7 u7 c8 u8 w W) (hB : Below W.heap.size W W') : Ho8 wd xs qs sv qv mv wind voice c7 u7 c8 u8 w W' :=
  ⟨h.lw.below hB, (hB.block _ (Array.getElem?_eq_some_iff.1 h.x0).1).trans h.x0, (hB.block _ (Array.getElem?_eq_some_iff.1 h.x1).1).trans h.x1, h.rs.below hB, h.rq.below hB, h.rm.below hB, join h.bel hB⟩
theorem Ho8.cs {wd : Int} {xs qs : List Int} {sv qv mv : Value} {wind voice : Int} {c7 : Nat} {u7 : Value} {c8 : Nat} {u8 : Value} {w W : World} (h : Ho8 wd xs qs sv qv mv wind voice c7 u7 c8 u8 w W) :
    W.cell? ⟨c7, 0, none⟩ = some (.int .i64 wd) ∧ W.cell? ⟨c7, 1, none⟩ = some u7 ∧ W.cell? ⟨c8, 0, none⟩ = some (.int .i64 wd) ∧ W.cell? ⟨c8, 1, none⟩ = some u8 ∧ W.cell? ⟨w.heap.size + 1, 0, none⟩ = some (.int .i64 wind) ∧ W.cell? ⟨w.heap.size + 1, 1, none⟩ = some (.int .i64 voice) ∧ W.cell? ⟨w.heap.size, 0, none⟩ = some (.int .i64 wd) ∧ W.cell? ⟨w.heap.size, 1, none⟩ = some sv ∧ c7 < W.heap.size ∧ c8 < W.heap.size ∧ w.heap.size + 1 < W.heap.size := by
  obtain ⟨⟨a, b⟩, c, d⟩ := h.lw.cs
  obtain ⟨e, f⟩ := blk_cells2 h.x1
  obtain ⟨g, i⟩ := blk_cells2 h.x0
  exact ⟨a, b, c, d, e, f, g, i, (Array.getElem?_eq_some_iff.1 h.lw.b7).1, (Array.getElem?_eq_some_iff.1 h.lw.b8).1, (Array.getElem?_eq_some_iff.1 h.x1).1⟩
def spB3 (wd : Int) (sv : Value) (xs : List Int) (qv : Value) (qs : List Int) (wind : Int) (C1 B : Nat) : Nat → List Value → Value → World → Prop
  | 0, _, v, _ => v = .agg #[.int .i64 wd, sv]
  | 1, L, v, w => ∃ u, v = .agg #[.int .i64 wd, u] ∧ w.ownsRow B 102 1 u xs.length (xs.map (Value.int .i64))
  | 2, _, v, _ => v = qv
  | 3, L, v, w => w.ownsRow B 3 1 v qs.length (qs.map (Value.int .i64))
  | 4, _, v, _ => v = .agg #[.int .i64 wd, sv]
  | 5, L, v, w => ∃ u, v = .agg #[.int .i64 wd, u] ∧ w.ownsRow B 3 1 u xs.length (xs.map (Value.int .i64))
  | 6, _, v, _ => v = .pointer (some ⟨C1, 0, none⟩)
  | 7, _, v, _ => v = .int .i64 wind
  | 8, L, v, w => ∃ p c0 c1, v = .pointer (some ⟨p, 0, none⟩) ∧ B ≤ p ∧ w.heap[p]? = some (.cells #[c0, c1] 24 (0, 0))
  | 9, L, v, w => ∃ p c0 c1, v = .pointer (some ⟨p, 0, none⟩) ∧ B ≤ p ∧ w.heap[p]? = some (.cells #[c0, c1] 33 (0, 0))
  | 10, L, v, w => ∃ p u, L.getD 6 undef = .pointer (some ⟨p, 0, none⟩) ∧ w.heap[p]? = some (.cells #[.int .i64 wd, u] 24 (0, 0)) ∧ w.ownsRow B 102 1 u xs.length (xs.map (Value.int .i64))
  | 11, L, v, w => w.ownsRow B 3 1 v qs.length (qs.map (Value.int .i64))
  | 12, L, v, w => ∃ p u, L.getD 7 undef = .pointer (some ⟨p, 0, none⟩) ∧ w.heap[p]? = some (.cells #[.int .i64 wd, u] 33 (0, 0)) ∧ w.ownsRow B 3 1 u xs.length (xs.map (Value.int .i64))
  | 13, _, v, _ => v = .int .i64 wind
  | _, _, _, _ => False
theorem spB3_stable (wd : Int) (sv : Value) (xs : List Int) (qv : Value) (qs : List Int) (wind : Int) (C1 B : Nat) : ∀ i L v w w', spB3 wd sv xs qv qs wind C1 B i L v w → Bx wd xs B w w' → spB3 wd sv xs qv qs wind C1 B i L v w' := by
  intro i L v w w' h hg
  match i with
  | 0 => exact h
  | 1 => obtain ⟨u, h1, h2⟩ := h; exact ⟨u, h1, hg.row (.inl rfl) h2⟩
  | 2 => exact h
  | 3 => exact hg.row (.inr rfl) h
  | 4 => exact h
  | 5 => obtain ⟨u, h1, h2⟩ := h; exact ⟨u, h1, hg.row (.inr rfl) h2⟩
  | 6 => exact h
  | 7 => exact h
  | 8 => 
    obtain ⟨p, c0, c1, h1, h2, h3⟩ := h
    rcases hg.same p (Array.getElem?_eq_some_iff.1 h3).1 with e | ⟨_, T, e, u, cs, hT, e1, e2, _⟩
    · exact ⟨p, c0, c1, h1, h2, e.trans h3⟩
    · rw [h3] at e1; injection e1 with e1; injection e1 with _ e1; subst e1; exact ⟨p, _, u, h1, h2, e2⟩
  | 9 => 
    obtain ⟨p, c0, c1, h1, h2, h3⟩ := h
    rcases hg.same p (Array.getElem?_eq_some_iff.1 h3).1 with e | ⟨_, T, e, u, cs, hT, e1, e2, _⟩
    · exact ⟨p, c0, c1, h1, h2, e.trans h3⟩
    · rw [h3] at e1; injection e1 with e1; injection e1 with _ e1; subst e1; exact ⟨p, _, u, h1, h2, e2⟩
  | 10 => 
    obtain ⟨p, u, h1, h2, h3⟩ := h
    rcases hg.same p (Array.getElem?_eq_some_iff.1 h2).1 with e | ⟨_, T, e, u', cs, hT, e1, e2, e3⟩
    · exact ⟨p, u, h1, e.trans h2, hg.row (.inl rfl) h3⟩
    · rw [h2] at e1; injection e1 with e1; injection e1 with _ e1; subst e1
      rcases hT with ⟨h4, h5⟩ | ⟨h4, h5⟩ <;> first | (cases h4; done) | (subst h5; exact ⟨p, u', h1, e2, e3⟩)
  | 11 => exact hg.row (.inr rfl) h
  | 12 => 
    obtain ⟨p, u, h1, h2, h3⟩ := h
    rcases hg.same p (Array.getElem?_eq_some_iff.1 h2).1 with e | ⟨_, T, e, u', cs, hT, e1, e2, e3⟩
    · exact ⟨p, u, h1, e.trans h2, hg.row (.inr rfl) h3⟩
    · rw [h2] at e1; injection e1 with e1; injection e1 with _ e1; subst e1
      rcases hT with ⟨h4, h5⟩ | ⟨h4, h5⟩ <;> first | (cases h4; done) | (subst h5; exact ⟨p, u', h1, e2, e3⟩)
  | 13 => exact h
def spB6 (wd : Int) (A8 : Value) (qv : Value) (wind voice Q1 Q2 : Int) (C1 : Nat) : Nat → List Value → Value → World → Prop
  | 0, _, v, _ => v = .agg #[.int .i64 wd, A8]
  | 1, _, v, _ => v = .int .i64 wind
  | 2, _, v, _ => v = .pointer (some ⟨C1, 1, none⟩)
  | 3, _, v, _ => v = .int .i64 voice
  | 4, _, v, _ => v = qv
  | 5, _, v, _ => v = .int .i64 Q1
  | 6, _, v, _ => v = .agg #[.int .i64 wd, A8]
  | 7, _, v, _ => v = .int .i64 wind
  | 8, _, v, _ => v = qv
  | 9, _, v, _ => v = .int .i64 Q2
  | 10, _, v, _ => v = .int .i64 Q1
  | 11, _, v, _ => v = .int .i64 Q2
  | _, _, _, _ => False
theorem spB6_stable (wd : Int) (A8 : Value) (qv : Value) (wind voice Q1 Q2 : Int) (C1 : Nat) : ∀ i L v w w', spB6 wd A8 qv wind voice Q1 Q2 C1 i L v w → Rs.Gr w w' → spB6 wd A8 qv wind voice Q1 Q2 C1 i L v w' := by
  intro i L v w w' h hg
  match i with
  | 0 => exact h
  | 1 => exact h
  | 2 => exact h
  | 3 => exact h
  | 4 => exact h
  | 5 => exact h
  | 6 => exact h
  | 7 => exact h
  | 8 => exact h
  | 9 => exact h
  | 10 => exact h
  | 11 => exact h
set_option maxHeartbeats 8000000 in
set_option maxRecDepth 100000 in
theorem HearBest_any (wd : Int) (a : Option Addr) (cap : Nat) (xs : List Int) (wind voice : Int) (a2 : Option Addr) (hcap : Nat) (qs : List Int) (hc : qs.length ≤ hcap) (st : Int) (w : World) (hR : RdI w (.slice a xs.length cap) xs) (hQ : RdI w (.slice a2 qs.length hcap) qs) :
    Calls Try.prog 8 #[.agg #[.int .i64 wd, .slice a xs.length cap], .agg #[.int .i64 wind, .int .i64 voice], .slice a2 qs.length hcap, .int .i64 st] w fun e w' => e = .returned (.bool true) ∧ Below w.heap.size w w' := by
  have HR := Lib.hid hR
  have HQ := Lib.hid hQ
  have HB0 := Lib.hid (al (below1 w (.cells #[.int .i64 wd, .slice a xs.length cap] 24)) (.cells #[.int .i64 wind, .int .i64 voice] 27))
  have hx0 : ((w.alloc (.cells #[.int .i64 wd, .slice a xs.length cap] 24)).alloc (.cells #[.int .i64 wind, .int .i64 voice] 27)).heap[w.heap.size]? = some (.cells #[.int .i64 wd, .slice a xs.length cap] 24 (0, 0)) := (Below.heap_alloc _ _ _ (by simp)).trans (heap_alloc_last _ _)
  have hx1 : ((w.alloc (.cells #[.int .i64 wd, .slice a xs.length cap] 24)).alloc (.cells #[.int .i64 wind, .int .i64 voice] 27)).heap[w.heap.size + 1]? = some (.cells #[.int .i64 wind, .int .i64 voice] 27 (0, 0)) := by
    have := heap_alloc_last (w.alloc (.cells #[.int .i64 wd, .slice a xs.length cap] 24)) (.cells #[.int .i64 wind, .int .i64 voice] 27); simpa using this
  have HX0 := Lib.hid hx0
  have HX1 := Lib.hid hx1
  have hl9 : xs.length ≤ 9223372036854775807 := hR.1
  have hq9 : qs.length ≤ 9223372036854775807 := hQ.1
  have HG := Lib.hid (fun W (h : RdI W (.slice a xs.length cap) xs) => manyS_any wd a cap xs hl9 8 W h)
  have HR1 := Lib.hid (hR.below HB0.out)
  clear hR hQ hx0 hx1
  obtain ⟨mb, hmb⟩ : ∃ mb, manyB xs 8 = mb := ⟨_, rfl⟩
  rw [hmb] at HG
  cases mb with
  | true =>
    clear hmb
    go_enter Try.func8, Try.ntmps8
    go_wp2_with fail
    refine (HG.out _ HR1.out).mono ?_
    rintro e w1 ⟨rfl, hB⟩
    have HB1 := Lib.hid (join HB0.out hB)
    clear hB
    go_wp2_with fail
    refine (awake_any w1).mono ?_
    rintro e w2 ⟨rfl, hB⟩
    have HB2 := Lib.hid (join HB1.out hB)
    clear hB
    go_wp2
    go_ret
    exact ⟨rfl, HB2.out⟩
  | false =>
  by_cases hg12 : 12 < qs.length
  · have hg : (12 : Int) < (qs.length : Int) := by omega
    clear hmb
    go_enter Try.func8, Try.ntmps8
    go_wp2_with fail
    refine (HG.out _ HR1.out).mono ?_
    rintro e w1 ⟨rfl, hB⟩
    have HB1 := Lib.hid (join HB0.out hB)
    clear hB
    go_wp2_with fail
    refine (awake_any w1).mono ?_
    rintro e w2 ⟨rfl, hB⟩
    have HB2 := Lib.hid (join HB1.out hB)
    clear hB
    go_wp2
    go_ret
    exact ⟨rfl, HB2.out⟩
  · have hg : ¬ (12 : Int) < (qs.length : Int) := by omega
    have hl : xs.length ≤ 1000000 := by
      unfold manyB at hmb
      rw [Bool.or_eq_false_iff, decide_eq_false_iff_not] at hmb
      omega
    have hSt : xs.length ≤ 30 → (kindIdx xs 0).length ≤ 20 := fun h30 => by
      unfold manyB at hmb
      rw [Bool.or_eq_false_iff, Bool.and_eq_false_iff, decide_eq_false_iff_not, decide_eq_false_iff_not, decide_eq_false_iff_not] at hmb
      omega
    obtain ⟨N, L, P⟩ := best_pair wd xs hl hSt wind voice qs (by omega) st
    obtain ⟨Vo, P2⟩ := louder_pair wd xs hl hSt wind qs (by omega) st
    have A1 := Lib.hid (fun a cap a2 hcap W (hc : qs.length ≤ hcap) hR hH => Asked_any wd a cap xs hl wind voice a2 hcap qs (by omega) hc W hR hH)
    have A2 := Lib.hid (fun a cap a2 hcap W (hc : qs.length ≤ hcap) hR hH => Asked_any wd a cap xs hl wind 1 a2 hcap qs (by omega) hc W hR hH)
    have C1 := Lib.hid P.code
    have R1 := Lib.hid P.ref
    have N1 := Lib.hid P.none
    have C2 := Lib.hid P2.code
    have R2 := Lib.hid P2.ref
    have N2 := Lib.hid P2.none
    generalize quarterE wd xs wind voice qs = Q1 at A1 C1 R1 N1
    generalize quarterE wd xs wind 1 qs = Q2 at A2 C2 R2 N2
    clear P P2 hmb hSt
    go_enter Try.func8, Try.ntmps8
    go_wp2_with fail
    refine (HG.out _ HR1.out).mono ?_
    rintro e w1 ⟨rfl, hB⟩
    have HX0 := (hB.block w.heap.size (by simp; omega)).trans HX0.out
    have HX1 := (hB.block (w.heap.size + 1) (by simp)).trans HX1.out
    have HZ0 : w.heap.size < w1.heap.size := (Array.getElem?_eq_some_iff.1 HX0).1
    have HZ1 : w.heap.size + 1 < w1.heap.size := (Array.getElem?_eq_some_iff.1 HX1).1
    have HB := Lib.hid (join HB0.out hB)
    clear hB HB0
    go_wp2_with fail
    refine Rg.region_gen (Bx.isGr wd xs w1.heap.size) 14 [[], [0], [], [0, 1, 2], [], [0, 1, 2, 3, 4], [], [6], [], [], [0, 1, 2, 3, 4, 5, 8, 9], [0, 1, 2, 3, 4, 5, 8, 9, 10], [0, 1, 2, 3, 4, 5, 8, 9, 10, 11], [0, 1, 2, 3, 4, 5, 6, 7, 8, 9, 10, 11, 12]] [some 31, some 32, some 33, some 34, some 35, some 36, some 37, some 38, some 9, some 11, none, some 10, none, some 12] (spB3 wd (.slice a xs.length cap) xs (.slice a2 qs.length hcap) qs wind (w.heap.size + 1) w1.heap.size) (by kernel_rfl) (by kernel_rfl) rfl (spB3_stable _ _ _ _ _ _ _ _) ?_ ?_
    · refine ⟨fun V w' hG hs => ?_, fun V w' hG hs => ?_, fun V w' hG hs => ?_, fun V w' hG hs => ?_, fun V w' hG hs => ?_, fun V w' hG hs => ?_, fun V w' hG hs => ?_, fun V w' hG hs => ?_, fun V w' hG hs => ?_, fun V w' hG hs => ?_, fun V w' hG hs => ?_, fun V w' hG hs => ?_, fun V w' hG hs => ?_, fun V w' hG hs => ?_, trivial⟩
      all_goals
        have hGb := hG.low (Nat.le_refl _)
        obtain ⟨k0, k1⟩ := blk_cells2 ((hGb.block w.heap.size HZ0).trans HX0)
        obtain ⟨k4, k5⟩ := blk_cells2 ((hGb.block (w.heap.size + 1) HZ1).trans HX1)
      · rw [if_pos (by rfl)]
        exact Rg.GrowL.value (v := .agg #[.int .i64 wd, (.slice a xs.length cap)]) (w' := w') (by simp [go_sem, Rs.look, k0, k1]) ((Bx.isGr wd xs w1.heap.size).refl _) rfl
      · have e0 : V 0 = .agg #[.int .i64 wd, (.slice a xs.length cap)] := hs 0 (by simp)
        rw [if_pos (by rfl)]
        refine Rg.GrowL.call (Bx.isGr wd xs w1.heap.size) (f := 17) (args := #[.agg #[.int .i64 wd, .slice a xs.length cap]]) (by simp [go_sem, Rs.look, e0]) ?_
        refine (Own_any wd a cap xs hl w' (HR.out.below (join HB.out hGb))).mono ?_
        rintro e w2 ⟨u, rfl, ho, hB2⟩
        exact ⟨_, rfl, .of_gr hB2, u, rfl, own_base ho hGb.size⟩
      · rw [if_pos (by rfl)]
        exact Rg.GrowL.value (v := (.slice a2 qs.length hcap)) (w' := w') (by simp [go_sem, Rs.look]) ((Bx.isGr wd xs w1.heap.size).refl _) rfl
      · have e0 : V 0 = .agg #[.int .i64 wd, (.slice a xs.length cap)] := hs 0 (by simp)
        have r1 := hs 1 (by simp)
        have e2 : V 2 = (.slice a2 qs.length hcap) := hs 2 (by simp)
        rw [if_pos (by rfl)]
        refine Rg.GrowL.call (Bx.isGr wd xs w1.heap.size) (f := 27) (args := #[.slice a2 qs.length hcap]) (by simp [go_sem, Rs.look, e2]) ?_
        refine (copy_int (.slice a2 qs.length hcap) qs (by omega) w' (HQ.out.below (join HB.out hGb))).mono ?_
        rintro e w2 ⟨u, rfl, ho, hB2⟩
        exact ⟨_, rfl, .of_gr hB2, own_base ho hGb.size⟩
      · rw [if_pos (by rfl)]
        exact Rg.GrowL.value (v := .agg #[.int .i64 wd, (.slice a xs.length cap)]) (w' := w') (by simp [go_sem, Rs.look, k0, k1]) ((Bx.isGr wd xs w1.heap.size).refl _) rfl
      · have e0 : V 0 = .agg #[.int .i64 wd, (.slice a xs.length cap)] := hs 0 (by simp)
        have r1 := hs 1 (by simp)
        have e2 : V 2 = (.slice a2 qs.length hcap) := hs 2 (by simp)
        have r3 := hs 3 (by simp)
        have e4 : V 4 = .agg #[.int .i64 wd, (.slice a xs.length cap)] := hs 4 (by simp)
        rw [if_pos (by rfl)]
        refine Rg.GrowL.call (Bx.isGr wd xs w1.heap.size) (f := 18) (args := #[.agg #[.int .i64 wd, .slice a xs.length cap]]) (by simp [go_sem, Rs.look, e4]) ?_
        refine (theirs_any wd a cap xs hl w' (HR.out.below (join HB.out hGb))).mono ?_
        rintro e w2 ⟨u, rfl, ho, hB2⟩
        exact ⟨_, rfl, .of_gr hB2, u, rfl, own_base ho hGb.size⟩
      · rw [if_pos (by rfl)]
        exact Rg.GrowL.value (v := .pointer (some ⟨(w.heap.size + 1), 0, none⟩)) (w' := w') (by simp [go_sem, Rs.look]) ((Bx.isGr wd xs w1.heap.size).refl _) rfl
      · have e6 : V 6 = .pointer (some ⟨(w.heap.size + 1), 0, none⟩) := hs 6 (by simp)
        rw [if_pos (by rfl)]
        exact Rg.GrowL.value (v := .int .i64 wind) (w' := w') (by simp [go_sem, Rs.look, e6, k4, k5]) ((Bx.isGr wd xs w1.heap.size).refl _) rfl
      · rw [if_pos (by rfl)]
        exact Rg.GrowL.value (v := .pointer (some ⟨w'.heap.size, 0, none⟩)) (w' := w'.alloc (.cells #[.int .i64 0, .slice none 0 0] 24)) (by simp [go_sem, Rs.look]) (.of_gr (below1 _ _)) ⟨_, _, _, rfl, hGb.size, heap_alloc_last _ _⟩
      · rw [if_pos (by rfl)]
        exact Rg.GrowL.value (v := .pointer (some ⟨w'.heap.size, 0, none⟩)) (w' := w'.alloc (.cells #[.int .i64 0, .slice none 0 0] 33)) (by simp [go_sem, Rs.look]) (.of_gr (below1 _ _)) ⟨_, _, _, rfl, hGb.size, heap_alloc_last _ _⟩
      · have e0 : V 0 = .agg #[.int .i64 wd, (.slice a xs.length cap)] := hs 0 (by simp)
        have r1 := hs 1 (by simp)
        have e2 : V 2 = (.slice a2 qs.length hcap) := hs 2 (by simp)
        have r3 := hs 3 (by simp)
        have e4 : V 4 = .agg #[.int .i64 wd, (.slice a xs.length cap)] := hs 4 (by simp)
        have r5 := hs 5 (by simp)
        have r8 := hs 8 (by simp)
        have r9 := hs 9 (by simp)
        rw [if_pos (by rfl)]
        obtain ⟨c7, x0, x1, e8, hc7, x7⟩ : ∃ p c0 c1, V 8 = .pointer (some ⟨p, 0, none⟩) ∧ w1.heap.size ≤ p ∧ w'.heap[p]? = some (.cells #[c0, c1] 24 (0, 0)) := r8
        obtain ⟨u7, e1, o7⟩ : ∃ u, V 1 = .agg #[.int .i64 wd, u] ∧ w'.ownsRow w1.heap.size 102 1 u xs.length (xs.map (Value.int .i64)) := r1
        obtain ⟨a7, p7, rfl⟩ := own_slice o7
        obtain ⟨q0, q1⟩ := blk_cells2 x7
        have f0 := frozen_of_row w' c7 0 _ _ x7
        have f1 := frozen_of_row w' c7 1 _ _ x7
        have hf := Bx.fill (wd := wd) (xs := xs) (.inl ⟨rfl, rfl⟩) hc7 x7 o7
        exact Rg.GrowL.skip (w' := (w'.setCell ⟨c7, 0, none⟩ (.int .i64 wd)).setCell ⟨c7, 1, none⟩ (.slice a7 xs.length p7)) (by simp [go_sem, Rs.look, e8, e1, q0, q1, f0, f1]) hf.1 ⟨c7, _, e8, hf.2.1, hf.2.2⟩
      · have e0 : V 0 = .agg #[.int .i64 wd, (.slice a xs.length cap)] := hs 0 (by simp)
        have r1 := hs 1 (by simp)
        have e2 : V 2 = (.slice a2 qs.length hcap) := hs 2 (by simp)
        have r3 := hs 3 (by simp)
        have e4 : V 4 = .agg #[.int .i64 wd, (.slice a xs.length cap)] := hs 4 (by simp)
        have r5 := hs 5 (by simp)
        have r8 := hs 8 (by simp)
        have r9 := hs 9 (by simp)
        have r10 := hs 10 (by simp)
        rw [if_pos (by rfl)]
        have r3' : w'.ownsRow w1.heap.size 3 1 (V 3) qs.length (qs.map (Value.int .i64)) := r3
        exact Rg.GrowL.value (v := V 3) (w' := w') (by simp [go_sem, Rs.look]) ((Bx.isGr wd xs w1.heap.size).refl _) r3'
      · have e0 : V 0 = .agg #[.int .i64 wd, (.slice a xs.length cap)] := hs 0 (by simp)
        have r1 := hs 1 (by simp)
        have e2 : V 2 = (.slice a2 qs.length hcap) := hs 2 (by simp)
        have r3 := hs 3 (by simp)
        have e4 : V 4 = .agg #[.int .i64 wd, (.slice a xs.length cap)] := hs 4 (by simp)
        have r5 := hs 5 (by simp)
        have r8 := hs 8 (by simp)
        have r9 := hs 9 (by simp)
        have r10 := hs 10 (by simp)
        have r11 := hs 11 (by simp)
        rw [if_pos (by rfl)]
        obtain ⟨c7, x0, x1, e9, hc7, x7⟩ : ∃ p c0 c1, V 9 = .pointer (some ⟨p, 0, none⟩) ∧ w1.heap.size ≤ p ∧ w'.heap[p]? = some (.cells #[c0, c1] 33 (0, 0)) := r9
        obtain ⟨u7, e5, o7⟩ : ∃ u, V 5 = .agg #[.int .i64 wd, u] ∧ w'.ownsRow w1.heap.size 3 1 u xs.length (xs.map (Value.int .i64)) := r5
        obtain ⟨a7, p7, rfl⟩ := own_slice o7
        obtain ⟨q0, q1⟩ := blk_cells2 x7
        have f0 := frozen_of_row w' c7 0 _ _ x7
        have f1 := frozen_of_row w' c7 1 _ _ x7
        have hf := Bx.fill (wd := wd) (xs := xs) (.inr ⟨rfl, rfl⟩) hc7 x7 o7
        exact Rg.GrowL.skip (w' := (w'.setCell ⟨c7, 0, none⟩ (.int .i64 wd)).setCell ⟨c7, 1, none⟩ (.slice a7 xs.length p7)) (by simp [go_sem, Rs.look, e9, e5, q0, q1, f0, f1]) hf.1 ⟨c7, _, e9, hf.2.1, hf.2.2⟩
      · have e0 : V 0 = .agg #[.int .i64 wd, (.slice a xs.length cap)] := hs 0 (by simp)
        have r1 := hs 1 (by simp)
        have e2 : V 2 = (.slice a2 qs.length hcap) := hs 2 (by simp)
        have r3 := hs 3 (by simp)
        have e4 : V 4 = .agg #[.int .i64 wd, (.slice a xs.length cap)] := hs 4 (by simp)
        have r5 := hs 5 (by simp)
        have e6 : V 6 = .pointer (some ⟨(w.heap.size + 1), 0, none⟩) := hs 6 (by simp)
        have e7 : V 7 = .int .i64 wind := hs 7 (by simp)
        have r8 := hs 8 (by simp)
        have r9 := hs 9 (by simp)
        have r10 := hs 10 (by simp)
        have r11 := hs 11 (by simp)
        have r12 := hs 12 (by simp)
        rw [if_pos (by rfl)]
        exact Rg.GrowL.value (v := .int .i64 wind) (w' := w') (by simp [go_sem, Rs.look, e0, e2, e4, e6, e7]) ((Bx.isGr wd xs w1.heap.size).refl _) rfl
    · intro V w' hG hs
      have e0 : V 0 = .agg #[.int .i64 wd, (.slice a xs.length cap)] := hs 0 (by omega)
      have r1 := hs 1 (by omega)
      have e2 : V 2 = (.slice a2 qs.length hcap) := hs 2 (by omega)
      have r3 := hs 3 (by omega)
      have e4 : V 4 = .agg #[.int .i64 wd, (.slice a xs.length cap)] := hs 4 (by omega)
      have r5 := hs 5 (by omega)
      have e6 : V 6 = .pointer (some ⟨(w.heap.size + 1), 0, none⟩) := hs 6 (by omega)
      have e7 : V 7 = .int .i64 wind := hs 7 (by omega)
      have r8 := hs 8 (by omega)
      have r9 := hs 9 (by omega)
      have r10 := hs 10 (by omega)
      have r11 := hs 11 (by omega)
      have r12 := hs 12 (by omega)
      have e13 : V 13 = .int .i64 wind := hs 13 (by omega)

      obtain ⟨c7, u7, e8, x7, o7⟩ : ∃ p u, V 8 = .pointer (some ⟨p, 0, none⟩) ∧ w'.heap[p]? = some (.cells #[.int .i64 wd, u] 24 (0, 0)) ∧ w'.ownsRow w1.heap.size 102 1 u xs.length (xs.map (Value.int .i64)) := r10
      obtain ⟨c8, u8, e9, x8, o8⟩ : ∃ p u, V 9 = .pointer (some ⟨p, 0, none⟩) ∧ w'.heap[p]? = some (.cells #[.int .i64 wd, u] 33 (0, 0)) ∧ w'.ownsRow w1.heap.size 3 1 u xs.length (xs.map (Value.int .i64)) := r12
      have o11 : w'.ownsRow w1.heap.size 3 1 (V 11) qs.length (qs.map (Value.int .i64)) := r11
      simp only [Rs.canon, Rs.dstOf, List.range_succ, List.range_zero, List.nil_append, List.cons_append, List.foldl_cons, List.foldl_nil, List.drop_succ_cons, List.drop_zero, List.drop_nil, List.getElem?_toArray, List.getElem?_cons_succ, List.getElem?_cons_zero, Option.bind_some, Act.put, List.getD_cons_succ, List.getD_cons_zero, List.setIfInBounds_toArray, List.set_cons_succ, List.set_cons_zero]
      rw [e0, e2, e4, e6, e7, e8, e9, e13]
      clear r1 r3 r5 r8 r9 r11
      generalize V 1 = y1
      generalize V 3 = y3
      generalize V 5 = y5
      generalize V 11 = mv at o11 ⊢
      have hGb := hG.low (Nat.le_refl _)
      obtain ⟨a7, p7, rfl⟩ := own_slice o7
      obtain ⟨a8, p8, rfl⟩ := own_slice o8
      obtain ⟨am, pm, rfl⟩ := own_slice o11
      have HBW := join HB.out hGb
      have HH : Hid (Ho8 wd xs qs (.slice a xs.length cap) (.slice a2 qs.length hcap) (.slice am qs.length pm) wind voice c7 (.slice a7 xs.length p7) c8 (.slice a8 xs.length p8) w w') := Lib.hid ⟨⟨x7, x8, RdI.own rfl rfl o7, RdI.own rfl rfl o8⟩, (hGb.block _ HZ0).trans HX0, (hGb.block _ HZ1).trans HX1, HR.out.below HBW, HQ.out.below HBW, RdI.own rfl rfl o11, HBW⟩
      obtain ⟨k0, k1, k2, k3, k4, k5, k6, k7, j0, j1, j2⟩ := HH.out.cs
      clear e0 e2 e4 e6 e7 e8 e9 e13 hs hG hGb x7 x8 o7 o8 o11 HBW HX0 HX1 HZ0 HZ1 HB
      go_wp2_with fail
      refine (C1.out _ _ _ _ _ HH.out.lw.r7 HH.out.rm).mono ?_
      rintro e wa ⟨vl, rfl, hB, hv⟩
      have HH := Lib.hid (HH.out.below hB)
      have HVl := Lib.hid hv
      obtain ⟨k0, k1, k2, k3, k4, k5, k6, k7, j0, j1, j2⟩ := HH.out.cs
      clear hB hv
      go_wp2_with fail
      refine (C2.out _ _ _ _ _ HH.out.lw.r7 HH.out.rm).mono ?_
      rintro e w1c ⟨rfl, hB⟩
      have HH := Lib.hid (HH.out.below hB)
      have HVl := Lib.hid (HVl.out.below hB)
      obtain ⟨k0, k1, k2, k3, k4, k5, k6, k7, j0, j1, j2⟩ := HH.out.cs
      clear hB
      go_upto_region 6 with fail
      refine Rs.region_gen 12 [[], [], [], [2], [], [0, 1, 2, 3, 4], [], [], [], [0, 1, 2, 3, 4, 5, 6, 7, 8], [0, 1, 2, 3, 4, 5, 6, 7, 8, 9], [0, 1, 2, 3, 4, 5, 6, 7, 8, 9, 10]] [some 57, some 58, some 59, some 60, some 61, some 62, some 63, some 64, some 65, some 66, some 18, some 19] (spB6 wd (.slice a8 xs.length p8) (.slice a2 qs.length hcap) wind voice Q1 Q2 (w.heap.size + 1)) (by kernel_rfl) (by kernel_rfl) rfl (spB6_stable _ _ _ _ _ _ _ _) ?_ ?_
      · refine ⟨fun V w' hG hs => ?_, fun V w' hG hs => ?_, fun V w' hG hs => ?_, fun V w' hG hs => ?_, fun V w' hG hs => ?_, fun V w' hG hs => ?_, fun V w' hG hs => ?_, fun V w' hG hs => ?_, fun V w' hG hs => ?_, fun V w' hG hs => ?_, fun V w' hG hs => ?_, fun V w' hG hs => ?_, trivial⟩
        all_goals
          have hGb : Below w1c.heap.size w1c w' := hG
          obtain ⟨j0, j1, j2, j3, j4, j5, -, -, -, -, -⟩ := (HH.out.below hGb).cs
        · rw [if_pos (by rfl)]
          exact Rs.GrowL.value (v := .agg #[.int .i64 wd, (.slice a8 xs.length p8)]) (w' := w') (by simp [go_sem, Rs.look, j2, j3]) (Rs.Gr.refl _) rfl
        · rw [if_pos (by rfl)]
          exact Rs.GrowL.value (v := .int .i64 wind) (w' := w') (by simp [go_sem, Rs.look]) (Rs.Gr.refl _) rfl
        · rw [if_pos (by rfl)]
          exact Rs.GrowL.value (v := .pointer (some ⟨(w.heap.size + 1), 1, none⟩)) (w' := w') (by simp [go_sem, Rs.look]) (Rs.Gr.refl _) rfl
        · have e2 : V 2 = .pointer (some ⟨(w.heap.size + 1), 1, none⟩) := hs 2 (by simp)
          rw [if_pos (by rfl)]
          exact Rs.GrowL.value (v := .int .i64 voice) (w' := w') (by simp [go_sem, Rs.look, e2, j5]) (Rs.Gr.refl _) rfl
        · rw [if_pos (by rfl)]
          exact Rs.GrowL.value (v := (.slice a2 qs.length hcap)) (w' := w') (by simp [go_sem, Rs.look]) (Rs.Gr.refl _) rfl
        · have e0 : V 0 = .agg #[.int .i64 wd, (.slice a8 xs.length p8)] := hs 0 (by simp)
          have e1 : V 1 = .int .i64 wind := hs 1 (by simp)
          have e2 : V 2 = .pointer (some ⟨(w.heap.size + 1), 1, none⟩) := hs 2 (by simp)
          have e3 : V 3 = .int .i64 voice := hs 3 (by simp)
          have e4 : V 4 = (.slice a2 qs.length hcap) := hs 4 (by simp)
          rw [if_pos (by rfl)]
          refine Rs.GrowL.call (f := 54) (args := #[.agg #[.int .i64 wd, .slice a8 xs.length p8], .int .i64 wind, .int .i64 voice, .slice a2 qs.length hcap]) (by simp [go_sem, Rs.look, e0, e1, e3, e4]) ?_
          refine (A1.out _ _ _ _ _ hc (HH.out.below hGb).lw.r8 (HH.out.below hGb).rq).mono ?_
          rintro e w2 ⟨rfl, hB2⟩
          exact ⟨_, rfl, hB2, rfl⟩
        · rw [if_pos (by rfl)]
          exact Rs.GrowL.value (v := .agg #[.int .i64 wd, (.slice a8 xs.length p8)]) (w' := w') (by simp [go_sem, Rs.look, j2, j3]) (Rs.Gr.refl _) rfl
        · rw [if_pos (by rfl)]
          exact Rs.GrowL.value (v := .int .i64 wind) (w' := w') (by simp [go_sem, Rs.look]) (Rs.Gr.refl _) rfl
        · rw [if_pos (by rfl)]
          exact Rs.GrowL.value (v := (.slice a2 qs.length hcap)) (w' := w') (by simp [go_sem, Rs.look]) (Rs.Gr.refl _) rfl
        · have e0 : V 0 = .agg #[.int .i64 wd, (.slice a8 xs.length p8)] := hs 0 (by simp)
          have e1 : V 1 = .int .i64 wind := hs 1 (by simp)
          have e2 : V 2 = .pointer (some ⟨(w.heap.size + 1), 1, none⟩) := hs 2 (by simp)
          have e3 : V 3 = .int .i64 voice := hs 3 (by simp)
          have e4 : V 4 = (.slice a2 qs.length hcap) := hs 4 (by simp)
          have e5 : V 5 = .int .i64 Q1 := hs 5 (by simp)
          have e6 : V 6 = .agg #[.int .i64 wd, (.slice a8 xs.length p8)] := hs 6 (by simp)
          have e7 : V 7 = .int .i64 wind := hs 7 (by simp)
          have e8 : V 8 = (.slice a2 qs.length hcap) := hs 8 (by simp)
          rw [if_pos (by rfl)]
          refine Rs.GrowL.call (f := 54) (args := #[.agg #[.int .i64 wd, .slice a8 xs.length p8], .int .i64 wind, .int .i64 1, .slice a2 qs.length hcap]) (by simp [go_sem, Rs.look, e6, e7, e8]) ?_
          refine (A2.out _ _ _ _ _ hc (HH.out.below hGb).lw.r8 (HH.out.below hGb).rq).mono ?_
          rintro e w2 ⟨rfl, hB2⟩
          exact ⟨_, rfl, hB2, rfl⟩
        · have e0 : V 0 = .agg #[.int .i64 wd, (.slice a8 xs.length p8)] := hs 0 (by simp)
          have e1 : V 1 = .int .i64 wind := hs 1 (by simp)
          have e2 : V 2 = .pointer (some ⟨(w.heap.size + 1), 1, none⟩) := hs 2 (by simp)
          have e3 : V 3 = .int .i64 voice := hs 3 (by simp)
          have e4 : V 4 = (.slice a2 qs.length hcap) := hs 4 (by simp)
          have e5 : V 5 = .int .i64 Q1 := hs 5 (by simp)
          have e6 : V 6 = .agg #[.int .i64 wd, (.slice a8 xs.length p8)] := hs 6 (by simp)
          have e7 : V 7 = .int .i64 wind := hs 7 (by simp)
          have e8 : V 8 = (.slice a2 qs.length hcap) := hs 8 (by simp)
          have e9 : V 9 = .int .i64 Q2 := hs 9 (by simp)
          rw [if_pos (by rfl)]
          exact Rs.GrowL.value (v := .int .i64 Q1) (w' := w') (by simp [go_sem, Rs.look, e0, e1, e2, e3, e4, e5, e6, e7, e8, e9]) (Rs.Gr.refl _) rfl
        · have e0 : V 0 = .agg #[.int .i64 wd, (.slice a8 xs.length p8)] := hs 0 (by simp)
          have e1 : V 1 = .int .i64 wind := hs 1 (by simp)
          have e2 : V 2 = .pointer (some ⟨(w.heap.size + 1), 1, none⟩) := hs 2 (by simp)
          have e3 : V 3 = .int .i64 voice := hs 3 (by simp)
          have e4 : V 4 = (.slice a2 qs.length hcap) := hs 4 (by simp)
          have e5 : V 5 = .int .i64 Q1 := hs 5 (by simp)
          have e6 : V 6 = .agg #[.int .i64 wd, (.slice a8 xs.length p8)] := hs 6 (by simp)
          have e7 : V 7 = .int .i64 wind := hs 7 (by simp)
          have e8 : V 8 = (.slice a2 qs.length hcap) := hs 8 (by simp)
          have e9 : V 9 = .int .i64 Q2 := hs 9 (by simp)
          have e10 : V 10 = .int .i64 Q1 := hs 10 (by simp)
          rw [if_pos (by rfl)]
          exact Rs.GrowL.value (v := .int .i64 Q2) (w' := w') (by simp [go_sem, Rs.look, e0, e1, e2, e3, e4, e5, e6, e7, e8, e9, e10]) (Rs.Gr.refl _) rfl
      · intro V w' hG hs
        have e0 : V 0 = .agg #[.int .i64 wd, (.slice a8 xs.length p8)] := hs 0 (by omega)
        have e1 : V 1 = .int .i64 wind := hs 1 (by omega)
        have e2 : V 2 = .pointer (some ⟨(w.heap.size + 1), 1, none⟩) := hs 2 (by omega)
        have e3 : V 3 = .int .i64 voice := hs 3 (by omega)
        have e4 : V 4 = (.slice a2 qs.length hcap) := hs 4 (by omega)
        have e5 : V 5 = .int .i64 Q1 := hs 5 (by omega)
        have e6 : V 6 = .agg #[.int .i64 wd, (.slice a8 xs.length p8)] := hs 6 (by omega)
        have e7 : V 7 = .int .i64 wind := hs 7 (by omega)
        have e8 : V 8 = (.slice a2 qs.length hcap) := hs 8 (by omega)
        have e9 : V 9 = .int .i64 Q2 := hs 9 (by omega)
        have e10 : V 10 = .int .i64 Q1 := hs 10 (by omega)
        have e11 : V 11 = .int .i64 Q2 := hs 11 (by omega)

        have hGb : Below w1c.heap.size w1c w' := hG
        simp only [Rs.canon, Rs.dstOf, List.range_succ, List.range_zero, List.nil_append, List.cons_append, List.foldl_cons, List.foldl_nil, List.drop_succ_cons, List.drop_zero, List.drop_nil, List.getElem?_toArray, List.getElem?_cons_succ, List.getElem?_cons_zero, Option.bind_some, Act.put, List.getD_cons_succ, List.getD_cons_zero, List.setIfInBounds_toArray, List.set_cons_succ, List.set_cons_zero]
        rw [e0, e1, e2, e3, e4, e5, e6, e7, e8, e9, e10, e11]
        clear e0 e1 e2 e3 e4 e5 e6 e7 e8 e9 e10 e11 hs hG
        have HH := Lib.hid (HH.out.below hGb)
        have HVl := Lib.hid (HVl.out.below hGb)
        obtain ⟨k0, k1, k2, k3, k4, k5, k6, k7, j0, j1, j2⟩ := HH.out.cs
        clear hGb
        go_upto_region 7 with fail
        go_cut [72] from 67 to 71 (fun s72 wx => s72 = .bool (!decide (0 ≤ st ∧ st ≤ 30)) ∧ wx = w')
        case first =>
          have hst : (decide (st < 0) = true ∧ ¬ (0 ≤ st ∧ st ≤ 30)) ∨ (decide (st < 0) = false ∧ decide (st > 30) = true ∧ ¬ (0 ≤ st ∧ st ≤ 30)) ∨ (decide (st < 0) = false ∧ decide (st > 30) = false ∧ (0 ≤ st ∧ st ≤ 30)) := by
            by_cases h1 : st < 0
            · exact .inl ⟨by simpa using h1, by omega⟩
            · by_cases h2 : st > 30
              · exact .inr (.inl ⟨by simpa using h1, by simpa using h2, by omega⟩)
              · exact .inr (.inr ⟨by simpa using h1, by simpa using h2, by omega⟩)
          rcases hst with ⟨d1, d3⟩ | ⟨d1, d2, d3⟩ | ⟨d1, d2, d3⟩
          · have D3 := Lib.hid d3
            clear d3
            go_wp2_with fail
            go_meet
            exact ⟨by rw [decide_eq_false D3.out]; rfl, rfl⟩
          · have D3 := Lib.hid d3
            clear d3
            go_wp2_with fail
            go_meet
            exact ⟨by rw [decide_eq_false D3.out]; rfl, rfl⟩
          · have D3 := Lib.hid d3
            clear d3
            go_wp2_with fail
            go_meet
            exact ⟨by rw [decide_eq_true D3.out]; rfl, rfl⟩
        case rest =>
        obtain ⟨rfl, e7⟩ := hcut
        rw [e7]
        clear e7
        go_upto_if 72 with fail
        go_cut [18, 19] from 67 to 76 (fun s18 s19 wx => s18 = .int .i64 (rngE Q1 st) ∧ s19 = .int .i64 (rngE Q2 st) ∧ wx = w')
        case first =>
          clear C1 R1 N1 C2 R2 N2 A1 A2
          by_cases d3 : 0 ≤ st ∧ st ≤ 30
          rotate_left
          have d4 : (!decide (0 ≤ st ∧ st ≤ 30)) = true := by rw [decide_eq_false d3]; rfl
          rw [d4]
          clear d4
          · have D3 := Lib.hid d3
            clear d3
            by_cases hq1 : Q1 = 0
            · subst hq1
              by_cases hq2 : Q2 = 0
              · subst hq2
                go_wp2_with fail
                go_meet
                exact ⟨by unfold rngE; rw [if_neg (by simp), if_neg D3.out], by unfold rngE; rw [if_neg (by simp), if_neg D3.out], rfl⟩
              · have b2 : (Q2 == 0) = false := by simpa using hq2
                have c2 : decide (Q2 = 0) = false := by simpa using hq2
                go_wp2_with fail
                go_meet
                exact ⟨by unfold rngE; rw [if_neg (by simp), if_neg D3.out], by unfold rngE; rw [if_pos hq2], rfl⟩
            · have b1 : (Q1 == 0) = false := by simpa using hq1
              have c1 : decide (Q1 = 0) = false := by simpa using hq1
              by_cases hq2 : Q2 = 0
              · subst hq2
                go_wp2_with fail
                go_meet
                exact ⟨by unfold rngE; rw [if_pos hq1], by unfold rngE; rw [if_neg (by simp), if_neg D3.out], rfl⟩
              · have b2 : (Q2 == 0) = false := by simpa using hq2
                have c2 : decide (Q2 = 0) = false := by simpa using hq2
                go_wp2_with fail
                go_meet
                exact ⟨by unfold rngE; rw [if_pos hq1], by unfold rngE; rw [if_pos hq2], rfl⟩
          have d4 : (!decide (0 ≤ st ∧ st ≤ 30)) = false := by rw [decide_eq_true d3]; rfl
          rw [d4]
          clear d4
          · have D3 := Lib.hid d3
            clear d3
            go_wp2_with fail
            go_meet
            have h0 : ∀ q, rngE q st = q := fun q => by
              unfold rngE
              by_cases h : q = 0
              · rw [if_neg (by simpa using h), if_pos D3.out]; exact h.symm
              · rw [if_pos h]
            exact ⟨by rw [h0], by rw [h0], rfl⟩
        case rest =>
          obtain ⟨rfl, rfl, e7⟩ := hcut
          rw [e7]
          clear e7 C1 C2 A1 A2
          generalize rngE Q1 st = E1 at R1 N1 ⊢
          generalize rngE Q2 st = E2 at R2 N2 ⊢
          go_upto_if 78 with fail
          go_cut [20, 21] from 77 to 88 (fun s20 s21 wx => ∃ bv, bv = s20 ∧ s21 = .int .i64 N ∧ RdI wx bv L ∧ RdI wx vl L ∧ Ho8 wd xs qs (.slice a xs.length cap) (.slice a2 qs.length hcap) (.slice am qs.length pm) wind voice c7 (.slice a7 xs.length p7) c8 (.slice a8 xs.length p8) w wx)
          case first =>
            by_cases hE : E1 = 0
            · subst hE
              have HR := Lib.hid (R1.out rfl)
              clear R1 N1 R2 N2
              go_wp2_with fail
              refine (HR.out _ _ _ _ _ hc HH.out.lw.r8 HH.out.rq).mono ?_
              rintro e wb ⟨vb, rfl, hB, hv⟩
              have HV := Lib.hid hv
              have HHb := Lib.hid (HH.out.below hB)
              have HVb := Lib.hid (HVl.out.below hB)
              clear hB hv
              go_wp2_with fail
              go_meet
              exact ⟨_, rfl, rfl, HV.out, HVb.out, HHb.out⟩
            · have b1 : (E1 == 0) = false := by simpa using hE
              have c1 : decide (E1 = 0) = false := by simpa using hE
              obtain ⟨rfl, rfl⟩ := N1.out hE
              clear R1 N1 R2 N2 hE
              go_wp2_with fail
              go_meet
              exact ⟨_, rfl, rfl, rd_nil _, HVl.out, HH.out⟩
          case rest =>
            obtain ⟨bv, rfl, rfl, hv, hvl, hh⟩ := hcut
            have HV := Lib.hid hv
            have HVl := Lib.hid hvl
            have HH := Lib.hid hh
            obtain ⟨k0, k1, k2, k3, k4, k5, k6, k7, j0, j1, j2⟩ := HH.out.cs
            clear hv hvl hh R1 N1
            go_upto_if 90 with fail
            go_cut [19, 22] from 89 to 97 (fun s19 s22 wx => s19 = .int .i64 (louE E2 Vo) ∧ s22 = .int .i64 Vo ∧ RdI wx bv L ∧ RdI wx vl L ∧ Ho8 wd xs qs (.slice a xs.length cap) (.slice a2 qs.length hcap) (.slice am qs.length pm) wind voice c7 (.slice a7 xs.length p7) c8 (.slice a8 xs.length p8) w wx)
            case first =>
              by_cases hE : E2 = 0
              · subst hE
                have HR := Lib.hid (R2.out rfl)
                clear R2 N2
                go_wp2_with fail
                refine (HR.out _ _ _ _ _ hc HH.out.lw.r8 HH.out.rq).mono ?_
                rintro e wb ⟨rfl, hB⟩
                have HHb := Lib.hid (HH.out.below hB)
                have HVlb := Lib.hid (HVl.out.below hB)
                have HVb := Lib.hid (HV.out.below hB)
                clear hB
                by_cases hv0 : Vo = 0
                · subst hv0
                  go_wp2_with fail
                  go_meet
                  exact ⟨rfl, rfl, HVb.out, HVlb.out, HHb.out⟩
                · have b1 : (Vo == 0) = false := by simpa using hv0
                  have c1 : decide (Vo = 0) = false := by simpa using hv0
                  go_wp2_with fail
                  go_meet
                  exact ⟨by unfold louE; rw [if_pos rfl, if_neg hv0], rfl, HVb.out, HVlb.out, HHb.out⟩
              · have b1 : (E2 == 0) = false := by simpa using hE
                have c1 : decide (E2 = 0) = false := by simpa using hE
                have hV := N2.out hE
                have hl : louE E2 Vo = E2 := by unfold louE; rw [if_neg hE]
                clear R2 N2
                go_wp2_with fail
                go_meet
                exact ⟨by rw [hl], by rw [hV], HV.out, HVl.out, HH.out⟩
            case rest =>
              obtain ⟨rfl, rfl, hv, hvl, hh⟩ := hcut
              have HV := Lib.hid hv
              have HVl := Lib.hid hvl
              have HH := Lib.hid hh
              obtain ⟨k0, k1, k2, k3, k4, k5, k6, k7, j0, j1, j2⟩ := HH.out.cs
              clear hv hvl hh R2 N2
              go_wp2_with fail
              refine (Like_int _ _ L L true (by simp) _ HVl.out HV.out).mono ?_
              rintro e wc ⟨rfl, hB⟩
              have HH := Lib.hid (HH.out.below hB)
              obtain ⟨k0, k1, k2, k3, k4, k5, k6, k7, j0, j1, j2⟩ := HH.out.cs
              clear hB HV HVl
              go_wp2_with fail
              refine (same_yes wd _ _ _ _ _ _ xs _ HH.out.lw.r7 HH.out.rs).mono ?_
              rintro e wc ⟨rfl, hB⟩
              have HH := Lib.hid (HH.out.below hB)
              clear hB
              go_wp2_with fail
              refine (Like_int _ _ qs qs true (by simp) _ HH.out.rm HH.out.rq).mono ?_
              rintro e wd2 ⟨rfl, hB⟩
              have HH := Lib.hid (HH.out.below hB)
              clear hB
              go_wp2_with fail
              refine (awake_any _).mono ?_
              rintro e we ⟨rfl, hB⟩
              have HH := Lib.hid (HH.out.below hB)
              clear hB
              go_wp2_with fail
              go_ret
              exact ⟨rfl, HH.out.bel⟩
end Go.Proofs.Ytimedmkpenbmkaa
end
