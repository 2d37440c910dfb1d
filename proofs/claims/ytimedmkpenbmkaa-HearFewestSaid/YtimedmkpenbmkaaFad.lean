/- HearFewest holds: for any town, air and houses the law returns true, and what was passed in reads as before. No conditions. -/
import Derived.Test.YtimedmkpenbmkaaFac
section
namespace Go.Proofs.Ytimedmkpenbmkaa
open Go.RowKit Go.Shelf
set_option linter.unusedSimpArgs false
set_option linter.unusedVariables false
/-- no two of some houses hear the same stand, by lists of ears -/
def ApE (E : Nat → List Int) (F : List Int) (n : Nat) : Prop := ∀ i, i < n → ∀ k, k < i → ∀ s, s < (E (F.getD i 0).toNat).length → (E (F.getD k 0).toNat).contains ((E (F.getD i 0).toNat).getD s 0) = false
set_option maxHeartbeats 4000000 in
set_option maxRecDepth 100000 in
theorem refApart_any (n O c : Nat) (E : Nat → List Int) (hn : n ≤ 1000000) (hEl : ∀ p, p < n → (E p).length ≤ 1000000) (v : Value) (F : List Int) (hl : F.length ≤ 1000000) (hh : ∀ k, k < F.length → ∃ p : Nat, F.getD k 0 = p ∧ p < n) (w : World) (hE : ErR n O E w) (hR : RdI w v F) :
    Calls Try.prog 116 #[.slice (some ⟨O, 0, none⟩) n c, v] w fun e w' => ∃ b, e = .returned (.bool b) ∧ (b = true ↔ ApE E F F.length) ∧ Below w.heap.size w w' := by
  have HR := Lib.hid hR
  have HE := Lib.hid hE
  have HH := Lib.hid hh
  have HEL := Lib.hid hEl
  obtain ⟨_, a, cap, rfl, -⟩ := hR
  clear hE hh hEl
  go_enter Try.func116, Try.ntmps116
  go_wp2_with fail
  go_loopw [5] (fun i wr => ∃ k : Nat, i = .int .i64 k ∧ k ≤ F.length ∧ ApE E F k ∧ Below w.heap.size w wr) (fun i _ => F.length - (intOf i).toNat)
  case atStart => exact ⟨0, rfl, Nat.zero_le _, fun i hi => absurd hi (Nat.not_lt_zero _), Below.refl _ _⟩
  case round =>
    obtain ⟨i, rfl, hi, hno, hB⟩ := hrel
    by_cases hlt : i < F.length
    · have hlt' : (i : Int) < F.length := by omega
      obtain ⟨b, o, rfl, -, -⟩ := rd_ints HR.out (by intro e; rw [e] at hlt; simp at hlt)
      obtain ⟨p, hp, hpn⟩ := HH.out i hlt
      have hpn' : (p : Int) < n := by omega
      have HP := Lib.hid hp
      have HB := Lib.hid hB
      have HNO := Lib.hid hno
      have hel := HEL.out p hpn
      clear hp hB hno
      go_wp2_with fail
      go_loopw [6] (fun k wq => ∃ q : Nat, k = .int .i64 q ∧ q ≤ i ∧ (∀ k, k < q → ∀ s, s < (E p).length → (E (F.getD k 0).toNat).contains ((E p).getD s 0) = false) ∧ Below w.heap.size w wq) (fun k _ => i - (intOf k).toNat)
      case atStart => exact ⟨0, rfl, Nat.zero_le _, fun k hk => absurd hk (Nat.not_lt_zero _), HB.out⟩
      case round =>
        obtain ⟨k, rfl, hk, hno, hBk⟩ := hrel
        by_cases hkl : k < i
        · have hkl' : (k : Int) < i := by omega
          have hkF : k < F.length := by omega
          have hkF' : (k : Int) < F.length := by omega
          obtain ⟨q, hq, hqn⟩ := HH.out k hkF
          have hqn' : (q : Int) < n := by omega
          have HQ := Lib.hid hq
          have HBk := Lib.hid hBk
          have HNK := Lib.hid hno
          have hel2 := HEL.out q hqn
          clear hq hBk hno
          go_wp2_with fail
          go_loopw [7] (fun s ws => ∃ j : Nat, s = .int .i64 j ∧ j ≤ (E p).length ∧ (∀ s, s < j → (E q).contains ((E p).getD s 0) = false) ∧ Below w.heap.size w ws) (fun s _ => (E p).length - (intOf s).toNat)
          case atStart => exact ⟨0, rfl, Nat.zero_le _, fun k hk => absurd hk (Nat.not_lt_zero _), HBk.out⟩
          case round =>
            obtain ⟨j, rfl, hj, hno, hBj⟩ := hrel
            obtain ⟨b', o', e', -, hI⟩ := rd_ints (HR.out.below hBj) (by intro e; rw [e] at hlt; simp at hlt)
            cases e'
            have cp := hI.2 i hlt
            rw [HP.out] at cp
            have cq := hI.2 k hkF
            rw [HQ.out] at cq
            have hbl := hI.1
            have hEr := HE.out.below hBj
            obtain ⟨ve, ce, hre⟩ := hEr.at' p hpn
            obtain ⟨vf, cf, hrf⟩ := hEr.at' q hqn
            have hol := hEr.lt
            have HRE := Lib.hid hre
            have HRF := Lib.hid hrf
            obtain ⟨_, ae, qe, rfl, -⟩ := hre
            obtain ⟨_, af, qf, rfl, -⟩ := hrf
            have HNJ := Lib.hid hno
            have HBJ := Lib.hid hBj
            clear hI hno hEr hBj
            by_cases hjl : j < (E p).length
            · have hjl' : (j : Int) < (E p).length := by omega
              obtain ⟨b2, o2, rfl, -, hI2⟩ := rd_ints HRE.out (by intro e; rw [e] at hjl; simp at hjl)
              have cj := hI2.2 j hjl
              have hbl2 := hI2.1
              obtain ⟨x, hx⟩ : ∃ x, (E p).getD j 0 = x := ⟨_, rfl⟩
              rw [hx] at cj
              have HX := Lib.hid hx
              have HHS := Lib.hid (fun W (h : RdI W (.slice af (E q).length qf) (E q)) => has_any (.slice af (E q).length qf) (E q) x hel2 W h)
              clear hI2 hx
              go_wp2_with fail
              go_quiet ((go_at_call 115; exact Calls.quiet_of_same (HHS.out _ (by exact HRF.out))))
              cases hc : (E q).contains x with
              | true =>
                have HC := Lib.hid hc
                clear hc
                go_wp2_with fail
                go_ret
                refine ⟨false, rfl, ⟨fun e => absurd e (by simp), fun h => ?_⟩, ⟨HBJ.out.os, HBJ.out.tape, HBJ.out.output, HBJ.out.size, HBJ.out.block⟩⟩
                have h2 := h i hlt k hkl j (by rw [HP.out, Int.toNat_natCast]; exact hjl)
                rw [HP.out, HQ.out, Int.toNat_natCast, Int.toNat_natCast, HX.out, HC.out] at h2
                cases h2
              | false =>
                have HC := Lib.hid hc
                clear hc
                go_wp2_with fail
                go_roundw
                case rel =>
                  refine ⟨j + 1, by simp, by omega, fun s hs => ?_, ⟨HBJ.out.os, HBJ.out.tape, HBJ.out.output, HBJ.out.size, HBJ.out.block⟩⟩
                  by_cases e : s = j
                  · rw [e, HX.out]; exact HC.out
                  · exact HNJ.out s (by omega)
                case measure => simp [intOf]; omega
            · obtain rfl : j = (E p).length := by omega
              go_wp2_with fail
              go_roundw
              case rel =>
                refine ⟨k + 1, by simp, by omega, fun k' hk' s hs => ?_, HBJ.out⟩
                by_cases e : k' = k
                · rw [e, HQ.out, Int.toNat_natCast]; exact HNJ.out s hs
                · exact HNK.out k' (by omega) s hs
              case measure => simp [intOf]; omega
        · obtain rfl : k = i := by omega
          have HNK := Lib.hid hno
          have HBk := Lib.hid hBk
          clear hno hBk
          go_wp2_with fail
          go_roundw
          case rel => exact ⟨k + 1, by simp, by omega, fun i' hi' k' hk' s hs => by
            by_cases e : i' = k
            · subst e
              rw [HP.out, Int.toNat_natCast] at hs ⊢
              exact HNK.out k' hk' s hs
            · exact HNO.out i' (by omega) k' hk' s hs, HBk.out⟩
          case measure => simp [intOf]; omega
    · obtain rfl : i = F.length := by omega
      have HNO := Lib.hid hno
      have HB := Lib.hid hB
      clear hno hB
      go_wp2_with fail
      go_ret
      exact ⟨true, rfl, ⟨fun _ => HNO.out, fun _ => rfl⟩, HB.out⟩
end Go.Proofs.Ytimedmkpenbmkaa
end
section
namespace Go.Proofs.Ytimedmkpenbmkaa
open Go.RowKit Go.Shelf
set_option linter.unusedSimpArgs false
set_option linter.unusedVariables false
def sortP (qs : List Int) (n : Nat) : List Int := ((List.range n).filter fun (p : Nat) => qs.contains (p : Int)).map fun (p : Nat) => (p : Int)
theorem sortP_yes {qs : List Int} {n : Nat} (h : qs.contains (n : Int) = true) : sortP qs (n + 1) = sortP qs n ++ [(n : Int)] := by
  unfold sortP
  rw [List.range_succ, List.filter_append, List.map_append]
  congr 1
  rw [List.filter_cons, if_pos h]; rfl
theorem sortP_no {qs : List Int} {n : Nat} (h : qs.contains (n : Int) = false) : sortP qs (n + 1) = sortP qs n := by
  unfold sortP
  rw [List.range_succ, List.filter_append, List.map_append]
  rw [List.filter_cons, if_neg (by rw [h]; simp)]; simp
theorem sortP_len (qs : List Int) (n : Nat) : (sortP qs n).length ≤ n := by
  unfold sortP; rw [List.length_map]; have := List.length_filter_le (fun p : Nat => qs.contains (p : Int)) (List.range n); simpa using this
theorem sortP_sorted (qs : List Int) (n : Nat) : (sortP qs n).Pairwise (· < ·) := by
  unfold sortP
  rw [List.pairwise_map]
  exact (List.Pairwise.filter _ List.pairwise_lt_range).imp fun h => by omega
theorem sortP_lis {t : Hr.Town} {qs : List Int} (h : Named t qs) (wind voice : Int) : sortP qs t.plots.length = natI (fsts (lis t wind voice (inL qs))) := by
  rw [lis_fsts]
  unfold sortP natI
  congr 1
  refine List.filter_congr fun p hp => ?_
  have hp := List.mem_range.1 hp
  unfold inL
  by_cases hm : (p : Int) ∈ qs
  · rw [List.contains_iff_mem.2 hm, decide_eq_true hm]
    obtain ⟨q, e, _, h1⟩ := mem_kindIdx.1 (h.all _ hm)
    obtain rfl : p = q := by omega
    have h1 : t.at p = 1 := h1
    rw [h1]; rfl
  · rw [decide_eq_false hm, Bool.and_false, ← Bool.not_eq_true]
    exact fun e => hm (List.contains_iff_mem.1 e)
theorem sortP_mem {qs : List Int} {n : Nat} {x : Int} (h : x ∈ sortP qs n) : ∃ p : Nat, x = p ∧ p < n ∧ x ∈ qs := by
  unfold sortP at h
  obtain ⟨p, hp, rfl⟩ := List.mem_map.1 h
  rw [List.mem_filter, List.mem_range] at hp
  exact ⟨p, rfl, hp.1, List.contains_iff_mem.1 hp.2⟩
theorem sortP_le10 {t : Hr.Town} {qs : List Int} (h : Named t qs) (n : Nat) : (sortP qs n).length ≤ qs.length :=
  len_le_int ((sortP_sorted qs n).imp fun h => by omega) fun a ha => (sortP_mem ha).choose_spec.2.2
theorem apt_ref {t : Hr.Town} {qs : List Int} (h : Named t qs) (wind voice : Int) {F : List (Nat × List Bool)} (hF : F.Sublist (lis t wind voice (inL qs))) : ApE (earsE t wind voice t.plots.length) (natI (fsts F)) F.length ↔ Apt F := by
  have h30 : t.len ≤ 30 := h.ok.n30
  have hget : ∀ i (hi : i < F.length), ((natI (fsts F)).getD i 0) = ((F[i].1 : Nat) : Int) := fun i hi => by
    rw [List.getD_eq_getElem?_getD, List.getElem?_eq_getElem (by unfold natI fsts; simpa using hi)]
    simp [natI, fsts]
  have hE : ∀ i (hi : i < F.length) (s : Nat), (s : Int) ∈ earsE t wind voice t.plots.length F[i].1 ↔ F[i].2.getD s false = true := fun i hi s => by
    obtain ⟨a, b, c, d⟩ := mem_lisN.1 (hF.subset (List.getElem_mem hi))
    rw [mem_earsE b, d, ears_get, Bool.and_eq_true]
    exact ⟨fun hb => ⟨decide_eq_true (by have := hearB_lt hb; omega), hb⟩, fun hb => hb.2⟩
  have hN : ∀ i (hi : i < F.length) (x : Int), x ∈ earsE t wind voice t.plots.length F[i].1 → ∃ s : Nat, x = s ∧ s < 30 := fun i hi x hx => by
    obtain ⟨a, b, c, d⟩ := mem_lisN.1 (hF.subset (List.getElem_mem hi))
    have hx2 := hx
    unfold earsE at hx2
    rw [if_pos b] at hx2
    unfold standsTo at hx2
    obtain ⟨q, _, e⟩ := List.mem_map.1 hx2
    subst e
    have := hearB_lt ((mem_earsE b).1 hx)
    exact ⟨q, rfl, by omega⟩
  have hap : Apt F ↔ ∀ k i (hk : k < F.length) (hi : i < F.length), k < i → clashTo F[k].2 F[i].2 30 = false := by
    unfold Apt
    rw [List.pairwise_iff_getElem]
  rw [hap]
  constructor
  · intro ha k i hk hi hki
    rw [clash_no]
    intro s hs h1
    have h2 := (hE k hk s).2 h1
    cases h3 : F[i].2.getD s false
    · rfl
    · have h4 := (hE i hi s).2 h3
      obtain ⟨j, hj, e⟩ := List.getElem_of_mem h4
      have h5 := ha i hi k hki j (by rw [hget i hi, Int.toNat_natCast]; exact hj)
      rw [hget i hi, hget k hk, Int.toNat_natCast, Int.toNat_natCast, List.getD_eq_getElem?_getD, List.getElem?_eq_getElem hj] at h5
      have e2 : (some (earsE t wind voice t.plots.length F[i].1)[j]).getD 0 = (s : Int) := e
      rw [e2, List.contains_iff_mem.2 h2] at h5
      cases h5
  · intro ha i hi k hki s hs
    have hk : k < F.length := by omega
    rw [hget i hi, Int.toNat_natCast] at hs ⊢
    rw [hget k hk, Int.toNat_natCast]
    have hm : (earsE t wind voice t.plots.length F[i].1).getD s 0 ∈ earsE t wind voice t.plots.length F[i].1 := by
      rw [List.getD_eq_getElem?_getD, List.getElem?_eq_getElem hs]; exact List.getElem_mem _
    obtain ⟨q, e, hq⟩ := hN i hi _ hm
    rw [e] at hm ⊢
    rw [← Bool.not_eq_true]
    intro hc
    have h1 := (hE k hk q).1 (List.contains_iff_mem.1 hc)
    have h2 := (hE i hi q).1 hm
    rw [clash_no.1 (ha k i hk hi hki) q hq h1] at h2
    cases h2
/-- the reference's search finds the houses that are apart -/
structure ApS (t : Hr.Town) (wind voice : Int) (qs X : List Int) (c : Nat) : Prop where
  more : ∀ m, c < m → ∀ j, j < (listsP m (sortP qs t.plots.length)).length → ¬ ApE (earsE t wind voice t.plots.length) ((listsP m (sortP qs t.plots.length)).getD j []) m
  ex : ∃ j, j < (listsP c (sortP qs t.plots.length)).length ∧ ApE (earsE t wind voice t.plots.length) ((listsP c (sortP qs t.plots.length)).getD j []) c
  first : ∀ i, i < (listsP c (sortP qs t.plots.length)).length → ApE (earsE t wind voice t.plots.length) ((listsP c (sortP qs t.plots.length)).getD i []) c → (∀ j, j < i → ¬ ApE (earsE t wind voice t.plots.length) ((listsP c (sortP qs t.plots.length)).getD j []) c) → (listsP c (sortP qs t.plots.length)).getD i [] = X
  zero : c = 0 → X = []
theorem apt_search {t : Hr.Town} {qs : List Int} (h : Named t qs) (wind voice : Int) : ∃ c, ApS t wind voice qs (natI (apartP (lis t wind voice (inL qs)))) c ∧ c ≤ (sortP qs t.plots.length).length := by
  obtain ⟨E, hE, hA⟩ := aparts (lis t wind voice (inL qs)) (lis_sorted _ _ _ _)
  have hSL := sortP_lis h wind voice
  have hsort := sortP_sorted qs t.plots.length
  rw [hE]
  obtain ⟨SL, hS⟩ : ∃ SL, SL = sortP qs t.plots.length := ⟨_, rfl⟩
  have hget : ∀ m j, j < (listsP m SL).length → (listsP m SL).getD j [] ∈ listsP m SL := fun m j hj => by
    rw [List.getD_eq_getElem?_getD, List.getElem?_eq_getElem hj]; exact List.getElem_mem _
  have hsub : ∀ m L', L' ∈ listsP m SL → ∃ F : List (Nat × List Bool), F.Sublist (lis t wind voice (inL qs)) ∧ L' = natI (fsts F) ∧ F.length = m := fun m L' hm => by
    obtain ⟨a, b⟩ := (lists_mem m SL L').1 hm
    rw [hS, hSL] at a
    unfold natI fsts at a
    rw [List.map_map] at a
    obtain ⟨F, hF, e⟩ := List.sublist_map_iff.1 a
    refine ⟨F, hF, by rw [e]; unfold natI fsts; rw [List.map_map], ?_⟩
    rw [← b, e, List.length_map]
  have hEm : natI (fsts E) ∈ listsP E.length SL := by
    rw [lists_mem, hS, hSL]
    refine ⟨?_, by simp [natI, fsts]⟩
    unfold natI fsts
    exact (hA.sub.map _).map _
  have hEa := (apt_ref h wind voice hA.sub).2 hA.apt
  rw [← hS] at hsort
  refine ⟨E.length, ⟨fun m hm j hj ha => ?_, ?_, fun i hi ha hno => ?_, fun e => ?_⟩, ?_⟩
  · rw [← hS] at hj ha
    obtain ⟨F, hF, e, hl⟩ := hsub m _ (hget m j hj)
    rw [e, ← hl] at ha
    have := hA.most F hF ((apt_ref h wind voice hF).1 ha)
    omega
  · rw [← hS]
    obtain ⟨j, hj, e⟩ := List.getElem_of_mem hEm
    refine ⟨j, hj, ?_⟩
    rw [List.getD_eq_getElem?_getD, List.getElem?_eq_getElem hj]
    show ApE _ (listsP E.length SL)[j] _
    rw [e]; exact hEa
  · rw [← hS] at hi ha hno ⊢
    refine find_first hsort (P := fun S => @decide (ApE (earsE t wind voice t.plots.length) S E.length) (Classical.propDecidable _)) hEm (@decide_eq_true _ (Classical.propDecidable _) hEa) (fun F' hF' hP => ?_) hi (@decide_eq_true _ (Classical.propDecidable _) ha) fun j hj => @decide_eq_false _ (Classical.propDecidable _) (hno j hj)
    have hP := @of_decide_eq_true _ (Classical.propDecidable _) hP
    obtain ⟨F, hF, e, hl⟩ := hsub _ _ hF'
    rw [e, ← hl] at hP
    rw [e]
    rcases hA.first F hF ((apt_ref h wind voice hF).1 hP) hl with h3 | h3
    · left; rw [h3]
    · right; exact bef_int h3
  · rw [List.length_eq_zero_iff.1 e]; rfl
  · rw [← hS]
    have := ((lists_mem _ _ _).1 hEm)
    rw [← this.2]; exact this.1.length_le
end Go.Proofs.Ytimedmkpenbmkaa
end
section
namespace Go.Proofs.Ytimedmkpenbmkaa
open Go.RowKit Go.Shelf
set_option linter.unusedSimpArgs false
set_option linter.unusedVariables false
set_option maxHeartbeats 4000000 in
set_option maxRecDepth 100000 in
theorem RefApart_err (wd : Int) (a : Option Addr) (cap : Nat) (xs : List Int) (hl : xs.length ≤ 1000000) (wind voice : Int) (a2 : Option Addr) (hcap : Nat) (qs : List Int) (hhl : qs.length ≤ 1000000) (hc : qs.length ≤ hcap) (w : World) (hR : RdI w (.slice a xs.length cap) xs) (hH : RdI w (.slice a2 qs.length hcap) qs) (hq : quarterE wd xs wind voice qs ≠ 0) :
    Calls Try.prog 51 #[.agg #[.int .i64 wd, .slice a xs.length cap], .int .i64 wind, .int .i64 voice, .slice a2 qs.length hcap] w fun e w' => e = .returned (.tuple #[.slice none 0 0, .int .i64 (quarterE wd xs wind voice qs)]) ∧ Below w.heap.size w w' := by
  have HB := Lib.hid (below1 w (.cells #[.int .i64 wd, .slice a xs.length cap] 33))
  have hx0 : (w.alloc (.cells #[.int .i64 wd, .slice a xs.length cap] 33)).heap[w.heap.size]? = some (.cells #[.int .i64 wd, .slice a xs.length cap] 33 (0, 0)) := heap_alloc_last _ _
  obtain ⟨W1, hW1⟩ : ∃ W1, W1 = w.alloc (.cells #[.int .i64 wd, .slice a xs.length cap] 33) := ⟨_, rfl⟩
  have HA := Lib.hid (Asked_any wd a cap xs hl wind voice a2 hcap qs hhl hc W1 (by rw [hW1]; exact hR.below HB.out) (by rw [hW1]; exact hH.below HB.out))
  rw [← hW1] at HB hx0
  obtain ⟨k0, k1⟩ := blk_cells2 hx0
  have k2 := (Array.getElem?_eq_some_iff.1 hx0).1
  have HW1 := Lib.hid hW1
  generalize quarterE wd xs wind voice qs = q at HA hq ⊢
  have dq : (q != 0) = true := by simpa using hq
  clear hR hH hx0 hW1 hq
  go_enter Try.func51, Try.ntmps51
  go_upto_region 1 with fail
  rw [← HW1.out]
  go_wp2_with fail
  refine HA.out.mono ?_
  rintro e w2 ⟨rfl, hB⟩
  have HB2 := Lib.hid (join HB.out hB)
  clear hB HA
  go_wp2_with fail
  go_ret2
  exact ⟨rfl, HB2.out⟩
set_option maxHeartbeats 8000000 in
set_option maxRecDepth 100000 in
theorem RefApart_ok (t : Hr.Town) (ok : t.Ok) (wind voice : Int) (b o cap : Nat) (a2 : Option Addr) (hcap : Nat) (qs : List Int) (hc : qs.length ≤ hcap) (w : World) (hR : RdI w (.slice (some ⟨b, o, none⟩) t.plots.length cap) t.plots) (hH : RdI w (.slice a2 qs.length hcap) qs) (hq : quarterE t.wide t.plots wind voice qs = 0) :
    Calls Try.prog 51 #[.agg #[.int .i64 t.wide, .slice (some ⟨b, o, none⟩) t.plots.length cap], .int .i64 wind, .int .i64 voice, .slice a2 qs.length hcap] w fun e w' => ∃ v, e = .returned (.tuple #[v, .int .i64 0]) ∧ Below w.heap.size w w' ∧ RdI w' v (natI (apartP (lis t wind voice (inL qs)))) := by
  have hl30 : t.plots.length ≤ 30 := ok.n30
  obtain ⟨hNm, ha⟩ := quarter_named ok hq
  have hqs := hNm.len
  have HB := Lib.hid (below1 w (.cells #[.int .i64 t.wide, .slice (some ⟨b, o, none⟩) t.plots.length cap] 33))
  have hx0 : (w.alloc (.cells #[.int .i64 t.wide, .slice (some ⟨b, o, none⟩) t.plots.length cap] 33)).heap[w.heap.size]? = some (.cells #[.int .i64 t.wide, .slice (some ⟨b, o, none⟩) t.plots.length cap] 33 (0, 0)) := heap_alloc_last _ _
  obtain ⟨W1, hW1⟩ : ∃ W1, W1 = w.alloc (.cells #[.int .i64 t.wide, .slice (some ⟨b, o, none⟩) t.plots.length cap] 33) := ⟨_, rfl⟩
  have HR := Lib.hid (show RdI W1 (.slice (some ⟨b, o, none⟩) t.plots.length cap) t.plots by rw [hW1]; exact hR.below HB.out)
  have HH := Lib.hid (show RdI W1 (.slice a2 qs.length hcap) qs by rw [hW1]; exact hH.below HB.out)
  have HA := Lib.hid (Asked_any t.wide (some ⟨b, o, none⟩) cap t.plots (by omega) wind voice a2 hcap qs (by omega) hc W1 HR.out HH.out)
  rw [hq] at HA
  rw [← hW1] at HB hx0
  obtain ⟨k0, k1⟩ := blk_cells2 hx0
  have k2 := (Array.getElem?_eq_some_iff.1 hx0).1
  have HW1 := Lib.hid hW1
  have HX0 := Lib.hid hx0
  have HNM := Lib.hid hNm
  have HAE := Lib.hid ha
  obtain ⟨c, hF, hcl⟩ := apt_search hNm wind voice
  have HF := Lib.hid hF
  obtain ⟨X, hX⟩ : ∃ X, X = natI (apartP (lis t wind voice (inL qs))) := ⟨_, rfl⟩
  rw [← hX] at HF ⊢
  have hs10 := sortP_le10 hNm t.plots.length
  clear hF hX
  clear hR hH hx0 hW1 hq hNm ha
  go_enter Try.func51, Try.ntmps51
  go_upto_region 1 with fail
  rw [← HW1.out]
  go_wp2_with fail
  refine HA.out.mono ?_
  rintro e w2 ⟨rfl, hB⟩
  have HB2 := Lib.hid hB
  obtain ⟨k0, k1, k2⟩ := box33 HX0.out hB
  have hne : t.plots ≠ [] := by intro e; have := (check_len HNM.out.chk).2; rw [e] at this; simp at this
  obtain ⟨b', o', e', -, hI⟩ := rd_ints (HR.out.below hB) hne
  cases e'
  have hoE : openErr t.wide t.plots wind voice = 0 := by unfold openErr; rw [HNM.out.chk]; exact HAE.out
  have HEA := Lib.hid (refEars_yes t ok wind voice hoE b o cap w2 hI)
  clear hB HA hne hI hoE
  go_wp2_with fail
  refine HEA.out.mono ?_
  rintro e w3 ⟨O, vs, rfl, hE, hOl, hB⟩
  have HE := Lib.hid hE.read
  have HB3 := Lib.hid (join HB2.out hB)
  have hEl : ∀ p, p < t.plots.length → (earsE t wind voice t.plots.length p).length ≤ 1000000 := fun p _ => Nat.le_trans (earsE_len _ _ _ _ _) (by omega)
  have hhv : ∀ k, k < qs.length → ∃ p : Nat, qs.getD k 0 = p ∧ p < t.plots.length := fun k hk => by
    have hm : qs.getD k 0 ∈ qs := by rw [List.getD_eq_getElem?_getD, List.getElem?_eq_getElem hk]; exact List.getElem_mem _
    obtain ⟨p, e1, e2, _⟩ := mem_kindIdx.1 (HNM.out.all _ hm)
    exact ⟨p, e1, e2⟩
  have HAP := Lib.hid (fun W u S (h1 : ErR t.plots.length O (earsE t wind voice t.plots.length) W) (h3 : RdI W u S) (hSl : S.length ≤ 1000000) (hh : ∀ k, k < S.length → ∃ p : Nat, S.getD k 0 = p ∧ p < t.plots.length) => refApart_any t.plots.length O t.plots.length (earsE t wind voice t.plots.length) (by omega) hEl u S hSl hh W h1 h3)
  have HAS := Lib.hid (fun W (k : Nat) (h : RdI W (.slice a2 qs.length hcap) qs) => has_any (.slice a2 qs.length hcap) qs (k : Int) (by omega) W h)
  obtain ⟨i0, hi, hz0, hz1, hz2⟩ := info_parts A_info3
  clear hE hB HEA k0 k1 k2 hEl hhv
  go_wp2_with fail
  go_loopw [12, 13] (fun v i wr => ∃ k : Nat, i = .int .i64 k ∧ k ≤ t.plots.length ∧ wr.ownsRow w3.heap.size 3 1 v (sortP qs k).length ((sortP qs k).map (Value.int .i64)) ∧ Below w3.heap.size w3 wr) (fun _ i _ => t.plots.length - (intOf i).toNat)
  case atStart => exact ⟨0, rfl, Nat.zero_le _, own_none _ _ _ _, Below.refl _ _⟩
  case round =>
    obtain ⟨k, rfl, hk, hown, hB⟩ := hrel
    obtain ⟨wk, rfl⟩ : ∃ wk : World, wk = wr := ⟨_, rfl⟩
    have HO := Lib.hid hown
    have HBk := Lib.hid hB
    have hsz := hB.size
    have hsk := sortP_len qs k
    obtain ⟨k0, k1, k2⟩ := box33 HX0.out (join HB3.out hB)
    by_cases hlt : k < t.plots.length
    · have hlt' : (k : Int) < t.plots.length := by omega
      have HAK := Lib.hid (HAS.out wk k (HH.out.below (join HB3.out hB)))
      clear hown hB
      go_wp2_with fail
      refine HAK.out.mono ?_
      rintro e w4 ⟨rfl, rfl⟩
      cases hc : qs.contains (k : Int) with
      | true =>
        have HC := Lib.hid hc
        clear hc
        go_wp2_with (at_builtin; refine wpList_append_own _ rfl _ _ 31 rfl w3.heap.size 3 i0 (.int .i64 0) 1 8 A_und31 hi hz0 hz1 hz2 rfl (by decide) _ _ _ rfl (HO.out.alloc _) ⟨w4.heap.size, 0, none⟩ 1 1 [.int .i64 k] rfl rfl ?d1 ?d2 ?d3 ?d4 ?d5 ?_)
        case d1 =>
          intro j u hj
          match j, hj with
          | 0, hj => simp at hj; subst hj; simp [Addr.add]
        case d2 => intro u hu; simp at hu; subst hu; rfl
        case d3 => unfold maxLen; omega
        case d4 => omega
        case d5 => simp; omega
        intro v' w8 hown8 hgrow _
        have hB8 := below_grown (al2 HBk.out (by omega) _) (HO.out.alloc _) (Nat.le_refl _) (by simp; omega) hgrow
        have HO8 := Lib.hid hown8
        have HB8 := Lib.hid hB8
        clear hgrow hown8 hB8
        go_wp2_with fail
        go_roundw
        case rel =>
          refine ⟨k + 1, by simp, by omega, ?_, HB8.out⟩
          rw [sortP_yes HC.out, List.length_append, List.map_append]
          exact HO8.out
        case measure => simp [intOf]; omega
      | false =>
        have HC := Lib.hid hc
        clear hc
        go_wp2_with fail
        go_roundw
        case rel => exact ⟨k + 1, by simp, by omega, by rw [sortP_no HC.out]; exact HO.out, HBk.out⟩
        case measure => simp [intOf]; omega
    · obtain rfl : k = t.plots.length := by omega
      obtain ⟨SL, hS⟩ : ∃ SL, SL = sortP qs t.plots.length := ⟨_, rfl⟩
      have hSm : ∀ x ∈ SL, ∃ p : Nat, x = p ∧ p < t.plots.length := fun x hx => by
        rw [hS] at hx
        obtain ⟨p, a, b, _⟩ := sortP_mem hx
        exact ⟨p, a, b⟩
      have HSM := Lib.hid hSm
      rw [← hS] at HO hcl hs10 hsk
      have HSL := Lib.hid hS
      obtain ⟨sa, cs, e⟩ := own_slice HO.out
      subst e
      have hcs : SL.length ≤ cs := by
        rcases HO.out.2 with ⟨h1, h2⟩ | ⟨g, cp, cur, h1, _, _, hn, _⟩
        · omega
        · injection h1 with h1 h2 h3; omega
      have HRS := Lib.hid (RdI.own rfl rfl HO.out)
      clear hown hB hS hSm
      go_wp2_with fail
      go_loopw [14] (fun i wr => ∃ m : Nat, i = .int .i64 m ∧ c ≤ m ∧ m ≤ SL.length ∧ Below wk.heap.size wk wr) (fun i _ => (intOf i).toNat)
      case atStart => exact ⟨SL.length, rfl, hcl, Nat.le_refl _, Below.refl _ _⟩
      case round =>
        obtain ⟨m, rfl, hcm, hm, hB⟩ := hrel
        obtain ⟨wm, rfl⟩ : ∃ wm : World, wm = wr := ⟨_, rfl⟩
        have HBm := Lib.hid hB
        by_cases hm0 : 0 < m
        · obtain ⟨m1, rfl⟩ : ∃ m1, m = m1 + 1 := ⟨m - 1, by omega⟩
          have hm0' : (0 : Int) < ((m1 + 1 : Nat) : Int) := by omega
          have HLI := Lib.hid (Lists_any (m1 + 1) sa cs SL (by omega) (by omega) hcs wm (HRS.out.below hB))
          clear hB
          go_wp2_with fail
          refine HLI.out.mono ?_
          rintro e w7 ⟨v13, vs13, rfl, hL, hB⟩
          have HL7 := Lib.hid hL
          have HB7 := Lib.hid (join HBm.out hB)
          obtain ⟨a13, c13, rfl⟩ := own_slice hL.own
          obtain ⟨Ls, hLs⟩ : ∃ Ls, Ls = listsP (m1 + 1) SL := ⟨_, rfl⟩
          rw [← hLs] at HL7
          have hLn : Ls.length ≤ 1048576 := by rw [hLs]; exact Nat.le_trans (lists_many (m1 + 1) _) (Nat.le_trans (Nat.pow_le_pow_right (by omega) (show SL.length ≤ 20 by omega)) (by decide))
          have HLQ := Lib.hid hLs
          clear hL hB HLI
          rw [← hLs]
          clear hLs
          go_wp2_with fail
          go_loopw [16] (fun i wq => ∃ j : Nat, i = .int .i64 j ∧ j ≤ Ls.length ∧ (∀ j', j' < j → ¬ ApE (earsE t wind voice t.plots.length) (Ls.getD j' []) (m1 + 1)) ∧ Below w7.heap.size w7 wq) (fun i _ => Ls.length - (intOf i).toNat)
          case atStart => exact ⟨0, rfl, Nat.zero_le _, fun j hj => absurd hj (Nat.not_lt_zero _), Below.refl _ _⟩
          case round =>
            obtain ⟨j, rfl, hj, hno, hBq⟩ := hrel
            obtain ⟨wq, rfl⟩ : ∃ wq : World, wq = wr := ⟨_, rfl⟩
            have HNO := Lib.hid hno
            have HBq := Lib.hid hBq
            by_cases hjl : j < Ls.length
            · have hjl' : (j : Int) < Ls.length := by omega
              have hLq := HL7.out.below hBq
              obtain ⟨g, cg, hv, hgl, -, hcell⟩ := hLq.cell (by intro e; rw [e] at hjl; simp at hjl)
              injection hv with hv1 hv2 hv3
              subst hv1 hv3
              clear hv2
              have cu := hcell j hjl
              have hel := hLq.el j hjl
              obtain ⟨S, hS⟩ : ∃ S, S = Ls.getD j [] := ⟨_, rfl⟩
              obtain ⟨uv, huv⟩ : ∃ uv, uv = vs13.getD j (.slice none 0 0) := ⟨_, rfl⟩
              rw [← hS, ← huv] at hel
              rw [← huv] at cu
              have hm2 : S ∈ listsP (m1 + 1) SL := by rw [hS, ← HLQ.out, List.getD_eq_getElem?_getD, List.getElem?_eq_getElem hjl]; exact List.getElem_mem _
              have hSl : S.length = m1 + 1 := lists_len _ _ _ hm2
              have hSs := ((lists_mem _ _ _).1 hm2).1
              have hSr : ∀ k, k < S.length → ∃ p : Nat, S.getD k 0 = p ∧ p < t.plots.length := fun k hk => by
                have hmk : S.getD k 0 ∈ S := by rw [List.getD_eq_getElem?_getD, List.getElem?_eq_getElem hk]; exact List.getElem_mem _
                exact HSM.out _ (hSs.subset hmk)
              have hrs := RdI.own rfl rfl hel.1
              have HSQ := Lib.hid (HAP.out wq uv S ((HE.out.below (join HBk.out HB7.out)).below hBq) hrs (by omega) hSr)
              rw [hSl] at HSQ
              obtain ⟨ua, uc, huq⟩ := own_slice hel.1
              subst huq
              have HRSv := Lib.hid hrs
              have HSS := Lib.hid hS
              have HSLE := Lib.hid hSl
              clear hS huv hel hrs hno hBq hLq hcell hm2 hSs hSr hSl
              go_wp2_with fail
              refine HSQ.out.mono ?_
              rintro e w9 ⟨ab, rfl, hab, hB⟩
              have HB9 := Lib.hid (join HBq.out hB)
              have cu9 : w9.cell? ⟨g, j, none⟩ = some (.slice ua S.length uc) := (World.cell?_of_block (a := ⟨g, j, none⟩) (hB.block g hgl)).trans cu
              have hgl9 : g < w9.heap.size := Nat.lt_of_lt_of_le hgl hB.size
              have HRSv := Lib.hid (HRSv.out.below hB)
              have HAB := Lib.hid hab
              clear hB HSQ cu hgl hab
              cases ab with
              | true =>
                have hAS := HAB.out.1 rfl
                have hmc : m1 + 1 = c := by
                  false_or_by_contra
                  exact HF.out.more (m1 + 1) (by omega) j (by rw [← HSL.out, ← HLQ.out]; exact hjl) (by rw [← HSL.out, ← HLQ.out, ← HSS.out]; exact hAS)
                have hX : S = X := by
                  rw [HSS.out, HLQ.out, HSL.out]
                  rw [hmc] at HLQ HNO hAS ⊢
                  exact HF.out.first j (by rw [← HSL.out, ← HLQ.out]; exact hjl) (by rw [← HSL.out, ← HLQ.out, ← HSS.out]; exact hAS) (fun j' hj' => by rw [← HSL.out, ← HLQ.out]; exact HNO.out j' hj')
                have HXS := Lib.hid hX
                clear hmc hX hAS
                go_wp2_with fail
                go_ret2
                refine ⟨.slice ua S.length uc, rfl, join HB.out (join HB3.out (join HBk.out (join HB7.out HB9.out))), ?_⟩
                rw [← HXS.out]
                exact HRSv.out
              | false =>
                have hE2 : ¬ ApE (earsE t wind voice t.plots.length) S (m1 + 1) := fun h => by have := HAB.out.2 h; cases this
                have HE2 := Lib.hid hE2
                clear hE2
                go_wp2_with fail
                go_roundw
                case rel =>
                  refine ⟨j + 1, by simp, by omega, fun j' hj' => ?_, HB9.out⟩
                  by_cases e : j' = j
                  · rw [e, ← HSS.out]; exact HE2.out
                  · exact HNO.out j' (by omega)
                case measure => simp [intOf]; omega
            · obtain rfl : j = Ls.length := by omega
              have hmc : m1 + 1 ≠ c := fun e => by
                obtain ⟨j, hj1, hj2⟩ := HF.out.ex
                rw [← e, ← HSL.out, ← HLQ.out] at hj1 hj2
                exact HNO.out j hj1 hj2
              clear hno hBq
              go_wp2_with fail
              go_roundw
              case rel => exact ⟨m1, by simp, by omega, by omega, join HB7.out HBq.out⟩
              case measure => simp [intOf]
        · obtain rfl : m = 0 := by omega
          have hX := HF.out.zero (by omega)
          clear hB
          go_wp2_with fail
          go_ret2
          refine ⟨.slice none 0 0, rfl, join HB.out (join HB3.out (join HBk.out HBm.out)), ?_⟩
          rw [hX]
          exact ⟨by simp, none, 0, rfl, fun h => absurd rfl h⟩
end Go.Proofs.Ytimedmkpenbmkaa
end
section
namespace Go.Proofs.Ytimedmkpenbmkaa
open Go.RowKit Go.Shelf
set_option linter.unusedSimpArgs false
set_option linter.unusedVariables false
def AnsL (e : Ending) (W w' : World) (E : Int) (L : List Int) : Prop := ∃ v, e = .returned (.tuple #[v, .int .i64 E]) ∧ Below W.heap.size W w' ∧ RdI w' v L
def PairL (f g : FuncId) (wd : Int) (xs : List Int) (wind voice : Int) (qs : List Int) (E : Int) (L : List Int) : Prop :=
  (∀ a cap a2 hcap W, RdI W (.slice a xs.length cap) xs → RdI W (.slice a2 qs.length hcap) qs → Calls Try.prog f #[.agg #[.int .i64 wd, .slice a xs.length cap], .agg #[.int .i64 wind, .int .i64 voice], .slice a2 qs.length hcap] W fun e w' => AnsL e W w' E L) ∧
  (∀ a cap a2 hcap W, qs.length ≤ hcap → RdI W (.slice a xs.length cap) xs → RdI W (.slice a2 qs.length hcap) qs → Calls Try.prog g #[.agg #[.int .i64 wd, .slice a xs.length cap], .int .i64 wind, .int .i64 voice, .slice a2 qs.length hcap] W fun e w' => AnsL e W w' E L)
theorem rd_nil (W : World) : RdI W (.slice none 0 0) [] := ⟨by simp, none, 0, rfl, fun h => absurd rfl h⟩
theorem AnsL.nil {e : Ending} {W w' : World} {E : Int} (h : e = .returned (.tuple #[.slice none 0 0, .int .i64 E]) ∧ Below W.heap.size W w') : AnsL e W w' E [] := ⟨_, h.1, h.2, rd_nil _⟩
/-- a quarter without errors: its town -/
theorem quarter_town {wd : Int} {xs : List Int} {wind voice : Int} {qs : List Int} (h : quarterE wd xs wind voice qs = 0) : ∃ t : Hr.Town, (t.wide : Int) = wd ∧ t.plots = xs ∧ Named t qs ∧ airErr wind voice = 0 := by
  have h1 : checkErr wd xs = 0 := by
    unfold quarterE at h
    by_cases h0 : openErr wd xs wind voice = 0
    · exact (openErr_ok h0).1
    · rw [if_pos h0] at h; exact absurd h h0
  obtain ⟨t, -, hw, hx, ok⟩ := town_name h1
  subst hw hx
  obtain ⟨a, b⟩ := quarter_named ok h
  exact ⟨t, rfl, rfl, a, b⟩
theorem plots_some {t : Hr.Town} {qs : List Int} (h : Named t qs) {W : World} {a : Option Addr} {cap : Nat} (hR : RdI W (.slice a t.plots.length cap) t.plots) : ∃ b o, a = some ⟨b, o, none⟩ := by
  have hne : t.plots ≠ [] := by intro e; have := (check_len h.chk).2; rw [e] at this; simp at this
  obtain ⟨b, o, e, -, -⟩ := rd_ints hR hne
  exact ⟨b, o, e⟩
theorem fewest_pair (wd : Int) (xs : List Int) (hl : xs.length ≤ 1000000) (hSt : xs.length ≤ 30 → (kindIdx xs 0).length ≤ 20) (wind voice : Int) (qs : List Int) (hq : qs.length ≤ 1000000) : ∃ E L, PairL 46 47 wd xs wind voice qs E L := by
  by_cases h0 : quarterE wd xs wind voice qs = 0
  · obtain ⟨t, rfl, rfl, hN, ha⟩ := quarter_town h0
    refine ⟨firstE (lis t wind voice (inL qs)), if firstE (lis t wind voice (inL qs)) = 0 then (chooseP (lis t wind voice (inL qs)) 30).1 else [], ⟨fun a cap a2 hcap W hR hH => ?_, fun a cap a2 hcap W hc hR hH => ?_⟩⟩
    · obtain ⟨b, o, rfl⟩ := plots_some hN hR
      obtain ⟨hI, hOQ⟩ := named_OQ hN wind voice ha b o cap a2 hcap W hR hH
      obtain ⟨w0, w4, v1, v40⟩ := wind_ok ha
      obtain ⟨-, hnl, hl⟩ := lis_named hN.ok wind voice hN.all hN.nd
      refine (Fewest_ok t hN.ok wind voice w0 w4 b o cap _ (qN t qs) hnl W hI hOQ).mono ?_
      rintro e w' ⟨v, rfl, hB, h1, h2⟩
      change lis t wind voice ((qN t qs).getD · false) = _ at hl
      rw [hl] at h1 h2 ⊢
      refine ⟨v, rfl, hB, ?_⟩
      by_cases hf : firstE (lis t wind voice (inL qs)) = 0
      · rw [if_pos hf]; exact RdI.own rfl rfl (h2 hf)
      · rw [if_neg hf, h1 hf]; exact rd_nil _
    · obtain ⟨b, o, rfl⟩ := plots_some hN hR
      exact RefFewest_ok t hN.ok wind voice b o cap a2 hcap qs hc (hSt hN.ok.n30) W hR hH h0
  · refine ⟨quarterE wd xs wind voice qs, [], ⟨fun a cap a2 hcap W hR hH => ?_, fun a cap a2 hcap W hc hR hH => ?_⟩⟩
    · exact (Fewest_err wd wind voice _ _ _ W (oq_err wd wind voice a a2 cap hcap xs qs hl W hR hH h0)).mono fun e w' h => AnsL.nil h
    · exact (RefFewest_err wd a cap xs hl wind voice a2 hcap qs hq hc W hR hH h0).mono fun e w' h => AnsL.nil h
theorem must_pair (wd : Int) (xs : List Int) (hl : xs.length ≤ 1000000) (hSt : xs.length ≤ 30 → (kindIdx xs 0).length ≤ 20) (wind voice : Int) (qs : List Int) (hq : qs.length ≤ 1000000) : ∃ E L, PairL 48 49 wd xs wind voice qs E L := by
  by_cases h0 : quarterE wd xs wind voice qs = 0
  · obtain ⟨t, rfl, rfl, hN, ha⟩ := quarter_town h0
    refine ⟨firstE (lis t wind voice (inL qs)), if firstE (lis t wind voice (inL qs)) = 0 then mustTo (lis t wind voice (inL qs)) t.plots.length else [], ⟨fun a cap a2 hcap W hR hH => ?_, fun a cap a2 hcap W hc hR hH => ?_⟩⟩
    · obtain ⟨b, o, rfl⟩ := plots_some hN hR
      obtain ⟨hI, hOQ⟩ := named_OQ hN wind voice ha b o cap a2 hcap W hR hH
      obtain ⟨w0, w4, v1, v40⟩ := wind_ok ha
      obtain ⟨-, hnl, hl⟩ := lis_named hN.ok wind voice hN.all hN.nd
      refine (Must_ok t hN.ok wind voice w0 w4 b o cap _ (qN t qs) hnl W hI hOQ).mono ?_
      rintro e w' ⟨v, rfl, hB, h1, h2⟩
      change lis t wind voice ((qN t qs).getD · false) = _ at hl
      rw [hl] at h1 h2 ⊢
      refine ⟨v, rfl, hB, ?_⟩
      by_cases hf : firstE (lis t wind voice (inL qs)) = 0
      · rw [if_pos hf]; exact RdI.own rfl rfl (h2 hf)
      · rw [if_neg hf, h1 hf]; exact rd_nil _
    · obtain ⟨b, o, rfl⟩ := plots_some hN hR
      exact RefMust_ok t hN.ok wind voice b o cap a2 hcap qs hc (hSt hN.ok.n30) W hR hH h0
  · refine ⟨quarterE wd xs wind voice qs, [], ⟨fun a cap a2 hcap W hR hH => ?_, fun a cap a2 hcap W hc hR hH => ?_⟩⟩
    · exact (Must_err wd wind voice _ _ _ W (oq_err wd wind voice a a2 cap hcap xs qs hl W hR hH h0)).mono fun e w' h => AnsL.nil h
    · exact (RefMust_err wd a cap xs hl wind voice a2 hcap qs hq hc W hR hH h0).mono fun e w' h => AnsL.nil h
theorem apart_pair (wd : Int) (xs : List Int) (hl : xs.length ≤ 1000000) (wind voice : Int) (qs : List Int) (hq : qs.length ≤ 1000000) : ∃ E L, PairL 50 51 wd xs wind voice qs E L := by
  by_cases h0 : quarterE wd xs wind voice qs = 0
  · obtain ⟨t, rfl, rfl, hN, ha⟩ := quarter_town h0
    refine ⟨0, natI (apartP (lis t wind voice (inL qs))), ⟨fun a cap a2 hcap W hR hH => ?_, fun a cap a2 hcap W hc hR hH => ?_⟩⟩
    · obtain ⟨b, o, rfl⟩ := plots_some hN hR
      exact Apart_n hN wind voice ha b o cap a2 hcap W hR hH
    · obtain ⟨b, o, rfl⟩ := plots_some hN hR
      exact RefApart_ok t hN.ok wind voice b o cap a2 hcap qs hc W hR hH h0
  · refine ⟨quarterE wd xs wind voice qs, [], ⟨fun a cap a2 hcap W hR hH => ?_, fun a cap a2 hcap W hc hR hH => ?_⟩⟩
    · exact (Apart_err wd wind voice _ _ _ W (oq_err wd wind voice a a2 cap hcap xs qs hl W hR hH h0)).mono fun e w' h => AnsL.nil h
    · exact (RefApart_err wd a cap xs hl wind voice a2 hcap qs hq hc W hR hH h0).mono fun e w' h => AnsL.nil h
end Go.Proofs.Ytimedmkpenbmkaa
end
section
namespace Go.Proofs.Ytimedmkpenbmkaa.Rg
open Go
theorem GrowL.skip {P : Program} {G : World → World → Prop} {o : Oper} {ρ : Operand → Value} {w w' : World} {Φ : Value → World → Prop} (h : (execOp ρ o).run P w = .ok .skip w') (hg : G w w') (hv : Φ undef w') : GrowL G P o ρ w Φ := by
  unfold GrowL; rw [h]; exact ⟨hg, hv⟩
end Go.Proofs.Ytimedmkpenbmkaa.Rg
namespace Go.Proofs.Ytimedmkpenbmkaa
open Go.RowKit Go.Shelf
set_option linter.unusedSimpArgs false
set_option linter.unusedVariables false
def Box2 (T e : TypeId) : Prop := T = 24 ∧ e = 102 ∨ T = 33 ∧ e = 3
/-- worlds go on: what was there stays, but for boxes behind B, which may be filled with a town -/
structure Bx (wd : Int) (xs : List Int) (B : Nat) (a b : World) : Prop where
  os : b.os = a.os
  tape : b.tape = a.tape
  output : b.output = a.output
  size : a.heap.size ≤ b.heap.size
  same : ∀ k, k < a.heap.size → b.heap[k]? = a.heap[k]? ∨ (B ≤ k ∧ ∃ T e u cs, Box2 T e ∧ a.heap[k]? = some (.cells cs T (0, 0)) ∧ b.heap[k]? = some (.cells #[.int .i64 wd, u] T (0, 0)) ∧ b.ownsRow B e 1 u xs.length (xs.map (Value.int .i64)))
theorem Bx.of_gr {wd : Int} {xs : List Int} {B : Nat} {a b : World} (h : Below a.heap.size a b) : Bx wd xs B a b := ⟨h.os, h.tape, h.output, h.size, fun k hk => .inl (h.block k hk)⟩
theorem Bx.low {wd : Int} {xs : List Int} {B : Nat} {a b : World} (h : Bx wd xs B a b) (hB : B ≤ a.heap.size) : Below B a b := ⟨h.os, h.tape, h.output, h.size, fun k hk => by
  rcases h.same k (by omega) with e | ⟨e, _⟩
  · exact e
  · omega⟩
theorem Bx.row {wd : Int} {xs : List Int} {B B0 : Nat} {a b : World} (h : Bx wd xs B a b) {e : TypeId} (he : e = 102 ∨ e = 3) {v : Value} {n : Nat} {l : List Value} (ho : a.ownsRow B0 e 1 v n l) : b.ownsRow B0 e 1 v n l := by
  refine ⟨ho.1, ?_⟩
  rcases ho.2 with h1 | ⟨g, cap, cur, h1, h2, h3, h4⟩
  · exact .inl h1
  · refine .inr ⟨g, cap, cur, h1, h2, ?_, h4⟩
    rcases h.same g (Array.getElem?_eq_some_iff.1 h3).1 with e1 | ⟨_, T, e', u, cs, hT, e1, _⟩
    · rw [e1]; exact h3
    · rw [h3] at e1
      injection e1 with e1
      injection e1 with _ e1
      rcases hT with ⟨rfl, _⟩ | ⟨rfl, _⟩ <;> rcases he with rfl | rfl <;> cases e1
theorem Box2.ty {T e : TypeId} (h : Box2 T e) : e = 102 ∨ e = 3 := h.imp And.right And.right
theorem Bx.isGr (wd : Int) (xs : List Int) (B : Nat) : Rg.IsGr (Bx wd xs B) where
  refl w := .of_gr (Below.refl _ _)
  drew w := .of_gr ((Below.refl _ _).drew)
  trans {a b c} h k := ⟨k.os.trans h.os, k.tape.trans h.tape, k.output.trans h.output, Nat.le_trans h.size k.size, fun i hi => by
    rcases k.same i (Nat.lt_of_lt_of_le hi h.size) with e1 | ⟨hB, T, e, u, cs, hT, e1, e2, e3⟩
    · rcases h.same i hi with e2 | ⟨hB, T, e, u, cs, hT, e2, e3, e4⟩
      · exact .inl (e1.trans e2)
      · exact .inr ⟨hB, T, e, u, cs, hT, e2, e1.trans e3, k.row hT.ty e4⟩
    · rcases h.same i hi with e4 | ⟨_, T', e', u', cs', hT', e4, e5, _⟩
      · exact .inr ⟨hB, T, e, u, cs, hT, e4.symm.trans e1, e2, e3⟩
      · rw [e5] at e1
        injection e1 with e1
        injection e1 with _ e1
        subst e1
        exact .inr ⟨hB, T', e, u, cs', hT, e4, e2, e3⟩⟩
/-- a box is filled -/
theorem Bx.fill {wd : Int} {xs : List Int} {B p : Nat} {a : World} {T e : TypeId} {c0 c1 u : Value} (hT : Box2 T e) (hp : B ≤ p) (hb : a.heap[p]? = some (.cells #[c0, c1] T (0, 0))) (ho : a.ownsRow B e 1 u xs.length (xs.map (Value.int .i64))) :
    Bx wd xs B a ((a.setCell ⟨p, 0, none⟩ (.int .i64 wd)).setCell ⟨p, 1, none⟩ u) ∧ ((a.setCell ⟨p, 0, none⟩ (.int .i64 wd)).setCell ⟨p, 1, none⟩ u).heap[p]? = some (.cells #[.int .i64 wd, u] T (0, 0)) ∧ ((a.setCell ⟨p, 0, none⟩ (.int .i64 wd)).setCell ⟨p, 1, none⟩ u).ownsRow B e 1 u xs.length (xs.map (Value.int .i64)) := by
  have h1 := heap_set_same (o := 0) (.int .i64 wd) hb
  have h2 := heap_set_same (o := 1) u h1
  have h3 : ((a.setCell ⟨p, 0, none⟩ (.int .i64 wd)).setCell ⟨p, 1, none⟩ u).heap[p]? = some (.cells #[.int .i64 wd, u] T (0, 0)) := h2
  have hne : ∀ g, u.ownBlock = some g → g ≠ p := fun g hg e2 => by
    rcases ho.2 with ⟨g1, _⟩ | ⟨g', cap, cur, g1, _, g3, _⟩
    · rw [g1] at hg; cases hg
    · rw [g1] at hg
      injection hg with hg
      simp only at hg
      rw [hg, e2, hb] at g3
      injection g3 with g3
      injection g3 with _ g3
      rcases hT with ⟨rfl, rfl⟩ | ⟨rfl, rfl⟩ <;> cases g3
  have hk : ∀ (W : World) (o : Nat) (x : Value), W.ownsRow B e 1 u xs.length (xs.map (Value.int .i64)) → (W.setCell ⟨p, o, none⟩ x).ownsRow B e 1 u xs.length (xs.map (Value.int .i64)) := fun W o x h => by
    refine h.kept (grown_set W p o x) ?_
    cases hu : u.ownBlock with
    | none => exact .inl rfl
    | some g => exact .inr (fun e2 => by injection e2 with e2; exact hne g hu e2)
  refine ⟨⟨rfl, rfl, rfl, by simp, fun k hk' => ?_⟩, h3, hk _ _ _ (hk _ _ _ ho)⟩
  by_cases e2 : k = p
  · subst e2
    exact .inr ⟨hp, T, e, u, _, hT, hb, h3, hk _ _ _ (hk _ _ _ ho)⟩
  · exact .inl ((Below.heap_setCell _ _ _ _ e2).trans (Below.heap_setCell _ _ _ _ e2))
end Go.Proofs.Ytimedmkpenbmkaa
end
section
namespace Go.Proofs.Ytimedmkpenbmkaa
open Go.RowKit Go.Shelf
set_option linter.unusedSimpArgs false
set_option linter.unusedVariables false
/-- what stands in the law: both towns in their boxes, the houses twice, what was passed in in its boxes -/
structure Ho7 (wd : Int) (xs qs : List Int) (sv qv mv : Value) (wind voice : Int) (c7 : Nat) (u7 : Value) (c8 : Nat) (u8 : Value) (w W : World) : Prop where
  lw : LwT wd xs c7 u7 c8 u8 W
  x0 : W.heap[w.heap.size]? = some (.cells #[.int .i64 wd, sv] 24 (0, 0))
  x1 : W.heap[w.heap.size + 1]? = some (.cells #[.int .i64 wind, .int .i64 voice] 27 (0, 0))
  rs : RdI W sv xs
  rq : RdI W qv qs
  rm : RdI W mv qs
  bel : Below w.heap.size w W
theorem Ho7.below {wd : Int} {xs qs : List Int} {sv qv mv : Value} {wind voice : Int} {c7 : Nat} {u7 : Value} {c8 : Nat} {u8 : Value} {w W W' : World} (h : Ho7 wd xs qs sv qv mv wind voice c7 u7 c8 u8 w W) (hB : Below W.heap.size W W') : Ho7 wd xs qs sv qv mv wind voice c7 u7 c8 u8 w W' :=
  ⟨h.lw.below hB, (hB.block _ (Array.getElem?_eq_some_iff.1 h.x0).1).trans h.x0, (hB.block _ (Array.getElem?_eq_some_iff.1 h.x1).1).trans h.x1, h.rs.below hB, h.rq.below hB, h.rm.below hB, join h.bel hB⟩
theorem Ho7.cs {wd : Int} {xs qs : List Int} {sv qv mv : Value} {wind voice : Int} {c7 : Nat} {u7 : Value} {c8 : Nat} {u8 : Value} {w W : World} (h : Ho7 wd xs qs sv qv mv wind voice c7 u7 c8 u8 w W) :
    W.cell? ⟨c7, 0, none⟩ = some (.int .i64 wd) ∧ W.cell? ⟨c7, 1, none⟩ = some u7 ∧ W.cell? ⟨c8, 0, none⟩ = some (.int .i64 wd) ∧ W.cell? ⟨c8, 1, none⟩ = some u8 ∧ W.cell? ⟨w.heap.size + 1, 0, none⟩ = some (.int .i64 wind) ∧ W.cell? ⟨w.heap.size + 1, 1, none⟩ = some (.int .i64 voice) ∧ W.cell? ⟨w.heap.size, 0, none⟩ = some (.int .i64 wd) ∧ W.cell? ⟨w.heap.size, 1, none⟩ = some sv ∧ c7 < W.heap.size ∧ c8 < W.heap.size ∧ w.heap.size + 1 < W.heap.size := by
  obtain ⟨⟨a, b⟩, c, d⟩ := h.lw.cs
  obtain ⟨e, f⟩ := blk_cells2 h.x1
  obtain ⟨g, i⟩ := blk_cells2 h.x0
  exact ⟨a, b, c, d, e, f, g, i, (Array.getElem?_eq_some_iff.1 h.lw.b7).1, (Array.getElem?_eq_some_iff.1 h.lw.b8).1, (Array.getElem?_eq_some_iff.1 h.x1).1⟩
def spF3 (wd : Int) (sv : Value) (xs : List Int) (qv : Value) (qs : List Int) (wind : Int) (C1 B : Nat) : Nat → List Value → Value → World → Prop
  | 0, _, v, _ => v = .agg #[.int .i64 wd, sv]
  | 1, L, v, w => ∃ u, v = .agg #[.int .i64 wd, u] ∧ w.ownsRow B 102 1 u xs.length (xs.map (Value.int .i64))
  | 2, _, v, _ => v = qv
  | 3, L, v, w => w.ownsRow B 3 1 v qs.length (qs.map (Value.int .i64))
  | 4, _, v, _ => v = .agg #[.int .i64 wd, sv]
  | 5, L, v, w => ∃ u, v = .agg #[.int .i64 wd, u] ∧ w.ownsRow B 3 1 u xs.length (xs.map (Value.int .i64))
  | 6, _, v, _ => v = .pointer (some ⟨C1, 0, none⟩)
  | 7, _, v, _ => v = .int .i64 wind
  | 8, L, v, w => ∃ p c0 c1, v = .pointer (some ⟨p, 0, none⟩) ∧ B ≤ p ∧ w.heap[p]? = some (.cells #[c0, c1] 24 (0, 0))
  | 9, L, v, w => ∃ p c0 c1, v = .pointer (some ⟨p, 0, none⟩) ∧ B ≤ p ∧ w.heap[p]? = some (.cells #[c0, c1] 33 (0, 0))
  | 10, L, v, w => ∃ p u, L.getD 6 undef = .pointer (some ⟨p, 0, none⟩) ∧ w.heap[p]? = some (.cells #[.int .i64 wd, u] 24 (0, 0)) ∧ w.ownsRow B 102 1 u xs.length (xs.map (Value.int .i64))
  | 11, L, v, w => w.ownsRow B 3 1 v qs.length (qs.map (Value.int .i64))
  | 12, L, v, w => ∃ p u, L.getD 7 undef = .pointer (some ⟨p, 0, none⟩) ∧ w.heap[p]? = some (.cells #[.int .i64 wd, u] 33 (0, 0)) ∧ w.ownsRow B 3 1 u xs.length (xs.map (Value.int .i64))
  | 13, _, v, _ => v = .int .i64 wind
  | _, _, _, _ => False
theorem spF3_stable (wd : Int) (sv : Value) (xs : List Int) (qv : Value) (qs : List Int) (wind : Int) (C1 B : Nat) : ∀ i L v w w', spF3 wd sv xs qv qs wind C1 B i L v w → Bx wd xs B w w' → spF3 wd sv xs qv qs wind C1 B i L v w' := by
  intro i L v w w' h hg
  match i with
  | 0 => exact h
  | 1 => obtain ⟨u, h1, h2⟩ := h; exact ⟨u, h1, hg.row (.inl rfl) h2⟩
  | 2 => exact h
  | 3 => exact hg.row (.inr rfl) h
  | 4 => exact h
  | 5 => obtain ⟨u, h1, h2⟩ := h; exact ⟨u, h1, hg.row (.inr rfl) h2⟩
  | 6 => exact h
  | 7 => exact h
  | 8 => 
    obtain ⟨p, c0, c1, h1, h2, h3⟩ := h
    rcases hg.same p (Array.getElem?_eq_some_iff.1 h3).1 with e | ⟨_, T, e, u, cs, hT, e1, e2, _⟩
    · exact ⟨p, c0, c1, h1, h2, e.trans h3⟩
    · rw [h3] at e1; injection e1 with e1; injection e1 with _ e1; subst e1; exact ⟨p, _, u, h1, h2, e2⟩
  | 9 => 
    obtain ⟨p, c0, c1, h1, h2, h3⟩ := h
    rcases hg.same p (Array.getElem?_eq_some_iff.1 h3).1 with e | ⟨_, T, e, u, cs, hT, e1, e2, _⟩
    · exact ⟨p, c0, c1, h1, h2, e.trans h3⟩
    · rw [h3] at e1; injection e1 with e1; injection e1 with _ e1; subst e1; exact ⟨p, _, u, h1, h2, e2⟩
  | 10 => 
    obtain ⟨p, u, h1, h2, h3⟩ := h
    rcases hg.same p (Array.getElem?_eq_some_iff.1 h2).1 with e | ⟨_, T, e, u', cs, hT, e1, e2, e3⟩
    · exact ⟨p, u, h1, e.trans h2, hg.row (.inl rfl) h3⟩
    · rw [h2] at e1; injection e1 with e1; injection e1 with _ e1; subst e1
      rcases hT with ⟨h4, h5⟩ | ⟨h4, h5⟩ <;> first | (cases h4; done) | (subst h5; exact ⟨p, u', h1, e2, e3⟩)
  | 11 => exact hg.row (.inr rfl) h
  | 12 => 
    obtain ⟨p, u, h1, h2, h3⟩ := h
    rcases hg.same p (Array.getElem?_eq_some_iff.1 h2).1 with e | ⟨_, T, e, u', cs, hT, e1, e2, e3⟩
    · exact ⟨p, u, h1, e.trans h2, hg.row (.inr rfl) h3⟩
    · rw [h2] at e1; injection e1 with e1; injection e1 with _ e1; subst e1
      rcases hT with ⟨h4, h5⟩ | ⟨h4, h5⟩ <;> first | (cases h4; done) | (subst h5; exact ⟨p, u', h1, e2, e3⟩)
  | 13 => exact h
set_option maxHeartbeats 8000000 in
set_option maxRecDepth 100000 in
theorem HearFewest_any (wd : Int) (a : Option Addr) (cap : Nat) (xs : List Int) (wind voice : Int) (a2 : Option Addr) (hcap : Nat) (qs : List Int) (hc : qs.length ≤ hcap) (w : World) (hR : RdI w (.slice a xs.length cap) xs) (hQ : RdI w (.slice a2 qs.length hcap) qs) :
    Calls Try.prog 7 #[.agg #[.int .i64 wd, .slice a xs.length cap], .agg #[.int .i64 wind, .int .i64 voice], .slice a2 qs.length hcap] w fun e w' => e = .returned (.bool true) ∧ Below w.heap.size w w' := by
  have HR := Lib.hid hR
  have HQ := Lib.hid hQ
  have HB0 := Lib.hid (al (below1 w (.cells #[.int .i64 wd, .slice a xs.length cap] 24)) (.cells #[.int .i64 wind, .int .i64 voice] 27))
  have hx0 : ((w.alloc (.cells #[.int .i64 wd, .slice a xs.length cap] 24)).alloc (.cells #[.int .i64 wind, .int .i64 voice] 27)).heap[w.heap.size]? = some (.cells #[.int .i64 wd, .slice a xs.length cap] 24 (0, 0)) := (Below.heap_alloc _ _ _ (by simp)).trans (heap_alloc_last _ _)
  have hx1 : ((w.alloc (.cells #[.int .i64 wd, .slice a xs.length cap] 24)).alloc (.cells #[.int .i64 wind, .int .i64 voice] 27)).heap[w.heap.size + 1]? = some (.cells #[.int .i64 wind, .int .i64 voice] 27 (0, 0)) := by
    have := heap_alloc_last (w.alloc (.cells #[.int .i64 wd, .slice a xs.length cap] 24)) (.cells #[.int .i64 wind, .int .i64 voice] 27); simpa using this
  have HX0 := Lib.hid hx0
  have HX1 := Lib.hid hx1
  have hl9 : xs.length ≤ 9223372036854775807 := hR.1
  have hq9 : qs.length ≤ 9223372036854775807 := hQ.1
  have HG := Lib.hid (fun W (h : RdI W (.slice a xs.length cap) xs) => manyS_any wd a cap xs hl9 11 W h)
  have HR1 := Lib.hid (hR.below HB0.out)
  clear hR hQ hx0 hx1
  obtain ⟨mb, hmb⟩ : ∃ mb, manyB xs 11 = mb := ⟨_, rfl⟩
  rw [hmb] at HG
  cases mb with
  | true =>
    clear hmb
    go_enter Try.func7, Try.ntmps7
    go_wp2_with fail
    refine (HG.out _ HR1.out).mono ?_
    rintro e w1 ⟨rfl, hB⟩
    have HB1 := Lib.hid (join HB0.out hB)
    clear hB
    go_wp2_with fail
    refine (awake_any w1).mono ?_
    rintro e w2 ⟨rfl, hB⟩
    have HB2 := Lib.hid (join HB1.out hB)
    clear hB
    go_wp2
    go_ret
    exact ⟨rfl, HB2.out⟩
  | false =>
  by_cases hg12 : 12 < qs.length
  · have hg : (12 : Int) < (qs.length : Int) := by omega
    clear hmb
    go_enter Try.func7, Try.ntmps7
    go_wp2_with fail
    refine (HG.out _ HR1.out).mono ?_
    rintro e w1 ⟨rfl, hB⟩
    have HB1 := Lib.hid (join HB0.out hB)
    clear hB
    go_wp2_with fail
    refine (awake_any w1).mono ?_
    rintro e w2 ⟨rfl, hB⟩
    have HB2 := Lib.hid (join HB1.out hB)
    clear hB
    go_wp2
    go_ret
    exact ⟨rfl, HB2.out⟩
  · have hg : ¬ (12 : Int) < (qs.length : Int) := by omega
    have hl : xs.length ≤ 1000000 := by
      unfold manyB at hmb
      rw [Bool.or_eq_false_iff, decide_eq_false_iff_not] at hmb
      omega
    have hSt : xs.length ≤ 30 → (kindIdx xs 0).length ≤ 20 := fun h30 => by
      unfold manyB at hmb
      rw [Bool.or_eq_false_iff, Bool.and_eq_false_iff, decide_eq_false_iff_not, decide_eq_false_iff_not, decide_eq_false_iff_not] at hmb
      omega
    obtain ⟨E1, L1, P1⟩ := fewest_pair wd xs hl hSt wind voice qs (by omega)
    obtain ⟨E2, L2, P2⟩ := must_pair wd xs hl hSt wind voice qs (by omega)
    obtain ⟨E3, L3, P3⟩ := apart_pair wd xs hl wind voice qs (by omega)
    have C1 := Lib.hid P1.1
    have R1 := Lib.hid P1.2
    have C2 := Lib.hid P2.1
    have R2 := Lib.hid P2.2
    have C3 := Lib.hid P3.1
    have R3 := Lib.hid P3.2
    clear P1 P2 P3 hmb hSt
    go_enter Try.func7, Try.ntmps7
    go_wp2_with fail
    refine (HG.out _ HR1.out).mono ?_
    rintro e w1 ⟨rfl, hB⟩
    have HX0 := (hB.block w.heap.size (by simp; omega)).trans HX0.out
    have HX1 := (hB.block (w.heap.size + 1) (by simp)).trans HX1.out
    have HZ0 : w.heap.size < w1.heap.size := (Array.getElem?_eq_some_iff.1 HX0).1
    have HZ1 : w.heap.size + 1 < w1.heap.size := (Array.getElem?_eq_some_iff.1 HX1).1
    have HB := Lib.hid (join HB0.out hB)
    clear hB HB0
    go_wp2_with fail
    refine Rg.region_gen (Bx.isGr wd xs w1.heap.size) 14 [[], [0], [], [0, 1, 2], [], [0, 1, 2, 3, 4], [], [6], [], [], [0, 1, 2, 3, 4, 5, 8, 9], [0, 1, 2, 3, 4, 5, 8, 9, 10], [0, 1, 2, 3, 4, 5, 8, 9, 10, 11], [0, 1, 2, 3, 4, 5, 6, 7, 8, 9, 10, 11, 12]] [some 23, some 24, some 25, some 26, some 27, some 28, some 29, some 30, some 7, some 9, none, some 8, none, some 10] (spF3 wd (.slice a xs.length cap) xs (.slice a2 qs.length hcap) qs wind (w.heap.size + 1) w1.heap.size) (by kernel_rfl) (by kernel_rfl) rfl (spF3_stable _ _ _ _ _ _ _ _) ?_ ?_
    · refine ⟨fun V w' hG hs => ?_, fun V w' hG hs => ?_, fun V w' hG hs => ?_, fun V w' hG hs => ?_, fun V w' hG hs => ?_, fun V w' hG hs => ?_, fun V w' hG hs => ?_, fun V w' hG hs => ?_, fun V w' hG hs => ?_, fun V w' hG hs => ?_, fun V w' hG hs => ?_, fun V w' hG hs => ?_, fun V w' hG hs => ?_, fun V w' hG hs => ?_, trivial⟩
      all_goals
        have hGb := hG.low (Nat.le_refl _)
        obtain ⟨k0, k1⟩ := blk_cells2 ((hGb.block w.heap.size HZ0).trans HX0)
        obtain ⟨k4, k5⟩ := blk_cells2 ((hGb.block (w.heap.size + 1) HZ1).trans HX1)
      · rw [if_pos (by rfl)]
        exact Rg.GrowL.value (v := .agg #[.int .i64 wd, (.slice a xs.length cap)]) (w' := w') (by simp [go_sem, Rs.look, k0, k1]) ((Bx.isGr wd xs w1.heap.size).refl _) rfl
      · have e0 : V 0 = .agg #[.int .i64 wd, (.slice a xs.length cap)] := hs 0 (by simp)
        rw [if_pos (by rfl)]
        refine Rg.GrowL.call (Bx.isGr wd xs w1.heap.size) (f := 17) (args := #[.agg #[.int .i64 wd, .slice a xs.length cap]]) (by simp [go_sem, Rs.look, e0]) ?_
        refine (Own_any wd a cap xs hl w' (HR.out.below (join HB.out hGb))).mono ?_
        rintro e w2 ⟨u, rfl, ho, hB2⟩
        exact ⟨_, rfl, .of_gr hB2, u, rfl, own_base ho hGb.size⟩
      · rw [if_pos (by rfl)]
        exact Rg.GrowL.value (v := (.slice a2 qs.length hcap)) (w' := w') (by simp [go_sem, Rs.look]) ((Bx.isGr wd xs w1.heap.size).refl _) rfl
      · have e0 : V 0 = .agg #[.int .i64 wd, (.slice a xs.length cap)] := hs 0 (by simp)
        have r1 := hs 1 (by simp)
        have e2 : V 2 = (.slice a2 qs.length hcap) := hs 2 (by simp)
        rw [if_pos (by rfl)]
        refine Rg.GrowL.call (Bx.isGr wd xs w1.heap.size) (f := 27) (args := #[.slice a2 qs.length hcap]) (by simp [go_sem, Rs.look, e2]) ?_
        refine (copy_int (.slice a2 qs.length hcap) qs (by omega) w' (HQ.out.below (join HB.out hGb))).mono ?_
        rintro e w2 ⟨u, rfl, ho, hB2⟩
        exact ⟨_, rfl, .of_gr hB2, own_base ho hGb.size⟩
      · rw [if_pos (by rfl)]
        exact Rg.GrowL.value (v := .agg #[.int .i64 wd, (.slice a xs.length cap)]) (w' := w') (by simp [go_sem, Rs.look, k0, k1]) ((Bx.isGr wd xs w1.heap.size).refl _) rfl
      · have e0 : V 0 = .agg #[.int .i64 wd, (.slice a xs.length cap)] := hs 0 (by simp)
        have r1 := hs 1 (by simp)
        have e2 : V 2 = (.slice a2 qs.length hcap) := hs 2 (by simp)
        have r3 := hs 3 (by simp)
        have e4 : V 4 = .agg #[.int .i64 wd, (.slice a xs.length cap)] := hs 4 (by simp)
        rw [if_pos (by rfl)]
        refine Rg.GrowL.call (Bx.isGr wd xs w1.heap.size) (f := 18) (args := #[.agg #[.int .i64 wd, .slice a xs.length cap]]) (by simp [go_sem, Rs.look, e4]) ?_
        refine (theirs_any wd a cap xs hl w' (HR.out.below (join HB.out hGb))).mono ?_
        rintro e w2 ⟨u, rfl, ho, hB2⟩
        exact ⟨_, rfl, .of_gr hB2, u, rfl, own_base ho hGb.size⟩
      · rw [if_pos (by rfl)]
        exact Rg.GrowL.value (v := .pointer (some ⟨(w.heap.size + 1), 0, none⟩)) (w' := w') (by simp [go_sem, Rs.look]) ((Bx.isGr wd xs w1.heap.size).refl _) rfl
      · have e6 : V 6 = .pointer (some ⟨(w.heap.size + 1), 0, none⟩) := hs 6 (by simp)
        rw [if_pos (by rfl)]
        exact Rg.GrowL.value (v := .int .i64 wind) (w' := w') (by simp [go_sem, Rs.look, e6, k4, k5]) ((Bx.isGr wd xs w1.heap.size).refl _) rfl
      · rw [if_pos (by rfl)]
        exact Rg.GrowL.value (v := .pointer (some ⟨w'.heap.size, 0, none⟩)) (w' := w'.alloc (.cells #[.int .i64 0, .slice none 0 0] 24)) (by simp [go_sem, Rs.look]) (.of_gr (below1 _ _)) ⟨_, _, _, rfl, hGb.size, heap_alloc_last _ _⟩
      · rw [if_pos (by rfl)]
        exact Rg.GrowL.value (v := .pointer (some ⟨w'.heap.size, 0, none⟩)) (w' := w'.alloc (.cells #[.int .i64 0, .slice none 0 0] 33)) (by simp [go_sem, Rs.look]) (.of_gr (below1 _ _)) ⟨_, _, _, rfl, hGb.size, heap_alloc_last _ _⟩
      · have e0 : V 0 = .agg #[.int .i64 wd, (.slice a xs.length cap)] := hs 0 (by simp)
        have r1 := hs 1 (by simp)
        have e2 : V 2 = (.slice a2 qs.length hcap) := hs 2 (by simp)
        have r3 := hs 3 (by simp)
        have e4 : V 4 = .agg #[.int .i64 wd, (.slice a xs.length cap)] := hs 4 (by simp)
        have r5 := hs 5 (by simp)
        have r8 := hs 8 (by simp)
        have r9 := hs 9 (by simp)
        rw [if_pos (by rfl)]
        obtain ⟨c7, x0, x1, e8, hc7, x7⟩ : ∃ p c0 c1, V 8 = .pointer (some ⟨p, 0, none⟩) ∧ w1.heap.size ≤ p ∧ w'.heap[p]? = some (.cells #[c0, c1] 24 (0, 0)) := r8
        obtain ⟨u7, e1, o7⟩ : ∃ u, V 1 = .agg #[.int .i64 wd, u] ∧ w'.ownsRow w1.heap.size 102 1 u xs.length (xs.map (Value.int .i64)) := r1
        obtain ⟨a7, p7, rfl⟩ := own_slice o7
        obtain ⟨q0, q1⟩ := blk_cells2 x7
        have f0 := frozen_of_row w' c7 0 _ _ x7
        have f1 := frozen_of_row w' c7 1 _ _ x7
        have hf := Bx.fill (wd := wd) (xs := xs) (.inl ⟨rfl, rfl⟩) hc7 x7 o7
        exact Rg.GrowL.skip (w' := (w'.setCell ⟨c7, 0, none⟩ (.int .i64 wd)).setCell ⟨c7, 1, none⟩ (.slice a7 xs.length p7)) (by simp [go_sem, Rs.look, e8, e1, q0, q1, f0, f1]) hf.1 ⟨c7, _, e8, hf.2.1, hf.2.2⟩
      · have e0 : V 0 = .agg #[.int .i64 wd, (.slice a xs.length cap)] := hs 0 (by simp)
        have r1 := hs 1 (by simp)
        have e2 : V 2 = (.slice a2 qs.length hcap) := hs 2 (by simp)
        have r3 := hs 3 (by simp)
        have e4 : V 4 = .agg #[.int .i64 wd, (.slice a xs.length cap)] := hs 4 (by simp)
        have r5 := hs 5 (by simp)
        have r8 := hs 8 (by simp)
        have r9 := hs 9 (by simp)
        have r10 := hs 10 (by simp)
        rw [if_pos (by rfl)]
        have r3' : w'.ownsRow w1.heap.size 3 1 (V 3) qs.length (qs.map (Value.int .i64)) := r3
        exact Rg.GrowL.value (v := V 3) (w' := w') (by simp [go_sem, Rs.look]) ((Bx.isGr wd xs w1.heap.size).refl _) r3'
      · have e0 : V 0 = .agg #[.int .i64 wd, (.slice a xs.length cap)] := hs 0 (by simp)
        have r1 := hs 1 (by simp)
        have e2 : V 2 = (.slice a2 qs.length hcap) := hs 2 (by simp)
        have r3 := hs 3 (by simp)
        have e4 : V 4 = .agg #[.int .i64 wd, (.slice a xs.length cap)] := hs 4 (by simp)
        have r5 := hs 5 (by simp)
        have r8 := hs 8 (by simp)
        have r9 := hs 9 (by simp)
        have r10 := hs 10 (by simp)
        have r11 := hs 11 (by simp)
        rw [if_pos (by rfl)]
        obtain ⟨c7, x0, x1, e9, hc7, x7⟩ : ∃ p c0 c1, V 9 = .pointer (some ⟨p, 0, none⟩) ∧ w1.heap.size ≤ p ∧ w'.heap[p]? = some (.cells #[c0, c1] 33 (0, 0)) := r9
        obtain ⟨u7, e5, o7⟩ : ∃ u, V 5 = .agg #[.int .i64 wd, u] ∧ w'.ownsRow w1.heap.size 3 1 u xs.length (xs.map (Value.int .i64)) := r5
        obtain ⟨a7, p7, rfl⟩ := own_slice o7
        obtain ⟨q0, q1⟩ := blk_cells2 x7
        have f0 := frozen_of_row w' c7 0 _ _ x7
        have f1 := frozen_of_row w' c7 1 _ _ x7
        have hf := Bx.fill (wd := wd) (xs := xs) (.inr ⟨rfl, rfl⟩) hc7 x7 o7
        exact Rg.GrowL.skip (w' := (w'.setCell ⟨c7, 0, none⟩ (.int .i64 wd)).setCell ⟨c7, 1, none⟩ (.slice a7 xs.length p7)) (by simp [go_sem, Rs.look, e9, e5, q0, q1, f0, f1]) hf.1 ⟨c7, _, e9, hf.2.1, hf.2.2⟩
      · have e0 : V 0 = .agg #[.int .i64 wd, (.slice a xs.length cap)] := hs 0 (by simp)
        have r1 := hs 1 (by simp)
        have e2 : V 2 = (.slice a2 qs.length hcap) := hs 2 (by simp)
        have r3 := hs 3 (by simp)
        have e4 : V 4 = .agg #[.int .i64 wd, (.slice a xs.length cap)] := hs 4 (by simp)
        have r5 := hs 5 (by simp)
        have e6 : V 6 = .pointer (some ⟨(w.heap.size + 1), 0, none⟩) := hs 6 (by simp)
        have e7 : V 7 = .int .i64 wind := hs 7 (by simp)
        have r8 := hs 8 (by simp)
        have r9 := hs 9 (by simp)
        have r10 := hs 10 (by simp)
        have r11 := hs 11 (by simp)
        have r12 := hs 12 (by simp)
        rw [if_pos (by rfl)]
        exact Rg.GrowL.value (v := .int .i64 wind) (w' := w') (by simp [go_sem, Rs.look, e0, e2, e4, e6, e7]) ((Bx.isGr wd xs w1.heap.size).refl _) rfl
    · intro V w' hG hs
      have e0 : V 0 = .agg #[.int .i64 wd, (.slice a xs.length cap)] := hs 0 (by omega)
      have r1 := hs 1 (by omega)
      have e2 : V 2 = (.slice a2 qs.length hcap) := hs 2 (by omega)
      have r3 := hs 3 (by omega)
      have e4 : V 4 = .agg #[.int .i64 wd, (.slice a xs.length cap)] := hs 4 (by omega)
      have r5 := hs 5 (by omega)
      have e6 : V 6 = .pointer (some ⟨(w.heap.size + 1), 0, none⟩) := hs 6 (by omega)
      have e7 : V 7 = .int .i64 wind := hs 7 (by omega)
      have r8 := hs 8 (by omega)
      have r9 := hs 9 (by omega)
      have r10 := hs 10 (by omega)
      have r11 := hs 11 (by omega)
      have r12 := hs 12 (by omega)
      have e13 : V 13 = .int .i64 wind := hs 13 (by omega)

      obtain ⟨c7, u7, e8, x7, o7⟩ : ∃ p u, V 8 = .pointer (some ⟨p, 0, none⟩) ∧ w'.heap[p]? = some (.cells #[.int .i64 wd, u] 24 (0, 0)) ∧ w'.ownsRow w1.heap.size 102 1 u xs.length (xs.map (Value.int .i64)) := r10
      obtain ⟨c8, u8, e9, x8, o8⟩ : ∃ p u, V 9 = .pointer (some ⟨p, 0, none⟩) ∧ w'.heap[p]? = some (.cells #[.int .i64 wd, u] 33 (0, 0)) ∧ w'.ownsRow w1.heap.size 3 1 u xs.length (xs.map (Value.int .i64)) := r12
      have o11 : w'.ownsRow w1.heap.size 3 1 (V 11) qs.length (qs.map (Value.int .i64)) := r11
      simp only [Rs.canon, Rs.dstOf, List.range_succ, List.range_zero, List.nil_append, List.cons_append, List.foldl_cons, List.foldl_nil, List.drop_succ_cons, List.drop_zero, List.drop_nil, List.getElem?_toArray, List.getElem?_cons_succ, List.getElem?_cons_zero, Option.bind_some, Act.put, List.getD_cons_succ, List.getD_cons_zero, List.setIfInBounds_toArray, List.set_cons_succ, List.set_cons_zero]
      rw [e0, e2, e4, e6, e7, e8, e9, e13]
      clear r1 r3 r5 r8 r9 r11
      generalize V 1 = y1
      generalize V 3 = y3
      generalize V 5 = y5
      generalize V 11 = mv at o11 ⊢
      have hGb := hG.low (Nat.le_refl _)
      obtain ⟨a7, p7, rfl⟩ := own_slice o7
      obtain ⟨a8, p8, rfl⟩ := own_slice o8
      obtain ⟨am, pm, rfl⟩ := own_slice o11
      have HBW := join HB.out hGb
      have HH : Hid (Ho7 wd xs qs (.slice a xs.length cap) (.slice a2 qs.length hcap) (.slice am qs.length pm) wind voice c7 (.slice a7 xs.length p7) c8 (.slice a8 xs.length p8) w w') := Lib.hid ⟨⟨x7, x8, RdI.own rfl rfl o7, RdI.own rfl rfl o8⟩, (hGb.block _ HZ0).trans HX0, (hGb.block _ HZ1).trans HX1, HR.out.below HBW, HQ.out.below HBW, RdI.own rfl rfl o11, HBW⟩
      obtain ⟨k0, k1, k2, k3, k4, k5, k6, k7, j0, j1, j2⟩ := HH.out.cs
      clear e0 e2 e4 e6 e7 e8 e9 e13 hs hG hGb x7 x8 o7 o8 o11 HBW HX0 HX1 HZ0 HZ1 HB
      go_wp2_with fail
      refine (C1.out _ _ _ _ _ HH.out.lw.r7 HH.out.rm).mono ?_
      rintro e wa ⟨va, rfl, hB, hv⟩
      have HH := Lib.hid (HH.out.below hB)
      have HVa := Lib.hid hv
      obtain ⟨k0, k1, k2, k3, k4, k5, k6, k7, j0, j1, j2⟩ := HH.out.cs
      clear hB hv
      go_wp2_with fail
      refine (R1.out _ _ _ _ _ hc HH.out.lw.r8 HH.out.rq).mono ?_
      rintro e wb ⟨vb, rfl, hB, hv⟩
      have HVa := Lib.hid (HVa.out.below hB)
      have HVb := Lib.hid hv
      have HH := Lib.hid (HH.out.below hB)
      obtain ⟨k0, k1, k2, k3, k4, k5, k6, k7, j0, j1, j2⟩ := HH.out.cs
      clear hB hv
      go_wp2_with fail
      refine (Like_int _ _ L1 L1 true (by simp) _ HVa.out HVb.out).mono ?_
      rintro e wc ⟨rfl, hB⟩
      have HH := Lib.hid (HH.out.below hB)
      obtain ⟨k0, k1, k2, k3, k4, k5, k6, k7, j0, j1, j2⟩ := HH.out.cs
      clear hB HVa HVb
      go_wp2_with fail
      refine (C2.out _ _ _ _ _ HH.out.lw.r7 HH.out.rm).mono ?_
      rintro e wa ⟨va, rfl, hB, hv⟩
      have HH := Lib.hid (HH.out.below hB)
      have HVa := Lib.hid hv
      obtain ⟨k0, k1, k2, k3, k4, k5, k6, k7, j0, j1, j2⟩ := HH.out.cs
      clear hB hv
      go_wp2_with fail
      refine (R2.out _ _ _ _ _ hc HH.out.lw.r8 HH.out.rq).mono ?_
      rintro e wb ⟨vb, rfl, hB, hv⟩
      have HVa := Lib.hid (HVa.out.below hB)
      have HVb := Lib.hid hv
      have HH := Lib.hid (HH.out.below hB)
      obtain ⟨k0, k1, k2, k3, k4, k5, k6, k7, j0, j1, j2⟩ := HH.out.cs
      clear hB hv
      go_wp2_with fail
      refine (Like_int _ _ L2 L2 true (by simp) _ HVa.out HVb.out).mono ?_
      rintro e wc ⟨rfl, hB⟩
      have HH := Lib.hid (HH.out.below hB)
      obtain ⟨k0, k1, k2, k3, k4, k5, k6, k7, j0, j1, j2⟩ := HH.out.cs
      clear hB HVa HVb
      go_wp2_with fail
      refine (C3.out _ _ _ _ _ HH.out.lw.r7 HH.out.rm).mono ?_
      rintro e wa ⟨va, rfl, hB, hv⟩
      have HH := Lib.hid (HH.out.below hB)
      have HVa := Lib.hid hv
      obtain ⟨k0, k1, k2, k3, k4, k5, k6, k7, j0, j1, j2⟩ := HH.out.cs
      clear hB hv
      go_wp2_with fail
      refine (R3.out _ _ _ _ _ hc HH.out.lw.r8 HH.out.rq).mono ?_
      rintro e wb ⟨vb, rfl, hB, hv⟩
      have HVa := Lib.hid (HVa.out.below hB)
      have HVb := Lib.hid hv
      have HH := Lib.hid (HH.out.below hB)
      obtain ⟨k0, k1, k2, k3, k4, k5, k6, k7, j0, j1, j2⟩ := HH.out.cs
      clear hB hv
      go_wp2_with fail
      refine (Like_int _ _ L3 L3 true (by simp) _ HVa.out HVb.out).mono ?_
      rintro e wc ⟨rfl, hB⟩
      have HH := Lib.hid (HH.out.below hB)
      obtain ⟨k0, k1, k2, k3, k4, k5, k6, k7, j0, j1, j2⟩ := HH.out.cs
      clear hB HVa HVb
      go_wp2_with fail
      refine (same_yes wd _ _ _ _ _ _ xs _ HH.out.lw.r7 HH.out.rs).mono ?_
      rintro e wc ⟨rfl, hB⟩
      have HH := Lib.hid (HH.out.below hB)
      clear hB
      go_wp2_with fail
      refine (Like_int _ _ qs qs true (by simp) _ HH.out.rm HH.out.rq).mono ?_
      rintro e wd2 ⟨rfl, hB⟩
      have HH := Lib.hid (HH.out.below hB)
      clear hB
      go_wp2_with fail
      refine (awake_any _).mono ?_
      rintro e we ⟨rfl, hB⟩
      have HH := Lib.hid (HH.out.below hB)
      clear hB
      go_wp2_with fail
      go_ret
      exact ⟨rfl, HH.out.bel⟩
end Go.Proofs.Ytimedmkpenbmkaa
end
section
namespace Go.Proofs.Ytimedmkpenbmkaa
open Go.ChangeShapes Go.WideShapes Go.ChangeAt Go.RowKit Go.Joins
set_option linter.unusedVariables false
set_option linter.unusedSimpArgs false
section
variable {H : Type} {enc : TypeId × Value → H} {W : World} {base : Nat} {spare : Nat → Bool} {held : Bool}
set_option maxRecDepth 100000 in
/-- a list of numbers that came in, with its room -/
theorem rdc_of_trod {t e : TypeId} (hsp : ∀ b, spare b = true) (ht : Try.prog.underlying t = some (.slice e)) (he : Try.prog.underlying e = some (.int .i64)) (hc : Try.prog.cellsOf e = 1) {fuel : Nat} {v : Value} {x : DataW H × List MemPlace}
    (h : DataW.trod enc Try.prog W base spare held fuel t [v] = some x) : ∃ a cap, ∃ xs : List Int, v = .slice a xs.length cap ∧ RdI W v xs ∧ xs.length ≤ cap := by
  rcases open_ints ht he hc h with ⟨hcs, _⟩ | ⟨a, l, c, zs, hcs, _, hl, hm, hz, _, hcell, hwz⟩
  · injection hcs with hcs
    subst hcs
    exact ⟨none, 0, [], rfl, ⟨by simp, none, 0, rfl, fun h => absurd rfl h⟩, Nat.le_refl _⟩
  · injection hcs with hcs
    subst hcs
    rw [hsp, if_pos rfl] at hz
    have hxl : (zs.take l).length = l := by rw [List.length_take]; omega
    have hm' : l ≤ 9223372036854775807 := by have : maxLen = 9223372036854775807 := rfl; omega
    refine ⟨some a, c, zs.take l, by rw [hxl], ⟨by omega, some a, c, by rw [hxl], fun hne => ?_⟩, by omega⟩
    have hl0 : 0 < l := by
      rcases Nat.eq_zero_or_pos l with h0 | h0
      · subst h0; simp at hne
      · exact h0
    obtain ⟨b, off, rfl, hc⟩ := ints_at hcell (by omega)
    refine ⟨b, off, rfl, ?_, fun i hi => ?_⟩
    · have := hc 0 (by omega)
      rcases Nat.lt_or_ge b W.heap.size with h' | h'
      · exact h'
      · simp [World.cell?, Array.getElem?_eq_none h'] at this
    · have hi2 : i < l := by omega
      rw [hc i (by omega)]
      congr 2
      simp only [List.getD_eq_getElem?_getD, List.getElem?_take, hi2, if_true]
end
set_option maxHeartbeats 1000000 in
set_option maxRecDepth 100000 in
theorem HearFewest_lifted (os : Os) (started : os.Started) (H : Type) (enc : TypeId × Value → H) :
    ReturnsInHanded {} Try.checked os 7 .any (Rows.hearFewestSpec.pre6 enc Try.prog Try.f7 Rows.hearFewestRow.domain false) (Rows.hearFewestSpec.post enc Try.prog Try.f7 false true false false) := by
  refine returnsInHanded_of_change (C := Try.checked) Try.own started (by kernel_rfl) Try.func7
    (ChangeSpec.witness6 (enc := enc) (C := Try.checked) false ⟨#[], #[.agg #[.int .i64 0, .slice none 0 0], .agg #[.int .i64 0, .int .i64 0], .slice none 0 0], []⟩ 8 (by kernel_rfl) (by kernel_rfl) (by kernel_rfl) (by kernel_rfl)) ?_
  intro W base args ds gs before hval0 hW hcnd _
  have hval : ∀ (j : Nat) t v, Try.f7.params[j]? = some t → args[j]? = some v → Value.okWide Try.prog W .any base t v := hval0
  have hW' := hW
  obtain ⟨p, q, hA0, hV, rfl, hfz, hnd⟩ := hW
  have hA : DataW.TrodAll enc Try.prog W 0 (fun _ => true) true Try.f7.params.toList args.toList ds p := hA0
  rw [Try.params7] at hA hval
  obtain ⟨v0, vs0, d0, ds0, p0, q0, hargs, rfl, rfl, h0, r0⟩ := trodAll_cons hA
  obtain ⟨v1, vs1, d1, ds1, p1, q1, rfl, rfl, rfl, h1, r1⟩ := trodAll_cons r0
  obtain ⟨v2, vs2, d2, ds2, p2, q2, rfl, rfl, rfl, h2, r2⟩ := trodAll_cons r1
  obtain ⟨rfl, rfl, rfl⟩ := trodAll_nil r2
  obtain rfl : args = #[v0, v1, v2] := by cases args; simp_all
  obtain ⟨rfl, rfl⟩ := trodVars_none hV
  obtain ⟨wd, a, cap, xs, e0, hR⟩ := town_of_trod (fun _ => rfl) (hval 0 24 v0 rfl rfl) h0
  obtain ⟨wind, voice, e1⟩ := air_of_trod (hval 1 27 v1 rfl rfl) h1
  have lt0 := lt_of_trod h0
  have lt1 := lt_of_trod h1
  have k0 := h0
  have k1 := h1
  have lt2 := lt_of_trod h2
  have k2 := h2
  obtain ⟨m2, hm2⟩ := h2
  obtain ⟨x0, x1, x2, rfl⟩ := okWide_slice Try.underlying31 (hval 2 31 v2 rfl rfl)
  obtain ⟨a2, cap2, T, e4, hT, hF⟩ := rdc_of_trod (fun _ => rfl) Try.underlying31 Try.underlying3 cells3 hm2
  clear hA0 hval0
  subst e0
  subst e1
  injection e4 with q1 q2 q3
  subst q1 q2 q3
  refine (HearFewest_any wd a cap xs wind voice _ _ T hF W hR hT).mono fun e W' ⟨he, bel⟩ => ?_
  subst he
  exact ⟨_, rfl, _, _, _, [], _, [], hW', trodAll_mk1 (shut_bool Try.underlying4 _), (trodAll_cons_mk (Below.trod Try.laidOut (by kernel_rfl) (of_decide_eq_true (by kernel_rfl)) k0 bel lt0) (trodAll_cons_mk (Below.trod Try.laidOut (by kernel_rfl) (of_decide_eq_true (by kernel_rfl)) k1 bel lt1) (trodAll_cons_mk (Below.trod Try.laidOut (by kernel_rfl) (of_decide_eq_true (by kernel_rfl)) k2 bel lt2) trodAll_mk0))), rfl, bel.frame _, fun h => by cases h⟩
theorem HearFewest_holds : Rows.HearFewestSaid :=
  OpenClaim.holds_of_wide 7 Try.f7 rfl rfl rfl rfl rfl rfl rfl ⟨rfl, rfl, rfl, rfl, rfl⟩ rfl rfl rfl rfl rfl (by kernel_rfl) Try.func7 (by kernel_rfl)
    (of_decide_eq_true (by kernel_rfl)) (by unfold Func.isWrapper; first | (rw [if_pos (by decide +kernel)]; kernel_rfl) | (rw [if_neg (by decide +kernel)]; exact ⟨rfl, rfl⟩))
    (fun os started H enc _ => HearFewest_lifted os started H enc)
end Go.Proofs.Ytimedmkpenbmkaa
end
