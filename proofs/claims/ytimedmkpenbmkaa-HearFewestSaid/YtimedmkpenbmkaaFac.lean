/- Contracts and mathematics, part 3. -/
import Derived.Test.YtimedmkpenbmkaaFab
import Derived.Laws.OwnMore
section
namespace Go.Proofs.Ytimedmkpenbmkaa
open Go.RowKit Go.Shelf
set_option linter.unusedSimpArgs false
set_option linter.unusedVariables false
set_option maxHeartbeats 1000000 in
set_option maxRecDepth 100000 in
theorem refStreets_any (wd : Int) (a : Option Addr) (cap : Nat) (xs : List Int) (hl : xs.length ≤ 1000000) (w : World) (hR : RdI w (.slice a xs.length cap) xs) :
    Calls Try.prog 109 #[.agg #[.int .i64 wd, .slice a xs.length cap]] w fun e w' => ∃ v, e = .returned v ∧ w'.ownsRow w.heap.size 3 1 v (kindIdx xs 0).length ((kindIdx xs 0).map (Value.int .i64)) ∧ Below w.heap.size w w' := by
  obtain ⟨i0, hi, hz0, hz1, hz2⟩ := info_parts A_info3
  have HB := Lib.hid (below1 w (.cells #[.int .i64 wd, .slice a xs.length cap] 33))
  have hx0 : (w.alloc (.cells #[.int .i64 wd, .slice a xs.length cap] 33)).heap[w.heap.size]? = some (.cells #[.int .i64 wd, .slice a xs.length cap] 33 (0, 0)) := heap_alloc_last _ _
  have HR := Lib.hid (hR.below HB.out)
  obtain ⟨W1, hW1⟩ : ∃ W1, W1 = w.alloc (.cells #[.int .i64 wd, .slice a xs.length cap] 33) := ⟨_, rfl⟩
  rw [← hW1] at HB HR hx0
  have HX0 := Lib.hid hx0
  have HW1 := Lib.hid hW1
  clear hR hx0 hW1
  go_enter Try.func109, Try.ntmps109
  go_upto_region 1 with fail
  rw [← HW1.out]
  go_wp2_with fail
  go_loopw [3, 4] (fun v i wr => ∃ k : Nat, k ≤ xs.length ∧ i = .int .i64 k ∧ wr.ownsRow W1.heap.size 3 1 v (kindTo xs 0 k).length ((kindTo xs 0 k).map (Value.int .i64)) ∧ Below W1.heap.size W1 wr) (fun _ i _ => xs.length - (intOf i).toNat)
  case atStart => exact ⟨0, Nat.zero_le _, rfl, own_none _ _ _ _, Below.refl _ _⟩
  case round =>
    obtain ⟨k, hk, rfl, hown, hBr⟩ := hrel
    have HO := Lib.hid hown
    have HBr := Lib.hid hBr
    have hlen := kindTo_len xs 0 k
    have hb0 := (hBr.block _ (Array.getElem?_eq_some_iff.1 HX0.out).1).trans HX0.out
    obtain ⟨k0, k1⟩ := blk_cells2 hb0
    have k2 := (Array.getElem?_eq_some_iff.1 hb0).1
    by_cases hlt : k < xs.length
    · have hne : xs ≠ [] := by rintro rfl; simp at hlt
      obtain ⟨b, o, rfl, _, hI⟩ := rd_ints HR.out hne
      have cp := (hI.below hBr hI.1).2 k hlt
      have hbr := Nat.lt_of_lt_of_le hI.1 hBr.size
      have hk' : (k : Int) < xs.length := by omega
      obtain ⟨x, hx⟩ : ∃ x, xs.getD k 0 = x := ⟨_, rfl⟩
      rw [hx] at cp
      have HX := Lib.hid hx
      have hz7 := hBr.size
      clear hx hown hI hBr hb0
      by_cases hx1 : x = 0
      · subst hx1
        have HYES : Hid ((xs.getD k 0 == 0) = true) := Lib.hid (by rw [HX.out]; rfl)
        go_wp2_with (at_builtin; refine wpList_append_own _ rfl _ _ 31 rfl W1.heap.size 3 i0 (.int .i64 0) 1 8 A_und31 hi hz0 hz1 hz2 rfl (by decide) _ _ _ rfl (HO.out.alloc _) ⟨wr.heap.size, 0, none⟩ 1 1 [.int .i64 (k : Int)] rfl rfl ?d1 ?d2 ?d3 ?d4 ?d5 ?_)
        case d2 => first | rfl | (intro u hu; simp at hu; subst hu; rfl)
        case d3 => unfold maxLen; omega
        case d4 => omega
        case d5 => first | omega | (simp; omega)
        intro v' w8 hown8 hgrow _
        have hB8 := below_grown (al2 HBr.out (by omega) _) (HO.out.alloc _) (Nat.le_refl _) (by simp; omega) hgrow
        have HO8 := Lib.hid hown8
        have HB8 := Lib.hid hB8
        clear hgrow hown8 hB8 k0 k1 k2
        go_wp2_with fail
        go_roundw
        case rel => exact ⟨k + 1, by omega, by simp, by rw [kindTo_yes HYES.out]; simpa using HO8.out, HB8.out⟩
        case measure => simp [intOf]; omega
      · have hx1' : (x == 0) = false := by simpa using hx1
        have HNO : Hid ((xs.getD k 0 == 0) = false) := Lib.hid (by rw [HX.out]; exact hx1')
        clear hx1
        go_wp2_with fail
        go_roundw
        case rel => exact ⟨k + 1, by omega, by simp, by rw [kindTo_no HNO.out]; exact HO.out, HBr.out⟩
        case measure => simp [intOf]; omega
    · obtain rfl : k = xs.length := by omega
      clear hown hBr hb0
      go_wp2_with fail
      go_ret
      exact ⟨_, rfl, own_base HO.out HB.out.size, join HB.out HBr.out⟩
/-- whether a town has more streets than a number, or more plots than there may be -/
def manyB (xs : List Int) (m : Int) : Bool := decide (40 < (xs.length : Int)) || (decide (((kindIdx xs 0).length : Int) > m) && decide ((xs.length : Int) ≤ 30))
set_option maxHeartbeats 2000000 in
set_option maxRecDepth 100000 in
theorem manyS_any (wd : Int) (a : Option Addr) (cap : Nat) (xs : List Int) (hl : xs.length ≤ 9223372036854775807) (m : Int) (w : World) (hR : RdI w (.slice a xs.length cap) xs) :
    Calls Try.prog 45 #[.agg #[.int .i64 wd, .slice a xs.length cap], .int .i64 m] w fun e w' => e = .returned (.bool (manyB xs m)) ∧ Below w.heap.size w w' := by
  have HB := Lib.hid (below1 w (.cells #[.int .i64 wd, .slice a xs.length cap] 24))
  have hx0 : (w.alloc (.cells #[.int .i64 wd, .slice a xs.length cap] 24)).heap[w.heap.size]? = some (.cells #[.int .i64 wd, .slice a xs.length cap] 24 (0, 0)) := heap_alloc_last _ _
  have HR := Lib.hid (hR.below HB.out)
  obtain ⟨W1, hW1⟩ : ∃ W1, W1 = w.alloc (.cells #[.int .i64 wd, .slice a xs.length cap] 24) := ⟨_, rfl⟩
  rw [← hW1] at HB HR hx0
  obtain ⟨k0, k1⟩ := blk_cells2 hx0
  have k2 := (Array.getElem?_eq_some_iff.1 hx0).1
  have HW1 := Lib.hid hW1
  have HX0 := Lib.hid hx0
  clear hR hx0 hW1
  go_enter Try.func45, Try.ntmps45
  go_upto_region 1 with fail
  rw [← HW1.out]
  go_wp2_with fail
  go_loopw [5, 11] (fun v i wr => ∃ k : Nat, k ≤ xs.length ∧ i = .int .i64 k ∧ v = .int .i64 ((kindTo xs 0 k).length : Nat) ∧ wr = W1) (fun _ i _ => xs.length - (intOf i).toNat)
  case atStart => exact ⟨0, Nat.zero_le _, rfl, by simp [kindTo], rfl⟩
  case round =>
    obtain ⟨k, hk, rfl, rfl, rfl⟩ := hrel
    have hlen := kindTo_len xs 0 k
    by_cases hlt : k < xs.length
    · have hk' : (k : Int) < xs.length := by omega
      obtain ⟨b, o, rfl, _, hI⟩ := rd_ints HR.out (by rintro rfl; simp at hlt)
      have cp := hI.2 k hlt
      have hbr := hI.1
      obtain ⟨x, hx⟩ : ∃ x, xs.getD k 0 = x := ⟨_, rfl⟩
      rw [hx] at cp
      have HX := Lib.hid hx
      clear hx hI
      by_cases hx1 : x = 0
      · subst hx1
        have HYES : Hid ((kindTo xs 0 (k + 1)).length = (kindTo xs 0 k).length + 1) := Lib.hid (by rw [kindTo_yes (by rw [HX.out]; rfl)]; simp)
        go_wp2_with fail
        go_roundw
        case rel => exact ⟨k + 1, by omega, by simp, by rw [HYES.out]; simp, trivial⟩
        case measure => simp [intOf]; omega
      · have hx1' : (x == 0) = false := by simpa using hx1
        have HNO : Hid (kindTo xs 0 (k + 1) = kindTo xs 0 k) := Lib.hid (by rw [kindTo_no (by rw [HX.out]; exact hx1')])
        clear hx1
        go_wp2_with fail
        go_roundw
        case rel => exact ⟨k + 1, by omega, by simp, by rw [HNO.out], trivial⟩
        case measure => simp [intOf]; omega
    · obtain rfl : k = xs.length := by omega
      clear hlen
      have HG := Lib.hid (great_any a wd xs.length cap wr)
      have HMB : Hid (manyB xs m = (decide (40 < (xs.length : Int)) || (decide (((kindTo xs 0 xs.length).length : Int) > m) && decide ((xs.length : Int) ≤ 30)))) := Lib.hid rfl
      obtain ⟨q1, hq1⟩ : ∃ q, decide (40 < (xs.length : Int)) = q := ⟨_, rfl⟩
      obtain ⟨c, hc⟩ : ∃ c, (kindTo xs 0 xs.length).length = c := ⟨_, rfl⟩
      rw [hq1] at HG HMB
      rw [hc] at HMB ⊢
      have hcl : c ≤ 9223372036854775807 := by rw [← hc]; exact Nat.le_trans (kindTo_len _ _ _) hl
      clear hq1 hc
      go_wp2_with fail
      refine HG.out.mono ?_
      rintro e w2 ⟨rfl, hB⟩
      have hb0 := (hB.block _ (Array.getElem?_eq_some_iff.1 HX0.out).1).trans HX0.out
      obtain ⟨j0, j1⟩ := blk_cells2 hb0
      have j2 := (Array.getElem?_eq_some_iff.1 hb0).1
      have HB2 := Lib.hid (join HB.out hB)
      clear hB hb0 HG
      cases q1 with
      | true =>
        go_wp2_with fail
        go_ret
        exact ⟨by rw [HMB.out]; rfl, HB2.out⟩
      | false =>
        by_cases h2 : (c : Int) > m
        · have d2 : decide ((c : Int) > m) = true := by simpa using h2
          by_cases h3 : xs.length ≤ 30
          · have d3 : decide (xs.length ≤ 30) = true := by simpa using h3
            have d3' : decide ((xs.length : Int) ≤ 30) = true := by simp; omega
            go_wp2_with fail
            go_ret
            exact ⟨by rw [HMB.out, d2, d3']; rfl, HB2.out⟩
          · have d3 : decide (xs.length ≤ 30) = false := by simpa using h3
            have d3' : decide ((xs.length : Int) ≤ 30) = false := by simp; omega
            go_wp2_with fail
            go_ret
            exact ⟨by rw [HMB.out, d2, d3']; rfl, HB2.out⟩
        · have d2 : decide ((c : Int) > m) = false := by simpa using h2
          go_wp2_with fail
          go_ret
          exact ⟨by rw [HMB.out, d2]; rfl, HB2.out⟩
end Go.Proofs.Ytimedmkpenbmkaa
end
section
namespace Go.Proofs.Ytimedmkpenbmkaa
open Go.RowKit Go.Shelf
set_option linter.unusedSimpArgs false
set_option linter.unusedVariables false
def spAs (TV HV : Value) (KK : Int) (BB OO : Nat) (HH QQ : Int) : Nat → List Value → Value → World → Prop
  | 0, _, v, _ => v = TV
  | 1, _, v, _ => v = HV
  | 2, _, v, _ => v = .int .i64 KK
  | 3, _, v, _ => v = .pointer (some ⟨BB, OO, none⟩)
  | 4, _, v, _ => v = .int .i64 HH
  | 5, _, v, _ => v = .int .i64 QQ
  | 6, _, v, _ => v = .int .i64 QQ
  | _, _, _, _ => False
theorem spAs_stable (TV HV : Value) (KK : Int) (BB OO : Nat) (HH QQ : Int) : ∀ i L v w w', spAs TV HV KK BB OO HH QQ i L v w → Rs.Gr w w' → spAs TV HV KK BB OO HH QQ i L v w' := by
  intro i L v w w' h hg
  match i with
  | 0 => exact h
  | 1 => exact h
  | 2 => exact h
  | 3 => exact h
  | 4 => exact h
  | 5 => exact h
  | 6 => exact h
theorem RdI.pre {w : World} {b o c k : Nat} {xs : List Int} (hk : k ≤ xs.length ∧ xs.length ≤ 1000000) (h : Ints w b o xs) : RdI w (.slice (some ⟨b, o, none⟩) k c) (xs.take k) := by
  have hl : (xs.take k).length = k := by rw [List.length_take]; omega
  refine ⟨by omega, some ⟨b, o, none⟩, c, by rw [hl], fun _ => ⟨b, o, rfl, h.1, fun i hi => ?_⟩⟩
  rw [hl] at hi
  rw [h.2 i (by omega), List.getD_eq_getElem?_getD, List.getD_eq_getElem?_getD, List.getElem?_take, if_pos hi]
/-- how far the houses are asked: which are named so far -/
theorem q_next {xs : List Int} (h30 : xs.length ≤ 30) {qs : List Int} {k : Nat} (hk : k < qs.length) {nm : List Bool} (hl : nm.length = 30) (hn : ∀ p : Nat, p < 30 → nm.getD p false = decide ((p : Int) ∈ qs.take k)) :
    (plotErr xs (qs.getD k 0) 1 ≠ 0 → (qAll xs nm (qs.drop k)).1 = plotErr xs (qs.getD k 0) 1) ∧
    (plotErr xs (qs.getD k 0) 1 = 0 → (qs.take k).contains (qs.getD k 0) = true → (qAll xs nm (qs.drop k)).1 = 5) ∧
    (plotErr xs (qs.getD k 0) 1 = 0 → (qs.take k).contains (qs.getD k 0) = false → ∃ nm2 : List Bool, nm2.length = 30 ∧ (∀ p : Nat, p < 30 → nm2.getD p false = decide ((p : Int) ∈ qs.take (k + 1))) ∧ (qAll xs nm (qs.drop k)).1 = (qAll xs nm2 (qs.drop (k + 1))).1) := by
  have e : qs.getD k 0 = qs[k] := by rw [List.getD_eq_getElem?_getD, List.getElem?_eq_getElem hk]; rfl
  have ed : qs.drop k = qs.getD k 0 :: qs.drop (k + 1) := by rw [e]; exact List.drop_eq_getElem_cons hk
  have et : qs.take (k + 1) = qs.take k ++ [qs.getD k 0] := by rw [e]; exact List.take_succ_eq_append_getElem hk
  rw [ed]
  generalize qs.getD k 0 = h at *
  have eq : qAll xs nm (h :: qs.drop (k + 1)) = (if (qStep xs nm h).1 ≠ 0 then qStep xs nm h else qAll xs (qStep xs nm h).2 (qs.drop (k + 1))) := rfl
  rw [eq]
  have hpl : plotErr xs h 1 = 0 → ∃ p : Nat, h = p ∧ p < 30 := fun h0 => by
    obtain ⟨p, e1, e2, _⟩ := plot_ok h0
    exact ⟨p, e1, by omega⟩
  refine ⟨fun h0 => ?_, fun h0 h1 => ?_, fun h0 h1 => ?_⟩
  · have : qStep xs nm h = (plotErr xs h 1, nm) := by unfold qStep; rw [if_pos h0]
    rw [this, if_pos h0]
  · obtain ⟨p, rfl, hp⟩ := hpl h0
    have : qStep xs nm (p : Int) = (5, nm) := by
      unfold qStep
      rw [if_neg (by rw [h0]; simp), Int.toNat_natCast, hn p hp, if_pos (by rw [decide_eq_true_iff]; exact List.contains_iff_mem.1 h1)]
    rw [this, if_pos (by simp)]
  · obtain ⟨p, rfl, hp⟩ := hpl h0
    have hno : ¬ ((p : Int) ∈ qs.take k) := fun hm => by rw [List.contains_iff_mem.2 hm] at h1; cases h1
    have : qStep xs nm (p : Int) = (0, nm.set p true) := by
      unfold qStep
      rw [if_neg (by rw [h0]; simp), Int.toNat_natCast, hn p hp, if_neg (by rw [decide_eq_true_iff]; exact hno)]
    rw [this, if_neg (by simp)]
    refine ⟨nm.set p true, by simp [hl], fun q hq => ?_, rfl⟩
    rw [et, List.getD_eq_getElem?_getD, List.getElem?_set]
    by_cases e2 : p = q
    · subst e2; rw [if_pos rfl, if_pos (by omega)]; simp
    · rw [if_neg e2, ← List.getD_eq_getElem?_getD, hn q hq]
      have e3 : ¬ ((q : Int) = (p : Int)) := by omega
      simp [e3]
set_option maxHeartbeats 4000000 in
set_option maxRecDepth 100000 in
theorem Asked_any (wd : Int) (a : Option Addr) (cap : Nat) (xs : List Int) (hl : xs.length ≤ 1000000) (wind voice : Int) (a2 : Option Addr) (hcap : Nat) (qs : List Int) (hhl : qs.length ≤ 1000000) (hc : qs.length ≤ hcap) (w : World) (hR : RdI w (.slice a xs.length cap) xs) (hH : RdI w (.slice a2 qs.length hcap) qs) :
    Calls Try.prog 54 #[.agg #[.int .i64 wd, .slice a xs.length cap], .int .i64 wind, .int .i64 voice, .slice a2 qs.length hcap] w fun e w' => e = .returned (.int .i64 (quarterE wd xs wind voice qs)) ∧ Below w.heap.size w w' := by
  have HB := Lib.hid (below1 w (.cells #[.int .i64 wd, .slice a xs.length cap] 33))
  have hx0 : (w.alloc (.cells #[.int .i64 wd, .slice a xs.length cap] 33)).heap[w.heap.size]? = some (.cells #[.int .i64 wd, .slice a xs.length cap] 33 (0, 0)) := heap_alloc_last _ _
  have HR := Lib.hid (hR.below HB.out)
  have HH := Lib.hid (hH.below HB.out)
  obtain ⟨W1, hW1⟩ : ∃ W1, W1 = w.alloc (.cells #[.int .i64 wd, .slice a xs.length cap] 33) := ⟨_, rfl⟩
  rw [← hW1] at HB HR HH hx0
  obtain ⟨k0, k1⟩ := blk_cells2 hx0
  have k2 := (Array.getElem?_eq_some_iff.1 hx0).1
  have HX0 := Lib.hid hx0
  have HW1 := Lib.hid hW1
  have HCK := Lib.hid (refCheck_any wd a cap xs hl W1 HR.out)
  have HQE : Hid (quarterE wd xs wind voice qs = if checkErr wd xs ≠ 0 then checkErr wd xs else if airErr wind voice ≠ 0 then airErr wind voice else (qAll xs (List.replicate 30 false) qs).1) := Lib.hid (by
    unfold quarterE openErr
    by_cases h1 : checkErr wd xs = 0
    · rw [h1]; simp
    · simp [h1])
  have HIS := Lib.hid (fun (W : World) (hRW : RdI W (.slice a xs.length cap) xs) (h : Int) => refIs_any wd a cap xs h 1 hl W hRW)
  clear hR hH hx0 hW1
  go_enter Try.func54, Try.ntmps54
  go_upto_region 1 with fail
  rw [← HW1.out]
  go_wp2_with fail
  refine HCK.out.mono ?_
  rintro e w2 ⟨rfl, hB2⟩
  have HB2 := Lib.hid hB2
  have hz2 := hB2.size
  generalize hce : checkErr wd xs = ce at HQE ⊢
  have HCE := Lib.hid hce
  clear hB2 HCK hce k0 k1 k2
  by_cases h0 : ce = 0
  · have d0 : (ce != 0) = false := by rw [h0]; rfl
    have HH0 := Lib.hid h0
    clear h0
    go_wp2_with fail
    refine (refAir_any wind voice w2).mono ?_
    rintro e w3 ⟨rfl, rfl⟩
    generalize hae : airErr wind voice = ae at HQE ⊢
    clear hae
    by_cases h1 : ae = 0
    · have d1 : (ae != 0) = false := by rw [h1]; rfl
      have HAE := Lib.hid h1
      have h30 : xs.length ≤ 30 := (check_len (HCE.out.trans HH0.out)).1
      clear h1
      go_wp2_with fail
      go_loopw [11] (fun i wr => ∃ k : Nat, i = .int .i64 k ∧ k ≤ qs.length ∧ Below W1.heap.size W1 wr ∧ ∃ nm : List Bool, nm.length = 30 ∧ (∀ p : Nat, p < 30 → nm.getD p false = decide ((p : Int) ∈ qs.take k)) ∧ (qAll xs (List.replicate 30 false) qs).1 = (qAll xs nm (qs.drop k)).1) (fun i _ => qs.length - (intOf i).toNat)
      case atStart => exact ⟨0, rfl, Nat.zero_le _, HB2.out, List.replicate 30 false, by simp, fun p hp => by rw [List.getD_eq_getElem?_getD, List.getElem?_replicate, if_pos hp]; simp, rfl⟩
      case round =>
        obtain ⟨k, rfl, hk, hBk, nm, hnl, hnm, hq0⟩ := hrel
        have HBk := Lib.hid hBk
        have HQ0 := Lib.hid hq0
        have HNM := Lib.hid hnm
        clear hBk hq0 hnm
        by_cases hlt : k < qs.length
        · have hlt' : (k : Int) < qs.length := by omega
          obtain ⟨b, o, rfl, -, hI⟩ := rd_ints HH.out (by intro e; rw [e] at hlt; simp at hlt)
          obtain ⟨h, hh⟩ : ∃ h, qs.getD k 0 = h := ⟨_, rfl⟩
          have HHK := Lib.hid hh
          have HI := Lib.hid hI
          obtain ⟨n1, n2, n3⟩ := q_next h30 hlt hnl HNM.out
          rw [hh] at n1 n2 n3
          have HIS := Lib.hid (fun W hRW => HIS.out W hRW h)
          generalize plotErr xs h 1 = q at n1 n2 n3 HIS
          have N1 := Lib.hid n1
          have N2 := Lib.hid n2
          have N3 := Lib.hid n3
          clear n1 n2 n3 hh hI
          go_upto_region 10 with fail
          refine Rs.region_gen 7 [[], [], [], [1, 2], [1, 2, 3], [0, 1, 2, 3, 4], [0, 1, 2, 3, 4, 5]] [some 30, some 31, some 32, some 33, some 34, some 35, some 12] (spAs (.agg #[.int .i64 wd, .slice a xs.length cap]) (.slice (some ⟨b, o, none⟩) qs.length hcap) (k : Nat) b (o + k) h q) (by kernel_rfl) (by kernel_rfl) rfl (spAs_stable _ _ _ _ _ _ _) ?_ ?_
          · refine ⟨fun V w' hG hs => ?_, fun V w' hG hs => ?_, fun V w' hG hs => ?_, fun V w' hG hs => ?_, fun V w' hG hs => ?_, fun V w' hG hs => ?_, fun V w' hG hs => ?_, trivial⟩
            all_goals
              have hBW := join HBk.out hG
              have hb0 := (hBW.block _ (Array.getElem?_eq_some_iff.1 HX0.out).1).trans HX0.out
              obtain ⟨j0, j1⟩ := blk_cells2 hb0
              have hIk := HI.out.below hBW HI.out.1
              have ck := hIk.2 k hlt
              rw [HHK.out] at ck
              have hbl := hIk.1
            · rw [if_pos (by rfl)]
              exact Rs.GrowL.value (v := (.agg #[.int .i64 wd, .slice a xs.length cap])) (w' := w') (by simp [go_sem, Rs.look, j0, j1]) (Rs.Gr.refl _) rfl
            · rw [if_pos (by rfl)]
              exact Rs.GrowL.value (v := (.slice (some ⟨b, o, none⟩) qs.length hcap)) (w' := w') (by simp [go_sem, Rs.look]) (Rs.Gr.refl _) rfl
            · rw [if_pos (by rfl)]
              exact Rs.GrowL.value (v := .int .i64 (k : Nat)) (w' := w') (by simp [go_sem, Rs.look]) (Rs.Gr.refl _) rfl
            · have e1 : V 1 = (.slice (some ⟨b, o, none⟩) qs.length hcap) := hs 1 (by simp)
              have e2 : V 2 = .int .i64 (k : Nat) := hs 2 (by simp)
              rw [if_pos (by rfl)]
              exact Rs.GrowL.value (v := .pointer (some ⟨b, (o + k), none⟩)) (w' := w') (by simp [go_sem, Rs.look, e1, e2, hlt']) (Rs.Gr.refl _) rfl
            · have e1 : V 1 = (.slice (some ⟨b, o, none⟩) qs.length hcap) := hs 1 (by simp)
              have e2 : V 2 = .int .i64 (k : Nat) := hs 2 (by simp)
              have e3 : V 3 = .pointer (some ⟨b, (o + k), none⟩) := hs 3 (by simp)
              rw [if_pos (by rfl)]
              exact Rs.GrowL.value (v := .int .i64 h) (w' := w') (by simp [go_sem, Rs.look, e1, e2, e3, ck]) (Rs.Gr.refl _) rfl
            · have e0 : V 0 = (.agg #[.int .i64 wd, .slice a xs.length cap]) := hs 0 (by simp)
              have e1 : V 1 = (.slice (some ⟨b, o, none⟩) qs.length hcap) := hs 1 (by simp)
              have e2 : V 2 = .int .i64 (k : Nat) := hs 2 (by simp)
              have e3 : V 3 = .pointer (some ⟨b, (o + k), none⟩) := hs 3 (by simp)
              have e4 : V 4 = .int .i64 h := hs 4 (by simp)
              rw [if_pos (by rfl)]
              refine Rs.GrowL.call (f := 37) (args := #[.agg #[.int .i64 wd, .slice a xs.length cap], .int .i64 h, .int .i64 1]) (by simp [go_sem, Rs.look, e0, e4]) ?_
              refine (HIS.out w' (HR.out.below hBW)).mono ?_
              rintro e w3 ⟨rfl, hB⟩
              exact ⟨_, rfl, hB, rfl⟩
            · have e0 : V 0 = (.agg #[.int .i64 wd, .slice a xs.length cap]) := hs 0 (by simp)
              have e1 : V 1 = (.slice (some ⟨b, o, none⟩) qs.length hcap) := hs 1 (by simp)
              have e2 : V 2 = .int .i64 (k : Nat) := hs 2 (by simp)
              have e3 : V 3 = .pointer (some ⟨b, (o + k), none⟩) := hs 3 (by simp)
              have e4 : V 4 = .int .i64 h := hs 4 (by simp)
              have e5 : V 5 = .int .i64 q := hs 5 (by simp)
              rw [if_pos (by rfl)]
              exact Rs.GrowL.value (v := .int .i64 q) (w' := w') (by simp [go_sem, Rs.look, e0, e1, e2, e3, e4, e5]) (Rs.Gr.refl _) rfl
          · intro V w' hG hs
            have e0 : V 0 = (.agg #[.int .i64 wd, .slice a xs.length cap]) := hs 0 (by omega)
            have e1 : V 1 = (.slice (some ⟨b, o, none⟩) qs.length hcap) := hs 1 (by omega)
            have e2 : V 2 = .int .i64 (k : Nat) := hs 2 (by omega)
            have e3 : V 3 = .pointer (some ⟨b, (o + k), none⟩) := hs 3 (by omega)
            have e4 : V 4 = .int .i64 h := hs 4 (by omega)
            have e5 : V 5 = .int .i64 q := hs 5 (by omega)
            have e6 : V 6 = .int .i64 q := hs 6 (by omega)
            simp only [Rs.canon, Rs.dstOf, List.range_succ, List.range_zero, List.nil_append, List.cons_append, List.foldl_cons, List.foldl_nil, List.drop_succ_cons, List.drop_zero, List.drop_nil, List.getElem?_toArray, List.getElem?_cons_succ, List.getElem?_cons_zero, Option.bind_some, Act.put, List.getD_cons_succ, List.getD_cons_zero, List.setIfInBounds_toArray, List.set_cons_succ, List.set_cons_zero]
            rw [e0, e1, e2, e3, e4, e5, e6]
            have HBc := Lib.hid (join HBk.out hG)
            clear e0 e1 e2 e3 e4 e5 e6 hs hG
            by_cases hq : q = 0
            · have dq : (q != 0) = false := by rw [hq]; rfl
              have hcap2 : k ≤ hcap := by omega
              have hcap3 : (k : Int) ≤ hcap := by omega
              have hIk := HI.out.below HBc.out HI.out.1
              have ck := hIk.2 k hlt
              rw [HHK.out] at ck
              have hbl := hIk.1
              have hpre : Hid (∀ W, W.heap = w'.heap → RdI W (.slice (some ⟨b, o, none⟩) k hcap) (qs.take k)) := Lib.hid (fun W hW => RdI.heap hW (RdI.pre (by omega) hIk))
              have HHAS := Lib.hid (fun W h1 => has_any (.slice (some ⟨b, o, none⟩) k hcap) (qs.take k) h (by rw [List.length_take]; omega) W h1)
              have HQ := Lib.hid hq
              clear hIk hq
              generalize hcn : (qs.take k).contains h = cn at N2 N3 HHAS
              have HCN := Lib.hid hcn
              clear hcn
              cases cn with
              | true =>
                have HQF : Hid (quarterE wd xs wind voice qs = 5) := Lib.hid (by rw [HQE.out, HH0.out, HAE.out, if_neg (by simp), if_neg (by simp), HQ0.out]; exact N2.out HQ.out rfl)
                go_wp2_with fail
                go_quiet ((go_at_call 115; exact Calls.quiet_of_same (HHAS.out _ (by exact hpre.out _ rfl))))
                go_wp2_with fail
                go_ret
                exact ⟨by rw [HQF.out]; rfl, below_drewN (join HB.out HBc.out) _⟩
              | false =>
                obtain ⟨nm2, m1, m2, m3⟩ := N3.out HQ.out rfl
                have HM := Lib.hid (And.intro m1 (And.intro m2 m3))
                clear m1 m2 m3
                go_wp2_with fail
                go_quiet ((go_at_call 115; exact Calls.quiet_of_same (HHAS.out _ (by exact hpre.out _ rfl))))
                go_wp2_with fail
                go_roundw
                case rel => exact ⟨k + 1, by simp, by omega, below_drewN HBc.out _, nm2, HM.out.1, HM.out.2.1, HQ0.out.trans HM.out.2.2⟩
                case measure => simp [intOf]; omega
            · have dq : (q != 0) = true := by simpa using hq
              have HQF : Hid (quarterE wd xs wind voice qs = q) := Lib.hid (by rw [HQE.out, HH0.out, HAE.out, if_neg (by simp), if_neg (by simp), HQ0.out]; exact N1.out hq)
              clear hq
              go_wp2_with fail
              go_ret
              exact ⟨by rw [HQF.out]; rfl, join HB.out HBc.out⟩
        · obtain rfl : k = qs.length := by omega
          rw [List.drop_length] at HQ0
          have HQF : Hid (quarterE wd xs wind voice qs = 0) := Lib.hid (by rw [HQE.out, HH0.out, HAE.out, if_neg (by simp), if_neg (by simp), HQ0.out]; rfl)
          go_wp2_with fail
          go_ret
          exact ⟨by rw [HQF.out]; rfl, join HB.out HBk.out⟩
    · have d1 : (ae != 0) = true := by simpa using h1
      have HQF : Hid (quarterE wd xs wind voice qs = ae) := Lib.hid (by rw [HQE.out, HH0.out, if_neg (by simp), if_pos h1])
      clear h1
      go_wp2_with fail
      go_ret
      exact ⟨by rw [HQF.out]; rfl, join HB.out HB2.out⟩
  · have d0 : (ce != 0) = true := by simpa using h0
    have HQF : Hid (quarterE wd xs wind voice qs = ce) := Lib.hid (by rw [HQE.out, if_pos h0])
    clear h0
    go_wp2_with fail
    go_ret
    exact ⟨by rw [HQF.out]; rfl, join HB.out HB2.out⟩
end Go.Proofs.Ytimedmkpenbmkaa
end
section
namespace Go.Proofs.Ytimedmkpenbmkaa
open Go.RowKit Go.Shelf
set_option linter.unusedSimpArgs false
set_option linter.unusedVariables false
def goL (f : List Int → List (List Int)) : List Int → List (List Int)
  | [] => []
  | x :: r => (f r).map (x :: ·) ++ goL f r
def listsP : Nat → List Int → List (List Int)
  | 0 => fun _ => [[]]
  | m + 1 => goL (listsP m)
def goTo (f : List Int → List (List Int)) (l : List Int) : Nat → List (List Int)
  | 0 => []
  | i + 1 => goTo f l i ++ (f (l.drop (i + 1))).map (l.getD i 0 :: ·)
theorem goTo_cons (f : List Int → List (List Int)) (x : Int) (r : List Int) : ∀ i, goTo f (x :: r) (i + 1) = (f r).map (x :: ·) ++ goTo f r i
  | 0 => by simp [goTo]
  | i + 1 => by
    rw [goTo, goTo_cons f x r i]
    show _ = _ ++ (goTo f r i ++ _)
    rw [← List.append_assoc]
    rfl
theorem goTo_all (f : List Int → List (List Int)) : ∀ l : List Int, goTo f l l.length = goL f l
  | [] => rfl
  | x :: r => by
    show goTo f (x :: r) (r.length + 1) = _
    rw [goTo_cons, goTo_all f r]; rfl
theorem lists_many : ∀ (m : Nat) (l : List Int), (listsP m l).length ≤ 2 ^ l.length
  | 0, l => by show 1 ≤ _; exact Nat.one_le_two_pow
  | m + 1, [] => Nat.zero_le _
  | m + 1, x :: r => by
    have h1 := lists_many m r
    have h2 := lists_many (m + 1) r
    show ((listsP m r).map (x :: ·) ++ goL (listsP m) r).length ≤ 2 ^ (r.length + 1)
    rw [List.length_append, List.length_map, Nat.pow_succ]
    have h3 : (goL (listsP m) r).length ≤ 2 ^ r.length := h2
    omega
theorem lists_len : ∀ (m : Nat) (l : List Int), ∀ L ∈ listsP m l, L.length = m
  | 0, l, L, h => by
    have : L = [] := by simpa [listsP] using h
    rw [this]; rfl
  | m + 1, [], L, h => by cases h
  | m + 1, x :: r, L, h => by
    have h : L ∈ (listsP m r).map (x :: ·) ++ goL (listsP m) r := h
    rcases List.mem_append.1 h with h | h
    · obtain ⟨L', hL, rfl⟩ := List.mem_map.1 h
      simp [lists_len m r L' hL]
    · exact lists_len (m + 1) r L h
theorem goTo_len (m : Nat) (l : List Int) : ∀ i, i ≤ l.length → (goTo (listsP m) l i).length ≤ 2 ^ l.length := by
  intro i hi
  have key : ∀ (d i : Nat), i + d = l.length → (goTo (listsP m) l i).length ≤ (goTo (listsP m) l l.length).length := by
    intro d
    induction d with
    | zero => intro i h; rw [show i = l.length by omega]; exact Nat.le_refl _
    | succ d ih =>
      intro i h
      refine Nat.le_trans ?_ (ih (i + 1) (by omega))
      rw [goTo, List.length_append]; omega
  refine Nat.le_trans (key (l.length - i) i (by omega)) ?_
  rw [goTo_all]
  exact lists_many (m + 1) l
/-- a row of slices that is owned, with owned rows of numbers in it -/
structure OwL (W : World) (base : Nat) (v : Value) (ls : List (List Int)) (vs : List Value) : Prop where
  own : W.ownsRow base 31 1 v ls.length vs
  el : ∀ j, j < ls.length → W.ownsRow base 3 1 (vs.getD j (.slice none 0 0)) (ls.getD j []).length ((ls.getD j []).map (Value.int .i64)) ∧ (ls.getD j [] = [] → vs.getD j (.slice none 0 0) = .slice none 0 0)
theorem OwL.below {W W' : World} {base : Nat} {v : Value} {ls : List (List Int)} {vs : List Value} (h : OwL W base v ls vs) (hB : Below W.heap.size W W') : OwL W' base v ls vs :=
  ⟨own_below h.own hB, fun j hj => ⟨own_below (h.el j hj).1 hB, (h.el j hj).2⟩⟩
theorem OwL.base {W : World} {b b' : Nat} {v : Value} {ls : List (List Int)} {vs : List Value} (h : OwL W b v ls vs) (hb : b' ≤ b) : OwL W b' v ls vs :=
  ⟨own_base h.own hb, fun j hj => ⟨own_base (h.el j hj).1 hb, (h.el j hj).2⟩⟩
theorem own_ty {W : World} {base base' : Nat} {e e' : TypeId} {s s' : Nat} {u v : Value} {n n' : Nat} {xs ys : List Value} (h : W.ownsRow base e s u n xs) (k : W.ownsRow base' e' s' v n' ys) (hne : e ≠ e') : u.ownBlock = none ∨ u.ownBlock ≠ v.ownBlock := by
  rcases h.2 with ⟨rfl, _⟩ | ⟨g, cap, cur, rfl, _, hg, _⟩
  · exact .inl rfl
  · rcases k.2 with ⟨rfl, _⟩ | ⟨g', cap', cur', rfl, _, hg', _⟩
    · right; simp [Value.ownBlock]
    · right
      intro e1
      simp only [Value.ownBlock, Option.some.injEq] at e1
      rw [e1, hg'] at hg
      injection hg with hg
      injection hg with _ hg
      exact hne hg.symm
/-- one list more -/
theorem OwL.more {W W' : World} {base : Nat} {v v' : Value} {ls : List (List Int)} {vs : List Value} (h : OwL W base v ls vs) (hg : W.grownBy W' v.ownBlock) {u : Value} {l : List Int} (hl : l ≠ []) (ho : W'.ownsRow base 31 1 v' (ls.length + 1) (vs ++ [u])) (hu : W'.ownsRow base 3 1 u l.length (l.map (Value.int .i64))) : OwL W' base v' (ls ++ [l]) (vs ++ [u]) := by
  have hvl : vs.length = ls.length := by have := h.own.1; simpa using this
  refine ⟨by rw [List.length_append]; exact ho, fun j hj => ?_⟩
  rw [List.length_append, List.length_singleton] at hj
  by_cases e : j < ls.length
  · have e1 : (vs ++ [u]).getD j (.slice none 0 0) = vs.getD j (.slice none 0 0) := by rw [List.getD_eq_getElem?_getD, List.getD_eq_getElem?_getD, List.getElem?_append_left (by omega)]
    have e2 : (ls ++ [l]).getD j [] = ls.getD j [] := by rw [List.getD_eq_getElem?_getD, List.getD_eq_getElem?_getD, List.getElem?_append_left e]
    rw [e1, e2]
    obtain ⟨a, b⟩ := h.el j e
    exact ⟨a.kept (row := v.ownBlock) hg (own_ty a h.own (by decide)), b⟩
  · have e0 : j = ls.length := by omega
    subst e0
    have e1 : (vs ++ [u]).getD ls.length (.slice none 0 0) = u := by rw [List.getD_eq_getElem?_getD, ← hvl]; simp
    have e2 : (ls ++ [l]).getD ls.length [] = l := by rw [List.getD_eq_getElem?_getD]; simp
    rw [e1, e2]
    exact ⟨hu, fun e => absurd e hl⟩
theorem OwL.cell {W : World} {base : Nat} {v : Value} {ls : List (List Int)} {vs : List Value} (h : OwL W base v ls vs) (hne : ls ≠ []) : ∃ g cap, v = .slice (some ⟨g, 0, none⟩) ls.length cap ∧ g < W.heap.size ∧ ls.length ≤ cap ∧ ∀ j, j < ls.length → W.cell? ⟨g, j, none⟩ = some (vs.getD j (.slice none 0 0)) := by
  rcases h.own.2 with ⟨_, h0⟩ | ⟨g, cap, cur, hv, _, hg, hn, _, _, ht⟩
  · exact absurd (List.length_eq_zero_iff.1 h0) hne
  · refine ⟨g, cap, hv, (Array.getElem?_eq_some_iff.1 hg).1, hn, fun j hj => ?_⟩
    have hvl : vs.length = ls.length := by have := h.own.1; simpa using this
    rw [cell_of_row _ _ _ _ _ _ hg]
    have : cur.toList[j]? = vs[j]? := by rw [← ht, List.getElem?_take, if_pos (by omega)]
    rw [Array.getElem?_toList] at this
    rw [this, List.getD_eq_getElem?_getD, List.getElem?_eq_getElem (by omega)]; rfl
theorem A_und62 : Try.prog.underlying 62 = some (.slice 31) := by kernel_rfl
theorem append_which31 (w : World) (base : Nat) (tv : Value) (n : Nat) (xs : List Value) (x : Value) (hx1 : x.oneCell' = true) (hown : w.ownsRow base 31 1 tv n xs) (hb : base ≤ w.heap.size) (hn : n ≤ 10000000) (a : Addr) (ha : w.cell? (a.add 0) = some x) :
    ∃ v' w', (Builtin.append_ #[62, 62] 62 #[tv, .slice (some a) 1 1]).run Try.prog w = .ok v' w' ∧ w'.ownsRow base 31 1 v' (n + 1) (xs ++ [x]) ∧ w.grownBy w' tv.ownBlock ∧ w'.ownsRow base 31 1 tv n xs ∧ (v'.ownBlock = tv.ownBlock ∨ v'.ownBlock = some w.heap.size) := by
  obtain ⟨i0, hi, hz0, hz1, hz2⟩ := info_parts A_info31
  have hnews : ∀ j u, [x][j]? = some u → w.cell? (a.add j) = some u := fun j u hj => by
    match j, hj with
    | 0, hj => simp at hj; subst hj; exact ha
  obtain ⟨v', w', hr, h2, h3, h4⟩ := run_append_own (P := Try.prog) w base 62 62 31 i0 (.slice none 0 0) 1 24 A_und62 hi hz0 hz1 hz2 rfl (by decide) tv n xs hown a 1 1 [x] rfl hnews (by simpa using hx1) (by unfold maxLen; omega) (by omega) hb
  refine ⟨v', w', hr, h2, h3, ?_⟩
  rcases hown.2 with ⟨rfl, rfl⟩ | ⟨g, cap, cur, rfl, hbg, hg, hnc, hcm, hcs, htake⟩
  · have hx : xs = [] := List.eq_nil_of_length_eq_zero (by simpa using hown.1)
    subst hx
    have hr2 := run_append_nil (P := Try.prog) w 62 62 31 i0 (.slice none 0 0) A_und62 hi hz0 a 1 1 [x] (by rw [hz1]; rfl) hnews (by omega) (by omega) (by rw [hz2]; omega)
    rw [hr2] at hr
    injection hr with hv hw
    refine ⟨World.ownsRow_nil _ _ _ _, ?_⟩
    right; rw [← hv]; rfl
  · by_cases hroom : n + 1 ≤ cap
    · have hr2 := run_append_room (P := Try.prog) w 62 62 31 i0 A_und62 hi g n cap cur hg a 1 1 [x] (by rw [hz1]; rfl) hnews (by simpa using hx1) hroom (by rw [hcs, hz1]; simp; omega)
      rw [hr2] at hr
      injection hr with hv hw
      subst hv
      refine ⟨?_, .inl rfl⟩
      refine ⟨hown.1, .inr ?_⟩
      rcases h2.2 with ⟨h5, _⟩ | ⟨g', cap', cur', h5, h6, h7, h8, h9, h10, h11⟩
      · cases h5
      · injection h5 with e1 e2 e3
        injection e1 with e1
        injection e1 with e1
        subst e1 e3
        refine ⟨_, _, cur', rfl, hbg, h7, hnc, hcm, h10, ?_⟩
        have h12 : (cur'.toList.take ((n + 1) * 1)).take (n * 1) = xs := by
          rw [h11, List.take_append_of_le_length (by rw [hown.1]; exact Nat.le_refl _), List.take_of_length_le (by rw [hown.1]; exact Nat.le_refl _)]
        rw [List.take_take, Nat.min_eq_left (by omega)] at h12
        exact h12
    · have holds : ∀ j u, xs[j]? = some u → w.cell? ((⟨g, 0, none⟩ : Addr).add j) = some u := hown.cells (g := g) rfl
      have hr2 := run_append_grow (P := Try.prog) w 62 62 31 i0 (.slice none 0 0) A_und62 hi hz0 ⟨g, 0, none⟩ n cap xs (by rw [hz1]; exact hown.1) holds a 1 1 [x] (by rw [hz1]; rfl) hnews (by omega) (by omega) (by rw [hz2]; exact growslice_fits (by omega) (by omega))
      rw [hr2] at hr
      injection hr with hv hw
      refine ⟨?_, .inr (by rw [← hv]; rfl)⟩
      rw [← hw]
      exact hown.kept (row := none) ⟨rfl, rfl, rfl, by simp, fun k hk _ => heap_alloc_old w.drew _ k hk⟩ (by right; simp [Value.ownBlock])
/-- a list behind one number, as a row of its own -/
theorem append_head (w : World) (B g : Nat) (x : Int) (u : Value) (l : List Int) (hB : B ≤ g) (hg : w.heap[g]? = some (.cells #[.int .i64 x] 3 (0, 0))) (hl : l.length ≤ 1000000) (base : Nat) (hu : w.ownsRow base 3 1 u l.length (l.map (Value.int .i64))) (h0 : l = [] → u = .slice none 0 0) :
    ∃ v' w', (Builtin.append_ #[31, 31] 31 #[.slice (some ⟨g, 0, none⟩) 1 1, u]).run Try.prog w = .ok v' w' ∧ w'.ownsRow B 3 1 v' (l.length + 1) ((x :: l).map (Value.int .i64)) ∧ Below w.heap.size w w' := by
  obtain ⟨i0, hi, hz0, hz1, hz2⟩ := info_parts A_info3
  have hgl : g < w.heap.size := (Array.getElem?_eq_some_iff.1 hg).1
  have hown1 : w.ownsRow B 3 1 (.slice (some ⟨g, 0, none⟩) 1 1) 1 [.int .i64 x] := ⟨rfl, .inr ⟨g, 1, #[.int .i64 x], rfl, hB, hg, Nat.le_refl _, by unfold maxLen; omega, rfl, rfl⟩⟩
  by_cases hl0 : l = []
  · subst hl0
    rw [h0 rfl]
    exact ⟨_, w, run_append_owned_none (P := Try.prog) w B 31 31 3 i0 1 A_und31 hi _ 1 _ hown1, hown1, Below.refl _ _⟩
  · rcases hu.2 with ⟨_, h1⟩ | ⟨g2, cap, cur, rfl, _, hg2, hn2, _, _, ht⟩
    · exact absurd (List.length_eq_zero_iff.1 h1) hl0
    · have hpos := List.length_pos_iff.2 hl0
      obtain ⟨v', w', hr, ho, hgr⟩ := run_append_arg_grows (P := Try.prog) (w := w) 31 31 3 i0 (.int .i64 0) 1 8 A_und31 hi hz0 hz1 hz2 rfl (by decide) ⟨g, 0, none⟩ 1 1 [.int .i64 x] rfl (hown1.cells (g := g) rfl) ⟨g2, 0, none⟩ l.length cap (l.map (Value.int .i64)) (by simp) (hu.cells (g := g2) rfl) (by omega) (by unfold maxLen; omega) (by omega)
      refine ⟨v', w', hr, ?_, ⟨hgr.os, hgr.tape, hgr.output, hgr.size, fun k hk => hgr.block k hk (by simp)⟩⟩
      rw [Nat.add_comm 1] at ho
      exact own_base ho (by omega)
def GLs (base : Nat) (tv : Value) (n : Nat) (vs : List Value) (a b : World) : Prop := a.grownBy b tv.ownBlock ∧ (a.ownsRow base 31 1 tv n vs → b.ownsRow base 31 1 tv n vs)
def gLs (base : Nat) (tv : Value) (n : Nat) (vs : List Value) (i : Nat) (a b : World) : Prop := if i = 12 then GLs base tv n vs a b else Below a.heap.size a b
theorem gLs_isGr (base : Nat) (tv : Value) (n : Nat) (vs : List Value) : Rg.IsGr (GLs base tv n vs) where
  refl w := ⟨⟨rfl, rfl, rfl, Nat.le_refl _, fun _ _ _ => rfl⟩, fun h => h⟩
  drew w := ⟨⟨rfl, rfl, rfl, Nat.le_refl _, fun _ _ _ => rfl⟩, fun h => h⟩
  trans h k := ⟨grown_trans h.1 k.1, fun o => k.2 (h.2 o)⟩
theorem gLs_all (base : Nat) (tv : Value) (n : Nat) (vs : List Value) (i : Nat) (a b : World) (h : gLs base tv n vs i a b) : GLs base tv n vs a b := by
  unfold gLs at h
  split at h
  · exact h
  · exact ⟨below_grownBy h, fun o => own_below o h⟩
theorem gLs_refl (base : Nat) (tv : Value) (n : Nat) (vs : List Value) (i : Nat) (a : World) : gLs base tv n vs i a a := by
  unfold gLs
  split
  · exact (gLs_isGr base tv n vs).refl a
  · exact Below.refl _ _
theorem gLs_of {base : Nat} {tv : Value} {n : Nat} {vs : List Value} {i : Nat} {a b : World} (hi : i ≠ 12) (h : Below a.heap.size a b) : gLs base tv n vs i a b := by unfold gLs; rw [if_neg hi]; exact h
def spLs (tv av : Value) (i : Nat) (pb po : Nat) (x : Int) (rv : Value) (k : Nat) (qb qo : Nat) (uv : Value) (l : List Int) (base B n : Nat) (vs : List Value) : Nat → Bool → List Value → Value → World → Prop
  | 0, _, _, v, _ => v = tv
  | 1, _, _, v, _ => v = av
  | 2, _, _, v, _ => v = .int .i64 i
  | 3, _, _, v, _ => v = .pointer (some ⟨pb, po, none⟩)
  | 4, _, _, v, _ => v = .int .i64 x
  | 5, _, _, v, w => ∃ g, v = .slice (some ⟨g, 0, none⟩) 1 1 ∧ B ≤ g ∧ w.heap[g]? = some (.cells #[.int .i64 x] 3 (0, 0))
  | 6, _, _, v, _ => v = rv
  | 7, _, _, v, _ => v = .int .i64 k
  | 8, _, _, v, _ => v = .pointer (some ⟨qb, qo, none⟩)
  | 9, _, _, v, _ => v = uv
  | 10, _, _, v, w => w.ownsRow B 3 1 v (l.length + 1) ((x :: l).map (Value.int .i64))
  | 11, _, L, v, w => ∃ g, v = .slice (some ⟨g, 0, none⟩) 1 1 ∧ B ≤ g ∧ w.heap[g]? = some (.cells #[L.getD 9 undef] 31 (0, 0)) ∧ (L.getD 9 undef).oneCell' = true
  | 12, c, L, v, w => c = true ∧ w.ownsRow base 31 1 v (n + 1) (vs ++ [L.getD 10 undef]) ∧ (v.ownBlock = tv.ownBlock ∨ ∃ g, v.ownBlock = some g ∧ B ≤ g)
  | 13, c, L, v, w => c = true ∧ w.ownsRow base 31 1 v (n + 1) (vs ++ [L.getD 10 undef]) ∧ (v.ownBlock = tv.ownBlock ∨ ∃ g, v.ownBlock = some g ∧ B ≤ g)
  | _, _, _, _, _ => False
theorem spLs_stable (tv av : Value) (i : Nat) (pb po : Nat) (x : Int) (rv : Value) (k : Nat) (qb qo : Nat) (uv : Value) (l : List Int) (base B n : Nat) (vs : List Value) (hB : ∀ g, tv.ownBlock = some g → g < B) :
    ∀ i' c w w', (i' = 12 → c = false) → gLs base tv n vs i' w w' → ∀ j D v, spLs tv av i pb po x rv k qb qo uv l base B n vs j c D v w → spLs tv av i pb po x rv k qb qo uv l base B n vs j (c || i' == 12) D v w' := by
  intro i' c w w' hc hg j D v h
  have hG := (gLs_all _ _ _ _ _ _ _ hg).1
  have hblk : ∀ g, B ≤ g → g < w.heap.size → w'.heap[g]? = w.heap[g]? := fun g hb hl => hG.block g hl (fun e => by have := hB g e.symm; omega)
  have hrow : ∀ {e : TypeId} {u : Value} {n : Nat} {ys : List Value}, w.ownsRow B e 1 u n ys → w'.ownsRow B e 1 u n ys := fun {e u n ys} ho => by
    refine ho.kept hG ?_
    rcases ho.2 with ⟨rfl, _⟩ | ⟨g, cap, cur, rfl, hb, _⟩
    · exact .inl rfl
    · right
      intro e1
      have := hB g (by rw [← e1]; rfl)
      omega
  match j with
  | 0 => exact h
  | 1 => exact h
  | 2 => exact h
  | 3 => exact h
  | 4 => exact h
  | 5 => obtain ⟨g, h1, h2, h3⟩ := h; exact ⟨g, h1, h2, (hblk g h2 (Array.getElem?_eq_some_iff.1 h3).1).trans h3⟩
  | 6 => exact h
  | 7 => exact h
  | 8 => exact h
  | 9 => exact h
  | 10 => exact hrow h
  | 11 => obtain ⟨g, h1, h2, h3, h4⟩ := h; exact ⟨g, h1, h2, (hblk g h2 (Array.getElem?_eq_some_iff.1 h3).1).trans h3, h4⟩
  | 12 =>
    obtain ⟨h0, h1, h2⟩ := h
    have h12 : i' ≠ 12 := fun e => by have := hc e; rw [h0] at this; cases this
    have hb : Below w.heap.size w w' := by unfold gLs at hg; rw [if_neg h12] at hg; exact hg
    exact ⟨by rw [h0]; rfl, own_below h1 hb, h2⟩
  | 13 =>
    obtain ⟨h0, h1, h2⟩ := h
    have h12 : i' ≠ 12 := fun e => by have := hc e; rw [h0] at this; cases this
    have hb : Below w.heap.size w w' := by unfold gLs at hg; rw [if_neg h12] at hg; exact hg
    exact ⟨by rw [h0]; rfl, own_below h1 hb, h2⟩
end Go.Proofs.Ytimedmkpenbmkaa
end
section
namespace Go.Proofs.Ytimedmkpenbmkaa
open Go.RowKit Go.Shelf
set_option linter.unusedSimpArgs false
set_option linter.unusedVariables false
theorem RdI.drop {w : World} {b o n q k : Nat} {l : List Int} (hn : n = (l.drop k).length) (hk : k ≤ l.length) (hl : l.length ≤ 1000000) (h : Ints w b o l) : RdI w (.slice (some ⟨b, o + k, none⟩) n q) (l.drop k) := by
  subst hn
  refine ⟨by rw [List.length_drop]; omega, some ⟨b, o + k, none⟩, q, rfl, fun _ => ⟨b, o + k, rfl, h.1, fun i hi => ?_⟩⟩
  rw [List.length_drop] at hi
  rw [show o + k + i = o + (k + i) by omega, h.2 (k + i) (by omega), List.getD_eq_getElem?_getD, List.getD_eq_getElem?_getD, List.getElem?_drop]
set_option maxHeartbeats 4000000 in
set_option maxRecDepth 100000 in
theorem Lists_any : ∀ (m : Nat) (a : Option Addr) (cap : Nat) (l : List Int), m ≤ 30 → l.length ≤ 20 → l.length ≤ cap → ∀ w, RdI w (.slice a l.length cap) l →
    Calls Try.prog 108 #[.slice a l.length cap, .int .i64 (m : Nat)] w fun e w' => ∃ v vs, e = .returned v ∧ OwL w' w.heap.size v (listsP m l) vs ∧ Below w.heap.size w w'
  | 0, a, cap, l, hm, hl, hc, w, hR => by
    have hw : (w.alloc (.cells #[.slice none 0 0] 31)).heap[w.heap.size]? = some (.cells #[.slice none 0 0] 31 (0, 0)) := heap_alloc_last _ _
    have HF : Hid (∃ vs, OwL (w.alloc (.cells #[.slice none 0 0] 31)) w.heap.size (.slice (some ⟨w.heap.size, 0, none⟩) 1 1) (listsP 0 l) vs) := Lib.hid ⟨[.slice none 0 0], ⟨rfl, .inr ⟨w.heap.size, 1, #[.slice none 0 0], rfl, Nat.le_refl _, hw, Nat.le_refl _, by unfold maxLen; omega, rfl, rfl⟩⟩, fun j hj => by
      have h0 : j = 0 := by have : (listsP 0 l).length = 1 := rfl; omega
      subst h0
      exact ⟨own_none _ _ _ _, fun _ => rfl⟩⟩
    clear hw hR
    go_enter Try.func108, Try.ntmps108
    go_wp2_with fail
    go_ret
    obtain ⟨vs, h⟩ := HF.out
    exact ⟨_, vs, rfl, h, below1 _ _⟩
  | m + 1, a, cap, l, hm, hl, hc, w, hR => by
    have HR := Lib.hid hR
    have HIH := Lib.hid (Lists_any m)
    have hd0 : (((m + 1 : Nat) : Int) == 0) = false := by simp; omega
    have hd1 : ((m + 1 : Nat) : Int) - 1 = (m : Int) := by omega
    obtain ⟨M1, hM1⟩ : ∃ M1 : Int, M1 = ((m + 1 : Nat) : Int) := ⟨_, rfl⟩
    rw [← hM1] at hd0 hd1 ⊢
    have hM2 : 1 ≤ M1 := by omega
    have hM3 : M1 ≤ 31 := by omega
    clear hR hM1
    go_enter Try.func108, Try.ntmps108
    go_wp2_with fail
    go_loopw [5, 6] (fun v i wr => ∃ (k : Nat) (vs : List Value), i = .int .i64 k ∧ k ≤ l.length ∧ OwL wr w.heap.size v (goTo (listsP m) l k) vs ∧ Below w.heap.size w wr) (fun _ i _ => l.length - (intOf i).toNat)
    case atStart => exact ⟨0, [], rfl, Nat.zero_le _, ⟨own_none _ _ _ _, fun j hj => absurd hj (Nat.not_lt_zero _)⟩, Below.refl _ _⟩
    case round =>
      obtain ⟨k, vs, rfl, hk, hO, hB⟩ := hrel
      obtain ⟨wk, rfl⟩ : ∃ wk : World, wk = wr := ⟨_, rfl⟩
      have HO := Lib.hid hO
      have HB := Lib.hid hB
      have hzk := hB.size
      clear hO
      by_cases hlt : k < l.length
      · have hlt' : (k : Int) < l.length := by omega
        obtain ⟨b, o, rfl, -, hI0⟩ := rd_ints HR.out (by intro e; rw [e] at hlt; simp at hlt)
        have hbw := hI0.1
        have HI := Lib.hid (hI0.below hB hI0.1)
        have hI0' := Lib.hid hI0
        have hk1 : (k : Int) + 1 ≤ l.length := by omega
        have hk1n : k + 1 ≤ l.length := by omega
        have hdl : (l.drop (k + 1)).length = l.length - (k + 1) := List.length_drop
        have HDL := Lib.hid hdl
        clear hI0 hB hdl
        go_upto_region 7 with fail
        go_cut [7] from 18 to 24 (fun s7 wx => ∃ vs2, OwL wx wk.heap.size s7 (listsP m (l.drop (k + 1))) vs2 ∧ Below wk.heap.size wk wx)
        case first =>
          go_wp2_with fail
          · obtain rfl : cap = k + 1 := by omega
            have hdn : l.drop (k + 1) = [] := List.length_eq_zero_iff.1 (by rw [HDL.out]; omega)
            have hq := HIH.out (some ⟨b, o, none⟩) 0 (l.drop (k + 1)) (by omega) (by rw [HDL.out]; omega) (by rw [hdn]; simp) wk (by rw [hdn]; exact ⟨by simp, some ⟨b, o, none⟩, 0, rfl, fun h => absurd rfl h⟩)
            rw [HDL.out] at hq
            refine hq.mono ?_
            rintro e w5 ⟨v, vs2, rfl, h1, h2⟩
            have H12 := Lib.hid (And.intro h1 h2)
            clear h1 h2 hq hdn
            go_wp2_with fail
            go_meet
            exact ⟨vs2, H12.out.1, H12.out.2⟩
          · have hq := HIH.out (some ⟨b, o + (k + 1), none⟩) (cap - (k + 1)) (l.drop (k + 1)) (by omega) (by rw [HDL.out]; omega) (by rw [HDL.out]; omega) wk (RdI.drop rfl (by omega) (by omega) HI.out)
            rw [HDL.out] at hq
            refine hq.mono ?_
            rintro e w5 ⟨v, vs2, rfl, h1, h2⟩
            have H12 := Lib.hid (And.intro h1 h2)
            clear h1 h2 hq
            go_wp2_with fail
            go_meet
            exact ⟨vs2, H12.out.1, H12.out.2⟩
        case rest =>
          obtain ⟨vs2, hR2, hBc⟩ := hcut
          have hO2 := HO.out.below hBc
          have hdis : u5.ownBlock = none ∨ u5.ownBlock ≠ u7.ownBlock := by
            rcases HO.out.own.2 with ⟨h1, _⟩ | ⟨g, cp, cur, h1, _, hg, _⟩
            · exact .inl (by rw [h1]; rfl)
            · right
              intro e
              rcases hR2.own.2 with ⟨h2, _⟩ | ⟨g2, cp2, cur2, h2, hb2, _⟩
              · rw [h1, h2] at e; cases e
              · rw [h1, h2] at e
                simp only [Value.ownBlock, Option.some.injEq] at e
                have := (Array.getElem?_eq_some_iff.1 hg).1
                omega
          have hR3 : OwL wc w.heap.size u7 (listsP m (l.drop (k + 1))) vs2 := hR2.base hzk
          have HBc := Lib.hid (join HB.out hBc)
          have hRl : (listsP m (l.drop (k + 1))).length ≤ 1048576 := Nat.le_trans (lists_many m _) (Nat.le_trans (Nat.pow_le_pow_right (by omega) (show (l.drop (k + 1)).length ≤ 20 by rw [HDL.out]; omega)) (by decide))
          have hgl : (goTo (listsP m) l k).length ≤ 1048576 := Nat.le_trans (goTo_len m l k (by omega)) (Nat.le_trans (Nat.pow_le_pow_right (by omega) hl) (by decide))
          have HLN := Lib.hid (lists_len m (l.drop (k + 1)))
          have HNX : Hid (goTo (listsP m) l (k + 1) = goTo (listsP m) l k ++ (listsP m (l.drop (k + 1))).map (l.getD k 0 :: ·)) := Lib.hid rfl
          obtain ⟨R, hR⟩ : ∃ R, R = listsP m (l.drop (k + 1)) := ⟨_, rfl⟩
          obtain ⟨x, hx⟩ : ∃ x, x = l.getD k 0 := ⟨_, rfl⟩
          obtain ⟨G0, hG0⟩ : ∃ G0, G0 = goTo (listsP m) l k := ⟨_, rfl⟩
          rw [← hR] at hR3 hRl HLN HNX
          rw [← hx] at HNX
          rw [← hG0] at HNX hO2 hgl
          have HX := Lib.hid hx
          have HO2 := Lib.hid hO2
          have HR3 := Lib.hid hR3
          have HDIS := Lib.hid hdis
          clear hO2 hR3 hdis hR2 hBc hR hx hG0
          go_wp2_with fail
          go_loopw [5, 8] (fun v j wq => ∃ (q : Nat) (vs3 : List Value), j = .int .i64 q ∧ q ≤ R.length ∧ OwL wq w.heap.size v (G0 ++ (R.take q).map (x :: ·)) vs3 ∧ OwL wq w.heap.size u7 R vs2 ∧ (v.ownBlock = none ∨ v.ownBlock ≠ u7.ownBlock) ∧ Below w.heap.size w wq) (fun _ j _ => R.length - (intOf j).toNat)
          case atStart => exact ⟨0, vs, rfl, Nat.zero_le _, by simpa using HO2.out, HR3.out, HDIS.out, HBc.out⟩
          case round =>
            obtain ⟨q, vs3, rfl, hq, hO3, hR3, hd3, hB3⟩ := hrel
            obtain ⟨wq, rfl⟩ : ∃ wq : World, wq = wr := ⟨_, rfl⟩
            have hzq := hB3.size
            by_cases hql : q < R.length
            · obtain ⟨rg, rcap, hrv, hrg, hrc, hcell⟩ := hR3.cell (by intro e; rw [e] at hql; simp at hql)
              subst hrv
              have hql' : (q : Int) < R.length := by omega
              have hel := hR3.el q hql
              have cu := hcell q hql
              have hI := HI.out
              have hln : (R.getD q []).length = m := HLN.out _ (by rw [List.getD_eq_getElem?_getD, List.getElem?_eq_getElem hql]; exact List.getElem_mem _)
              have hnext : G0 ++ (R.take (q + 1)).map (x :: ·) = (G0 ++ (R.take q).map (x :: ·)) ++ [x :: R.getD q []] := by
                rw [List.take_succ_eq_append_getElem hql, List.map_append, ← List.append_assoc, List.getD_eq_getElem?_getD, List.getElem?_eq_getElem hql]; rfl
              obtain ⟨lq, hlq⟩ : ∃ lq, lq = R.getD q [] := ⟨_, rfl⟩
              obtain ⟨uv, huv⟩ : ∃ uv, uv = vs2.getD q (.slice none 0 0) := ⟨_, rfl⟩
              obtain ⟨L3, hL3⟩ : ∃ L3, L3 = G0 ++ (R.take q).map (x :: ·) := ⟨_, rfl⟩
              rw [← hlq] at hel hln hnext
              rw [← huv] at hel cu
              rw [← hL3] at hO3 hnext
              have hL3n : L3.length ≤ 5000000 := by rw [hL3, List.length_append, List.length_map, List.length_take]; omega
              obtain ⟨n5, hn5⟩ : ∃ n5, n5 = L3.length := ⟨_, rfl⟩
              have ck : wq.cell? ⟨b, o + k, none⟩ = some (.int .i64 x) := by
                have h2 := (hI0'.out.below hB3 hbw).2 k hlt
                rw [h2, HX.out]
              have hbq : b < wq.heap.size := by omega
              have hBlt : ∀ g, u5.ownBlock = some g → w.heap.size ≤ g ∧ g < wq.heap.size := fun g hg => by
                rcases hO3.own.2 with ⟨h1, _⟩ | ⟨g', cp, cur, h1, hb', hg', _⟩
                · rw [h1] at hg; cases hg
                · rw [h1] at hg
                  simp only [Value.ownBlock, Option.some.injEq] at hg
                  rw [← hg]
                  exact ⟨hb', (Array.getElem?_eq_some_iff.1 hg').1⟩
              obtain ⟨ua, uc, hus⟩ := own_slice hel.1
              have hrne : some rg ≠ u5.ownBlock := fun e => by
                rcases hd3 with h | h
                · rw [h] at e; cases e
                · exact h (by rw [← e]; rfl)
              have HO3 := Lib.hid hO3
              have HR3 := Lib.hid hR3
              have HEL := Lib.hid hel
              have HD3 := Lib.hid hd3
              have HBL := Lib.hid hBlt
              have HB3 := Lib.hid hB3
              have HNE := Lib.hid hnext
              have HCK := Lib.hid ck
              have HCU := Lib.hid cu
              have HLNQ := Lib.hid hln
              clear hO3 hR3 hel hd3 hB3 hnext ck cu hcell hlq huv hL3 hln
              go_upto_region 11 with fail
              refine Rk.region_gen 12 (gLs w.heap.size u5 L3.length vs3) (gLs_isGr w.heap.size u5 L3.length vs3) (fun i a b h => gLs_all _ _ _ _ i a b h) (fun i a => gLs_refl _ _ _ _ i a) 14 [[], [], [], [1, 2], [1, 2, 3], [1, 2, 3, 4], [], [], [6, 7], [6, 7, 8], [1, 2, 3, 4, 5, 6, 7, 8, 9], [1, 2, 3, 4, 5, 6, 7, 8, 9, 10], [0, 1, 2, 3, 4, 5, 6, 7, 8, 9, 10, 11], [0, 1, 2, 3, 4, 5, 6, 7, 8, 9, 10, 11, 12]] [some 31, some 32, some 33, some 34, some 35, some 36, some 37, some 38, some 39, some 40, some 41, some 42, some 43, some 5] (by omega)
                (spLs u5 (.slice (some ⟨b, o, none⟩) l.length cap) k b (o + k) x (.slice (some ⟨rg, 0, none⟩) R.length rcap) q rg q uv lq w.heap.size wq.heap.size L3.length vs3) (by kernel_rfl) (by kernel_rfl) rfl (spLs_stable _ _ _ _ _ _ _ _ _ _ _ _ _ _ _ _ (fun g hg => (HBL.out g hg).2)) ?_ ?_
              · refine ⟨fun V w' c hG hc hs => ?_, fun V w' c hG hc hs => ?_, fun V w' c hG hc hs => ?_, fun V w' c hG hc hs => ?_, fun V w' c hG hc hs => ?_, fun V w' c hG hc hs => ?_, fun V w' c hG hc hs => ?_, fun V w' c hG hc hs => ?_, fun V w' c hG hc hs => ?_, fun V w' c hG hc hs => ?_, fun V w' c hG hc hs => ?_, fun V w' c hG hc hs => ?_, fun V w' c hG hc hs => ?_, fun V w' c hG hc hs => ?_, trivial⟩
                all_goals
                  have k1 : w'.cell? ⟨b, o + k, none⟩ = some (.int .i64 x) := (World.cell?_of_block (hG.1.block b hbq (by intro e; have := (HBL.out _ e.symm).1; omega))).trans HCK.out
                  have k2 : w'.cell? ⟨rg, q, none⟩ = some uv := (World.cell?_of_block (hG.1.block rg hrg hrne)).trans HCU.out
                  have hsz := hG.1.size
                  rw [if_pos (by rfl)]
                · exact Rk.GrowL.value (v := u5) (w' := w') (by simp [go_sem, Rs.look]) (gLs_refl _ _ _ _ _ _) rfl
                · exact Rk.GrowL.value (v := (.slice (some ⟨b, o, none⟩) l.length cap)) (w' := w') (by simp [go_sem, Rs.look]) (gLs_refl _ _ _ _ _ _) rfl
                · exact Rk.GrowL.value (v := .int .i64 k) (w' := w') (by simp [go_sem, Rs.look]) (gLs_refl _ _ _ _ _ _) rfl
                · have e1 : V 1 = (.slice (some ⟨b, o, none⟩) l.length cap) := hs 1 (by simp)
                  have e2 : V 2 = .int .i64 k := hs 2 (by simp)
                  exact Rk.GrowL.value (v := .pointer (some ⟨b, o + k, none⟩)) (w' := w') (by simp [go_sem, Rs.look, e1, e2, hlt']) (gLs_refl _ _ _ _ _ _) rfl
                · have e3 : V 3 = .pointer (some ⟨b, o + k, none⟩) := hs 3 (by simp)
                  exact Rk.GrowL.value (v := .int .i64 x) (w' := w') (by simp [go_sem, Rs.look, e3, k1]) (gLs_refl _ _ _ _ _ _) rfl
                · have e4 : V 4 = .int .i64 x := hs 4 (by simp)
                  exact Rk.GrowL.value (v := .slice (some ⟨w'.heap.size, 0, none⟩) 1 1) (w' := w'.alloc (.cells #[.int .i64 x] 3)) (by simp [go_sem, Rs.look, e4]) (gLs_of (by decide) (below1 _ _)) ⟨_, rfl, hsz, heap_alloc_last _ _⟩
                · exact Rk.GrowL.value (v := (.slice (some ⟨rg, 0, none⟩) R.length rcap)) (w' := w') (by simp [go_sem, Rs.look]) (gLs_refl _ _ _ _ _ _) rfl
                · exact Rk.GrowL.value (v := .int .i64 q) (w' := w') (by simp [go_sem, Rs.look]) (gLs_refl _ _ _ _ _ _) rfl
                · have e6 : V 6 = (.slice (some ⟨rg, 0, none⟩) R.length rcap) := hs 6 (by simp)
                  have e7 : V 7 = .int .i64 q := hs 7 (by simp)
                  exact Rk.GrowL.value (v := .pointer (some ⟨rg, q, none⟩)) (w' := w') (by simp [go_sem, Rs.look, e6, e7, hql']) (gLs_refl _ _ _ _ _ _) rfl
                · have e8 : V 8 = .pointer (some ⟨rg, q, none⟩) := hs 8 (by simp)
                  exact Rk.GrowL.value (v := uv) (w' := w') (by rw [hus] at k2 ⊢; simp [go_sem, Rs.look, e8, k2]) (gLs_refl _ _ _ _ _ _) rfl
                · obtain ⟨g5, e5, hg5, hc5⟩ : ∃ g, V 5 = .slice (some ⟨g, 0, none⟩) 1 1 ∧ wq.heap.size ≤ g ∧ w'.heap[g]? = some (.cells #[.int .i64 x] 3 (0, 0)) := hs 5 (by simp)
                  have e9 : V 9 = uv := hs 9 (by simp)
                  have hu' : w'.ownsRow w.heap.size 3 1 uv lq.length (lq.map (Value.int .i64)) := HEL.out.1.kept (row := u5.ownBlock) hG.1 (own_ty HEL.out.1 HO3.out.own (by decide))
                  obtain ⟨v', w8, hr, ho, hb8⟩ := append_head w' wq.heap.size g5 x uv lq hg5 hc5 (by have := HLNQ.out; omega) w.heap.size hu' HEL.out.2
                  exact Rk.GrowL.value (v := v') (w' := w8) (exec_append2 rfl rfl (by simp [Rs.look, e5]) (by simp [Rs.look, e9]) hr) (gLs_of (by decide) hb8) ho
                · have r10 : w'.ownsRow wq.heap.size 3 1 (V 10) (lq.length + 1) ((x :: lq).map (Value.int .i64)) := hs 10 (by simp)
                  obtain ⟨a10, c10, e10⟩ := own_slice r10
                  refine Rk.GrowL.value (v := .slice (some ⟨w'.heap.size, 0, none⟩) 1 1) (w' := w'.alloc (.cells #[V 10] 31)) (by rw [e10]; simp [go_sem, Rs.look, e10]) (gLs_of (by decide) (below1 _ _)) ⟨_, rfl, hsz, heap_alloc_last _ _, ?_⟩
                  show (V 10).oneCell' = true
                  rw [e10]; rfl
                · have e0 : V 0 = u5 := hs 0 (by simp)
                  obtain ⟨g11, e11, hg11, hc11, h1c⟩ : ∃ g, V 11 = .slice (some ⟨g, 0, none⟩) 1 1 ∧ wq.heap.size ≤ g ∧ w'.heap[g]? = some (.cells #[V 10] 31 (0, 0)) ∧ (V 10).oneCell' = true := hs 11 (by simp)
                  have hcg : w'.cell? ⟨g11, 0, none⟩ = some (V 10) := by rw [cell_of_row _ _ _ _ _ _ hc11]; rfl
                  obtain ⟨v', w8, hr, hown, hgr, hold, hwh⟩ := append_which31 w' w.heap.size u5 L3.length vs3 (V 10) h1c (hG.2 HO3.out.own) (by omega) (by omega) ⟨g11, 0, none⟩ (by simpa [Addr.add] using hcg)
                  refine Rk.GrowL.value (v := v') (w' := w8) (exec_append2 rfl rfl (by simp [Rs.look, e0]) (by simp [Rs.look, e11]) hr) (by unfold gLs; rw [if_pos rfl]; exact ⟨hgr, fun _ => hold⟩) ⟨by simp, hown, ?_⟩
                  rcases hwh with h | h
                  · exact .inl h
                  · exact .inr ⟨_, h, hsz⟩
                · obtain ⟨h1, h2, h3⟩ : c = true ∧ w'.ownsRow w.heap.size 31 1 (V 12) (L3.length + 1) (vs3 ++ [V 10]) ∧ ((V 12).ownBlock = u5.ownBlock ∨ ∃ g, (V 12).ownBlock = some g ∧ wq.heap.size ≤ g) := hs 12 (by simp)
                  exact Rk.GrowL.value (v := V 12) (w' := w') (by simp [go_sem, Rs.look]) (gLs_refl _ _ _ _ _ _) ⟨by rw [h1]; rfl, h2, h3⟩
              · intro V w' hG hs
                have e0 : V 0 = u5 := hs 0 (by omega)
                have e1 : V 1 = (.slice (some ⟨b, o, none⟩) l.length cap) := hs 1 (by omega)
                have e2 : V 2 = .int .i64 k := hs 2 (by omega)
                have e3 : V 3 = .pointer (some ⟨b, o + k, none⟩) := hs 3 (by omega)
                have e4 : V 4 = .int .i64 x := hs 4 (by omega)
                have e6 : V 6 = (.slice (some ⟨rg, 0, none⟩) R.length rcap) := hs 6 (by omega)
                have e7 : V 7 = .int .i64 q := hs 7 (by omega)
                have e8 : V 8 = .pointer (some ⟨rg, q, none⟩) := hs 8 (by omega)
                have e9 : V 9 = uv := hs 9 (by omega)
                have r10 : w'.ownsRow wq.heap.size 3 1 (V 10) (lq.length + 1) ((x :: lq).map (Value.int .i64)) := hs 10 (by omega)
                obtain ⟨-, r13, r13b⟩ : true = true ∧ w'.ownsRow w.heap.size 31 1 (V 13) (L3.length + 1) (vs3 ++ [V 10]) ∧ ((V 13).ownBlock = u5.ownBlock ∨ ∃ g, (V 13).ownBlock = some g ∧ wq.heap.size ≤ g) := hs 13 (by omega)
                simp only [Rs.canon, Rs.dstOf, List.range_succ, List.range_zero, List.nil_append, List.cons_append, List.foldl_cons, List.foldl_nil, List.drop_succ_cons, List.drop_zero, List.drop_nil, List.getElem?_toArray, List.getElem?_cons_succ, List.getElem?_cons_zero, Option.bind_some, Act.put, List.getD_cons_succ, List.getD_cons_zero, List.setIfInBounds_toArray, List.set_cons_succ, List.set_cons_zero]
                rw [e0, e1, e2, e3, e4, e6, e7, e8, e9]
                generalize V 5 = y5
                generalize V 11 = y11
                generalize V 12 = y12
                generalize V 13 = v13 at r13 r13b ⊢
                generalize V 10 = v10 at r10 r13 ⊢
                have hnew : OwL w' w.heap.size v13 (L3 ++ [x :: lq]) (vs3 ++ [v10]) := HO3.out.more hG.1 (by simp) r13 (own_base r10 hzq)
                have hR3' : OwL w' w.heap.size (.slice (some ⟨rg, 0, none⟩) R.length rcap) R vs2 := ⟨HR3.out.own.kept (row := u5.ownBlock) hG.1 (by
                  rcases HD3.out with h | h
                  · right; rw [h]; simp [Value.ownBlock]
                  · exact .inr (fun e => h e.symm)), fun j hj => ⟨(HR3.out.el j hj).1.kept (row := u5.ownBlock) hG.1 (own_ty (HR3.out.el j hj).1 HO3.out.own (by decide)), (HR3.out.el j hj).2⟩⟩
                have hd' : v13.ownBlock = none ∨ v13.ownBlock ≠ (Value.slice (some ⟨rg, 0, none⟩) R.length rcap).ownBlock := by
                  rcases r13b with h | ⟨g, h, hg⟩
                  · rw [h]; exact HD3.out
                  · right
                    rw [h]
                    simp only [Value.ownBlock, ne_eq, Option.some.injEq]
                    omega
                have hBB : Below w.heap.size w w' := ⟨hG.1.os.trans HB3.out.os, hG.1.tape.trans HB3.out.tape, hG.1.output.trans HB3.out.output, Nat.le_trans HB3.out.size hG.1.size, fun j hj => (hG.1.block j (by omega) (fun e => by have := (HBL.out _ e.symm).1; omega)).trans (HB3.out.block j hj)⟩
                have HN := Lib.hid hnew
                have HR4 := Lib.hid hR3'
                have HD4 := Lib.hid hd'
                have HBB := Lib.hid hBB
                clear e0 e1 e2 e3 e4 e6 e7 e8 e9 r10 r13 r13b hnew hR3' hd' hBB hG hs
                go_wp2_with fail
                go_roundw
                case rel => exact ⟨q + 1, vs3 ++ [v10], by simp, by omega, by rw [HNE.out]; exact HN.out, HR4.out, HD4.out, HBB.out⟩
                case measure => simp [intOf]; omega
            · obtain rfl : q = R.length := by omega
              rw [List.take_length] at hO3
              obtain ⟨ra, rc, hru⟩ := own_slice hR3.own
              subst hru
              have HO3 := Lib.hid hO3
              have HB3 := Lib.hid hB3
              clear hO3 hR3 hB3 hd3
              go_wp2_with fail
              go_roundw
              case rel => exact ⟨k + 1, vs3, by simp, by omega, by rw [HNX.out]; exact HO3.out, HB3.out⟩
              case measure => simp [intOf]; omega
      · obtain rfl : k = l.length := by omega
        have hga : goTo (listsP m) l l.length = listsP (m + 1) l := goTo_all (listsP m) l
        have HGA := Lib.hid hga
        clear hB hga
        go_wp2_with fail
        go_ret
        exact ⟨_, vs, rfl, by rw [← HGA.out]; exact HO.out, HB.out⟩
end Go.Proofs.Ytimedmkpenbmkaa
end
section
namespace Go.Proofs.Ytimedmkpenbmkaa
open Go.RowKit Go.Shelf
set_option linter.unusedSimpArgs false
set_option linter.unusedVariables false
theorem lists_mem : ∀ (m : Nat) (l L : List Int), L ∈ listsP m l ↔ L.Sublist l ∧ L.length = m
  | 0, l, L => by
    have e : listsP 0 l = [[]] := rfl
    rw [e, List.mem_singleton]
    constructor
    · rintro rfl; exact ⟨List.nil_sublist _, rfl⟩
    · rintro ⟨_, h⟩; exact List.length_eq_zero_iff.1 h
  | m + 1, [], L => by
    have e : listsP (m + 1) [] = [] := rfl
    rw [e]
    constructor
    · intro h; cases h
    · rintro ⟨h1, h2⟩
      have := h1.length_le
      simp at this
      rw [this] at h2; simp at h2
  | m + 1, x :: r, L => by
    have e : listsP (m + 1) (x :: r) = (listsP m r).map (x :: ·) ++ listsP (m + 1) r := rfl
    rw [e, List.mem_append, List.mem_map]
    constructor
    · rintro (⟨L', h, rfl⟩ | h)
      · obtain ⟨h1, h2⟩ := (lists_mem m r L').1 h
        exact ⟨h1.cons_cons x, by simp [h2]⟩
      · obtain ⟨h1, h2⟩ := (lists_mem (m + 1) r L).1 h
        exact ⟨h1.cons x, h2⟩
    · rintro ⟨h1, h2⟩
      rcases sub_cons h1 with h | ⟨L', rfl, h⟩
      · exact .inr ((lists_mem (m + 1) r L).2 ⟨h, h2⟩)
      · exact .inl ⟨L', (lists_mem m r L').2 ⟨h, by simpa using h2⟩, rfl⟩
def BefI (A B : List Int) : Prop := ∃ p a b A' B', A = p ++ a :: A' ∧ B = p ++ b :: B' ∧ a < b
theorem BefI.cons {A B : List Int} (h : BefI A B) (x : Int) : BefI (x :: A) (x :: B) := by
  obtain ⟨p, a, b, A', B', rfl, rfl, hab⟩ := h
  exact ⟨x :: p, a, b, A', B', rfl, rfl, hab⟩
theorem lists_ord : ∀ (m : Nat) (l : List Int), l.Pairwise (· < ·) → (listsP m l).Pairwise BefI
  | 0, l, _ => by show [([] : List Int)].Pairwise BefI; exact List.pairwise_singleton _ _
  | m + 1, [], _ => List.Pairwise.nil
  | m + 1, x :: r, h => by
    have e : listsP (m + 1) (x :: r) = (listsP m r).map (x :: ·) ++ listsP (m + 1) r := rfl
    rw [List.pairwise_cons] at h
    rw [e, List.pairwise_append]
    refine ⟨?_, lists_ord (m + 1) r h.2, fun A hA B hB => ?_⟩
    · rw [List.pairwise_map]
      exact (lists_ord m r h.2).imp fun h => h.cons x
    · obtain ⟨A', _, rfl⟩ := List.mem_map.1 hA
      obtain ⟨h1, h2⟩ := (lists_mem (m + 1) r B).1 hB
      cases B with
      | nil => cases h2
      | cons y B' => exact ⟨[], x, y, A', B', rfl, rfl, h.1 y (h1.subset (by simp))⟩
theorem befI_asymm {A B : List Int} (h : BefI A B) : ¬ BefI B A := by
  obtain ⟨p, a, b, A', B', rfl, rfl, hab⟩ := h
  rintro ⟨q, c, d, C', D', h1, h2, hcd⟩
  have key : ∀ (p q : List Int) (a b c d : Int) (A' B' C' D' : List Int), p ++ b :: B' = q ++ c :: C' → p ++ a :: A' = q ++ d :: D' → a < b → c < d → False := by
    intro p
    induction p with
    | nil =>
      intro q a b c d A' B' C' D' h1 h2 hab hcd
      cases q with
      | nil =>
        simp only [List.nil_append, List.cons.injEq] at h1 h2
        omega
      | cons y q =>
        simp only [List.nil_append, List.cons_append, List.cons.injEq] at h1 h2
        omega
    | cons z p ih =>
      intro q a b c d A' B' C' D' h1 h2 hab hcd
      cases q with
      | nil =>
        simp only [List.nil_append, List.cons_append, List.cons.injEq] at h1 h2
        omega
      | cons y q =>
        simp only [List.cons_append, List.cons.injEq] at h1 h2
        exact ih q a b c d A' B' C' D' h1.2 h2.2 hab hcd
  exact key p q a b c d A' B' C' D' h1 h2 hab hcd
theorem befI_irrefl (A : List Int) : ¬ BefI A A := fun h => befI_asymm h h
theorem bef_int {A B : List Nat} (h : Bef A B) : BefI (natI A) (natI B) := by
  obtain ⟨p, a, b, A', B', rfl, rfl, hab⟩ := h
  exact ⟨natI p, a, b, natI A', natI B', by simp [natI], by simp [natI], by omega⟩
/-- what is found first is what is chosen -/
theorem find_first {m : Nat} {l : List Int} (hl : l.Pairwise (· < ·)) {P : List Int → Bool} {C : List Int} (hC : C ∈ listsP m l) (hP : P C = true) (hf : ∀ F ∈ listsP m l, P F = true → C = F ∨ BefI C F) {i : Nat} (hi : i < (listsP m l).length) (hPi : P ((listsP m l).getD i []) = true) (hno : ∀ j, j < i → P ((listsP m l).getD j []) = false) : (listsP m l).getD i [] = C := by
  have ho := lists_ord m l hl
  obtain ⟨c, hc, e⟩ := List.getElem_of_mem hC
  have eg : ∀ j (hj : j < (listsP m l).length), (listsP m l).getD j [] = (listsP m l)[j] := fun j hj => by rw [List.getD_eq_getElem?_getD, List.getElem?_eq_getElem hj]; rfl
  have hic : i ≤ c := by
    rcases Nat.lt_or_ge c i with h | h
    · have := hno c h
      rw [eg c hc, e, hP] at this; cases this
    · exact h
  rw [eg i hi] at hPi ⊢
  rcases Nat.lt_or_ge i c with h | h
  · have hb := List.pairwise_iff_getElem.1 ho i c hi hc h
    rw [e] at hb
    rcases hf _ (List.getElem_mem hi) hPi with h2 | h2
    · rw [← h2] at hb; exact absurd hb (befI_irrefl _)
    · exact absurd hb (befI_asymm h2)
  · have : i = c := by omega
    subst this; exact e
theorem kind_sorted (xs : List Int) (k : Int) : (kindIdx xs k).Pairwise (· < ·) := by
  unfold kindIdx kindTo
  rw [List.pairwise_map]
  exact (List.Pairwise.filter _ List.pairwise_lt_range).imp fun h => by omega
theorem sorted_sub {A B : List Int} (hA : A.Pairwise (· < ·)) (hB : B.Pairwise (· < ·)) (hs : ∀ a ∈ A, a ∈ B) : A.Sublist B := by
  have key : ∀ (B A : List Int), A.Pairwise (· < ·) → B.Pairwise (· < ·) → (∀ a ∈ A, a ∈ B) → A.Sublist B := by
    intro B
    induction B with
    | nil =>
      intro A _ _ hs
      cases A with
      | nil => exact List.Sublist.slnil
      | cons a A => exact absurd (hs a (by simp)) (by simp)
    | cons b B ih =>
      intro A hA hB hs
      cases A with
      | nil => exact List.nil_sublist _
      | cons a A =>
        rw [List.pairwise_cons] at hA hB
        rcases List.mem_cons.1 (hs a (by simp)) with e | e
        · subst e
          refine (ih A hA.2 hB.2 fun x hx => ?_).cons_cons a
          rcases List.mem_cons.1 (hs x (by simp [hx])) with e2 | e2
          · have := hA.1 x hx; omega
          · exact e2
        · refine (ih (a :: A) (List.pairwise_cons.2 hA) hB.2 fun x hx => ?_).cons b
          rcases List.mem_cons.1 hx with e2 | e2
          · rw [e2]; exact e
          · rcases List.mem_cons.1 (hs x (by simp [e2])) with e3 | e3
            · have := hA.1 x e2; have := hB.1 a e; omega
            · exact e3
  exact key B A hA hB hs
end Go.Proofs.Ytimedmkpenbmkaa
end
section
namespace Go.Proofs.Ytimedmkpenbmkaa
open Go.RowKit Go.Shelf
set_option linter.unusedSimpArgs false
set_option linter.unusedVariables false
theorem qAll_zero (xs : List Int) : ∀ (qs : List Int) (nm : List Bool), (qAll xs nm qs).1 = 0 → xs.length ≤ nm.length → (∀ h ∈ qs, plotErr xs h 1 = 0 ∧ nm.getD h.toNat false = false) ∧ qs.Nodup
  | [], nm, _, _ => ⟨by simp, List.nodup_nil⟩
  | h :: r, nm, h0, hn => by
    have eq : qAll xs nm (h :: r) = (if (qStep xs nm h).1 ≠ 0 then qStep xs nm h else qAll xs (qStep xs nm h).2 r) := rfl
    rw [eq] at h0
    by_cases hs : (qStep xs nm h).1 = 0
    · rw [if_neg (by simp [hs])] at h0
      have hp : plotErr xs h 1 = 0 := by
        false_or_by_contra
        rename_i hne
        unfold qStep at hs
        rw [if_pos hne] at hs
        exact hne hs
      have hg : nm.getD h.toNat false = false := by
        cases hb : nm.getD h.toNat false
        · rfl
        · unfold qStep at hs
          rw [if_neg (by simp [hp]), hb] at hs
          simp at hs
      have hst : (qStep xs nm h).2 = nm.set h.toNat true := by
        unfold qStep
        rw [if_neg (by simp [hp]), hg]; rfl
      rw [hst] at h0
      obtain ⟨p, rfl, hpl, _⟩ := plot_ok hp
      obtain ⟨a, b⟩ := qAll_zero xs r _ h0 (by simpa using hn)
      have hset : ∀ q, q ≠ p → (nm.set p true).getD q false = nm.getD q false := fun q hq => by
        rw [List.getD_eq_getElem?_getD, List.getElem?_set, if_neg (fun e => hq e.symm), ← List.getD_eq_getElem?_getD]
      have hself : (nm.set p true).getD p false = true := by
        rw [List.getD_eq_getElem?_getD, List.getElem?_set, if_pos rfl, if_pos (by omega)]; rfl
      refine ⟨fun k hk => ?_, List.nodup_cons.2 ⟨fun hm => ?_, b⟩⟩
      · rcases List.mem_cons.1 hk with rfl | hk
        · exact ⟨hp, hg⟩
        · obtain ⟨a1, a2⟩ := a k hk
          refine ⟨a1, ?_⟩
          by_cases e : k.toNat = p
          · rw [e] at a2
            have : (((p : Nat) : Int)).toNat = p := Int.toNat_natCast p
            rw [this] at a2
            rw [hself] at a2; cases a2
          · rw [Int.toNat_natCast, hset _ e] at a2; exact a2
      · obtain ⟨_, a2⟩ := a _ hm
        rw [Int.toNat_natCast, hself] at a2; cases a2
    · rw [if_pos hs] at h0
      exact absurd h0 hs
theorem quarter_named {t : Hr.Town} (ok : t.Ok) {wind voice : Int} {qs : List Int} (h : quarterE t.wide t.plots wind voice qs = 0) : Named t qs ∧ airErr wind voice = 0 := by
  unfold quarterE at h
  by_cases h1 : openErr t.wide t.plots wind voice = 0
  · rw [if_neg (by simp [h1])] at h
    obtain ⟨hc, ha⟩ := openErr_ok h1
    obtain ⟨a, b⟩ := qAll_zero t.plots qs _ h (by have : t.plots.length ≤ 30 := ok.n30; simpa using this)
    exact ⟨⟨ok, hc, fun k hk => by
      obtain ⟨p, rfl, h2, h3⟩ := plot_ok (a k hk).1
      exact mem_kindIdx.2 ⟨p, rfl, h2, h3⟩, b⟩, ha⟩
  · rw [if_pos h1] at h; exact absurd h h1
theorem len_le_int : ∀ {A B : List Int}, A.Nodup → (∀ a ∈ A, a ∈ B) → A.length ≤ B.length
  | [], B, _, _ => by simp
  | a :: A, B, hn, hs => by
    rw [List.nodup_cons] at hn
    have h1 := len_le_int (A := A) (B := B.erase a) hn.2 fun x hx => by
      have hne : x ≠ a := fun e => hn.1 (by rw [← e]; exact hx)
      exact (List.mem_erase_of_ne hne).2 (hs x (by simp [hx]))
    have h2 := hs a (by simp)
    rw [List.length_erase_of_mem h2] at h1
    have : 0 < B.length := List.length_pos_of_mem h2
    simp; omega
theorem mem_standsTo {t : Hr.Town} {wind voice : Int} {p s n : Nat} : (s : Int) ∈ standsTo t wind voice p n ↔ s < n ∧ hearB t wind voice p s = true := by
  unfold standsTo
  rw [List.mem_map]
  constructor
  · rintro ⟨q, hq, e⟩
    obtain rfl : q = s := by omega
    rw [List.mem_filter, List.mem_range] at hq
    exact hq
  · rintro ⟨a, b⟩
    exact ⟨s, by rw [List.mem_filter, List.mem_range]; exact ⟨a, b⟩, rfl⟩
theorem mem_earsE {t : Hr.Town} {wind voice : Int} {p s : Nat} (h1 : t.at p = 1) : (s : Int) ∈ earsE t wind voice t.plots.length p ↔ hearB t wind voice p s = true := by
  unfold earsE
  rw [if_pos h1, mem_standsTo]
  exact ⟨fun h => h.2, fun h => ⟨hearB_lt h, h⟩⟩
theorem srv_cnt {t : Hr.Town} {qs : List Int} (h : Named t qs) (wind voice : Int) (O : List Nat) : srvE (earsE t wind voice t.plots.length) qs (natI O) qs.length = cntS (lis t wind voice (inL qs)) O := by
  have h30 : t.len ≤ 30 := h.ok.n30
  have hf : ∀ p : Nat, p < t.len → t.at p = 1 → (((natI O).any fun s => (earsE t wind voice t.plots.length p).contains s) = true ↔ hit O (ears t wind voice p) = true) := fun p hp h1 => by
    rw [List.any_eq_true, hit_ears]
    constructor
    · rintro ⟨s, hs, he⟩
      obtain ⟨q, hq, rfl⟩ := List.mem_map.1 hs
      have h2 := (mem_earsE h1).1 (List.contains_iff_mem.1 he)
      exact ⟨q, hq, by have := hearB_lt h2; omega, h2⟩
    · rintro ⟨s, hs, _, he⟩
      exact ⟨(s : Int), List.mem_map.2 ⟨s, hs, rfl⟩, List.contains_iff_mem.2 ((mem_earsE h1).2 he)⟩
  unfold srvE
  rw [List.take_length, cnt_lis, List.countP_eq_length_filter]
  have e : (((List.range t.len).filter fun p => t.at p == 1 && inL qs p).filter fun p => hit O (ears t wind voice p)).length = ((((List.range t.len).filter fun p => t.at p == 1 && inL qs p).filter fun p => hit O (ears t wind voice p)).map fun (p : Nat) => (p : Int)).length := by rw [List.length_map]
  rw [e]
  have hB : ((((List.range t.len).filter fun p => t.at p == 1 && inL qs p).filter fun p => hit O (ears t wind voice p)).map fun (p : Nat) => (p : Int)).Nodup := by
    unfold List.Nodup
    rw [List.pairwise_map]
    exact ((List.nodup_range.filter _).filter _).imp fun h => by omega
  refine Nat.le_antisymm (len_le_int (h.nd.filter _) fun a ha => ?_) (len_le_int hB fun a ha => ?_)
  · rw [List.mem_filter] at ha
    obtain ⟨p, rfl, hp, h1⟩ := mem_kindIdx.1 (h.all a ha.1)
    rw [Int.toNat_natCast] at ha
    refine List.mem_map.2 ⟨p, ?_, rfl⟩
    rw [List.mem_filter, List.mem_filter, List.mem_range, Bool.and_eq_true, beq_iff_eq]
    exact ⟨⟨hp, h1, by unfold inL; exact decide_eq_true ha.1⟩, (hf p hp h1).1 ha.2⟩
  · obtain ⟨p, hp, rfl⟩ := List.mem_map.1 ha
    rw [List.mem_filter, List.mem_filter, List.mem_range, Bool.and_eq_true, beq_iff_eq] at hp
    rw [List.mem_filter, Int.toNat_natCast]
    exact ⟨by have := hp.1.2.2; unfold inL at this; exact of_decide_eq_true this, (hf p hp.1.1 hp.1.2.1).2 hp.2⟩
theorem deaf_ref {t : Hr.Town} {qs : List Int} (h : Named t qs) (wind voice : Int) : (qs.any fun k => (earsE t wind voice t.plots.length k.toNat).isEmpty) = decide (firstE (lis t wind voice (inL qs)) ≠ 0) := by
  have h30 : t.len ≤ 30 := h.ok.n30
  have key : (qs.any fun k => (earsE t wind voice t.plots.length k.toNat).isEmpty) = false ↔ firstE (lis t wind voice (inL qs)) = 0 := by
    rw [firstE_okv (lis_30 _ _ _ _), List.any_eq_false]
    constructor
    · intro ha x hx
      obtain ⟨a, b, c, d⟩ := mem_lisN.1 hx
      have h2 := ha _ c
      rw [Int.toNat_natCast] at h2
      cases hE : earsE t wind voice t.plots.length x.1 with
      | nil => rw [hE] at h2; simp at h2
      | cons s l =>
        have hs : s ∈ earsE t wind voice t.plots.length x.1 := by rw [hE]; simp
        obtain ⟨q, rfl⟩ : ∃ q : Nat, s = q := by
          unfold earsE at hs
          rw [if_pos b] at hs
          unfold standsTo at hs
          obtain ⟨q, _, e⟩ := List.mem_map.1 hs
          exact ⟨q, e.symm⟩
        have hb := (mem_earsE b).1 hs
        have hq := hearB_lt hb
        exact ⟨q, by omega, by rw [d, ears_get, Bool.and_eq_true]; exact ⟨decide_eq_true (by omega), hb⟩⟩
    · intro ha k hk
      obtain ⟨p, rfl, hp, h1⟩ := mem_kindIdx.1 (h.all k hk)
      obtain ⟨s, hs, he⟩ := ha (p, ears t wind voice p) (mem_lisN.2 ⟨hp, h1, hk, rfl⟩)
      have he : (ears t wind voice p).getD s false = true := he
      rw [ears_get, Bool.and_eq_true] at he
      have hm := (mem_earsE h1).2 he.2
      rw [Int.toNat_natCast]
      intro hn
      rw [List.isEmpty_iff] at hn
      rw [hn] at hm; cases hm
  by_cases h0 : firstE (lis t wind voice (inL qs)) = 0
  · rw [key.2 h0, decide_eq_false (by simp [h0])]
  · cases hb : (qs.any fun k => (earsE t wind voice t.plots.length k.toNat).isEmpty)
    · exact absurd (key.1 hb) h0
    · rw [decide_eq_true h0]
/-- lists of streets are lists of natural numbers in order -/
theorem street_list {t : Hr.Town} {m : Nat} {L : List Int} (h : L ∈ listsP m (kindIdx t.plots 0)) : ∃ O : List Nat, L = natI O ∧ O.Pairwise (· < ·) ∧ (∀ s ∈ O, s < t.len ∧ t.at s = 0) ∧ O.length = m := by
  obtain ⟨hs, hl⟩ := (lists_mem m _ L).1 h
  have hc : ∀ x ∈ L, ∃ p : Nat, x = p ∧ p < t.len ∧ t.at p = 0 := fun x hx => by
    obtain ⟨p, e, h1, h2⟩ := mem_kindIdx.1 (hs.subset hx)
    exact ⟨p, e, h1, h2⟩
  have hy : natI (L.map Int.toNat) = L := by
    unfold natI
    rw [List.map_map]
    conv => rhs; rw [← List.map_id L]
    apply List.map_congr_left
    intro x hx
    obtain ⟨p, rfl, _⟩ := hc x hx
    rfl
  refine ⟨L.map Int.toNat, hy.symm, ?_, fun s hs => ?_, by rw [List.length_map]; exact hl⟩
  · rw [List.pairwise_map]
    refine List.Pairwise.imp_of_mem (fun {a b} ha hb h => ?_) ((kind_sorted t.plots 0).sublist hs)
    obtain ⟨p, rfl, _⟩ := hc a ha
    obtain ⟨q, rfl, _⟩ := hc b hb
    show (((p : Nat) : Int)).toNat < (((q : Nat) : Int)).toNat
    rw [Int.toNat_natCast, Int.toNat_natCast]
    omega
  · obtain ⟨x, hx, rfl⟩ := List.mem_map.1 hs
    obtain ⟨p, rfl, h1, h2⟩ := hc x hx
    exact ⟨h1, h2⟩
/-- the reference's search finds the chosen stands -/
structure FewS (t : Hr.Town) (wind voice : Int) (qs X : List Int) (c : Nat) : Prop where
  less : ∀ m, m < c → ∀ j, j < (listsP m (kindIdx t.plots 0)).length → srvE (earsE t wind voice t.plots.length) qs ((listsP m (kindIdx t.plots 0)).getD j []) qs.length ≠ qs.length
  ex : ∃ j, j < (listsP c (kindIdx t.plots 0)).length ∧ srvE (earsE t wind voice t.plots.length) qs ((listsP c (kindIdx t.plots 0)).getD j []) qs.length = qs.length
  first : ∀ i, i < (listsP c (kindIdx t.plots 0)).length → srvE (earsE t wind voice t.plots.length) qs ((listsP c (kindIdx t.plots 0)).getD i []) qs.length = qs.length → (∀ j, j < i → srvE (earsE t wind voice t.plots.length) qs ((listsP c (kindIdx t.plots 0)).getD j []) qs.length ≠ qs.length) → (listsP c (kindIdx t.plots 0)).getD i [] = X
theorem few_search {t : Hr.Town} {qs : List Int} (h : Named t qs) (wind voice : Int) (hh : Heard (lis t wind voice (inL qs))) : ∃ c, FewS t wind voice qs (chooseP (lis t wind voice (inL qs)) 30).1 c ∧ c ≤ 30 := by
  obtain ⟨ch, n, h1, h2, hc⟩ := chosen (lis t wind voice (inL qs)) (h.lis wind voice) 30
  have hn := chosen_all hh (Nat.le_refl _) hc
  rw [lis_count h.all h.nd] at hn
  have h30 : t.len ≤ 30 := h.ok.n30
  rw [h1]
  have hget : ∀ m j, j < (listsP m (kindIdx t.plots 0)).length → (listsP m (kindIdx t.plots 0)).getD j [] ∈ listsP m (kindIdx t.plots 0) := fun m j hj => by
    rw [List.getD_eq_getElem?_getD, List.getElem?_eq_getElem hj]; exact List.getElem_mem _
  have hst := chosen_street hc
  have hchI : natI ch ∈ listsP ch.length (kindIdx t.plots 0) := by
    rw [lists_mem]
    refine ⟨sorted_sub ?_ (kind_sorted _ _) fun a ha => ?_, natI_len ch⟩
    · unfold natI
      rw [List.pairwise_map]
      exact hc.sorted.imp fun h => by omega
    · obtain ⟨p, hp, rfl⟩ := List.mem_map.1 ha
      exact mem_kindIdx.2 ⟨p, rfl, (hst p hp).1, (hst p hp).2⟩
  have hchS : srvE (earsE t wind voice t.plots.length) qs (natI ch) qs.length = qs.length := by rw [srv_cnt h, hc.cnt, hn]
  refine ⟨ch.length, ⟨fun m hm j hj he => ?_, ?_, fun i hi hPi hno => ?_⟩, hc.len⟩
  · obtain ⟨O, e, hO, hs, hl⟩ := street_list (hget m j hj)
    rw [e, srv_cnt h] at he
    have := hc.short O (fun s hs' => by have := (hs s hs').1; omega) (by omega)
    omega
  · obtain ⟨j, hj, e⟩ := List.getElem_of_mem hchI
    refine ⟨j, hj, ?_⟩
    rw [List.getD_eq_getElem?_getD, List.getElem?_eq_getElem hj]
    show srvE _ qs (listsP ch.length (kindIdx t.plots 0))[j] _ = _
    rw [e]; exact hchS
  · refine find_first (kind_sorted _ _) (P := fun S => decide (srvE (earsE t wind voice t.plots.length) qs S qs.length = qs.length)) hchI (decide_eq_true hchS) (fun F hF hPF => ?_) hi (decide_eq_true hPi) fun j hj => decide_eq_false (hno j hj)
    obtain ⟨O, e, hO, hs, hl⟩ := street_list hF
    have hPF := of_decide_eq_true hPF
    rw [e, srv_cnt h] at hPF
    rcases hc.first O hO (fun s hs' => by have := (hs s hs').1; omega) hl (by omega) with h3 | h3
    · left; rw [e, h3]
    · right; rw [e]; exact bef_int h3
end Go.Proofs.Ytimedmkpenbmkaa
end
section
namespace Go.Proofs.Ytimedmkpenbmkaa
open Go.RowKit Go.Shelf
set_option linter.unusedSimpArgs false
set_option linter.unusedVariables false
theorem box33 {W1 W : World} {c : Nat} {u v : Value} (h : W1.heap[c]? = some (.cells #[u, v] 33 (0, 0))) (hB : Below W1.heap.size W1 W) : W.cell? ⟨c, 0, none⟩ = some u ∧ W.cell? ⟨c, 1, none⟩ = some v ∧ c < W.heap.size := by
  have hb := (hB.block _ (Array.getElem?_eq_some_iff.1 h).1).trans h
  obtain ⟨a, b⟩ := blk_cells2 hb
  exact ⟨a, b, (Array.getElem?_eq_some_iff.1 hb).1⟩
set_option maxHeartbeats 4000000 in
set_option maxRecDepth 100000 in
theorem RefFewest_err (wd : Int) (a : Option Addr) (cap : Nat) (xs : List Int) (hl : xs.length ≤ 1000000) (wind voice : Int) (a2 : Option Addr) (hcap : Nat) (qs : List Int) (hhl : qs.length ≤ 1000000) (hc : qs.length ≤ hcap) (w : World) (hR : RdI w (.slice a xs.length cap) xs) (hH : RdI w (.slice a2 qs.length hcap) qs) (hq : quarterE wd xs wind voice qs ≠ 0) :
    Calls Try.prog 47 #[.agg #[.int .i64 wd, .slice a xs.length cap], .int .i64 wind, .int .i64 voice, .slice a2 qs.length hcap] w fun e w' => e = .returned (.tuple #[.slice none 0 0, .int .i64 (quarterE wd xs wind voice qs)]) ∧ Below w.heap.size w w' := by
  have HB := Lib.hid (below1 w (.cells #[.int .i64 wd, .slice a xs.length cap] 33))
  have hx0 : (w.alloc (.cells #[.int .i64 wd, .slice a xs.length cap] 33)).heap[w.heap.size]? = some (.cells #[.int .i64 wd, .slice a xs.length cap] 33 (0, 0)) := heap_alloc_last _ _
  obtain ⟨W1, hW1⟩ : ∃ W1, W1 = w.alloc (.cells #[.int .i64 wd, .slice a xs.length cap] 33) := ⟨_, rfl⟩
  have HA := Lib.hid (Asked_any wd a cap xs hl wind voice a2 hcap qs hhl hc W1 (by rw [hW1]; exact hR.below HB.out) (by rw [hW1]; exact hH.below HB.out))
  rw [← hW1] at HB hx0
  obtain ⟨k0, k1⟩ := blk_cells2 hx0
  have k2 := (Array.getElem?_eq_some_iff.1 hx0).1
  have HW1 := Lib.hid hW1
  generalize quarterE wd xs wind voice qs = q at HA hq ⊢
  have dq : (q != 0) = true := by simpa using hq
  clear hR hH hx0 hW1 hq
  go_enter Try.func47, Try.ntmps47
  go_upto_region 1 with fail
  rw [← HW1.out]
  go_wp2_with fail
  refine HA.out.mono ?_
  rintro e w2 ⟨rfl, hB⟩
  have HB2 := Lib.hid (join HB.out hB)
  clear hB HA
  go_wp2_with fail
  go_ret2
  exact ⟨rfl, HB2.out⟩
set_option maxHeartbeats 8000000 in
set_option maxRecDepth 100000 in
theorem RefFewest_ok (t : Hr.Town) (ok : t.Ok) (wind voice : Int) (b o cap : Nat) (a2 : Option Addr) (hcap : Nat) (qs : List Int) (hc : qs.length ≤ hcap) (hSt : (kindIdx t.plots 0).length ≤ 20) (w : World) (hR : RdI w (.slice (some ⟨b, o, none⟩) t.plots.length cap) t.plots) (hH : RdI w (.slice a2 qs.length hcap) qs) (hq : quarterE t.wide t.plots wind voice qs = 0) :
    Calls Try.prog 47 #[.agg #[.int .i64 t.wide, .slice (some ⟨b, o, none⟩) t.plots.length cap], .int .i64 wind, .int .i64 voice, .slice a2 qs.length hcap] w fun e w' => ∃ v, e = .returned (.tuple #[v, .int .i64 (firstE (lis t wind voice (inL qs)))]) ∧ Below w.heap.size w w' ∧ RdI w' v (if firstE (lis t wind voice (inL qs)) = 0 then (chooseP (lis t wind voice (inL qs)) 30).1 else []) := by
  have hl30 : t.plots.length ≤ 30 := ok.n30
  obtain ⟨hNm, ha⟩ := quarter_named ok hq
  have hqs := hNm.len
  have HB := Lib.hid (below1 w (.cells #[.int .i64 t.wide, .slice (some ⟨b, o, none⟩) t.plots.length cap] 33))
  have hx0 : (w.alloc (.cells #[.int .i64 t.wide, .slice (some ⟨b, o, none⟩) t.plots.length cap] 33)).heap[w.heap.size]? = some (.cells #[.int .i64 t.wide, .slice (some ⟨b, o, none⟩) t.plots.length cap] 33 (0, 0)) := heap_alloc_last _ _
  obtain ⟨W1, hW1⟩ : ∃ W1, W1 = w.alloc (.cells #[.int .i64 t.wide, .slice (some ⟨b, o, none⟩) t.plots.length cap] 33) := ⟨_, rfl⟩
  have HR := Lib.hid (show RdI W1 (.slice (some ⟨b, o, none⟩) t.plots.length cap) t.plots by rw [hW1]; exact hR.below HB.out)
  have HH := Lib.hid (show RdI W1 (.slice a2 qs.length hcap) qs by rw [hW1]; exact hH.below HB.out)
  have HA := Lib.hid (Asked_any t.wide (some ⟨b, o, none⟩) cap t.plots (by omega) wind voice a2 hcap qs (by omega) hc W1 HR.out HH.out)
  rw [hq] at HA
  rw [← hW1] at HB hx0
  obtain ⟨k0, k1⟩ := blk_cells2 hx0
  have k2 := (Array.getElem?_eq_some_iff.1 hx0).1
  have HW1 := Lib.hid hW1
  have HX0 := Lib.hid hx0
  have HNM := Lib.hid hNm
  have HAE := Lib.hid ha
  obtain ⟨FE, hFE⟩ : ∃ FE, FE = firstE (lis t wind voice (inL qs)) := ⟨_, rfl⟩
  obtain ⟨RS, hRS⟩ : ∃ RS, RS = (if firstE (lis t wind voice (inL qs)) = 0 then (chooseP (lis t wind voice (inL qs)) 30).1 else []) := ⟨_, rfl⟩
  rw [← hRS, ← hFE]
  have HFE := Lib.hid hFE
  have HRS := Lib.hid hRS
  clear hR hH hx0 hW1 hq hNm ha hFE hRS
  go_enter Try.func47, Try.ntmps47
  go_upto_region 1 with fail
  rw [← HW1.out]
  go_wp2_with fail
  refine HA.out.mono ?_
  rintro e w2 ⟨rfl, hB⟩
  have HB2 := Lib.hid hB
  obtain ⟨k0, k1, k2⟩ := box33 HX0.out hB
  have hne : t.plots ≠ [] := by intro e; have := (check_len HNM.out.chk).2; rw [e] at this; simp at this
  obtain ⟨b', o', e', -, hI⟩ := rd_ints (HR.out.below hB) hne
  cases e'
  have hoE : openErr t.wide t.plots wind voice = 0 := by unfold openErr; rw [HNM.out.chk]; exact HAE.out
  have HEA := Lib.hid (refEars_yes t ok wind voice hoE b o cap w2 hI)
  clear hB HA hne hI hoE
  go_wp2_with fail
  refine HEA.out.mono ?_
  rintro e w3 ⟨O, vs, rfl, hE, hOl, hB⟩
  have HE := Lib.hid hE.read
  have HB3 := Lib.hid (join HB2.out hB)
  have hEl : ∀ p, p < t.plots.length → (earsE t wind voice t.plots.length p).length ≤ 1000000 := fun p _ => Nat.le_trans (earsE_len _ _ _ _ _) (by omega)
  have hhv : ∀ k, k < qs.length → ∃ p : Nat, qs.getD k 0 = p ∧ p < t.plots.length := fun k hk => by
    have hm : qs.getD k 0 ∈ qs := by rw [List.getD_eq_getElem?_getD, List.getElem?_eq_getElem hk]; exact List.getElem_mem _
    obtain ⟨p, e1, e2, _⟩ := mem_kindIdx.1 (HNM.out.all _ hm)
    exact ⟨p, e1, e2⟩
  have HDF := Lib.hid (refDeaf_any t.plots.length O t.plots.length (earsE t wind voice t.plots.length) (by omega) hEl (.slice a2 qs.length hcap) qs (by omega) hhv w3 HE.out (HH.out.below HB3.out))
  rw [deaf_ref HNM.out] at HDF
  have HSV := Lib.hid (fun W u S (h1 : ErR t.plots.length O (earsE t wind voice t.plots.length) W) (h2 : RdI W (.slice a2 qs.length hcap) qs) (hSl : S.length ≤ 1000000) (h3 : RdI W u S) => refServed_any t.plots.length O t.plots.length (earsE t wind voice t.plots.length) (by omega) hEl (.slice a2 qs.length hcap) u qs S (by omega) hSl hhv W h1 h2 h3)
  clear hE hB HEA k0 k1 k2 hEl hhv
  by_cases h0 : firstE (lis t wind voice (inL qs)) = 0
  · rw [decide_eq_false (by simp [h0])] at HDF
    have hh : Heard (lis t wind voice (inL qs)) := err_heard (lis_30 _ _ _ _) h0
    obtain ⟨c, hF, hc30⟩ := few_search HNM.out wind voice hh
    have HRS1 := Lib.hid (HRS.out.trans (if_pos h0))
    have HFE0 := Lib.hid (HFE.out.trans h0)
    have HF := Lib.hid hF
    obtain ⟨X, hX⟩ : ∃ X, X = (chooseP (lis t wind voice (inL qs)) 30).1 := ⟨_, rfl⟩
    rw [← hX] at HF HRS1
    clear hF hX hh h0
    go_wp2_with fail
    refine HDF.out.mono ?_
    rintro e w4 ⟨rfl, rfl⟩
    go_wp2_with fail
    go_loopw [12] (fun i wr => ∃ m : Nat, i = .int .i64 m ∧ m ≤ c ∧ Below w4.heap.size w4 wr) (fun i _ => c - (intOf i).toNat)
    case atStart => exact ⟨0, rfl, Nat.zero_le _, Below.refl _ _⟩
    case round =>
      obtain ⟨m, rfl, hm, hB⟩ := hrel
      obtain ⟨wm, rfl⟩ : ∃ wm : World, wm = wr := ⟨_, rfl⟩
      have HB5 := Lib.hid (join HB3.out hB)
      have HBm := Lib.hid hB
      obtain ⟨k0, k1, k2⟩ := box33 HX0.out (join HB3.out hB)
      have HST := Lib.hid (refStreets_any t.wide (some ⟨b, o, none⟩) cap t.plots (by omega) wm (HR.out.below (join HB3.out hB)))
      clear hB
      go_wp2_with fail
      refine HST.out.mono ?_
      rintro e w6 ⟨v33, rfl, ho33, hB⟩
      have HRS := Lib.hid (RdI.own rfl rfl ho33)
      have hcs : ∃ a33 c33, v33 = .slice a33 (kindIdx t.plots 0).length c33 ∧ (kindIdx t.plots 0).length ≤ c33 := by
        rcases ho33.2 with ⟨h1, h2⟩ | ⟨g, cp, cur, h1, _, _, hn, _⟩
        · exact ⟨none, 0, by rw [h1, h2], by omega⟩
        · exact ⟨_, cp, h1, hn⟩
      obtain ⟨a33, c33, rfl, hc33⟩ := hcs
      have HB6 := Lib.hid (join HBm.out hB)
      have HLI := Lib.hid (Lists_any m a33 c33 (kindIdx t.plots 0) (by omega) hSt hc33 w6 HRS.out)
      clear ho33 hB HST k0 k1 k2
      go_wp2_with fail
      refine HLI.out.mono ?_
      rintro e w7 ⟨v13, vs13, rfl, hL, hB⟩
      have HL7 := Lib.hid hL
      have HB7 := Lib.hid (join HB6.out hB)
      obtain ⟨a13, c13, rfl⟩ := own_slice hL.own
      obtain ⟨Ls, hLs⟩ : ∃ Ls, Ls = listsP m (kindIdx t.plots 0) := ⟨_, rfl⟩
      rw [← hLs] at HL7
      have hLn : Ls.length ≤ 1048576 := by rw [hLs]; exact Nat.le_trans (lists_many m _) (Nat.le_trans (Nat.pow_le_pow_right (by omega) hSt) (by decide))
      have HLQ := Lib.hid hLs
      clear hL hB HLI
      rw [← hLs]
      clear hLs
      go_wp2_with fail
      go_loopw [14] (fun i wq => ∃ j : Nat, i = .int .i64 j ∧ j ≤ Ls.length ∧ (∀ j', j' < j → srvE (earsE t wind voice t.plots.length) qs (Ls.getD j' []) qs.length ≠ qs.length) ∧ Below w7.heap.size w7 wq) (fun i _ => Ls.length - (intOf i).toNat)
      case atStart => exact ⟨0, rfl, Nat.zero_le _, fun j hj => absurd hj (Nat.not_lt_zero _), Below.refl _ _⟩
      case round =>
        obtain ⟨j, rfl, hj, hno, hBq⟩ := hrel
        obtain ⟨wq, rfl⟩ : ∃ wq : World, wq = wr := ⟨_, rfl⟩
        have HNO := Lib.hid hno
        have HBq := Lib.hid hBq
        by_cases hjl : j < Ls.length
        · have hjl' : (j : Int) < Ls.length := by omega
          have hLq := HL7.out.below hBq
          obtain ⟨g, cg, hv, hgl, -, hcell⟩ := hLq.cell (by intro e; rw [e] at hjl; simp at hjl)
          injection hv with hv1 hv2 hv3
          subst hv1 hv3
          clear hv2
          have cu := hcell j hjl
          have hel := hLq.el j hjl
          obtain ⟨S, hS⟩ : ∃ S, S = Ls.getD j [] := ⟨_, rfl⟩
          obtain ⟨uv, huv⟩ : ∃ uv, uv = vs13.getD j (.slice none 0 0) := ⟨_, rfl⟩
          rw [← hS, ← huv] at hel
          rw [← huv] at cu
          have hSl : S.length ≤ 1000000 := by
            have hm2 : S ∈ listsP m (kindIdx t.plots 0) := by rw [hS, ← HLQ.out, List.getD_eq_getElem?_getD, List.getElem?_eq_getElem hjl]; exact List.getElem_mem _
            rw [lists_len _ _ _ hm2]; omega
          have hrs := RdI.own rfl rfl hel.1
          have HSQ := Lib.hid (HSV.out wq uv S ((HE.out.below HB7.out).below hBq) ((HH.out.below HB3.out).below (join HB7.out hBq)) hSl hrs)
          obtain ⟨ua, uc, huq⟩ := own_slice hel.1
          subst huq
          have HRSv := Lib.hid hrs
          obtain ⟨n, hn⟩ : ∃ n, n = srvE (earsE t wind voice t.plots.length) qs S qs.length := ⟨_, rfl⟩
          rw [← hn] at HSQ
          have HNQ := Lib.hid hn
          have HSS := Lib.hid hS
          clear hS huv hel hrs hn hno hBq hLq hcell
          go_wp2_with fail
          refine HSQ.out.mono ?_
          rintro e w9 ⟨rfl, hB⟩
          have HB9 := Lib.hid (join HBq.out hB)
          have cu9 : w9.cell? ⟨g, j, none⟩ = some (.slice ua S.length uc) := (World.cell?_of_block (a := ⟨g, j, none⟩) (hB.block g hgl)).trans cu
          have hgl9 : g < w9.heap.size := Nat.lt_of_lt_of_le hgl hB.size
          have HRSv := Lib.hid (HRSv.out.below hB)
          clear hB HSQ cu hgl
          by_cases he : n = qs.length
          · have de : ((n : Int) == (qs.length : Int)) = true := by simp; omega
            have de' : (n == qs.length) = true := by simpa using he
            have hmc : m = c := by
              false_or_by_contra
              exact HF.out.less m (by omega) j (by rw [← HLQ.out]; exact hjl) (by rw [← HLQ.out, ← HSS.out, ← HNQ.out]; exact he)
            have hX : S = X := by
              rw [HSS.out, HLQ.out]
              rw [hmc] at HLQ ⊢
              exact HF.out.first j (by rw [← HLQ.out]; exact hjl) (by rw [← HLQ.out, ← HSS.out, ← HNQ.out]; exact he) (fun j' hj' => by rw [← HLQ.out]; exact HNO.out j' hj')
            have HXS := Lib.hid hX
            clear he hmc hX
            go_wp2_with fail
            go_ret2
            refine ⟨.slice ua S.length uc, by rw [HFE0.out]; rfl, join HB.out (join HB3.out (join HB7.out HB9.out)), ?_⟩
            rw [HRS1.out, ← HXS.out]
            exact HRSv.out
          · have de : ((n : Int) == (qs.length : Int)) = false := by simp; omega
            have de' : (n == qs.length) = false := by simpa using he
            have HE2 := Lib.hid he
            clear he
            go_wp2_with fail
            go_roundw
            case rel =>
              refine ⟨j + 1, by simp, by omega, fun j' hj' => ?_, HB9.out⟩
              by_cases e : j' = j
              · rw [e, ← HSS.out, ← HNQ.out]; exact HE2.out
              · exact HNO.out j' (by omega)
            case measure => simp [intOf]; omega
        · obtain rfl : j = Ls.length := by omega
          have hmc : m ≠ c := fun e => by
            obtain ⟨j, hj1, hj2⟩ := HF.out.ex
            rw [← e, ← HLQ.out] at hj1 hj2
            exact HNO.out j hj1 hj2
          clear hno hBq
          go_wp2_with fail
          go_roundw
          case rel => exact ⟨m + 1, by simp, by omega, join HB7.out HBq.out⟩
          case measure => simp [intOf]; omega
  · rw [decide_eq_true (by simpa using h0)] at HDF
    have HRS1 := Lib.hid (HRS.out.trans (if_neg h0))
    have HFE6 : Hid (FE = 6) := Lib.hid (by
      rw [HFE.out]
      rcases firstE_or (lis t wind voice (inL qs)) with h | h
      · exact absurd h h0
      · exact h)
    clear h0
    go_wp2_with fail
    refine HDF.out.mono ?_
    rintro e w4 ⟨rfl, rfl⟩
    go_wp2_with fail
    go_ret2
    refine ⟨.slice none 0 0, by rw [HFE6.out]; rfl, join HB.out HB3.out, ?_⟩
    rw [HRS1.out]
    exact ⟨by simp, none, 0, rfl, fun h => absurd rfl h⟩
end Go.Proofs.Ytimedmkpenbmkaa
end
section
namespace Go.Proofs.Ytimedmkpenbmkaa
open Go.RowKit Go.Shelf
set_option linter.unusedSimpArgs false
set_option linter.unusedVariables false
theorem must_ref {t : Hr.Town} {qs : List Int} (h : Named t qs) (wind voice : Int) (hh : Heard (lis t wind voice (inL qs))) {p : Nat} (hp : p < t.len) {OL : List Int} (hO : ∀ s : Int, s ∈ OL ↔ s ∈ kindIdx t.plots 0 ∧ s ≠ p) :
    srvE (earsE t wind voice t.plots.length) qs OL qs.length < qs.length ↔ (p : Int) ∈ mustTo (lis t wind voice (inL qs)) t.plots.length := by
  have h30 : t.len ≤ 30 := h.ok.n30
  unfold srvE
  rw [List.take_length, List.length_filter_lt_length_iff_exists, mem_mustTo]
  have hf : ∀ q : Nat, q < t.len → t.at q = 1 → ((OL.any fun s => (earsE t wind voice t.plots.length q).contains s) = true ↔ ∃ s : Nat, s ≠ p ∧ hearB t wind voice q s = true) := fun q hq h1 => by
    rw [List.any_eq_true]
    constructor
    · rintro ⟨s, hs, he⟩
      obtain ⟨a, b⟩ := (hO s).1 hs
      obtain ⟨z, rfl, _⟩ := mem_kindIdx.1 a
      exact ⟨z, by omega, (mem_earsE h1).1 (List.contains_iff_mem.1 he)⟩
    · rintro ⟨s, hs, he⟩
      have hb := he
      unfold hearB at hb
      rw [Bool.and_eq_true, decide_eq_true_iff] at hb
      exact ⟨(s : Int), (hO s).2 ⟨mem_kindIdx.2 ⟨s, rfl, hb.1.1, hb.1.2⟩, by omega⟩, List.contains_iff_mem.2 ((mem_earsE h1).2 he)⟩
  constructor
  · rintro ⟨k, hk, hno⟩
    obtain ⟨q, rfl, hq, h1⟩ := mem_kindIdx.1 (h.all k hk)
    rw [Int.toNat_natCast, hf q hq h1] at hno
    have hx : ((q, ears t wind voice q) : Nat × List Bool) ∈ lis t wind voice (inL qs) := mem_lisN.2 ⟨hq, h1, hk, rfl⟩
    refine ⟨hp, _, hx, ?_⟩
    obtain ⟨s, hs, he⟩ := deaf_hit (hh _ hx).1 (hh _ hx).2
    have he : (ears t wind voice q).getD s false = true := he
    rw [ears_get, Bool.and_eq_true] at he
    have hoth : ∀ z : Nat, z ≠ p → hearB t wind voice q z = false := fun z hz => by
      cases hb : hearB t wind voice q z
      · rfl
      · exact absurd ⟨z, hz, hb⟩ hno
    have hsp : s = p := by
      false_or_by_contra
      rename_i e
      rw [hoth s e] at he; cases he.2
    subst hsp
    show onlyB s (ears t wind voice q) = true
    refine only_iff.2 fun z hz => ?_
    by_cases e : z = s
    · subst e; rw [he.2]; simp
    · rw [hoth z e]; simp [e]
  · rintro ⟨_, x, hx, ho⟩
    obtain ⟨a, b, c, d⟩ := mem_lisN.1 hx
    refine ⟨x.1, c, ?_⟩
    rw [Int.toNat_natCast, hf x.1 a b]
    rintro ⟨s, hs, he⟩
    have hs30 := hearB_lt he
    rw [d] at ho
    have := only_iff.1 ho s (by omega)
    rw [he] at this
    simp [hs] at this
theorem sorted_eq {A B : List Int} (hA : A.Pairwise (· < ·)) (hB : B.Pairwise (· < ·)) (h : ∀ x, x ∈ A ↔ x ∈ B) : A = B := by
  have h1 := sorted_sub hA hB fun a ha => (h a).1 ha
  have h2 := sorted_sub hB hA fun a ha => (h a).2 ha
  exact h1.eq_of_length (Nat.le_antisymm h1.length_le h2.length_le)
theorem must_list {t : Hr.Town} (ok : t.Ok) (l : List (Nat × List Bool)) (hl : ∀ s ∈ mustTo l t.plots.length, s ∈ kindIdx t.plots 0) : (kindIdx t.plots 0).filter (fun s => decide (s ∈ mustTo l t.plots.length)) = mustTo l t.plots.length := by
  refine sorted_eq ((kind_sorted _ _).filter _) ?_ fun x => ?_
  · unfold mustTo
    rw [List.pairwise_map]
    exact (List.Pairwise.filter _ List.pairwise_lt_range).imp fun h => by omega
  · rw [List.mem_filter, decide_eq_true_iff]
    exact ⟨fun h => h.2, fun h => ⟨hl x h, h⟩⟩
theorem append_zero (w : World) (a1 : Addr) (n c1 : Nat) (a2 : Option Addr) (c2 : Nat) (h : n ≤ c1) : (Builtin.append_ #[31, 31] 31 #[.slice (some a1) n c1, .slice a2 0 c2]).run Try.prog w = .ok (.slice (some a1) n c1) w := by
  obtain ⟨i0, hi, hz0, hz1, hz2⟩ := info_parts A_info3
  cases a2 <;> simp [Builtin.append_, run_underlying A_und31, sizeOf, typeInfo, hi, Builtin.lenOf, Builtin.firstCells, h, storeCells, loadCells, loadCellsFrom]
end Go.Proofs.Ytimedmkpenbmkaa
end
section
namespace Go.Proofs.Ytimedmkpenbmkaa
open Go.RowKit Go.Shelf
set_option linter.unusedSimpArgs false
set_option linter.unusedVariables false
def gM9 (B : Nat) (i : Nat) (a b : World) : Prop := if i = 9 then Below B a b else Below a.heap.size a b ∧ Below B a b
theorem mem_without {St : List Int} (h : St.Nodup) {k : Nat} (hk : k < St.length) (s : Int) : s ∈ St.take k ++ St.drop (k + 1) ↔ s ∈ St ∧ s ≠ St.getD k 0 := by
  have e : St.getD k 0 = St[k] := by rw [List.getD_eq_getElem?_getD, List.getElem?_eq_getElem hk]; rfl
  have hS : St = St.take k ++ St[k] :: St.drop (k + 1) := by rw [← List.drop_eq_getElem_cons hk, List.take_append_drop]
  rw [e]
  have h2 : (St.take k ++ St[k] :: St.drop (k + 1)).Nodup := hS ▸ h
  rw [List.nodup_append] at h2
  obtain ⟨_, h3, h4⟩ := h2
  rw [List.nodup_cons] at h3
  constructor
  · intro hm
    rw [List.mem_append] at hm
    refine ⟨?_, fun es => ?_⟩
    · rcases hm with hm | hm
      · exact List.mem_of_mem_take hm
      · exact List.mem_of_mem_drop hm
    · rcases hm with hm | hm
      · exact h4 s hm St[k] List.mem_cons_self es
      · exact h3.1 (es ▸ hm)
  · rintro ⟨hm, hne⟩
    rw [hS, List.mem_append, List.mem_cons] at hm
    rw [List.mem_append]
    rcases hm with hm | hm | hm
    · exact .inl hm
    · exact absurd hm hne
    · exact .inr hm
theorem take_filter {St : List Int} {k : Nat} (hk : k < St.length) (f : Int → Bool) : (St.take (k + 1)).filter f = (St.take k).filter f ++ if f (St.getD k 0) = true then [St.getD k 0] else [] := by
  have e : St.getD k 0 = St[k] := by rw [List.getD_eq_getElem?_getD, List.getElem?_eq_getElem hk]; rfl
  rw [List.take_succ_eq_append_getElem hk, List.filter_append, e]
  congr 1
  by_cases h : f St[k] = true <;> simp [h]
theorem gM9_all (B i : Nat) (a b : World) (h : gM9 B i a b) : Below B a b := by
  unfold gM9 at h
  split at h
  · exact h
  · exact h.2
theorem gM9_refl (B i : Nat) (a : World) : gM9 B i a a := by
  unfold gM9
  split
  · exact Below.refl _ _
  · exact ⟨Below.refl _ _, Below.refl _ _⟩
theorem gM9_of {B i : Nat} {a b : World} (hi : i ≠ 9) (h : Below a.heap.size a b) (hB : B ≤ a.heap.size) : gM9 B i a b := by
  unfold gM9; rw [if_neg hi]; exact ⟨h, h.mono hB⟩
def spM9 (SV S1 S2 : Value) (k m : Nat) (A1 A2 : List Int) (B : Nat) : Nat → Bool → List Value → Value → World → Prop
  | 0, c, _, v, w => ∃ g, v = .slice (some ⟨g, 0, none⟩) 0 0 ∧ B ≤ g ∧ (c = false → w.heap[g]? = some (.cells #[] 3 (0, 0)))
  | 1, _, _, v, _ => v = SV
  | 2, _, _, v, _ => v = .int .i64 k
  | 3, _, _, v, _ => v = S1
  | 4, c, _, v, w => ∃ g c4, v = .slice (some ⟨g, 0, none⟩) k c4 ∧ k ≤ c4 ∧ B ≤ g ∧ (c = false → w.ownsRow B 3 1 v k (A1.map (Value.int .i64)))
  | 5, _, _, v, _ => v = SV
  | 6, _, _, v, _ => v = .int .i64 k
  | 7, _, _, v, _ => v = .int .i64 ((k + 1 : Nat) : Int)
  | 8, _, _, v, _ => v = S2
  | 9, c, _, v, w => c = true ∧ w.ownsRow B 3 1 v (k + m) ((A1 ++ A2).map (Value.int .i64))
  | 10, c, _, v, w => c = true ∧ w.ownsRow B 3 1 v (k + m) ((A1 ++ A2).map (Value.int .i64))
  | _, _, _, _, _ => False
theorem spM9_stable (SV S1 S2 : Value) (k m : Nat) (A1 A2 : List Int) (B : Nat) : ∀ i' c w w', (i' = 9 → c = false) → gM9 B i' w w' → ∀ j D v, spM9 SV S1 S2 k m A1 A2 B j c D v w → spM9 SV S1 S2 k m A1 A2 B j (c || i' == 9) D v w' := by
  intro i' c w w' hc hg j D v h
  have hbel : (c || i' == 9) = false → Below w.heap.size w w' ∧ c = false := fun e => by
    have h9 : i' ≠ 9 := fun e2 => by rw [e2] at e; simp at e
    have hc0 : c = false := by cases c <;> simp_all
    unfold gM9 at hg; rw [if_neg h9] at hg; exact ⟨hg.1, hc0⟩
  have hbt : c = true → Below w.heap.size w w' := fun e => by
    have h9 : i' ≠ 9 := fun e2 => by have := hc e2; rw [e] at this; cases this
    unfold gM9 at hg; rw [if_neg h9] at hg; exact hg.1
  match j with
  | 0 =>
    obtain ⟨g, h1, h2, h3⟩ := h
    exact ⟨g, h1, h2, fun e => by obtain ⟨hb, hc0⟩ := hbel e; exact (hb.block g (Array.getElem?_eq_some_iff.1 (h3 hc0)).1).trans (h3 hc0)⟩
  | 1 => exact h
  | 2 => exact h
  | 3 => exact h
  | 4 =>
    obtain ⟨g, c4, h1, h2, h3, h4⟩ := h
    exact ⟨g, c4, h1, h2, h3, fun e => by obtain ⟨hb, hc0⟩ := hbel e; exact own_below (h4 hc0) hb⟩
  | 5 => exact h
  | 6 => exact h
  | 7 => exact h
  | 8 => exact h
  | 9 => exact ⟨by rw [h.1]; rfl, own_below h.2 (hbt h.1)⟩
  | 10 => exact ⟨by rw [h.1]; rfl, own_below h.2 (hbt h.1)⟩
set_option maxHeartbeats 4000000 in
set_option maxRecDepth 100000 in
theorem RefMust_err (wd : Int) (a : Option Addr) (cap : Nat) (xs : List Int) (hl : xs.length ≤ 1000000) (wind voice : Int) (a2 : Option Addr) (hcap : Nat) (qs : List Int) (hhl : qs.length ≤ 1000000) (hc : qs.length ≤ hcap) (w : World) (hR : RdI w (.slice a xs.length cap) xs) (hH : RdI w (.slice a2 qs.length hcap) qs) (hq : quarterE wd xs wind voice qs ≠ 0) :
    Calls Try.prog 49 #[.agg #[.int .i64 wd, .slice a xs.length cap], .int .i64 wind, .int .i64 voice, .slice a2 qs.length hcap] w fun e w' => e = .returned (.tuple #[.slice none 0 0, .int .i64 (quarterE wd xs wind voice qs)]) ∧ Below w.heap.size w w' := by
  have HB := Lib.hid (below1 w (.cells #[.int .i64 wd, .slice a xs.length cap] 33))
  have hx0 : (w.alloc (.cells #[.int .i64 wd, .slice a xs.length cap] 33)).heap[w.heap.size]? = some (.cells #[.int .i64 wd, .slice a xs.length cap] 33 (0, 0)) := heap_alloc_last _ _
  obtain ⟨W1, hW1⟩ : ∃ W1, W1 = w.alloc (.cells #[.int .i64 wd, .slice a xs.length cap] 33) := ⟨_, rfl⟩
  have HA := Lib.hid (Asked_any wd a cap xs hl wind voice a2 hcap qs hhl hc W1 (by rw [hW1]; exact hR.below HB.out) (by rw [hW1]; exact hH.below HB.out))
  rw [← hW1] at HB hx0
  obtain ⟨k0, k1⟩ := blk_cells2 hx0
  have k2 := (Array.getElem?_eq_some_iff.1 hx0).1
  have HW1 := Lib.hid hW1
  generalize quarterE wd xs wind voice qs = q at HA hq ⊢
  have dq : (q != 0) = true := by simpa using hq
  clear hR hH hx0 hW1 hq
  go_enter Try.func49, Try.ntmps49
  go_upto_region 1 with fail
  rw [← HW1.out]
  go_wp2_with fail
  refine HA.out.mono ?_
  rintro e w2 ⟨rfl, hB⟩
  have HB2 := Lib.hid (join HB.out hB)
  clear hB HA
  go_wp2_with fail
  go_ret2
  exact ⟨rfl, HB2.out⟩
set_option maxHeartbeats 8000000 in
set_option maxRecDepth 100000 in
theorem RefMust_ok (t : Hr.Town) (ok : t.Ok) (wind voice : Int) (b o cap : Nat) (a2 : Option Addr) (hcap : Nat) (qs : List Int) (hc : qs.length ≤ hcap) (hSt : (kindIdx t.plots 0).length ≤ 20) (w : World) (hR : RdI w (.slice (some ⟨b, o, none⟩) t.plots.length cap) t.plots) (hH : RdI w (.slice a2 qs.length hcap) qs) (hq : quarterE t.wide t.plots wind voice qs = 0) :
    Calls Try.prog 49 #[.agg #[.int .i64 t.wide, .slice (some ⟨b, o, none⟩) t.plots.length cap], .int .i64 wind, .int .i64 voice, .slice a2 qs.length hcap] w fun e w' => ∃ v, e = .returned (.tuple #[v, .int .i64 (firstE (lis t wind voice (inL qs)))]) ∧ Below w.heap.size w w' ∧ RdI w' v (if firstE (lis t wind voice (inL qs)) = 0 then mustTo (lis t wind voice (inL qs)) t.plots.length else []) := by
  have hl30 : t.plots.length ≤ 30 := ok.n30
  obtain ⟨hNm, ha⟩ := quarter_named ok hq
  have hqs := hNm.len
  have HB := Lib.hid (below1 w (.cells #[.int .i64 t.wide, .slice (some ⟨b, o, none⟩) t.plots.length cap] 33))
  have hx0 : (w.alloc (.cells #[.int .i64 t.wide, .slice (some ⟨b, o, none⟩) t.plots.length cap] 33)).heap[w.heap.size]? = some (.cells #[.int .i64 t.wide, .slice (some ⟨b, o, none⟩) t.plots.length cap] 33 (0, 0)) := heap_alloc_last _ _
  obtain ⟨W1, hW1⟩ : ∃ W1, W1 = w.alloc (.cells #[.int .i64 t.wide, .slice (some ⟨b, o, none⟩) t.plots.length cap] 33) := ⟨_, rfl⟩
  have HR := Lib.hid (show RdI W1 (.slice (some ⟨b, o, none⟩) t.plots.length cap) t.plots by rw [hW1]; exact hR.below HB.out)
  have HH := Lib.hid (show RdI W1 (.slice a2 qs.length hcap) qs by rw [hW1]; exact hH.below HB.out)
  have HA := Lib.hid (Asked_any t.wide (some ⟨b, o, none⟩) cap t.plots (by omega) wind voice a2 hcap qs (by omega) hc W1 HR.out HH.out)
  rw [hq] at HA
  rw [← hW1] at HB hx0
  obtain ⟨k0, k1⟩ := blk_cells2 hx0
  have k2 := (Array.getElem?_eq_some_iff.1 hx0).1
  have HW1 := Lib.hid hW1
  have HX0 := Lib.hid hx0
  have HNM := Lib.hid hNm
  have HAE := Lib.hid ha
  obtain ⟨FE, hFE⟩ : ∃ FE, FE = firstE (lis t wind voice (inL qs)) := ⟨_, rfl⟩
  obtain ⟨RS, hRS⟩ : ∃ RS, RS = (if firstE (lis t wind voice (inL qs)) = 0 then mustTo (lis t wind voice (inL qs)) t.plots.length else []) := ⟨_, rfl⟩
  rw [← hRS, ← hFE]
  have HFE := Lib.hid hFE
  have HRS := Lib.hid hRS
  clear hR hH hx0 hW1 hq hNm ha hFE hRS
  go_enter Try.func49, Try.ntmps49
  go_upto_region 1 with fail
  rw [← HW1.out]
  go_wp2_with fail
  refine HA.out.mono ?_
  rintro e w2 ⟨rfl, hB⟩
  have HB2 := Lib.hid hB
  obtain ⟨k0, k1, k2⟩ := box33 HX0.out hB
  have hne : t.plots ≠ [] := by intro e; have := (check_len HNM.out.chk).2; rw [e] at this; simp at this
  obtain ⟨b', o', e', -, hI⟩ := rd_ints (HR.out.below hB) hne
  cases e'
  have hoE : openErr t.wide t.plots wind voice = 0 := by unfold openErr; rw [HNM.out.chk]; exact HAE.out
  have HEA := Lib.hid (refEars_yes t ok wind voice hoE b o cap w2 hI)
  clear hB HA hne hI hoE
  go_wp2_with fail
  refine HEA.out.mono ?_
  rintro e w3 ⟨O, vs, rfl, hE, hOl, hB⟩
  have HE := Lib.hid hE.read
  have HB3 := Lib.hid (join HB2.out hB)
  have hEl : ∀ p, p < t.plots.length → (earsE t wind voice t.plots.length p).length ≤ 1000000 := fun p _ => Nat.le_trans (earsE_len _ _ _ _ _) (by omega)
  have hhv : ∀ k, k < qs.length → ∃ p : Nat, qs.getD k 0 = p ∧ p < t.plots.length := fun k hk => by
    have hm : qs.getD k 0 ∈ qs := by rw [List.getD_eq_getElem?_getD, List.getElem?_eq_getElem hk]; exact List.getElem_mem _
    obtain ⟨p, e1, e2, _⟩ := mem_kindIdx.1 (HNM.out.all _ hm)
    exact ⟨p, e1, e2⟩
  have HDF := Lib.hid (refDeaf_any t.plots.length O t.plots.length (earsE t wind voice t.plots.length) (by omega) hEl (.slice a2 qs.length hcap) qs (by omega) hhv w3 HE.out (HH.out.below HB3.out))
  rw [deaf_ref HNM.out] at HDF
  have HSV := Lib.hid (fun W u S (h1 : ErR t.plots.length O (earsE t wind voice t.plots.length) W) (h2 : RdI W (.slice a2 qs.length hcap) qs) (hSl : S.length ≤ 1000000) (h3 : RdI W u S) => refServed_any t.plots.length O t.plots.length (earsE t wind voice t.plots.length) (by omega) hEl (.slice a2 qs.length hcap) u qs S (by omega) hSl hhv W h1 h2 h3)
  clear hE hB HEA k0 k1 k2 hEl hhv
  by_cases h0 : firstE (lis t wind voice (inL qs)) = 0
  · rw [decide_eq_false (by simp [h0])] at HDF
    have hh : Heard (lis t wind voice (inL qs)) := err_heard (lis_30 _ _ _ _) h0
    have HRS1 := Lib.hid (HRS.out.trans (if_pos h0))
    have HFE0 := Lib.hid (HFE.out.trans h0)
    have HHD := Lib.hid hh
    obtain ⟨ML, hML⟩ : ∃ ML, ML = mustTo (lis t wind voice (inL qs)) t.plots.length := ⟨_, rfl⟩
    have hms : ∀ s ∈ ML, s ∈ kindIdx t.plots 0 := fun s hs => by
      rw [hML] at hs
      obtain ⟨p, rfl⟩ : ∃ p : Nat, s = p := by
        unfold mustTo at hs
        obtain ⟨p, _, e⟩ := List.mem_map.1 hs
        exact ⟨p, e.symm⟩
      obtain ⟨hp, x, hx, ho⟩ := mem_mustTo.1 hs
      obtain ⟨a, b, c, d⟩ := mem_lisN.1 hx
      rw [d] at ho
      have h30 : t.len ≤ 30 := ok.n30
      have h2 := only_iff.1 ho p (by have : p < t.len := hp; omega)
      have h3 : hearB t wind voice x.1 p = true := by rw [h2]; simp
      unfold hearB at h3
      rw [Bool.and_eq_true, decide_eq_true_iff] at h3
      exact mem_kindIdx.2 ⟨p, rfl, h3.1.1, h3.1.2⟩
    have HFIN : Hid ((kindIdx t.plots 0).filter (fun s => decide (s ∈ ML)) = ML) := Lib.hid (by
      have h := must_list ok (lis t wind voice (inL qs)) (by rw [← hML]; exact hms)
      rw [← hML] at h; exact h)
    have HMR := Lib.hid (fun (p : Nat) (hp : p < t.len) (OL : List Int) (hO : ∀ s : Int, s ∈ OL ↔ s ∈ kindIdx t.plots 0 ∧ s ≠ p) => must_ref HNM.out wind voice hh hp hO)
    rw [← hML] at HRS1 HMR
    clear hML hh h0 hms
    go_wp2_with fail
    refine HDF.out.mono ?_
    rintro e w4 ⟨rfl, rfl⟩
    obtain ⟨k0, k1, k2⟩ := box33 HX0.out HB3.out
    have HST := Lib.hid (refStreets_any t.wide (some ⟨b, o, none⟩) cap t.plots (by omega) w4 (HR.out.below HB3.out))
    go_wp2_with fail
    refine HST.out.mono ?_
    rintro e w6 ⟨v33, rfl, ho33, hB⟩
    have HRS6 := Lib.hid (RdI.own rfl rfl ho33)
    have hcs : ∃ a33 c33, v33 = .slice a33 (kindIdx t.plots 0).length c33 ∧ (kindIdx t.plots 0).length ≤ c33 := by
      rcases ho33.2 with ⟨h1, h2⟩ | ⟨g, cp, cur, h1, _, _, hn, _⟩
      · exact ⟨none, 0, by rw [h1, h2], by omega⟩
      · exact ⟨_, cp, h1, hn⟩
    obtain ⟨a33, c33, rfl, hc33⟩ := hcs
    have HND := Lib.hid (kind_nodup t.plots 0)
    have HMK := Lib.hid (fun (s : Int) (hs : s ∈ kindIdx t.plots 0) => mem_kindIdx.1 hs)
    obtain ⟨St, hSQ⟩ : ∃ St, St = kindIdx t.plots 0 := ⟨_, rfl⟩
    rw [← hSQ] at HRS6 hc33 hSt HFIN HMR HND HMK
    rw [← hSQ]
    have HB6 := Lib.hid (join HB3.out hB)
    have HB7 := Lib.hid hB
    obtain ⟨i0, hi, hz0, hz1, hz2⟩ := info_parts A_info3
    clear ho33 hB HST k0 k1 k2 hSQ
    go_wp2_with fail
    go_loopw [13, 14] (fun v i wr => ∃ k : Nat, i = .int .i64 k ∧ k ≤ St.length ∧ wr.ownsRow w6.heap.size 3 1 v ((St.take k).filter (fun s => decide (s ∈ ML))).length (((St.take k).filter (fun s => decide (s ∈ ML))).map (Value.int .i64)) ∧ Below w6.heap.size w6 wr) (fun _ i _ => St.length - (intOf i).toNat)
    case atStart => exact ⟨0, rfl, Nat.zero_le _, own_none _ _ _ _, Below.refl _ _⟩
    case round =>
      obtain ⟨k, rfl, hk, hown, hBk⟩ := hrel
      obtain ⟨wk, rfl⟩ : ∃ wk : World, wk = wr := ⟨_, rfl⟩
      have HO := Lib.hid hown
      have HBk := Lib.hid hBk
      have hzk := hBk.size
      by_cases hlt : k < St.length
      · have hlt' : (k : Int) < St.length := by omega
        obtain ⟨b3, o3, rfl, -, hI0⟩ := rd_ints HRS6.out (by intro e; rw [e] at hlt; simp at hlt)
        have hb3w := hI0.1
        have HI3 := Lib.hid (hI0.below hBk hI0.1)
        clear hown hBk hI0
        go_upto_region 12 with fail
        obtain ⟨p, hp, hpl, hp0⟩ : ∃ p : Nat, St.getD k 0 = p ∧ p < t.len ∧ t.at p = 0 := by
          have hm : St.getD k 0 ∈ St := by rw [List.getD_eq_getElem?_getD, List.getElem?_eq_getElem hlt]; exact List.getElem_mem _
          obtain ⟨p, e1, e2, e3⟩ := HMK.out _ hm
          exact ⟨p, e1, e2, e3⟩
        have hkn : k + 1 ≤ St.length := by omega
        have hkn' : (k : Int) + 1 ≤ St.length := by omega
        have hkc : (k : Int) ≤ c33 := by omega
        have hnc : (St.length : Int) ≤ c33 := by omega
        obtain ⟨z, sc, hz⟩ : ∃ z sc : Nat, (c33 = k + 1 ∧ z = o3 ∧ sc = 0) ∨ (c33 ≠ k + 1 ∧ z = o3 + (k + 1) ∧ sc = c33 - (k + 1)) := by
          by_cases e : c33 = k + 1
          · exact ⟨o3, 0, .inl ⟨e, rfl, rfl⟩⟩
          · exact ⟨o3 + (k + 1), c33 - (k + 1), .inr ⟨e, rfl, rfl⟩⟩
        have hwk : IntKind.wrap .i64 ((k : Int) + 1) = ((k + 1 : Nat) : Int) := wrap_nat (n := k + 1) (by omega)
        have HZ := Lib.hid hz
        have hadd : ∀ (bb oo jj : Nat), (⟨bb, oo, none⟩ : Addr).add jj = ⟨bb, oo + jj, none⟩ := fun bb oo jj => by unfold Addr.add; split <;> simp_all
        have HAD := Lib.hid hadd
        clear hz hadd
        refine Rk.region_gen 9 (gM9 wk.heap.size) (below_isGr wk.heap.size) (fun i a b h => gM9_all _ i a b h) (fun i a => gM9_refl _ i a) 11 [[], [], [], [1, 2], [0, 1, 2, 3], [], [], [6], [5, 6, 7], [0, 1, 2, 3, 4, 5, 6, 7, 8], [0, 1, 2, 3, 4, 5, 6, 7, 8, 9]] [some 39, some 40, some 41, some 42, some 43, some 44, some 45, some 46, some 47, some 48, some 15] (by omega)
          (spM9 (.slice (some ⟨b3, o3, none⟩) St.length c33) (.slice (some ⟨b3, o3, none⟩) k c33) (.slice (some ⟨b3, z, none⟩) (St.length - (k + 1)) sc) k (St.length - (k + 1)) (St.take k) (St.drop (k + 1)) wk.heap.size) (by kernel_rfl) (by kernel_rfl) rfl (spM9_stable _ _ _ _ _ _ _ _) ?_ ?_
        · refine ⟨fun V w' c hG hc hs => ?_, fun V w' c hG hc hs => ?_, fun V w' c hG hc hs => ?_, fun V w' c hG hc hs => ?_, fun V w' c hG hc hs => ?_, fun V w' c hG hc hs => ?_, fun V w' c hG hc hs => ?_, fun V w' c hG hc hs => ?_, fun V w' c hG hc hs => ?_, fun V w' c hG hc hs => ?_, fun V w' c hG hc hs => ?_, trivial⟩
          all_goals
            have hIw := HI3.out.below hG HI3.out.1
            have hsz := hG.size
            rw [if_pos (by rfl)]
          · exact Rk.GrowL.value (v := .slice (some ⟨w'.heap.size, 0, none⟩) 0 0) (w' := w'.alloc (.cells #[] 3)) (by simp [go_sem, Rs.look]) (gM9_of (by decide) (below1 _ _) hsz) ⟨_, rfl, hsz, fun _ => heap_alloc_last _ _⟩
          · exact Rk.GrowL.value (v := .slice (some ⟨b3, o3, none⟩) St.length c33) (w' := w') (by simp [go_sem, Rs.look]) (gM9_refl _ _ _) rfl
          · exact Rk.GrowL.value (v := .int .i64 k) (w' := w') (by simp [go_sem, Rs.look]) (gM9_refl _ _ _) rfl
          · have e1 : V 1 = .slice (some ⟨b3, o3, none⟩) St.length c33 := hs 1 (by simp)
            have e2 : V 2 = .int .i64 k := hs 2 (by simp)
            exact Rk.GrowL.value (v := .slice (some ⟨b3, o3, none⟩) k c33) (w' := w') (by simp [go_sem, Rs.look, e1, e2, hkc]) (gM9_refl _ _ _) rfl
          · have e3 : V 3 = .slice (some ⟨b3, o3, none⟩) k c33 := hs 3 (by simp)
            obtain ⟨g, e0, hg, hcg⟩ : ∃ g, V 0 = .slice (some ⟨g, 0, none⟩) 0 0 ∧ wk.heap.size ≤ g ∧ (c = false → w'.heap[g]? = some (.cells #[] 3 (0, 0))) := hs 0 (by simp)
            by_cases hk0 : k = 0
            · subst hk0
              refine Rk.GrowL.value (v := .slice (some ⟨g, 0, none⟩) 0 0) (w' := w') (exec_append2 rfl rfl (by simp [Rs.look, e0]) (by simp [Rs.look, e3]) (append_zero w' ⟨g, 0, none⟩ 0 0 (some ⟨b3, o3, none⟩) c33 (Nat.le_refl _))) (gM9_refl _ _ _) ⟨g, 0, rfl, Nat.le_refl _, hg, fun e => ?_⟩
              exact ⟨rfl, .inr ⟨g, 0, #[], rfl, hg, hcg (by simpa using e), Nat.le_refl _, by unfold maxLen; omega, rfl, rfl⟩⟩
            · have hnl : ((St.take k).map (Value.int .i64)).length = k * 1 := by rw [List.length_map, List.length_take]; omega
              have hnews : ∀ j u, ((St.take k).map (Value.int .i64))[j]? = some u → w'.cell? ((⟨b3, o3, none⟩ : Addr).add j) = some u := fun j u hj => by
                have hjk : j < k := by have := (List.getElem?_eq_some_iff.1 hj).1; omega
                rw [HAD.out, hIw.2 j (by omega), ← hj, List.getElem?_map, List.getElem?_take, if_pos hjk, List.getElem?_eq_getElem (by omega : j < St.length), List.getD_eq_getElem?_getD, List.getElem?_eq_getElem (by omega : j < St.length)]
                rfl
              obtain ⟨v', w8, hr, ho, hgr⟩ := run_append_arg_grows (P := Try.prog) (w := w') 31 31 3 i0 (.int .i64 0) 1 8 A_und31 hi hz0 hz1 hz2 rfl (by decide) ⟨g, 0, none⟩ 0 0 [] rfl (by simp) ⟨b3, o3, none⟩ k c33 ((St.take k).map (Value.int .i64)) hnl hnews (by omega) (by unfold maxLen; omega) (by omega)
              rw [Nat.zero_add, List.nil_append] at ho
              rcases ho.2 with ⟨_, h1⟩ | ⟨g', cp, cur, h1, hg', h2, h3, h4⟩
              · omega
              · subst h1
                exact Rk.GrowL.value (v := .slice (some ⟨g', 0, none⟩) k cp) (w' := w8) (exec_append2 rfl rfl (by simp [Rs.look, e0]) (by simp [Rs.look, e3]) hr) (gM9_of (by decide) ⟨hgr.os, hgr.tape, hgr.output, hgr.size, fun k hk => hgr.block k hk (by simp)⟩ hsz) ⟨g', cp, rfl, h3, by omega, fun _ => own_base ho hsz⟩
          · exact Rk.GrowL.value (v := .slice (some ⟨b3, o3, none⟩) St.length c33) (w' := w') (by simp [go_sem, Rs.look]) (gM9_refl _ _ _) rfl
          · exact Rk.GrowL.value (v := .int .i64 k) (w' := w') (by simp [go_sem, Rs.look]) (gM9_refl _ _ _) rfl
          · have e6 : V 6 = .int .i64 k := hs 6 (by simp)
            exact Rk.GrowL.value (v := .int .i64 ((k + 1 : Nat) : Int)) (w' := w') (by simp [go_sem, Rs.look, e6, hwk]) (gM9_refl _ _ _) rfl
          · have e5 : V 5 = .slice (some ⟨b3, o3, none⟩) St.length c33 := hs 5 (by simp)
            have e7 : V 7 = .int .i64 ((k + 1 : Nat) : Int) := hs 7 (by simp)
            have hp1 : ¬ ((k : Int) + 1 < 0) := by omega
            have hp2 : 0 ≤ (k : Int) + 1 := by omega
            rcases HZ.out with ⟨h1, h2, h3⟩ | ⟨h1, h2, h3⟩
            · subst h2 h3
              exact Rk.GrowL.value (v := .slice (some ⟨b3, z, none⟩) (St.length - (k + 1)) 0) (w' := w') (by subst h1; simp [go_sem, Rs.look, e5, e7, hkn', hnc, hp1, hp2]) (gM9_refl _ _ _) rfl
            · subst h2 h3
              have h4 : ¬ (c33 - (k + 1) = 0) := by omega
              exact Rk.GrowL.value (v := .slice (some ⟨b3, o3 + (k + 1), none⟩) (St.length - (k + 1)) (c33 - (k + 1))) (w' := w') (by simp [go_sem, Rs.look, e5, e7, hkn', hnc, h4, hp1, hp2, h1]) (gM9_refl _ _ _) rfl
          · have e8 : V 8 = .slice (some ⟨b3, z, none⟩) (St.length - (k + 1)) sc := hs 8 (by simp)
            obtain ⟨g, c4, e4, hkc4, hg, ho4⟩ : ∃ g c4, V 4 = .slice (some ⟨g, 0, none⟩) k c4 ∧ k ≤ c4 ∧ wk.heap.size ≤ g ∧ (c = false → w'.ownsRow wk.heap.size 3 1 (V 4) k ((St.take k).map (Value.int .i64))) := hs 4 (by simp)
            have ho4 := ho4 (hc rfl)
            rw [e4] at ho4
            by_cases hm0 : St.length - (k + 1) = 0
            · have hd0 : St.drop (k + 1) = [] := List.drop_eq_nil_of_le (by omega)
              rw [hm0] at e8 ⊢
              rw [hd0]
              refine Rk.GrowL.value (v := .slice (some ⟨g, 0, none⟩) k c4) (w' := w') (exec_append2 rfl rfl (by simp [Rs.look, e4]) (by simp [Rs.look, e8]) (append_zero w' ⟨g, 0, none⟩ k c4 (some ⟨b3, z, none⟩) sc hkc4)) (gM9_refl _ _ _) ⟨by simp, ?_⟩
              simpa using ho4
            · have hzo : z = o3 + (k + 1) := by
                rcases HZ.out with ⟨h1, h2, h3⟩ | ⟨h1, h2, h3⟩
                · exact absurd (by omega) hm0
                · exact h2
              have hnl : ((St.drop (k + 1)).map (Value.int .i64)).length = (St.length - (k + 1)) * 1 := by rw [List.length_map, List.length_drop]; omega
              have hnews : ∀ j u, ((St.drop (k + 1)).map (Value.int .i64))[j]? = some u → w'.cell? ((⟨b3, z, none⟩ : Addr).add j) = some u := fun j u hj => by
                have hjk : j < St.length - (k + 1) := by have := (List.getElem?_eq_some_iff.1 hj).1; omega
                rw [HAD.out, hzo, Nat.add_assoc, hIw.2 (k + 1 + j) (by omega), ← hj, List.getElem?_map, List.getElem?_drop, List.getElem?_eq_getElem (by omega : k + 1 + j < St.length), List.getD_eq_getElem?_getD, List.getElem?_eq_getElem (by omega : k + 1 + j < St.length)]
                rfl
              obtain ⟨v', w8, hr, ho, hgr, -⟩ := run_append_own (P := Try.prog) w' wk.heap.size 31 31 3 i0 (.int .i64 0) 1 8 A_und31 hi hz0 hz1 hz2 rfl (by decide) (.slice (some ⟨g, 0, none⟩) k c4) k _ ho4 ⟨b3, z, none⟩ (St.length - (k + 1)) sc ((St.drop (k + 1)).map (Value.int .i64)) hnl hnews (by intro u hu; obtain ⟨x, _, rfl⟩ := List.mem_map.1 hu; rfl) (by unfold maxLen; omega) (by omega) hsz
              refine Rk.GrowL.value (v := v') (w' := w8) (exec_append2 rfl rfl (by simp [Rs.look, e4]) (by simp [Rs.look, e8]) hr) ?_ ⟨by simp, ?_⟩
              · unfold gM9
                rw [if_pos rfl]
                exact ⟨hgr.os, hgr.tape, hgr.output, hgr.size, fun q hq => hgr.block q (by omega) (by intro e; simp [Value.ownBlock] at e; omega)⟩
              · rw [List.map_append]; exact ho
          · have r9 : c = true ∧ w'.ownsRow wk.heap.size 3 1 (V 9) (k + (St.length - (k + 1))) ((St.take k ++ St.drop (k + 1)).map (Value.int .i64)) := hs 9 (by simp)
            exact Rk.GrowL.value (v := V 9) (w' := w') (by simp [go_sem, Rs.look]) (gM9_refl _ _ _) ⟨by rw [r9.1]; rfl, r9.2⟩
        · intro V w' hG hs
          have hG' : Below wk.heap.size wk w' := hG
          have e1 : V 1 = .slice (some ⟨b3, o3, none⟩) St.length c33 := hs 1 (by omega)
          have e2 : V 2 = .int .i64 k := hs 2 (by omega)
          have e3 : V 3 = .slice (some ⟨b3, o3, none⟩) k c33 := hs 3 (by omega)
          have e5 : V 5 = .slice (some ⟨b3, o3, none⟩) St.length c33 := hs 5 (by omega)
          have e6 : V 6 = .int .i64 k := hs 6 (by omega)
          have e7 : V 7 = .int .i64 ((k + 1 : Nat) : Int) := hs 7 (by omega)
          have e8 : V 8 = .slice (some ⟨b3, z, none⟩) (St.length - (k + 1)) sc := hs 8 (by omega)
          obtain ⟨-, r10⟩ : true = true ∧ w'.ownsRow wk.heap.size 3 1 (V 10) (k + (St.length - (k + 1))) ((St.take k ++ St.drop (k + 1)).map (Value.int .i64)) := hs 10 (by omega)
          simp only [Rs.canon, Rs.dstOf, List.range_succ, List.range_zero, List.nil_append, List.cons_append, List.foldl_cons, List.foldl_nil, List.drop_succ_cons, List.drop_zero, List.drop_nil, List.getElem?_toArray, List.getElem?_cons_succ, List.getElem?_cons_zero, Option.bind_some, Act.put, List.getD_cons_succ, List.getD_cons_zero, List.setIfInBounds_toArray, List.set_cons_succ, List.set_cons_zero]
          rw [e1, e2, e3, e5, e6, e7, e8]
          generalize V 0 = y0
          generalize V 4 = y4
          generalize V 9 = y9
          generalize V 10 = v10 at r10 ⊢
          obtain ⟨OL, hOL⟩ : ∃ OL, OL = St.take k ++ St.drop (k + 1) := ⟨_, rfl⟩
          rw [← hOL] at r10
          have hOLl : OL.length = k + (St.length - (k + 1)) := by rw [hOL, List.length_append, List.length_take, List.length_drop]; omega
          rw [← hOLl] at r10
          have hmem : ∀ s : Int, s ∈ OL ↔ s ∈ St ∧ s ≠ p := fun s => by rw [hOL, ← hp]; exact mem_without HND.out hlt s
          have hrd : RdI w' v10 OL := RdI.own rfl rfl r10
          have HSQ := Lib.hid (HSV.out w' v10 OL ((HE.out.below HB7.out).below (join HBk.out hG')) ((HH.out.below HB3.out).below (join HB7.out (join HBk.out hG'))) (by omega) hrd)
          obtain ⟨n, hn⟩ : ∃ n, n = srvE (earsE t wind voice t.plots.length) qs OL qs.length := ⟨_, rfl⟩
          rw [← hn] at HSQ
          have HNQ := Lib.hid (HMR.out p hpl OL hmem)
          rw [← hn] at HNQ
          have HBw := Lib.hid (join HBk.out hG')
          have HOw := Lib.hid (own_below HO.out (hG'.mono (Nat.le_refl _)))
          have hIw := HI3.out.below hG' HI3.out.1
          have HP := Lib.hid hp
          obtain ⟨av, cv, hav⟩ := own_slice r10
          subst hav
          clear hs hG hG' e1 e2 e3 e5 e6 e7 e8 r10 hOL hmem hrd hn hOLl hp HZ
          go_wp2_with fail
          refine HSQ.out.mono ?_
          rintro e w9 ⟨rfl, hB⟩
          have HB9 := Lib.hid (join HBw.out hB)
          have HO9 := Lib.hid (own_below HOw.out hB)
          have hI9 := hIw.below hB hIw.1
          have hcx : w9.cell? ⟨b3, o3 + k, none⟩ = some (.int .i64 (St.getD k 0)) := hI9.2 k (by omega)
          have hHI9 : b3 < w9.heap.size := hI9.1
          have hz9 := HB9.out.size
          obtain ⟨s0, hs0⟩ : ∃ s0 : Int, St.getD k 0 = s0 := ⟨_, rfl⟩
          rw [hs0] at hcx
          have HS0 := Lib.hid hs0
          have HP := Lib.hid (hs0.symm.trans HP.out)
          have hfl : ((St.take k).filter (fun s => decide (s ∈ ML))).length ≤ k := Nat.le_trans (List.length_filter_le _ _) (by rw [List.length_take]; omega)
          clear hB HSQ hIw hI9 hs0
          by_cases hm : n < qs.length
          · have hm' : (n : Int) < (qs.length : Int) := by omega
            have hin : decide (s0 ∈ ML) = true := by rw [HP.out]; exact decide_eq_true (HNQ.out.1 hm)
            have HIN := Lib.hid hin
            have HGE := Lib.hid hHI9
            clear hin hm
            go_wp2_with (at_builtin; refine wpList_append_own _ rfl _ _ 31 rfl w6.heap.size 3 i0 (.int .i64 0) 1 8 A_und31 hi hz0 hz1 hz2 rfl (by decide) _ _ _ rfl (HO9.out.alloc _) ⟨w9.heap.size, 0, none⟩ 1 1 [.int .i64 s0] rfl rfl ?d1 ?d2 ?d3 ?d4 ?d5 ?_)
            case d1 =>
              intro j u hj
              match j, hj with
              | 0, hj => simp at hj; subst hj; simp [Addr.add]
            case d2 => intro u hu; simp at hu; subst hu; rfl
            case d3 => unfold maxLen; omega
            case d4 => omega
            case d5 => simp; omega
            intro v' w8 hown8 hgrow _
            have hB8 := below_grown (al2 HB9.out (by omega) _) (HO9.out.alloc _) (Nat.le_refl _) (by simp; omega) hgrow
            have HO8 := Lib.hid hown8
            have HB8 := Lib.hid hB8
            clear hgrow hown8 hB8
            go_wp2_with fail
            go_roundw
            case rel =>
              refine ⟨k + 1, by simp, by omega, ?_, HB8.out⟩
              rw [take_filter hlt, HS0.out, HIN.out, if_pos rfl, List.length_append, List.map_append]
              exact HO8.out
            case measure => simp [intOf]; omega
          · have hm' : ¬ (n : Int) < (qs.length : Int) := by omega
            have hin : decide (s0 ∈ ML) = false := by rw [HP.out]; exact decide_eq_false (fun e => hm (HNQ.out.2 e))
            have HIN := Lib.hid hin
            clear hin hm
            go_wp2_with fail
            go_roundw
            case rel =>
              refine ⟨k + 1, by simp, by omega, ?_, HB9.out⟩
              rw [take_filter hlt, HS0.out, HIN.out]
              simpa using HO9.out
            case measure => simp [intOf]; omega
      · obtain rfl : k = St.length := by omega
        rw [List.take_length, HFIN.out] at HO
        clear hown hBk
        go_wp2_with fail
        go_ret2
        refine ⟨_, by rw [HFE0.out]; rfl, join HB.out (join HB6.out HBk.out), ?_⟩
        rw [HRS1.out]
        exact RdI.own rfl rfl HO.out
  · rw [decide_eq_true (by simpa using h0)] at HDF
    have HRS1 := Lib.hid (HRS.out.trans (if_neg h0))
    have HFE6 : Hid (FE = 6) := Lib.hid (by
      rw [HFE.out]
      rcases firstE_or (lis t wind voice (inL qs)) with h | h
      · exact absurd h h0
      · exact h)
    clear h0
    go_wp2_with fail
    refine HDF.out.mono ?_
    rintro e w4 ⟨rfl, rfl⟩
    go_wp2_with fail
    go_ret2
    refine ⟨.slice none 0 0, by rw [HFE6.out]; rfl, join HB.out HB3.out, ?_⟩
    rw [HRS1.out]
    exact ⟨by simp, none, 0, rfl, fun h => absurd rfl h⟩
end Go.Proofs.Ytimedmkpenbmkaa
end
