/- Contracts and mathematics, part 3. -/
import Derived.Test.YtimedmkpenbmkaaFbb
import Derived.Laws.OwnMore
section
namespace Go.Proofs.Ytimedmkpenbmkaa
open Go.RowKit Go.Shelf
set_option linter.unusedSimpArgs false
set_option linter.unusedVariables false
set_option maxHeartbeats 2000000 in
set_option maxRecDepth 100000 in
theorem has_any (v : Value) (xs : List Int) (n : Int) (hl : xs.length ≤ 1000000) (w : World) (hR : RdI w v xs) :
    Calls Try.prog 115 #[v, .int .i64 n] w fun e w' => e = .returned (.bool (xs.contains n)) ∧ w' = w := by
  have HR := Lib.hid hR
  obtain ⟨_, a, cap, rfl, -⟩ := hR
  go_enter Try.func115, Try.ntmps115
  go_wp2_with fail
  go_loopw [5] (fun i wr => ∃ k : Nat, i = .int .i64 k ∧ k ≤ xs.length ∧ (∀ j, j < k → xs.getD j 0 ≠ n) ∧ wr = w) (fun i _ => xs.length - (intOf i).toNat)
  case atStart => exact ⟨0, rfl, Nat.zero_le _, fun j hj => absurd hj (Nat.not_lt_zero _), rfl⟩
  case round =>
    obtain ⟨k, rfl, hk, hno, rfl⟩ := hrel
    by_cases hlt : k < xs.length
    · have hlt' : (k : Int) < xs.length := by omega
      obtain ⟨b, o, rfl, -, hI⟩ := rd_ints HR.out (by intro e; rw [e] at hlt; simp at hlt)
      have ck := hI.2 k hlt
      have hbl := hI.1
      obtain ⟨x, hx⟩ : ∃ x, xs.getD k 0 = x := ⟨_, rfl⟩
      rw [hx] at ck
      have HNO := Lib.hid hno
      have HX := Lib.hid hx
      clear hI hx hno
      by_cases hxn : x = n
      · have d1 : (x == n) = true := by simpa using hxn
        go_wp2_with fail
        go_ret
        refine ⟨?_, rfl⟩
        have : xs.contains n = true := by
          rw [List.contains_iff_mem, ← hxn, ← HX.out, List.getD_eq_getElem?_getD, List.getElem?_eq_getElem hlt]
          exact List.getElem_mem _
        rw [this]; rfl
      · have d1 : (x == n) = false := by simpa using hxn
        go_wp2_with fail
        go_roundw
        case rel =>
          refine ⟨k + 1, by simp, by omega, fun j hj => ?_, trivial⟩
          by_cases e : j = k
          · rw [e, HX.out]; exact hxn
          · exact HNO.out j (by omega)
        case measure => simp [intOf]; omega
    · obtain rfl : k = xs.length := by omega
      have HNO := Lib.hid hno
      clear hno
      go_wp2_with fail
      go_ret
      refine ⟨?_, rfl⟩
      have : xs.contains n = false := by
        rw [← Bool.not_eq_true, List.contains_iff_mem]
        intro h
        obtain ⟨i, hi, e⟩ := List.getElem_of_mem h
        have := HNO.out i hi
        rw [List.getD_eq_getElem?_getD, List.getElem?_eq_getElem hi] at this
        exact this e
      rw [this]; rfl
/-- ears that can be read: a row of slices of numbers -/
structure ErR (n O : Nat) (E : Nat → List Int) (W : World) : Prop where
  lt : O < W.heap.size
  at' : ∀ p, p < n → ∃ v, W.cell? ⟨O, p, none⟩ = some v ∧ RdI W v (E p)
theorem ErW.read {n O : Nat} {E : Nat → List Int} {vs : List Value} {W : World} (h : ErW n O E vs W) : ErR n O E W :=
  ⟨h.lt, fun p hp => ⟨_, h.cell hp, RdI.own rfl rfl (h.own p hp)⟩⟩
theorem ErR.below {n O : Nat} {E : Nat → List Int} {W W' : World} (h : ErR n O E W) (hB : Below W.heap.size W W') : ErR n O E W' :=
  ⟨Nat.lt_of_lt_of_le h.lt hB.size, fun p hp => by
    obtain ⟨v, h1, h2⟩ := h.at' p hp
    refine ⟨v, ?_, h2.below hB⟩
    unfold World.cell? at h1 ⊢
    rw [hB.block O h.lt]
    exact h1⟩
end Go.Proofs.Ytimedmkpenbmkaa
end
section
namespace Go.Proofs.Ytimedmkpenbmkaa
open Go.RowKit Go.Shelf
set_option linter.unusedSimpArgs false
set_option linter.unusedVariables false
/-- how many of some houses hear one of some stands, by lists of ears -/
def srvE (E : Nat → List Int) (hs S : List Int) (k : Nat) : Nat := ((hs.take k).filter fun h => S.any fun s => (E h.toNat).contains s).length
theorem srvE_next {E : Nat → List Int} {hs S : List Int} {k : Nat} (h : k < hs.length) : srvE E hs S (k + 1) = srvE E hs S k + if (S.any fun s => (E (hs.getD k 0).toNat).contains s) then 1 else 0 := by
  unfold srvE
  have e : hs.getD k 0 = hs[k] := by rw [List.getD_eq_getElem?_getD, List.getElem?_eq_getElem h]; rfl
  rw [List.take_succ_eq_append_getElem h, List.filter_append, List.length_append, e]
  congr 1
  cases hb : S.any fun s => (E hs[k].toNat).contains s
  · rw [List.filter_cons, if_neg (by rw [hb]; simp)]; rfl
  · rw [List.filter_cons, if_pos (by rw [hb])]; rfl
theorem srvE_le (E : Nat → List Int) (hs S : List Int) (k : Nat) : srvE E hs S k ≤ k := by
  unfold srvE
  refine Nat.le_trans (List.length_filter_le _ _) ?_
  rw [List.length_take]; omega
set_option maxHeartbeats 4000000 in
set_option maxRecDepth 100000 in
theorem refServed_any (n O c : Nat) (E : Nat → List Int) (hn : n ≤ 1000000) (hEl : ∀ p, p < n → (E p).length ≤ 1000000) (v u : Value) (hs S : List Int) (hl : hs.length ≤ 1000000) (hSl : S.length ≤ 1000000) (hh : ∀ k, k < hs.length → ∃ p : Nat, hs.getD k 0 = p ∧ p < n) (w : World) (hE : ErR n O E w) (hR : RdI w v hs) (hS : RdI w u S) :
    Calls Try.prog 110 #[.slice (some ⟨O, 0, none⟩) n c, v, u] w fun e w' => e = .returned (.int .i64 (srvE E hs S hs.length)) ∧ Below w.heap.size w w' := by
  have HR := Lib.hid hR
  have HE := Lib.hid hE
  have HH := Lib.hid hh
  have HEL := Lib.hid hEl
  have HS := Lib.hid hS
  obtain ⟨_, a, cap, rfl, -⟩ := hR
  obtain ⟨_, a2, cap2, rfl, -⟩ := hS
  clear hE hh hEl
  go_enter Try.func110, Try.ntmps110
  go_wp2_with fail
  go_loopw [7, 8] (fun v i wr => ∃ k : Nat, i = .int .i64 k ∧ k ≤ hs.length ∧ v = .int .i64 (srvE E hs S k) ∧ Below w.heap.size w wr) (fun _ i _ => hs.length - (intOf i).toNat)
  case atStart => exact ⟨0, rfl, Nat.zero_le _, by simp [srvE], Below.refl _ _⟩
  case round =>
    obtain ⟨k, rfl, hk, rfl, hB⟩ := hrel
    have hsl := srvE_le E hs S k
    by_cases hlt : k < hs.length
    · have hlt' : (k : Int) < hs.length := by omega
      obtain ⟨b, o, rfl, -, hI0⟩ := rd_ints HR.out (by intro e; rw [e] at hlt; simp at hlt)
      obtain ⟨p, hp, hpn⟩ := HH.out k hlt
      have hpn' : (p : Int) < n := by omega
      have HNX := Lib.hid (srvE_next (E := E) (S := S) hlt)
      rw [hp, Int.toNat_natCast] at HNX
      have HP := Lib.hid hp
      have HB := Lib.hid hB
      have hel := HEL.out p hpn
      clear hI0 hp hB
      go_wp2_with fail
      go_loopw [9, 10] (fun q i wq => ∃ j : Nat, i = .int .i64 j ∧ j ≤ S.length ∧ q = .bool ((S.take j).any fun s => (E p).contains s) ∧ Below w.heap.size w wq) (fun _ i _ => S.length - (intOf i).toNat)
      case atStart => exact ⟨0, rfl, Nat.zero_le _, by simp, HB.out⟩
      case round =>
        obtain ⟨j, rfl, hj, rfl, hBj⟩ := hrel
        by_cases hjl : j < S.length
        · have hjl' : (j : Int) < S.length := by omega
          obtain ⟨b2, o2, rfl, -, hI2⟩ := rd_ints (HS.out.below hBj) (by intro e; rw [e] at hjl; simp at hjl)
          obtain ⟨b', o', e', -, hI⟩ := rd_ints (HR.out.below hBj) (by intro e; rw [e] at hlt; simp at hlt)
          cases e'
          have ck := hI.2 k hlt
          rw [HP.out] at ck
          have hbl := hI.1
          have cj := hI2.2 j hjl
          have hbl2 := hI2.1
          obtain ⟨x, hx⟩ : ∃ x, S.getD j 0 = x := ⟨_, rfl⟩
          rw [hx] at cj
          have hEr := HE.out.below hBj
          obtain ⟨ve, ce, hre⟩ := hEr.at' p hpn
          have hol := hEr.lt
          have HRE := Lib.hid hre
          obtain ⟨_, ae, qe, rfl, -⟩ := hre
          have HHS := Lib.hid (fun W (h : RdI W (.slice ae (E p).length qe) (E p)) => has_any (.slice ae (E p).length qe) (E p) x hel W h)
          have hq : ((S.take (j + 1)).any fun s => (E p).contains s) = (((S.take j).any fun s => (E p).contains s) || (E p).contains x) := by
            have e : S[j] = x := by rw [← hx, List.getD_eq_getElem?_getD, List.getElem?_eq_getElem hjl]; rfl
            rw [List.take_succ_eq_append_getElem hjl, List.any_append, e]; simp
          have HQ := Lib.hid hq
          have HBJ := Lib.hid hBj
          clear hI hI2 hx hq hEr hBj
          generalize hbq : ((S.take j).any fun s => (E p).contains s) = bq at HQ ⊢
          clear hbq
          cases bq with
          | true =>
            go_wp2_with fail
            go_quiet (fail)
            go_wp2_with fail
            go_roundw
            case rel => exact ⟨j + 1, by simp, by omega, by rw [HQ.out]; rfl, ⟨HBJ.out.os, HBJ.out.tape, HBJ.out.output, HBJ.out.size, HBJ.out.block⟩⟩
            case measure => simp [intOf]; omega
          | false =>
            go_wp2_with fail
            go_quiet ((go_at_call 115; exact Calls.quiet_of_same (HHS.out _ (by exact HRE.out))))
            go_wp2_with fail
            go_roundw
            case rel => exact ⟨j + 1, by simp, by omega, by rw [HQ.out, Bool.false_or]; congr 1; rw [Bool.eq_iff_iff]; simp, ⟨HBJ.out.os, HBJ.out.tape, HBJ.out.output, HBJ.out.size, HBJ.out.block⟩⟩
            case measure => simp [intOf]; omega
        · obtain rfl : j = S.length := by omega
          have HBJ := Lib.hid hBj
          rw [List.take_length]
          generalize (S.any fun s => (E p).contains s) = bq at HNX ⊢
          clear hBj
          cases bq with
          | true =>
            go_wp2_with fail
            go_roundw
            case rel => exact ⟨k + 1, by simp, by omega, by rw [HNX.out]; simp, HBJ.out⟩
            case measure => simp [intOf]; omega
          | false =>
            go_wp2_with fail
            go_roundw
            case rel => exact ⟨k + 1, by simp, by omega, by rw [HNX.out]; simp, HBJ.out⟩
            case measure => simp [intOf]; omega
    · obtain rfl : k = hs.length := by omega
      have HB := Lib.hid hB
      clear hB
      go_wp2_with fail
      go_ret
      exact ⟨rfl, HB.out⟩
end Go.Proofs.Ytimedmkpenbmkaa
end
section
namespace Go.Proofs.Ytimedmkpenbmkaa
open Go.RowKit Go.Shelf
set_option linter.unusedSimpArgs false
set_option linter.unusedVariables false
set_option maxHeartbeats 1000000 in
set_option maxRecDepth 100000 in
theorem refStreets_any (wd : Int) (a : Option Addr) (cap : Nat) (xs : List Int) (hl : xs.length ≤ 1000000) (w : World) (hR : RdI w (.slice a xs.length cap) xs) :
    Calls Try.prog 109 #[.agg #[.int .i64 wd, .slice a xs.length cap]] w fun e w' => ∃ v, e = .returned v ∧ w'.ownsRow w.heap.size 3 1 v (kindIdx xs 0).length ((kindIdx xs 0).map (Value.int .i64)) ∧ Below w.heap.size w w' := by
  obtain ⟨i0, hi, hz0, hz1, hz2⟩ := info_parts A_info3
  have HB := Lib.hid (below1 w (.cells #[.int .i64 wd, .slice a xs.length cap] 33))
  have hx0 : (w.alloc (.cells #[.int .i64 wd, .slice a xs.length cap] 33)).heap[w.heap.size]? = some (.cells #[.int .i64 wd, .slice a xs.length cap] 33 (0, 0)) := heap_alloc_last _ _
  have HR := Lib.hid (hR.below HB.out)
  obtain ⟨W1, hW1⟩ : ∃ W1, W1 = w.alloc (.cells #[.int .i64 wd, .slice a xs.length cap] 33) := ⟨_, rfl⟩
  rw [← hW1] at HB HR hx0
  have HX0 := Lib.hid hx0
  have HW1 := Lib.hid hW1
  clear hR hx0 hW1
  go_enter Try.func109, Try.ntmps109
  go_upto_region 1 with fail
  rw [← HW1.out]
  go_wp2_with fail
  go_loopw [3, 4] (fun v i wr => ∃ k : Nat, k ≤ xs.length ∧ i = .int .i64 k ∧ wr.ownsRow W1.heap.size 3 1 v (kindTo xs 0 k).length ((kindTo xs 0 k).map (Value.int .i64)) ∧ Below W1.heap.size W1 wr) (fun _ i _ => xs.length - (intOf i).toNat)
  case atStart => exact ⟨0, Nat.zero_le _, rfl, own_none _ _ _ _, Below.refl _ _⟩
  case round =>
    obtain ⟨k, hk, rfl, hown, hBr⟩ := hrel
    have HO := Lib.hid hown
    have HBr := Lib.hid hBr
    have hlen := kindTo_len xs 0 k
    have hb0 := (hBr.block _ (Array.getElem?_eq_some_iff.1 HX0.out).1).trans HX0.out
    obtain ⟨k0, k1⟩ := blk_cells2 hb0
    have k2 := (Array.getElem?_eq_some_iff.1 hb0).1
    by_cases hlt : k < xs.length
    · have hne : xs ≠ [] := by rintro rfl; simp at hlt
      obtain ⟨b, o, rfl, _, hI⟩ := rd_ints HR.out hne
      have cp := (hI.below hBr hI.1).2 k hlt
      have hbr := Nat.lt_of_lt_of_le hI.1 hBr.size
      have hk' : (k : Int) < xs.length := by omega
      obtain ⟨x, hx⟩ : ∃ x, xs.getD k 0 = x := ⟨_, rfl⟩
      rw [hx] at cp
      have HX := Lib.hid hx
      have hz7 := hBr.size
      clear hx hown hI hBr hb0
      by_cases hx1 : x = 0
      · subst hx1
        have HYES : Hid ((xs.getD k 0 == 0) = true) := Lib.hid (by rw [HX.out]; rfl)
        go_wp2_with (at_builtin; refine wpList_append_own _ rfl _ _ 31 rfl W1.heap.size 3 i0 (.int .i64 0) 1 8 A_und31 hi hz0 hz1 hz2 rfl (by decide) _ _ _ rfl (HO.out.alloc _) ⟨wr.heap.size, 0, none⟩ 1 1 [.int .i64 (k : Int)] rfl rfl ?d1 ?d2 ?d3 ?d4 ?d5 ?_)
        case d2 => first | rfl | (intro u hu; simp at hu; subst hu; rfl)
        case d3 => unfold maxLen; omega
        case d4 => omega
        case d5 => first | omega | (simp; omega)
        intro v' w8 hown8 hgrow _
        have hB8 := below_grown (al2 HBr.out (by omega) _) (HO.out.alloc _) (Nat.le_refl _) (by simp; omega) hgrow
        have HO8 := Lib.hid hown8
        have HB8 := Lib.hid hB8
        clear hgrow hown8 hB8 k0 k1 k2
        go_wp2_with fail
        go_roundw
        case rel => exact ⟨k + 1, by omega, by simp, by rw [kindTo_yes HYES.out]; simpa using HO8.out, HB8.out⟩
        case measure => simp [intOf]; omega
      · have hx1' : (x == 0) = false := by simpa using hx1
        have HNO : Hid ((xs.getD k 0 == 0) = false) := Lib.hid (by rw [HX.out]; exact hx1')
        clear hx1
        go_wp2_with fail
        go_roundw
        case rel => exact ⟨k + 1, by omega, by simp, by rw [kindTo_no HNO.out]; exact HO.out, HBr.out⟩
        case measure => simp [intOf]; omega
    · obtain rfl : k = xs.length := by omega
      clear hown hBr hb0
      go_wp2_with fail
      go_ret
      exact ⟨_, rfl, own_base HO.out HB.out.size, join HB.out HBr.out⟩
/-- whether a town has more streets than a number, or more plots than there may be -/
def manyB (xs : List Int) (m : Int) : Bool := decide (40 < (xs.length : Int)) || (decide (((kindIdx xs 0).length : Int) > m) && decide ((xs.length : Int) ≤ 30))
set_option maxHeartbeats 2000000 in
set_option maxRecDepth 100000 in
theorem manyS_any (wd : Int) (a : Option Addr) (cap : Nat) (xs : List Int) (hl : xs.length ≤ 9223372036854775807) (m : Int) (w : World) (hR : RdI w (.slice a xs.length cap) xs) :
    Calls Try.prog 45 #[.agg #[.int .i64 wd, .slice a xs.length cap], .int .i64 m] w fun e w' => e = .returned (.bool (manyB xs m)) ∧ Below w.heap.size w w' := by
  have HB := Lib.hid (below1 w (.cells #[.int .i64 wd, .slice a xs.length cap] 24))
  have hx0 : (w.alloc (.cells #[.int .i64 wd, .slice a xs.length cap] 24)).heap[w.heap.size]? = some (.cells #[.int .i64 wd, .slice a xs.length cap] 24 (0, 0)) := heap_alloc_last _ _
  have HR := Lib.hid (hR.below HB.out)
  obtain ⟨W1, hW1⟩ : ∃ W1, W1 = w.alloc (.cells #[.int .i64 wd, .slice a xs.length cap] 24) := ⟨_, rfl⟩
  rw [← hW1] at HB HR hx0
  obtain ⟨k0, k1⟩ := blk_cells2 hx0
  have k2 := (Array.getElem?_eq_some_iff.1 hx0).1
  have HW1 := Lib.hid hW1
  have HX0 := Lib.hid hx0
  clear hR hx0 hW1
  go_enter Try.func45, Try.ntmps45
  go_upto_region 1 with fail
  rw [← HW1.out]
  go_wp2_with fail
  go_loopw [5, 11] (fun v i wr => ∃ k : Nat, k ≤ xs.length ∧ i = .int .i64 k ∧ v = .int .i64 ((kindTo xs 0 k).length : Nat) ∧ wr = W1) (fun _ i _ => xs.length - (intOf i).toNat)
  case atStart => exact ⟨0, Nat.zero_le _, rfl, by simp [kindTo], rfl⟩
  case round =>
    obtain ⟨k, hk, rfl, rfl, rfl⟩ := hrel
    have hlen := kindTo_len xs 0 k
    by_cases hlt : k < xs.length
    · have hk' : (k : Int) < xs.length := by omega
      obtain ⟨b, o, rfl, _, hI⟩ := rd_ints HR.out (by rintro rfl; simp at hlt)
      have cp := hI.2 k hlt
      have hbr := hI.1
      obtain ⟨x, hx⟩ : ∃ x, xs.getD k 0 = x := ⟨_, rfl⟩
      rw [hx] at cp
      have HX := Lib.hid hx
      clear hx hI
      by_cases hx1 : x = 0
      · subst hx1
        have HYES : Hid ((kindTo xs 0 (k + 1)).length = (kindTo xs 0 k).length + 1) := Lib.hid (by rw [kindTo_yes (by rw [HX.out]; rfl)]; simp)
        go_wp2_with fail
        go_roundw
        case rel => exact ⟨k + 1, by omega, by simp, by rw [HYES.out]; simp, trivial⟩
        case measure => simp [intOf]; omega
      · have hx1' : (x == 0) = false := by simpa using hx1
        have HNO : Hid (kindTo xs 0 (k + 1) = kindTo xs 0 k) := Lib.hid (by rw [kindTo_no (by rw [HX.out]; exact hx1')])
        clear hx1
        go_wp2_with fail
        go_roundw
        case rel => exact ⟨k + 1, by omega, by simp, by rw [HNO.out], trivial⟩
        case measure => simp [intOf]; omega
    · obtain rfl : k = xs.length := by omega
      clear hlen
      have HG := Lib.hid (great_any a wd xs.length cap wr)
      have HMB : Hid (manyB xs m = (decide (40 < (xs.length : Int)) || (decide (((kindTo xs 0 xs.length).length : Int) > m) && decide ((xs.length : Int) ≤ 30)))) := Lib.hid rfl
      obtain ⟨q1, hq1⟩ : ∃ q, decide (40 < (xs.length : Int)) = q := ⟨_, rfl⟩
      obtain ⟨c, hc⟩ : ∃ c, (kindTo xs 0 xs.length).length = c := ⟨_, rfl⟩
      rw [hq1] at HG HMB
      rw [hc] at HMB ⊢
      have hcl : c ≤ 9223372036854775807 := by rw [← hc]; exact Nat.le_trans (kindTo_len _ _ _) hl
      clear hq1 hc
      go_wp2_with fail
      refine HG.out.mono ?_
      rintro e w2 ⟨rfl, hB⟩
      have hb0 := (hB.block _ (Array.getElem?_eq_some_iff.1 HX0.out).1).trans HX0.out
      obtain ⟨j0, j1⟩ := blk_cells2 hb0
      have j2 := (Array.getElem?_eq_some_iff.1 hb0).1
      have HB2 := Lib.hid (join HB.out hB)
      clear hB hb0 HG
      cases q1 with
      | true =>
        go_wp2_with fail
        go_ret
        exact ⟨by rw [HMB.out]; rfl, HB2.out⟩
      | false =>
        by_cases h2 : (c : Int) > m
        · have d2 : decide ((c : Int) > m) = true := by simpa using h2
          by_cases h3 : xs.length ≤ 30
          · have d3 : decide (xs.length ≤ 30) = true := by simpa using h3
            have d3' : decide ((xs.length : Int) ≤ 30) = true := by simp; omega
            go_wp2_with fail
            go_ret
            exact ⟨by rw [HMB.out, d2, d3']; rfl, HB2.out⟩
          · have d3 : decide (xs.length ≤ 30) = false := by simpa using h3
            have d3' : decide ((xs.length : Int) ≤ 30) = false := by simp; omega
            go_wp2_with fail
            go_ret
            exact ⟨by rw [HMB.out, d2, d3']; rfl, HB2.out⟩
        · have d2 : decide ((c : Int) > m) = false := by simpa using h2
          go_wp2_with fail
          go_ret
          exact ⟨by rw [HMB.out, d2]; rfl, HB2.out⟩
end Go.Proofs.Ytimedmkpenbmkaa
end
section
namespace Go.Proofs.Ytimedmkpenbmkaa
open Go.RowKit Go.Shelf
set_option linter.unusedSimpArgs false
set_option linter.unusedVariables false
def spAs (TV HV : Value) (KK : Int) (BB OO : Nat) (HH QQ : Int) : Nat → List Value → Value → World → Prop
  | 0, _, v, _ => v = TV
  | 1, _, v, _ => v = HV
  | 2, _, v, _ => v = .int .i64 KK
  | 3, _, v, _ => v = .pointer (some ⟨BB, OO, none⟩)
  | 4, _, v, _ => v = .int .i64 HH
  | 5, _, v, _ => v = .int .i64 QQ
  | 6, _, v, _ => v = .int .i64 QQ
  | _, _, _, _ => False
theorem spAs_stable (TV HV : Value) (KK : Int) (BB OO : Nat) (HH QQ : Int) : ∀ i L v w w', spAs TV HV KK BB OO HH QQ i L v w → Rs.Gr w w' → spAs TV HV KK BB OO HH QQ i L v w' := by
  intro i L v w w' h hg
  match i with
  | 0 => exact h
  | 1 => exact h
  | 2 => exact h
  | 3 => exact h
  | 4 => exact h
  | 5 => exact h
  | 6 => exact h
theorem RdI.pre {w : World} {b o c k : Nat} {xs : List Int} (hk : k ≤ xs.length ∧ xs.length ≤ 1000000) (h : Ints w b o xs) : RdI w (.slice (some ⟨b, o, none⟩) k c) (xs.take k) := by
  have hl : (xs.take k).length = k := by rw [List.length_take]; omega
  refine ⟨by omega, some ⟨b, o, none⟩, c, by rw [hl], fun _ => ⟨b, o, rfl, h.1, fun i hi => ?_⟩⟩
  rw [hl] at hi
  rw [h.2 i (by omega), List.getD_eq_getElem?_getD, List.getD_eq_getElem?_getD, List.getElem?_take, if_pos hi]
/-- how far the houses are asked: which are named so far -/
theorem q_next {xs : List Int} (h30 : xs.length ≤ 30) {qs : List Int} {k : Nat} (hk : k < qs.length) {nm : List Bool} (hl : nm.length = 30) (hn : ∀ p : Nat, p < 30 → nm.getD p false = decide ((p : Int) ∈ qs.take k)) :
    (plotErr xs (qs.getD k 0) 1 ≠ 0 → (qAll xs nm (qs.drop k)).1 = plotErr xs (qs.getD k 0) 1) ∧
    (plotErr xs (qs.getD k 0) 1 = 0 → (qs.take k).contains (qs.getD k 0) = true → (qAll xs nm (qs.drop k)).1 = 5) ∧
    (plotErr xs (qs.getD k 0) 1 = 0 → (qs.take k).contains (qs.getD k 0) = false → ∃ nm2 : List Bool, nm2.length = 30 ∧ (∀ p : Nat, p < 30 → nm2.getD p false = decide ((p : Int) ∈ qs.take (k + 1))) ∧ (qAll xs nm (qs.drop k)).1 = (qAll xs nm2 (qs.drop (k + 1))).1) := by
  have e : qs.getD k 0 = qs[k] := by rw [List.getD_eq_getElem?_getD, List.getElem?_eq_getElem hk]; rfl
  have ed : qs.drop k = qs.getD k 0 :: qs.drop (k + 1) := by rw [e]; exact List.drop_eq_getElem_cons hk
  have et : qs.take (k + 1) = qs.take k ++ [qs.getD k 0] := by rw [e]; exact List.take_succ_eq_append_getElem hk
  rw [ed]
  generalize qs.getD k 0 = h at *
  have eq : qAll xs nm (h :: qs.drop (k + 1)) = (if (qStep xs nm h).1 ≠ 0 then qStep xs nm h else qAll xs (qStep xs nm h).2 (qs.drop (k + 1))) := rfl
  rw [eq]
  have hpl : plotErr xs h 1 = 0 → ∃ p : Nat, h = p ∧ p < 30 := fun h0 => by
    obtain ⟨p, e1, e2, _⟩ := plot_ok h0
    exact ⟨p, e1, by omega⟩
  refine ⟨fun h0 => ?_, fun h0 h1 => ?_, fun h0 h1 => ?_⟩
  · have : qStep xs nm h = (plotErr xs h 1, nm) := by unfold qStep; rw [if_pos h0]
    rw [this, if_pos h0]
  · obtain ⟨p, rfl, hp⟩ := hpl h0
    have : qStep xs nm (p : Int) = (5, nm) := by
      unfold qStep
      rw [if_neg (by rw [h0]; simp), Int.toNat_natCast, hn p hp, if_pos (by rw [decide_eq_true_iff]; exact List.contains_iff_mem.1 h1)]
    rw [this, if_pos (by simp)]
  · obtain ⟨p, rfl, hp⟩ := hpl h0
    have hno : ¬ ((p : Int) ∈ qs.take k) := fun hm => by rw [List.contains_iff_mem.2 hm] at h1; cases h1
    have : qStep xs nm (p : Int) = (0, nm.set p true) := by
      unfold qStep
      rw [if_neg (by rw [h0]; simp), Int.toNat_natCast, hn p hp, if_neg (by rw [decide_eq_true_iff]; exact hno)]
    rw [this, if_neg (by simp)]
    refine ⟨nm.set p true, by simp [hl], fun q hq => ?_, rfl⟩
    rw [et, List.getD_eq_getElem?_getD, List.getElem?_set]
    by_cases e2 : p = q
    · subst e2; rw [if_pos rfl, if_pos (by omega)]; simp
    · rw [if_neg e2, ← List.getD_eq_getElem?_getD, hn q hq]
      have e3 : ¬ ((q : Int) = (p : Int)) := by omega
      simp [e3]
set_option maxHeartbeats 4000000 in
set_option maxRecDepth 100000 in
theorem Asked_any (wd : Int) (a : Option Addr) (cap : Nat) (xs : List Int) (hl : xs.length ≤ 1000000) (wind voice : Int) (a2 : Option Addr) (hcap : Nat) (qs : List Int) (hhl : qs.length ≤ 1000000) (hc : qs.length ≤ hcap) (w : World) (hR : RdI w (.slice a xs.length cap) xs) (hH : RdI w (.slice a2 qs.length hcap) qs) :
    Calls Try.prog 54 #[.agg #[.int .i64 wd, .slice a xs.length cap], .int .i64 wind, .int .i64 voice, .slice a2 qs.length hcap] w fun e w' => e = .returned (.int .i64 (quarterE wd xs wind voice qs)) ∧ Below w.heap.size w w' := by
  have HB := Lib.hid (below1 w (.cells #[.int .i64 wd, .slice a xs.length cap] 33))
  have hx0 : (w.alloc (.cells #[.int .i64 wd, .slice a xs.length cap] 33)).heap[w.heap.size]? = some (.cells #[.int .i64 wd, .slice a xs.length cap] 33 (0, 0)) := heap_alloc_last _ _
  have HR := Lib.hid (hR.below HB.out)
  have HH := Lib.hid (hH.below HB.out)
  obtain ⟨W1, hW1⟩ : ∃ W1, W1 = w.alloc (.cells #[.int .i64 wd, .slice a xs.length cap] 33) := ⟨_, rfl⟩
  rw [← hW1] at HB HR HH hx0
  obtain ⟨k0, k1⟩ := blk_cells2 hx0
  have k2 := (Array.getElem?_eq_some_iff.1 hx0).1
  have HX0 := Lib.hid hx0
  have HW1 := Lib.hid hW1
  have HCK := Lib.hid (refCheck_any wd a cap xs hl W1 HR.out)
  have HQE : Hid (quarterE wd xs wind voice qs = if checkErr wd xs ≠ 0 then checkErr wd xs else if airErr wind voice ≠ 0 then airErr wind voice else (qAll xs (List.replicate 30 false) qs).1) := Lib.hid (by
    unfold quarterE openErr
    by_cases h1 : checkErr wd xs = 0
    · rw [h1]; simp
    · simp [h1])
  have HIS := Lib.hid (fun (W : World) (hRW : RdI W (.slice a xs.length cap) xs) (h : Int) => refIs_any wd a cap xs h 1 hl W hRW)
  clear hR hH hx0 hW1
  go_enter Try.func54, Try.ntmps54
  go_upto_region 1 with fail
  rw [← HW1.out]
  go_wp2_with fail
  refine HCK.out.mono ?_
  rintro e w2 ⟨rfl, hB2⟩
  have HB2 := Lib.hid hB2
  have hz2 := hB2.size
  generalize hce : checkErr wd xs = ce at HQE ⊢
  have HCE := Lib.hid hce
  clear hB2 HCK hce k0 k1 k2
  by_cases h0 : ce = 0
  · have d0 : (ce != 0) = false := by rw [h0]; rfl
    have HH0 := Lib.hid h0
    clear h0
    go_wp2_with fail
    refine (refAir_any wind voice w2).mono ?_
    rintro e w3 ⟨rfl, rfl⟩
    generalize hae : airErr wind voice = ae at HQE ⊢
    clear hae
    by_cases h1 : ae = 0
    · have d1 : (ae != 0) = false := by rw [h1]; rfl
      have HAE := Lib.hid h1
      have h30 : xs.length ≤ 30 := (check_len (HCE.out.trans HH0.out)).1
      clear h1
      go_wp2_with fail
      go_loopw [11] (fun i wr => ∃ k : Nat, i = .int .i64 k ∧ k ≤ qs.length ∧ Below W1.heap.size W1 wr ∧ ∃ nm : List Bool, nm.length = 30 ∧ (∀ p : Nat, p < 30 → nm.getD p false = decide ((p : Int) ∈ qs.take k)) ∧ (qAll xs (List.replicate 30 false) qs).1 = (qAll xs nm (qs.drop k)).1) (fun i _ => qs.length - (intOf i).toNat)
      case atStart => exact ⟨0, rfl, Nat.zero_le _, HB2.out, List.replicate 30 false, by simp, fun p hp => by rw [List.getD_eq_getElem?_getD, List.getElem?_replicate, if_pos hp]; simp, rfl⟩
      case round =>
        obtain ⟨k, rfl, hk, hBk, nm, hnl, hnm, hq0⟩ := hrel
        have HBk := Lib.hid hBk
        have HQ0 := Lib.hid hq0
        have HNM := Lib.hid hnm
        clear hBk hq0 hnm
        by_cases hlt : k < qs.length
        · have hlt' : (k : Int) < qs.length := by omega
          obtain ⟨b, o, rfl, -, hI⟩ := rd_ints HH.out (by intro e; rw [e] at hlt; simp at hlt)
          obtain ⟨h, hh⟩ : ∃ h, qs.getD k 0 = h := ⟨_, rfl⟩
          have HHK := Lib.hid hh
          have HI := Lib.hid hI
          obtain ⟨n1, n2, n3⟩ := q_next h30 hlt hnl HNM.out
          rw [hh] at n1 n2 n3
          have HIS := Lib.hid (fun W hRW => HIS.out W hRW h)
          generalize plotErr xs h 1 = q at n1 n2 n3 HIS
          have N1 := Lib.hid n1
          have N2 := Lib.hid n2
          have N3 := Lib.hid n3
          clear n1 n2 n3 hh hI
          go_upto_region 10 with fail
          refine Rs.region_gen 7 [[], [], [], [1, 2], [1, 2, 3], [0, 1, 2, 3, 4], [0, 1, 2, 3, 4, 5]] [some 30, some 31, some 32, some 33, some 34, some 35, some 12] (spAs (.agg #[.int .i64 wd, .slice a xs.length cap]) (.slice (some ⟨b, o, none⟩) qs.length hcap) (k : Nat) b (o + k) h q) (by kernel_rfl) (by kernel_rfl) rfl (spAs_stable _ _ _ _ _ _ _) ?_ ?_
          · refine ⟨fun V w' hG hs => ?_, fun V w' hG hs => ?_, fun V w' hG hs => ?_, fun V w' hG hs => ?_, fun V w' hG hs => ?_, fun V w' hG hs => ?_, fun V w' hG hs => ?_, trivial⟩
            all_goals
              have hBW := join HBk.out hG
              have hb0 := (hBW.block _ (Array.getElem?_eq_some_iff.1 HX0.out).1).trans HX0.out
              obtain ⟨j0, j1⟩ := blk_cells2 hb0
              have hIk := HI.out.below hBW HI.out.1
              have ck := hIk.2 k hlt
              rw [HHK.out] at ck
              have hbl := hIk.1
            · rw [if_pos (by rfl)]
              exact Rs.GrowL.value (v := (.agg #[.int .i64 wd, .slice a xs.length cap])) (w' := w') (by simp [go_sem, Rs.look, j0, j1]) (Rs.Gr.refl _) rfl
            · rw [if_pos (by rfl)]
              exact Rs.GrowL.value (v := (.slice (some ⟨b, o, none⟩) qs.length hcap)) (w' := w') (by simp [go_sem, Rs.look]) (Rs.Gr.refl _) rfl
            · rw [if_pos (by rfl)]
              exact Rs.GrowL.value (v := .int .i64 (k : Nat)) (w' := w') (by simp [go_sem, Rs.look]) (Rs.Gr.refl _) rfl
            · have e1 : V 1 = (.slice (some ⟨b, o, none⟩) qs.length hcap) := hs 1 (by simp)
              have e2 : V 2 = .int .i64 (k : Nat) := hs 2 (by simp)
              rw [if_pos (by rfl)]
              exact Rs.GrowL.value (v := .pointer (some ⟨b, (o + k), none⟩)) (w' := w') (by simp [go_sem, Rs.look, e1, e2, hlt']) (Rs.Gr.refl _) rfl
            · have e1 : V 1 = (.slice (some ⟨b, o, none⟩) qs.length hcap) := hs 1 (by simp)
              have e2 : V 2 = .int .i64 (k : Nat) := hs 2 (by simp)
              have e3 : V 3 = .pointer (some ⟨b, (o + k), none⟩) := hs 3 (by simp)
              rw [if_pos (by rfl)]
              exact Rs.GrowL.value (v := .int .i64 h) (w' := w') (by simp [go_sem, Rs.look, e1, e2, e3, ck]) (Rs.Gr.refl _) rfl
            · have e0 : V 0 = (.agg #[.int .i64 wd, .slice a xs.length cap]) := hs 0 (by simp)
              have e1 : V 1 = (.slice (some ⟨b, o, none⟩) qs.length hcap) := hs 1 (by simp)
              have e2 : V 2 = .int .i64 (k : Nat) := hs 2 (by simp)
              have e3 : V 3 = .pointer (some ⟨b, (o + k), none⟩) := hs 3 (by simp)
              have e4 : V 4 = .int .i64 h := hs 4 (by simp)
              rw [if_pos (by rfl)]
              refine Rs.GrowL.call (f := 37) (args := #[.agg #[.int .i64 wd, .slice a xs.length cap], .int .i64 h, .int .i64 1]) (by simp [go_sem, Rs.look, e0, e4]) ?_
              refine (HIS.out w' (HR.out.below hBW)).mono ?_
              rintro e w3 ⟨rfl, hB⟩
              exact ⟨_, rfl, hB, rfl⟩
            · have e0 : V 0 = (.agg #[.int .i64 wd, .slice a xs.length cap]) := hs 0 (by simp)
              have e1 : V 1 = (.slice (some ⟨b, o, none⟩) qs.length hcap) := hs 1 (by simp)
              have e2 : V 2 = .int .i64 (k : Nat) := hs 2 (by simp)
              have e3 : V 3 = .pointer (some ⟨b, (o + k), none⟩) := hs 3 (by simp)
              have e4 : V 4 = .int .i64 h := hs 4 (by simp)
              have e5 : V 5 = .int .i64 q := hs 5 (by simp)
              rw [if_pos (by rfl)]
              exact Rs.GrowL.value (v := .int .i64 q) (w' := w') (by simp [go_sem, Rs.look, e0, e1, e2, e3, e4, e5]) (Rs.Gr.refl _) rfl
          · intro V w' hG hs
            have e0 : V 0 = (.agg #[.int .i64 wd, .slice a xs.length cap]) := hs 0 (by omega)
            have e1 : V 1 = (.slice (some ⟨b, o, none⟩) qs.length hcap) := hs 1 (by omega)
            have e2 : V 2 = .int .i64 (k : Nat) := hs 2 (by omega)
            have e3 : V 3 = .pointer (some ⟨b, (o + k), none⟩) := hs 3 (by omega)
            have e4 : V 4 = .int .i64 h := hs 4 (by omega)
            have e5 : V 5 = .int .i64 q := hs 5 (by omega)
            have e6 : V 6 = .int .i64 q := hs 6 (by omega)
            simp only [Rs.canon, Rs.dstOf, List.range_succ, List.range_zero, List.nil_append, List.cons_append, List.foldl_cons, List.foldl_nil, List.drop_succ_cons, List.drop_zero, List.drop_nil, List.getElem?_toArray, List.getElem?_cons_succ, List.getElem?_cons_zero, Option.bind_some, Act.put, List.getD_cons_succ, List.getD_cons_zero, List.setIfInBounds_toArray, List.set_cons_succ, List.set_cons_zero]
            rw [e0, e1, e2, e3, e4, e5, e6]
            have HBc := Lib.hid (join HBk.out hG)
            clear e0 e1 e2 e3 e4 e5 e6 hs hG
            by_cases hq : q = 0
            · have dq : (q != 0) = false := by rw [hq]; rfl
              have hcap2 : k ≤ hcap := by omega
              have hcap3 : (k : Int) ≤ hcap := by omega
              have hIk := HI.out.below HBc.out HI.out.1
              have ck := hIk.2 k hlt
              rw [HHK.out] at ck
              have hbl := hIk.1
              have hpre : Hid (∀ W, W.heap = w'.heap → RdI W (.slice (some ⟨b, o, none⟩) k hcap) (qs.take k)) := Lib.hid (fun W hW => RdI.heap hW (RdI.pre (by omega) hIk))
              have HHAS := Lib.hid (fun W h1 => has_any (.slice (some ⟨b, o, none⟩) k hcap) (qs.take k) h (by rw [List.length_take]; omega) W h1)
              have HQ := Lib.hid hq
              clear hIk hq
              generalize hcn : (qs.take k).contains h = cn at N2 N3 HHAS
              have HCN := Lib.hid hcn
              clear hcn
              cases cn with
              | true =>
                have HQF : Hid (quarterE wd xs wind voice qs = 5) := Lib.hid (by rw [HQE.out, HH0.out, HAE.out, if_neg (by simp), if_neg (by simp), HQ0.out]; exact N2.out HQ.out rfl)
                go_wp2_with fail
                go_quiet ((go_at_call 115; exact Calls.quiet_of_same (HHAS.out _ (by exact hpre.out _ rfl))))
                go_wp2_with fail
                go_ret
                exact ⟨by rw [HQF.out]; rfl, below_drewN (join HB.out HBc.out) _⟩
              | false =>
                obtain ⟨nm2, m1, m2, m3⟩ := N3.out HQ.out rfl
                have HM := Lib.hid (And.intro m1 (And.intro m2 m3))
                clear m1 m2 m3
                go_wp2_with fail
                go_quiet ((go_at_call 115; exact Calls.quiet_of_same (HHAS.out _ (by exact hpre.out _ rfl))))
                go_wp2_with fail
                go_roundw
                case rel => exact ⟨k + 1, by simp, by omega, below_drewN HBc.out _, nm2, HM.out.1, HM.out.2.1, HQ0.out.trans HM.out.2.2⟩
                case measure => simp [intOf]; omega
            · have dq : (q != 0) = true := by simpa using hq
              have HQF : Hid (quarterE wd xs wind voice qs = q) := Lib.hid (by rw [HQE.out, HH0.out, HAE.out, if_neg (by simp), if_neg (by simp), HQ0.out]; exact N1.out hq)
              clear hq
              go_wp2_with fail
              go_ret
              exact ⟨by rw [HQF.out]; rfl, join HB.out HBc.out⟩
        · obtain rfl : k = qs.length := by omega
          rw [List.drop_length] at HQ0
          have HQF : Hid (quarterE wd xs wind voice qs = 0) := Lib.hid (by rw [HQE.out, HH0.out, HAE.out, if_neg (by simp), if_neg (by simp), HQ0.out]; rfl)
          go_wp2_with fail
          go_ret
          exact ⟨by rw [HQF.out]; rfl, join HB.out HBk.out⟩
    · have d1 : (ae != 0) = true := by simpa using h1
      have HQF : Hid (quarterE wd xs wind voice qs = ae) := Lib.hid (by rw [HQE.out, HH0.out, if_neg (by simp), if_pos h1])
      clear h1
      go_wp2_with fail
      go_ret
      exact ⟨by rw [HQF.out]; rfl, join HB.out HB2.out⟩
  · have d0 : (ce != 0) = true := by simpa using h0
    have HQF : Hid (quarterE wd xs wind voice qs = ce) := Lib.hid (by rw [HQE.out, if_pos h0])
    clear h0
    go_wp2_with fail
    go_ret
    exact ⟨by rw [HQF.out]; rfl, join HB.out HB2.out⟩
end Go.Proofs.Ytimedmkpenbmkaa
end
section
namespace Go.Proofs.Ytimedmkpenbmkaa
open Go.RowKit Go.Shelf
set_option linter.unusedSimpArgs false
set_option linter.unusedVariables false
def goL (f : List Int → List (List Int)) : List Int → List (List Int)
  | [] => []
  | x :: r => (f r).map (x :: ·) ++ goL f r
def listsP : Nat → List Int → List (List Int)
  | 0 => fun _ => [[]]
  | m + 1 => goL (listsP m)
def goTo (f : List Int → List (List Int)) (l : List Int) : Nat → List (List Int)
  | 0 => []
  | i + 1 => goTo f l i ++ (f (l.drop (i + 1))).map (l.getD i 0 :: ·)
theorem goTo_cons (f : List Int → List (List Int)) (x : Int) (r : List Int) : ∀ i, goTo f (x :: r) (i + 1) = (f r).map (x :: ·) ++ goTo f r i
  | 0 => by simp [goTo]
  | i + 1 => by
    rw [goTo, goTo_cons f x r i]
    show _ = _ ++ (goTo f r i ++ _)
    rw [← List.append_assoc]
    rfl
theorem goTo_all (f : List Int → List (List Int)) : ∀ l : List Int, goTo f l l.length = goL f l
  | [] => rfl
  | x :: r => by
    show goTo f (x :: r) (r.length + 1) = _
    rw [goTo_cons, goTo_all f r]; rfl
theorem lists_many : ∀ (m : Nat) (l : List Int), (listsP m l).length ≤ 2 ^ l.length
  | 0, l => by show 1 ≤ _; exact Nat.one_le_two_pow
  | m + 1, [] => Nat.zero_le _
  | m + 1, x :: r => by
    have h1 := lists_many m r
    have h2 := lists_many (m + 1) r
    show ((listsP m r).map (x :: ·) ++ goL (listsP m) r).length ≤ 2 ^ (r.length + 1)
    rw [List.length_append, List.length_map, Nat.pow_succ]
    have h3 : (goL (listsP m) r).length ≤ 2 ^ r.length := h2
    omega
theorem lists_len : ∀ (m : Nat) (l : List Int), ∀ L ∈ listsP m l, L.length = m
  | 0, l, L, h => by
    have : L = [] := by simpa [listsP] using h
    rw [this]; rfl
  | m + 1, [], L, h => by cases h
  | m + 1, x :: r, L, h => by
    have h : L ∈ (listsP m r).map (x :: ·) ++ goL (listsP m) r := h
    rcases List.mem_append.1 h with h | h
    · obtain ⟨L', hL, rfl⟩ := List.mem_map.1 h
      simp [lists_len m r L' hL]
    · exact lists_len (m + 1) r L h
theorem goTo_len (m : Nat) (l : List Int) : ∀ i, i ≤ l.length → (goTo (listsP m) l i).length ≤ 2 ^ l.length := by
  intro i hi
  have key : ∀ (d i : Nat), i + d = l.length → (goTo (listsP m) l i).length ≤ (goTo (listsP m) l l.length).length := by
    intro d
    induction d with
    | zero => intro i h; rw [show i = l.length by omega]; exact Nat.le_refl _
    | succ d ih =>
      intro i h
      refine Nat.le_trans ?_ (ih (i + 1) (by omega))
      rw [goTo, List.length_append]; omega
  refine Nat.le_trans (key (l.length - i) i (by omega)) ?_
  rw [goTo_all]
  exact lists_many (m + 1) l
/-- a row of slices that is owned, with owned rows of numbers in it -/
structure OwL (W : World) (base : Nat) (v : Value) (ls : List (List Int)) (vs : List Value) : Prop where
  own : W.ownsRow base 31 1 v ls.length vs
  el : ∀ j, j < ls.length → W.ownsRow base 3 1 (vs.getD j (.slice none 0 0)) (ls.getD j []).length ((ls.getD j []).map (Value.int .i64)) ∧ (ls.getD j [] = [] → vs.getD j (.slice none 0 0) = .slice none 0 0)
theorem OwL.below {W W' : World} {base : Nat} {v : Value} {ls : List (List Int)} {vs : List Value} (h : OwL W base v ls vs) (hB : Below W.heap.size W W') : OwL W' base v ls vs :=
  ⟨own_below h.own hB, fun j hj => ⟨own_below (h.el j hj).1 hB, (h.el j hj).2⟩⟩
theorem OwL.base {W : World} {b b' : Nat} {v : Value} {ls : List (List Int)} {vs : List Value} (h : OwL W b v ls vs) (hb : b' ≤ b) : OwL W b' v ls vs :=
  ⟨own_base h.own hb, fun j hj => ⟨own_base (h.el j hj).1 hb, (h.el j hj).2⟩⟩
theorem own_ty {W : World} {base base' : Nat} {e e' : TypeId} {s s' : Nat} {u v : Value} {n n' : Nat} {xs ys : List Value} (h : W.ownsRow base e s u n xs) (k : W.ownsRow base' e' s' v n' ys) (hne : e ≠ e') : u.ownBlock = none ∨ u.ownBlock ≠ v.ownBlock := by
  rcases h.2 with ⟨rfl, _⟩ | ⟨g, cap, cur, rfl, _, hg, _⟩
  · exact .inl rfl
  · rcases k.2 with ⟨rfl, _⟩ | ⟨g', cap', cur', rfl, _, hg', _⟩
    · right; simp [Value.ownBlock]
    · right
      intro e1
      simp only [Value.ownBlock, Option.some.injEq] at e1
      rw [e1, hg'] at hg
      injection hg with hg
      injection hg with _ hg
      exact hne hg.symm
/-- one list more -/
theorem OwL.more {W W' : World} {base : Nat} {v v' : Value} {ls : List (List Int)} {vs : List Value} (h : OwL W base v ls vs) (hg : W.grownBy W' v.ownBlock) {u : Value} {l : List Int} (hl : l ≠ []) (ho : W'.ownsRow base 31 1 v' (ls.length + 1) (vs ++ [u])) (hu : W'.ownsRow base 3 1 u l.length (l.map (Value.int .i64))) : OwL W' base v' (ls ++ [l]) (vs ++ [u]) := by
  have hvl : vs.length = ls.length := by have := h.own.1; simpa using this
  refine ⟨by rw [List.length_append]; exact ho, fun j hj => ?_⟩
  rw [List.length_append, List.length_singleton] at hj
  by_cases e : j < ls.length
  · have e1 : (vs ++ [u]).getD j (.slice none 0 0) = vs.getD j (.slice none 0 0) := by rw [List.getD_eq_getElem?_getD, List.getD_eq_getElem?_getD, List.getElem?_append_left (by omega)]
    have e2 : (ls ++ [l]).getD j [] = ls.getD j [] := by rw [List.getD_eq_getElem?_getD, List.getD_eq_getElem?_getD, List.getElem?_append_left e]
    rw [e1, e2]
    obtain ⟨a, b⟩ := h.el j e
    exact ⟨a.kept (row := v.ownBlock) hg (own_ty a h.own (by decide)), b⟩
  · have e0 : j = ls.length := by omega
    subst e0
    have e1 : (vs ++ [u]).getD ls.length (.slice none 0 0) = u := by rw [List.getD_eq_getElem?_getD, ← hvl]; simp
    have e2 : (ls ++ [l]).getD ls.length [] = l := by rw [List.getD_eq_getElem?_getD]; simp
    rw [e1, e2]
    exact ⟨hu, fun e => absurd e hl⟩
theorem OwL.cell {W : World} {base : Nat} {v : Value} {ls : List (List Int)} {vs : List Value} (h : OwL W base v ls vs) (hne : ls ≠ []) : ∃ g cap, v = .slice (some ⟨g, 0, none⟩) ls.length cap ∧ g < W.heap.size ∧ ls.length ≤ cap ∧ ∀ j, j < ls.length → W.cell? ⟨g, j, none⟩ = some (vs.getD j (.slice none 0 0)) := by
  rcases h.own.2 with ⟨_, h0⟩ | ⟨g, cap, cur, hv, _, hg, hn, _, _, ht⟩
  · exact absurd (List.length_eq_zero_iff.1 h0) hne
  · refine ⟨g, cap, hv, (Array.getElem?_eq_some_iff.1 hg).1, hn, fun j hj => ?_⟩
    have hvl : vs.length = ls.length := by have := h.own.1; simpa using this
    rw [cell_of_row _ _ _ _ _ _ hg]
    have : cur.toList[j]? = vs[j]? := by rw [← ht, List.getElem?_take, if_pos (by omega)]
    rw [Array.getElem?_toList] at this
    rw [this, List.getD_eq_getElem?_getD, List.getElem?_eq_getElem (by omega)]; rfl
theorem A_und62 : Try.prog.underlying 62 = some (.slice 31) := by kernel_rfl
theorem append_which31 (w : World) (base : Nat) (tv : Value) (n : Nat) (xs : List Value) (x : Value) (hx1 : x.oneCell' = true) (hown : w.ownsRow base 31 1 tv n xs) (hb : base ≤ w.heap.size) (hn : n ≤ 10000000) (a : Addr) (ha : w.cell? (a.add 0) = some x) :
    ∃ v' w', (Builtin.append_ #[62, 62] 62 #[tv, .slice (some a) 1 1]).run Try.prog w = .ok v' w' ∧ w'.ownsRow base 31 1 v' (n + 1) (xs ++ [x]) ∧ w.grownBy w' tv.ownBlock ∧ w'.ownsRow base 31 1 tv n xs ∧ (v'.ownBlock = tv.ownBlock ∨ v'.ownBlock = some w.heap.size) := by
  obtain ⟨i0, hi, hz0, hz1, hz2⟩ := info_parts A_info31
  have hnews : ∀ j u, [x][j]? = some u → w.cell? (a.add j) = some u := fun j u hj => by
    match j, hj with
    | 0, hj => simp at hj; subst hj; exact ha
  obtain ⟨v', w', hr, h2, h3, h4⟩ := run_append_own (P := Try.prog) w base 62 62 31 i0 (.slice none 0 0) 1 24 A_und62 hi hz0 hz1 hz2 rfl (by decide) tv n xs hown a 1 1 [x] rfl hnews (by simpa using hx1) (by unfold maxLen; omega) (by omega) hb
  refine ⟨v', w', hr, h2, h3, ?_⟩
  rcases hown.2 with ⟨rfl, rfl⟩ | ⟨g, cap, cur, rfl, hbg, hg, hnc, hcm, hcs, htake⟩
  · have hx : xs = [] := List.eq_nil_of_length_eq_zero (by simpa using hown.1)
    subst hx
    have hr2 := run_append_nil (P := Try.prog) w 62 62 31 i0 (.slice none 0 0) A_und62 hi hz0 a 1 1 [x] (by rw [hz1]; rfl) hnews (by omega) (by omega) (by rw [hz2]; omega)
    rw [hr2] at hr
    injection hr with hv hw
    refine ⟨World.ownsRow_nil _ _ _ _, ?_⟩
    right; rw [← hv]; rfl
  · by_cases hroom : n + 1 ≤ cap
    · have hr2 := run_append_room (P := Try.prog) w 62 62 31 i0 A_und62 hi g n cap cur hg a 1 1 [x] (by rw [hz1]; rfl) hnews (by simpa using hx1) hroom (by rw [hcs, hz1]; simp; omega)
      rw [hr2] at hr
      injection hr with hv hw
      subst hv
      refine ⟨?_, .inl rfl⟩
      refine ⟨hown.1, .inr ?_⟩
      rcases h2.2 with ⟨h5, _⟩ | ⟨g', cap', cur', h5, h6, h7, h8, h9, h10, h11⟩
      · cases h5
      · injection h5 with e1 e2 e3
        injection e1 with e1
        injection e1 with e1
        subst e1 e3
        refine ⟨_, _, cur', rfl, hbg, h7, hnc, hcm, h10, ?_⟩
        have h12 : (cur'.toList.take ((n + 1) * 1)).take (n * 1) = xs := by
          rw [h11, List.take_append_of_le_length (by rw [hown.1]; exact Nat.le_refl _), List.take_of_length_le (by rw [hown.1]; exact Nat.le_refl _)]
        rw [List.take_take, Nat.min_eq_left (by omega)] at h12
        exact h12
    · have holds : ∀ j u, xs[j]? = some u → w.cell? ((⟨g, 0, none⟩ : Addr).add j) = some u := hown.cells (g := g) rfl
      have hr2 := run_append_grow (P := Try.prog) w 62 62 31 i0 (.slice none 0 0) A_und62 hi hz0 ⟨g, 0, none⟩ n cap xs (by rw [hz1]; exact hown.1) holds a 1 1 [x] (by rw [hz1]; rfl) hnews (by omega) (by omega) (by rw [hz2]; exact growslice_fits (by omega) (by omega))
      rw [hr2] at hr
      injection hr with hv hw
      refine ⟨?_, .inr (by rw [← hv]; rfl)⟩
      rw [← hw]
      exact hown.kept (row := none) ⟨rfl, rfl, rfl, by simp, fun k hk _ => heap_alloc_old w.drew _ k hk⟩ (by right; simp [Value.ownBlock])
/-- a list behind one number, as a row of its own -/
theorem append_head (w : World) (B g : Nat) (x : Int) (u : Value) (l : List Int) (hB : B ≤ g) (hg : w.heap[g]? = some (.cells #[.int .i64 x] 3 (0, 0))) (hl : l.length ≤ 1000000) (base : Nat) (hu : w.ownsRow base 3 1 u l.length (l.map (Value.int .i64))) (h0 : l = [] → u = .slice none 0 0) :
    ∃ v' w', (Builtin.append_ #[31, 31] 31 #[.slice (some ⟨g, 0, none⟩) 1 1, u]).run Try.prog w = .ok v' w' ∧ w'.ownsRow B 3 1 v' (l.length + 1) ((x :: l).map (Value.int .i64)) ∧ Below w.heap.size w w' := by
  obtain ⟨i0, hi, hz0, hz1, hz2⟩ := info_parts A_info3
  have hgl : g < w.heap.size := (Array.getElem?_eq_some_iff.1 hg).1
  have hown1 : w.ownsRow B 3 1 (.slice (some ⟨g, 0, none⟩) 1 1) 1 [.int .i64 x] := ⟨rfl, .inr ⟨g, 1, #[.int .i64 x], rfl, hB, hg, Nat.le_refl _, by unfold maxLen; omega, rfl, rfl⟩⟩
  by_cases hl0 : l = []
  · subst hl0
    rw [h0 rfl]
    exact ⟨_, w, run_append_owned_none (P := Try.prog) w B 31 31 3 i0 1 A_und31 hi _ 1 _ hown1, hown1, Below.refl _ _⟩
  · rcases hu.2 with ⟨_, h1⟩ | ⟨g2, cap, cur, rfl, _, hg2, hn2, _, _, ht⟩
    · exact absurd (List.length_eq_zero_iff.1 h1) hl0
    · have hpos := List.length_pos_iff.2 hl0
      obtain ⟨v', w', hr, ho, hgr⟩ := run_append_arg_grows (P := Try.prog) (w := w) 31 31 3 i0 (.int .i64 0) 1 8 A_und31 hi hz0 hz1 hz2 rfl (by decide) ⟨g, 0, none⟩ 1 1 [.int .i64 x] rfl (hown1.cells (g := g) rfl) ⟨g2, 0, none⟩ l.length cap (l.map (Value.int .i64)) (by simp) (hu.cells (g := g2) rfl) (by omega) (by unfold maxLen; omega) (by omega)
      refine ⟨v', w', hr, ?_, ⟨hgr.os, hgr.tape, hgr.output, hgr.size, fun k hk => hgr.block k hk (by simp)⟩⟩
      rw [Nat.add_comm 1] at ho
      exact own_base ho (by omega)
def GLs (base : Nat) (tv : Value) (n : Nat) (vs : List Value) (a b : World) : Prop := a.grownBy b tv.ownBlock ∧ (a.ownsRow base 31 1 tv n vs → b.ownsRow base 31 1 tv n vs)
def gLs (base : Nat) (tv : Value) (n : Nat) (vs : List Value) (i : Nat) (a b : World) : Prop := if i = 12 then GLs base tv n vs a b else Below a.heap.size a b
theorem gLs_isGr (base : Nat) (tv : Value) (n : Nat) (vs : List Value) : Rg.IsGr (GLs base tv n vs) where
  refl w := ⟨⟨rfl, rfl, rfl, Nat.le_refl _, fun _ _ _ => rfl⟩, fun h => h⟩
  drew w := ⟨⟨rfl, rfl, rfl, Nat.le_refl _, fun _ _ _ => rfl⟩, fun h => h⟩
  trans h k := ⟨grown_trans h.1 k.1, fun o => k.2 (h.2 o)⟩
theorem gLs_all (base : Nat) (tv : Value) (n : Nat) (vs : List Value) (i : Nat) (a b : World) (h : gLs base tv n vs i a b) : GLs base tv n vs a b := by
  unfold gLs at h
  split at h
  · exact h
  · exact ⟨below_grownBy h, fun o => own_below o h⟩
theorem gLs_refl (base : Nat) (tv : Value) (n : Nat) (vs : List Value) (i : Nat) (a : World) : gLs base tv n vs i a a := by
  unfold gLs
  split
  · exact (gLs_isGr base tv n vs).refl a
  · exact Below.refl _ _
theorem gLs_of {base : Nat} {tv : Value} {n : Nat} {vs : List Value} {i : Nat} {a b : World} (hi : i ≠ 12) (h : Below a.heap.size a b) : gLs base tv n vs i a b := by unfold gLs; rw [if_neg hi]; exact h
def spLs (tv av : Value) (i : Nat) (pb po : Nat) (x : Int) (rv : Value) (k : Nat) (qb qo : Nat) (uv : Value) (l : List Int) (base B n : Nat) (vs : List Value) : Nat → Bool → List Value → Value → World → Prop
  | 0, _, _, v, _ => v = tv
  | 1, _, _, v, _ => v = av
  | 2, _, _, v, _ => v = .int .i64 i
  | 3, _, _, v, _ => v = .pointer (some ⟨pb, po, none⟩)
  | 4, _, _, v, _ => v = .int .i64 x
  | 5, _, _, v, w => ∃ g, v = .slice (some ⟨g, 0, none⟩) 1 1 ∧ B ≤ g ∧ w.heap[g]? = some (.cells #[.int .i64 x] 3 (0, 0))
  | 6, _, _, v, _ => v = rv
  | 7, _, _, v, _ => v = .int .i64 k
  | 8, _, _, v, _ => v = .pointer (some ⟨qb, qo, none⟩)
  | 9, _, _, v, _ => v = uv
  | 10, _, _, v, w => w.ownsRow B 3 1 v (l.length + 1) ((x :: l).map (Value.int .i64))
  | 11, _, L, v, w => ∃ g, v = .slice (some ⟨g, 0, none⟩) 1 1 ∧ B ≤ g ∧ w.heap[g]? = some (.cells #[L.getD 9 undef] 31 (0, 0)) ∧ (L.getD 9 undef).oneCell' = true
  | 12, c, L, v, w => c = true ∧ w.ownsRow base 31 1 v (n + 1) (vs ++ [L.getD 10 undef]) ∧ (v.ownBlock = tv.ownBlock ∨ ∃ g, v.ownBlock = some g ∧ B ≤ g)
  | 13, c, L, v, w => c = true ∧ w.ownsRow base 31 1 v (n + 1) (vs ++ [L.getD 10 undef]) ∧ (v.ownBlock = tv.ownBlock ∨ ∃ g, v.ownBlock = some g ∧ B ≤ g)
  | _, _, _, _, _ => False
theorem spLs_stable (tv av : Value) (i : Nat) (pb po : Nat) (x : Int) (rv : Value) (k : Nat) (qb qo : Nat) (uv : Value) (l : List Int) (base B n : Nat) (vs : List Value) (hB : ∀ g, tv.ownBlock = some g → g < B) :
    ∀ i' c w w', (i' = 12 → c = false) → gLs base tv n vs i' w w' → ∀ j D v, spLs tv av i pb po x rv k qb qo uv l base B n vs j c D v w → spLs tv av i pb po x rv k qb qo uv l base B n vs j (c || i' == 12) D v w' := by
  intro i' c w w' hc hg j D v h
  have hG := (gLs_all _ _ _ _ _ _ _ hg).1
  have hblk : ∀ g, B ≤ g → g < w.heap.size → w'.heap[g]? = w.heap[g]? := fun g hb hl => hG.block g hl (fun e => by have := hB g e.symm; omega)
  have hrow : ∀ {e : TypeId} {u : Value} {n : Nat} {ys : List Value}, w.ownsRow B e 1 u n ys → w'.ownsRow B e 1 u n ys := fun {e u n ys} ho => by
    refine ho.kept hG ?_
    rcases ho.2 with ⟨rfl, _⟩ | ⟨g, cap, cur, rfl, hb, _⟩
    · exact .inl rfl
    · right
      intro e1
      have := hB g (by rw [← e1]; rfl)
      omega
  match j with
  | 0 => exact h
  | 1 => exact h
  | 2 => exact h
  | 3 => exact h
  | 4 => exact h
  | 5 => obtain ⟨g, h1, h2, h3⟩ := h; exact ⟨g, h1, h2, (hblk g h2 (Array.getElem?_eq_some_iff.1 h3).1).trans h3⟩
  | 6 => exact h
  | 7 => exact h
  | 8 => exact h
  | 9 => exact h
  | 10 => exact hrow h
  | 11 => obtain ⟨g, h1, h2, h3, h4⟩ := h; exact ⟨g, h1, h2, (hblk g h2 (Array.getElem?_eq_some_iff.1 h3).1).trans h3, h4⟩
  | 12 =>
    obtain ⟨h0, h1, h2⟩ := h
    have h12 : i' ≠ 12 := fun e => by have := hc e; rw [h0] at this; cases this
    have hb : Below w.heap.size w w' := by unfold gLs at hg; rw [if_neg h12] at hg; exact hg
    exact ⟨by rw [h0]; rfl, own_below h1 hb, h2⟩
  | 13 =>
    obtain ⟨h0, h1, h2⟩ := h
    have h12 : i' ≠ 12 := fun e => by have := hc e; rw [h0] at this; cases this
    have hb : Below w.heap.size w w' := by unfold gLs at hg; rw [if_neg h12] at hg; exact hg
    exact ⟨by rw [h0]; rfl, own_below h1 hb, h2⟩
end Go.Proofs.Ytimedmkpenbmkaa
end
section
namespace Go.Proofs.Ytimedmkpenbmkaa
open Go.RowKit Go.Shelf
set_option linter.unusedSimpArgs false
set_option linter.unusedVariables false
theorem RdI.drop {w : World} {b o n q k : Nat} {l : List Int} (hn : n = (l.drop k).length) (hk : k ≤ l.length) (hl : l.length ≤ 1000000) (h : Ints w b o l) : RdI w (.slice (some ⟨b, o + k, none⟩) n q) (l.drop k) := by
  subst hn
  refine ⟨by rw [List.length_drop]; omega, some ⟨b, o + k, none⟩, q, rfl, fun _ => ⟨b, o + k, rfl, h.1, fun i hi => ?_⟩⟩
  rw [List.length_drop] at hi
  rw [show o + k + i = o + (k + i) by omega, h.2 (k + i) (by omega), List.getD_eq_getElem?_getD, List.getD_eq_getElem?_getD, List.getElem?_drop]
set_option maxHeartbeats 4000000 in
set_option maxRecDepth 100000 in
theorem Lists_any : ∀ (m : Nat) (a : Option Addr) (cap : Nat) (l : List Int), m ≤ 30 → l.length ≤ 20 → l.length ≤ cap → ∀ w, RdI w (.slice a l.length cap) l →
    Calls Try.prog 108 #[.slice a l.length cap, .int .i64 (m : Nat)] w fun e w' => ∃ v vs, e = .returned v ∧ OwL w' w.heap.size v (listsP m l) vs ∧ Below w.heap.size w w'
  | 0, a, cap, l, hm, hl, hc, w, hR => by
    have hw : (w.alloc (.cells #[.slice none 0 0] 31)).heap[w.heap.size]? = some (.cells #[.slice none 0 0] 31 (0, 0)) := heap_alloc_last _ _
    have HF : Hid (∃ vs, OwL (w.alloc (.cells #[.slice none 0 0] 31)) w.heap.size (.slice (some ⟨w.heap.size, 0, none⟩) 1 1) (listsP 0 l) vs) := Lib.hid ⟨[.slice none 0 0], ⟨rfl, .inr ⟨w.heap.size, 1, #[.slice none 0 0], rfl, Nat.le_refl _, hw, Nat.le_refl _, by unfold maxLen; omega, rfl, rfl⟩⟩, fun j hj => by
      have h0 : j = 0 := by have : (listsP 0 l).length = 1 := rfl; omega
      subst h0
      exact ⟨own_none _ _ _ _, fun _ => rfl⟩⟩
    clear hw hR
    go_enter Try.func108, Try.ntmps108
    go_wp2_with fail
    go_ret
    obtain ⟨vs, h⟩ := HF.out
    exact ⟨_, vs, rfl, h, below1 _ _⟩
  | m + 1, a, cap, l, hm, hl, hc, w, hR => by
    have HR := Lib.hid hR
    have HIH := Lib.hid (Lists_any m)
    have hd0 : (((m + 1 : Nat) : Int) == 0) = false := by simp; omega
    have hd1 : ((m + 1 : Nat) : Int) - 1 = (m : Int) := by omega
    obtain ⟨M1, hM1⟩ : ∃ M1 : Int, M1 = ((m + 1 : Nat) : Int) := ⟨_, rfl⟩
    rw [← hM1] at hd0 hd1 ⊢
    have hM2 : 1 ≤ M1 := by omega
    have hM3 : M1 ≤ 31 := by omega
    clear hR hM1
    go_enter Try.func108, Try.ntmps108
    go_wp2_with fail
    go_loopw [5, 6] (fun v i wr => ∃ (k : Nat) (vs : List Value), i = .int .i64 k ∧ k ≤ l.length ∧ OwL wr w.heap.size v (goTo (listsP m) l k) vs ∧ Below w.heap.size w wr) (fun _ i _ => l.length - (intOf i).toNat)
    case atStart => exact ⟨0, [], rfl, Nat.zero_le _, ⟨own_none _ _ _ _, fun j hj => absurd hj (Nat.not_lt_zero _)⟩, Below.refl _ _⟩
    case round =>
      obtain ⟨k, vs, rfl, hk, hO, hB⟩ := hrel
      obtain ⟨wk, rfl⟩ : ∃ wk : World, wk = wr := ⟨_, rfl⟩
      have HO := Lib.hid hO
      have HB := Lib.hid hB
      have hzk := hB.size
      clear hO
      by_cases hlt : k < l.length
      · have hlt' : (k : Int) < l.length := by omega
        obtain ⟨b, o, rfl, -, hI0⟩ := rd_ints HR.out (by intro e; rw [e] at hlt; simp at hlt)
        have hbw := hI0.1
        have HI := Lib.hid (hI0.below hB hI0.1)
        have hI0' := Lib.hid hI0
        have hk1 : (k : Int) + 1 ≤ l.length := by omega
        have hk1n : k + 1 ≤ l.length := by omega
        have hdl : (l.drop (k + 1)).length = l.length - (k + 1) := List.length_drop
        have HDL := Lib.hid hdl
        clear hI0 hB hdl
        go_upto_region 7 with fail
        go_cut [7] from 18 to 24 (fun s7 wx => ∃ vs2, OwL wx wk.heap.size s7 (listsP m (l.drop (k + 1))) vs2 ∧ Below wk.heap.size wk wx)
        case first =>
          go_wp2_with fail
          · obtain rfl : cap = k + 1 := by omega
            have hdn : l.drop (k + 1) = [] := List.length_eq_zero_iff.1 (by rw [HDL.out]; omega)
            have hq := HIH.out (some ⟨b, o, none⟩) 0 (l.drop (k + 1)) (by omega) (by rw [HDL.out]; omega) (by rw [hdn]; simp) wk (by rw [hdn]; exact ⟨by simp, some ⟨b, o, none⟩, 0, rfl, fun h => absurd rfl h⟩)
            rw [HDL.out] at hq
            refine hq.mono ?_
            rintro e w5 ⟨v, vs2, rfl, h1, h2⟩
            have H12 := Lib.hid (And.intro h1 h2)
            clear h1 h2 hq hdn
            go_wp2_with fail
            go_meet
            exact ⟨vs2, H12.out.1, H12.out.2⟩
          · have hq := HIH.out (some ⟨b, o + (k + 1), none⟩) (cap - (k + 1)) (l.drop (k + 1)) (by omega) (by rw [HDL.out]; omega) (by rw [HDL.out]; omega) wk (RdI.drop rfl (by omega) (by omega) HI.out)
            rw [HDL.out] at hq
            refine hq.mono ?_
            rintro e w5 ⟨v, vs2, rfl, h1, h2⟩
            have H12 := Lib.hid (And.intro h1 h2)
            clear h1 h2 hq
            go_wp2_with fail
            go_meet
            exact ⟨vs2, H12.out.1, H12.out.2⟩
        case rest =>
          obtain ⟨vs2, hR2, hBc⟩ := hcut
          have hO2 := HO.out.below hBc
          have hdis : u5.ownBlock = none ∨ u5.ownBlock ≠ u7.ownBlock := by
            rcases HO.out.own.2 with ⟨h1, _⟩ | ⟨g, cp, cur, h1, _, hg, _⟩
            · exact .inl (by rw [h1]; rfl)
            · right
              intro e
              rcases hR2.own.2 with ⟨h2, _⟩ | ⟨g2, cp2, cur2, h2, hb2, _⟩
              · rw [h1, h2] at e; cases e
              · rw [h1, h2] at e
                simp only [Value.ownBlock, Option.some.injEq] at e
                have := (Array.getElem?_eq_some_iff.1 hg).1
                omega
          have hR3 : OwL wc w.heap.size u7 (listsP m (l.drop (k + 1))) vs2 := hR2.base hzk
          have HBc := Lib.hid (join HB.out hBc)
          have hRl : (listsP m (l.drop (k + 1))).length ≤ 1048576 := Nat.le_trans (lists_many m _) (Nat.le_trans (Nat.pow_le_pow_right (by omega) (show (l.drop (k + 1)).length ≤ 20 by rw [HDL.out]; omega)) (by decide))
          have hgl : (goTo (listsP m) l k).length ≤ 1048576 := Nat.le_trans (goTo_len m l k (by omega)) (Nat.le_trans (Nat.pow_le_pow_right (by omega) hl) (by decide))
          have HLN := Lib.hid (lists_len m (l.drop (k + 1)))
          have HNX : Hid (goTo (listsP m) l (k + 1) = goTo (listsP m) l k ++ (listsP m (l.drop (k + 1))).map (l.getD k 0 :: ·)) := Lib.hid rfl
          obtain ⟨R, hR⟩ : ∃ R, R = listsP m (l.drop (k + 1)) := ⟨_, rfl⟩
          obtain ⟨x, hx⟩ : ∃ x, x = l.getD k 0 := ⟨_, rfl⟩
          obtain ⟨G0, hG0⟩ : ∃ G0, G0 = goTo (listsP m) l k := ⟨_, rfl⟩
          rw [← hR] at hR3 hRl HLN HNX
          rw [← hx] at HNX
          rw [← hG0] at HNX hO2 hgl
          have HX := Lib.hid hx
          have HO2 := Lib.hid hO2
          have HR3 := Lib.hid hR3
          have HDIS := Lib.hid hdis
          clear hO2 hR3 hdis hR2 hBc hR hx hG0
          go_wp2_with fail
          go_loopw [5, 8] (fun v j wq => ∃ (q : Nat) (vs3 : List Value), j = .int .i64 q ∧ q ≤ R.length ∧ OwL wq w.heap.size v (G0 ++ (R.take q).map (x :: ·)) vs3 ∧ OwL wq w.heap.size u7 R vs2 ∧ (v.ownBlock = none ∨ v.ownBlock ≠ u7.ownBlock) ∧ Below w.heap.size w wq) (fun _ j _ => R.length - (intOf j).toNat)
          case atStart => exact ⟨0, vs, rfl, Nat.zero_le _, by simpa using HO2.out, HR3.out, HDIS.out, HBc.out⟩
          case round =>
            obtain ⟨q, vs3, rfl, hq, hO3, hR3, hd3, hB3⟩ := hrel
            obtain ⟨wq, rfl⟩ : ∃ wq : World, wq = wr := ⟨_, rfl⟩
            have hzq := hB3.size
            by_cases hql : q < R.length
            · obtain ⟨rg, rcap, hrv, hrg, hrc, hcell⟩ := hR3.cell (by intro e; rw [e] at hql; simp at hql)
              subst hrv
              have hql' : (q : Int) < R.length := by omega
              have hel := hR3.el q hql
              have cu := hcell q hql
              have hI := HI.out
              have hln : (R.getD q []).length = m := HLN.out _ (by rw [List.getD_eq_getElem?_getD, List.getElem?_eq_getElem hql]; exact List.getElem_mem _)
              have hnext : G0 ++ (R.take (q + 1)).map (x :: ·) = (G0 ++ (R.take q).map (x :: ·)) ++ [x :: R.getD q []] := by
                rw [List.take_succ_eq_append_getElem hql, List.map_append, ← List.append_assoc, List.getD_eq_getElem?_getD, List.getElem?_eq_getElem hql]; rfl
              obtain ⟨lq, hlq⟩ : ∃ lq, lq = R.getD q [] := ⟨_, rfl⟩
              obtain ⟨uv, huv⟩ : ∃ uv, uv = vs2.getD q (.slice none 0 0) := ⟨_, rfl⟩
              obtain ⟨L3, hL3⟩ : ∃ L3, L3 = G0 ++ (R.take q).map (x :: ·) := ⟨_, rfl⟩
              rw [← hlq] at hel hln hnext
              rw [← huv] at hel cu
              rw [← hL3] at hO3 hnext
              have hL3n : L3.length ≤ 5000000 := by rw [hL3, List.length_append, List.length_map, List.length_take]; omega
              obtain ⟨n5, hn5⟩ : ∃ n5, n5 = L3.length := ⟨_, rfl⟩
              have ck : wq.cell? ⟨b, o + k, none⟩ = some (.int .i64 x) := by
                have h2 := (hI0'.out.below hB3 hbw).2 k hlt
                rw [h2, HX.out]
              have hbq : b < wq.heap.size := by omega
              have hBlt : ∀ g, u5.ownBlock = some g → w.heap.size ≤ g ∧ g < wq.heap.size := fun g hg => by
                rcases hO3.own.2 with ⟨h1, _⟩ | ⟨g', cp, cur, h1, hb', hg', _⟩
                · rw [h1] at hg; cases hg
                · rw [h1] at hg
                  simp only [Value.ownBlock, Option.some.injEq] at hg
                  rw [← hg]
                  exact ⟨hb', (Array.getElem?_eq_some_iff.1 hg').1⟩
              obtain ⟨ua, uc, hus⟩ := own_slice hel.1
              have hrne : some rg ≠ u5.ownBlock := fun e => by
                rcases hd3 with h | h
                · rw [h] at e; cases e
                · exact h (by rw [← e]; rfl)
              have HO3 := Lib.hid hO3
              have HR3 := Lib.hid hR3
              have HEL := Lib.hid hel
              have HD3 := Lib.hid hd3
              have HBL := Lib.hid hBlt
              have HB3 := Lib.hid hB3
              have HNE := Lib.hid hnext
              have HCK := Lib.hid ck
              have HCU := Lib.hid cu
              have HLNQ := Lib.hid hln
              clear hO3 hR3 hel hd3 hB3 hnext ck cu hcell hlq huv hL3 hln
              go_upto_region 11 with fail
              refine Rk.region_gen 12 (gLs w.heap.size u5 L3.length vs3) (gLs_isGr w.heap.size u5 L3.length vs3) (fun i a b h => gLs_all _ _ _ _ i a b h) (fun i a => gLs_refl _ _ _ _ i a) 14 [[], [], [], [1, 2], [1, 2, 3], [1, 2, 3, 4], [], [], [6, 7], [6, 7, 8], [1, 2, 3, 4, 5, 6, 7, 8, 9], [1, 2, 3, 4, 5, 6, 7, 8, 9, 10], [0, 1, 2, 3, 4, 5, 6, 7, 8, 9, 10, 11], [0, 1, 2, 3, 4, 5, 6, 7, 8, 9, 10, 11, 12]] [some 31, some 32, some 33, some 34, some 35, some 36, some 37, some 38, some 39, some 40, some 41, some 42, some 43, some 5] (by omega)
                (spLs u5 (.slice (some ⟨b, o, none⟩) l.length cap) k b (o + k) x (.slice (some ⟨rg, 0, none⟩) R.length rcap) q rg q uv lq w.heap.size wq.heap.size L3.length vs3) (by kernel_rfl) (by kernel_rfl) rfl (spLs_stable _ _ _ _ _ _ _ _ _ _ _ _ _ _ _ _ (fun g hg => (HBL.out g hg).2)) ?_ ?_
              · refine ⟨fun V w' c hG hc hs => ?_, fun V w' c hG hc hs => ?_, fun V w' c hG hc hs => ?_, fun V w' c hG hc hs => ?_, fun V w' c hG hc hs => ?_, fun V w' c hG hc hs => ?_, fun V w' c hG hc hs => ?_, fun V w' c hG hc hs => ?_, fun V w' c hG hc hs => ?_, fun V w' c hG hc hs => ?_, fun V w' c hG hc hs => ?_, fun V w' c hG hc hs => ?_, fun V w' c hG hc hs => ?_, fun V w' c hG hc hs => ?_, trivial⟩
                all_goals
                  have k1 : w'.cell? ⟨b, o + k, none⟩ = some (.int .i64 x) := (World.cell?_of_block (hG.1.block b hbq (by intro e; have := (HBL.out _ e.symm).1; omega))).trans HCK.out
                  have k2 : w'.cell? ⟨rg, q, none⟩ = some uv := (World.cell?_of_block (hG.1.block rg hrg hrne)).trans HCU.out
                  have hsz := hG.1.size
                  rw [if_pos (by rfl)]
                · exact Rk.GrowL.value (v := u5) (w' := w') (by simp [go_sem, Rs.look]) (gLs_refl _ _ _ _ _ _) rfl
                · exact Rk.GrowL.value (v := (.slice (some ⟨b, o, none⟩) l.length cap)) (w' := w') (by simp [go_sem, Rs.look]) (gLs_refl _ _ _ _ _ _) rfl
                · exact Rk.GrowL.value (v := .int .i64 k) (w' := w') (by simp [go_sem, Rs.look]) (gLs_refl _ _ _ _ _ _) rfl
                · have e1 : V 1 = (.slice (some ⟨b, o, none⟩) l.length cap) := hs 1 (by simp)
                  have e2 : V 2 = .int .i64 k := hs 2 (by simp)
                  exact Rk.GrowL.value (v := .pointer (some ⟨b, o + k, none⟩)) (w' := w') (by simp [go_sem, Rs.look, e1, e2, hlt']) (gLs_refl _ _ _ _ _ _) rfl
                · have e3 : V 3 = .pointer (some ⟨b, o + k, none⟩) := hs 3 (by simp)
                  exact Rk.GrowL.value (v := .int .i64 x) (w' := w') (by simp [go_sem, Rs.look, e3, k1]) (gLs_refl _ _ _ _ _ _) rfl
                · have e4 : V 4 = .int .i64 x := hs 4 (by simp)
                  exact Rk.GrowL.value (v := .slice (some ⟨w'.heap.size, 0, none⟩) 1 1) (w' := w'.alloc (.cells #[.int .i64 x] 3)) (by simp [go_sem, Rs.look, e4]) (gLs_of (by decide) (below1 _ _)) ⟨_, rfl, hsz, heap_alloc_last _ _⟩
                · exact Rk.GrowL.value (v := (.slice (some ⟨rg, 0, none⟩) R.length rcap)) (w' := w') (by simp [go_sem, Rs.look]) (gLs_refl _ _ _ _ _ _) rfl
                · exact Rk.GrowL.value (v := .int .i64 q) (w' := w') (by simp [go_sem, Rs.look]) (gLs_refl _ _ _ _ _ _) rfl
                · have e6 : V 6 = (.slice (some ⟨rg, 0, none⟩) R.length rcap) := hs 6 (by simp)
                  have e7 : V 7 = .int .i64 q := hs 7 (by simp)
                  exact Rk.GrowL.value (v := .pointer (some ⟨rg, q, none⟩)) (w' := w') (by simp [go_sem, Rs.look, e6, e7, hql']) (gLs_refl _ _ _ _ _ _) rfl
                · have e8 : V 8 = .pointer (some ⟨rg, q, none⟩) := hs 8 (by simp)
                  exact Rk.GrowL.value (v := uv) (w' := w') (by rw [hus] at k2 ⊢; simp [go_sem, Rs.look, e8, k2]) (gLs_refl _ _ _ _ _ _) rfl
                · obtain ⟨g5, e5, hg5, hc5⟩ : ∃ g, V 5 = .slice (some ⟨g, 0, none⟩) 1 1 ∧ wq.heap.size ≤ g ∧ w'.heap[g]? = some (.cells #[.int .i64 x] 3 (0, 0)) := hs 5 (by simp)
                  have e9 : V 9 = uv := hs 9 (by simp)
                  have hu' : w'.ownsRow w.heap.size 3 1 uv lq.length (lq.map (Value.int .i64)) := HEL.out.1.kept (row := u5.ownBlock) hG.1 (own_ty HEL.out.1 HO3.out.own (by decide))
                  obtain ⟨v', w8, hr, ho, hb8⟩ := append_head w' wq.heap.size g5 x uv lq hg5 hc5 (by have := HLNQ.out; omega) w.heap.size hu' HEL.out.2
                  exact Rk.GrowL.value (v := v') (w' := w8) (exec_append2 rfl rfl (by simp [Rs.look, e5]) (by simp [Rs.look, e9]) hr) (gLs_of (by decide) hb8) ho
                · have r10 : w'.ownsRow wq.heap.size 3 1 (V 10) (lq.length + 1) ((x :: lq).map (Value.int .i64)) := hs 10 (by simp)
                  obtain ⟨a10, c10, e10⟩ := own_slice r10
                  refine Rk.GrowL.value (v := .slice (some ⟨w'.heap.size, 0, none⟩) 1 1) (w' := w'.alloc (.cells #[V 10] 31)) (by rw [e10]; simp [go_sem, Rs.look, e10]) (gLs_of (by decide) (below1 _ _)) ⟨_, rfl, hsz, heap_alloc_last _ _, ?_⟩
                  show (V 10).oneCell' = true
                  rw [e10]; rfl
                · have e0 : V 0 = u5 := hs 0 (by simp)
                  obtain ⟨g11, e11, hg11, hc11, h1c⟩ : ∃ g, V 11 = .slice (some ⟨g, 0, none⟩) 1 1 ∧ wq.heap.size ≤ g ∧ w'.heap[g]? = some (.cells #[V 10] 31 (0, 0)) ∧ (V 10).oneCell' = true := hs 11 (by simp)
                  have hcg : w'.cell? ⟨g11, 0, none⟩ = some (V 10) := by rw [cell_of_row _ _ _ _ _ _ hc11]; rfl
                  obtain ⟨v', w8, hr, hown, hgr, hold, hwh⟩ := append_which31 w' w.heap.size u5 L3.length vs3 (V 10) h1c (hG.2 HO3.out.own) (by omega) (by omega) ⟨g11, 0, none⟩ (by simpa [Addr.add] using hcg)
                  refine Rk.GrowL.value (v := v') (w' := w8) (exec_append2 rfl rfl (by simp [Rs.look, e0]) (by simp [Rs.look, e11]) hr) (by unfold gLs; rw [if_pos rfl]; exact ⟨hgr, fun _ => hold⟩) ⟨by simp, hown, ?_⟩
                  rcases hwh with h | h
                  · exact .inl h
                  · exact .inr ⟨_, h, hsz⟩
                · obtain ⟨h1, h2, h3⟩ : c = true ∧ w'.ownsRow w.heap.size 31 1 (V 12) (L3.length + 1) (vs3 ++ [V 10]) ∧ ((V 12).ownBlock = u5.ownBlock ∨ ∃ g, (V 12).ownBlock = some g ∧ wq.heap.size ≤ g) := hs 12 (by simp)
                  exact Rk.GrowL.value (v := V 12) (w' := w') (by simp [go_sem, Rs.look]) (gLs_refl _ _ _ _ _ _) ⟨by rw [h1]; rfl, h2, h3⟩
              · intro V w' hG hs
                have e0 : V 0 = u5 := hs 0 (by omega)
                have e1 : V 1 = (.slice (some ⟨b, o, none⟩) l.length cap) := hs 1 (by omega)
                have e2 : V 2 = .int .i64 k := hs 2 (by omega)
                have e3 : V 3 = .pointer (some ⟨b, o + k, none⟩) := hs 3 (by omega)
                have e4 : V 4 = .int .i64 x := hs 4 (by omega)
                have e6 : V 6 = (.slice (some ⟨rg, 0, none⟩) R.length rcap) := hs 6 (by omega)
                have e7 : V 7 = .int .i64 q := hs 7 (by omega)
                have e8 : V 8 = .pointer (some ⟨rg, q, none⟩) := hs 8 (by omega)
                have e9 : V 9 = uv := hs 9 (by omega)
                have r10 : w'.ownsRow wq.heap.size 3 1 (V 10) (lq.length + 1) ((x :: lq).map (Value.int .i64)) := hs 10 (by omega)
                obtain ⟨-, r13, r13b⟩ : true = true ∧ w'.ownsRow w.heap.size 31 1 (V 13) (L3.length + 1) (vs3 ++ [V 10]) ∧ ((V 13).ownBlock = u5.ownBlock ∨ ∃ g, (V 13).ownBlock = some g ∧ wq.heap.size ≤ g) := hs 13 (by omega)
                simp only [Rs.canon, Rs.dstOf, List.range_succ, List.range_zero, List.nil_append, List.cons_append, List.foldl_cons, List.foldl_nil, List.drop_succ_cons, List.drop_zero, List.drop_nil, List.getElem?_toArray, List.getElem?_cons_succ, List.getElem?_cons_zero, Option.bind_some, Act.put, List.getD_cons_succ, List.getD_cons_zero, List.setIfInBounds_toArray, List.set_cons_succ, List.set_cons_zero]
                rw [e0, e1, e2, e3, e4, e6, e7, e8, e9]
                generalize V 5 = y5
                generalize V 11 = y11
                generalize V 12 = y12
                generalize V 13 = v13 at r13 r13b ⊢
                generalize V 10 = v10 at r10 r13 ⊢
                have hnew : OwL w' w.heap.size v13 (L3 ++ [x :: lq]) (vs3 ++ [v10]) := HO3.out.more hG.1 (by simp) r13 (own_base r10 hzq)
                have hR3' : OwL w' w.heap.size (.slice (some ⟨rg, 0, none⟩) R.length rcap) R vs2 := ⟨HR3.out.own.kept (row := u5.ownBlock) hG.1 (by
                  rcases HD3.out with h | h
                  · right; rw [h]; simp [Value.ownBlock]
                  · exact .inr (fun e => h e.symm)), fun j hj => ⟨(HR3.out.el j hj).1.kept (row := u5.ownBlock) hG.1 (own_ty (HR3.out.el j hj).1 HO3.out.own (by decide)), (HR3.out.el j hj).2⟩⟩
                have hd' : v13.ownBlock = none ∨ v13.ownBlock ≠ (Value.slice (some ⟨rg, 0, none⟩) R.length rcap).ownBlock := by
                  rcases r13b with h | ⟨g, h, hg⟩
                  · rw [h]; exact HD3.out
                  · right
                    rw [h]
                    simp only [Value.ownBlock, ne_eq, Option.some.injEq]
                    omega
                have hBB : Below w.heap.size w w' := ⟨hG.1.os.trans HB3.out.os, hG.1.tape.trans HB3.out.tape, hG.1.output.trans HB3.out.output, Nat.le_trans HB3.out.size hG.1.size, fun j hj => (hG.1.block j (by omega) (fun e => by have := (HBL.out _ e.symm).1; omega)).trans (HB3.out.block j hj)⟩
                have HN := Lib.hid hnew
                have HR4 := Lib.hid hR3'
                have HD4 := Lib.hid hd'
                have HBB := Lib.hid hBB
                clear e0 e1 e2 e3 e4 e6 e7 e8 e9 r10 r13 r13b hnew hR3' hd' hBB hG hs
                go_wp2_with fail
                go_roundw
                case rel => exact ⟨q + 1, vs3 ++ [v10], by simp, by omega, by rw [HNE.out]; exact HN.out, HR4.out, HD4.out, HBB.out⟩
                case measure => simp [intOf]; omega
            · obtain rfl : q = R.length := by omega
              rw [List.take_length] at hO3
              obtain ⟨ra, rc, hru⟩ := own_slice hR3.own
              subst hru
              have HO3 := Lib.hid hO3
              have HB3 := Lib.hid hB3
              clear hO3 hR3 hB3 hd3
              go_wp2_with fail
              go_roundw
              case rel => exact ⟨k + 1, vs3, by simp, by omega, by rw [HNX.out]; exact HO3.out, HB3.out⟩
              case measure => simp [intOf]; omega
      · obtain rfl : k = l.length := by omega
        have hga : goTo (listsP m) l l.length = listsP (m + 1) l := goTo_all (listsP m) l
        have HGA := Lib.hid hga
        clear hB hga
        go_wp2_with fail
        go_ret
        exact ⟨_, vs, rfl, by rw [← HGA.out]; exact HO.out, HB.out⟩
end Go.Proofs.Ytimedmkpenbmkaa
end
