import Derived.Test.YtimedmkpenbmkaaUn
namespace Go.Proofs.Ytimedmkpenbmkaa
open Go.RowKit Go.Shelf
set_option linter.unusedSimpArgs false
set_option linter.unusedVariables false

/-- the plots of a kind -/
def kindTo (xs : List Int) (kind : Int) (k : Nat) : List Int := ((List.range k).filter fun p => xs.getD p 0 == kind).map fun (p : Nat) => (p : Int)
def kindIdx (xs : List Int) (kind : Int) : List Int := kindTo xs kind xs.length
theorem kindTo_yes {xs : List Int} {kind : Int} {k : Nat} (e : (xs.getD k 0 == kind) = true) : kindTo xs kind (k + 1) = kindTo xs kind k ++ [(k : Int)] := by
  unfold kindTo; rw [List.range_succ, List.filter_append, List.filter_cons, if_pos e]; simp
theorem kindTo_no {xs : List Int} {kind : Int} {k : Nat} (e : (xs.getD k 0 == kind) = false) : kindTo xs kind (k + 1) = kindTo xs kind k := by
  unfold kindTo; rw [List.range_succ, List.filter_append, List.filter_cons, if_neg (by rw [e]; simp)]; simp
theorem kindTo_len (xs : List Int) (kind : Int) (k : Nat) : (kindTo xs kind k).length ≤ k := by
  unfold kindTo
  have := List.length_filter_le (fun p => xs.getD p 0 == kind) (List.range k)
  simp at this ⊢; omega
theorem mem_kindIdx {xs : List Int} {kind x : Int} : x ∈ kindIdx xs kind ↔ ∃ p : Nat, x = p ∧ p < xs.length ∧ xs.getD p 0 = kind := by
  unfold kindIdx kindTo
  rw [List.mem_map]
  constructor
  · rintro ⟨p, hp, rfl⟩
    rw [List.mem_filter, List.mem_range, beq_iff_eq] at hp
    exact ⟨p, rfl, hp.1, hp.2⟩
  · rintro ⟨p, rfl, h1, h2⟩
    exact ⟨p, by rw [List.mem_filter, List.mem_range, beq_iff_eq]; exact ⟨h1, h2⟩, rfl⟩

set_option maxHeartbeats 1000000 in
set_option maxRecDepth 100000 in
theorem streets_any (wd : Int) (a : Option Addr) (cap : Nat) (xs : List Int) (hl : xs.length ≤ 1000000) (w : World) (hR : RdI w (.slice a xs.length cap) xs) :
    Calls Try.prog 60 #[.agg #[.int .i64 wd, .slice a xs.length cap]] w fun e w' => ∃ v, e = .returned v ∧ w'.ownsRow w.heap.size 3 1 v (kindIdx xs 0).length ((kindIdx xs 0).map (Value.int .i64)) ∧ Below w.heap.size w w' := by
  obtain ⟨i0, hi, hz0, hz1, hz2⟩ := info_parts A_info3
  have HB := Lib.hid (below1 w (.cells #[.int .i64 wd, .slice a xs.length cap] 24))
  have hx0 : (w.alloc (.cells #[.int .i64 wd, .slice a xs.length cap] 24)).heap[w.heap.size]? = some (.cells #[.int .i64 wd, .slice a xs.length cap] 24 (0, 0)) := heap_alloc_last _ _
  obtain ⟨k0, k1⟩ := blk_cells2 hx0
  have HR := Lib.hid (hR.below HB.out)
  obtain ⟨W1, hW1⟩ : ∃ W1, W1 = w.alloc (.cells #[.int .i64 wd, .slice a xs.length cap] 24) := ⟨_, rfl⟩
  rw [← hW1] at HB HR
  clear hR hx0
  go_enter Try.func60, Try.ntmps60
  go_wp2_with fail
  rw [← hW1]
  clear k0 k1 hW1
  go_loopw [3, 4, 5, 9] (fun v u u' i wr => ∃ k : Nat, k ≤ xs.length ∧ i = .int .i64 k ∧ wr.ownsRow W1.heap.size 3 1 v (kindTo xs 0 k).length ((kindTo xs 0 k).map (Value.int .i64)) ∧ Below W1.heap.size W1 wr) (fun _ _ _ i _ => xs.length - (intOf i).toNat)
  case atStart => exact ⟨0, Nat.zero_le _, rfl, own_none _ _ _ _, Below.refl _ _⟩
  case round =>
    obtain ⟨k, hk, rfl, hown, hBr⟩ := hrel
    have HO := Lib.hid hown
    have HBr := Lib.hid hBr
    have hlen := kindTo_len xs 0 k
    by_cases hlt : k < xs.length
    · have hne : xs ≠ [] := by rintro rfl; simp at hlt
      obtain ⟨b, o, rfl, _, hI⟩ := rd_ints HR.out hne
      have cp := (hI.below hBr hI.1).2 k hlt
      have hbr := Nat.lt_of_lt_of_le hI.1 hBr.size
      have hk' : (k : Int) < xs.length := by omega
      obtain ⟨x, hx⟩ : ∃ x, xs.getD k 0 = x := ⟨_, rfl⟩
      rw [hx] at cp
      have HX := Lib.hid hx
      have hz7 := hBr.size
      clear hx hown hI hBr
      by_cases hx1 : x = 0
      · subst hx1
        have HYES : Hid ((xs.getD k 0 == 0) = true) := Lib.hid (by rw [HX.out]; rfl)
        go_wp2_with (at_builtin; refine wpList_append_own _ rfl _ _ 31 rfl W1.heap.size 3 i0 (.int .i64 0) 1 8 A_und31 hi hz0 hz1 hz2 rfl (by decide) _ _ _ rfl (HO.out.alloc _) ⟨wr.heap.size, 0, none⟩ 1 1 [.int .i64 (k : Int)] rfl rfl ?d1 ?d2 ?d3 ?d4 ?d5 ?_)
        case d2 => first | rfl | (intro u hu; simp at hu; subst hu; rfl)
        case d3 => unfold maxLen; omega
        case d4 => omega
        case d5 => first | omega | (simp; omega)
        intro v' w8 hown8 hgrow _
        have hB8 := below_grown (al2 HBr.out (by omega) _) (HO.out.alloc _) (Nat.le_refl _) (by simp; omega) hgrow
        have HO8 := Lib.hid hown8
        have HB8 := Lib.hid hB8
        clear hgrow hown8 hB8
        go_wp2
        go_roundw
        case rel => exact ⟨k + 1, by omega, by simp, by rw [kindTo_yes HYES.out]; simpa using HO8.out, HB8.out⟩
        case measure => simp [intOf]; omega
      · have hx1' : (x == 0) = false := by simpa using hx1
        have HNO : Hid ((xs.getD k 0 == 0) = false) := Lib.hid (by rw [HX.out]; exact hx1')
        clear hx1
        go_wp2
        go_roundw
        case rel => exact ⟨k + 1, by omega, by simp, by rw [kindTo_no HNO.out]; exact HO.out, HBr.out⟩
        case measure => simp [intOf]; omega
    · have hkk : k = xs.length := by omega
      subst hkk
      clear hown hBr
      go_wp2
      go_ret
      exact ⟨_, rfl, own_base HO.out HB.out.size, join HB.out HBr.out⟩

set_option maxHeartbeats 1000000 in
set_option maxRecDepth 100000 in
theorem houses_any (wd : Int) (a : Option Addr) (cap : Nat) (xs : List Int) (hl : xs.length ≤ 1000000) (w : World) (hR : RdI w (.slice a xs.length cap) xs) :
    Calls Try.prog 63 #[.agg #[.int .i64 wd, .slice a xs.length cap]] w fun e w' => ∃ v, e = .returned v ∧ w'.ownsRow w.heap.size 3 1 v (kindIdx xs 1).length ((kindIdx xs 1).map (Value.int .i64)) ∧ Below w.heap.size w w' := by
  obtain ⟨i0, hi, hz0, hz1, hz2⟩ := info_parts A_info3
  have HB := Lib.hid (below1 w (.cells #[.int .i64 wd, .slice a xs.length cap] 24))
  have hx0 : (w.alloc (.cells #[.int .i64 wd, .slice a xs.length cap] 24)).heap[w.heap.size]? = some (.cells #[.int .i64 wd, .slice a xs.length cap] 24 (0, 0)) := heap_alloc_last _ _
  obtain ⟨k0, k1⟩ := blk_cells2 hx0
  have HR := Lib.hid (hR.below HB.out)
  obtain ⟨W1, hW1⟩ : ∃ W1, W1 = w.alloc (.cells #[.int .i64 wd, .slice a xs.length cap] 24) := ⟨_, rfl⟩
  rw [← hW1] at HB HR
  clear hR hx0
  go_enter Try.func63, Try.ntmps63
  go_wp2_with fail
  rw [← hW1]
  clear k0 k1 hW1
  go_loopw [3, 4, 5, 9] (fun v u u' i wr => ∃ k : Nat, k ≤ xs.length ∧ i = .int .i64 k ∧ wr.ownsRow W1.heap.size 3 1 v (kindTo xs 1 k).length ((kindTo xs 1 k).map (Value.int .i64)) ∧ Below W1.heap.size W1 wr) (fun _ _ _ i _ => xs.length - (intOf i).toNat)
  case atStart => exact ⟨0, Nat.zero_le _, rfl, own_none _ _ _ _, Below.refl _ _⟩
  case round =>
    obtain ⟨k, hk, rfl, hown, hBr⟩ := hrel
    have HO := Lib.hid hown
    have HBr := Lib.hid hBr
    have hlen := kindTo_len xs 1 k
    by_cases hlt : k < xs.length
    · have hne : xs ≠ [] := by rintro rfl; simp at hlt
      obtain ⟨b, o, rfl, _, hI⟩ := rd_ints HR.out hne
      have cp := (hI.below hBr hI.1).2 k hlt
      have hbr := Nat.lt_of_lt_of_le hI.1 hBr.size
      have hk' : (k : Int) < xs.length := by omega
      obtain ⟨x, hx⟩ : ∃ x, xs.getD k 0 = x := ⟨_, rfl⟩
      rw [hx] at cp
      have HX := Lib.hid hx
      have hz7 := hBr.size
      clear hx hown hI hBr
      by_cases hx1 : x = 1
      · subst hx1
        have HYES : Hid ((xs.getD k 0 == 1) = true) := Lib.hid (by rw [HX.out]; rfl)
        go_wp2_with (at_builtin; refine wpList_append_own _ rfl _ _ 31 rfl W1.heap.size 3 i0 (.int .i64 0) 1 8 A_und31 hi hz0 hz1 hz2 rfl (by decide) _ _ _ rfl (HO.out.alloc _) ⟨wr.heap.size, 0, none⟩ 1 1 [.int .i64 (k : Int)] rfl rfl ?d1 ?d2 ?d3 ?d4 ?d5 ?_)
        case d2 => first | rfl | (intro u hu; simp at hu; subst hu; rfl)
        case d3 => unfold maxLen; omega
        case d4 => omega
        case d5 => first | omega | (simp; omega)
        intro v' w8 hown8 hgrow _
        have hB8 := below_grown (al2 HBr.out (by omega) _) (HO.out.alloc _) (Nat.le_refl _) (by simp; omega) hgrow
        have HO8 := Lib.hid hown8
        have HB8 := Lib.hid hB8
        clear hgrow hown8 hB8
        go_wp2
        go_roundw
        case rel => exact ⟨k + 1, by omega, by simp, by rw [kindTo_yes HYES.out]; simpa using HO8.out, HB8.out⟩
        case measure => simp [intOf]; omega
      · have hx1' : (x == 1) = false := by simpa using hx1
        have HNO : Hid ((xs.getD k 0 == 1) = false) := Lib.hid (by rw [HX.out]; exact hx1')
        clear hx1
        go_wp2
        go_roundw
        case rel => exact ⟨k + 1, by omega, by simp, by rw [kindTo_no HNO.out]; exact HO.out, HBr.out⟩
        case measure => simp [intOf]; omega
    · have hkk : k = xs.length := by omega
      subst hkk
      clear hown hBr
      go_wp2
      go_ret
      exact ⟨_, rfl, own_base HO.out HB.out.size, join HB.out HBr.out⟩
end Go.Proofs.Ytimedmkpenbmkaa
