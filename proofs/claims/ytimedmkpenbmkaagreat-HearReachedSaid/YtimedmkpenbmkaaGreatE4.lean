import Derived.Test.YtimedmkpenbmkaaGreatE1
namespace Go.Proofs.YtimedmkpenbmkaaGreat
open Go.RowKit Go.Shelf
set_option linter.unusedSimpArgs false
set_option linter.unusedVariables false

def offB (n lo hi : Int) : Bool := decide (n < lo) || decide (hi < n)
theorem offB_no {n lo hi : Int} (h1 : lo ≤ n) (h2 : n ≤ hi) : offB n lo hi = false := by simp [offB]; omega
theorem offB_yes {n lo hi : Int} (h : n < lo ∨ hi < n) : offB n lo hi = true := by simp [offB]; omega
set_option maxHeartbeats 1000000 in
theorem off_any (n lo hi : Int) (w : World) (q : Bool) (hq : offB n lo hi = q) : Calls Tryz.prog 88 #[.int .i64 n, .int .i64 lo, .int .i64 hi] w fun e w' => e = .returned (.bool q) ∧ w = w' := by
  subst hq
  by_cases h1 : n < lo
  · have d1 : decide (n < lo) = true := by simpa using h1
    have hr : offB n lo hi = true := offB_yes (.inl h1)
    rw [hr]
    clear hr
    go_enter Tryz.func88, Tryz.ntmps88
    go_wp2
    go_ret
    exact ⟨rfl, rfl⟩
  · have d1 : decide (n < lo) = false := by simp; omega
    by_cases h2 : hi < n
    · have d2 : decide (n > hi) = true := by simpa using h2
      have hr : offB n lo hi = true := offB_yes (.inr h2)
      rw [hr]
      clear hr
      go_enter Tryz.func88, Tryz.ntmps88
      go_wp2
      go_ret
      exact ⟨rfl, rfl⟩
    · have d2 : decide (n > hi) = false := by simp; omega
      have hr : offB n lo hi = false := offB_no (by omega) (by omega)
      rw [hr]
      clear hr
      go_enter Tryz.func88, Tryz.ntmps88
      go_wp2
      go_ret
      exact ⟨rfl, rfl⟩

set_option maxHeartbeats 1000000 in
theorem refAir_any (wind voice : Int) (w : World) : Calls Tryz.prog 35 #[.int .i64 wind, .int .i64 voice] w fun e w' => e = .returned (.int .i64 (airErr wind voice)) ∧ w = w' := by
  by_cases h1 : wind < 0 ∨ 4 < wind
  · have hr : airErr wind voice = 3 := by unfold airErr; rw [if_pos (by omega)]
    rw [hr]
    clear hr
    go_enter Tryz.func35, Tryz.ntmps35
    go_wp2_with fail
    refine (off_any _ _ _ _ true (offB_yes h1)).mono ?_
    rintro e w' ⟨rfl, rfl⟩
    go_wp2
    go_ret
    exact ⟨rfl, rfl⟩
  · by_cases h2 : voice < 1 ∨ 40 < voice
    · have hr : airErr wind voice = 3 := by unfold airErr; rw [if_pos (by omega)]
      rw [hr]
      clear hr
      go_enter Tryz.func35, Tryz.ntmps35
      go_wp2_with fail
      refine (off_any _ _ _ _ false (offB_no (by omega) (by omega))).mono ?_
      rintro e w' ⟨rfl, rfl⟩
      go_wp2_with fail
      refine (off_any _ _ _ _ true (offB_yes h2)).mono ?_
      rintro e w' ⟨rfl, rfl⟩
      go_wp2
      go_ret
      exact ⟨rfl, rfl⟩
    · have hr : airErr wind voice = 0 := by unfold airErr; rw [if_neg (by omega)]
      rw [hr]
      clear hr
      go_enter Tryz.func35, Tryz.ntmps35
      go_wp2_with fail
      refine (off_any _ _ _ _ false (offB_no (by omega) (by omega))).mono ?_
      rintro e w' ⟨rfl, rfl⟩
      go_wp2_with fail
      refine (off_any _ _ _ _ false (offB_no (by omega) (by omega))).mono ?_
      rintro e w' ⟨rfl, rfl⟩
      go_wp2
      go_ret
      exact ⟨rfl, rfl⟩

set_option maxHeartbeats 1000000 in
theorem refIs_any (wd : Int) (a : Option Addr) (cap : Nat) (xs : List Int) (p k : Int) (hl : xs.length ≤ 1000000) (w : World) (hR : RdI w (.slice a xs.length cap) xs) :
    Calls Tryz.prog 50 #[.agg #[.int .i64 wd, .slice a xs.length cap], .int .i64 p, .int .i64 k] w fun e w' => e = .returned (.int .i64 (plotErr xs p k)) ∧ Below w.heap.size w w' := by
  obtain ⟨_, a', cap', e1, hI⟩ := hR
  injection e1 with e1 _ e3
  subst e1
  subst e3
  have HI := Lib.hid hI
  have HB := Lib.hid (below1 w (.cells #[.int .i64 wd, .slice a xs.length cap] 64))
  clear hI
  by_cases h1 : p < 0 ∨ (xs.length : Int) ≤ p
  · have hr : plotErr xs p k = 1 := by unfold plotErr; rw [if_pos h1]
    rw [hr]
    clear hr
    go_enter Tryz.func50, Tryz.ntmps50
    go_wp2_with fail
    refine (off_any _ _ _ _ true (offB_yes (by omega))).mono ?_
    rintro e w' ⟨rfl, rfl⟩
    go_wp2
    go_ret
    exact ⟨rfl, HB.out⟩
  · obtain ⟨q, rfl⟩ : ∃ q : Nat, p = q := ⟨p.toNat, by omega⟩
    have hq : q < xs.length := by omega
    have hne : xs ≠ [] := by rintro rfl; simp at hq
    obtain ⟨b, o, rfl, hI⟩ := HI.out hne
    have hc := (hI.below HB.out hI.1).2 q hq
    have hr : plotErr xs q k = if xs.getD q 0 = k then 0 else 8 := by unfold plotErr; rw [if_neg h1]; simp
    rw [hr]
    obtain ⟨x, hx⟩ : ∃ x, x = xs.getD q 0 := ⟨_, rfl⟩
    rw [← hx] at hc ⊢
    have hq' : (q : Int) < xs.length := by omega
    clear hr hx hI hne h1
    by_cases hk : x = k
    · subst hk
      rw [if_pos rfl]
      go_enter Tryz.func50, Tryz.ntmps50
      go_wp2_with fail
      refine (off_any _ _ _ _ false (offB_no (by omega) (by omega))).mono ?_
      rintro e w' ⟨rfl, rfl⟩
      go_wp2
      go_ret
      exact ⟨rfl, HB.out⟩
    · have hk' : (x != k) = true := by simpa using hk
      rw [if_neg hk]
      clear hk
      go_enter Tryz.func50, Tryz.ntmps50
      go_wp2_with fail
      refine (off_any _ _ _ _ false (offB_no (by omega) (by omega))).mono ?_
      rintro e w' ⟨rfl, rfl⟩
      go_wp2
      go_ret
      exact ⟨rfl, HB.out⟩

set_option maxHeartbeats 2000000 in
theorem refCheck_any (wd : Int) (a : Option Addr) (cap : Nat) (xs : List Int) (hl : xs.length ≤ 1000000) (w : World) (hR : RdI w (.slice a xs.length cap) xs) :
    Calls Tryz.prog 33 #[.agg #[.int .i64 wd, .slice a xs.length cap]] w fun e w' => e = .returned (.int .i64 (checkErr wd xs)) ∧ Below w.heap.size w w' := by
  obtain ⟨_, a', cap', e1, hI⟩ := hR
  injection e1 with e1 _ e3
  subst e1
  subst e3
  have HI := Lib.hid hI
  have HB := Lib.hid (below1 w (.cells #[.int .i64 wd, .slice a xs.length cap] 64))
  clear hI
  by_cases h1 : wd < 1 ∨ 6 < wd
  · have hr : checkErr wd xs = 2 := by unfold checkErr; rw [if_pos (by omega)]
    rw [hr]
    clear hr
    go_enter Tryz.func33, Tryz.ntmps33
    go_wp2_with fail
    refine (off_any _ _ _ _ true (offB_yes h1)).mono ?_
    rintro e w' ⟨rfl, rfl⟩
    go_wp2
    go_ret
    exact ⟨rfl, HB.out⟩
  · by_cases h2 : xs.length < 1 ∨ 30 < xs.length
    · have hr : checkErr wd xs = 2 := by unfold checkErr; rw [if_pos (by omega)]
      rw [hr]
      clear hr
      go_enter Tryz.func33, Tryz.ntmps33
      go_wp2_with fail
      refine (off_any _ _ _ _ false (offB_no (by omega) (by omega))).mono ?_
      rintro e w' ⟨rfl, rfl⟩
      go_wp2_with fail
      refine (off_any _ _ _ _ true (offB_yes (by omega))).mono ?_
      rintro e w' ⟨rfl, rfl⟩
      go_wp2
      go_ret
      exact ⟨rfl, HB.out⟩
    · by_cases h3 : (xs.length : Int) % wd ≠ 0
      · have hr : checkErr wd xs = 2 := by unfold checkErr; rw [if_pos (by omega)]
        have h3' : (((xs.length : Int) % wd) != 0) = true := by simpa using h3
        have hz : (wd == 0) = false := by simp; omega
        rw [hr]
        clear hr h3
        have w1 : 1 ≤ wd := by omega
        go_enter Tryz.func33, Tryz.ntmps33
        go_wp2_with fail
        refine (off_any _ _ _ _ false (offB_no (by omega) (by omega))).mono ?_
        rintro e w' ⟨rfl, rfl⟩
        go_wp2_with fail
        refine (off_any _ _ _ _ false (offB_no (by omega) (by omega))).mono ?_
        rintro e w' ⟨rfl, rfl⟩
        go_wp2
        go_ret
        exact ⟨rfl, HB.out⟩
      · have hr : checkErr wd xs = if xs.any badPlot then 3 else if 10 < cnt1 xs then 2 else 0 := by unfold checkErr; rw [if_neg (by omega)]
        have h3' : (((xs.length : Int) % wd) != 0) = false := by simpa using h3
        have hz : (wd == 0) = false := by simp; omega
        have w1 : 1 ≤ wd := by omega
        have w6 : wd ≤ 6 := by omega
        have l1 : 1 ≤ xs.length := by omega
        have l30 : xs.length ≤ 30 := by omega
        have hne : xs ≠ [] := by rintro rfl; simp at l1
        obtain ⟨b, o, rfl, hI⟩ := HI.out hne
        have hI1 := Lib.hid (hI.below HB.out hI.1)
        have HR := Lib.hid hr
        clear hr h3 hI hne h1 h2
        go_enter Tryz.func33, Tryz.ntmps33
        go_wp2_with fail
        refine (off_any _ _ _ _ false (offB_no (by omega) (by omega))).mono ?_
        rintro e w' ⟨rfl, rfl⟩
        go_wp2_with fail
        refine (off_any _ _ _ _ false (offB_no (by omega) (by omega))).mono ?_
        rintro e w' ⟨rfl, rfl⟩
        go_wp2
        go_loop [4] (fun i => ∃ k : Nat, k ≤ xs.length ∧ i = .int .i64 k ∧ (xs.take k).any badPlot = false) (fun i => xs.length - (intOf i).toNat)
        case atStart => exact ⟨0, Nat.zero_le _, rfl, rfl⟩
        case round =>
          obtain ⟨k, hk, rfl, hg⟩ := hrel
          have HG := Lib.hid hg
          clear hg
          by_cases hlt : k < xs.length
          · have hlt' : (k : Int) < xs.length := by omega
            have hc := hI1.out.2 k hlt
            have hsn := take_snocI xs k hlt
            have hmem : xs.getD k 0 ∈ xs := by rw [List.getD_eq_getElem?_getD, List.getElem?_eq_getElem hlt]; exact List.getElem_mem hlt
            obtain ⟨x, hx⟩ : ∃ x, x = xs.getD k 0 := ⟨_, rfl⟩
            rw [← hx] at hc hsn hmem
            have HSN := Lib.hid hsn
            have HM := Lib.hid hmem
            clear hx hsn hmem
            by_cases hbad : x < 0 ∨ 2 < x
            · have hb : badPlot x = true := by unfold badPlot; simp; omega
              have HBAD := Lib.hid hb
              clear hb
              go_wp2_with fail
              refine (off_any _ _ _ _ true (offB_yes hbad)).mono ?_
              rintro e w' ⟨rfl, rfl⟩
              go_wp2
              go_ret
              have hany : xs.any badPlot = true := List.any_eq_true.2 ⟨x, HM.out, HBAD.out⟩
              exact ⟨by rw [HR.out, hany]; rfl, HB.out⟩
            · have hb : badPlot x = false := by unfold badPlot; simp; omega
              have HBAD := Lib.hid hb
              clear hb
              go_wp2_with fail
              refine (off_any _ _ _ _ false (offB_no (by omega) (by omega))).mono ?_
              rintro e w' ⟨rfl, rfl⟩
              go_wp2
              go_round
              case rel => exact ⟨k + 1, by omega, by go_num, by rw [HSN.out, List.any_append, HG.out]; simp [HBAD.out]⟩
              case measure => simp [intOf]; omega
          · have hkk : k = xs.length := by omega
            subst hkk
            have hg := HG.out
            rw [List.take_length] at hg
            have HG2 := Lib.hid hg
            clear hg
            go_wp2
            go_loop [3, 5] (fun n i => ∃ k : Nat, k ≤ xs.length ∧ i = .int .i64 k ∧ n = .int .i64 (cnt1 (xs.take k))) (fun _ i => xs.length - (intOf i).toNat)
            case atStart => exact ⟨0, Nat.zero_le _, rfl, rfl⟩
            case round =>
              obtain ⟨k, hk, rfl, rfl⟩ := hrel
              have hcl := cnt1_le (xs.take k)
              have hcl2 : (xs.take k).length ≤ xs.length := by simp; omega
              obtain ⟨c, hcc⟩ : ∃ c, c = cnt1 (xs.take k) := ⟨_, rfl⟩
              rw [← hcc] at hcl ⊢
              by_cases hlt : k < xs.length
              · have hlt' : (k : Int) < xs.length := by omega
                have hc := hI1.out.2 k hlt
                have hsn := take_snocI xs k hlt
                obtain ⟨x, hx⟩ : ∃ x, x = xs.getD k 0 := ⟨_, rfl⟩
                rw [← hx] at hc hsn
                have HSN := Lib.hid hsn
                have HCC := Lib.hid hcc
                clear hx hsn hcc
                by_cases hone : x = 1
                · subst hone
                  go_wp2
                  go_round
                  case rel => exact ⟨k + 1, by omega, by go_num, by rw [HSN.out]; simp only [cnt1, List.countP_append]; unfold cnt1 at HCC; rw [← HCC.out]; simp⟩
                  case measure => simp [intOf]; omega
                · have hone' : (x == 1) = false := by simpa using hone
                  have H1 := Lib.hid hone
                  clear hone
                  go_wp2
                  go_round
                  case rel => exact ⟨k + 1, by omega, by go_num, by rw [HSN.out]; simp only [cnt1, List.countP_append]; unfold cnt1 at HCC; rw [← HCC.out]; simp [H1.out]⟩
                  case measure => simp [intOf]; omega
              · have hkk : k = xs.length := by omega
                subst hkk
                rw [List.take_length] at hcc hcl
                have HCC := Lib.hid hcc
                clear hcc
                by_cases h10 : 10 < c
                · have h10' : decide ((c : Int) > 10) = true := by simp; omega
                  go_wp2
                  go_ret
                  exact ⟨by rw [HR.out, HG2.out, ← HCC.out]; simp [h10], HB.out⟩
                · have h10' : decide ((c : Int) > 10) = false := by simp; omega
                  go_wp2
                  go_ret
                  exact ⟨by rw [HR.out, HG2.out, ← HCC.out]; simp [h10], HB.out⟩
end Go.Proofs.YtimedmkpenbmkaaGreat
