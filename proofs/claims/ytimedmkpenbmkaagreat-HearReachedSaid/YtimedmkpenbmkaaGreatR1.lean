import Derived.Test.YtimedmkpenbmkaaGreatE4
import Derived.Test.YtimedmkpenbmkaaGreatMathR
namespace Go.Proofs.YtimedmkpenbmkaaGreat
open Go.RowKit Go.Shelf
set_option linter.unusedSimpArgs false
set_option linter.unusedVariables false

def windE (wind : Int) : Int := if wind < 0 ∨ 4 < wind then 3 else 0
def standE (wd : Int) (xs : List Int) (wind s : Int) : Int := if checkErr wd xs ≠ 0 then checkErr wd xs else if windE wind ≠ 0 then windE wind else plotErr xs s 0

set_option maxHeartbeats 1000000 in
theorem refStand_any (wd : Int) (a : Option Addr) (cap : Nat) (xs : List Int) (wind s : Int) (hl : xs.length ≤ 1000000) (w : World) (hR : RdI w (.slice a xs.length cap) xs) :
    Calls Tryz.prog 96 #[.agg #[.int .i64 wd, .slice a xs.length cap], .int .i64 wind, .int .i64 s] w fun e w' => e = .returned (.int .i64 (standE wd xs wind s)) ∧ Below w.heap.size w w' := by
  have HR := Lib.hid hR
  have hbl := below1 w (.cells #[.int .i64 wd, .slice a xs.length cap] 64)
  have HB := Lib.hid hbl
  have hx : (w.alloc (.cells #[.int .i64 wd, .slice a xs.length cap] 64)).heap[w.heap.size]? = some (.cells #[.int .i64 wd, .slice a xs.length cap] 64 (0, 0)) := heap_alloc_last _ _
  have HX := Lib.hid hx
  have HCH := Lib.hid (fun W (hB : Below w.heap.size w W) => refCheck_any wd a cap xs hl W (HR.out.below hB))
  have HPL := Lib.hid (fun W (hB : Below w.heap.size w W) => refIs_any wd a cap xs s 0 hl W (HR.out.below hB))
  clear hR hbl hx
  by_cases h1 : checkErr wd xs = 0
  · rw [h1] at HCH
    by_cases h2 : wind < 0 ∨ 4 < wind
    · have hr : standE wd xs wind s = 3 := by unfold standE windE; rw [if_neg (by rw [h1]; simp), if_pos (by rw [if_pos h2]; decide), if_pos h2]
      rw [hr]
      clear hr h1
      go_enter Tryz.func96, Tryz.ntmps96
      go_wp2_with fail
      refine (HCH.out _ HB.out).mono ?_
      rintro e w1 ⟨rfl, hB⟩
      have HB1 := Lib.hid (join HB.out hB)
      clear hB
      go_wp2_with fail
      refine (off_any _ _ _ _ true (offB_yes h2)).mono ?_
      rintro e w' ⟨rfl, rfl⟩
      go_wp2
      go_ret
      exact ⟨rfl, HB1.out⟩
    · have hr : standE wd xs wind s = plotErr xs s 0 := by unfold standE windE; rw [if_neg (by rw [h1]; simp), if_neg (by rw [if_neg h2]; simp)]
      rw [hr]
      clear hr h1
      go_enter Tryz.func96, Tryz.ntmps96
      go_wp2_with fail
      refine (HCH.out _ HB.out).mono ?_
      rintro e w1 ⟨rfl, hB⟩
      have HB1 := Lib.hid (join HB.out hB)
      obtain ⟨k0, k1⟩ := blk_cells2 ((hB.block w.heap.size (by simp)).trans HX.out)
      clear hB
      go_wp2_with fail
      refine (off_any _ _ _ _ false (offB_no (by omega) (by omega))).mono ?_
      rintro e w' ⟨rfl, rfl⟩
      go_wp2_with fail
      refine (HPL.out _ HB1.out).mono ?_
      rintro e w2 ⟨rfl, hB⟩
      have HB2 := Lib.hid (join HB1.out hB)
      clear hB
      go_wp2
      go_ret
      exact ⟨rfl, HB2.out⟩
  · have hr : standE wd xs wind s = checkErr wd xs := by unfold standE; rw [if_pos h1]
    rw [hr]
    obtain ⟨c, hc⟩ : ∃ c, c = checkErr wd xs := ⟨_, rfl⟩
    rw [← hc] at h1 HCH ⊢
    have hc1 : (c != 0) = true := by simpa using h1
    clear hr hc h1
    go_enter Tryz.func96, Tryz.ntmps96
    go_wp2_with fail
    refine (HCH.out _ HB.out).mono ?_
    rintro e w1 ⟨rfl, hB⟩
    have HB1 := Lib.hid (join HB.out hB)
    clear hB
    go_wp2
    go_ret
    exact ⟨rfl, HB1.out⟩

set_option maxHeartbeats 1000000 in
theorem above_any (a b : Int) (n : Nat) (hn : n ≤ 100) (ha : a ≤ 9223372036854775807) (hb : -9223372036854775808 ≤ b) (hb2 : b ≤ 9223372036854775807) (w : World) :
    Calls Tryz.prog 99 #[.int .i64 a, .int .i64 b, .int .i64 n] w fun e w' => e = .returned (.bool (decide (b + n < a))) ∧ w = w' := by
  go_enter Tryz.func99, Tryz.ntmps99
  go_wp2
  go_loop [1, 7] (fun x i => ∃ k : Nat, k ≤ n ∧ i = .int .i64 k ∧ x = .int .i64 (b + k) ∧ b + k ≤ 9223372036854775807) (fun _ i => n - (intOf i).toNat)
  case atStart => exact ⟨0, Nat.zero_le _, rfl, by simp, by simpa using hb2⟩
  case round =>
    obtain ⟨k, hk, rfl, rfl, hbk⟩ := hrel
    obtain ⟨x, hx⟩ : ∃ x, x = b + k := ⟨_, rfl⟩
    rw [← hx] at hbk ⊢
    have hxb : -9223372036854775808 ≤ x := by omega
    have HX := Lib.hid hx
    clear hx
    by_cases hlt : k < n
    · have hlt' : (k : Int) < n := by omega
      by_cases hge : a ≤ x
      · go_wp2
        go_ret
        have : ¬ (b + n < a) := by have := HX.out; omega
        exact ⟨by simp [this], rfl⟩
      · have hge' : ¬ (x ≥ a) := by omega
        go_wp2
        go_round
        case rel => exact ⟨k + 1, by omega, by go_num, by rw [HX.out]; congr 1; push_cast; omega, by have := HX.out; push_cast; omega⟩
        case measure => simp [intOf]; omega
    · have hkk : k = n := by omega
      subst hkk
      by_cases hlt2 : x < a
      · have d : decide (x < a) = true := by simpa using hlt2
        go_wp2
        go_ret
        exact ⟨by rw [← HX.out]; simp [hlt2], rfl⟩
      · have d : decide (x < a) = false := by simpa using hlt2
        go_wp2
        go_ret
        exact ⟨by rw [← HX.out]; simp [hlt2], rfl⟩

theorem sq_small {x : Int} (h : x * x ≤ 1) : -1 ≤ x ∧ x ≤ 1 := by
  have key : ∀ y : Int, y * y ≤ 1 → y ≤ 1 := fun y hy => by
    false_or_by_contra
    rename_i h1
    have h3 := Int.mul_nonneg (show 0 ≤ y - 2 by omega) (show 0 ≤ y + 2 by omega)
    have h4 : (y - 2) * (y + 2) = y * y - 4 := by rw [Int.sub_mul, Int.mul_add, Int.mul_add, Int.mul_comm y 2]; omega
    omega
  refine ⟨?_, key x h⟩
  have := key (-x) (by rw [Int.neg_mul_neg]; exact h)
  omega
theorem step_mix (t : Hr.Town) (wind : Int) (P Q : Nat) (down right : Int) (h1 : t.at Q ≠ 2) (h2 : t.at P ≠ 2) (hd : down = ((Q / t.wide : Nat) : Int) - (P / t.wide : Nat)) (hr : right = ((Q % t.wide : Nat) : Int) - (P % t.wide : Nat)) :
    Hr.stepI t wind P Q = if down * down + right * right ≠ 1 then 0 else (if Hr.stepI.alongI wind down right = -1 then 4 else if Hr.stepI.alongI wind down right = 1 then 1 else 2) + t.at Q % 2 := by
  unfold Hr.stepI
  rw [if_neg (by omega), ← hd, ← hr]

set_option maxHeartbeats 2000000 in
theorem refStep_any (t : Hr.Town) (ok : t.Ok) (wind p q : Int) (b o cap : Nat) (w : World) (hI : Ints w b o t.plots) :
    Calls Tryz.prog 97 #[.agg #[.int .i64 t.wide, .slice (some ⟨b, o, none⟩) t.plots.length cap], .int .i64 wind, .int .i64 p, .int .i64 q] w fun e w' => e = .returned (.int .i64 (stepZ t wind p q)) ∧ Below w.heap.size w w' := by
  have HB := Lib.hid (below1 w (.cells #[.int .i64 t.wide, .slice (some ⟨b, o, none⟩) t.plots.length cap] 64))
  have HI := Lib.hid (hI.below HB.out hI.1)
  have hn30 : t.plots.length ≤ 30 := ok.n30
  have hn1 : 1 ≤ t.plots.length := ok.n1
  have hlen : t.len = t.plots.length := rfl
  clear hI
  by_cases h1 : q < 0 ∨ (t.plots.length : Int) - 1 < q
  · have hr : stepZ t wind p q = 0 := by unfold stepZ; rw [hlen, if_pos (by omega)]
    rw [hr]
    clear hr hlen
    go_enter Tryz.func97, Tryz.ntmps97
    go_wp2_with fail
    refine (off_any _ _ _ _ true (offB_yes h1)).mono ?_
    rintro e w' ⟨rfl, rfl⟩
    go_wp2
    go_ret
    exact ⟨rfl, HB.out⟩
  · by_cases h2 : p < 0 ∨ (t.plots.length : Int) - 1 < p
    · have hr : stepZ t wind p q = 0 := by unfold stepZ; rw [hlen, if_pos (by omega)]
      rw [hr]
      clear hr hlen
      go_enter Tryz.func97, Tryz.ntmps97
      go_wp2_with fail
      refine (off_any _ _ _ _ false (offB_no (by omega) (by omega))).mono ?_
      rintro e w' ⟨rfl, rfl⟩
      go_wp2_with fail
      refine (off_any _ _ _ _ true (offB_yes h2)).mono ?_
      rintro e w' ⟨rfl, rfl⟩
      go_wp2
      go_ret
      exact ⟨rfl, HB.out⟩
    · obtain ⟨Q, rfl⟩ : ∃ Q : Nat, q = Q := ⟨q.toNat, by omega⟩
      obtain ⟨P, rfl⟩ : ∃ P : Nat, p = P := ⟨p.toNat, by omega⟩
      have hQ : Q < t.plots.length := by omega
      have hP : P < t.plots.length := by omega
      have hQ' : (Q : Int) < t.plots.length := by omega
      have hP' : (P : Int) < t.plots.length := by omega
      have hr : stepZ t wind P Q = Hr.stepI t wind P Q := by unfold stepZ; rw [hlen, if_neg (by omega)]; simp
      have cq := HI.out.2 Q hQ
      have cp := HI.out.2 P hP
      have hkq := ok.kinds Q hQ
      obtain ⟨xq, hxq⟩ : ∃ x, x = t.plots.getD Q 0 := ⟨_, rfl⟩
      obtain ⟨xp, hxp⟩ : ∃ x, x = t.plots.getD P 0 := ⟨_, rfl⟩
      have haq : t.at Q = xq := hxq.symm
      have hap : t.at P = xp := hxp.symm
      rw [haq] at hkq
      rw [← hxq] at cq
      rw [← hxp] at cp
      rw [hr]
      clear hxq hxp h1 h2
      by_cases h3 : xq = 2
      · have hr0 : Hr.stepI t wind P Q = 0 := by unfold Hr.stepI; rw [if_pos (by left; rw [haq]; exact h3)]
        rw [hr0]
        subst h3
        clear hr0 hr haq hap hkq hlen
        go_enter Tryz.func97, Tryz.ntmps97
        go_wp2_with fail
        refine (off_any _ _ _ _ false (offB_no (by omega) (by omega))).mono ?_
        rintro e w' ⟨rfl, rfl⟩
        go_wp2_with fail
        refine (off_any _ _ _ _ false (offB_no (by omega) (by omega))).mono ?_
        rintro e w' ⟨rfl, rfl⟩
        go_wp2
        go_ret
        exact ⟨rfl, HB.out⟩
      · have h3' : (xq == 2) = false := by simpa using h3
        by_cases h4 : xp = 2
        · have hr0 : Hr.stepI t wind P Q = 0 := by unfold Hr.stepI; rw [if_pos (by right; rw [hap]; exact h4)]
          rw [hr0]
          subst h4
          clear hr0 hr haq hap hkq hlen h3
          go_enter Tryz.func97, Tryz.ntmps97
          go_wp2_with fail
          refine (off_any _ _ _ _ false (offB_no (by omega) (by omega))).mono ?_
          rintro e w' ⟨rfl, rfl⟩
          go_wp2_with fail
          refine (off_any _ _ _ _ false (offB_no (by omega) (by omega))).mono ?_
          rintro e w' ⟨rfl, rfl⟩
          go_wp2
          go_ret
          exact ⟨rfl, HB.out⟩
        · have h4' : (xp == 2) = false := by simpa using h4
          have hmix := fun down right => step_mix t wind P Q down right (by rw [haq]; exact h3) (by rw [hap]; exact h4)
          rw [haq] at hmix
          have w1 := ok.w1
          have w6 := ok.w6
          obtain ⟨W, hW⟩ : ∃ W, W = t.wide := ⟨_, rfl⟩
          rw [← hW] at w1 w6 hmix HB HI cq cp ⊢
          have hdq : 0 ≤ (Q : Int) / (W : Int) ∧ (Q : Int) / (W : Int) ≤ 30 := ⟨Int.ediv_nonneg (by omega) (by omega), by have := Int.ediv_le_self (a := (Q : Int)) (W : Int) (by omega); omega⟩
          have hdp : 0 ≤ (P : Int) / (W : Int) ∧ (P : Int) / (W : Int) ≤ 30 := ⟨Int.ediv_nonneg (by omega) (by omega), by have := Int.ediv_le_self (a := (P : Int)) (W : Int) (by omega); omega⟩
          have hmq : 0 ≤ (Q : Int) % (W : Int) ∧ (Q : Int) % (W : Int) ≤ 5 := ⟨Int.emod_nonneg _ (by omega), by have := Int.emod_lt_of_pos (Q : Int) (b := (W : Int)) (by omega); omega⟩
          have hmp : 0 ≤ (P : Int) % (W : Int) ∧ (P : Int) % (W : Int) ≤ 5 := ⟨Int.emod_nonneg _ (by omega), by have := Int.emod_lt_of_pos (P : Int) (b := (W : Int)) (by omega); omega⟩
          obtain ⟨dq1, dq2⟩ := hdq
          obtain ⟨dp1, dp2⟩ := hdp
          obtain ⟨mq1, mq2⟩ := hmq
          obtain ⟨mp1, mp2⟩ := hmp
          have HMIX := Lib.hid hmix
          have hW1 : (1 : Int) ≤ W := by omega
          have hz : ((W : Int) == 0) = false := by simp; omega
          clear hmix haq hap hr hW hlen h3 h4
          go_enter Tryz.func97, Tryz.ntmps97
          go_wp2_with fail
          refine (off_any _ _ _ _ false (offB_no (by omega) (by omega))).mono ?_
          rintro e w' ⟨rfl, rfl⟩
          go_wp2_with fail
          refine (off_any _ _ _ _ false (offB_no (by omega) (by omega))).mono ?_
          rintro e w' ⟨rfl, rfl⟩
          go_wp2
          go_quiet (fail)
          go_wp2
          go_quiet (fail)
          obtain ⟨down, hdown⟩ : ∃ d, d = (Q : Int) / (W : Int) - (P : Int) / (W : Int) := ⟨_, rfl⟩
          obtain ⟨right, hright⟩ : ∃ d, d = (Q : Int) % (W : Int) - (P : Int) % (W : Int) := ⟨_, rfl⟩
          rw [← hdown, ← hright]
          have hm := HMIX.out down right (by rw [hdown, Int.natCast_ediv, Int.natCast_ediv]) (by rw [hright, Int.natCast_emod, Int.natCast_emod])
          have b1 : -30 ≤ down ∧ down ≤ 30 := by omega
          have b2 : -5 ≤ right ∧ right ≤ 5 := by omega
          have sq : ∀ x : Int, -30 ≤ x → x ≤ 30 → 0 ≤ x * x ∧ x * x ≤ 900 := by
            intro x h1 h2
            have h3 := Int.mul_nonneg (show 0 ≤ 30 - x by omega) (show 0 ≤ 30 + x by omega)
            have h4 : (30 - x) * (30 + x) = 900 - x * x := by rw [Int.sub_mul, Int.mul_add, Int.mul_add, Int.mul_comm x 30]; omega
            refine ⟨?_, by omega⟩
            rcases Int.le_total 0 x with h | h
            · exact Int.mul_nonneg h h
            · exact Int.mul_nonneg_of_nonpos_of_nonpos h h
          obtain ⟨s1, s2⟩ := sq down b1.1 b1.2
          obtain ⟨s3, s4⟩ := sq right (by omega) (by omega)
          have HM := Lib.hid hm
          obtain ⟨b11, b12⟩ := b1
          obtain ⟨b21, b22⟩ := b2
          clear HMIX hdown hright hm sq dq1 dq2 dp1 dp2 mq1 mq2 mp1 mp2
          by_cases hne : down * down + right * right = 1
          · have hne' : (down * down + right * right != 1) = false := by simpa using hne
            have hdr : (down = -1 ∨ down = 0 ∨ down = 1) ∧ (right = -1 ∨ right = 0 ∨ right = 1) := by
              obtain ⟨q1, q2⟩ := sq_small (x := down) (by omega)
              obtain ⟨q3, q4⟩ := sq_small (x := right) (by omega)
              omega
            obtain ⟨al, hal⟩ : ∃ al, al = Hr.stepI.alongI wind down right := ⟨_, rfl⟩
            rw [if_neg (by rw [hne]; simp), ← hal] at HM
            have HAL := Lib.hid hal
            have HNE := Lib.hid hne
            have mq : 0 ≤ xq % 2 ∧ xq % 2 ≤ 1 := by omega
            have xq0 : 0 ≤ xq := by omega
            obtain ⟨mq1, mq2⟩ := mq
            clear hal hne
            obtain ⟨hd3, hr3⟩ := hdr
            have hw : wind = 1 ∨ wind = 2 ∨ wind = 3 ∨ wind = 4 ∨ (wind ≠ 1 ∧ wind ≠ 2 ∧ wind ≠ 3 ∧ wind ≠ 4) := by omega
            have hfin : ∀ (e : Ending) (w' : World) (n : Int), n = (if al = -1 then 4 else if al = 1 then 1 else 2) → e = .returned (.int .i64 (n + xq % 2)) → Below w.heap.size w w' → e = .returned (.int .i64 (Hr.stepI t wind P Q)) ∧ Below w.heap.size w w' := fun e w' n hn he hB => ⟨by rw [he, HM.out, hn], hB⟩
            have HFIN := Lib.hid hfin
            clear hfin
            rcases hw with rfl | rfl | rfl | rfl | ⟨hw1, hw2, hw3, hw4⟩
            · rcases hd3 with rfl | rfl | rfl
              · have HA : Hid (al = 1) := Lib.hid (by rw [HAL.out]; rfl)
                go_wp2
                go_ret
                exact HFIN.out _ _ 1 (by rw [HA.out]; decide) rfl (below_drewN' HB.out _)
              · have HA : Hid (al = 0) := Lib.hid (by rw [HAL.out]; rfl)
                go_wp2
                go_ret
                exact HFIN.out _ _ 2 (by rw [HA.out]; decide) rfl (below_drewN' HB.out _)
              · have HA : Hid (al = -1) := Lib.hid (by rw [HAL.out]; rfl)
                go_wp2
                go_ret
                exact HFIN.out _ _ 4 (by rw [HA.out]; decide) rfl (below_drewN' HB.out _)
            · rcases hr3 with rfl | rfl | rfl
              · have HA : Hid (al = -1) := Lib.hid (by rw [HAL.out]; rfl)
                go_wp2
                go_ret
                exact HFIN.out _ _ 4 (by rw [HA.out]; decide) rfl (below_drewN' HB.out _)
              · have HA : Hid (al = 0) := Lib.hid (by rw [HAL.out]; rfl)
                go_wp2
                go_ret
                exact HFIN.out _ _ 2 (by rw [HA.out]; decide) rfl (below_drewN' HB.out _)
              · have HA : Hid (al = 1) := Lib.hid (by rw [HAL.out]; rfl)
                go_wp2
                go_ret
                exact HFIN.out _ _ 1 (by rw [HA.out]; decide) rfl (below_drewN' HB.out _)
            · rcases hd3 with rfl | rfl | rfl
              · have HA : Hid (al = -1) := Lib.hid (by rw [HAL.out]; rfl)
                go_wp2
                go_ret
                exact HFIN.out _ _ 4 (by rw [HA.out]; decide) rfl (below_drewN' HB.out _)
              · have HA : Hid (al = 0) := Lib.hid (by rw [HAL.out]; rfl)
                go_wp2
                go_ret
                exact HFIN.out _ _ 2 (by rw [HA.out]; decide) rfl (below_drewN' HB.out _)
              · have HA : Hid (al = 1) := Lib.hid (by rw [HAL.out]; rfl)
                go_wp2
                go_ret
                exact HFIN.out _ _ 1 (by rw [HA.out]; decide) rfl (below_drewN' HB.out _)
            · rcases hr3 with rfl | rfl | rfl
              · have HA : Hid (al = 1) := Lib.hid (by rw [HAL.out]; rfl)
                go_wp2
                go_ret
                exact HFIN.out _ _ 1 (by rw [HA.out]; decide) rfl (below_drewN' HB.out _)
              · have HA : Hid (al = 0) := Lib.hid (by rw [HAL.out]; rfl)
                go_wp2
                go_ret
                exact HFIN.out _ _ 2 (by rw [HA.out]; decide) rfl (below_drewN' HB.out _)
              · have HA : Hid (al = -1) := Lib.hid (by rw [HAL.out]; rfl)
                go_wp2
                go_ret
                exact HFIN.out _ _ 4 (by rw [HA.out]; decide) rfl (below_drewN' HB.out _)
            · have v1 : (wind == 1) = false := by simpa using hw1
              have v2 : (wind == 2) = false := by simpa using hw2
              have v3 : (wind == 3) = false := by simpa using hw3
              have v4 : (wind == 4) = false := by simpa using hw4
              have HA : Hid (al = 0) := Lib.hid (by rw [HAL.out]; unfold Hr.stepI.alongI; rw [if_neg hw1, if_neg hw2, if_neg hw3, if_neg hw4])
              clear hw1 hw2 hw3 hw4
              go_wp2
              go_ret
              exact HFIN.out _ _ 2 (by rw [HA.out]; decide) rfl (below_drewN' HB.out _)
          · have hne' : (down * down + right * right != 1) = true := by simpa using hne
            have HNE := Lib.hid hne
            rw [if_pos hne] at HM
            clear hne
            go_wp2
            go_ret
            exact ⟨by rw [HM.out]; rfl, below_drewN' HB.out _⟩
end Go.Proofs.YtimedmkpenbmkaaGreat
