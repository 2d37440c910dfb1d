import Derived.Test.YtimedmkpenbmkaaGreatLeaf
import Derived.Test.YtimedmkpenbmkaaGreatRl
import Derived.Sort.BigQuietIn
namespace Go.Proofs.YtimedmkpenbmkaaGreat
open Go.RowKit Go.Shelf
attribute [local go_sem] Oper.semAt_some
set_option linter.unusedSimpArgs false
set_option linter.unusedVariables false

def towOf (wd : Int) (xs : List Int) : Hr.Town := ⟨wd.toNat, xs⟩

/-- what a closure that yields the plots around one has captured -/
structure ArCap (w : World) (wd wind voice : Int) (b o cap r : Nat) (cf : Value) (xs : List Int) (p : Nat) (A1 A2 A3 : Nat) : Prop where
  bar : w.cell? ⟨A1, 0, none⟩ = some (.func (.func 153) #[.agg #[.int .i64 wd, .slice (some ⟨b, o, none⟩) xs.length cap, .int .i64 wind, .int .i64 voice, .map (some r), cf]] #[])
  plot : w.cell? ⟨A2, 0, none⟩ = some (.int .i64 p)
  wd : w.cell? ⟨A3, 0, none⟩ = some (.int .i64 wd)
  pl : w.cell? ⟨A3, 1, none⟩ = some (.slice (some ⟨b, o, none⟩) xs.length cap)
  goes : w.cell? ⟨A3, 4, none⟩ = some (.map (some r))
  ints : Ints w b o xs
  dir : DirMap w r

theorem below_drewN {B : Nat} {a w : World} (h : Below B a w) (n : Nat) : Below B a (w.drewN n) := ⟨h.os, h.tape, h.output, h.size, h.block⟩
/-- the element that a round is handed -/
abbrev ArEl (t : Hr.Town) (p : Nat) := { x : Nat × (Int × Int) // x ∈ t.around p }
abbrev arEnc {t : Hr.Town} {p : Nat} (x : ArEl t p) : Array Value := #[.int .i64 x.1.1, .agg #[.int .i64 x.1.2.1, .int .i64 x.1.2.2]]
/-- what has come before the wind d -/
def arUpto (t : Hr.Town) (p : Nat) (d : Int) : List (Nat × (Int × Int)) := (([1, 2, 3, 4] : List Int).filter (· < d)).filterMap (t.aroundAt p)

theorem arUpto_succ (t : Hr.Town) (p : Nat) (d : Int) (h1 : 1 ≤ d) (h4 : d ≤ 4) : arUpto t p (d + 1) = arUpto t p d ++ (t.aroundAt p d).toList := by
  have : d = 1 ∨ d = 2 ∨ d = 3 ∨ d = 4 := by omega
  rcases this with rfl | rfl | rfl | rfl <;> simp [arUpto, List.filterMap_cons]
  all_goals
    cases t.aroundAt p 1 <;> cases t.aroundAt p 2 <;> cases t.aroundAt p 3 <;> cases t.aroundAt p 4 <;> simp
theorem arUpto_five (t : Hr.Town) (p : Nat) (h : ¬ t.wall p = true) : arUpto t p 5 = t.around p := by
  unfold arUpto Hr.Town.around; rw [if_neg h]; rfl
theorem arUpto_len (t : Hr.Town) (p : Nat) (d : Int) (h1 : 1 ≤ d) (h4 : d ≤ 4) (h : ¬ t.wall p = true) {x} (hx : t.aroundAt p d = some x) : (arUpto t p d).length < (t.around p).length := by
  have e1 := arUpto_succ t p 1 (by omega) (by omega)
  have e2 := arUpto_succ t p 2 (by omega) (by omega)
  have e3 := arUpto_succ t p 3 (by omega) (by omega)
  have e4 := arUpto_succ t p 4 (by omega) (by omega)
  rw [← arUpto_five t p h]
  have l1 := congrArg List.length e1
  have l2 := congrArg List.length e2
  have l3 := congrArg List.length e3
  have l4 := congrArg List.length e4
  simp only [List.length_append, Int.reduceAdd] at l1 l2 l3 l4
  have hx' : (t.aroundAt p d).toList.length = 1 := by rw [hx]; rfl
  have : d = 1 ∨ d = 2 ∨ d = 3 ∨ d = 4 := by omega
  rcases this with rfl | rfl | rfl | rfl <;> omega
theorem aroundAt_mem {t : Hr.Town} {p : Nat} {d : Int} (h1 : 1 ≤ d) (h4 : d ≤ 4) (h : ¬ t.wall p = true) {x} (hx : t.aroundAt p d = some x) : x ∈ t.around p := by
  unfold Hr.Town.around
  rw [if_neg h, List.mem_filterMap]
  exact ⟨d, by simp; omega, hx⟩

theorem ArCap.lt {w : World} {wd wind voice : Int} {b o cap r : Nat} {cf : Value} {xs : List Int} {p A1 A2 A3 : Nat} (h : ArCap w wd wind voice b o cap r cf xs p A1 A2 A3) : A1 < w.heap.size ∧ A2 < w.heap.size ∧ A3 < w.heap.size ∧ b < w.heap.size ∧ r < w.heap.size := by
  obtain ⟨_, h1, _⟩ := cells_of_cell h.bar
  obtain ⟨_, h2, _⟩ := cells_of_cell h.plot
  obtain ⟨_, h3, _⟩ := cells_of_cell h.wd
  exact ⟨(Array.getElem?_eq_some_iff.1 h1).1, (Array.getElem?_eq_some_iff.1 h2).1, (Array.getElem?_eq_some_iff.1 h3).1, h.ints.1, (Array.getElem?_eq_some_iff.1 h.dir).1⟩

theorem ArCap.hold {Kp : Nat → Prop} {w w' : World} {wd wind voice : Int} {b o cap r : Nat} {cf : Value} {xs : List Int} {p A1 A2 A3 : Nat} (h : ArCap w wd wind voice b o cap r cf xs p A1 A2 A3) (hb : Hold Kp w w') (hA : Kp A1 ∧ Kp A2 ∧ Kp A3 ∧ Kp b ∧ Kp r) : ArCap w' wd wind voice b o cap r cf xs p A1 A2 A3 :=
  have hl := h.lt
  ⟨(hb.cell (p := ⟨A1, 0, none⟩) hA.1 hl.1).trans h.bar, (hb.cell (p := ⟨A2, 0, none⟩) hA.2.1 hl.2.1).trans h.plot, (hb.cell (p := ⟨A3, 0, none⟩) hA.2.2.1 hl.2.2.1).trans h.wd, (hb.cell (p := ⟨A3, 1, none⟩) hA.2.2.1 hl.2.2.1).trans h.pl,
    (hb.cell (p := ⟨A3, 4, none⟩) hA.2.2.1 hl.2.2.1).trans h.goes, ⟨Nat.lt_of_lt_of_le hl.2.2.2.1 hb.size, fun i hi => (hb.cell (p := ⟨b, o + i, none⟩) hA.2.2.2.1 hl.2.2.2.1).trans (h.ints.2 i hi)⟩, (hb.same r hA.2.2.2.2 hl.2.2.2.2).trans h.dir⟩

theorem ArCap.below {w w' : World} {wd wind voice : Int} {b o cap r : Nat} {cf : Value} {xs : List Int} {p A1 A2 A3 : Nat} (h : ArCap w wd wind voice b o cap r cf xs p A1 A2 A3) (hb : Below w.heap.size w w') : ArCap w' wd wind voice b o cap r cf xs p A1 A2 A3 :=
  h.hold (Kp := fun _ => True) (.of_below hb (fun _ _ hl => hl)) ⟨trivial, trivial, trivial, trivial, trivial⟩

set_option maxHeartbeats 1000000 in
set_option maxRecDepth 100000 in
theorem around1_in (n : Nat) (l : Nat) (Kp : Nat → Prop) (t : Hr.Town) (hok : t.Ok) (wind voice : Int) (b o cap r : Nat) (cf : Value) (p A1 A2 A3 : Nat) (hp : p < t.len)
    (hA : Kp A1 ∧ Kp A2 ∧ Kp A3 ∧ Kp b ∧ Kp r)
    (J Jx : List (ArEl t p) → World → Prop)
    (hY : ∀ pre x W, J pre W → pre.length < (t.around p).length → YieldAt Fence.wide (n - 1) Tryz.prog l (arEnc x) W fun e W' =>
      (e = .returned (.bool true) ∧ J (pre ++ [x]) W' ∧ Hold Kp W W') ∨ (e = .returned (.bool false) ∧ Jx (pre ++ [x]) W' ∧ Hold Kp W W'))
    (W : World) (hC : ArCap W t.wide wind voice b o cap r cf t.plots p A1 A2 A3) (h0 : J [] W) (hab : Low W.heap.size J) :
    CallsIn Fence.wide n Tryz.prog 160 #[.func (.yield l) #[] #[], .pointer (some ⟨A1, 0, none⟩), .pointer (some ⟨A2, 0, none⟩), .pointer (some ⟨A3, 0, none⟩)] W fun e W' => (∃ v, e = .returned v) ∧
      ((∃ ys : List (ArEl t p), ys.map (·.1) = t.around p ∧ J ys W') ∨ (∃ pre, Jx pre W')) := by
  refine callsIn_of_wp Tryz.func160 rfl trivial ?_ rfl
  simp only [Tryz.ntmps160, List.size_toArray, List.length_cons, List.length_nil, Nat.reduceAdd, Nat.reduceSub, Array.replicate_succ, Array.replicate_zero, List.push_toArray, List.append_toArray, List.nil_append, List.cons_append]
  have c1 := hC.bar
  have c2 := hC.plot
  have h30 := hok.n30
  by_cases hwl : t.wall p = true
  · have hwl' : (t.plots.getD p 0 == 2) = true := hwl
    have har : t.around p = [] := by unfold Hr.Town.around; rw [if_pos hwl]
    have HAR := Lib.hid har
    clear har
    gi_wp2_with fail
    refine ⟨trivial, (fun h => by cases h), ?_⟩
    refine (callsIn_wide.2 (wall_any _ _ _ _ _ _ _ _ _ _ _ hp (show t.len ≤ 40 by omega) hC.ints)).mono ?_
    rintro e W1 ⟨rfl, hB1⟩
    rw [hwl']
    have hJ1 : J [] W1 := hab _ _ _ h0 hB1
    gi_wp2
    refine bodyPost_ret (results_none rfl _ _ _) rfl ?_
    exact ⟨⟨_, rfl⟩, .inl ⟨[], HAR.out.symm, hJ1⟩⟩
  · have hwl' : (t.plots.getD p 0 == 2) = false := Bool.eq_false_iff.2 hwl
    have HW := Lib.hid hwl
    clear hwl
    gi_wp2_with fail
    refine ⟨trivial, (fun h => by cases h), ?_⟩
    refine (callsIn_wide.2 (wall_any _ _ _ _ _ _ _ _ _ _ _ hp (show t.len ≤ 40 by omega) hC.ints)).mono ?_
    rintro e W1 ⟨rfl, hB1⟩
    rw [hwl']
    have hJ1 : J [] W1 := hab _ _ _ h0 hB1
    have hC1 := hC.below hB1
    have c3 := hC1.wd
    have c4 := hC1.pl
    have c5 := hC1.goes
    have c2' := hC1.plot
    clear c1 c2
    have hw1 : (1 : Int) ≤ t.wide := by have := hok.w1; omega
    have hw0 : ((t.wide : Int) == 0) = false := by simp; omega
    have hw6 : (t.wide : Int) ≤ 6 := by have := hok.w6; omega
    obtain ⟨rws, hrws⟩ : ∃ k, k = t.rows := ⟨_, rfl⟩
    have hrwd : ((t.plots.length : Int) / (t.wide : Int)) = (rws : Int) := by rw [hrws]; exact (Int.natCast_ediv _ _).symm
    have hr30 : rws ≤ 30 := by rw [hrws]; exact Nat.le_trans (Nat.div_le_self _ _) h30
    obtain ⟨pr, hpr⟩ : ∃ k, k = p / t.wide := ⟨_, rfl⟩
    obtain ⟨pc, hpc⟩ : ∃ k, k = p % t.wide := ⟨_, rfl⟩
    have hprd : ((p : Int) / (t.wide : Int)) = (pr : Int) := by rw [hpr]; exact (Int.natCast_ediv _ _).symm
    have hpcd : ((p : Int) % (t.wide : Int)) = (pc : Int) := by rw [hpc]; exact (Int.natCast_emod _ _).symm
    have hpr30 : pr ≤ 30 := by rw [hpr]; exact Nat.le_trans (Nat.div_le_self _ _) (by omega)
    have hpc6 : pc ≤ 6 := by have := Nat.mod_lt p (show 0 < t.wide from hok.w1); rw [hpc]; omega
    have HRWS := Lib.hid hrws
    have HPR := Lib.hid hpr
    have HPC := Lib.hid hpc
    clear hrws hpr hpc
    gi_wp2
    gi_loopw [6] (fun d wr => ∃ dd : Int, d = .int .i64 dd ∧ 1 ≤ dd ∧ dd ≤ 5 ∧ ∃ pre : List (ArEl t p), pre.map (·.1) = arUpto t p dd ∧ J pre wr ∧ ArCap wr t.wide wind voice b o cap r cf t.plots p A1 A2 A3 ∧ W.heap.size ≤ wr.heap.size) (fun d _ => (5 - intOf d).toNat)
    case atStart => exact ⟨1, rfl, by omega, by omega, [], by simp [arUpto], hJ1, hC1, hB1.size⟩
    case round =>
      obtain ⟨dd, rfl, hd1, hd5, pre, hpre, hJ, hCr, hsz⟩ := hrel
      have HPRE := Lib.hid hpre
      clear hpre
      have hltr := hCr.lt
      clear c3 c4 c5 c2'
      have c3 := hCr.wd
      have c4 := hCr.pl
      have c5 := hCr.goes
      have c2 := hCr.plot
      by_cases hlt : dd ≤ 4
      · have hlk := look_dir hCr.dir dd (by omega) hlt
        have hbd := stepOf_bd dd
        obtain ⟨s1, hs1⟩ : ∃ k, k = (Hr.stepOf dd).1 := ⟨_, rfl⟩
        obtain ⟨s2, hs2⟩ : ∃ k, k = (Hr.stepOf dd).2 := ⟨_, rfl⟩
        rw [← hs1, ← hs2] at hlk hbd
        have HS1 := Lib.hid hs1
        have HS2 := Lib.hid hs2
        clear hs1 hs2
        have hA3' : A3 < wr.heap.size := by omega
        have hA2' : A2 < wr.heap.size := by omega
        have hB1' : ∀ o' nq, Below wr.heap.size wr ((wr.alloc o').drewN nq) := fun o' nq => below_drewN (below1 wr o') nq
        have e3 : ∀ o', (wr.alloc o').cell? ⟨A3, 0, none⟩ = some (.int .i64 t.wide) := fun o' => by rw [(below1 wr o').cell (p := ⟨A3, 0, none⟩) hA3']; exact c3
        have e2 : ∀ o', (wr.alloc o').cell? ⟨A2, 0, none⟩ = some (.int .i64 p) := fun o' => by rw [(below1 wr o').cell (p := ⟨A2, 0, none⟩) hA2']; exact c2
        have c1 := hCr.bar
        have hA1' : A1 < wr.heap.size := by omega
        have e1 : ∀ o', (wr.alloc o').cell? ⟨A1, 0, none⟩ = wr.cell? ⟨A1, 0, none⟩ := fun o' => (below1 wr o').cell (p := ⟨A1, 0, none⟩) hA1'
        have hrow : ((p / t.wide : Nat) : Int) + (Hr.stepOf dd).1 = (pr : Int) + s1 := by rw [HS1.out, HPR.out]
        have hcol : ((p % t.wide : Nat) : Int) + (Hr.stepOf dd).2 = (pc : Int) + s2 := by rw [HS2.out, HPC.out]
        have HROW := Lib.hid hrow
        have HCOL := Lib.hid hcol
        clear hrow hcol
        by_cases hin : 0 ≤ (pr : Int) + s1 ∧ (pr : Int) + s1 < rws ∧ 0 ≤ (pc : Int) + s2 ∧ (pc : Int) + s2 < t.wide
        · obtain ⟨hi1, hi2, hi3, hi4⟩ := hin
          obtain ⟨rr, hrr⟩ := Int.eq_ofNat_of_zero_le hi1
          obtain ⟨cc, hcc⟩ := Int.eq_ofNat_of_zero_le hi3
          obtain ⟨mm, hmm⟩ : ∃ mm : Nat, mm = rr * t.wide := ⟨_, rfl⟩
          have hmul : (rr : Int) * (t.wide : Int) = (mm : Int) := by rw [hmm]; exact (Int.natCast_mul _ _).symm
          have hmm2 : mm ≤ 30 * 6 := by rw [hmm]; exact Nat.mul_le_mul (by omega) (by omega)
          obtain ⟨q, hq⟩ : ∃ q : Nat, q = mm + cc := ⟨_, rfl⟩
          have hqa : (mm : Int) + (cc : Int) = (q : Int) := by omega
          have hnb : t.nbr p (Hr.stepOf dd) = some q := by
            unfold Hr.Town.nbr
            rw [HROW.out, HCOL.out, hrr, hcc, ← HRWS.out]
            simp only
            rw [if_neg (by omega), hq, hmm]; rfl
          have hql : q < t.len := Hr.nbr_lt hok hnb
          rw [hrr] at hi1 hi2
          rw [hcc] at hi3 hi4
          have HMM := Lib.hid hmm
          have HQ := Lib.hid hq
          have HNB := Lib.hid hnb
          clear hmm hq hnb
          by_cases hwq : t.wall q = true
          · have hat : t.aroundAt p dd = none := by unfold Hr.Town.aroundAt; rw [HNB.out]; simp [hwq]
            have HAT := Lib.hid hat
            have hwq' : (t.plots.getD q 0 == 2) = true := hwq
            clear hat hwq
            gi_wp2
            refine wpIn_wide.2 ?_
            go_quiet (fail)
            gi_wp2
            refine ⟨trivial, (fun h => by cases h), ?_⟩
            refine (callsIn_wide.2 (wall_any _ _ _ _ _ _ _ _ _ _ _ hql (show t.len ≤ 40 by omega) (hCr.ints.below (hB1' _ _) (by omega)))).mono ?_
            rintro e w2 ⟨rfl, hB2⟩
            rw [hwq']
            have hBx : Below wr.heap.size wr w2 := (hB1' _ _).trans (hB2.mono (by simp))
            have hJ2 : J pre w2 := hab _ _ _ hJ (hBx.mono hsz)
            clear hB2
            gi_wp2
            refine ⟨fun _ h => (by cases h), ?_⟩
            gi_wp2
            go_roundw
            case rel => exact ⟨dd + 1, by go_num, by omega, by omega, pre, by rw [HPRE.out, arUpto_succ t p dd hd1 hlt, HAT.out]; simp, hJ2, hCr.below hBx, Nat.le_trans hsz hBx.size⟩
            case measure => simp [intOf]; omega
          · have hat : t.aroundAt p dd = some (q, Hr.stepOf dd) := by unfold Hr.Town.aroundAt; rw [HNB.out]; simp [hwq]
            have hwq' : (t.plots.getD q 0 == 2) = false := Bool.eq_false_iff.2 hwq
            have hmem := aroundAt_mem hd1 hlt HW.out hat
            have hlen : pre.length < (t.around p).length := by
              have h := arUpto_len t p dd hd1 hlt HW.out hat
              rw [← HPRE.out, List.length_map] at h
              exact h
            have HAT := Lib.hid hat
            clear hat hwq
            gi_wp2
            refine wpIn_wide.2 ?_
            go_quiet (fail)
            gi_wp2
            refine ⟨trivial, (fun h => by cases h), ?_⟩
            refine (callsIn_wide.2 (wall_any _ _ _ _ _ _ _ _ _ _ _ hql (show t.len ≤ 40 by omega) (hCr.ints.below (hB1' _ _) (by omega)))).mono ?_
            rintro e w2 ⟨rfl, hB2⟩
            rw [hwq']
            have hBx : Below wr.heap.size wr w2 := (hB1' _ _).trans (hB2.mono (by simp))
            have hJ2 : J pre w2 := hab _ _ _ hJ (hBx.mono hsz)
            have hst1 : w2.cell? ⟨wr.heap.size, 0, none⟩ = some (.int .i64 s1) := by rw [hB2.cell (p := ⟨wr.heap.size, 0, none⟩) (by simp)]; simp
            have hst2 : w2.cell? ⟨wr.heap.size, 1, none⟩ = some (.int .i64 s2) := by rw [hB2.cell (p := ⟨wr.heap.size, 1, none⟩) (by simp)]; simp
            clear hB2
            obtain ⟨fn, tmps, assign, body, hy, hR⟩ := hY pre ⟨_, hmem⟩ w2 hJ2 hlen
            unfold arEnc at hy
            dsimp only at hy
            rw [← HS1.out, ← HS2.out] at hy
            gi_wp2
            refine ⟨(fun h => by cases h), hR.mono ?_⟩
            rintro e W3 (⟨rfl, hJ3, hk3⟩ | ⟨rfl, hJx3, hk3⟩)
            · gi_wp2
              go_roundw
              case rel => exact ⟨dd + 1, by go_num, by omega, by omega, _, by rw [List.map_append, HPRE.out, arUpto_succ t p dd hd1 hlt, HAT.out]; rfl, hJ3, (hCr.below hBx).hold hk3 hA, Nat.le_trans hsz (Nat.le_trans hBx.size hk3.size)⟩
              case measure => simp [intOf]; omega
            · gi_wp2
              refine bodyPost_ret (results_none rfl _ _ _) rfl ?_
              exact ⟨⟨_, rfl⟩, .inr ⟨_, hJx3⟩⟩
        · have hat : t.aroundAt p dd = none := by
            unfold Hr.Town.aroundAt Hr.Town.nbr
            rw [HROW.out, HCOL.out, ← HRWS.out]
            simp only
            rw [if_pos (by omega)]
          have HAT := Lib.hid hat
          clear hat
          gi_wp2
          refine wpIn_wide.2 ?_
          go_quiet (fail)
          gi_wp2
          all_goals try (exfalso; omega)
          all_goals
            have hBx : Below wr.heap.size wr ((wr.alloc (.cells #[.int .i64 s1, .int .i64 s2] 186)).drewN nq) := hB1' _ _
            have hJ2 := hab _ _ _ hJ (hBx.mono hsz)
            go_roundw
            case rel => exact ⟨dd + 1, by go_num, by omega, by omega, pre, by rw [HPRE.out, arUpto_succ t p dd hd1 hlt, HAT.out]; simp, hJ2, hCr.below hBx, Nat.le_trans hsz hBx.size⟩
            case measure => simp [intOf]; omega
      · obtain rfl : dd = 5 := by omega
        gi_wp2
        go_end0
        exact ⟨⟨_, rfl⟩, .inl ⟨pre, by rw [HPRE.out, arUpto_five t p HW.out], hJ⟩⟩
end Go.Proofs.YtimedmkpenbmkaaGreat
