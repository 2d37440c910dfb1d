import Derived.Test.YtimedmkpenbmkaaGreatBase
import Derived.Deep.RegionWith
namespace Go.Proofs.YtimedmkpenbmkaaGreat
open Go.RowKit
set_option linter.unusedSimpArgs false
set_option linter.unusedVariables false

def plotErr (xs : List Int) (p k : Int) : Int := if p < 0 ∨ (xs.length : Int) ≤ p then 1 else if xs.getD p.toNat 0 = k then 0 else 8
def reachErr (xs : List Int) (p : Int) : Int := if p < 0 ∨ (xs.length : Int) ≤ p then 1 else if xs.getD p.toNat 0 = -1 then 6 else 0
theorem below1 (w : World) (o : Obj) : Below w.heap.size w (w.alloc o) := (Below.refl _ _).alloc (Nat.le_refl _) _
theorem Ints.at {w : World} {b o : Nat} {xs : List Int} (h : Ints w b o xs) {q : Nat} (hq : q < xs.length) : ∃ x, x = xs.getD q 0 ∧ w.cell? ⟨b, o + q, none⟩ = some (.int .i64 x) := ⟨_, rfl, h.2 q hq⟩

set_option maxHeartbeats 400000 in
theorem plotError_any (wd : Int) (b o cap : Nat) (xs : List Int) (w : World) (p k : Int) (hn : xs.length ≤ 40) (hi : Ints w b o xs) :
    Calls Tryz.prog 89 #[.agg #[.int .i64 wd, .slice (some ⟨b, o, none⟩) xs.length cap], .int .i64 p, .int .i64 k] w fun e w' =>
      e = .returned (.int .i64 (plotErr xs p k)) ∧ Below w.heap.size w w' := by
  have hb := hi.1
  by_cases h1 : p < 0
  · go_enter Tryz.func89, Tryz.ntmps89
    go_wp2
    go_ret
    exact ⟨by simp [plotErr, h1], below1 _ _⟩
  · by_cases h2 : (xs.length : Int) ≤ p
    · go_enter Tryz.func89, Tryz.ntmps89
      go_wp2
      go_ret
      exact ⟨by simp [plotErr, h2], below1 _ _⟩
    · obtain ⟨q, rfl⟩ := Int.eq_ofNat_of_zero_le (Int.not_lt.1 h1)
      obtain ⟨x, hx, hc⟩ := hi.at (q := q) (by omega)
      have HX := Lib.hid hx
      clear hx
      by_cases hk : x = k
      · subst hk
        go_enter Tryz.func89, Tryz.ntmps89
        go_wp2
        go_ret
        exact ⟨by unfold plotErr; rw [if_neg (by omega), Int.toNat_natCast, ← HX.out, if_pos rfl]; rfl, below1 _ _⟩
      · have hk' : (x != k) = true := by simpa using hk
        have HK := Lib.hid hk
        clear hk
        go_enter Tryz.func89, Tryz.ntmps89
        go_wp2
        go_ret
        exact ⟨by unfold plotErr; rw [if_neg (by omega), Int.toNat_natCast, ← HX.out, if_neg HK.out]; rfl, below1 _ _⟩

set_option maxHeartbeats 400000 in
theorem reachError_any (b o cap : Nat) (xs : List Int) (w : World) (p : Int) (hn : xs.length ≤ 40) (hi : Ints w b o xs) :
    Calls Tryz.prog 93 #[.slice (some ⟨b, o, none⟩) xs.length cap, .int .i64 p] w fun e w' =>
      e = .returned (.int .i64 (reachErr xs p)) ∧ w = w' := by
  by_cases h1 : p < 0
  · go_enter Tryz.func93, Tryz.ntmps93
    go_wp2
    go_ret
    exact ⟨by simp [reachErr, h1], rfl⟩
  · by_cases h2 : (xs.length : Int) ≤ p
    · go_enter Tryz.func93, Tryz.ntmps93
      go_wp2
      go_ret
      exact ⟨by simp [reachErr, h2], rfl⟩
    · obtain ⟨q, rfl⟩ := Int.eq_ofNat_of_zero_le (Int.not_lt.1 h1)
      obtain ⟨x, hx, hc⟩ := hi.at (q := q) (by omega)
      have HX := Lib.hid hx
      clear hx
      by_cases hk : x = -1
      · subst hk
        go_enter Tryz.func93, Tryz.ntmps93
        go_wp2
        go_ret
        exact ⟨by unfold reachErr; rw [if_neg (by omega), Int.toNat_natCast, ← HX.out, if_pos rfl]; rfl, rfl⟩
      · have hk' : (x == -1) = false := by simpa using hk
        have HK := Lib.hid hk
        clear hk
        go_enter Tryz.func93, Tryz.ntmps93
        go_wp2
        go_ret
        exact ⟨by unfold reachErr; rw [if_neg (by omega), Int.toNat_natCast, ← HX.out, if_neg HK.out]; rfl, rfl⟩

def costOf (xs : List Int) (wind d : Int) (p : Nat) : Int := (if Hr.stepOf d = Hr.stepOf wind then 1 else if Hr.stepOf d = Hr.back (Hr.stepOf wind) then 4 else 2) + (if xs.getD p 0 = 1 then 1 else 0)
theorem stepOf_bd (d : Int) : -1 ≤ (Hr.stepOf d).1 ∧ (Hr.stepOf d).1 ≤ 1 ∧ -1 ≤ (Hr.stepOf d).2 ∧ (Hr.stepOf d).2 ≤ 1 := by
  unfold Hr.stepOf; split <;> decide



def stepEq (a b c d : Int) : Bool := decide ((a, b) = (c, d))
theorem run_eq189 (w : World) (a b c d : Int) : (binOp .eql 186 (.agg #[.int .i64 a, .int .i64 b]) (.agg #[.int .i64 c, .int .i64 d])).run Tryz.prog w = .ok (.bool (stepEq a b c d)) w := by
  have h : stepEq a b c d = (a == c && b == d) := by unfold stepEq; rw [Bool.eq_iff_iff]; simp
  rw [h]
  simp [go_sem]
  by_cases h1 : a = c
  · by_cases h2 : b = d <;> simp [h1, h2]
  · simp [h1]
attribute [local go_sem ↓] run_eq189

theorem back_eq (a b : Int) (w : World) (h1 : -1 ≤ a) (h2 : a ≤ 1) (h3 : -1 ≤ b) (h4 : b ≤ 1) :
    Calls Tryz.prog 161 #[.agg #[.int .i64 a, .int .i64 b]] w fun e w' => e = .returned (.agg #[.int .i64 (-a), .int .i64 (-b)]) ∧ (w.alloc (.cells #[.int .i64 a, .int .i64 b] 186)).alloc (.cells #[.int .i64 (-a), .int .i64 (-b)] 186) = w' := by
  go_enter Tryz.func161, Tryz.ntmps161
  go_wp2
  refine bodyPost_ret (v := .agg #[.int .i64 (-a), .int .i64 (-b)]) (by simp [results, Tryz.results161, go_sem]) rfl ⟨rfl, rfl⟩

set_option maxHeartbeats 1000000 in
set_option maxRecDepth 100000 in
theorem costs_any (wd wind voice : Int) (b o cap : Nat) (xs : List Int) (r : Nat) (cf : Value) (w : World) (d : Int) (p : Nat) (hp : p < xs.length) (hn : xs.length ≤ 40) (hi : Ints w b o xs)
    (hD : DirMap w r) (h0 : 0 ≤ wind) (h4 : wind ≤ 4) (hd1 : 1 ≤ d) (hd4 : d ≤ 4) :
    Calls Tryz.prog 154 #[.agg #[.int .i64 wd, .slice (some ⟨b, o, none⟩) xs.length cap, .int .i64 wind, .int .i64 voice, .map (some r), cf], .agg #[.int .i64 (Hr.stepOf d).1, .int .i64 (Hr.stepOf d).2], .int .i64 p] w fun e w' =>
      e = .returned (.int .i64 (costOf xs wind d p)) ∧ Below w.heap.size w w' := by
  have hb := hi.1
  obtain ⟨x, hx, hc⟩ := hi.at hp
  have HX := Lib.hid hx
  clear hx
  have hr : r < w.heap.size := (Array.getElem?_eq_some_iff.1 hD).1
  have hlk : ∀ W, Below w.heap.size w W → (Instr.lookup 115 (.map (some r)) (.int .i64 wind) false).run Tryz.prog W = .ok (.agg #[.int .i64 (Hr.stepOf wind).1, .int .i64 (Hr.stepOf wind).2]) W := fun W hB =>
    look_dir (show DirMap W r from (hB.block r hr).trans hD) wind h0 h4
  have hlk2 := hlk ((w.alloc (.cells #[.int .i64 wd, .slice (some ⟨b, o, none⟩) xs.length cap, .int .i64 wind, .int .i64 voice, .map (some r), cf] 117)).alloc (.cells #[.int .i64 (Hr.stepOf d).1, .int .i64 (Hr.stepOf d).2] 186)) ((below1 _ _).alloc (by simp) _)
  have hp' : (p : Int) < xs.length := by omega
  have hB3 : ∀ o1 o2 o3, Below w.heap.size w (((w.alloc o1).alloc o2).alloc o3) := fun o1 o2 o3 => ((below1 _ _).alloc (by simp) _).alloc (by simp; omega) _
  have hc3 : ∀ o1 o2 o3, (((w.alloc o1).alloc o2).alloc o3).cell? ⟨b, o + p, none⟩ = some (.int .i64 x) := fun o1 o2 o3 => by rw [(hB3 o1 o2 o3).cell (p := ⟨b, o + p, none⟩) hb]; exact hc
  have hB5 : ∀ o1 o2 o3 o4 o5, Below w.heap.size w (((((w.alloc o1).alloc o2).alloc o3).alloc o4).alloc o5).drew := fun o1 o2 o3 o4 o5 => (((hB3 o1 o2 o3).alloc (by simp; omega) _).alloc (by simp; omega) _).drew
  have hc5 : ∀ o1 o2 o3 o4 o5, (((((w.alloc o1).alloc o2).alloc o3).alloc o4).alloc o5).drew.cell? ⟨b, o + p, none⟩ = some (.int .i64 x) := fun o1 o2 o3 o4 o5 => by rw [(hB5 o1 o2 o3 o4 o5).cell (p := ⟨b, o + p, none⟩) hb]; exact hc
  have hfin : costOf xs wind d p = (if Hr.stepOf d = Hr.stepOf wind then 1 else if Hr.stepOf d = Hr.back (Hr.stepOf wind) then 4 else 2) + (if x = 1 then 1 else 0) := by unfold costOf; rw [← HX.out]
  have HF := Lib.hid hfin
  have hbd := stepOf_bd wind
  clear hfin hi hD HX hlk

  generalize Hr.stepOf wind = st at hlk2 hbd HF ⊢
  generalize Hr.stepOf d = sd at hlk2 HF ⊢
  obtain ⟨t1, t2⟩ := st
  obtain ⟨s1, s2⟩ := sd
  dsimp only at hlk2 hbd ⊢
  have hxx : (x = 1 ∧ (x == 1) = true) ∨ (x ≠ 1 ∧ (x == 1) = false) := by
    by_cases h : x = 1
    · exact .inl ⟨h, by simpa using h⟩
    · exact .inr ⟨h, by simpa using h⟩
  have hE : ((s1, s2) = (t1, t2) ∧ stepEq s1 s2 t1 t2 = true) ∨ ((s1, s2) ≠ (t1, t2) ∧ stepEq s1 s2 t1 t2 = false) := by
    unfold stepEq; by_cases h : (s1, s2) = (t1, t2)
    · exact .inl ⟨h, by simpa using h⟩
    · exact .inr ⟨h, by simpa using h⟩
  have hK : ((s1, s2) = (-t1, -t2) ∧ stepEq s1 s2 (-t1) (-t2) = true) ∨ ((s1, s2) ≠ (-t1, -t2) ∧ stepEq s1 s2 (-t1) (-t2) = false) := by
    unfold stepEq; by_cases h : (s1, s2) = (-t1, -t2)
    · exact .inl ⟨h, by simpa using h⟩
    · exact .inr ⟨h, by simpa using h⟩
  rcases hE with ⟨hE, hE'⟩ | ⟨hE, hE'⟩
  · rcases hxx with ⟨hx, hx'⟩ | ⟨hx, hx'⟩
    all_goals
      have HX := Lib.hid hx
      have HE := Lib.hid hE
      clear hx hE hK
      go_enter Tryz.func154, Tryz.ntmps154
      go_wp2
      go_ret
      exact ⟨by rw [HF.out, if_pos HE.out]; simp [HX.out], hB3 _ _ _⟩
  · rcases hK with ⟨hK, hK'⟩ | ⟨hK, hK'⟩
    all_goals
      rcases hxx with ⟨hx, hx'⟩ | ⟨hx, hx'⟩
      all_goals
        have HX := Lib.hid hx
        have HE := Lib.hid hE
        have HK := Lib.hid hK
        clear hx hE hK
        go_enter Tryz.func154, Tryz.ntmps154
        go_wp2
        go_region_with (go_at_call 161; refine (back_eq _ _ _ (by omega) (by omega) (by omega) (by omega)).mono ?_; rintro e w' ⟨rfl, rfl⟩)
        all_goals go_wp2
        all_goals go_ret
        all_goals exact ⟨by rw [HF.out, if_neg HE.out]; first | (rw [if_pos (show (s1, s2) = Hr.back (t1, t2) from HK.out)]; simp [HX.out]) | (rw [if_neg (show ¬ (s1, s2) = Hr.back (t1, t2) from HK.out)]; simp [HX.out]), hB5 _ _ _ _ _⟩
end Go.Proofs.YtimedmkpenbmkaaGreat

namespace Go.Proofs.YtimedmkpenbmkaaGreat
open Go.RowKit
set_option linter.unusedSimpArgs false
set_option linter.unusedVariables false

def cnt1 (l : List Int) : Nat := l.countP (· == 1)
def badPlot (p : Int) : Bool := decide (p < 0) || decide (2 < p)
theorem cnt1_le (l : List Int) : cnt1 l ≤ l.length := List.countP_le_length

set_option maxHeartbeats 400000 in
theorem chk1_bad (p : Int) (h : Nat) (w : World) (hb : p < 0 ∨ 2 < p) :
    Calls Tryz.prog 67 #[.int .i64 p, .pointer (some ⟨h, 0, none⟩)] w fun e w' => e = .returned (.int .i64 3) ∧ w = w' := by
  by_cases h1 : p < 0
  · go_enter Tryz.func67, Tryz.ntmps67
    go_wp2
    go_ret
    exact ⟨rfl, rfl⟩
  · have h2 : 2 < p := by omega
    go_enter Tryz.func67, Tryz.ntmps67
    go_wp2
    go_ret
    exact ⟨rfl, rfl⟩

set_option maxHeartbeats 400000 in
theorem chk1_house (h : Nat) (n : Nat) (w : World) (hn : n ≤ 100) (hc : w.cell? ⟨h, 0, none⟩ = some (.int .i64 n)) (hf : w.frozen? ⟨h, 0, none⟩ = false) :
    Calls Tryz.prog 67 #[.int .i64 1, .pointer (some ⟨h, 0, none⟩)] w fun e w' => e = .returned (.int .i64 0) ∧ w.setCell ⟨h, 0, none⟩ (.int .i64 (n + 1)) = w' := by
  go_enter Tryz.func67, Tryz.ntmps67
  go_wp2
  go_ret
  exact ⟨rfl, rfl⟩

set_option maxHeartbeats 400000 in
theorem chk1_other (p : Int) (h : Nat) (w : World) (hp : p = 0 ∨ p = 2) :
    Calls Tryz.prog 67 #[.int .i64 p, .pointer (some ⟨h, 0, none⟩)] w fun e w' => e = .returned (.int .i64 0) ∧ w = w' := by
  rcases hp with rfl | rfl
  all_goals
    go_enter Tryz.func67, Tryz.ntmps67
    go_wp2
    go_ret
    exact ⟨rfl, rfl⟩

def FirstErrPost (xs : List Int) (h : Nat) (w : World) (e : Ending) (w' : World) : Prop :=
  Below h w w' ∧ ((xs.any badPlot = true ∧ e = .returned (.int .i64 3)) ∨ (xs.any badPlot = false ∧ e = .returned (.int .i64 0) ∧ w'.cell? ⟨h, 0, none⟩ = some (.int .i64 (cnt1 xs))))
def FeRel (xs : List Int) (b o h : Nat) (w : World) (i : Value) (wr : World) : Prop :=
  ∃ k : Nat, k ≤ xs.length ∧ i = .int .i64 k ∧ (xs.take k).any badPlot = false ∧ wr.cell? ⟨h, 0, none⟩ = some (.int .i64 (cnt1 (xs.take k))) ∧ wr.frozen? ⟨h, 0, none⟩ = false ∧ Ints wr b o xs ∧ Below h w wr

theorem take_snoc' {xs : List Int} {k : Nat} (h : k < xs.length) : xs.take (k + 1) = xs.take k ++ [xs.getD k 0] := by
  rw [List.take_succ_eq_append_getElem h]; simp [h]

theorem Ints.below {w w' : World} {B b o : Nat} {xs : List Int} (h : Ints w b o xs) (hb : Below B w w') (hB : b < B) : Ints w' b o xs :=
  ⟨Nat.lt_of_lt_of_le h.1 hb.size, fun i hi => (hb.cell (p := ⟨b, o + i, none⟩) hB).trans (h.2 i hi)⟩

set_option maxHeartbeats 400000 in
theorem firstErr_plots (b o cap h : Nat) (xs : List Int) (w : World) (hn : xs.length ≤ 40) (hi : Ints w b o xs) (hbh : b < h)
    (hc : w.cell? ⟨h, 0, none⟩ = some (.int .i64 0)) (hf : w.frozen? ⟨h, 0, none⟩ = false) :
    Calls Tryz.prog 66 #[.slice (some ⟨b, o, none⟩) xs.length cap, .func (.func 67) #[] #[.pointer (some ⟨h, 0, none⟩)]] w (FirstErrPost xs h w) := by
  go_enter Tryz.func66, Tryz.ntmps66
  go_wp2
  go_loopw [10] (fun i wr => FeRel xs b o h w i wr) (fun i _ => xs.length - (intOf i).toNat)
  case atStart => exact ⟨0, Nat.zero_le _, rfl, rfl, by simpa [cnt1] using hc, hf, hi, Below.refl _ _⟩
  case round =>
    obtain ⟨k, hk, rfl, hgood, hcell, hfz, hI, hB⟩ := hrel
    have hcl := cnt1_le (xs.take k)
    have hlt' : (xs.take k).length ≤ 40 := by simp; omega
    by_cases hlt : k < xs.length
    · have HT := Lib.hid (take_snoc' hlt)
      obtain ⟨x, hx, hcx⟩ := hI.at hlt
      have HX := Lib.hid hx
      clear hx hc hi hf
      have HG := Lib.hid hgood
      clear hgood
      by_cases hbad : x < 0 ∨ 2 < x
      · go_wp2_with (go_at_call 67; refine (chk1_bad _ _ _ hbad).mono ?_; rintro e w' ⟨rfl, rfl⟩)
        go_ret
        refine ⟨hB, .inl ⟨?_, rfl⟩⟩
        rw [List.any_eq_true]
        exact ⟨xs.getD k 0, by simp [hlt], by rw [← HX.out]; simpa [badPlot] using hbad⟩
      · have hgx : badPlot x = false := by simp [badPlot]; omega
        have hg' : (xs.take (k + 1)).any badPlot = false := by rw [HT.out, List.any_append, HG.out, ← HX.out]; simp [hgx]
        have HG' := Lib.hid hg'
        clear hg' hgx
        by_cases h1 : x = 1
        · subst h1
          have hct : cnt1 (xs.take (k + 1)) = cnt1 (xs.take k) + 1 := by rw [HT.out, ← HX.out]; simp [cnt1, List.countP_append]
          have HC := Lib.hid hct
          clear hct hbad
          go_wp2_with (go_at_call 67; refine (chk1_house _ _ _ (by omega) hcell hfz).mono ?_; rintro e w' ⟨rfl, rfl⟩)
          go_roundw
          case rel => exact ⟨k + 1, by omega, by go_num, HG'.out, by rw [HC.out]; exact World.cell?_setCell_same' _ _ _ (by rw [hcell]; rfl), by rw [World.frozen?_setCell]; exact hfz, hI.below ((Below.refl h wr).setCell (p := ⟨h, 0, none⟩) (Nat.le_refl _) _) hbh, hB.setCell (p := ⟨h, 0, none⟩) (Nat.le_refl _) _⟩
          case measure => simp [intOf]; omega
        · have hct : cnt1 (xs.take (k + 1)) = cnt1 (xs.take k) := by rw [HT.out, ← HX.out]; simp [cnt1, List.countP_append, h1]
          have HC := Lib.hid hct
          clear hct
          go_wp2_with (go_at_call 67; refine (chk1_other _ _ _ (by omega)).mono ?_; rintro e w' ⟨rfl, rfl⟩)
          go_roundw
          case rel => exact ⟨k + 1, by omega, by go_num, HG'.out, by rw [HC.out]; exact hcell, hfz, hI, hB⟩
          case measure => simp [intOf]; omega
    · obtain rfl : k = xs.length := by omega
      rw [List.take_length] at hcell hgood
      have HG := Lib.hid hgood
      clear hgood hcl hlt'
      go_wp2
      go_ret
      exact ⟨hB, .inr ⟨HG.out, rfl, hcell⟩⟩

def checkErr (wd : Int) (xs : List Int) : Int :=
  if wd < 1 ∨ 6 < wd ∨ xs.length < 1 ∨ 30 < xs.length ∨ (xs.length : Int) % wd ≠ 0 then 2 else if xs.any badPlot then 3 else if 10 < cnt1 xs then 2 else 0

/-- a town whose width or number of plots is not allowed -/
def NotWhole (wd : Int) (n : Nat) : Prop := wd < 1 ∨ 6 < wd ∨ n < 1 ∨ 30 < n ∨ (n : Int) % wd ≠ 0

set_option maxHeartbeats 800000 in
theorem check_bad (wd : Int) (a : Option Addr) (n cap : Nat) (w : World) (hm : n ≤ 1000000000000) (h : NotWhole wd n) :
    Calls Tryz.prog 13 #[.agg #[.int .i64 wd, .slice a n cap]] w fun e w' => e = .returned (.int .i64 2) ∧ Below w.heap.size w w' := by
  have hcase : wd < 1 ∨ (1 ≤ wd ∧ 6 < wd) ∨ (1 ≤ wd ∧ wd ≤ 6 ∧ n < 1) ∨ (1 ≤ wd ∧ wd ≤ 6 ∧ 1 ≤ n ∧ 30 < n) ∨ (1 ≤ wd ∧ wd ≤ 6 ∧ 1 ≤ n ∧ n ≤ 30 ∧ ((n : Int) % wd != 0) = true) := by
    unfold NotWhole at h
    by_cases h1 : wd < 1
    · exact .inl h1
    · by_cases h2 : 6 < wd
      · exact .inr (.inl ⟨by omega, h2⟩)
      · by_cases h3 : n < 1
        · exact .inr (.inr (.inl ⟨by omega, by omega, h3⟩))
        · by_cases h4 : 30 < n
          · exact .inr (.inr (.inr (.inl ⟨by omega, by omega, by omega, h4⟩)))
          · refine .inr (.inr (.inr (.inr ⟨by omega, by omega, by omega, by omega, ?_⟩)))
            rcases h with h | h | h | h | h
            · omega
            · omega
            · omega
            · omega
            · simpa using h
  clear h
  rcases hcase with h | ⟨h, h2⟩ | ⟨h, h2, h3⟩ | ⟨h, h2, h3, h4⟩ | ⟨h, h2, h3, h4, h5⟩
  all_goals
    go_enter Tryz.func13, Tryz.ntmps13
    go_wp2
    go_ret
    exact ⟨rfl, below1 _ _⟩

set_option maxHeartbeats 800000 in
theorem check_whole (wd : Int) (b o cap : Nat) (xs : List Int) (w : World) (hi : Ints w b o xs) (h1 : 1 ≤ wd) (h2 : wd ≤ 6) (h3 : 1 ≤ xs.length) (h4 : xs.length ≤ 30) (h5 : (xs.length : Int) % wd = 0) :
    Calls Tryz.prog 13 #[.agg #[.int .i64 wd, .slice (some ⟨b, o, none⟩) xs.length cap]] w fun e w' => e = .returned (.int .i64 (checkErr wd xs)) ∧ Below w.heap.size w w' := by
  have hmf : ∀ (fn : Fn) (first cap : Array Value) (w : World), (Instr.makeFunc fn first cap).run Tryz.prog w = .ok (.func fn first cap) w := fun _ _ _ _ => rfl
  have h5' : ((xs.length : Int) % wd != 0) = false := by simpa using h5
  have hfin : checkErr wd xs = if xs.any badPlot then 3 else if 10 < cnt1 xs then 2 else 0 := if_neg (by omega)
  have HF := Lib.hid hfin
  have H5 := Lib.hid h5
  clear hfin h5
  have hb := hi.1
  have hB2 : Below w.heap.size w ((w.alloc (.cells #[.int .i64 wd, .slice (some ⟨b, o, none⟩) xs.length cap] 25)).alloc (.cells #[.int .i64 0] 3)) := (below1 _ _).alloc (by simp) _
  go_enter Tryz.func13, Tryz.ntmps13
  go_wp2_with fail
  refine (firstErr_plots b o cap (w.heap.size + 1) xs _ (by omega) (hi.below hB2 hb) (by omega) ?_ ?_).mono ?_
  · rw [World.cell?_alloc_at _ _ _ _ (by simp)]; rfl
  · exact World.frozen?_alloc_at _ _ _ _ (by simp)
  · rintro e w' ⟨hB, hP⟩
    have hBw : Below w.heap.size w w' := hB2.trans (hB.mono (by omega))
    clear hB hB2
    rcases hP with ⟨hany, rfl⟩ | ⟨hany, rfl, hcell⟩
    · have HA := Lib.hid hany
      clear hany
      go_wp2
      go_ret
      exact ⟨by rw [HF.out, if_pos HA.out]; rfl, hBw⟩
    · have HA := Lib.hid hany
      clear hany
      by_cases h10 : 10 < cnt1 xs
      · go_wp2
        go_ret
        exact ⟨by rw [HF.out, if_neg (by simp [HA.out]), if_pos h10]; rfl, hBw⟩
      · go_wp2
        go_ret
        exact ⟨by rw [HF.out, if_neg (by simp [HA.out]), if_neg h10]; rfl, hBw⟩
end Go.Proofs.YtimedmkpenbmkaaGreat
