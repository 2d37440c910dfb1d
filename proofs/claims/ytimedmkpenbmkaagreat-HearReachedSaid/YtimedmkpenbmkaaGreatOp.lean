import Derived.Test.YtimedmkpenbmkaaGreatSt
import Derived.Deep.RegionWith
import Derived.Deep.CutBlock
import Derived.Laws.EntriesVeiled
namespace Go.Proofs.YtimedmkpenbmkaaGreat
open Go.RowKit
set_option linter.unusedSimpArgs false
set_option linter.unusedVariables false

/-- a value that is a list of plots (or of whatever ints) -/
structure Plots (w : World) (a : Option Addr) (xs : List Int) : Prop where
  some : xs ≠ [] → ∃ b o, a = some ⟨b, o, none⟩ ∧ Ints w b o xs
  few : xs.length ≤ 1000000000000

theorem Plots.below {w w' : World} {a : Option Addr} {xs : List Int} (h : Plots w a xs) (hb : Below w.heap.size w w') : Plots w' a xs :=
  ⟨fun hn => by obtain ⟨b, o, e, hi⟩ := h.some hn; exact ⟨b, o, e, hi.below hb hi.1⟩, h.few⟩

theorem check_any (wd : Int) (a : Option Addr) (cap : Nat) (xs : List Int) (w : World) (h : Plots w a xs) :
    Calls Tryz.prog 13 #[.agg #[.int .i64 wd, .slice a xs.length cap]] w fun e w' => e = .returned (.int .i64 (checkErr wd xs)) ∧ Below w.heap.size w w' := by
  by_cases hn : NotWhole wd xs.length
  · refine (check_bad wd a xs.length cap w h.few hn).mono ?_
    rintro e w' ⟨rfl, hB⟩
    exact ⟨by unfold checkErr; rw [if_pos (show wd < 1 ∨ 6 < wd ∨ xs.length < 1 ∨ 30 < xs.length ∨ (xs.length : Int) % wd ≠ 0 from hn)], hB⟩
  · unfold NotWhole at hn
    obtain ⟨b, o, rfl, hi⟩ := h.some (fun e => by rw [e] at hn; simp at hn)
    exact check_whole wd b o cap xs w hi (by omega) (by omega) (by omega) (by omega) (by omega)

def zeroWork : Value := .agg #[.int .i64 0, .slice none 0 0, .int .i64 0, .int .i64 0, .map none, .nilFunc]

/-- the town of what is right -/
def townOf (wd : Int) (xs : List Int) : Hr.Town := ⟨wd.toNat, xs⟩

theorem town_ok {wd : Int} {xs : List Int} (h : checkErr wd xs = 0) : (townOf wd xs).Ok ∧ ((townOf wd xs).wide : Int) = wd ∧ cnt1 xs ≤ 10 ∧ xs ≠ [] := by
  unfold checkErr at h
  split at h
  · omega
  · rename_i h1
    split at h
    · omega
    · rename_i h2
      split at h
      · omega
      · rename_i h3
        have hw : ((townOf wd xs).wide : Int) = wd := by show ((wd.toNat : Nat) : Int) = wd; omega
        have hw1 : 1 ≤ wd.toNat := by omega
        refine ⟨⟨hw1, by show wd.toNat ≤ 6; omega, by show 1 ≤ xs.length; omega, by show xs.length ≤ 30; omega, ?_, fun p hp => ?_⟩, hw, by omega, fun e => by subst e; simp at h1⟩
        · show xs.length = xs.length / wd.toNat * wd.toNat
          have h5 : xs.length % wd.toNat = 0 := by
            have : ((xs.length % wd.toNat : Nat) : Int) = 0 := by rw [Int.natCast_emod]; rw [show ((wd.toNat : Nat) : Int) = wd by omega]; omega
            omega
          have := Nat.div_add_mod xs.length wd.toNat
          rw [h5] at this
          rw [Nat.mul_comm]; omega
        · have hb : badPlot (xs.getD p 0) = false := by
            cases hbb : badPlot (xs.getD p 0) with
            | false => rfl
            | true =>
              exfalso; apply h2
              rw [List.any_eq_true]
              have hp' : p < xs.length := hp
              exact ⟨xs.getD p 0, by simp [hp'], hbb⟩
          show xs.getD p 0 = 0 ∨ xs.getD p 0 = 1 ∨ xs.getD p 0 = 2
          generalize xs.getD p 0 = y at *
          simp [badPlot] at hb
          omega

theorem kept {W w1 : World} (hb : Below W.heap.size W w1) : (∀ b o, b < W.heap.size → w1.cell? ⟨b, o, none⟩ = W.cell? ⟨b, o, none⟩) ∧ (∀ b o, b < W.heap.size → w1.frozen? ⟨b, o, none⟩ = W.frozen? ⟨b, o, none⟩) :=
  ⟨fun b o h => hb.cell (p := ⟨b, o, none⟩) h, fun b o h => hb.frozen (p := ⟨b, o, none⟩) h⟩

set_option maxHeartbeats 200000 in
set_option maxRecDepth 100000 in
theorem open_bad (wd wind voice : Int) (a : Option Addr) (cap : Nat) (xs : List Int) (w : World) (h : Plots w a xs) (hc : checkErr wd xs ≠ 0) :
    Calls Tryz.prog 72 #[.agg #[.int .i64 wd, .slice a xs.length cap], .agg #[.int .i64 wind, .int .i64 voice]] w fun e w' => e = .returned (.tuple #[zeroWork, .int .i64 (checkErr wd xs)]) ∧ Below w.heap.size w w' := by
  have hc' : (checkErr wd xs != 0) = true := by simpa using hc
  have HC := Lib.hid hc
  clear hc
  go_enter Tryz.func72, Tryz.ntmps72
  have hB3 : ∀ o1 o2 o3, Below w.heap.size w (((w.alloc o1).alloc o2).alloc o3) := fun o1 o2 o3 => ((below1 _ _).alloc (by simp) _).alloc (by simp; omega) _
  go_wp2_with fail
  refine (check_any wd a cap xs _ (h.below (hB3 _ _ _))).mono ?_
  rintro e w4 ⟨rfl, hB4⟩
  have hz : w.heap.size + 1 + 1 + 1 ≤ w4.heap.size := by have := hB4.size; simp at this; omega
  have hblk : w4.heap[w.heap.size + 1 + 1]? = some (.cells #[.int .i64 0, .slice none 0 0, .int .i64 0, .int .i64 0, .map none, .nilFunc] 117) := by
    rw [hB4.block _ (by simp)]
    have := World.alloc_heap_new ((w.alloc (.cells #[.int .i64 wd, .slice a xs.length cap] 25)).alloc (.cells #[.int .i64 wind, .int .i64 voice] 29)) (.cells #[.int .i64 0, .slice none 0 0, .int .i64 0, .int .i64 0, .map none, .nilFunc] 117)
    simp only [World.size_alloc] at this
    exact this
  have k0 : w4.cell? ⟨w.heap.size + 1 + 1, 0, none⟩ = some (.int .i64 0) := by simp [World.cell?, hblk]
  have k1 : w4.cell? ⟨w.heap.size + 1 + 1, 1, none⟩ = some (.slice none 0 0) := by simp [World.cell?, hblk]
  have k2 : w4.cell? ⟨w.heap.size + 1 + 1, 2, none⟩ = some (.int .i64 0) := by simp [World.cell?, hblk]
  have k3 : w4.cell? ⟨w.heap.size + 1 + 1, 3, none⟩ = some (.int .i64 0) := by simp [World.cell?, hblk]
  have k4 : w4.cell? ⟨w.heap.size + 1 + 1, 4, none⟩ = some (.map none) := by simp [World.cell?, hblk]
  have k5 : w4.cell? ⟨w.heap.size + 1 + 1, 5, none⟩ = some .nilFunc := by simp [World.cell?, hblk]
  have kf : ∀ i, w4.frozen? ⟨w.heap.size + 1 + 1, i, none⟩ = false := fun i => by simp [World.frozen?, hblk]
  have HB := Lib.hid ((hB3 _ _ _).trans (hB4.mono (by simp; omega)))
  clear hB4 hB3 hblk h
  have hle : w.heap.size ≤ w.heap.size + 1 + 1 := by omega
  go_wp2
  exact bodyPost_ret (v := .tuple #[zeroWork, .int .i64 (checkErr wd xs)]) (by simp [results, Tryz.results72, go_sem, zeroWork, k0, k1, k2, k3, k4, k5]) rfl ⟨rfl, ((((((HB.out.setCell (p := ⟨w.heap.size + 1 + 1, 0, none⟩) hle _).setCell (p := ⟨w.heap.size + 1 + 1, 1, none⟩) hle _).setCell (p := ⟨w.heap.size + 1 + 1, 2, none⟩) hle _).setCell (p := ⟨w.heap.size + 1 + 1, 3, none⟩) hle _).setCell (p := ⟨w.heap.size + 1 + 1, 4, none⟩) hle _).setCell (p := ⟨w.heap.size + 1 + 1, 5, none⟩) hle _)⟩

/-- what the block of a result of the type 117 holds behind some call -/
theorem blk_kept {W w4 : World} {b : Nat} {o : Obj} (hB : Below W.heap.size W w4) (hb : W.heap[b]? = some o) : w4.heap[b]? = some o := (hB.block b (Array.getElem?_eq_some_iff.1 hb).1).trans hb

set_option maxHeartbeats 1000000 in
set_option maxRecDepth 100000 in
theorem open_air (wd wind voice : Int) (a : Option Addr) (cap : Nat) (xs : List Int) (w : World) (h : Plots w a xs) (hc : checkErr wd xs = 0) (ha : airErr wind voice ≠ 0) :
    Calls Tryz.prog 72 #[.agg #[.int .i64 wd, .slice a xs.length cap], .agg #[.int .i64 wind, .int .i64 voice]] w fun e w' => e = .returned (.tuple #[zeroWork, .int .i64 (airErr wind voice)]) ∧ Below w.heap.size w w' := by
  have ha' : (airErr wind voice != 0) = true := by simpa using ha
  have HA := Lib.hid ha
  have HC := Lib.hid hc
  clear ha hc
  go_enter Tryz.func72, Tryz.ntmps72
  have hB3 : ∀ o1 o2 o3, Below w.heap.size w (((w.alloc o1).alloc o2).alloc o3) := fun o1 o2 o3 => ((below1 _ _).alloc (by simp) _).alloc (by simp; omega) _
  go_wp2_with fail
  refine (check_any wd a cap xs _ (h.below (hB3 _ _ _))).mono ?_
  rintro e w4 ⟨rfl, hB4⟩
  rw [HC.out]
  have hz : w.heap.size + 1 + 1 + 1 ≤ w4.heap.size := by have := hB4.size; simp at this; omega
  have hblk : w4.heap[w.heap.size + 1 + 1]? = some (.cells #[.int .i64 0, .slice none 0 0, .int .i64 0, .int .i64 0, .map none, .nilFunc] 117) := by
    rw [hB4.block _ (by simp)]
    have := World.alloc_heap_new ((w.alloc (.cells #[.int .i64 wd, .slice a xs.length cap] 25)).alloc (.cells #[.int .i64 wind, .int .i64 voice] 29)) (.cells #[.int .i64 0, .slice none 0 0, .int .i64 0, .int .i64 0, .map none, .nilFunc] 117)
    simp only [World.size_alloc] at this
    exact this
  have a0 : w4.cell? ⟨w.heap.size + 1, 0, none⟩ = some (.int .i64 wind) := by rw [hB4.cell (p := ⟨w.heap.size + 1, 0, none⟩) (by simp)]; clear hblk hB4; go_simp
  have a1 : w4.cell? ⟨w.heap.size + 1, 1, none⟩ = some (.int .i64 voice) := by rw [hB4.cell (p := ⟨w.heap.size + 1, 1, none⟩) (by simp)]; clear hblk hB4; go_simp
  have HB4 := Lib.hid ((hB3 _ _ _).trans (hB4.mono (by simp; omega)))
  have HBLK := Lib.hid hblk
  clear hB4 hB3 hblk h
  go_wp2_with fail
  refine (checkAir_any wind voice w4).mono ?_
  rintro e w5 ⟨rfl, hB5⟩
  have hblk := blk_kept hB5 HBLK.out
  have k0 : w5.cell? ⟨w.heap.size + 1 + 1, 0, none⟩ = some (.int .i64 0) := by simp [World.cell?, hblk]
  have k1 : w5.cell? ⟨w.heap.size + 1 + 1, 1, none⟩ = some (.slice none 0 0) := by simp [World.cell?, hblk]
  have k2 : w5.cell? ⟨w.heap.size + 1 + 1, 2, none⟩ = some (.int .i64 0) := by simp [World.cell?, hblk]
  have k3 : w5.cell? ⟨w.heap.size + 1 + 1, 3, none⟩ = some (.int .i64 0) := by simp [World.cell?, hblk]
  have k4 : w5.cell? ⟨w.heap.size + 1 + 1, 4, none⟩ = some (.map none) := by simp [World.cell?, hblk]
  have k5 : w5.cell? ⟨w.heap.size + 1 + 1, 5, none⟩ = some .nilFunc := by simp [World.cell?, hblk]
  have kf : ∀ i, w5.frozen? ⟨w.heap.size + 1 + 1, i, none⟩ = false := fun i => by simp [World.frozen?, hblk]
  have HB := Lib.hid (HB4.out.trans (hB5.mono (Nat.le_trans (by omega) hz)))
  clear hB5 hblk
  have hle : w.heap.size ≤ w.heap.size + 1 + 1 := by omega
  go_wp2
  exact bodyPost_ret (v := .tuple #[zeroWork, .int .i64 (airErr wind voice)]) (by simp [results, Tryz.results72, go_sem, zeroWork, k0, k1, k2, k3, k4, k5]) rfl ⟨rfl, ((((((HB.out.setCell (p := ⟨w.heap.size + 1 + 1, 0, none⟩) hle _).setCell (p := ⟨w.heap.size + 1 + 1, 1, none⟩) hle _).setCell (p := ⟨w.heap.size + 1 + 1, 2, none⟩) hle _).setCell (p := ⟨w.heap.size + 1 + 1, 3, none⟩) hle _).setCell (p := ⟨w.heap.size + 1 + 1, 4, none⟩) hle _).setCell (p := ⟨w.heap.size + 1 + 1, 5, none⟩) hle _)⟩

theorem dir_new {X w5 : World} (h : X.heap.size = w5.heap.size) : DirMap (X.alloc (.map dirEntries 4)).drew w5.heap.size := by
  unfold DirMap; rw [← h]; exact World.alloc_heap_new X _

set_option maxHeartbeats 1000000 in
set_option maxRecDepth 100000 in
theorem open_ok (wd wind voice : Int) (b o : Nat) (cap : Nat) (xs : List Int) (w : World) (h : Plots w (some ⟨b, o, none⟩) xs) (hc : checkErr wd xs = 0) (ha : airErr wind voice = 0) :
    Calls Tryz.prog 72 #[.agg #[.int .i64 wd, .slice (some ⟨b, o, none⟩) xs.length cap], .agg #[.int .i64 wind, .int .i64 voice]] w fun e w' => ∃ r, e = .returned (.tuple #[.agg #[.int .i64 wd, .slice (some ⟨b, o, none⟩) xs.length cap, .int .i64 wind, .int .i64 voice, .map (some r), .func (.func 121) #[] #[]], .int .i64 0]) ∧ DirMap w' r ∧ w.heap.size ≤ r ∧ Below w.heap.size w w' := by
  have HA := Lib.hid ha
  have HC := Lib.hid hc
  clear ha hc
  go_enter Tryz.func72, Tryz.ntmps72
  have hB3 : ∀ o1 o2 o3, Below w.heap.size w (((w.alloc o1).alloc o2).alloc o3) := fun o1 o2 o3 => ((below1 _ _).alloc (by simp) _).alloc (by simp; omega) _
  go_wp2_with fail
  refine (check_any wd _ cap xs _ (h.below (hB3 _ _ _))).mono ?_
  rintro e w4 ⟨rfl, hB4⟩
  rw [HC.out]
  have hz : w.heap.size + 1 + 1 + 1 ≤ w4.heap.size := by have := hB4.size; simp at this; omega
  have hblk : w4.heap[w.heap.size + 1 + 1]? = some (.cells #[.int .i64 0, .slice none 0 0, .int .i64 0, .int .i64 0, .map none, .nilFunc] 117) := by
    rw [hB4.block _ (by simp)]
    have := World.alloc_heap_new ((w.alloc (.cells #[.int .i64 wd, .slice (some ⟨b, o, none⟩) xs.length cap] 25)).alloc (.cells #[.int .i64 wind, .int .i64 voice] 29)) (.cells #[.int .i64 0, .slice none 0 0, .int .i64 0, .int .i64 0, .map none, .nilFunc] 117)
    simp only [World.size_alloc] at this
    exact this
  have a0 : w4.cell? ⟨w.heap.size + 1, 0, none⟩ = some (.int .i64 wind) := by rw [hB4.cell (p := ⟨w.heap.size + 1, 0, none⟩) (by simp)]; clear hblk hB4; go_simp
  have a1 : w4.cell? ⟨w.heap.size + 1, 1, none⟩ = some (.int .i64 voice) := by rw [hB4.cell (p := ⟨w.heap.size + 1, 1, none⟩) (by simp)]; clear hblk hB4; go_simp
  have t0 : w4.cell? ⟨w.heap.size, 0, none⟩ = some (.int .i64 wd) := by rw [hB4.cell (p := ⟨w.heap.size, 0, none⟩) (by simp; omega)]; clear hblk hB4; go_simp
  have t1 : w4.cell? ⟨w.heap.size, 1, none⟩ = some (.slice (some ⟨b, o, none⟩) xs.length cap) := by rw [hB4.cell (p := ⟨w.heap.size, 1, none⟩) (by simp; omega)]; clear hblk hB4; go_simp
  have HB4 := Lib.hid ((hB3 _ _ _).trans (hB4.mono (by simp; omega)))
  have HBLK := Lib.hid hblk
  clear hB4 hB3 hblk h
  go_wp2_with fail
  refine (checkAir_any wind voice w4).mono ?_
  rintro e w5 ⟨rfl, hB5⟩
  rw [HA.out]
  have hblk := blk_kept hB5 HBLK.out
  have k0 : w5.cell? ⟨w.heap.size + 1 + 1, 0, none⟩ = some (.int .i64 0) := by simp [World.cell?, hblk]
  have k1 : w5.cell? ⟨w.heap.size + 1 + 1, 1, none⟩ = some (.slice none 0 0) := by simp [World.cell?, hblk]
  have k2 : w5.cell? ⟨w.heap.size + 1 + 1, 2, none⟩ = some (.int .i64 0) := by simp [World.cell?, hblk]
  have k3 : w5.cell? ⟨w.heap.size + 1 + 1, 3, none⟩ = some (.int .i64 0) := by simp [World.cell?, hblk]
  have k4 : w5.cell? ⟨w.heap.size + 1 + 1, 4, none⟩ = some (.map none) := by simp [World.cell?, hblk]
  have k5 : w5.cell? ⟨w.heap.size + 1 + 1, 5, none⟩ = some .nilFunc := by simp [World.cell?, hblk]
  have kf : ∀ i, w5.frozen? ⟨w.heap.size + 1 + 1, i, none⟩ = false := fun i => by simp [World.frozen?, hblk]
  have s0 := (hB5.cell (p := ⟨w.heap.size, 0, none⟩) (show w.heap.size < w4.heap.size by omega)).trans t0
  have s1 := (hB5.cell (p := ⟨w.heap.size, 1, none⟩) (show w.heap.size < w4.heap.size by omega)).trans t1
  have s2 := (hB5.cell (p := ⟨w.heap.size + 1, 0, none⟩) (show w.heap.size + 1 < w4.heap.size by omega)).trans a0
  have s3 := (hB5.cell (p := ⟨w.heap.size + 1, 1, none⟩) (show w.heap.size + 1 < w4.heap.size by omega)).trans a1
  have hz5 : w.heap.size + 1 + 1 + 1 ≤ w5.heap.size := Nat.le_trans hz hB5.size
  have HB := Lib.hid (HB4.out.trans (hB5.mono (Nat.le_trans (by omega) hz)))
  clear hB5 hblk t0 t1 a0 a1
  have hle : w.heap.size ≤ w.heap.size + 1 + 1 := by omega
  have b0 : w.heap.size < w5.heap.size := by omega
  have b1 : w.heap.size + 1 < w5.heap.size := by omega
  have b2 : w.heap.size + 1 + 1 < w5.heap.size := by omega
  go_wp2
  go_region_with (go_at_call 122; refine (directions_any _).mono ?_; rintro e w' ⟨rfl, rfl⟩)
  all_goals go_wp2
  all_goals exact bodyPost_ret (v := .tuple #[.agg #[.int .i64 wd, .slice (some ⟨b, o, none⟩) xs.length cap, .int .i64 wind, .int .i64 voice, .map (some w5.heap.size), .func (.func 121) #[] #[]], .int .i64 0]) (by simp [results, Tryz.results72, go_sem, k0, k1, k2, k3, k4, k5, b0, b1, b2]) rfl ⟨w5.heap.size, rfl, dir_new (by simp), by omega, (((((((HB.out.setCell (p := ⟨w.heap.size + 1 + 1, 0, none⟩) hle _).setCell (p := ⟨w.heap.size + 1 + 1, 1, none⟩) hle _).setCell (p := ⟨w.heap.size + 1 + 1, 2, none⟩) hle _).setCell (p := ⟨w.heap.size + 1 + 1, 3, none⟩) hle _).setCell (p := ⟨w.heap.size + 1 + 1, 4, none⟩) hle _).setCell (p := ⟨w.heap.size + 1 + 1, 5, none⟩) hle _).alloc (by simp; omega) _).drew⟩

end Go.Proofs.YtimedmkpenbmkaaGreat

namespace Go.Proofs.YtimedmkpenbmkaaGreat
open Go.RowKit
set_option linter.unusedSimpArgs false
set_option linter.unusedVariables false

def openErr (wd : Int) (xs : List Int) (wind voice : Int) : Int := if checkErr wd xs ≠ 0 then checkErr wd xs else airErr wind voice

theorem open_err (wd wind voice : Int) (a : Option Addr) (cap : Nat) (xs : List Int) (w : World) (h : Plots w a xs) (hc : openErr wd xs wind voice ≠ 0) :
    Calls Tryz.prog 72 #[.agg #[.int .i64 wd, .slice a xs.length cap], .agg #[.int .i64 wind, .int .i64 voice]] w fun e w' => e = .returned (.tuple #[zeroWork, .int .i64 (openErr wd xs wind voice)]) ∧ Below w.heap.size w w' := by
  unfold openErr at *
  by_cases h1 : checkErr wd xs ≠ 0
  · rw [if_pos h1] at *
    exact open_bad wd wind voice a cap xs w h h1
  · rw [if_neg h1] at *
    exact open_air wd wind voice a cap xs w h (by omega) hc

set_option maxHeartbeats 1000000 in
set_option maxRecDepth 100000 in
theorem openAt_err (wd wind voice p k : Int) (a : Option Addr) (cap : Nat) (xs : List Int) (w : World) (h : Plots w a xs) (hc : openErr wd xs wind voice ≠ 0) :
    Calls Tryz.prog 78 #[.agg #[.int .i64 wd, .slice a xs.length cap], .agg #[.int .i64 wind, .int .i64 voice], .int .i64 p, .int .i64 k] w fun e w' => e = .returned (.tuple #[zeroWork, .int .i64 (openErr wd xs wind voice)]) ∧ Below w.heap.size w w' := by
  have hc1 : (openErr wd xs wind voice != 0) = true := by simpa using hc
  have hc2 : (openErr wd xs wind voice == 0) = false := by simpa using hc
  have HC := Lib.hid hc
  clear hc
  go_enter Tryz.func78, Tryz.ntmps78
  have hB3 : ∀ o1 o2 o3, Below w.heap.size w (((w.alloc o1).alloc o2).alloc o3) := fun o1 o2 o3 => ((below1 _ _).alloc (by simp) _).alloc (by simp; omega) _
  go_wp2_with fail
  refine (open_err wd wind voice a cap xs _ (h.below (hB3 _ _ _)) HC.out).mono ?_
  rintro e w4 ⟨rfl, hB4⟩
  have hz : w.heap.size + 1 + 1 + 1 ≤ w4.heap.size := by have := hB4.size; simp at this; omega
  have hblk : w4.heap[w.heap.size + 1 + 1]? = some (.cells #[.int .i64 0, .slice none 0 0, .int .i64 0, .int .i64 0, .map none, .nilFunc] 117) := by
    rw [hB4.block _ (by simp)]
    have := World.alloc_heap_new ((w.alloc (.cells #[.int .i64 wd, .slice a xs.length cap] 25)).alloc (.cells #[.int .i64 wind, .int .i64 voice] 29)) (.cells #[.int .i64 0, .slice none 0 0, .int .i64 0, .int .i64 0, .map none, .nilFunc] 117)
    simp only [World.size_alloc] at this
    exact this
  have k0 : w4.cell? ⟨w.heap.size + 1 + 1, 0, none⟩ = some (.int .i64 0) := by simp [World.cell?, hblk]
  have k1 : w4.cell? ⟨w.heap.size + 1 + 1, 1, none⟩ = some (.slice none 0 0) := by simp [World.cell?, hblk]
  have k2 : w4.cell? ⟨w.heap.size + 1 + 1, 2, none⟩ = some (.int .i64 0) := by simp [World.cell?, hblk]
  have k3 : w4.cell? ⟨w.heap.size + 1 + 1, 3, none⟩ = some (.int .i64 0) := by simp [World.cell?, hblk]
  have k4 : w4.cell? ⟨w.heap.size + 1 + 1, 4, none⟩ = some (.map none) := by simp [World.cell?, hblk]
  have k5 : w4.cell? ⟨w.heap.size + 1 + 1, 5, none⟩ = some .nilFunc := by simp [World.cell?, hblk]
  have kf : ∀ i, w4.frozen? ⟨w.heap.size + 1 + 1, i, none⟩ = false := fun i => by simp [World.frozen?, hblk]
  have HB := Lib.hid ((hB3 _ _ _).trans (hB4.mono (by simp; omega)))
  have b2 : w.heap.size + 1 + 1 < w4.heap.size := by omega
  clear hB4 hB3 hblk h
  unfold zeroWork
  have hle : w.heap.size ≤ w.heap.size + 1 + 1 := by omega
  go_wp2
  exact bodyPost_ret (v := .tuple #[.agg #[.int .i64 0, .slice none 0 0, .int .i64 0, .int .i64 0, .map none, .nilFunc], .int .i64 (openErr wd xs wind voice)]) (by simp [results, Tryz.results78, go_sem, k0, k1, k2, k3, k4, k5, b2]) rfl ⟨rfl, ((((((HB.out.setCell (p := ⟨w.heap.size + 1 + 1, 0, none⟩) hle _).setCell (p := ⟨w.heap.size + 1 + 1, 1, none⟩) hle _).setCell (p := ⟨w.heap.size + 1 + 1, 2, none⟩) hle _).setCell (p := ⟨w.heap.size + 1 + 1, 3, none⟩) hle _).setCell (p := ⟨w.heap.size + 1 + 1, 4, none⟩) hle _).setCell (p := ⟨w.heap.size + 1 + 1, 5, none⟩) hle _).alloc (by simp; omega) _⟩

set_option maxHeartbeats 1000000 in
set_option maxRecDepth 100000 in
theorem openAt_plot (wd wind voice p k : Int) (b o : Nat) (cap : Nat) (xs : List Int) (w : World) (h : Plots w (some ⟨b, o, none⟩) xs) (hI : Ints w b o xs) (hn : xs.length ≤ 40) (hc : checkErr wd xs = 0) (ha : airErr wind voice = 0) (hp : plotErr xs p k ≠ 0) :
    Calls Tryz.prog 78 #[.agg #[.int .i64 wd, .slice (some ⟨b, o, none⟩) xs.length cap], .agg #[.int .i64 wind, .int .i64 voice], .int .i64 p, .int .i64 k] w fun e w' => e = .returned (.tuple #[zeroWork, .int .i64 (plotErr xs p k)]) ∧ Below w.heap.size w w' := by
  have hp1 : (plotErr xs p k != 0) = true := by simpa using hp
  have HC := Lib.hid (And.intro hc ha)
  clear hc ha hp
  go_enter Tryz.func78, Tryz.ntmps78
  have hB3 : ∀ o1 o2 o3, Below w.heap.size w (((w.alloc o1).alloc o2).alloc o3) := fun o1 o2 o3 => ((below1 _ _).alloc (by simp) _).alloc (by simp; omega) _
  go_wp2_with fail
  refine (open_ok wd wind voice b o cap xs _ (h.below (hB3 _ _ _)) HC.out.1 HC.out.2).mono ?_
  rintro e w4 ⟨r, rfl, hD, hr, hB4⟩
  have hz : w.heap.size + 1 + 1 + 1 ≤ w4.heap.size := by have := hB4.size; simp at this; omega
  have hblk : w4.heap[w.heap.size + 1 + 1]? = some (.cells #[.int .i64 0, .slice none 0 0, .int .i64 0, .int .i64 0, .map none, .nilFunc] 117) := by
    rw [hB4.block _ (by simp)]
    have := World.alloc_heap_new ((w.alloc (.cells #[.int .i64 wd, .slice (some ⟨b, o, none⟩) xs.length cap] 25)).alloc (.cells #[.int .i64 wind, .int .i64 voice] 29)) (.cells #[.int .i64 0, .slice none 0 0, .int .i64 0, .int .i64 0, .map none, .nilFunc] 117)
    simp only [World.size_alloc] at this
    exact this
  have t0 : w4.cell? ⟨w.heap.size, 0, none⟩ = some (.int .i64 wd) := by rw [hB4.cell (p := ⟨w.heap.size, 0, none⟩) (by simp; omega)]; clear hblk hB4; go_simp
  have t1 : w4.cell? ⟨w.heap.size, 1, none⟩ = some (.slice (some ⟨b, o, none⟩) xs.length cap) := by rw [hB4.cell (p := ⟨w.heap.size, 1, none⟩) (by simp; omega)]; clear hblk hB4; go_simp
  have hb1 : w.heap.size < w4.heap.size := by omega
  have b2 : w.heap.size + 1 + 1 < w4.heap.size := by omega
  have HB := Lib.hid ((hB3 _ _ _).trans (hB4.mono (by simp; omega)))
  have HI4 := Lib.hid (hI.below HB.out hI.1)
  have HBLK := Lib.hid hblk
  clear hB4 hB3 hblk h hD hr hI
  go_wp2_with fail
  refine (plotError_any wd b o cap xs _ p k hn (HI4.out.below (below1 _ _) HI4.out.1)).mono ?_
  rintro e w5 ⟨rfl, hB5⟩
  have hz5 : w4.heap.size + 1 ≤ w5.heap.size := by have := hB5.size; simp at this; omega
  have hblk : w5.heap[w.heap.size + 1 + 1]? = some (.cells #[.int .i64 0, .slice none 0 0, .int .i64 0, .int .i64 0, .map none, .nilFunc] 117) :=
    (hB5.block _ (by simp; omega)).trans ((Below.heap_alloc _ _ _ b2).trans HBLK.out)
  have k0 : w5.cell? ⟨w.heap.size + 1 + 1, 0, none⟩ = some (.int .i64 0) := by simp [World.cell?, hblk]
  have k1 : w5.cell? ⟨w.heap.size + 1 + 1, 1, none⟩ = some (.slice none 0 0) := by simp [World.cell?, hblk]
  have k2 : w5.cell? ⟨w.heap.size + 1 + 1, 2, none⟩ = some (.int .i64 0) := by simp [World.cell?, hblk]
  have k3 : w5.cell? ⟨w.heap.size + 1 + 1, 3, none⟩ = some (.int .i64 0) := by simp [World.cell?, hblk]
  have k4 : w5.cell? ⟨w.heap.size + 1 + 1, 4, none⟩ = some (.map none) := by simp [World.cell?, hblk]
  have k5 : w5.cell? ⟨w.heap.size + 1 + 1, 5, none⟩ = some (.nilFunc) := by simp [World.cell?, hblk]
  have kf : ∀ i, w5.frozen? ⟨w.heap.size + 1 + 1, i, none⟩ = false := fun i => by simp [World.frozen?, hblk]
  have HB5 := Lib.hid (HB.out.trans ((Below.mono (below1 _ _) (by omega)).trans (hB5.mono (by simp; omega))))
  clear hB5 hblk t0 t1
  have hle : w.heap.size ≤ w.heap.size + 1 + 1 := by omega
  go_wp2
  exact bodyPost_ret (v := .tuple #[.agg #[.int .i64 0, .slice none 0 0, .int .i64 0, .int .i64 0, .map none, .nilFunc], .int .i64 (plotErr xs p k)]) (by simp [results, Tryz.results78, go_sem, k0, k1, k2, k3, k4, k5, b2]) rfl ⟨rfl, ((((((HB5.out.setCell (p := ⟨w.heap.size + 1 + 1, 0, none⟩) hle _).setCell (p := ⟨w.heap.size + 1 + 1, 1, none⟩) hle _).setCell (p := ⟨w.heap.size + 1 + 1, 2, none⟩) hle _).setCell (p := ⟨w.heap.size + 1 + 1, 3, none⟩) hle _).setCell (p := ⟨w.heap.size + 1 + 1, 4, none⟩) hle _).setCell (p := ⟨w.heap.size + 1 + 1, 5, none⟩) hle _)⟩

set_option maxHeartbeats 1000000 in
set_option maxRecDepth 100000 in
theorem openAt_ok (wd wind voice p k : Int) (b o : Nat) (cap : Nat) (xs : List Int) (w : World) (h : Plots w (some ⟨b, o, none⟩) xs) (hI : Ints w b o xs) (hn : xs.length ≤ 40) (hc : checkErr wd xs = 0) (ha : airErr wind voice = 0) (hp : plotErr xs p k = 0) :
    Calls Tryz.prog 78 #[.agg #[.int .i64 wd, .slice (some ⟨b, o, none⟩) xs.length cap], .agg #[.int .i64 wind, .int .i64 voice], .int .i64 p, .int .i64 k] w fun e w' => ∃ r, e = .returned (.tuple #[.agg #[.int .i64 wd, .slice (some ⟨b, o, none⟩) xs.length cap, .int .i64 wind, .int .i64 voice, .map (some r), .func (.func 121) #[] #[]], .int .i64 0]) ∧ DirMap w' r ∧ w.heap.size ≤ r ∧ Below w.heap.size w w' := by
  have HC := Lib.hid (And.intro hc (And.intro ha hp))
  clear hc ha hp
  go_enter Tryz.func78, Tryz.ntmps78
  have hB3 : ∀ o1 o2 o3, Below w.heap.size w (((w.alloc o1).alloc o2).alloc o3) := fun o1 o2 o3 => ((below1 _ _).alloc (by simp) _).alloc (by simp; omega) _
  go_wp2_with fail
  refine (open_ok wd wind voice b o cap xs _ (h.below (hB3 _ _ _)) HC.out.1 HC.out.2.1).mono ?_
  rintro e w4 ⟨r, rfl, hD, hr, hB4⟩
  have hz : w.heap.size + 1 + 1 + 1 ≤ w4.heap.size := by have := hB4.size; simp at this; omega
  have hblk : w4.heap[w.heap.size + 1 + 1]? = some (.cells #[.int .i64 0, .slice none 0 0, .int .i64 0, .int .i64 0, .map none, .nilFunc] 117) := by
    rw [hB4.block _ (by simp)]
    have := World.alloc_heap_new ((w.alloc (.cells #[.int .i64 wd, .slice (some ⟨b, o, none⟩) xs.length cap] 25)).alloc (.cells #[.int .i64 wind, .int .i64 voice] 29)) (.cells #[.int .i64 0, .slice none 0 0, .int .i64 0, .int .i64 0, .map none, .nilFunc] 117)
    simp only [World.size_alloc] at this
    exact this
  have t0 : w4.cell? ⟨w.heap.size, 0, none⟩ = some (.int .i64 wd) := by rw [hB4.cell (p := ⟨w.heap.size, 0, none⟩) (by simp; omega)]; clear hblk hB4; go_simp
  have t1 : w4.cell? ⟨w.heap.size, 1, none⟩ = some (.slice (some ⟨b, o, none⟩) xs.length cap) := by rw [hB4.cell (p := ⟨w.heap.size, 1, none⟩) (by simp; omega)]; clear hblk hB4; go_simp
  have hb1 : w.heap.size < w4.heap.size := by omega
  have b2 : w.heap.size + 1 + 1 < w4.heap.size := by omega
  have HB := Lib.hid ((hB3 _ _ _).trans (hB4.mono (by simp; omega)))
  have HI4 := Lib.hid (hI.below HB.out hI.1)
  have HBLK := Lib.hid hblk
  have HD4 := Lib.hid hD
  have HR := Lib.hid (show w.heap.size ≤ r by simp at hr; omega)
  clear hB4 hB3 hblk h hD hr hI
  go_wp2_with fail
  refine (plotError_any wd b o cap xs _ p k hn (HI4.out.below (below1 _ _) HI4.out.1)).mono ?_
  rintro e w5 ⟨rfl, hB5⟩
  rw [HC.out.2.2]
  have hz5 : w4.heap.size + 1 ≤ w5.heap.size := by have := hB5.size; simp at this; omega
  have hblk : w5.heap[w.heap.size + 1 + 1]? = some (.cells #[.int .i64 0, .slice none 0 0, .int .i64 0, .int .i64 0, .map none, .nilFunc] 117) :=
    (hB5.block _ (by simp; omega)).trans ((Below.heap_alloc _ _ _ b2).trans HBLK.out)
  have hwkb : w5.heap[w4.heap.size]? = some (.cells #[.int .i64 wd, .slice (some ⟨b, o, none⟩) xs.length cap, .int .i64 wind, .int .i64 voice, .map (some r), .func (.func 121) #[] #[]] 117) := (hB5.block _ (by simp)).trans (World.alloc_heap_new _ _)
  have k0 : w5.cell? ⟨w.heap.size + 1 + 1, 0, none⟩ = some (.int .i64 0) := by simp [World.cell?, hblk]
  have k1 : w5.cell? ⟨w.heap.size + 1 + 1, 1, none⟩ = some (.slice none 0 0) := by simp [World.cell?, hblk]
  have k2 : w5.cell? ⟨w.heap.size + 1 + 1, 2, none⟩ = some (.int .i64 0) := by simp [World.cell?, hblk]
  have k3 : w5.cell? ⟨w.heap.size + 1 + 1, 3, none⟩ = some (.int .i64 0) := by simp [World.cell?, hblk]
  have k4 : w5.cell? ⟨w.heap.size + 1 + 1, 4, none⟩ = some (.map none) := by simp [World.cell?, hblk]
  have k5 : w5.cell? ⟨w.heap.size + 1 + 1, 5, none⟩ = some (.nilFunc) := by simp [World.cell?, hblk]
  have kf : ∀ i, w5.frozen? ⟨w.heap.size + 1 + 1, i, none⟩ = false := fun i => by simp [World.frozen?, hblk]
  have m0 : w5.cell? ⟨w4.heap.size, 0, none⟩ = some (.int .i64 wd) := by simp [World.cell?, hwkb]
  have m1 : w5.cell? ⟨w4.heap.size, 1, none⟩ = some (.slice (some ⟨b, o, none⟩) xs.length cap) := by simp [World.cell?, hwkb]
  have m2 : w5.cell? ⟨w4.heap.size, 2, none⟩ = some (.int .i64 wind) := by simp [World.cell?, hwkb]
  have m3 : w5.cell? ⟨w4.heap.size, 3, none⟩ = some (.int .i64 voice) := by simp [World.cell?, hwkb]
  have m4 : w5.cell? ⟨w4.heap.size, 4, none⟩ = some (.map (some r)) := by simp [World.cell?, hwkb]
  have m5 : w5.cell? ⟨w4.heap.size, 5, none⟩ = some (.func (.func 121) #[] #[]) := by simp [World.cell?, hwkb]
  have HB5 := Lib.hid (HB.out.trans ((Below.mono (below1 _ _) (by omega)).trans (hB5.mono (by simp; omega))))
  have hr4 : r < w4.heap.size := (Array.getElem?_eq_some_iff.1 HD4.out).1
  have HD5 := Lib.hid ((hB5.block r (by simp; omega)).trans ((Below.heap_alloc _ _ _ hr4).trans HD4.out))
  have hrb : r ≠ w.heap.size + 1 + 1 := fun e => by subst e; rw [show w5.heap[w.heap.size + 1 + 1]? = _ from HD5.out] at hblk; cases hblk
  have HRB := Lib.hid hrb
  clear hB5 hblk t0 t1 hwkb hr4 hrb
  have hle : w.heap.size ≤ w.heap.size + 1 + 1 := by omega
  go_wp2
  refine bodyPost_ret (v := .tuple #[.agg #[.int .i64 wd, .slice (some ⟨b, o, none⟩) xs.length cap, .int .i64 wind, .int .i64 voice, .map (some r), .func (.func 121) #[] #[]], .int .i64 0]) (by simp [results, Tryz.results78, go_sem, k0, k1, k2, k3, k4, k5, b2]) rfl ⟨r, rfl, ?_, HR.out, ((((((HB5.out.setCell (p := ⟨w.heap.size + 1 + 1, 0, none⟩) hle _).setCell (p := ⟨w.heap.size + 1 + 1, 1, none⟩) hle _).setCell (p := ⟨w.heap.size + 1 + 1, 2, none⟩) hle _).setCell (p := ⟨w.heap.size + 1 + 1, 3, none⟩) hle _).setCell (p := ⟨w.heap.size + 1 + 1, 4, none⟩) hle _).setCell (p := ⟨w.heap.size + 1 + 1, 5, none⟩) hle _)⟩
  unfold DirMap
  rw [Below.heap_setCell _ _ _ _ HRB.out, Below.heap_setCell _ _ _ _ HRB.out, Below.heap_setCell _ _ _ _ HRB.out, Below.heap_setCell _ _ _ _ HRB.out, Below.heap_setCell _ _ _ _ HRB.out, Below.heap_setCell _ _ _ _ HRB.out]
  exact HD5.out
end Go.Proofs.YtimedmkpenbmkaaGreat
