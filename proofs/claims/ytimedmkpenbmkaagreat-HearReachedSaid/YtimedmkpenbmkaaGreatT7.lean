import Derived.Test.YtimedmkpenbmkaaGreatT4
import Derived.Test.YtimedmkpenbmkaaGreatD9
import Derived.Laws.EntriesVeiled
namespace Go.Proofs.YtimedmkpenbmkaaGreat
open Go.RowKit Go.Shelf
set_option linter.unusedSimpArgs false
set_option linter.unusedVariables false

theorem blk_cells6 {W : World} {b : Nat} {v0 v1 v2 v3 v4 v5 : Value} {ty : TypeId} (h : W.heap[b]? = some (.cells #[v0, v1, v2, v3, v4, v5] ty (0, 0))) :
    (W.cell? ⟨b, 0, none⟩ = some v0 ∧ W.cell? ⟨b, 1, none⟩ = some v1 ∧ W.cell? ⟨b, 2, none⟩ = some v2 ∧ W.cell? ⟨b, 3, none⟩ = some v3 ∧ W.cell? ⟨b, 4, none⟩ = some v4 ∧ W.cell? ⟨b, 5, none⟩ = some v5) ∧ (∀ i, W.frozen? ⟨b, i, none⟩ = false) ∧ b < W.heap.size :=
  ⟨voice_cells h, fun i => frozen_of_row W b i _ ty h, (Array.getElem?_eq_some_iff.1 h).1⟩
theorem blk_cells2 {W : World} {b : Nat} {v0 v1 : Value} {ty : TypeId} (h : W.heap[b]? = some (.cells #[v0, v1] ty (0, 0))) : W.cell? ⟨b, 0, none⟩ = some v0 ∧ W.cell? ⟨b, 1, none⟩ = some v1 := by
  refine ⟨?_, ?_⟩ <;> (rw [cell_of_row _ _ _ _ _ _ h]; rfl)

theorem hs6 {w : World} {k c : Nat} {v0 v1 v2 v3 v4 v5 : Value} (hp : k ≠ c) :
    ((((((w.setCell ⟨c, 0, none⟩ v0).setCell ⟨c, 1, none⟩ v1).setCell ⟨c, 2, none⟩ v2).setCell ⟨c, 3, none⟩ v3).setCell ⟨c, 4, none⟩ v4).setCell ⟨c, 5, none⟩ v5).heap[k]? = w.heap[k]? := by
  rw [Below.heap_setCell _ _ _ _ hp, Below.heap_setCell _ _ _ _ hp, Below.heap_setCell _ _ _ _ hp, Below.heap_setCell _ _ _ _ hp, Below.heap_setCell _ _ _ _ hp, Below.heap_setCell _ _ _ _ hp]

/-- what openQuarter answers where there is no error -/
def qWork (wd wind voice : Int) (pl : Value) (r N : Nat) : Value := .agg #[.int .i64 wd, pl, .int .i64 wind, .int .i64 voice, .map (some r), .func (.func 125) #[] #[.pointer (some ⟨N, 0, none⟩)]]

set_option maxHeartbeats 2000000 in
set_option maxRecDepth 100000 in
theorem openQ_ok (wd wind voice : Int) (b o cap : Nat) (xs : List Int) (hv : Value) (E : Int) (nm : List Bool) (w : World) (h : Plots w (some ⟨b, o, none⟩) xs) (hI : Ints w b o xs)
    (hF : ∀ A N W, QC W wd b o cap xs A N (List.replicate 30 false) → Below w.heap.size w W → w.heap.size ≤ N → Calls Tryz.prog 123 #[hv, .func (.func 124) #[] #[.pointer (some ⟨A, 0, none⟩), .pointer (some ⟨N, 0, none⟩)]] W fun e w' => e = .returned (.int .i64 E) ∧ W.grownBy w' (some N) ∧ w'.heap[N]? = some (.cells (nm.map Value.bool).toArray 123 (0, 0)))
    (hck : checkErr wd xs = 0) (ha : airErr wind voice = 0) (hq : E = 0) :
    Calls Tryz.prog 76 #[.agg #[.int .i64 wd, .slice (some ⟨b, o, none⟩) xs.length cap], .agg #[.int .i64 wind, .int .i64 voice], hv] w fun e w' => ∃ r N, e = .returned (.tuple #[qWork wd wind voice (.slice (some ⟨b, o, none⟩) xs.length cap) r N, .int .i64 0]) ∧
      DirMap w' r ∧ w.heap.size ≤ r ∧ w.heap.size ≤ N ∧ w'.heap[N]? = some (.cells (nm.map Value.bool).toArray 123 (0, 0)) ∧ Below w.heap.size w w' := by
  have hn := (check_len hck).1
  have HC := Lib.hid (And.intro hck (And.intro ha hq))
  have HF := Lib.hid hF
  have HI := Lib.hid hI
  have hbl := hI.1
  clear hck ha hq
  have hB4 : ∀ o1 o2 o3, Below w.heap.size w (((w.alloc o1).alloc o2).alloc o3) := fun o1 o2 o3 => al (al (al (Below.refl _ _) _) _) _
  have HP := Lib.hid (fun W (hB : Below w.heap.size w W) => open_ok wd wind voice b o cap xs W (h.below hB) HC.out.1 HC.out.2.1)
  have hT0 : ∀ cs o2 o3, (((w.alloc (.cells cs 25)).alloc o2).alloc o3).heap[w.heap.size]? = some (.cells cs 25 (0, 0)) := fun cs o2 o3 => by
    rw [Below.heap_alloc _ _ _ (by simp; omega), Below.heap_alloc _ _ _ (by simp)]; exact heap_alloc_last _ _
  have hR0 : ∀ o1 o2 cs, (((w.alloc o1).alloc o2).alloc (.cells cs 117)).heap[w.heap.size + 1 + 1]? = some (.cells cs 117 (0, 0)) := fun o1 o2 cs => by
    have := heap_alloc_last ((w.alloc o1).alloc o2) (.cells cs 117); simpa using this
  clear h hI hF
  go_enter Tryz.func76, Tryz.ntmps76
  go_wp2_with fail
  refine (HP.out _ (hB4 _ _ _)).mono ?_
  rintro e w4 ⟨r, rfl, hD, hr, hB⟩
  have HT := Lib.hid ((hB.block _ (by simp; omega)).trans (hT0 _ _ _))
  have HR := Lib.hid ((hB.block _ (by simp)).trans (hR0 _ _ _))
  have HB := Lib.hid (join (hB4 _ _ _) hB)
  have HD := Lib.hid hD
  have hz4 : w.heap.size + 1 + 1 + 1 ≤ w4.heap.size := by have := hB.size; simp at this; omega
  have hr0 : w.heap.size ≤ r := by simp at hr; omega
  have hrl : r < w4.heap.size := dir_lt hD
  clear hT0 hR0 hB hD hB4 hr
  have hQ5 : ∀ o1, QC ((w4.alloc o1).alloc (.cells ((List.replicate 30 false).map Value.bool).toArray 123)) wd b o cap xs w.heap.size (w4.heap.size + 1) (List.replicate 30 false) := fun o1 => by
    obtain ⟨t0, t1⟩ := blk_cells2 HT.out
    have hb2 : Below w4.heap.size w4 ((w4.alloc o1).alloc (.cells ((List.replicate 30 false).map Value.bool).toArray 123)) := al (al (Below.refl _ _) _) _
    refine ⟨(hb2.cell (p := ⟨w.heap.size, 0, none⟩) (by show w.heap.size < w4.heap.size; omega)).trans t0, (hb2.cell (p := ⟨w.heap.size, 1, none⟩) (by show w.heap.size < w4.heap.size; omega)).trans t1,
      (HI.out.below HB.out hbl).below hb2 (by omega), ?_, ⟨by omega, by omega⟩, by simp⟩
    have := heap_alloc_last (w4.alloc o1) (.cells ((List.replicate 30 false).map Value.bool).toArray 123)
    simpa using this
  have hW5 : ∀ cs o2, ((w4.alloc (.cells cs 117)).alloc o2).heap[w4.heap.size]? = some (.cells cs 117 (0, 0)) := fun cs o2 => by
    rw [Below.heap_alloc _ _ _ (by simp)]; exact heap_alloc_last _ _
  have hB5 : ∀ o1 o2, Below w4.heap.size w4 ((w4.alloc o1).alloc o2) := fun o1 o2 => al (al (Below.refl _ _) _) _
  have HQ5 := Lib.hid hQ5
  have HW5 := Lib.hid hW5
  have HB5 := Lib.hid hB5
  clear hQ5 hW5 hB5
  go_wp2_with fail
  refine (HF.out w.heap.size (w4.heap.size + 1) _ (HQ5.out _) (join HB.out (HB5.out _ _)) (by omega)).mono ?_
  rintro e w6 ⟨rfl, hg6, hN6⟩
  rw [HC.out.2.2]
  have hbR : w6.heap[w.heap.size + 1 + 1]? = some (.cells #[.int .i64 0, .slice none 0 0, .int .i64 0, .int .i64 0, .map none, .nilFunc] 117 (0, 0)) :=
    (hg6.block _ (by simp; omega) (fun e => by injection e with e; omega)).trans (((HB5.out _ _).block _ (by omega)).trans HR.out)
  have hbW := (hg6.block w4.heap.size (by simp; omega) (fun e => by injection e with e; omega)).trans (HW5.out _ _)
  have hD6 : DirMap w6 r := (hg6.block r (by simp; omega) (fun e => by injection e with e; omega)).trans (((HB5.out _ _).block r hrl).trans HD.out)
  have hBel6 : Below w.heap.size w w6 := below_of_grown (join HB.out (HB5.out _ _)) hg6 (by omega) (by simp; omega)
  obtain ⟨⟨k0, k1, k2, k3, k4, k5⟩, kf, kl⟩ := blk_cells6 hbR
  obtain ⟨⟨m0, m1, m2, m3, m4, m5⟩, mf, ml⟩ := blk_cells6 hbW
  have HN6 := Lib.hid hN6
  have HD6 := Lib.hid hD6
  have HB6 := Lib.hid hBel6
  have hrR : r ≠ w.heap.size + 1 + 1 := fun e => by subst e; rw [show w6.heap[w.heap.size + 1 + 1]? = _ from hD6] at hbR; cases hbR
  have hrW : r ≠ w4.heap.size := by omega
  have HRR := Lib.hid hrR
  have HRW := Lib.hid hrW
  clear hg6 hN6 hD6 hBel6 hbR hbW hrR hrW
  have hle : w.heap.size ≤ w.heap.size + 1 + 1 := by omega
  have hle2 : w.heap.size ≤ w4.heap.size := by omega
  go_wp2
  refine bodyPost_ret (v := .tuple #[qWork wd wind voice (.slice (some ⟨b, o, none⟩) xs.length cap) r (w4.heap.size + 1), .int .i64 0]) (by simp [results, Tryz.results76, go_sem, k0, k1, k2, k3, k4, k5, kl, qWork]) rfl ⟨r, w4.heap.size + 1, rfl, ?_, hr0, by omega, ?_, ?_⟩
  · exact dir_setc6 (dir_setc HD6.out (by exact HRW.out) _) HRR.out
  · rw [hs6 (by omega), Below.heap_setCell _ _ _ _ (by show w4.heap.size + 1 ≠ w4.heap.size; omega)]; exact HN6.out
  · exact setc6 (setc HB6.out (by exact hle2)) hle
set_option maxHeartbeats 2000000 in
set_option maxRecDepth 100000 in
theorem openQ_q (wd wind voice : Int) (b o cap : Nat) (xs : List Int) (hv : Value) (E : Int) (nm : List Bool) (w : World) (h : Plots w (some ⟨b, o, none⟩) xs) (hI : Ints w b o xs)
    (hF : ∀ A N W, QC W wd b o cap xs A N (List.replicate 30 false) → Below w.heap.size w W → w.heap.size ≤ N → Calls Tryz.prog 123 #[hv, .func (.func 124) #[] #[.pointer (some ⟨A, 0, none⟩), .pointer (some ⟨N, 0, none⟩)]] W fun e w' => e = .returned (.int .i64 E) ∧ W.grownBy w' (some N) ∧ w'.heap[N]? = some (.cells (nm.map Value.bool).toArray 123 (0, 0)))
    (hck : checkErr wd xs = 0) (ha : airErr wind voice = 0) (hq : E ≠ 0) :
    Calls Tryz.prog 76 #[.agg #[.int .i64 wd, .slice (some ⟨b, o, none⟩) xs.length cap], .agg #[.int .i64 wind, .int .i64 voice], hv] w fun e w' => e = .returned (.tuple #[zeroWork, .int .i64 E]) ∧ Below w.heap.size w w' := by
  have hn := (check_len hck).1
  have HC := Lib.hid (And.intro hck (And.intro ha hq))
  have HF := Lib.hid hF
  have HI := Lib.hid hI
  have hbl := hI.1
  clear hck ha hq
  have hB4 : ∀ o1 o2 o3, Below w.heap.size w (((w.alloc o1).alloc o2).alloc o3) := fun o1 o2 o3 => al (al (al (Below.refl _ _) _) _) _
  have HP := Lib.hid (fun W (hB : Below w.heap.size w W) => open_ok wd wind voice b o cap xs W (h.below hB) HC.out.1 HC.out.2.1)
  have hT0 : ∀ cs o2 o3, (((w.alloc (.cells cs 25)).alloc o2).alloc o3).heap[w.heap.size]? = some (.cells cs 25 (0, 0)) := fun cs o2 o3 => by
    rw [Below.heap_alloc _ _ _ (by simp; omega), Below.heap_alloc _ _ _ (by simp)]; exact heap_alloc_last _ _
  have hR0 : ∀ o1 o2 cs, (((w.alloc o1).alloc o2).alloc (.cells cs 117)).heap[w.heap.size + 1 + 1]? = some (.cells cs 117 (0, 0)) := fun o1 o2 cs => by
    have := heap_alloc_last ((w.alloc o1).alloc o2) (.cells cs 117); simpa using this
  clear h hI hF
  go_enter Tryz.func76, Tryz.ntmps76
  go_wp2_with fail
  refine (HP.out _ (hB4 _ _ _)).mono ?_
  rintro e w4 ⟨r, rfl, hD, hr, hB⟩
  have HT := Lib.hid ((hB.block _ (by simp; omega)).trans (hT0 _ _ _))
  have HR := Lib.hid ((hB.block _ (by simp)).trans (hR0 _ _ _))
  have HB := Lib.hid (join (hB4 _ _ _) hB)
  have HD := Lib.hid hD
  have hz4 : w.heap.size + 1 + 1 + 1 ≤ w4.heap.size := by have := hB.size; simp at this; omega
  have hr0 : w.heap.size ≤ r := by simp at hr; omega
  have hrl : r < w4.heap.size := dir_lt hD
  clear hT0 hR0 hB hD hB4 hr
  have hQ5 : ∀ o1, QC ((w4.alloc o1).alloc (.cells ((List.replicate 30 false).map Value.bool).toArray 123)) wd b o cap xs w.heap.size (w4.heap.size + 1) (List.replicate 30 false) := fun o1 => by
    obtain ⟨t0, t1⟩ := blk_cells2 HT.out
    have hb2 : Below w4.heap.size w4 ((w4.alloc o1).alloc (.cells ((List.replicate 30 false).map Value.bool).toArray 123)) := al (al (Below.refl _ _) _) _
    refine ⟨(hb2.cell (p := ⟨w.heap.size, 0, none⟩) (by show w.heap.size < w4.heap.size; omega)).trans t0, (hb2.cell (p := ⟨w.heap.size, 1, none⟩) (by show w.heap.size < w4.heap.size; omega)).trans t1,
      (HI.out.below HB.out hbl).below hb2 (by omega), ?_, ⟨by omega, by omega⟩, by simp⟩
    have := heap_alloc_last (w4.alloc o1) (.cells ((List.replicate 30 false).map Value.bool).toArray 123)
    simpa using this
  have hW5 : ∀ cs o2, ((w4.alloc (.cells cs 117)).alloc o2).heap[w4.heap.size]? = some (.cells cs 117 (0, 0)) := fun cs o2 => by
    rw [Below.heap_alloc _ _ _ (by simp)]; exact heap_alloc_last _ _
  have hB5 : ∀ o1 o2, Below w4.heap.size w4 ((w4.alloc o1).alloc o2) := fun o1 o2 => al (al (Below.refl _ _) _) _
  have HQ5 := Lib.hid hQ5
  have HW5 := Lib.hid hW5
  have HB5 := Lib.hid hB5
  clear hQ5 hW5 hB5
  go_wp2_with fail
  refine (HF.out w.heap.size (w4.heap.size + 1) _ (HQ5.out _) (join HB.out (HB5.out _ _)) (by omega)).mono ?_
  rintro e w6 ⟨rfl, hg6, hN6⟩
  have hE : (E != 0) = true := by simpa using HC.out.2.2
  have hbR : w6.heap[w.heap.size + 1 + 1]? = some (.cells #[.int .i64 0, .slice none 0 0, .int .i64 0, .int .i64 0, .map none, .nilFunc] 117 (0, 0)) :=
    (hg6.block _ (by simp; omega) (fun e => by injection e with e; omega)).trans (((HB5.out _ _).block _ (by omega)).trans HR.out)
  have hbW := (hg6.block w4.heap.size (by simp; omega) (fun e => by injection e with e; omega)).trans (HW5.out _ _)
  have hD6 : DirMap w6 r := (hg6.block r (by simp; omega) (fun e => by injection e with e; omega)).trans (((HB5.out _ _).block r hrl).trans HD.out)
  have hBel6 : Below w.heap.size w w6 := below_of_grown (join HB.out (HB5.out _ _)) hg6 (by omega) (by simp; omega)
  obtain ⟨⟨k0, k1, k2, k3, k4, k5⟩, kf, kl⟩ := blk_cells6 hbR
  obtain ⟨⟨m0, m1, m2, m3, m4, m5⟩, mf, ml⟩ := blk_cells6 hbW
  have HN6 := Lib.hid hN6
  have HD6 := Lib.hid hD6
  have HB6 := Lib.hid hBel6
  have hrR : r ≠ w.heap.size + 1 + 1 := fun e => by subst e; rw [show w6.heap[w.heap.size + 1 + 1]? = _ from hD6] at hbR; cases hbR
  have hrW : r ≠ w4.heap.size := by omega
  have HRR := Lib.hid hrR
  have HRW := Lib.hid hrW
  clear hg6 hN6 hD6 hBel6 hbR hbW hrR hrW
  have hle : w.heap.size ≤ w.heap.size + 1 + 1 := by omega
  have hle2 : w.heap.size ≤ w4.heap.size := by omega
  go_wp2
  refine bodyPost_ret (v := .tuple #[zeroWork, .int .i64 E]) (by simp [results, Tryz.results76, go_sem, k0, k1, k2, k3, k4, k5, kl, zeroWork]) rfl ⟨rfl, ?_⟩
  exact setc6 HB6.out hle

set_option maxHeartbeats 2000000 in
set_option maxRecDepth 100000 in
theorem openQ_err (wd wind voice : Int) (a : Option Addr) (cap : Nat) (xs : List Int) (hv : Value) (w : World) (h : Plots w a xs) (hc : openErr wd xs wind voice ≠ 0) :
    Calls Tryz.prog 76 #[.agg #[.int .i64 wd, .slice a xs.length cap], .agg #[.int .i64 wind, .int .i64 voice], hv] w fun e w' => e = .returned (.tuple #[zeroWork, .int .i64 (openErr wd xs wind voice)]) ∧ Below w.heap.size w w' := by
  have hB4 : ∀ o1 o2 o3, Below w.heap.size w (((w.alloc o1).alloc o2).alloc o3) := fun o1 o2 o3 => al (al (al (Below.refl _ _) _) _) _
  have HP := Lib.hid (fun W (hB : Below w.heap.size w W) => open_err wd wind voice a cap xs W (h.below hB) hc)
  have hR0 : ∀ o1 o2 cs, (((w.alloc o1).alloc o2).alloc (.cells cs 117)).heap[w.heap.size + 1 + 1]? = some (.cells cs 117 (0, 0)) := fun o1 o2 cs => by
    have := heap_alloc_last ((w.alloc o1).alloc o2) (.cells cs 117); simpa using this
  have hE : (openErr wd xs wind voice != 0) = true := by simpa using hc
  obtain ⟨E, hEE⟩ : ∃ E, E = openErr wd xs wind voice := ⟨_, rfl⟩
  rw [← hEE] at hE ⊢
  have HEE := Lib.hid hEE
  unfold zeroWork at HP
  clear h hc hEE
  go_enter Tryz.func76, Tryz.ntmps76
  go_wp2_with fail
  refine (HP.out _ (hB4 _ _ _)).mono ?_
  rintro e w4 ⟨rfl, hB⟩
  rw [← HEE.out]
  have hbR := (hB.block _ (by simp)).trans (hR0 _ _ _)
  have HB := Lib.hid (join (hB4 _ _ _) hB)
  have hz4 : w.heap.size + 1 + 1 + 1 ≤ w4.heap.size := by have := hB.size; simp at this; omega
  obtain ⟨⟨k0, k1, k2, k3, k4, k5⟩, kf, kl⟩ := blk_cells6 hbR
  have hle : w.heap.size ≤ w.heap.size + 1 + 1 := by omega
  clear hR0 hB hB4 hbR
  go_wp2
  refine bodyPost_ret (v := .tuple #[zeroWork, .int .i64 E]) (by simp [results, Tryz.results76, go_sem, k0, k1, k2, k3, k4, k5, kl, zeroWork]) rfl ⟨rfl, ?_⟩
  exact al (setc6 HB.out hle) _
end Go.Proofs.YtimedmkpenbmkaaGreat

namespace Go.Proofs.YtimedmkpenbmkaaGreat
open Go.RowKit Go.Shelf
set_option linter.unusedSimpArgs false
set_option linter.unusedVariables false

/-- what a call of openQuarter is good for where there is no error -/
def OQ (w : World) (wd wind voice : Int) (pl : Value) (hv : Value) (nm : List Bool) : Prop :=
  ∀ W, Below w.heap.size w W → Calls Tryz.prog 76 #[.agg #[.int .i64 wd, pl], .agg #[.int .i64 wind, .int .i64 voice], hv] W fun e w' => ∃ r N, e = .returned (.tuple #[qWork wd wind voice pl r N, .int .i64 0]) ∧
      DirMap w' r ∧ W.heap.size ≤ r ∧ W.heap.size ≤ N ∧ w'.heap[N]? = some (.cells (nm.map Value.bool).toArray 123 (0, 0)) ∧ Below W.heap.size W w'
def OQerr (w : World) (wd wind voice : Int) (pl : Value) (hv : Value) (E : Int) : Prop :=
  E ≠ 0 ∧ ∀ W, Below w.heap.size w W → Calls Tryz.prog 76 #[.agg #[.int .i64 wd, pl], .agg #[.int .i64 wind, .int .i64 voice], hv] W fun e w' => e = .returned (.tuple #[zeroWork, .int .i64 E]) ∧ Below W.heap.size W w'

theorem callF144 (args : Array Value) (W : World) : (callFunc 125 args).run Tryz.prog W = .ok (.enter 125 args) W := by kernel_rfl
theorem callF128 (args : Array Value) (W : World) : (callFunc 121 args).run Tryz.prog W = .ok (.enter 121 args) W := by kernel_rfl

theorem cntQ_call (N : Nat) (nm : List Bool) (hl : nm.length = 30) (w : World) (hN : w.heap[N]? = some (.cells (nm.map Value.bool).toArray 123 (0, 0))) : ∀ p : Nat, p < 30 → ∀ W, Below w.heap.size w W → Calls Tryz.prog 125 (#[.int .i64 p] ++ #[.pointer (some ⟨N, 0, none⟩)]) W fun e w' => e = .returned (.bool (nm.getD p false)) ∧ Below W.heap.size W w' := fun p hp W hB => by
  refine (cntQ_any N nm hl p hp W ((hB.block N (Array.getElem?_eq_some_iff.1 hN).1).trans hN)).mono ?_
  rintro e w' ⟨h, rfl⟩
  exact ⟨h, Below.refl _ _⟩

theorem own_base {w : World} {base base' : Nat} {e : TypeId} {size : Nat} {v : Value} {n : Nat} {xs : List Value} (h : w.ownsRow base e size v n xs) (hb : base' ≤ base) : w.ownsRow base' e size v n xs := by
  refine ⟨h.1, ?_⟩
  rcases h.2 with h1 | ⟨g, cap, cur, h1, h2, h3⟩
  · exact .inl h1
  · exact .inr ⟨g, cap, cur, h1, by omega, h3⟩
theorem lis_row (t : Hr.Town) (wind voice : Int) (cnt : Nat → Bool) : (∀ y ∈ lis t wind voice cnt, y.2.length = 30) ∧ ∀ y ∈ lis t wind voice cnt, (lisRow y).length = 31 := by
  have h : ∀ y ∈ lis t wind voice cnt, y.2.length = 30 := fun y hy => by
    unfold lis lisTo at hy
    obtain ⟨p, _, rfl⟩ := List.mem_map.1 hy
    exact ears_len _ _ _ _
  exact ⟨h, fun y hy => lisRow_len (h y hy)⟩

/-- what is left of the region 'listeners(w, tables(w))' -/
def spL (t : Hr.Town) (wind voice : Int) (cnt : Nat → Bool) (wk : Value) (B : Nat) : Nat → List Value → Value → World → Prop
  | 0, _, v, _ => v = wk
  | 1, _, v, _ => v = wk
  | 2, _, v, w => ∃ vs, v = .agg vs ∧ TabsTo t wind 30 w vs
  | 3, _, v, w => w.ownsRow B 126 31 v (lis t wind voice cnt).length (lisV (lis t wind voice cnt))
  | 4, [_, _, _, u], v, _ => v = u
  | _, _, _, _ => False
theorem spL_stable (t : Hr.Town) (wind voice : Int) (cnt : Nat → Bool) (wk : Value) (B : Nat) : ∀ i L v w w', spL t wind voice cnt wk B i L v w → Rs.Gr w w' → spL t wind voice cnt wk B i L v w' := by
  intro i L v w w' h hg
  match i, L with
  | 0, _ => exact h
  | 1, _ => exact h
  | 2, _ => obtain ⟨vs, h1, h2⟩ := h; exact ⟨vs, h1, h2.below hg⟩
  | 3, _ => exact own_below h hg
  | 4, [_, _, _, u] => exact h
  | 4, [] => exact h
  | 4, [_] => exact h
  | 4, [_, _] => exact h
  | 4, [_, _, _] => exact h
  | 4, _ :: _ :: _ :: _ :: _ :: _ => exact h
  | _ + 5, _ => exact h

set_option maxHeartbeats 2000000 in
set_option maxRecDepth 100000 in
theorem hearers_ok (t : Hr.Town) (hok : t.Ok) (wind voice : Int) (hw0 : 0 ≤ wind) (hw4 : wind ≤ 4) (b o cap : Nat) (hv : Value) (nm : List Bool) (hnl : nm.length = 30) (w : World) (hI : Ints w b o t.plots)
    (hOQ : OQ w t.wide wind voice (.slice (some ⟨b, o, none⟩) t.plots.length cap) hv nm) :
    Calls Tryz.prog 70 #[.agg #[.int .i64 t.wide, .slice (some ⟨b, o, none⟩) t.plots.length cap], .agg #[.int .i64 wind, .int .i64 voice], hv] w fun e w' =>
      ∃ v, e = .returned (.tuple #[v, .int .i64 (firstE (lis t wind voice (nm.getD · false)))]) ∧ Below w.heap.size w w' ∧ (firstE (lis t wind voice (nm.getD · false)) ≠ 0 → v = .slice none 0 0) ∧
        (firstE (lis t wind voice (nm.getD · false)) = 0 → w'.ownsRow w.heap.size 126 31 v (lis t wind voice (nm.getD · false)).length (lisV (lis t wind voice (nm.getD · false)))) := by
  have HI := Lib.hid hI
  have HOQ := Lib.hid hOQ
  have hbl := hI.1
  clear hI hOQ
  have hB2 : ∀ o1 o2, Below w.heap.size w ((w.alloc o1).alloc o2) := fun o1 o2 => al (al (Below.refl _ _) _) _
  go_enter Tryz.func70, Tryz.ntmps70
  go_wp2_with fail
  refine (HOQ.out _ (hB2 _ _)).mono ?_
  rintro e w1 ⟨r, N, rfl, hD, hr, hN0, hN, hB⟩
  unfold qWork
  have HB := Lib.hid (join (hB2 _ _) hB)
  have HD := Lib.hid hD
  have HN := Lib.hid hN
  have hrl : r < w1.heap.size := dir_lt hD
  have hNl : N < w1.heap.size := (Array.getElem?_eq_some_iff.1 hN).1
  have hz1 : w.heap.size + 1 + 1 ≤ w1.heap.size := by have := hB.size; simp at this; omega
  clear hD hN hB hr
  go_wp2_with fail
  obtain ⟨wk, hwk⟩ : ∃ wk : Value, wk = .agg #[.int .i64 t.wide, .slice (some ⟨b, o, none⟩) t.plots.length cap, .int .i64 wind, .int .i64 voice, .map (some r), .func (.func 125) #[] #[.pointer (some ⟨N, 0, none⟩)]] := ⟨_, rfl⟩
  have hW2 : ∀ cs, Below w1.heap.size w1 (w1.alloc (.cells cs 117)) := fun cs => below1 _ _
  refine Rs.region_gen 5 [[], [], [1], [0, 1, 2], [0, 1, 2, 3]] [some 21, some 22, some 23, some 24, some 10] (spL t wind voice (nm.getD · false) wk w.heap.size) (by kernel_rfl) (by kernel_rfl) rfl (spL_stable _ _ _ _ _ _) ?_ ?_
  · have hload : ∀ (d : List Nat) (V : Nat → Value) (w' : World) (X : Value), X = wk → True := fun _ _ _ _ _ => trivial
    refine ⟨fun V w' hG hs => ?_, fun V w' hG hs => ?_, fun V w' hG hs => ?_, fun V w' hG hs => ?_, fun V w' hG hs => ?_, trivial⟩
    all_goals
      have hb0 := (hG.block w1.heap.size (by simp)).trans (heap_alloc_last _ _)
      obtain ⟨⟨k0, k1, k2, k3, k4, k5⟩, _, kl⟩ := blk_cells6 hb0
      rw [if_pos (by rfl)]
    · refine Rs.GrowL.value (v := wk) (w' := w') ?_ (Rs.Gr.refl _) rfl
      rw [hwk]
      simp [go_sem, Rs.look, k0, k1, k2, k3, k4, k5]
    · refine Rs.GrowL.value (v := wk) (w' := w') ?_ (Rs.Gr.refl _) rfl
      rw [hwk]
      simp [go_sem, Rs.look, k0, k1, k2, k3, k4, k5]
    · have e1 : V 1 = wk := hs 1 (by simp)
      refine Rs.GrowL.call (f := 74) (args := #[wk]) (by simp [go_sem, Rs.look, e1]) ?_
      have hBw := join (al HB.out _) hG
      rw [hwk]
      refine (tables_any t hok wind voice hw0 hw4 b o cap r _ _ _ w' (HI.out.below hBw hbl) ((hG.block r (by simp; omega)).trans (dir_al HD.out hrl _))).mono ?_
      rintro e w2 ⟨vs, rfl, hT, hB2⟩
      exact ⟨_, rfl, hB2, vs, rfl, hT⟩
    · have e0 : V 0 = wk := hs 0 (by simp)
      obtain ⟨vs, e2, hT⟩ : ∃ vs, V 2 = .agg vs ∧ TabsTo t wind 30 w' vs := hs 2 (by simp)
      refine Rs.GrowL.call (f := 73) (args := #[wk, .agg vs]) (by simp [go_sem, Rs.look, e0, e2]) ?_
      have hBw := join (al HB.out _) hG
      rw [hwk]
      have hN' := (hG.block N (by simp; omega)).trans ((Below.heap_alloc _ _ _ hNl).trans HN.out)
      refine (listeners_any t hok wind voice b o cap _ 125 _ (nm.getD · false) vs w' (HI.out.below hBw hbl) hT callF144 (fun p hp => cntQ_call N nm hnl w' hN' p (by have := hok.n30; omega))).mono ?_
      rintro e w2 ⟨v, rfl, hown, hB2⟩
      exact ⟨_, rfl, hB2, own_base hown (by have := hBw.size; omega)⟩
    · refine Rs.GrowL.value (v := V 3) (w' := w') (by simp [go_sem, Rs.look]) (Rs.Gr.refl _) rfl
  · intro V w' hG hs
    have e0 : V 0 = wk := hs 0 (by omega)
    have e1 : V 1 = wk := hs 1 (by omega)
    have e4 : V 4 = V 3 := hs 4 (by omega)
    have h3 : w'.ownsRow w.heap.size 126 31 (V 3) (lis t wind voice (nm.getD · false)).length (lisV (lis t wind voice (nm.getD · false))) := hs 3 (by omega)
    obtain ⟨vs, e2, _⟩ : ∃ vs, V 2 = .agg vs ∧ TabsTo t wind 30 w' vs := hs 2 (by omega)
    have hBw := join (al HB.out (.cells #[.int .i64 t.wide, .slice (some ⟨b, o, none⟩) t.plots.length cap, .int .i64 wind, .int .i64 voice, .map (some r), .func (.func 125) #[] #[.pointer (some ⟨N, 0, none⟩)]] 117)) hG
    simp only [Rs.canon, Rs.dstOf, List.range_succ, List.range_zero, List.nil_append, List.cons_append, List.foldl_cons, List.foldl_nil, List.drop_succ_cons, List.drop_zero, List.drop_nil, List.getElem?_toArray, List.getElem?_cons_succ, List.getElem?_cons_zero, Option.bind_some, Act.put, List.getD_cons_succ, List.getD_cons_zero, List.setIfInBounds_toArray, List.set_cons_succ, List.set_cons_zero]
    rw [e0, e1, e2, e4]
    obtain ⟨lr1, lr2⟩ := lis_row t wind voice (nm.getD · false)
    have hlen : (lis t wind voice (nm.getD · false)).length ≤ 30 := Nat.le_trans (lisTo_len t wind voice _ t.len) hok.n30
    obtain ⟨L, hL⟩ : ∃ L, L = lis t wind voice (nm.getD · false) := ⟨_, rfl⟩
    rw [← hL] at h3 lr1 lr2 hlen
    have HLD := Lib.hid hL
    have hrows := own_rows lr2 h3
    have H3 := Lib.hid h3
    have HBW := Lib.hid hBw
    have HL1 := Lib.hid lr1
    generalize V 3 = v at hrows H3 ⊢
    clear hs e0 e1 e2 e4 h3 hBw hL lr1 lr2 hG hwk hW2
    have hend : ∀ w2, Below w'.heap.size w' w2 → True := fun _ _ => trivial
    rcases hrows with ⟨hnil, rfl⟩ | ⟨g, cp, rfl, hgb, hR⟩
    · have HNIL := Lib.hid hnil
      clear hnil
      go_wp2_with fail
      refine (firstDeaf_none _ _ _ _).mono ?_
      rintro e w2 ⟨rfl, rfl⟩
      go_wp2
      go_ret2
      have h0 : firstE (lis t wind voice (nm.getD · false)) = 0 := by rw [← HLD.out, HNIL.out]; rfl
      rw [h0, ← HLD.out]
      exact ⟨_, rfl, HBW.out, fun _ => rfl, fun _ => H3.out⟩
    · have HR := Lib.hid hR
      clear hR
      go_wp2_with fail
      refine (firstDeaf_any g cp L HL1.out hlen w' HR.out).mono ?_
      rintro e w2 ⟨rfl, hB2⟩
      have HB2 := Lib.hid (join HBW.out hB2)
      have H32 := Lib.hid (own_below H3.out hB2)
      obtain ⟨E, hE⟩ : ∃ E, firstE L = E := ⟨_, rfl⟩
      rw [hE]
      have HE := Lib.hid hE
      clear hE hB2
      by_cases h0 : E = 0
      · subst h0
        go_wp2
        go_ret2
        rw [← HLD.out]
        exact ⟨_, by rw [HE.out]; rfl, HB2.out, fun h => absurd HE.out h, fun _ => H32.out⟩
      · have h0' : (E != 0) = true := by simpa using h0
        have H0 := Lib.hid h0
        clear h0
        go_wp2
        go_ret2
        rw [← HLD.out]
        exact ⟨.slice none 0 0, by rw [HE.out]; rfl, HB2.out, fun _ => rfl, fun h => absurd (HE.out.symm.trans h) H0.out⟩

set_option maxHeartbeats 2000000 in
set_option maxRecDepth 100000 in
theorem hearers_err (wd wind voice : Int) (pl : Value) (hv : Value) (E : Int) (w : World) (hOQ : OQerr w wd wind voice pl hv E) :
    Calls Tryz.prog 70 #[.agg #[.int .i64 wd, pl], .agg #[.int .i64 wind, .int .i64 voice], hv] w fun e w' => e = .returned (.tuple #[.slice none 0 0, .int .i64 E]) ∧ Below w.heap.size w w' := by
  have hE : (E != 0) = true := by simpa using hOQ.1
  have HOQ := Lib.hid hOQ.2
  clear hOQ
  have hB2 : ∀ o1 o2, Below w.heap.size w ((w.alloc o1).alloc o2) := fun o1 o2 => al (al (Below.refl _ _) _) _
  unfold zeroWork at HOQ
  go_enter Tryz.func70, Tryz.ntmps70
  go_wp2_with fail
  refine (HOQ.out _ (hB2 _ _)).mono ?_
  rintro e w1 ⟨rfl, hB⟩
  have HB := Lib.hid (join (hB2 _ _) hB)
  clear hB hB2
  go_wp2
  go_ret2
  exact ⟨rfl, al HB.out _⟩
end Go.Proofs.YtimedmkpenbmkaaGreat
