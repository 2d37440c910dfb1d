import Derived.Test.YtimedmkpenbmkaaGreatProg
import Derived.Test.YtimedmkpenbmkaaGreatMath
import Derived.RangeFuncNested
import Derived.RangeFuncBound
import Derived.RangeFuncCalls
import Derived.RangeFuncLeaves
import Derived.Shelf.Abstract
import Derived.Shelf.RegionOpen
import Derived.WalkKit
import Derived.OwnWalkIn
import Derived.TacticsInMore
import Derived.LoopNIn
import Derived.LoopIn
import Derived.WalkSpells
import Derived.BigQuiet
import Derived.Lib.Hide
set_option linter.unusedSimpArgs false
set_option linter.unusedVariables false
namespace Go.Proofs.YtimedmkpenbmkaaGreat
open Go.RowKit
/-- the cells of a row of ints -/
def Ints (w : World) (b o : Nat) (xs : List Int) : Prop := b < w.heap.size ∧ ∀ i, i < xs.length → w.cell? ⟨b, o + i, none⟩ = some (.int .i64 (xs.getD i 0))

def dirEntries : Array MapEntry := #[
  ⟨.int .i64 1, .agg #[.int .i64 (-1), .int .i64 0], 0⟩, ⟨.int .i64 2, .agg #[.int .i64 0, .int .i64 1], 1⟩,
  ⟨.int .i64 3, .agg #[.int .i64 1, .int .i64 0], 2⟩, ⟨.int .i64 4, .agg #[.int .i64 0, .int .i64 (-1)], 3⟩]
def DirMap (w : World) (r : Nat) : Prop := w.heap[r]? = some (.map dirEntries 4)
theorem run_getObj_map {P : Program} {w : World} {r : Nat} {E : Array MapEntry} {c : Nat} (h : w.heap[r]? = some (.map E c)) : (getObj r).run P w = .ok (.map E c) w := by
  simp [getObj, Sem.run, h]

theorem check25 (e : Bool) (d : Int) (w : World) : (Instr.checkKey e 10000 27 (.int .i64 d)).run Tryz.prog w = .ok () w := by kernel_rfl
theorem find_dir1 (w : World) : (Instr.findKey 27 (.int .i64 1) dirEntries.toList).run Tryz.prog w = .ok (some (0, .agg #[.int .i64 (-1), .int .i64 0])) w := by kernel_rfl
theorem find_dir2 (w : World) : (Instr.findKey 27 (.int .i64 2) dirEntries.toList).run Tryz.prog w = .ok (some (1, .agg #[.int .i64 0, .int .i64 1])) w := by kernel_rfl
theorem find_dir3 (w : World) : (Instr.findKey 27 (.int .i64 3) dirEntries.toList).run Tryz.prog w = .ok (some (2, .agg #[.int .i64 1, .int .i64 0])) w := by kernel_rfl
theorem find_dir4 (w : World) : (Instr.findKey 27 (.int .i64 4) dirEntries.toList).run Tryz.prog w = .ok (some (3, .agg #[.int .i64 0, .int .i64 (-1)])) w := by kernel_rfl
theorem find_dir0 (w : World) : (Instr.findKey 27 (.int .i64 0) dirEntries.toList).run Tryz.prog w = .ok none w := by kernel_rfl
theorem zero189 (w : World) : (zeroValue 186).run Tryz.prog w = .ok (.agg #[.int .i64 0, .int .i64 0]) w := by kernel_rfl
theorem look_dir {w : World} {r : Nat} (h : DirMap w r) (d : Int) (hd : 0 ≤ d) (hd4 : d ≤ 4) :
    (Instr.lookup 115 (.map (some r)) (.int .i64 d) false).run Tryz.prog w = .ok (.agg #[.int .i64 (Hr.stepOf d).1, .int .i64 (Hr.stepOf d).2]) w := by
  unfold DirMap at h
  have hg := run_getObj_map (P := Tryz.prog) h
  have hck : ∀ d, (Instr.checkKey dirEntries.isEmpty 10000 27 (.int .i64 d)).run Tryz.prog w = .ok () w := fun d => check25 _ _ _
  have : d = 0 ∨ d = 1 ∨ d = 2 ∨ d = 3 ∨ d = 4 := by omega
  unfold Instr.lookup
  rcases this with rfl | rfl | rfl | rfl | rfl <;>
  simp [go_sem, hg, hck, find_dir0, find_dir1, find_dir2, find_dir3, find_dir4, zero189, Hr.stepOf]

theorem run_setObj_new (P : Program) (w : World) (E E' : Array MapEntry) (c c' : Nat) : (setObj w.heap.size (.map E' c')).run P (w.alloc (.map E c)) = .ok () (w.alloc (.map E' c')) := by
  have h : (w.alloc (.map E c)).heap[w.heap.size]? = some (.map E c) := World.alloc_heap_new _ _
  have h2 : (w.alloc (.map E c)).heap.setIfInBounds w.heap.size (.map E' c') = w.heap.push (.map E' c') := by
    show (w.heap.push _).setIfInBounds w.heap.size _ = _
    apply Array.ext_getElem?
    intro i
    rw [Array.getElem?_setIfInBounds, Array.getElem?_push, Array.getElem?_push]
    by_cases hi : i = w.heap.size
    · subst hi; simp
    · rw [if_neg (fun e => hi e.symm), if_neg hi, if_neg hi]
  simp only [setObj, Sem.run, h, h2]
  rfl
/-- an entry more in a map that has just been made -/
theorem upd_new (w : World) (E : Array MapEntry) (c : Nat) (k : Int) (v : Value) (hf : ∀ w, (Instr.findKey 27 (.int .i64 k) E.toList).run Tryz.prog w = .ok none w) :
    (Instr.mapUpdate 115 (.map (some w.heap.size)) (.int .i64 k) v).run Tryz.prog (w.alloc (.map E c)) = .ok () (w.alloc (.map (E.push ⟨.int .i64 k, v, c⟩) (c + 1))) := by
  have hg : (getObj w.heap.size).run Tryz.prog (w.alloc (.map E c)) = .ok (.map E c) (w.alloc (.map E c)) := run_getObj_map (World.alloc_heap_new _ _)
  have hck : ∀ w, (Instr.checkKey false 10000 27 (.int .i64 k)).run Tryz.prog w = .ok () w := fun w => check25 _ _ _
  unfold Instr.mapUpdate
  simp [go_sem, hg, hck, hf, run_setObj_new]

set_option maxRecDepth 100000 in
theorem directions_any (w : World) :
    Calls Tryz.prog 122 #[] w fun e w' => e = .returned (.map (some w.heap.size)) ∧ w.alloc (.map dirEntries 4) = w' := by
  have hmm := @run_makeMap Tryz.prog
  have h1 := upd_new w #[] 0 1 (.agg #[.int .i64 (-1), .int .i64 0]) (fun _ => by kernel_rfl)
  have h2 := upd_new w #[⟨.int .i64 1, .agg #[.int .i64 (-1), .int .i64 0], 0⟩] 1 2 (.agg #[.int .i64 0, .int .i64 1]) (fun _ => by kernel_rfl)
  have h3 := upd_new w #[⟨.int .i64 1, .agg #[.int .i64 (-1), .int .i64 0], 0⟩, ⟨.int .i64 2, .agg #[.int .i64 0, .int .i64 1], 1⟩] 2 3 (.agg #[.int .i64 1, .int .i64 0]) (fun _ => by kernel_rfl)
  have h4 := upd_new w #[⟨.int .i64 1, .agg #[.int .i64 (-1), .int .i64 0], 0⟩, ⟨.int .i64 2, .agg #[.int .i64 0, .int .i64 1], 1⟩, ⟨.int .i64 3, .agg #[.int .i64 1, .int .i64 0], 2⟩] 3 4 (.agg #[.int .i64 0, .int .i64 (-1)]) (fun _ => by kernel_rfl)
  simp only [List.push_toArray, List.cons_append, List.nil_append, Nat.reduceAdd] at h1 h2 h3 h4
  go_enter Tryz.func122, Tryz.ntmps122
  go_wp2
  go_ret
  exact ⟨rfl, rfl⟩
set_option maxHeartbeats 400000 in
theorem back_any (a b : Int) (w : World) (h1 : -1 ≤ a) (h2 : a ≤ 1) (h3 : -1 ≤ b) (h4 : b ≤ 1) :
    Calls Tryz.prog 161 #[.agg #[.int .i64 a, .int .i64 b]] w fun e w' => e = .returned (.agg #[.int .i64 (-a), .int .i64 (-b)]) ∧ Below w.heap.size w w' := by
  go_enter Tryz.func161, Tryz.ntmps161
  go_wp2
  refine bodyPost_ret (v := .agg #[.int .i64 (-a), .int .i64 (-b)]) (by simp [results, Tryz.results161, go_sem]) rfl ⟨rfl, ?_⟩
  exact ((Below.refl _ _).alloc (Nat.le_refl _) _).alloc (by simp) _

def airErr (a b : Int) : Int := if a < 0 ∨ 4 < a ∨ b < 1 ∨ 40 < b then 3 else 0
set_option maxHeartbeats 400000 in
theorem checkAir_any (a b : Int) (w : World) :
    Calls Tryz.prog 34 #[.agg #[.int .i64 a, .int .i64 b]] w fun e w' => e = .returned (.int .i64 (airErr a b)) ∧ Below w.heap.size w w' := by
  by_cases h : a < 0 ∨ 4 < a ∨ b < 1 ∨ 40 < b
  · have H := Lib.hid h
    go_enter Tryz.func34, Tryz.ntmps34
    go_wp2
    all_goals try (exfalso; clear H; omega)
    all_goals
      go_ret
      exact ⟨by simp [airErr, H.out], ((Below.refl _ _).alloc (Nat.le_refl _) _)⟩
  · have H := Lib.hid h
    go_enter Tryz.func34, Tryz.ntmps34
    go_wp2
    all_goals try (exfalso; clear H; omega)
    all_goals
      go_ret
      exact ⟨by simp [airErr, H.out], ((Below.refl _ _).alloc (Nat.le_refl _) _)⟩

theorem windOnly_any (d : Int) (w : World) :
    Calls Tryz.prog 94 #[.int .i64 d] w fun e w' => e = .returned (.agg #[.int .i64 d, .int .i64 40]) ∧ Below w.heap.size w w' := by
  go_enter Tryz.func94, Tryz.ntmps94
  go_wp2
  refine bodyPost_ret (v := .agg #[.int .i64 d, .int .i64 40]) (by simp [results, Tryz.results94, go_sem]) rfl ⟨rfl, ?_⟩
  exact ((Below.refl _ _).alloc (Nat.le_refl _) _)

theorem all_any (p : Int) (w : World) :
    Calls Tryz.prog 121 #[.int .i64 p] w fun e w' => e = .returned (.bool true) ∧ w = w' := by
  go_enter Tryz.func121, Tryz.ntmps121
  go_wp2
  go_ret
  exact ⟨rfl, rfl⟩


theorem great_any (a : Option Addr) (wd : Int) (n c : Nat) (w : World) :
    Calls Tryz.prog 30 #[.agg #[.int .i64 wd, .slice a n c]] w fun e w' => e = .returned (.bool (decide (40 < (n : Int)))) ∧ Below w.heap.size w w' := by
  go_enter Tryz.func30, Tryz.ntmps30
  go_wp2
  go_ret
  exact ⟨rfl, (Below.refl _ _).alloc (Nat.le_refl _) _⟩

theorem wall_any (wd wind voice : Int) (b o cap : Nat) (xs : List Int) (g cf : Value) (w : World) (p : Nat) (hp : p < xs.length) (hn : xs.length ≤ 40) (hi : Ints w b o xs) :
    Calls Tryz.prog 153 #[.agg #[.int .i64 wd, .slice (some ⟨b, o, none⟩) xs.length cap, .int .i64 wind, .int .i64 voice, g, cf], .int .i64 p] w fun e w' => e = .returned (.bool (xs.getD p 0 == 2)) ∧ Below w.heap.size w w' := by
  have hb := hi.1
  have hc := hi.2 p hp
  go_enter Tryz.func153, Tryz.ntmps153
  go_wp2
  go_ret
  exact ⟨by simp [List.getElem?_eq_getElem hp], (Below.refl _ _).alloc (Nat.le_refl _) _⟩

theorem enough_any (wd wind voice : Int) (pl g cf : Value) (w : World) (n : Int) :
    Calls Tryz.prog 102 #[.agg #[.int .i64 wd, pl, .int .i64 wind, .int .i64 voice, g, cf], .int .i64 n] w fun e w' => e = .returned (.bool (n != -1 && decide (n ≤ voice))) ∧ Below w.heap.size w w' := by
  go_enter Tryz.func102, Tryz.ntmps102
  go_wp2
  all_goals go_ret
  all_goals exact ⟨by simp_all, (Below.refl _ _).alloc (Nat.le_refl _) _⟩

end Go.Proofs.YtimedmkpenbmkaaGreat
