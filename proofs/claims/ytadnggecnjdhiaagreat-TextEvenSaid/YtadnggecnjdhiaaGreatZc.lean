/- Contracts of the code and of the reference, part 3. -/
import Derived.Test.YtadnggecnjdhiaaGreatZb
import Derived.Deep.RegionHeld3
import Derived.Shelf.Slices.Turned
import Derived.Shelf.Slices.Reverse
import Derived.Shelf.Slices.Equal
import Derived.Ground.Names2Prog
import Derived.Shelf.Slices.Clone
import Derived.Shelf.Slices.Cells
import Derived.Shelf.Slices.Empties2
import Derived.Ground.SlgnProg
import Derived.Shelf.SlicesE.Reverse
import Derived.Shelf.SlicesE.Clone
import Derived.Test.YtadnggecnjdhiaaGreatProg
import Derived.Laws.Rows
set_option linter.unusedSimpArgs false
set_option linter.unusedVariables false
namespace Go.Proofs.YtadnggecnjdhiaaGreat
open Go.RowKit Tx

/-- marks that are laid: those of the places before k are great -/
def topTo (k : Nat) : Marks := (List.range 13).map fun p => if 1 ≤ p ∧ p < k then 99 else 0
theorem topTo_len (k : Nat) : (topTo k).length = 13 := by simp [topTo]
theorem topTo_get (k p : Nat) (hp : p < 13) : (topTo k).getD p 0 = if 1 ≤ p ∧ p < k then 99 else 0 := by
  simp [topTo, hp]
theorem topTo_set (k : Nat) (h1 : 1 ≤ k) (h : k < 13) : (topTo k).set k 99 = topTo (k + 1) := by
  apply List.ext_getElem?
  intro p
  rw [List.getElem?_set]
  unfold topTo
  by_cases hp : p < 13
  · by_cases hkp : k = p
    · subst hkp; simp [hp, h1]
    · rw [if_neg hkp]; simp [hp]
      by_cases h2 : 1 ≤ p ∧ p < k
      · rw [if_pos h2, if_pos (by omega)]
      · rw [if_neg h2, if_neg (by omega)]
  · by_cases hkp : k = p
    · omega
    · rw [if_neg hkp]; simp [hp]
theorem topTo_top (n : Nat) : topTo (n + 1) = top n := by
  unfold topTo top
  apply List.map_congr_left
  intro p hp
  by_cases h : 1 ≤ p ∧ p ≤ n
  · rw [if_pos h, if_pos (by omega)]
  · rw [if_neg h, if_neg (by omega)]
theorem top_small (n : Nat) : Small (top n) := by
  rw [← topTo_top]
  refine ⟨topTo_len _, fun k hk => ?_⟩
  rw [topTo_get _ _ hk]; split <;> omega
theorem Small.rows {may : Nat → Nat → Bool} {n : Nat} (hn : n ≤ 13) : ∀ (l : List Nat) (m : Marks), Small m → (∀ a ∈ l, a < 13) → Small (l.foldl (lowRow may n) m)
  | [], m, h, _ => h
  | a :: l, m, h, ha => Small.rows hn l _ (Small.row (may := may) (n := n) h a (ha a (by simp)) _) (fun x hx => ha x (by simp [hx]))
theorem greatest_small {may : Nat → Nat → Bool} {n : Nat} (hn : n ≤ 12) : Small (greatest may n) :=
  Small.rows (by omega) _ _ (top_small n) (fun a ha => by have := List.mem_range.1 ha; omega)

set_option maxHeartbeats 1000000 in
set_option maxRecDepth 100000 in
theorem greatest_any (may : Nat → Nat → Bool) (n cw : Nat) (hn : n ≤ 12) (pw : Option Addr) (v1 v2 mv : Value) (w : World) (hMay : MayAt mv may n (fun k => k < w.heap.size) w) :
    Calls Tryz.prog 70 #[.agg #[.slice pw n cw, v1, v2, mv]] w fun e w' => e = .returned (.agg (arrOf (greatest may n))) ∧ Below w.heap.size w w' := by
  have HMAY := Lib.hid hMay
  clear hMay
  go_enter Tryz.func70, Tryz.ntmps70
  go_wp2_with fail
  have hB3 : ∀ o1 o2 o3, Below w.heap.size w (((w.alloc o1).alloc o2).alloc o3) := fun o1 o2 o3 => ((below1 _ _).alloc (by simp) _).alloc (by simp; omega) _
  generalize hW3 : ((w.alloc (Obj.cells #[Value.slice pw n cw, v1, v2, mv] 84)).alloc (Obj.cells #[Value.int IntKind.i64 0, Value.int IntKind.i64 0, Value.int IntKind.i64 0, Value.int IntKind.i64 0, Value.int IntKind.i64 0, Value.int IntKind.i64 0, Value.int IntKind.i64 0, Value.int IntKind.i64 0, Value.int IntKind.i64 0, Value.int IntKind.i64 0, Value.int IntKind.i64 0, Value.int IntKind.i64 0, Value.int IntKind.i64 0] 116)).alloc (Obj.cells #[Value.int IntKind.i64 0, Value.int IntKind.i64 0, Value.int IntKind.i64 0, Value.int IntKind.i64 0, Value.int IntKind.i64 0, Value.int IntKind.i64 0, Value.int IntKind.i64 0, Value.int IntKind.i64 0, Value.int IntKind.i64 0, Value.int IntKind.i64 0, Value.int IntKind.i64 0, Value.int IntKind.i64 0, Value.int IntKind.i64 0] 116) = W3
  have hz : arrOf (List.replicate 13 0) = arrOf (topTo 1) := congrArg arrOf (by decide)
  have hA3 : W3.heap[w.heap.size]? = some (.cells #[.slice pw n cw, v1, v2, mv] 84 (0, 0)) ∧ W3.heap[w.heap.size + 1]? = some (.cells (arrOf (List.replicate 13 0)) 116 (0, 0)) ∧ W3.heap[w.heap.size + 1 + 1]? = some (.cells (arrOf (topTo 1)) 116 (0, 0)) ∧ Below w.heap.size w W3 ∧ w.heap.size + 3 ≤ W3.heap.size := by
    refine ⟨?_, ?_, ?_, by rw [← hW3]; exact hB3 _ _ _, by rw [← hW3]; simp⟩
    · rw [← hW3, Below.heap_alloc _ _ _ (by first | (simp; done) | (simp; omega)), Below.heap_alloc _ _ _ (by simp)]; exact heap_last _ _
    · rw [← hW3, Below.heap_alloc _ _ _ (by simp)]
      have := heap_last (w.alloc (Obj.cells #[Value.slice pw n cw, v1, v2, mv] 84)) (Obj.cells (arrOf (List.replicate 13 0)) 116)
      rwa [World.size_alloc] at this
    · rw [← hW3, ← hz]
      have := heap_last ((w.alloc (Obj.cells #[Value.slice pw n cw, v1, v2, mv] 84)).alloc (Obj.cells (arrOf (List.replicate 13 0)) 116)) (Obj.cells (arrOf (List.replicate 13 0)) 116)
      rwa [World.size_alloc, World.size_alloc] at this
  clear hW3 hB3 hz
  go_loopw [4] (fun i wr => ∃ k : Nat, 1 ≤ k ∧ k ≤ n + 1 ∧ i = .int .i64 k ∧ wr.heap[w.heap.size]? = some (.cells #[.slice pw n cw, v1, v2, mv] 84 (0, 0)) ∧ wr.heap[w.heap.size + 1]? = some (.cells (arrOf (List.replicate 13 0)) 116 (0, 0)) ∧ wr.heap[w.heap.size + 1 + 1]? = some (.cells (arrOf (topTo k)) 116 (0, 0)) ∧ Below w.heap.size w wr ∧ w.heap.size + 3 ≤ wr.heap.size) (fun i _ => n + 1 - (intOf i).toNat)
  case atStart => exact ⟨1, by omega, by omega, rfl, hA3⟩
  case round =>
    obtain ⟨k, hk1, hk2, rfl, h1, h2, h3, hB, hs⟩ := hrel
    clear hA3
    have f0 := blk_cells h1 0 _ rfl
    have f1 := blk_cells h1 1 _ rfl
    have f2 := blk_cells h1 2 _ rfl
    have f3 := blk_cells h1 3 _ rfl
    have hs0 : w.heap.size < wr.heap.size ∧ w.heap.size + 1 + 1 < wr.heap.size := by omega
    obtain ⟨hs0, hs2⟩ := hs0
    have H1 := Lib.hid h1
    have H2 := Lib.hid h2
    have H3 := Lib.hid h3
    have HB := Lib.hid hB
    clear h1 h2 h3 hB
    go_wp2_with fail
    refine (end_any _ _ _ _ _ _ _).mono ?_
    rintro e w' ⟨rfl, rfl⟩
    by_cases hlt : k ≤ n
    · have hlt' : (k : Int) ≤ n := by omega
      have hk13 : (k : Int) < 13 := by omega
      have hcell := blk_cells H3.out k _ (arrOf_get (by rw [topTo_len]; omega))
      have hfz : wr.frozen? ⟨w.heap.size + 1 + 1, k, none⟩ = false := by simp [World.frozen?, H3.out]
      go_wp2
      go_roundw
      case rel =>
        have hne : ∀ g, g ≠ w.heap.size + 1 + 1 → g < wr.heap.size → ((wr.setCell ⟨w.heap.size + 1 + 1, k, none⟩ (.int .i64 99)).alloc (.cells #[.slice pw n cw, v1, v2, mv] 84)).heap[g]? = wr.heap[g]? := fun g hg hl =>
          (Below.heap_alloc _ _ _ (by simpa using hl)).trans (Below.heap_setCell _ _ _ _ hg)
        refine ⟨k + 1, by omega, by omega, by go_num, (hne _ (by omega) (by omega)).trans H1.out, (hne _ (by omega) (by omega)).trans H2.out, ?_, belA (belS HB.out (by omega)) (by simp; omega), by simp; omega⟩
        rw [Below.heap_alloc _ _ _ (by simpa using hs2), heap_set_same _ H3.out, arrOf_set, topTo_set k hk1 (by omega)]
      case measure => simp [intOf]; omega
    · obtain rfl : k = n + 1 := by omega
      have h4 := topTo_top n
      have HT := Lib.hid ((Below.heap_alloc wr (.cells #[.slice pw n cw, v1, v2, mv] 84) _ hs2).trans (h4 ▸ H3.out))
      have HI := Lib.hid (size_marks (by rw [arrOf_size]; exact (top_small n).1 : (arrOf (top n)).size = 13))
      have HBA := Lib.hid (belA (o := .cells #[.slice pw n cw, v1, v2, mv] 84) HB.out (by omega))
      have HLO := Lib.hid (lowered_any may n cw hn pw v1 v2 mv (top n) (top_small n) (wr.alloc (.cells #[.slice pw n cw, v1, v2, mv] 84)) ((HMAY.out.hold (.of_below HBA.out (fun _ h _ => h))).mono (fun j hj _ => by simp; omega)))
      clear h4
      go_wp2_with (with_reducible refine wpList_load_row rfl 116 _ rfl (w.heap.size + 1 + 1) rfl 116 (arrOf (top n)) (0, 0) _ HT.out und_marks rfl HI.out ?_)
      refine HLO.out.mono ?_
      rintro e w5 ⟨rfl, hB5⟩
      have HB5 := Lib.hid hB5
      have hsz : (arrOf (Tx.lowered may n (top n))).size = 13 := by rw [arrOf_size]; exact (greatest_small (may := may) hn).1
      have HI2 := Lib.hid (size_marks hsz)
      have HON := Lib.hid (arrOf_one (Tx.lowered may n (top n)))
      have hr5 := (hB5.block (w.heap.size + 1) (by simp; omega)).trans ((Below.heap_alloc _ _ _ (by omega)).trans H2.out)
      have hthere : w5.there (w.heap.size + 1) 0 (arrOf (Tx.lowered may n (top n))).size := fun j hj => by
        rw [Nat.zero_add, blk_cells hr5 j _ (arrOf_get (by simp; omega))]
        exact ⟨by simp, by simp [World.frozen?, hr5]⟩
      have HTH := Lib.hid hthere
      have HR5 := Lib.hid hr5
      have HSZ := Lib.hid hsz
      clear hB5 hr5 hthere hsz HLO
      generalize hBA : arrOf (Tx.lowered may n (top n)) = BA at HI2 HON HTH HSZ
      have HE := Lib.hid hBA
      clear hBA
      go_wp2_with (with_reducible refine wpList_store_mid rfl 116 _ _ rfl (w.heap.size + 1) 0 BA rfl rfl HTH.out HI2.out HON.out ?_)
      have hres2 : (w5.setCells (w.heap.size + 1) 0 BA.toList).heap[w.heap.size + 1]? = some (.cells BA 116 (0, 0)) := by
        rw [heap_setCells _ _ _ _ _ _ _ HR5.out, setFrom_all _ _ (by rw [Array.length_toList, HSZ.out]; simp [arrOf_size])]
      try rw [Exit.noGoto_ret]
      refine bodyPost_ret (results_cell_row rfl _ _ (w.heap.size + 1) 116 BA (0, 0) _ rfl hres2 und_marks rfl HI2.out) rfl ⟨by rw [← HE.out]; rfl, below_setCells' (by omega) _ _ _ (HBA.out.trans (HB5.out.mono (by have := HBA.out.size; omega)))⟩
end Go.Proofs.YtadnggecnjdhiaaGreat
set_option linter.unusedSimpArgs false
set_option linter.unusedVariables false
namespace Go.Proofs.YtadnggecnjdhiaaGreat
open Go.RowKit Tx

theorem exec_load_row {P : Program} {o : Oper} {ρ : Operand → Value} {w : World} (ty : TypeId) (x : Operand) (ho : o.op = .load ty x)
    (g : Nat) (hx : ρ x = .pointer (some ⟨g, 0, none⟩)) (t : TypeId) (cs : Array Value) (fr : Nat × Nat) (d : TypeDesc) (hg : w.heap[g]? = some (.cells cs t fr))
    (hu : P.underlying ty = some d) (hd : (match d with | .struct _ | .array _ _ => true | _ => false) = true) (hi : (P.info? ty).map (·.size) = some cs.size) :
    (execOp ρ o).run P w = .ok (.value (.agg cs)) w := by
  unfold execOp
  simp only [ho, hx, Instr.loadAt, Instr.sureAddr, Sem.run_bind, Sem.run_pure, Result.andThen_ok, run_loadVar_row w g t ty cs fr d hg hu hd hi]

theorem reached_any (v0 v1 v2 v3 : Value) (M : Marks) (hM : M.length = 13) (p : Nat) (hp : p < 13) (w : World) :
    Calls Tryz.prog 71 #[.agg #[v0, v1, v2, v3], .agg (arrOf M), .int .i64 p] w fun e w' => e = .returned (.bool (decide (M.getD p 0 < 99))) ∧ Below w.heap.size w w' := by
  have hx : ((w.alloc (.cells #[v0, v1, v2, v3] 84)).alloc (.cells (arrOf M) 116)).heap[w.heap.size + 1]? = some (.cells (arrOf M) 116 (0, 0)) := by
    have := heap_last (w.alloc (.cells #[v0, v1, v2, v3] 84)) (.cells (arrOf M) 116)
    rwa [World.size_alloc] at this
  have hc := blk_cells hx p _ (arrOf_get (by omega))
  have hp' : (p : Int) < 13 := by omega
  clear hx
  generalize M.getD p 0 = x at hc ⊢
  go_enter Tryz.func71, Tryz.ntmps71
  go_wp2
  go_ret
  exact ⟨rfl, (below1 _ _).alloc (by simp) _⟩
end Go.Proofs.YtadnggecnjdhiaaGreat
set_option linter.unusedSimpArgs false
set_option linter.unusedVariables false
namespace Go.Proofs.YtadnggecnjdhiaaGreat
open Go.RowKit Tx

def spBf1 (Mb A2 a b : Nat) (ma mb : Int) (F : FuncId) (first caps : Array Value) (r : Bool) : Nat → List Value → Value → World → Prop
  | 0, _, v, _ => v = .int .i64 a
  | 1, _, v, _ => v = .pointer (some ⟨Mb, a, none⟩)
  | 2, _, v, _ => v = .int .i64 ma
  | 3, _, v, _ => v = .int .i64 (ma + 1)
  | 4, _, v, _ => v = .int .i64 b
  | 5, _, v, _ => v = .pointer (some ⟨Mb, b, none⟩)
  | 6, _, v, _ => v = .int .i64 mb
  | 7, _, v, _ => v = .bool true
  | 8, _, v, _ => v = .bool true
  | 9, _, v, _ => v = .pointer (some ⟨A2, 3, none⟩)
  | 10, _, v, _ => v = .func (.func F) first caps
  | 11, _, v, _ => v = .int .i64 a
  | 12, _, v, _ => v = .int .i64 b
  | 13, _, v, _ => v = .bool r
  | 14, _, v, _ => v = .bool r
  | _, _, _, _ => False
theorem spBf1_stable (Mb A2 a b : Nat) (ma mb : Int) (F : FuncId) (first caps : Array Value) (r : Bool) : ∀ i L v w w', spBf1 Mb A2 a b ma mb F first caps r i L v w → Rs.Gr w w' → spBf1 Mb A2 a b ma mb F first caps r i L v w' := by
  intro i L v w w' h hg
  match i with
  | 0 => exact h
  | 1 => exact h
  | 2 => exact h
  | 3 => exact h
  | 4 => exact h
  | 5 => exact h
  | 6 => exact h
  | 7 => exact h
  | 8 => exact h
  | 9 => exact h
  | 10 => exact h
  | 11 => exact h
  | 12 => exact h
  | 13 => exact h
  | 14 => exact h
def spBf0 (Mb A2 a b : Nat) (ma mb : Int) (F : FuncId) (first caps : Array Value) (r : Bool) : Nat → List Value → Value → World → Prop
  | 0, _, v, _ => v = .int .i64 a
  | 1, _, v, _ => v = .pointer (some ⟨Mb, a, none⟩)
  | 2, _, v, _ => v = .int .i64 ma
  | 3, _, v, _ => v = .int .i64 (ma + 1)
  | 4, _, v, _ => v = .int .i64 b
  | 5, _, v, _ => v = .pointer (some ⟨Mb, b, none⟩)
  | 6, _, v, _ => v = .int .i64 mb
  | 7, _, v, _ => v = .bool false
  | 8, _, v, _ => v = .bool false
  | 9, _, v, _ => v = undef
  | 10, _, v, _ => v = undef
  | 11, _, v, _ => v = undef
  | 12, _, v, _ => v = undef
  | 13, _, v, _ => v = undef
  | 14, _, v, _ => v = .bool false
  | _, _, _, _ => False
theorem spBf0_stable (Mb A2 a b : Nat) (ma mb : Int) (F : FuncId) (first caps : Array Value) (r : Bool) : ∀ i L v w w', spBf0 Mb A2 a b ma mb F first caps r i L v w → Rs.Gr w w' → spBf0 Mb A2 a b ma mb F first caps r i L v w' := by
  intro i L v w w' h hg
  match i with
  | 0 => exact h
  | 1 => exact h
  | 2 => exact h
  | 3 => exact h
  | 4 => exact h
  | 5 => exact h
  | 6 => exact h
  | 7 => exact h
  | 8 => exact h
  | 9 => exact h
  | 10 => exact h
  | 11 => exact h
  | 12 => exact h
  | 13 => exact h
  | 14 => exact h

theorem find_hit {p : Nat → Bool} {b k : Nat} (hk : k < b) (h1 : ∀ j, j < k → p j = false) (h2 : p k = true) : ((List.range b).find? p).getD 0 = k := by
  have : (List.range b).find? p = some k := by
    rw [show b = k + (b - k) by omega, List.range_add, List.find?_append]
    rw [show (List.range k).find? p = none from by rw [List.find?_eq_none]; intro x hx; rw [h1 x (List.mem_range.1 hx)]; decide]
    rw [Option.none_or, show b - k = (b - k - 1) + 1 by omega, List.range_succ_eq_map]
    simp [h2]
  rw [this]; rfl
theorem find_none {p : Nat → Bool} {b : Nat} (h1 : ∀ j, j < b → p j = false) : ((List.range b).find? p).getD 0 = 0 := by
  rw [show (List.range b).find? p = none from by rw [List.find?_eq_none]; intro x hx; rw [h1 x (List.mem_range.1 hx)]; decide]; rfl

set_option maxHeartbeats 2000000 in
set_option maxRecDepth 100000 in
theorem before_any (may : Nat → Nat → Bool) (n cw : Nat) (hn : n ≤ 12) (pw : Option Addr) (v1 v2 mv : Value) (M : Marks) (hM : Small M) (b : Nat) (hb : b ≤ n) (w : World) (hMay : MayAt mv may n (fun k => k < w.heap.size) w) :
    Calls Tryz.prog 94 #[.agg #[.slice pw n cw, v1, v2, mv], .agg (arrOf M), .int .i64 b] w fun e w' => e = .returned (.int .i64 (before may M b)) ∧ Below w.heap.size w w' := by
  obtain ⟨F, first, caps, rfl, hF, hMay⟩ := hMay
  have HF := Lib.hid hF
  have HMAY := Lib.hid hMay
  clear hF hMay
  have hx : ((w.alloc (.cells #[.slice pw n cw, v1, v2, .func (.func F) first caps] 84)).alloc (.cells (arrOf M) 116)).heap[w.heap.size + 1]? = some (.cells (arrOf M) 116 (0, 0)) := by
    have := heap_last (w.alloc (.cells #[.slice pw n cw, v1, v2, .func (.func F) first caps] 84)) (.cells (arrOf M) 116)
    rwa [World.size_alloc] at this
  have hx0 : ((w.alloc (.cells #[.slice pw n cw, v1, v2, .func (.func F) first caps] 84)).alloc (.cells (arrOf M) 116)).heap[w.heap.size]? = some (.cells #[.slice pw n cw, v1, v2, .func (.func F) first caps] 84 (0, 0)) := by
    rw [Below.heap_alloc _ _ _ (by simp)]; exact heap_last _ _
  have hbw : Below w.heap.size w ((w.alloc (.cells #[.slice pw n cw, v1, v2, .func (.func F) first caps] 84)).alloc (.cells (arrOf M) 116)) := (below1 _ _).alloc (by simp) _
  have hsz : w.heap.size + 2 ≤ ((w.alloc (.cells #[.slice pw n cw, v1, v2, .func (.func F) first caps] 84)).alloc (.cells (arrOf M) 116)).heap.size := by simp
  have HX := Lib.hid hx
  have HX0 := Lib.hid hx0
  have HBW := Lib.hid hbw
  clear hx hx0 hbw
  go_enter Tryz.func94, Tryz.ntmps94
  go_wp2_with fail
  generalize (w.alloc (.cells #[.slice pw n cw, v1, v2, .func (.func F) first caps] 84)).alloc (.cells (arrOf M) 116) = W1 at HX HX0 HBW hsz ⊢
  go_loopw [7, 9] (fun u i wr => ∃ k : Nat, k ≤ b ∧ i = .int .i64 k ∧ (∀ j, j < k → befP may M b j = false) ∧ Below W1.heap.size W1 wr) (fun _ i _ => b - (intOf i).toNat)
  case atStart => exact ⟨0, Nat.zero_le _, rfl, fun j hj => absurd hj (Nat.not_lt_zero _), Below.refl _ _⟩
  case round =>
    obtain ⟨k, hk, rfl, hA, hB⟩ := hrel
    have HA := Lib.hid hA
    have HB := Lib.hid hB
    have hzr := hB.size
    clear hA hB
    by_cases hlt : k < b
    · have hlt' : (k : Int) < b := by omega
      have hs0 : w.heap.size < wr.heap.size := by omega
      have hs1 : w.heap.size + 1 < wr.heap.size := by omega
      have hca := (HB.out.cell (p := ⟨w.heap.size + 1, k, none⟩) (show w.heap.size + 1 < W1.heap.size by omega)).trans (blk_cells HX.out k _ (arrOf_get (by rw [hM.1]; omega)))
      have hcb := (HB.out.cell (p := ⟨w.heap.size + 1, b, none⟩) (show w.heap.size + 1 < W1.heap.size by omega)).trans (blk_cells HX.out b _ (arrOf_get (by rw [hM.1]; omega)))
      have hc3 := (HB.out.cell (p := ⟨w.heap.size, 3, none⟩) (show w.heap.size < W1.heap.size by omega)).trans (blk_cells HX0.out 3 _ rfl)
      have hba := hM.2 k (by omega)
      have hbb := hM.2 b (by omega)
      have HP := Lib.hid (show befP may M b k = (M.getD k 0 + 1 == M.getD b 0 && may k b) from rfl)
      generalize M.getD k 0 = ma at hca hba HP
      generalize M.getD b 0 = mb at hcb hbb HP
      have HCA := Lib.hid hca
      have HCB := Lib.hid hcb
      have HC3 := Lib.hid hc3
      have hb13' : (b : Int) < 13 := by omega
      have hk13' : (k : Int) < 13 := by omega
      have hsum : IntKind.i64.wrap (ma + 1) = ma + 1 := IntWalk.i64_in _ (by omega)
      clear hca hcb hc3
      by_cases heq : (ma + 1 == mb) = true
      · have HASK := Lib.hid (fun W (h : Below wr.heap.size wr W) => HMAY.out W (.of_below (HBW.out.trans ((HB.out.trans (h.mono hzr)).mono (by omega))) (fun _ h _ => h)) k b hlt hb)
        have HEQ := Lib.hid heq
        have hFr : True := trivial
        go_wp2_with fail
        clear hsum
        have hsum : IntKind.i64.wrap (ma + 1) = ma + 1 := IntWalk.i64_in _ (by omega)
        refine Rs.region_gen 15 [[], [0], [0, 1], [0, 1, 2], [], [4], [4, 5], [0, 1, 2, 3, 4, 5, 6], [0, 1, 2, 3, 4, 5, 6, 7], [0, 1, 2, 3, 4, 5, 6, 7, 8], [0, 1, 2, 3, 4, 5, 6, 7, 8, 9], [0, 1, 2, 3, 4, 5, 6, 7, 8], [0, 1, 2, 3, 4, 5, 6, 7, 8], [0, 1, 2, 3, 4, 5, 6, 7, 8, 9, 10, 11, 12], [0, 1, 2, 3, 4, 5, 6, 7, 8, 9, 10, 11, 12, 13]] [some 12, some 13, some 14, some 15, some 16, some 17, some 18, some 19, some 20, some 21, some 22, some 23, some 24, some 25, some 26] (spBf1 (w.heap.size + 1) w.heap.size k b ma mb F first caps (may k b)) (by kernel_rfl) (by kernel_rfl) rfl (spBf1_stable _ _ _ _ _ _ _ _ _ _) ?_ ?_
        · refine ⟨fun V w' hG hs => ?_, fun V w' hG hs => ?_, fun V w' hG hs => ?_, fun V w' hG hs => ?_, fun V w' hG hs => ?_, fun V w' hG hs => ?_, fun V w' hG hs => ?_, fun V w' hG hs => ?_, fun V w' hG hs => ?_, fun V w' hG hs => ?_, fun V w' hG hs => ?_, fun V w' hG hs => ?_, fun V w' hG hs => ?_, fun V w' hG hs => ?_, fun V w' hG hs => ?_, trivial⟩
          all_goals
            obtain ⟨bc, _⟩ := bcell hG
            have hca := (bc (w.heap.size + 1) k hs1).trans HCA.out
            have hcb := (bc (w.heap.size + 1) b hs1).trans HCB.out
            have hc3 := (bc w.heap.size 3 hs0).trans HC3.out
            clear bc
          · rw [if_pos (by rfl)]
            exact Rs.GrowL.value (v := .int .i64 k) (w' := w') (by simp [go_sem, Rs.look]) (Rs.Gr.refl _) rfl
          · have e0 : V 0 = .int .i64 k := hs 0 (by simp)
            rw [if_pos (by rfl)]
            exact Rs.GrowL.value (v := .pointer (some ⟨(w.heap.size + 1), k, none⟩)) (w' := w') (by simp [go_sem, Rs.look, e0, hk13']) (Rs.Gr.refl _) rfl
          · have e0 : V 0 = .int .i64 k := hs 0 (by simp)
            have e1 : V 1 = .pointer (some ⟨(w.heap.size + 1), k, none⟩) := hs 1 (by simp)
            rw [if_pos (by rfl)]
            exact Rs.GrowL.value (v := .int .i64 ma) (w' := w') (by simp [go_sem, Rs.look, e0, e1, hca]) (Rs.Gr.refl _) rfl
          · have e0 : V 0 = .int .i64 k := hs 0 (by simp)
            have e1 : V 1 = .pointer (some ⟨(w.heap.size + 1), k, none⟩) := hs 1 (by simp)
            have e2 : V 2 = .int .i64 ma := hs 2 (by simp)
            rw [if_pos (by rfl)]
            exact Rs.GrowL.value (v := .int .i64 (ma + 1)) (w' := w') (by simp [go_sem, Rs.look, e0, e1, e2, hsum]) (Rs.Gr.refl _) rfl
          · rw [if_pos (by rfl)]
            exact Rs.GrowL.value (v := .int .i64 b) (w' := w') (by simp [go_sem, Rs.look]) (Rs.Gr.refl _) rfl
          · have e4 : V 4 = .int .i64 b := hs 4 (by simp)
            rw [if_pos (by rfl)]
            exact Rs.GrowL.value (v := .pointer (some ⟨(w.heap.size + 1), b, none⟩)) (w' := w') (by simp [go_sem, Rs.look, e4, hb13']) (Rs.Gr.refl _) rfl
          · have e4 : V 4 = .int .i64 b := hs 4 (by simp)
            have e5 : V 5 = .pointer (some ⟨(w.heap.size + 1), b, none⟩) := hs 5 (by simp)
            rw [if_pos (by rfl)]
            exact Rs.GrowL.value (v := .int .i64 mb) (w' := w') (by simp [go_sem, Rs.look, e4, e5, hcb]) (Rs.Gr.refl _) rfl
          · have e0 : V 0 = .int .i64 k := hs 0 (by simp)
            have e1 : V 1 = .pointer (some ⟨(w.heap.size + 1), k, none⟩) := hs 1 (by simp)
            have e2 : V 2 = .int .i64 ma := hs 2 (by simp)
            have e3 : V 3 = .int .i64 (ma + 1) := hs 3 (by simp)
            have e4 : V 4 = .int .i64 b := hs 4 (by simp)
            have e5 : V 5 = .pointer (some ⟨(w.heap.size + 1), b, none⟩) := hs 5 (by simp)
            have e6 : V 6 = .int .i64 mb := hs 6 (by simp)
            rw [if_pos (by rfl)]
            exact Rs.GrowL.value (v := .bool true) (w' := w') (by simp [go_sem, Rs.look, e0, e1, e2, e3, e4, e5, e6, heq]) (Rs.Gr.refl _) rfl
          · have e0 : V 0 = .int .i64 k := hs 0 (by simp)
            have e1 : V 1 = .pointer (some ⟨(w.heap.size + 1), k, none⟩) := hs 1 (by simp)
            have e2 : V 2 = .int .i64 ma := hs 2 (by simp)
            have e3 : V 3 = .int .i64 (ma + 1) := hs 3 (by simp)
            have e4 : V 4 = .int .i64 b := hs 4 (by simp)
            have e5 : V 5 = .pointer (some ⟨(w.heap.size + 1), b, none⟩) := hs 5 (by simp)
            have e6 : V 6 = .int .i64 mb := hs 6 (by simp)
            have e7 : V 7 = .bool true := hs 7 (by simp)
            rw [if_pos (by rfl)]
            exact Rs.GrowL.value (v := .bool true) (w' := w') (by simp [go_sem, Rs.look, e0, e1, e2, e3, e4, e5, e6, e7]) (Rs.Gr.refl _) rfl
          · have e0 : V 0 = .int .i64 k := hs 0 (by simp)
            have e1 : V 1 = .pointer (some ⟨(w.heap.size + 1), k, none⟩) := hs 1 (by simp)
            have e2 : V 2 = .int .i64 ma := hs 2 (by simp)
            have e3 : V 3 = .int .i64 (ma + 1) := hs 3 (by simp)
            have e4 : V 4 = .int .i64 b := hs 4 (by simp)
            have e5 : V 5 = .pointer (some ⟨(w.heap.size + 1), b, none⟩) := hs 5 (by simp)
            have e6 : V 6 = .int .i64 mb := hs 6 (by simp)
            have e7 : V 7 = .bool true := hs 7 (by simp)
            have e8 : V 8 = .bool true := hs 8 (by simp)
            rw [if_pos (by simp [Rs.wantB, e8])]
            exact Rs.GrowL.value (v := .pointer (some ⟨w.heap.size, 3, none⟩)) (w' := w') (by simp [go_sem, Rs.look, e0, e1, e2, e3, e4, e5, e6, e7, e8]) (Rs.Gr.refl _) rfl
          · have e0 : V 0 = .int .i64 k := hs 0 (by simp)
            have e1 : V 1 = .pointer (some ⟨(w.heap.size + 1), k, none⟩) := hs 1 (by simp)
            have e2 : V 2 = .int .i64 ma := hs 2 (by simp)
            have e3 : V 3 = .int .i64 (ma + 1) := hs 3 (by simp)
            have e4 : V 4 = .int .i64 b := hs 4 (by simp)
            have e5 : V 5 = .pointer (some ⟨(w.heap.size + 1), b, none⟩) := hs 5 (by simp)
            have e6 : V 6 = .int .i64 mb := hs 6 (by simp)
            have e7 : V 7 = .bool true := hs 7 (by simp)
            have e8 : V 8 = .bool true := hs 8 (by simp)
            have e9 : V 9 = .pointer (some ⟨w.heap.size, 3, none⟩) := hs 9 (by simp)
            rw [if_pos (by simp [Rs.wantB, e8])]
            exact Rs.GrowL.value (v := .func (.func F) first caps) (w' := w') (by simp [go_sem, Rs.look, e0, e1, e2, e3, e4, e5, e6, e7, e8, e9, hc3]) (Rs.Gr.refl _) rfl
          · have e0 : V 0 = .int .i64 k := hs 0 (by simp)
            have e1 : V 1 = .pointer (some ⟨(w.heap.size + 1), k, none⟩) := hs 1 (by simp)
            have e2 : V 2 = .int .i64 ma := hs 2 (by simp)
            have e3 : V 3 = .int .i64 (ma + 1) := hs 3 (by simp)
            have e4 : V 4 = .int .i64 b := hs 4 (by simp)
            have e5 : V 5 = .pointer (some ⟨(w.heap.size + 1), b, none⟩) := hs 5 (by simp)
            have e6 : V 6 = .int .i64 mb := hs 6 (by simp)
            have e7 : V 7 = .bool true := hs 7 (by simp)
            have e8 : V 8 = .bool true := hs 8 (by simp)
            rw [if_pos (by simp [Rs.wantB, e8])]
            exact Rs.GrowL.value (v := .int .i64 k) (w' := w') (by simp [go_sem, Rs.look, e0, e1, e2, e3, e4, e5, e6, e7, e8]) (Rs.Gr.refl _) rfl
          · have e0 : V 0 = .int .i64 k := hs 0 (by simp)
            have e1 : V 1 = .pointer (some ⟨(w.heap.size + 1), k, none⟩) := hs 1 (by simp)
            have e2 : V 2 = .int .i64 ma := hs 2 (by simp)
            have e3 : V 3 = .int .i64 (ma + 1) := hs 3 (by simp)
            have e4 : V 4 = .int .i64 b := hs 4 (by simp)
            have e5 : V 5 = .pointer (some ⟨(w.heap.size + 1), b, none⟩) := hs 5 (by simp)
            have e6 : V 6 = .int .i64 mb := hs 6 (by simp)
            have e7 : V 7 = .bool true := hs 7 (by simp)
            have e8 : V 8 = .bool true := hs 8 (by simp)
            rw [if_pos (by simp [Rs.wantB, e8])]
            exact Rs.GrowL.value (v := .int .i64 b) (w' := w') (by simp [go_sem, Rs.look, e0, e1, e2, e3, e4, e5, e6, e7, e8]) (Rs.Gr.refl _) rfl
          · have e0 : V 0 = .int .i64 k := hs 0 (by simp)
            have e1 : V 1 = .pointer (some ⟨(w.heap.size + 1), k, none⟩) := hs 1 (by simp)
            have e2 : V 2 = .int .i64 ma := hs 2 (by simp)
            have e3 : V 3 = .int .i64 (ma + 1) := hs 3 (by simp)
            have e4 : V 4 = .int .i64 b := hs 4 (by simp)
            have e5 : V 5 = .pointer (some ⟨(w.heap.size + 1), b, none⟩) := hs 5 (by simp)
            have e6 : V 6 = .int .i64 mb := hs 6 (by simp)
            have e7 : V 7 = .bool true := hs 7 (by simp)
            have e8 : V 8 = .bool true := hs 8 (by simp)
            have e9 : V 9 = .pointer (some ⟨w.heap.size, 3, none⟩) := hs 9 (by simp)
            have e10 : V 10 = .func (.func F) first caps := hs 10 (by simp)
            have e11 : V 11 = .int .i64 k := hs 11 (by simp)
            have e12 : V 12 = .int .i64 b := hs 12 (by simp)
            rw [if_pos (by simp [Rs.wantB, e8])]
            refine Rs.GrowL.call (f := F) (args := first ++ (#[.int .i64 k, .int .i64 b] ++ caps)) (by simp [go_sem, Rs.look, e10, e11, e12]; exact HF.out _ _) ?_
            refine (HASK.out w' hG).mono ?_
            rintro e w2 ⟨rfl, hB2⟩
            exact ⟨_, rfl, hB2, rfl⟩
          · have e0 : V 0 = .int .i64 k := hs 0 (by simp)
            have e1 : V 1 = .pointer (some ⟨(w.heap.size + 1), k, none⟩) := hs 1 (by simp)
            have e2 : V 2 = .int .i64 ma := hs 2 (by simp)
            have e3 : V 3 = .int .i64 (ma + 1) := hs 3 (by simp)
            have e4 : V 4 = .int .i64 b := hs 4 (by simp)
            have e5 : V 5 = .pointer (some ⟨(w.heap.size + 1), b, none⟩) := hs 5 (by simp)
            have e6 : V 6 = .int .i64 mb := hs 6 (by simp)
            have e7 : V 7 = .bool true := hs 7 (by simp)
            have e8 : V 8 = .bool true := hs 8 (by simp)
            have e9 : V 9 = .pointer (some ⟨w.heap.size, 3, none⟩) := hs 9 (by simp)
            have e10 : V 10 = .func (.func F) first caps := hs 10 (by simp)
            have e11 : V 11 = .int .i64 k := hs 11 (by simp)
            have e12 : V 12 = .int .i64 b := hs 12 (by simp)
            have e13 : V 13 = .bool (may k b) := hs 13 (by simp)
            rw [if_pos (by rfl)]
            exact Rs.GrowL.value (v := .bool (may k b)) (w' := w') (by simp [go_sem, Rs.look, e0, e1, e2, e3, e4, e5, e6, e7, e8, e9, e10, e11, e12, e13]) (Rs.Gr.refl _) rfl
        · intro V w' hG hs
          have e0 : V 0 = .int .i64 k := hs 0 (by omega)
          have e1 : V 1 = .pointer (some ⟨(w.heap.size + 1), k, none⟩) := hs 1 (by omega)
          have e2 : V 2 = .int .i64 ma := hs 2 (by omega)
          have e3 : V 3 = .int .i64 (ma + 1) := hs 3 (by omega)
          have e4 : V 4 = .int .i64 b := hs 4 (by omega)
          have e5 : V 5 = .pointer (some ⟨(w.heap.size + 1), b, none⟩) := hs 5 (by omega)
          have e6 : V 6 = .int .i64 mb := hs 6 (by omega)
          have e7 : V 7 = .bool true := hs 7 (by omega)
          have e8 : V 8 = .bool true := hs 8 (by omega)
          have e9 : V 9 = .pointer (some ⟨w.heap.size, 3, none⟩) := hs 9 (by omega)
          have e10 : V 10 = .func (.func F) first caps := hs 10 (by omega)
          have e11 : V 11 = .int .i64 k := hs 11 (by omega)
          have e12 : V 12 = .int .i64 b := hs 12 (by omega)
          have e13 : V 13 = .bool (may k b) := hs 13 (by omega)
          have e14 : V 14 = .bool (may k b) := hs 14 (by omega)
          simp only [Rs.canon, Rs.dstOf, List.range_succ, List.range_zero, List.nil_append, List.cons_append, List.foldl_cons, List.foldl_nil, List.drop_succ_cons, List.drop_zero, List.drop_nil, List.getElem?_toArray, List.getElem?_cons_succ, List.getElem?_cons_zero, Option.bind_some, Act.put, List.getD_cons_succ, List.getD_cons_zero, List.setIfInBounds_toArray, List.set_cons_succ, List.set_cons_zero]
          rw [e0, e1, e2, e3, e4, e5, e6, e7, e8, e9, e10, e11, e12, e13, e14]
          clear e0 e1 e2 e3 e4 e5 e6 e7 e8 e9 e10 e11 e12 e13 e14 hs
          clear hsum heq HASK
          cases hr : may k b with
          | true =>
            have HR := Lib.hid hr
            clear hr
            go_wp2
            go_ret
            refine ⟨ret_int ?_, HBW.out.trans ((join HB.out hG).mono (by omega))⟩
            unfold before
            rw [find_hit hlt HA.out (by rw [HP.out, HEQ.out, HR.out]; rfl)]
          | false =>
            have HR := Lib.hid hr
            clear hr
            go_wp2
            go_roundw
            case rel =>
              refine ⟨k + 1, by omega, by go_num, fun j hj => ?_, join HB.out hG⟩
              by_cases hjk : j = k
              · subst hjk; rw [HP.out, HEQ.out, HR.out]; rfl
              · exact HA.out j (by omega)
            case measure => simp [intOf]; omega
      · have heq : (ma + 1 == mb) = false := by simpa using heq
        have HEQ := Lib.hid heq
        go_wp2_with fail
        refine Rs.region_gen 15 [[], [0], [0, 1], [0, 1, 2], [], [4], [4, 5], [0, 1, 2, 3, 4, 5, 6], [0, 1, 2, 3, 4, 5, 6, 7], [0, 1, 2, 3, 4, 5, 6, 7, 8], [0, 1, 2, 3, 4, 5, 6, 7, 8, 9], [0, 1, 2, 3, 4, 5, 6, 7, 8], [0, 1, 2, 3, 4, 5, 6, 7, 8], [0, 1, 2, 3, 4, 5, 6, 7, 8, 9, 10, 11, 12], [0, 1, 2, 3, 4, 5, 6, 7, 8, 9, 10, 11, 12, 13]] [some 12, some 13, some 14, some 15, some 16, some 17, some 18, some 19, some 20, some 21, some 22, some 23, some 24, some 25, some 26] (spBf0 (w.heap.size + 1) w.heap.size k b ma mb F first caps (may k b)) (by kernel_rfl) (by kernel_rfl) rfl (spBf0_stable _ _ _ _ _ _ _ _ _ _) ?_ ?_
        · refine ⟨fun V w' hG hs => ?_, fun V w' hG hs => ?_, fun V w' hG hs => ?_, fun V w' hG hs => ?_, fun V w' hG hs => ?_, fun V w' hG hs => ?_, fun V w' hG hs => ?_, fun V w' hG hs => ?_, fun V w' hG hs => ?_, fun V w' hG hs => ?_, fun V w' hG hs => ?_, fun V w' hG hs => ?_, fun V w' hG hs => ?_, fun V w' hG hs => ?_, fun V w' hG hs => ?_, trivial⟩
          all_goals
            obtain ⟨bc, _⟩ := bcell hG
            have hca := (bc (w.heap.size + 1) k hs1).trans HCA.out
            have hcb := (bc (w.heap.size + 1) b hs1).trans HCB.out
            have hc3 := (bc w.heap.size 3 hs0).trans HC3.out
            clear bc
          · rw [if_pos (by rfl)]
            exact Rs.GrowL.value (v := .int .i64 k) (w' := w') (by simp [go_sem, Rs.look]) (Rs.Gr.refl _) rfl
          · have e0 : V 0 = .int .i64 k := hs 0 (by simp)
            rw [if_pos (by rfl)]
            exact Rs.GrowL.value (v := .pointer (some ⟨(w.heap.size + 1), k, none⟩)) (w' := w') (by simp [go_sem, Rs.look, e0, hk13']) (Rs.Gr.refl _) rfl
          · have e0 : V 0 = .int .i64 k := hs 0 (by simp)
            have e1 : V 1 = .pointer (some ⟨(w.heap.size + 1), k, none⟩) := hs 1 (by simp)
            rw [if_pos (by rfl)]
            exact Rs.GrowL.value (v := .int .i64 ma) (w' := w') (by simp [go_sem, Rs.look, e0, e1, hca]) (Rs.Gr.refl _) rfl
          · have e0 : V 0 = .int .i64 k := hs 0 (by simp)
            have e1 : V 1 = .pointer (some ⟨(w.heap.size + 1), k, none⟩) := hs 1 (by simp)
            have e2 : V 2 = .int .i64 ma := hs 2 (by simp)
            rw [if_pos (by rfl)]
            exact Rs.GrowL.value (v := .int .i64 (ma + 1)) (w' := w') (by simp [go_sem, Rs.look, e0, e1, e2, hsum]) (Rs.Gr.refl _) rfl
          · rw [if_pos (by rfl)]
            exact Rs.GrowL.value (v := .int .i64 b) (w' := w') (by simp [go_sem, Rs.look]) (Rs.Gr.refl _) rfl
          · have e4 : V 4 = .int .i64 b := hs 4 (by simp)
            rw [if_pos (by rfl)]
            exact Rs.GrowL.value (v := .pointer (some ⟨(w.heap.size + 1), b, none⟩)) (w' := w') (by simp [go_sem, Rs.look, e4, hb13']) (Rs.Gr.refl _) rfl
          · have e4 : V 4 = .int .i64 b := hs 4 (by simp)
            have e5 : V 5 = .pointer (some ⟨(w.heap.size + 1), b, none⟩) := hs 5 (by simp)
            rw [if_pos (by rfl)]
            exact Rs.GrowL.value (v := .int .i64 mb) (w' := w') (by simp [go_sem, Rs.look, e4, e5, hcb]) (Rs.Gr.refl _) rfl
          · have e0 : V 0 = .int .i64 k := hs 0 (by simp)
            have e1 : V 1 = .pointer (some ⟨(w.heap.size + 1), k, none⟩) := hs 1 (by simp)
            have e2 : V 2 = .int .i64 ma := hs 2 (by simp)
            have e3 : V 3 = .int .i64 (ma + 1) := hs 3 (by simp)
            have e4 : V 4 = .int .i64 b := hs 4 (by simp)
            have e5 : V 5 = .pointer (some ⟨(w.heap.size + 1), b, none⟩) := hs 5 (by simp)
            have e6 : V 6 = .int .i64 mb := hs 6 (by simp)
            rw [if_pos (by rfl)]
            exact Rs.GrowL.value (v := .bool false) (w' := w') (by simp [go_sem, Rs.look, e0, e1, e2, e3, e4, e5, e6, heq]) (Rs.Gr.refl _) rfl
          · have e0 : V 0 = .int .i64 k := hs 0 (by simp)
            have e1 : V 1 = .pointer (some ⟨(w.heap.size + 1), k, none⟩) := hs 1 (by simp)
            have e2 : V 2 = .int .i64 ma := hs 2 (by simp)
            have e3 : V 3 = .int .i64 (ma + 1) := hs 3 (by simp)
            have e4 : V 4 = .int .i64 b := hs 4 (by simp)
            have e5 : V 5 = .pointer (some ⟨(w.heap.size + 1), b, none⟩) := hs 5 (by simp)
            have e6 : V 6 = .int .i64 mb := hs 6 (by simp)
            have e7 : V 7 = .bool false := hs 7 (by simp)
            rw [if_pos (by rfl)]
            exact Rs.GrowL.value (v := .bool false) (w' := w') (by simp [go_sem, Rs.look, e0, e1, e2, e3, e4, e5, e6, e7]) (Rs.Gr.refl _) rfl
          · have e0 : V 0 = .int .i64 k := hs 0 (by simp)
            have e1 : V 1 = .pointer (some ⟨(w.heap.size + 1), k, none⟩) := hs 1 (by simp)
            have e2 : V 2 = .int .i64 ma := hs 2 (by simp)
            have e3 : V 3 = .int .i64 (ma + 1) := hs 3 (by simp)
            have e4 : V 4 = .int .i64 b := hs 4 (by simp)
            have e5 : V 5 = .pointer (some ⟨(w.heap.size + 1), b, none⟩) := hs 5 (by simp)
            have e6 : V 6 = .int .i64 mb := hs 6 (by simp)
            have e7 : V 7 = .bool false := hs 7 (by simp)
            have e8 : V 8 = .bool false := hs 8 (by simp)
            rw [if_neg (by simp [Rs.wantB, e8])]
            rfl
          · have e0 : V 0 = .int .i64 k := hs 0 (by simp)
            have e1 : V 1 = .pointer (some ⟨(w.heap.size + 1), k, none⟩) := hs 1 (by simp)
            have e2 : V 2 = .int .i64 ma := hs 2 (by simp)
            have e3 : V 3 = .int .i64 (ma + 1) := hs 3 (by simp)
            have e4 : V 4 = .int .i64 b := hs 4 (by simp)
            have e5 : V 5 = .pointer (some ⟨(w.heap.size + 1), b, none⟩) := hs 5 (by simp)
            have e6 : V 6 = .int .i64 mb := hs 6 (by simp)
            have e7 : V 7 = .bool false := hs 7 (by simp)
            have e8 : V 8 = .bool false := hs 8 (by simp)
            have e9 : V 9 = undef := hs 9 (by simp)
            rw [if_neg (by simp [Rs.wantB, e8])]
            rfl
          · have e0 : V 0 = .int .i64 k := hs 0 (by simp)
            have e1 : V 1 = .pointer (some ⟨(w.heap.size + 1), k, none⟩) := hs 1 (by simp)
            have e2 : V 2 = .int .i64 ma := hs 2 (by simp)
            have e3 : V 3 = .int .i64 (ma + 1) := hs 3 (by simp)
            have e4 : V 4 = .int .i64 b := hs 4 (by simp)
            have e5 : V 5 = .pointer (some ⟨(w.heap.size + 1), b, none⟩) := hs 5 (by simp)
            have e6 : V 6 = .int .i64 mb := hs 6 (by simp)
            have e7 : V 7 = .bool false := hs 7 (by simp)
            have e8 : V 8 = .bool false := hs 8 (by simp)
            rw [if_neg (by simp [Rs.wantB, e8])]
            rfl
          · have e0 : V 0 = .int .i64 k := hs 0 (by simp)
            have e1 : V 1 = .pointer (some ⟨(w.heap.size + 1), k, none⟩) := hs 1 (by simp)
            have e2 : V 2 = .int .i64 ma := hs 2 (by simp)
            have e3 : V 3 = .int .i64 (ma + 1) := hs 3 (by simp)
            have e4 : V 4 = .int .i64 b := hs 4 (by simp)
            have e5 : V 5 = .pointer (some ⟨(w.heap.size + 1), b, none⟩) := hs 5 (by simp)
            have e6 : V 6 = .int .i64 mb := hs 6 (by simp)
            have e7 : V 7 = .bool false := hs 7 (by simp)
            have e8 : V 8 = .bool false := hs 8 (by simp)
            rw [if_neg (by simp [Rs.wantB, e8])]
            rfl
          · have e0 : V 0 = .int .i64 k := hs 0 (by simp)
            have e1 : V 1 = .pointer (some ⟨(w.heap.size + 1), k, none⟩) := hs 1 (by simp)
            have e2 : V 2 = .int .i64 ma := hs 2 (by simp)
            have e3 : V 3 = .int .i64 (ma + 1) := hs 3 (by simp)
            have e4 : V 4 = .int .i64 b := hs 4 (by simp)
            have e5 : V 5 = .pointer (some ⟨(w.heap.size + 1), b, none⟩) := hs 5 (by simp)
            have e6 : V 6 = .int .i64 mb := hs 6 (by simp)
            have e7 : V 7 = .bool false := hs 7 (by simp)
            have e8 : V 8 = .bool false := hs 8 (by simp)
            have e9 : V 9 = undef := hs 9 (by simp)
            have e10 : V 10 = undef := hs 10 (by simp)
            have e11 : V 11 = undef := hs 11 (by simp)
            have e12 : V 12 = undef := hs 12 (by simp)
            rw [if_neg (by simp [Rs.wantB, e8])]
            rfl
          · have e0 : V 0 = .int .i64 k := hs 0 (by simp)
            have e1 : V 1 = .pointer (some ⟨(w.heap.size + 1), k, none⟩) := hs 1 (by simp)
            have e2 : V 2 = .int .i64 ma := hs 2 (by simp)
            have e3 : V 3 = .int .i64 (ma + 1) := hs 3 (by simp)
            have e4 : V 4 = .int .i64 b := hs 4 (by simp)
            have e5 : V 5 = .pointer (some ⟨(w.heap.size + 1), b, none⟩) := hs 5 (by simp)
            have e6 : V 6 = .int .i64 mb := hs 6 (by simp)
            have e7 : V 7 = .bool false := hs 7 (by simp)
            have e8 : V 8 = .bool false := hs 8 (by simp)
            have e9 : V 9 = undef := hs 9 (by simp)
            have e10 : V 10 = undef := hs 10 (by simp)
            have e11 : V 11 = undef := hs 11 (by simp)
            have e12 : V 12 = undef := hs 12 (by simp)
            have e13 : V 13 = undef := hs 13 (by simp)
            rw [if_pos (by rfl)]
            exact Rs.GrowL.value (v := .bool false) (w' := w') (by simp [go_sem, Rs.look, e0, e1, e2, e3, e4, e5, e6, e7, e8, e9, e10, e11, e12, e13]) (Rs.Gr.refl _) rfl
        · intro V w' hG hs
          have e0 : V 0 = .int .i64 k := hs 0 (by omega)
          have e1 : V 1 = .pointer (some ⟨(w.heap.size + 1), k, none⟩) := hs 1 (by omega)
          have e2 : V 2 = .int .i64 ma := hs 2 (by omega)
          have e3 : V 3 = .int .i64 (ma + 1) := hs 3 (by omega)
          have e4 : V 4 = .int .i64 b := hs 4 (by omega)
          have e5 : V 5 = .pointer (some ⟨(w.heap.size + 1), b, none⟩) := hs 5 (by omega)
          have e6 : V 6 = .int .i64 mb := hs 6 (by omega)
          have e7 : V 7 = .bool false := hs 7 (by omega)
          have e8 : V 8 = .bool false := hs 8 (by omega)
          have e9 : V 9 = undef := hs 9 (by omega)
          have e10 : V 10 = undef := hs 10 (by omega)
          have e11 : V 11 = undef := hs 11 (by omega)
          have e12 : V 12 = undef := hs 12 (by omega)
          have e13 : V 13 = undef := hs 13 (by omega)
          have e14 : V 14 = .bool false := hs 14 (by omega)
          simp only [Rs.canon, Rs.dstOf, List.range_succ, List.range_zero, List.nil_append, List.cons_append, List.foldl_cons, List.foldl_nil, List.drop_succ_cons, List.drop_zero, List.drop_nil, List.getElem?_toArray, List.getElem?_cons_succ, List.getElem?_cons_zero, Option.bind_some, Act.put, List.getD_cons_succ, List.getD_cons_zero, List.setIfInBounds_toArray, List.set_cons_succ, List.set_cons_zero]
          rw [e0, e1, e2, e3, e4, e5, e6, e7, e8, e9, e10, e11, e12, e13, e14]
          clear e0 e1 e2 e3 e4 e5 e6 e7 e8 e9 e10 e11 e12 e13 e14 hs
          clear hsum heq
          go_wp2
          go_roundw
          case rel =>
            refine ⟨k + 1, by omega, by go_num, fun j hj => ?_, join HB.out hG⟩
            by_cases hjk : j = k
            · subst hjk; rw [HP.out, HEQ.out]; rfl
            · exact HA.out j (by omega)
          case measure => simp [intOf]; omega
    · obtain rfl : k = b := by omega
      go_wp2
      go_ret
      exact ⟨ret_int (by unfold before; rw [find_none HA.out]; rfl), HBW.out.trans (HB.out.mono (by omega))⟩
end Go.Proofs.YtadnggecnjdhiaaGreat
set_option linter.unusedSimpArgs false
set_option linter.unusedVariables false
namespace Go.Proofs.YtadnggecnjdhiaaGreat
open Go.RowKit Tx

theorem blk3 {W : World} {b : Nat} {v0 v1 v2 : Value} {ty : TypeId} (h : W.heap[b]? = some (.cells #[v0, v1, v2] ty (0, 0))) : W.cell? ⟨b, 0, none⟩ = some v0 ∧ W.cell? ⟨b, 1, none⟩ = some v1 ∧ W.cell? ⟨b, 2, none⟩ = some v2 :=
  ⟨blk_cells h 0 _ rfl, blk_cells h 1 _ rfl, blk_cells h 2 _ rfl⟩
theorem ints_new4 (w : World) (a b c d : Int) (T : TypeId) : Ints (w.alloc (.cells #[.int .i64 a, .int .i64 b, .int .i64 c, .int .i64 d] T)) (some ⟨w.heap.size, 0, none⟩) [a, b, c, d] := by
  refine .inr ⟨_, _, rfl, by simp, fun i hi => ?_⟩
  have h := heap_last w (.cells #[.int .i64 a, .int .i64 b, .int .i64 c, .int .i64 d] T)
  have : i = 0 ∨ i = 1 ∨ i = 2 ∨ i = 3 := by simp at hi; omega
  rcases this with rfl | rfl | rfl | rfl
  · exact blk_cells h 0 _ rfl
  · exact blk_cells h 1 _ rfl
  · exact blk_cells h 2 _ rfl
  · exact blk_cells h 3 _ rfl
theorem build4 (w : World) (a b c d : Int) : (Instr.buildSlice 154 4 #[(0, .int .i64 a), (1, .int .i64 b), (2, .int .i64 c), (3, .int .i64 d)]).run Tryz.prog w = .ok (.slice (some ⟨w.heap.size, 0, none⟩) 4 4) (w.alloc (.cells #[.int .i64 a, .int .i64 b, .int .i64 c, .int .i64 d] 35)) := by
  first | kernel_rfl | simp [go_sem]
theorem err_first (t : Text) (h1 : ¬ (t.len < 1 ∨ 12 < t.len ∨ 6 < t.turns.length)) (h2 : ¬ (t.breath < 1 ∨ 40 < t.breath)) :
    t.err = firstErr [errIf badWord t.words 3, errIf (namesNo t.words.length) t.turns 1, errIf endsB t.turns 4, errIf itself t.turns 7] := by
  unfold Text.err
  rw [if_neg h1, if_neg h2]
  unfold errIf firstErr Text.len
  cases t.words.any badWord <;> cases t.turns.any (namesNo t.words.length) <;> cases t.turns.any endsB <;> cases t.turns.any itself <;> rfl

def spCk (t : Text) (pw pt : Option Addr) (cw ct A : Nat) : Nat → List Value → Value → World → Prop
  | 0, _, v, _ => v = .pointer (some ⟨A, 0, none⟩)
  | 1, _, v, _ => v = .slice pw t.words.length cw
  | 2, _, v, _ => v = .int .i64 (errIf badWord t.words 3)
  | 3, _, v, _ => v = .pointer (some ⟨A, 1, none⟩)
  | 4, _, v, _ => v = .slice pt t.turns.length ct
  | 5, _, v, _ => v = .agg #[.slice pw t.words.length cw, .slice pt t.turns.length ct, .int .i64 t.breath]
  | 6, L, v, w => ∃ p, v = .func (.func 122) #[] #[.pointer (some ⟨p, 0, none⟩)] ∧ w.heap[p]? = some (.cells #[.slice pw t.words.length cw, .slice pt t.turns.length ct, .int .i64 t.breath, .nilFunc] 84 (0, 0))
  | 7, _, v, _ => v = .int .i64 (errIf (namesNo t.words.length) t.turns 1)
  | 8, _, v, _ => v = .pointer (some ⟨A, 1, none⟩)
  | 9, _, v, _ => v = .slice pt t.turns.length ct
  | 10, _, v, _ => v = .int .i64 (errIf endsB t.turns 4)
  | 11, _, v, _ => v = .pointer (some ⟨A, 1, none⟩)
  | 12, _, v, _ => v = .slice pt t.turns.length ct
  | 13, _, v, _ => v = .int .i64 (errIf itself t.turns 7)
  | 14, L, v, w => ∃ p, v = .slice (some ⟨p, 0, none⟩) 4 4 ∧ Ints w (some ⟨p, 0, none⟩) [errIf badWord t.words 3, errIf (namesNo t.words.length) t.turns 1, errIf endsB t.turns 4, errIf itself t.turns 7]
  | 15, _, v, _ => v = .int .i64 (firstErr [errIf badWord t.words 3, errIf (namesNo t.words.length) t.turns 1, errIf endsB t.turns 4, errIf itself t.turns 7])
  | _, _, _, _ => False
theorem spCk_stable (t : Text) (pw pt : Option Addr) (cw ct A : Nat) : ∀ i L v w w', spCk t pw pt cw ct A i L v w → Rs.Gr w w' → spCk t pw pt cw ct A i L v w' := by
  intro i L v w w' h hg
  match i with
  | 0 => exact h
  | 1 => exact h
  | 2 => exact h
  | 3 => exact h
  | 4 => exact h
  | 5 => exact h
  | 6 => obtain ⟨p, h1, h3⟩ := h; exact ⟨p, h1, (hg.block p (Array.getElem?_eq_some_iff.1 h3).1).trans h3⟩
  | 7 => exact h
  | 8 => exact h
  | 9 => exact h
  | 10 => exact h
  | 11 => exact h
  | 12 => exact h
  | 13 => exact h
  | 14 => obtain ⟨p, h1, h3⟩ := h; exact ⟨p, h1, h3.below hg⟩
  | 15 => exact h

set_option maxHeartbeats 1600000 in
set_option maxRecDepth 100000 in
theorem check_in (t : Text) (hl1 : t.words.length ≤ 1000000) (hl2 : t.turns.length ≤ 1000000) (h1 : ¬ (t.len < 1 ∨ 12 < t.len ∨ 6 < t.turns.length)) (h2 : ¬ (t.breath < 1 ∨ 40 < t.breath)) (pw pt : Option Addr) (cw ct : Nat) (w : World) (hW : TxAt w t pw pt) :
    Calls Tryz.prog 33 #[.agg #[.slice pw t.words.length cw, .slice pt t.turns.length ct, .int .i64 t.breath]] w fun e w' => e = .returned (.int .i64 t.err) ∧ Below w.heap.size w w' := by
  have HE := Lib.hid (err_first t h1 h2)
  have HW := Lib.hid hW
  have b1 : btw (t.words.length : Int) 1 12 = true := by unfold Text.len at h1; simp [btw]; omega
  have b2 : btw t.breath 1 40 = true := by simp [btw]; omega
  have b3 : decide (6 < (t.turns.length : Int)) = false := by simp; omega
  have H1 := Lib.hid b1
  have H2 := Lib.hid b2
  clear b1 b2 hW h1 h2
  have HB := Lib.hid (below1 w (.cells #[.slice pw t.words.length cw, .slice pt t.turns.length ct, .int .i64 t.breath] 25))
  have HX0 := heap_last w (.cells #[.slice pw t.words.length cw, .slice pt t.turns.length ct, .int .i64 t.breath] 25)
  have HZ0 : w.heap.size < (w.alloc (.cells #[.slice pw t.words.length cw, .slice pt t.turns.length ct, .int .i64 t.breath] 25)).heap.size := by simp
  obtain ⟨k0, k1, k2⟩ := blk3 HX0
  go_enter Tryz.func33, Tryz.ntmps33
  go_wp2_with fail
  refine (between_any _ _ _ _).mono ?_
  rintro e w' ⟨rfl, rfl⟩
  rw [H1.out]
  go_wp2_with fail
  refine (between_any _ _ _ _).mono ?_
  rintro e w' ⟨rfl, rfl⟩
  rw [H2.out]
  go_wp2_with fail
  generalize hW1 : w.alloc (.cells #[.slice pw t.words.length cw, .slice pt t.turns.length ct, .int .i64 t.breath] 25) = W1 at HB HX0 HZ0 k0 k1 k2 ⊢
  clear hW1 k0 k1 k2
  · refine Rs.region_gen 16 [[], [0], [0, 1], [], [3], [], [0, 1, 2, 5], [0, 1, 2, 3, 4, 5, 6], [], [8], [0, 1, 2, 3, 4, 5, 6, 7, 8, 9], [], [11], [0, 1, 2, 3, 4, 5, 6, 7, 8, 9, 10, 11, 12], [0, 1, 2, 3, 4, 5, 6, 7, 8, 9, 10, 11, 12, 13], [0, 1, 2, 3, 4, 5, 6, 7, 8, 9, 10, 11, 12, 13, 14]] [some 18, some 19, some 20, some 21, some 22, some 23, some 24, some 25, some 26, some 27, some 28, some 29, some 30, some 31, some 32, some 33] (spCk t pw pt cw ct w.heap.size) (by kernel_rfl) (by kernel_rfl) rfl (spCk_stable _ _ _ _ _ _) ?_ ?_
    · refine ⟨fun V w' hG hs => ?_, fun V w' hG hs => ?_, fun V w' hG hs => ?_, fun V w' hG hs => ?_, fun V w' hG hs => ?_, fun V w' hG hs => ?_, fun V w' hG hs => ?_, fun V w' hG hs => ?_, fun V w' hG hs => ?_, fun V w' hG hs => ?_, fun V w' hG hs => ?_, fun V w' hG hs => ?_, fun V w' hG hs => ?_, fun V w' hG hs => ?_, fun V w' hG hs => ?_, fun V w' hG hs => ?_, trivial⟩
      all_goals
        obtain ⟨k0, k1, k2⟩ := blk3 ((hG.block w.heap.size HZ0).trans HX0)
      · rw [if_pos (by rfl)]
        exact Rs.GrowL.value (v := .pointer (some ⟨w.heap.size, 0, none⟩)) (w' := w') (by simp [go_sem, Rs.look]) (Rs.Gr.refl _) rfl
      · have e0 : V 0 = .pointer (some ⟨w.heap.size, 0, none⟩) := hs 0 (by simp)
        rw [if_pos (by rfl)]
        exact Rs.GrowL.value (v := .slice pw t.words.length cw) (w' := w') (by simp [go_sem, Rs.look, e0, k0]) (Rs.Gr.refl _) rfl
      · have e0 : V 0 = .pointer (some ⟨w.heap.size, 0, none⟩) := hs 0 (by simp)
        have e1 : V 1 = .slice pw t.words.length cw := hs 1 (by simp)
        rw [if_pos (by rfl)]
        refine Rs.GrowL.call (f := 76) (args := #[.slice pw t.words.length cw, .func (.func 77) #[] #[], .int .i64 3]) (by simp [go_sem, Rs.look, e1]) ?_
        refine (errIfW_any _ _ _ _ w' hl1 (HW.out.words.below (join HB.out hG))).mono ?_
        rintro e w2 ⟨rfl, hB2⟩
        exact ⟨_, rfl, hB2, rfl⟩
      · rw [if_pos (by rfl)]
        exact Rs.GrowL.value (v := .pointer (some ⟨w.heap.size, 1, none⟩)) (w' := w') (by simp [go_sem, Rs.look]) (Rs.Gr.refl _) rfl
      · have e3 : V 3 = .pointer (some ⟨w.heap.size, 1, none⟩) := hs 3 (by simp)
        rw [if_pos (by rfl)]
        exact Rs.GrowL.value (v := .slice pt t.turns.length ct) (w' := w') (by simp [go_sem, Rs.look, e3, k1]) (Rs.Gr.refl _) rfl
      · rw [if_pos (by rfl)]
        exact Rs.GrowL.value (v := .agg #[.slice pw t.words.length cw, .slice pt t.turns.length ct, .int .i64 t.breath]) (w' := w') (by simp [go_sem, Rs.look, k0, k1, k2]) (Rs.Gr.refl _) rfl
      · have e0 : V 0 = .pointer (some ⟨w.heap.size, 0, none⟩) := hs 0 (by simp)
        have e1 : V 1 = .slice pw t.words.length cw := hs 1 (by simp)
        have e2 : V 2 = .int .i64 (errIf badWord t.words 3) := hs 2 (by simp)
        have e5 : V 5 = .agg #[.slice pw t.words.length cw, .slice pt t.turns.length ct, .int .i64 t.breath] := hs 5 (by simp)
        rw [if_pos (by rfl)]
        refine Rs.GrowL.call (f := 79) (args := #[.agg #[.slice pw t.words.length cw, .slice pt t.turns.length ct, .int .i64 t.breath]]) (by simp [go_sem, Rs.look, e5]) ?_
        refine (namesNoWord_any _ _ _ _ _ _ _ w').mono ?_
        rintro e w2 ⟨rfl, rfl⟩
        refine ⟨_, rfl, (below1 _ _).alloc (by simp) _, _, rfl, ?_⟩
        have := heap_last (w'.alloc (.cells #[.slice pw t.words.length cw, .slice pt t.turns.length ct, .int .i64 t.breath] 25)) (.cells #[.slice pw t.words.length cw, .slice pt t.turns.length ct, .int .i64 t.breath, .nilFunc] 84)
        rwa [World.size_alloc] at this
      · have e0 : V 0 = .pointer (some ⟨w.heap.size, 0, none⟩) := hs 0 (by simp)
        have e1 : V 1 = .slice pw t.words.length cw := hs 1 (by simp)
        have e2 : V 2 = .int .i64 (errIf badWord t.words 3) := hs 2 (by simp)
        have e3 : V 3 = .pointer (some ⟨w.heap.size, 1, none⟩) := hs 3 (by simp)
        have e4 : V 4 = .slice pt t.turns.length ct := hs 4 (by simp)
        have e5 : V 5 = .agg #[.slice pw t.words.length cw, .slice pt t.turns.length ct, .int .i64 t.breath] := hs 5 (by simp)
        have r6 := hs 6 (by simp)
        rw [if_pos (by rfl)]
        obtain ⟨p6, e6, x6⟩ := r6
        refine Rs.GrowL.call (f := 78) (args := #[.slice pt t.turns.length ct, .func (.func 122) #[] #[.pointer (some ⟨p6, 0, none⟩)], .int .i64 1]) (by simp [go_sem, Rs.look, e4, e6]) ?_
        refine (errIfT1_any _ entered_namesNo1 _ (namesNo t.words.length) _ _ _ _ w' hl2 (HW.out.turns.below (join HB.out hG)) (fun W hW u => namesNo1_any _ _ _ _ _ _ p6 u W (by omega) ((hW.block p6 (Array.getElem?_eq_some_iff.1 x6).1).trans x6))).mono ?_
        rintro e w2 ⟨rfl, hB2⟩
        exact ⟨_, rfl, hB2, rfl⟩
      · rw [if_pos (by rfl)]
        exact Rs.GrowL.value (v := .pointer (some ⟨w.heap.size, 1, none⟩)) (w' := w') (by simp [go_sem, Rs.look]) (Rs.Gr.refl _) rfl
      · have e8 : V 8 = .pointer (some ⟨w.heap.size, 1, none⟩) := hs 8 (by simp)
        rw [if_pos (by rfl)]
        exact Rs.GrowL.value (v := .slice pt t.turns.length ct) (w' := w') (by simp [go_sem, Rs.look, e8, k1]) (Rs.Gr.refl _) rfl
      · have e0 : V 0 = .pointer (some ⟨w.heap.size, 0, none⟩) := hs 0 (by simp)
        have e1 : V 1 = .slice pw t.words.length cw := hs 1 (by simp)
        have e2 : V 2 = .int .i64 (errIf badWord t.words 3) := hs 2 (by simp)
        have e3 : V 3 = .pointer (some ⟨w.heap.size, 1, none⟩) := hs 3 (by simp)
        have e4 : V 4 = .slice pt t.turns.length ct := hs 4 (by simp)
        have e5 : V 5 = .agg #[.slice pw t.words.length cw, .slice pt t.turns.length ct, .int .i64 t.breath] := hs 5 (by simp)
        have r6 := hs 6 (by simp)
        have e7 : V 7 = .int .i64 (errIf (namesNo t.words.length) t.turns 1) := hs 7 (by simp)
        have e8 : V 8 = .pointer (some ⟨w.heap.size, 1, none⟩) := hs 8 (by simp)
        have e9 : V 9 = .slice pt t.turns.length ct := hs 9 (by simp)
        rw [if_pos (by rfl)]
        refine Rs.GrowL.call (f := 78) (args := #[.slice pt t.turns.length ct, .func (.func 80) #[] #[], .int .i64 4]) (by simp [go_sem, Rs.look, e9]) ?_
        refine (errIfT0_any _ entered_endsB endsB _ _ _ _ w' hl2 (HW.out.turns.below (join HB.out hG)) (fun W hW u => endsB_any u W)).mono ?_
        rintro e w2 ⟨rfl, hB2⟩
        exact ⟨_, rfl, hB2, rfl⟩
      · rw [if_pos (by rfl)]
        exact Rs.GrowL.value (v := .pointer (some ⟨w.heap.size, 1, none⟩)) (w' := w') (by simp [go_sem, Rs.look]) (Rs.Gr.refl _) rfl
      · have e11 : V 11 = .pointer (some ⟨w.heap.size, 1, none⟩) := hs 11 (by simp)
        rw [if_pos (by rfl)]
        exact Rs.GrowL.value (v := .slice pt t.turns.length ct) (w' := w') (by simp [go_sem, Rs.look, e11, k1]) (Rs.Gr.refl _) rfl
      · have e0 : V 0 = .pointer (some ⟨w.heap.size, 0, none⟩) := hs 0 (by simp)
        have e1 : V 1 = .slice pw t.words.length cw := hs 1 (by simp)
        have e2 : V 2 = .int .i64 (errIf badWord t.words 3) := hs 2 (by simp)
        have e3 : V 3 = .pointer (some ⟨w.heap.size, 1, none⟩) := hs 3 (by simp)
        have e4 : V 4 = .slice pt t.turns.length ct := hs 4 (by simp)
        have e5 : V 5 = .agg #[.slice pw t.words.length cw, .slice pt t.turns.length ct, .int .i64 t.breath] := hs 5 (by simp)
        have r6 := hs 6 (by simp)
        have e7 : V 7 = .int .i64 (errIf (namesNo t.words.length) t.turns 1) := hs 7 (by simp)
        have e8 : V 8 = .pointer (some ⟨w.heap.size, 1, none⟩) := hs 8 (by simp)
        have e9 : V 9 = .slice pt t.turns.length ct := hs 9 (by simp)
        have e10 : V 10 = .int .i64 (errIf endsB t.turns 4) := hs 10 (by simp)
        have e11 : V 11 = .pointer (some ⟨w.heap.size, 1, none⟩) := hs 11 (by simp)
        have e12 : V 12 = .slice pt t.turns.length ct := hs 12 (by simp)
        rw [if_pos (by rfl)]
        refine Rs.GrowL.call (f := 78) (args := #[.slice pt t.turns.length ct, .func (.func 81) #[] #[], .int .i64 7]) (by simp [go_sem, Rs.look, e12]) ?_
        refine (errIfT0_any _ entered_itself itself _ _ _ _ w' hl2 (HW.out.turns.below (join HB.out hG)) (fun W hW u => itself_any u W)).mono ?_
        rintro e w2 ⟨rfl, hB2⟩
        exact ⟨_, rfl, hB2, rfl⟩
      · have e0 : V 0 = .pointer (some ⟨w.heap.size, 0, none⟩) := hs 0 (by simp)
        have e1 : V 1 = .slice pw t.words.length cw := hs 1 (by simp)
        have e2 : V 2 = .int .i64 (errIf badWord t.words 3) := hs 2 (by simp)
        have e3 : V 3 = .pointer (some ⟨w.heap.size, 1, none⟩) := hs 3 (by simp)
        have e4 : V 4 = .slice pt t.turns.length ct := hs 4 (by simp)
        have e5 : V 5 = .agg #[.slice pw t.words.length cw, .slice pt t.turns.length ct, .int .i64 t.breath] := hs 5 (by simp)
        have r6 := hs 6 (by simp)
        have e7 : V 7 = .int .i64 (errIf (namesNo t.words.length) t.turns 1) := hs 7 (by simp)
        have e8 : V 8 = .pointer (some ⟨w.heap.size, 1, none⟩) := hs 8 (by simp)
        have e9 : V 9 = .slice pt t.turns.length ct := hs 9 (by simp)
        have e10 : V 10 = .int .i64 (errIf endsB t.turns 4) := hs 10 (by simp)
        have e11 : V 11 = .pointer (some ⟨w.heap.size, 1, none⟩) := hs 11 (by simp)
        have e12 : V 12 = .slice pt t.turns.length ct := hs 12 (by simp)
        have e13 : V 13 = .int .i64 (errIf itself t.turns 7) := hs 13 (by simp)
        rw [if_pos (by rfl)]
        refine Rs.GrowL.value (v := .slice (some ⟨w'.heap.size, 0, none⟩) 4 4) (w' := w'.alloc (.cells #[.int .i64 (errIf badWord t.words 3), .int .i64 (errIf (namesNo t.words.length) t.turns 1), .int .i64 (errIf endsB t.turns 4), .int .i64 (errIf itself t.turns 7)] 35)) ?_ (below1 _ _) ⟨_, rfl, ?_⟩
        · have hb4 := build4 w' (errIf badWord t.words 3) (errIf (namesNo t.words.length) t.turns 1) (errIf endsB t.turns 4) (errIf itself t.turns 7)
          simp [go_sem, Rs.look, e2, e7, e10, e13, hb4]
        · exact ints_new4 _ _ _ _ _ _
      · have e0 : V 0 = .pointer (some ⟨w.heap.size, 0, none⟩) := hs 0 (by simp)
        have e1 : V 1 = .slice pw t.words.length cw := hs 1 (by simp)
        have e2 : V 2 = .int .i64 (errIf badWord t.words 3) := hs 2 (by simp)
        have e3 : V 3 = .pointer (some ⟨w.heap.size, 1, none⟩) := hs 3 (by simp)
        have e4 : V 4 = .slice pt t.turns.length ct := hs 4 (by simp)
        have e5 : V 5 = .agg #[.slice pw t.words.length cw, .slice pt t.turns.length ct, .int .i64 t.breath] := hs 5 (by simp)
        have r6 := hs 6 (by simp)
        have e7 : V 7 = .int .i64 (errIf (namesNo t.words.length) t.turns 1) := hs 7 (by simp)
        have e8 : V 8 = .pointer (some ⟨w.heap.size, 1, none⟩) := hs 8 (by simp)
        have e9 : V 9 = .slice pt t.turns.length ct := hs 9 (by simp)
        have e10 : V 10 = .int .i64 (errIf endsB t.turns 4) := hs 10 (by simp)
        have e11 : V 11 = .pointer (some ⟨w.heap.size, 1, none⟩) := hs 11 (by simp)
        have e12 : V 12 = .slice pt t.turns.length ct := hs 12 (by simp)
        have e13 : V 13 = .int .i64 (errIf itself t.turns 7) := hs 13 (by simp)
        have r14 := hs 14 (by simp)
        rw [if_pos (by rfl)]
        obtain ⟨p14, e14, x14⟩ := r14
        refine Rs.GrowL.call (f := 75) (args := #[.slice (some ⟨p14, 0, none⟩) 4 4]) (by simp [go_sem, Rs.look, e14]) ?_
        refine (firstError_any [errIf badWord t.words 3, errIf (namesNo t.words.length) t.turns 1, errIf endsB t.turns 4, errIf itself t.turns 7] _ 4 w' (by simp) x14).mono ?_
        rintro e w2 ⟨rfl, rfl⟩
        exact ⟨_, rfl, Below.refl _ _, rfl⟩
    · intro V w' hG hs
      have e0 : V 0 = .pointer (some ⟨w.heap.size, 0, none⟩) := hs 0 (by omega)
      have e1 : V 1 = .slice pw t.words.length cw := hs 1 (by omega)
      have e2 : V 2 = .int .i64 (errIf badWord t.words 3) := hs 2 (by omega)
      have e3 : V 3 = .pointer (some ⟨w.heap.size, 1, none⟩) := hs 3 (by omega)
      have e4 : V 4 = .slice pt t.turns.length ct := hs 4 (by omega)
      have e5 : V 5 = .agg #[.slice pw t.words.length cw, .slice pt t.turns.length ct, .int .i64 t.breath] := hs 5 (by omega)
      have r6 := hs 6 (by omega)
      have e7 : V 7 = .int .i64 (errIf (namesNo t.words.length) t.turns 1) := hs 7 (by omega)
      have e8 : V 8 = .pointer (some ⟨w.heap.size, 1, none⟩) := hs 8 (by omega)
      have e9 : V 9 = .slice pt t.turns.length ct := hs 9 (by omega)
      have e10 : V 10 = .int .i64 (errIf endsB t.turns 4) := hs 10 (by omega)
      have e11 : V 11 = .pointer (some ⟨w.heap.size, 1, none⟩) := hs 11 (by omega)
      have e12 : V 12 = .slice pt t.turns.length ct := hs 12 (by omega)
      have e13 : V 13 = .int .i64 (errIf itself t.turns 7) := hs 13 (by omega)
      have r14 := hs 14 (by omega)
      have e15 : V 15 = .int .i64 (firstErr [errIf badWord t.words 3, errIf (namesNo t.words.length) t.turns 1, errIf endsB t.turns 4, errIf itself t.turns 7]) := hs 15 (by omega)
      obtain ⟨p6, e6, x6⟩ := r6
      obtain ⟨p14, e14, x14⟩ := r14
      simp only [Rs.canon, Rs.dstOf, List.range_succ, List.range_zero, List.nil_append, List.cons_append, List.foldl_cons, List.foldl_nil, List.drop_succ_cons, List.drop_zero, List.drop_nil, List.getElem?_toArray, List.getElem?_cons_succ, List.getElem?_cons_zero, Option.bind_some, Act.put, List.getD_cons_succ, List.getD_cons_zero, List.setIfInBounds_toArray, List.set_cons_succ, List.set_cons_zero]
      rw [e0, e1, e2, e3, e4, e5, e7, e8, e9, e10, e11, e12, e13, e15, e6, e14]
      clear e0 e1 e2 e3 e4 e5 e7 e8 e9 e10 e11 e12 e13 e15 e6 e14 hs
      go_wp2
      go_ret
      exact ⟨by rw [HE.out]; rfl, join HB.out hG⟩
end Go.Proofs.YtadnggecnjdhiaaGreat
set_option linter.unusedSimpArgs false
set_option linter.unusedVariables false
namespace Go.Proofs.YtadnggecnjdhiaaGreat
open Go.RowKit Tx

set_option maxHeartbeats 800000 in
theorem Check_any (t : Text) (hl1 : t.words.length ≤ 1000000) (hl2 : t.turns.length ≤ 1000000) (pw pt : Option Addr) (cw ct : Nat) (w : World) (hW : TxAt w t pw pt) :
    Calls Tryz.prog 33 #[.agg #[.slice pw t.words.length cw, .slice pt t.turns.length ct, .int .i64 t.breath]] w fun e w' => e = .returned (.int .i64 t.err) ∧ Below w.heap.size w w' := by
  by_cases h1 : t.len < 1 ∨ 12 < t.len ∨ 6 < t.turns.length
  · have hfin : t.err = 2 := by unfold Text.err; rw [if_pos h1]
    have HF := Lib.hid hfin
    unfold Text.len at h1
    clear hfin hW
    by_cases h2 : t.words.length < 1 ∨ 12 < t.words.length
    · have b1 : btw (t.words.length : Int) 1 12 = false := by simp [btw]; omega
      have H1 := Lib.hid b1
      clear b1 h1 h2
      go_enter Tryz.func33, Tryz.ntmps33
      go_wp2_with fail
      refine (between_any _ _ _ _).mono ?_
      rintro e w' ⟨rfl, rfl⟩
      rw [H1.out]
      go_wp2
      go_ret
      exact ⟨by rw [HF.out]; rfl, below1 _ _⟩
    · have b1 : btw (t.words.length : Int) 1 12 = true := by simp [btw]; omega
      have b3 : decide (6 < (t.turns.length : Int)) = true := by simp; omega
      have H1 := Lib.hid b1
      clear b1 h1 h2
      go_enter Tryz.func33, Tryz.ntmps33
      go_wp2_with fail
      refine (between_any _ _ _ _).mono ?_
      rintro e w' ⟨rfl, rfl⟩
      rw [H1.out]
      go_wp2
      go_ret
      exact ⟨by rw [HF.out]; rfl, below1 _ _⟩
  · by_cases h2 : t.breath < 1 ∨ 40 < t.breath
    · have hfin : t.err = 3 := by unfold Text.err; rw [if_neg h1, if_pos h2]
      have HF := Lib.hid hfin
      unfold Text.len at h1
      have b1 : btw (t.words.length : Int) 1 12 = true := by simp [btw]; omega
      have b2 : btw t.breath 1 40 = false := by simp [btw]; omega
      have b3 : decide (6 < (t.turns.length : Int)) = false := by simp; omega
      have H1 := Lib.hid b1
      have H2 := Lib.hid b2
      clear hfin hW b1 b2 h1 h2
      go_enter Tryz.func33, Tryz.ntmps33
      go_wp2_with fail
      refine (between_any _ _ _ _).mono ?_
      rintro e w' ⟨rfl, rfl⟩
      rw [H1.out]
      go_wp2_with fail
      refine (between_any _ _ _ _).mono ?_
      rintro e w' ⟨rfl, rfl⟩
      rw [H2.out]
      go_wp2
      go_ret
      exact ⟨by rw [HF.out]; rfl, below1 _ _⟩
    · exact check_in t hl1 hl2 h1 h2 pw pt cw ct w hW

/-- a right text at work: its readings may have what is right -/
def openV (t : Text) (pw pt : Option Addr) (cw ct : Nat) : Array Value :=
  #[.slice pw t.words.length cw, .slice pt t.turns.length ct, .int .i64 t.breath, .func (.func 91) #[.agg #[.slice pw t.words.length cw, .slice pt t.turns.length ct, .int .i64 t.breath, .nilFunc]] #[]]
set_option maxHeartbeats 800000 in
theorem open_ok (t : Text) (he : t.err = 0) (pw pt : Option Addr) (cw ct : Nat) (w : World) (hW : TxAt w t pw pt) :
    Calls Tryz.prog 41 #[.agg #[.slice pw t.words.length cw, .slice pt t.turns.length ct, .int .i64 t.breath]] w fun e w' =>
      e = .returned (.tuple #[.agg #[.slice pw t.words.length cw, .slice pt t.turns.length ct, .int .i64 t.breath, .func (.func 91) #[.agg #[.slice pw t.words.length cw, .slice pt t.turns.length ct, .int .i64 t.breath, .nilFunc]] #[]], .int .i64 0]) ∧ Below w.heap.size w w' := by
  have ok := err_ok he
  have HS := Lib.hid (fun W (h : Below w.heap.size w W) => Check_any t (by have := ok.n12; omega) (by have := ok.m6; omega) pw pt cw ct W (hW.below h))
  have HE := Lib.hid he
  have hmf := mf
  clear hW ok he
  go_enter Tryz.func41, Tryz.ntmps41
  go_wp2_with fail
  refine (HS.out _ ((below1 _ _).alloc (by simp) _)).mono ?_
  rintro e w5 ⟨rfl, hB5⟩
  rw [HE.out]
  obtain ⟨hc5, hf5⟩ := bcell hB5
  have hz5 : w.heap.size + 1 < w5.heap.size := by have := hB5.size; simp at this; omega
  have HB5 := Lib.hid (join ((below1 _ _).alloc (by simp) _) hB5)
  clear hB5
  go_wp2
  refine bodyPost_ret (v := .tuple #[.agg #[.slice pw t.words.length cw, .slice pt t.turns.length ct, .int .i64 t.breath, .func (.func 91) #[.agg #[.slice pw t.words.length cw, .slice pt t.turns.length ct, .int .i64 t.breath, .nilFunc]] #[]], .int .i64 0]) (by simp [results, Tryz.results41, go_sem, hc5, hz5]) rfl ⟨rfl, ?_⟩
  have hz6 := HB5.out.size
  repeat' (first | exact HB5.out | apply belS | apply belA | apply belD)
  all_goals first | omega | (simp; done) | (simp; omega)

set_option maxHeartbeats 800000 in
theorem open_bad (t : Text) (he : t.err ≠ 0) (hl1 : t.words.length ≤ 1000000) (hl2 : t.turns.length ≤ 1000000) (pw pt : Option Addr) (cw ct : Nat) (w : World) (hW : TxAt w t pw pt) :
    Calls Tryz.prog 41 #[.agg #[.slice pw t.words.length cw, .slice pt t.turns.length ct, .int .i64 t.breath]] w fun e w' =>
      e = .returned (.tuple #[.agg #[.slice none 0 0, .slice none 0 0, .int .i64 0, .nilFunc], .int .i64 t.err]) ∧ Below w.heap.size w w' := by
  have HS := Lib.hid (fun W (h : Below w.heap.size w W) => Check_any t hl1 hl2 pw pt cw ct W (hW.below h))
  have HE : (t.err != 0) = true := by simpa using he
  have hmf := mf
  clear hW he
  generalize t.err = er at HE HS ⊢
  go_enter Tryz.func41, Tryz.ntmps41
  go_wp2_with fail
  refine (HS.out _ ((below1 _ _).alloc (by simp) _)).mono ?_
  rintro e w5 ⟨rfl, hB5⟩
  obtain ⟨hc5, hf5⟩ := bcell hB5
  have hz5 : w.heap.size + 1 < w5.heap.size := by have := hB5.size; simp at this; omega
  have HB5 := Lib.hid (join ((below1 _ _).alloc (by simp) _) hB5)
  clear hB5
  go_wp2
  refine bodyPost_ret (v := .tuple #[.agg #[.slice none 0 0, .slice none 0 0, .int .i64 0, .nilFunc], .int .i64 er]) (by simp [results, Tryz.results41, go_sem, hc5, hz5]) rfl ⟨rfl, ?_⟩
  have hz6 := HB5.out.size
  repeat' (first | exact HB5.out | apply belS | apply belA | apply belD)
  all_goals first | omega | (simp; done) | (simp; omega)

/-- the error of a reading -/
def readErr (t : Text) (l : List Int) : Int := if t.err ≠ 0 then t.err else if l.any (fun k => !btw k 1 12) then 3 else if isum l ≠ t.words.length then 2 else 0
set_option maxHeartbeats 1600000 in
theorem openReading_ok (t : Text) (l : List Int) (he : readErr t l = 0) (hll : l.length ≤ 1000000) (pw pt pl : Option Addr) (cw ct cl : Nat) (w : World) (hW : TxAt w t pw pt) (hL : Ints w pl l) :
    Calls Tryz.prog 84 #[.agg #[.slice pw t.words.length cw, .slice pt t.turns.length ct, .int .i64 t.breath], .slice pl l.length cl] w fun e w' =>
      e = .returned (.tuple #[.agg #[.slice pw t.words.length cw, .slice pt t.turns.length ct, .int .i64 t.breath, .func (.func 91) #[.agg #[.slice pw t.words.length cw, .slice pt t.turns.length ct, .int .i64 t.breath, .nilFunc]] #[]], .int .i64 0]) ∧ Below w.heap.size w w' := by
  have h0 : t.err = 0 := by
    by_cases h : t.err = 0
    · exact h
    · unfold readErr at he; rw [if_pos h] at he; exact absurd he h
  unfold readErr at he
  rw [if_neg (by simp [h0])] at he
  have h1 : ¬ l.any (fun k => !btw k 1 12) = true := by intro h; rw [if_pos h] at he; omega
  rw [if_neg h1] at he
  have h2 : isum l = t.words.length := by
    by_cases h : isum l = t.words.length
    · exact h
    · rw [if_pos h] at he; omega
  have hx : ∀ x ∈ l, -1000000 ≤ x ∧ x ≤ 1000000 := fun x hx => by
    have := any_false h1 x hx
    simp only [Bool.not_eq_false'] at this
    have := btw_true this; omega
  have h3 : errIf (fun k => !btw k 1 12) l 3 = 0 := by rw [errIf, if_neg h1]
  have HS := Lib.hid (fun W (h : Below w.heap.size w W) => open_ok t h0 pw pt cw ct W (hW.below h))
  have HI := Lib.hid (fun W (h : Below w.heap.size w W) => errIfI_any 124 entered_openReading1 (fun k => !btw k 1 12) l pl cl 3 W hll (hL.below h) (fun W' _ u => (openReading1_any u W').mono fun e w' ⟨h1, h2⟩ => ⟨h1, h2 ▸ Below.refl _ _⟩))
  have HM := Lib.hid (fun W (h : Below w.heap.size w W) => sum_any l pl cl W hll hx (hL.below h))
  have H2 := Lib.hid h2
  have H3 := Lib.hid h3
  have h2' : ((t.words.length : Int) != t.words.length) = false := by simp
  clear hW hL he h1 h2 h3 h0 hx
  go_enter Tryz.func84, Tryz.ntmps84
  go_wp2_with fail
  refine (HS.out _ ((below1 _ _).alloc (by simp) _)).mono ?_
  rintro e w5 ⟨rfl, hB5⟩
  obtain ⟨hc5, hf5⟩ := bcell hB5
  have hz5 : w.heap.size + 1 < w5.heap.size := by have := hB5.size; simp at this; omega
  have hy5 : w.heap.size < w5.heap.size := by omega
  have HB5 := Lib.hid (join ((below1 _ _).alloc (by simp) _) hB5)
  have hblk : w5.heap[w.heap.size + 1]? = some (.cells #[.slice none 0 0, .slice none 0 0, .int .i64 0, .nilFunc] 84 (0, 0)) := by
    rw [hB5.block _ (by simp)]
    have := heap_last (w.alloc (.cells #[.slice pw t.words.length cw, .slice pt t.turns.length ct, .int .i64 t.breath] 25)) (.cells #[.slice none 0 0, .slice none 0 0, .int .i64 0, .nilFunc] 84)
    rwa [World.size_alloc] at this
  have HBLK := Lib.hid hblk
  clear hB5 hblk
  go_wp2_with fail
  refine (HI.out _ (join HB5.out (below1 _ _))).mono ?_
  rintro e w6 ⟨rfl, hB6⟩
  rw [H3.out]
  obtain ⟨hc6, hf6⟩ := bcell hB6
  have hz6 : w5.heap.size < w6.heap.size := by have := hB6.size; simp at this; omega
  have HB6 := Lib.hid (join (join HB5.out (below1 _ _)) hB6)
  have hblk6 := (hB6.block (w.heap.size + 1) (by simp; omega)).trans ((Below.heap_alloc _ _ _ hz5).trans HBLK.out)
  have r0 := blk_cells hblk6 0 _ rfl
  have r1 := blk_cells hblk6 1 _ rfl
  have r2 := blk_cells hblk6 2 _ rfl
  have r3 := blk_cells hblk6 3 _ rfl
  clear hB6 hblk6
  have hq6 : w.heap.size < w6.heap.size ∧ w.heap.size + 1 < w6.heap.size := by omega
  obtain ⟨hq6, hq7⟩ := hq6
  go_wp2_with fail
  go_region_with (go_at_call 125; refine (HM.out _ (by first | exact HB6.out.drew | exact HB6.out)).mono ?_; rintro e w7 ⟨rfl, rfl⟩; rw [H2.out])
  all_goals go_wp2
  all_goals refine bodyPost_ret (v := .tuple #[.agg #[.slice pw t.words.length cw, .slice pt t.turns.length ct, .int .i64 t.breath, .func (.func 91) #[.agg #[.slice pw t.words.length cw, .slice pt t.turns.length ct, .int .i64 t.breath, .nilFunc]] #[]], .int .i64 0]) (by simp [results, Tryz.results84, go_sem, hc5, hz5, hc6, hz6, hq6, hq7, r0, r1, r2, r3]) rfl ⟨rfl, ?_⟩
  all_goals have hz7 := HB6.out.size
  all_goals repeat' (first | exact HB6.out | apply belS | apply belA | apply belD)
  all_goals first | omega | (simp; done) | (simp; omega)
end Go.Proofs.YtadnggecnjdhiaaGreat
namespace Go.Proofs
open Go.Shelf
def Tryz.lays108_ren : Go.Shelf.Ren := ⟨fun | 108 => 139 | n => n, fun | 28 => 34 | 3 => 3 | 0 => 0 | 4 => 4 | n => n, fun | n => n⟩
theorem Tryz.lays108 : Go.Proofs.Lays.n108 Tryz.prog Tryz.lays108_ren := {
  mixed := by kernel_rfl
  f108 := Tryz.func139.trans (congrArg some (by kernel_rfl))
  t0 := Tryz.underlying0
  a0 := Tryz.isAgg0
  z0 := Tryz.sizeOf0
  v0 := Tryz.zeroValue0
  t3 := Tryz.underlying3
  a3 := Tryz.isAgg3
  z3 := Tryz.sizeOf3
  v3 := Tryz.zeroValue3
  t4 := Tryz.underlying4
  a4 := Tryz.isAgg4
  z4 := Tryz.sizeOf4
  v4 := Tryz.zeroValue4
  t28 := Tryz.underlying34
  a28 := Tryz.isAgg34
  z28 := Tryz.sizeOf34
  v28 := Tryz.zeroValue34 }
open Go.Lib in
/-- slices.Index at []int: "Index returns the index of the first occurrence of v in s, or -1 if not present.": IT RETURNS 'Lib.idxOf (the elements) v'; the world is as it was. 'zs': what the cells behind the slice's address hold (its spare capacity too, if you have it); 'zs.take n': its elements. (LAID: no walk: one application.) -/
theorem Tryz.slices_Index_int (b off n c : Nat) (zs : List Int) (x : Int) (w : World) (hz : n ≤ zs.length) (hbig : n ≤ 9223372036854775807) (hc : ∀ j, j < zs.length → w.cell? ⟨b, off + j, none⟩ = some (.int .i64 (zs.getD j 0))) :
    Calls Tryz.prog 139 #[.slice (some ⟨b, off, none⟩) n c, .int .i64 x] w fun e w' => e = .returned (.int .i64 (Lib.idxOf (zs.take n) x)) ∧ w' = w := Any.slices_Index_int Tryz.lays108 b off n c zs x w hz hbig hc
open Go.Lib in
/-- The same at a slice of length 0, a nil one too: no cell is known, none is asked for. (LAID: no walk: one application.) -/
theorem Tryz.slices_Index_int_empty (a : Option Addr) (c : Nat) (x : Int) (w : World) :
    Calls Tryz.prog 139 #[.slice a 0 c, .int .i64 x] w fun e w' => e = .returned (.int .i64 (Lib.idxOf [] x)) ∧ w' = w := Any.slices_Index_int_empty Tryz.lays108 a c x w
def Tryz.lays107_ren : Go.Shelf.Ren := ⟨fun | 107 => 136 | 108 => 139 | n => n, fun | 28 => 34 | 3 => 3 | 4 => 4 | 0 => 0 | n => n, fun | n => n⟩
theorem Tryz.lays107 : Go.Proofs.Lays.n107 Tryz.prog Tryz.lays107_ren := {
  mixed := by kernel_rfl
  f107 := Tryz.func136.trans (congrArg some (by kernel_rfl))
  f108 := Tryz.func139.trans (congrArg some (by kernel_rfl))
  t0 := Tryz.underlying0
  a0 := Tryz.isAgg0
  z0 := Tryz.sizeOf0
  v0 := Tryz.zeroValue0
  t3 := Tryz.underlying3
  a3 := Tryz.isAgg3
  z3 := Tryz.sizeOf3
  v3 := Tryz.zeroValue3
  t4 := Tryz.underlying4
  a4 := Tryz.isAgg4
  z4 := Tryz.sizeOf4
  v4 := Tryz.zeroValue4
  t28 := Tryz.underlying34
  a28 := Tryz.isAgg34
  z28 := Tryz.sizeOf34
  v28 := Tryz.zeroValue34 }
open Go.Lib in
/-- slices.Contains at []int: "Contains reports whether v is present in s.": IT RETURNS 'elements.contains v'; the world is as it was. ITS CALLEE slices.Index IS MET BY ITS OWN CONTRACT OFF THE SHELF (lay that first): no loop is walked here. (LAID: no walk: one application.) -/
theorem Tryz.slices_Contains_int (b off n c : Nat) (zs : List Int) (x : Int) (w : World) (hz : n ≤ zs.length) (hbig : n ≤ 9223372036854775807) (hc : ∀ j, j < zs.length → w.cell? ⟨b, off + j, none⟩ = some (.int .i64 (zs.getD j 0))) :
    Calls Tryz.prog 136 #[.slice (some ⟨b, off, none⟩) n c, .int .i64 x] w fun e w' => e = .returned (.bool ((zs.take n).contains x)) ∧ w' = w := Any.slices_Contains_int Tryz.lays107 b off n c zs x w hz hbig hc
open Go.Lib in
/-- The same at a slice of length 0, a nil one too. (LAID: no walk: one application.) -/
theorem Tryz.slices_Contains_int_empty (a : Option Addr) (c : Nat) (x : Int) (w : World) :
    Calls Tryz.prog 136 #[.slice a 0 c, .int .i64 x] w fun e w' => e = .returned (.bool false) ∧ w' = w := Any.slices_Contains_int_empty Tryz.lays107 a c x w
def Tryz.lays112_ren : Go.Shelf.Ren := ⟨fun | 112 => 95 | n => n, fun | 28 => 34 | 3 => 3 | 4 => 4 | 0 => 0 | n => n, fun | n => n⟩
theorem Tryz.lays112 : Go.Proofs.Lays.n112 Tryz.prog Tryz.lays112_ren := {
  mixed := by kernel_rfl
  f112 := Tryz.func95.trans (congrArg some (by kernel_rfl))
  t0 := Tryz.underlying0
  a0 := Tryz.isAgg0
  z0 := Tryz.sizeOf0
  v0 := Tryz.zeroValue0
  t3 := Tryz.underlying3
  a3 := Tryz.isAgg3
  z3 := Tryz.sizeOf3
  v3 := Tryz.zeroValue3
  t4 := Tryz.underlying4
  a4 := Tryz.isAgg4
  z4 := Tryz.sizeOf4
  v4 := Tryz.zeroValue4
  t28 := Tryz.underlying34
  a28 := Tryz.isAgg34
  z28 := Tryz.sizeOf34
  v28 := Tryz.zeroValue34 }
open Go.RowKit Go.Lib Go.Sort in
/-- slices.Reverse at []int, over an array: Go's loop from the two ends inward is walked; it makes 'Sort.reverseLoop 0 (len - 1)', which is 'Array.reverse' (Derived/Lib/SlicesMore.lean). (LAID: no walk: one application.) -/
theorem Tryz.slices_Reverse_int_arr (blk off cap : Nat) (d : Array Int) (w : World) (hH : Holds encI w blk off d) (hsz : d.size ≤ 9223372036854775807) :
    Calls Tryz.prog 95 #[.slice (some ⟨blk, off, none⟩) d.size cap] w fun e w' => e = .returned (.tuple #[]) ∧ ∃ n, w' = putRow encI (Sort.ahead w n) blk off d.reverse := Any.slices_Reverse_int_arr Tryz.lays112 blk off cap d w hH hsz
open Go.RowKit Go.Lib Go.Sort in
/-- slices.Reverse at []int: "Reverse reverses the elements of the slice in place.": THE SLICE's CELLS HOLD 'zs.reverse' BEHIND THE CALL; all else is as it was, but for the count of draws (the exchange 's[i], s[j] = s[j], s[i]' draws its order, once a round). IN THE WORDS OF slices.Sort's CONTRACT: 'Holds': the cells hold zs and none is frozen; 'putRow': the world with those cells holding another array. A slice of length 0 that is not nil is among them ('zs = []'); nil: '.._nil'. (LAID: no walk: one application.) -/
theorem Tryz.slices_Reverse_int (blk off cap : Nat) (zs : List Int) (w : World) (hH : Holds (Value.int .i64) w blk off zs.toArray) (hsz : zs.length ≤ 9223372036854775807) :
    Calls Tryz.prog 95 #[.slice (some ⟨blk, off, none⟩) zs.length cap] w fun e w' => e = .returned (.tuple #[]) ∧ ∃ n, w' = putRow (Value.int .i64) (Sort.ahead w n) blk off zs.reverse.toArray := Any.slices_Reverse_int Tryz.lays112 blk off cap zs w hH hsz
open Go.RowKit Go.Lib Go.Sort in
/-- The same at a slice of length 0, a nil one too: nothing is read, nothing written, nothing drawn. (LAID: no walk: one application.) -/
theorem Tryz.slices_Reverse_int_empty (a : Option Addr) (cap : Nat) (w : World) :
    Calls Tryz.prog 95 #[.slice a 0 cap] w fun e w' => e = .returned (.tuple #[]) ∧ w' = w := Any.slices_Reverse_int_empty Tryz.lays112 a cap w
def Tryz.lays111_ren : Go.Shelf.Ren := ⟨fun | 111 => 51 | n => n, fun | 28 => 34 | 3 => 3 | 4 => 4 | 0 => 0 | n => n, fun | n => n⟩
theorem Tryz.lays111 : Go.Proofs.Lays.n111 Tryz.prog Tryz.lays111_ren := {
  mixed := by kernel_rfl
  f111 := Tryz.func51.trans (congrArg some (by kernel_rfl))
  t0 := Tryz.underlying0
  a0 := Tryz.isAgg0
  z0 := Tryz.sizeOf0
  v0 := Tryz.zeroValue0
  t3 := Tryz.underlying3
  a3 := Tryz.isAgg3
  z3 := Tryz.sizeOf3
  v3 := Tryz.zeroValue3
  t4 := Tryz.underlying4
  a4 := Tryz.isAgg4
  z4 := Tryz.sizeOf4
  v4 := Tryz.zeroValue4
  t28 := Tryz.underlying34
  a28 := Tryz.isAgg34
  z28 := Tryz.sizeOf34
  v28 := Tryz.zeroValue34 }
open Go.RowKit Go.Lib in
/-- slices.Equal at []int: "Equal reports whether two slices are equal: the same length and all elements equal. If the lengths are different, Equal returns false. Otherwise, the elements are compared in increasing index order, and the comparison stops at the first unequal pair. Empty and nil slices are considered equal.": IT RETURNS WHETHER THE TWO LISTS OF ELEMENTS ARE ONE; the world is as it was but for the count of draws (the test 's1[i] != s2[i]' has two reads, whose order the model draws, once a round). 'xs', 'ys': what the cells behind the two addresses hold (the spare capacity too, if you have it); 'xs.take n', 'ys.take m': the elements. THE TWO SLICES MAY OVERLAP. (LAID: no walk: one application.) -/
theorem Tryz.slices_Equal_int (b1 o1 n c b2 o2 m d : Nat) (xs ys : List Int) (w : World) (hx : n ≤ xs.length) (hy : m ≤ ys.length) (hbig : n ≤ 9223372036854775807) (hbig2 : m ≤ 9223372036854775807) (hc1 : ∀ j, j < xs.length → w.cell? ⟨b1, o1 + j, none⟩ = some (.int .i64 (xs.getD j 0))) (hc2 : ∀ j, j < ys.length → w.cell? ⟨b2, o2 + j, none⟩ = some (.int .i64 (ys.getD j 0))) :
    Calls Tryz.prog 51 #[.slice (some ⟨b1, o1, none⟩) n c, .slice (some ⟨b2, o2, none⟩) m d] w fun e w' => e = .returned (.bool (xs.take n == ys.take m)) ∧ ∃ q, w' = w.drewN q := Any.slices_Equal_int Tryz.lays111 b1 o1 n c b2 o2 m d xs ys w hx hy hbig hbig2 hc1 hc2
open Go.RowKit Go.Lib in
/-- The same where the first is of length 0 (a nil one too): no cell is asked for. (LAID: no walk: one application.) -/
theorem Tryz.slices_Equal_int_empty (a1 a2 : Option Addr) (c m d : Nat) (w : World) (hbig2 : m ≤ 9223372036854775807) :
    Calls Tryz.prog 51 #[.slice a1 0 c, .slice a2 m d] w fun e w' => e = .returned (.bool (decide (m = 0))) ∧ w' = w := Any.slices_Equal_int_empty Tryz.lays111 a1 a2 c m d w hbig2
def Tryz.laysNm215_ren : Go.Shelf.Ren := ⟨fun | 15 => 121 | n => n, fun | 22 => 34 | 3 => 3 | 4 => 4 | n => n, fun | n => n⟩
theorem Tryz.laysNm215 : Go.Proofs.Lays2.n15 Tryz.prog Tryz.laysNm215_ren := {
  mixed := by kernel_rfl
  f15 := Tryz.func121.trans (congrArg some (by kernel_rfl))
  t3 := Tryz.underlying3
  a3 := Tryz.isAgg3
  z3 := Tryz.sizeOf3
  v3 := Tryz.zeroValue3
  t4 := Tryz.underlying4
  a4 := Tryz.isAgg4
  z4 := Tryz.sizeOf4
  v4 := Tryz.zeroValue4
  t22 := Tryz.underlying34
  a22 := Tryz.isAgg34
  z22 := Tryz.sizeOf34
  v22 := Tryz.zeroValue34
  i3 := by kernel_rfl }
open Go.RowKit Go.Lib in
/-- slices.Clone at []int: "Clone returns a copy of the slice. The elements are copied using assignment, so this is a shallow clone. The result may have additional unused capacity. The result preserves the nilness of s.": OF A SLICE THAT IS NOT nil IT RETURNS A SLICE THAT IS NOT nil, OF THE SAME ELEMENTS, IN MEMORY OF THE CALL's OWN: in the how-to's words (6f): 'w'.ownsRow B e 1 v' n cells': v' begins at the head of a row among the blocks from B on (B: the heap's size at the call), not frozen, whose first cells are the elements · 'Below B w w'': below B all is as it was. The capacity is whatever the run-time gives. 'zs': what the cells behind the slice's address hold; 'zs.take n': its elements. (LAID: no walk: one application.) -/
theorem Tryz.slices_Clone_int (b off n c : Nat) (zs : List Int) (w : World) (hz : n ≤ zs.length) (hbig : n * 8 ≤ 140737488355328) (hc : ∀ j, j < zs.length → w.cell? ⟨b, off + j, none⟩ = some (.int .i64 (zs.getD j 0))) :
    Calls Tryz.prog 121 #[.slice (some ⟨b, off, none⟩) n c] w fun e w' => ∃ v', e = .returned v' ∧ w'.ownsRow w.heap.size 3 1 v' n ((zs.take n).map (Value.int .i64)) ∧ v' ≠ .slice none 0 0 ∧ Below w.heap.size w w' := Any.slices_Clone_int Tryz.laysNm215 b off n c zs w hz hbig hc
open Go.RowKit Go.Lib in
/-- The same at nil: nil comes back; the world is as it was. (LAID: no walk: one application.) -/
theorem Tryz.slices_Clone_int_nil (n c : Nat) (w : World) :
    Calls Tryz.prog 121 #[.slice none n c] w fun e w' => e = .returned (.slice none 0 0) ∧ w' = w := Any.slices_Clone_int_nil Tryz.laysNm215 n c w
open Go.RowKit Go.Lib in
/-- The same at a slice of length 0 that is not nil, WHATEVER ITS ADDRESS (no cell is asked for): a slice that is not nil and owns nothing comes back. (LAID: no walk: one application.) -/
theorem Tryz.slices_Clone_int_zero (a : Addr) (c : Nat) (w : World) :
    Calls Tryz.prog 121 #[.slice (some a) 0 c] w fun e w' => ∃ v', e = .returned v' ∧ w'.ownsRow w.heap.size 3 1 v' 0 [] ∧ v' ≠ .slice none 0 0 ∧ Below w.heap.size w w' := Any.slices_Clone_int_zero Tryz.laysNm215 a c w
open Go.RowKit Go.Lib Go.Sort in
/-- slices.Reverse at []int, of an argument: the n cells hold the elements in reverse. (LAID: no walk: one application.) -/
theorem Tryz.slices_Reverse_int_cells (b off n c : Nat) (zs : List Int) (w : World) (hz : n ≤ zs.length) (hbig : n ≤ 9223372036854775807) (hc : ∀ j, j < zs.length → w.cell? ⟨b, off + j, none⟩ = some (.int .i64 (zs.getD j 0))) (hf : ∀ j, j < n → w.frozen? ⟨b, off + j, none⟩ = false) :
    Calls Tryz.prog 95 #[.slice (some ⟨b, off, none⟩) n c] w fun e w' => e = .returned (.tuple #[]) ∧ ∃ q, w' = (w.drewN q).setCells b off ((zs.take n).reverse.map (Value.int .i64)) := Any.slices_Reverse_int_cells Tryz.lays112 b off n c zs w hz hbig hc hf
open Go.RowKit Go.Lib in
theorem Tryz.slices_Equal_int_lens (a1 a2 : Option Addr) (n c m d : Nat) (w : World) (hnm : n ≠ m) :
    Calls Tryz.prog 51 #[.slice a1 n c, .slice a2 m d] w fun e w' => e = .returned (.bool false) ∧ w' = w := Any.slices_Equal_int_lens Tryz.lays111 a1 a2 n c m d w hnm
def Tryz.laysSlE35_f95_ren : Go.Shelf.Ren := ⟨fun | 35 => 95 | n => n, fun | 22 => 34 | 23 => 3 | 3 => 3 | 4 => 4 | 0 => 0 | n => n, fun | n => n⟩
theorem Tryz.laysSlE35_f95 : Go.Proofs.SlLaysE.n35 Tryz.prog Tryz.laysSlE35_f95_ren := {
  mixed := by kernel_rfl
  f35 := ⟨Tryz.f95.name, by decide, Tryz.func95.trans (congrArg some (by kernel_rfl))⟩
  t0 := Tryz.underlying0
  a0 := Tryz.isAgg0
  z0 := Tryz.sizeOf0
  v0 := Tryz.zeroValue0
  t3 := Tryz.underlying3
  a3 := Tryz.isAgg3
  z3 := Tryz.sizeOf3
  v3 := Tryz.zeroValue3
  t4 := Tryz.underlying4
  a4 := Tryz.isAgg4
  z4 := Tryz.sizeOf4
  v4 := Tryz.zeroValue4
  t22 := Tryz.underlying34
  a22 := Tryz.isAgg34
  z22 := Tryz.sizeOf34
  v22 := Tryz.zeroValue34
  a23 := Tryz.isAgg3
  z23 := Tryz.sizeOf3 }
open Go.RowKit Go.Lib Go.Sort in
/-- slices.Reverse, over an array: Go's loop from the two ends inward is walked; it makes 'Sort.reverseLoop 0 (len - 1)', which is 'Array.reverse' (Derived/Lib/SlicesMore.lean). (LAID AT THE INSTANCE 'slices.Reverse[[]int,int]': no walk: one application.) -/
theorem Tryz.slices_Reverse_arr {α : Type} [Inhabited α] (enc : α → Value) (h1 : OneCell enc) (blk off cap : Nat) (d : Array α) (w : World) (hH : Holds enc w blk off d) (hsz : d.size ≤ 9223372036854775807) :
    Calls Tryz.prog 95 #[.slice (some ⟨blk, off, none⟩) d.size cap] w fun e w' => e = .returned (.tuple #[]) ∧ ∃ n, w' = putRow enc (Sort.ahead w n) blk off d.reverse := AnyE.slices_Reverse_arr Tryz.laysSlE35_f95 enc h1 blk off cap d w hH hsz
open Go.RowKit Go.Lib Go.Sort in
/-- slices.Reverse: "Reverse reverses the elements of the slice in place.": THE SLICE's CELLS HOLD 'zs.reverse' BEHIND THE CALL; all else is as it was, but for the count of draws (the exchange 's[i], s[j] = s[j], s[i]' draws its order, once a round). IN THE WORDS OF slices.Sort's CONTRACT: 'Holds': the cells hold zs and none is frozen; 'putRow': the world with those cells holding another array. A slice of length 0 that is not nil is among them ('zs = []'); nil: '.._nil'. (LAID AT THE INSTANCE 'slices.Reverse[[]int,int]': no walk: one application.) -/
theorem Tryz.slices_Reverse {α : Type} [Inhabited α] (enc : α → Value) (h1 : OneCell enc) (blk off cap : Nat) (zs : List α) (w : World) (hH : Holds enc w blk off zs.toArray) (hsz : zs.length ≤ 9223372036854775807) :
    Calls Tryz.prog 95 #[.slice (some ⟨blk, off, none⟩) zs.length cap] w fun e w' => e = .returned (.tuple #[]) ∧ ∃ n, w' = putRow enc (Sort.ahead w n) blk off zs.reverse.toArray := AnyE.slices_Reverse Tryz.laysSlE35_f95 enc h1 blk off cap zs w hH hsz
open Go.RowKit Go.Lib Go.Sort in
/-- The same at a slice of length 0, a nil one too: nothing is read, nothing written, nothing drawn. (LAID AT THE INSTANCE 'slices.Reverse[[]int,int]': no walk: one application.) -/
theorem Tryz.slices_Reverse_empty {α : Type} [Inhabited α] (a : Option Addr) (cap : Nat) (w : World) :
    Calls Tryz.prog 95 #[.slice a 0 cap] w fun e w' => e = .returned (.tuple #[]) ∧ w' = w := AnyE.slices_Reverse_empty Tryz.laysSlE35_f95 a cap w
def Tryz.laysSlE041_f121_ren : Go.Shelf.Ren := ⟨fun | 41 => 121 | n => n, fun | 22 => 34 | 23 => 3 | 4 => 4 | n => n, fun | n => n⟩
theorem Tryz.laysSlE041_f121 : Go.Proofs.SlLaysE0.n41 Tryz.prog Tryz.laysSlE041_f121_ren := {
  mixed := by kernel_rfl
  f41 := ⟨Tryz.f121.name, by decide, Tryz.func121.trans (congrArg some (by kernel_rfl))⟩
  t4 := Tryz.underlying4
  a4 := Tryz.isAgg4
  z4 := Tryz.sizeOf4
  v4 := Tryz.zeroValue4
  t22 := Tryz.underlying34
  a22 := Tryz.isAgg34
  z22 := Tryz.sizeOf34
  v22 := Tryz.zeroValue34 }
open Go.RowKit Go.Lib in
/-- slices.Clone: "Clone returns a copy of the slice. The elements are copied using assignment, so this is a shallow clone. The result may have additional unused capacity. The result preserves the nilness of s.": OF A SLICE THAT IS NOT nil IT RETURNS A SLICE THAT IS NOT nil, OF THE SAME CELLS, IN MEMORY OF THE CALL's OWN ('ownsRow': the how-to's 6f); below the heap's size at the call all is as it was. (LAID AT THE INSTANCE 'slices.Clone[[]int,int]': no walk: one application.) -/
theorem Tryz.slices_Clone (i0 : TypeInfo) (z : Value) (size bytes : Nat) (hi : Tryz.prog.info? 3 = some i0) (hz0 : i0.zero = some z) (hz1 : i0.size = size) (hz2 : i0.bytes = bytes) (hzs : z.cells.size = size) (hsz : 0 < size) (z23 : ∀ w, (Go.sizeOf 3).run Tryz.prog w = .ok size w) (b off n c : Nat) (news : List Value) (w : World) (hl : news.length = n * size) (hn : n ≤ maxLen) (hbig : n * bytes ≤ 140737488355328) (hc : ∀ j u, news[j]? = some u → w.cell? ⟨b, off + j, none⟩ = some u) (h1 : ∀ u ∈ news, u.oneCell' = true) :
    Calls Tryz.prog 121 #[.slice (some ⟨b, off, none⟩) n c] w fun e w' => ∃ v', e = .returned v' ∧ w'.ownsRow w.heap.size 3 size v' n news ∧ v' ≠ .slice none 0 0 ∧ Below w.heap.size w w' := AnyE.slices_Clone Tryz.laysSlE041_f121 i0 z size bytes hi hz0 hz1 hz2 hzs hsz z23 b off n c news w hl hn hbig hc h1
open Go.RowKit Go.Lib in
/-- The same at nil: nil comes back; the world is as it was; nothing is asked of the element's type. (LAID AT THE INSTANCE 'slices.Clone[[]int,int]': no walk: one application.) -/
theorem Tryz.slices_Clone_nil (n c : Nat) (w : World) :
    Calls Tryz.prog 121 #[.slice none n c] w fun e w' => e = .returned (.slice none 0 0) ∧ w' = w := AnyE.slices_Clone_nil Tryz.laysSlE041_f121 n c w
end Go.Proofs
set_option linter.unusedSimpArgs false
set_option linter.unusedVariables false
namespace Go.Proofs.YtadnggecnjdhiaaGreat
open Go.RowKit Tx
theorem wpList_store_new {P : Program} {ops : Array Oper} {rest : List Oper} {op : Oper} {a : Act} {w : World} {Q : Exit → Act → World → Prop} (hgd : op.guard = none) (ty : TypeId) (x y : Operand) (ho : op.op = .store ty x y)
    (c c' : Array Value) (hx : a.eval x = .pointer (some ⟨w.heap.size, 0, none⟩)) (hy : a.eval y = .agg c')
    (hi : (P.info? ty).map (·.size) = some c'.size) (hs : c.size = c'.size) (h1 : c'.all (·.oneCell') = true)
    (h : wpList P ops Q rest (a.put op.dst undef) (w.alloc (.cells c' ty))) : wpList P ops Q (op :: rest) a (w.alloc (.cells c ty)) :=
  wpList_plain hgd fun K hK => by
    unfold Oper.wp execOp
    simp only [ho, hx, hy, Sem.run_bind, run_storeAt_new w ty c c' hi hs h1, Result.andThen_ok, Sem.run_pure]
    exact hK _ _ h
theorem wpList_store_new2 {P : Program} {ops : Array Oper} {rest : List Oper} {op : Oper} {a : Act} {w : World} {Q : Exit → Act → World → Prop} (hgd : op.guard = none) (ty : TypeId) (x y : Operand) (ho : op.op = .store ty x y) (b : Nat)
    (c c' : Array Value) (hx : a.eval x = .pointer (some ⟨b, 0, none⟩)) (hb : b = w.heap.size) (hy : a.eval y = .agg c')
    (hi : (P.info? ty).map (·.size) = some c'.size) (hs : c.size = c'.size) (h1 : c'.all (·.oneCell') = true)
    (h : wpList P ops Q rest (a.put op.dst undef) (w.alloc (.cells c' ty))) : wpList P ops Q (op :: rest) a (w.alloc (.cells c ty)) := by
  subst hb
  exact wpList_store_new hgd ty x y ho c c' hx hy hi hs h1 h
theorem wpList_look {P : Program} {ops : Array Oper} {rest : List Oper} {o : Oper} {a : Act} {w : World} {Q : Exit → Act → World → Prop} (hgd : o.guard = none) (t : TypeId) (m x : Operand) (b : Bool) (ho : o.op = .lookup t m x b) (u v r : Value)
    (hm : a.eval m = u) (hx : a.eval x = v) (hr : (Instr.lookup t u v b).run P w = .ok r w) (h : wpList P ops Q rest (a.put o.dst r) w) : wpList P ops Q (o :: rest) a w :=
  wpList_plain hgd fun K hK => by
    unfold Oper.wp execOp
    simp only [ho, hm, hx, Sem.run_bind, hr, Result.andThen_ok, Sem.run_pure]
    exact hK _ _ h
theorem wpList_upd {P : Program} {ops : Array Oper} {rest : List Oper} {o : Oper} {a : Act} {w w' : World} {Q : Exit → Act → World → Prop} (hgd : o.guard = none) (t : TypeId) (m x y : Operand) (ho : o.op = .mapUpdate t m x y) (u v z : Value)
    (hm : a.eval m = u) (hx : a.eval x = v) (hy : a.eval y = z) (hr : (Instr.mapUpdate t u v z).run P w = .ok () w') (h : wpList P ops Q rest (a.put o.dst undef) w') : wpList P ops Q (o :: rest) a w :=
  wpList_plain hgd fun K hK => by
    unfold Oper.wp execOp
    simp only [ho, hm, hx, hy, Sem.run_bind, hr, Result.andThen_ok, Sem.run_pure]
    exact hK _ _ h
end Go.Proofs.YtadnggecnjdhiaaGreat
set_option linter.unusedSimpArgs false
set_option linter.unusedVariables false
namespace Go.Proofs.YtadnggecnjdhiaaGreat
open Go.RowKit Tx

theorem before_lt {may : Nat → Nat → Bool} {m : Marks} {b : Nat} (h : 0 < b) : Tx.before may m b < b := by
  unfold Tx.before
  cases hf : (List.range b).find? (befP may m b) with
  | none => exact h
  | some x => exact List.mem_range.1 (List.mem_of_find?_eq_some hf)
theorem walkBack_step (may : Nat → Nat → Bool) (m : Marks) (f b : Nat) (h : 0 < b) : walkBack may m (f + 1) b = ((b : Int) - (Tx.before may m b : Int)) :: walkBack may m f (Tx.before may m b) := by
  rw [walkBack, if_neg (by omega)]
theorem walkBack_zero (may : Nat → Nat → Bool) (m : Marks) (f : Nat) : walkBack may m f 0 = [] := by cases f <;> simp [walkBack]
def spFe (pw : Option Addr) (n cw : Nat) (v1 v2 mv : Value) (BA : Array Value) (g : Bool) : Nat → List Value → Value → World → Prop
  | 0, _, v, _ => v = .agg #[.slice pw n cw, v1, v2, mv]
  | 1, _, v, _ => v = .agg BA
  | 2, _, v, _ => v = .agg #[.slice pw n cw, v1, v2, mv]
  | 3, _, v, _ => v = .int .i64 n
  | 4, _, v, _ => v = .bool g
  | 5, _, v, _ => v = .bool (!g)
  | _, _, _, _ => False
theorem spFe_stable (pw : Option Addr) (n cw : Nat) (v1 v2 mv : Value) (BA : Array Value) (g : Bool) : ∀ i L v w w', spFe pw n cw v1 v2 mv BA g i L v w → Rs.Gr w w' → spFe pw n cw v1 v2 mv BA g i L v w' := by
  intro i L v w w' h hg
  match i with
  | 0 => exact h
  | 1 => exact h
  | 2 => exact h
  | 3 => exact h
  | 4 => exact h
  | 5 => exact h

set_option maxHeartbeats 2000000 in
set_option maxRecDepth 100000 in
theorem fewest_any (may : Nat → Nat → Bool) (n cw : Nat) (hn1 : 1 ≤ n) (hn : n ≤ 12) (pw : Option Addr) (v1 v2 mv : Value) (w : World) (hMay : MayAt mv may n (fun k => k < w.heap.size) w) :
    Calls Tryz.prog 43 #[.agg #[.slice pw n cw, v1, v2, mv]] w fun e w' => ∃ v, e = .returned (.tuple #[v, .int .i64 (Tx.fewest may n).2]) ∧ w'.ownsRow w.heap.size 3 1 v (Tx.fewest may n).1.length ((Tx.fewest may n).1.map (Value.int .i64)) ∧ Below w.heap.size w w' := by
  obtain ⟨i0, hi0, hz0, hz1, hz2⟩ := info_parts A_infoI
  have HMAY := Lib.hid hMay
  have HSM := Lib.hid (greatest_small (may := may) hn)
  clear hMay
  have HX0 := heap_last w (.cells #[.slice pw n cw, v1, v2, mv] 84)
  have HXA := Lib.hid HX0
  have HZA : (w.alloc (.cells #[.slice pw n cw, v1, v2, mv] 84)).heap.size = w.heap.size + 1 := by simp
  clear HX0
  go_enter Tryz.func43, Tryz.ntmps43
  go_wp2_with fail
  refine (greatest_any may n cw hn pw v1 v2 mv _ ((HMAY.out.hold (.of_below (below1 _ _) (fun _ h _ => h))).mono (fun j hj _ => by simp; omega))).mono ?_
  rintro e W1 ⟨rfl, hB1⟩
  have hz1' : w.heap.size + 1 ≤ W1.heap.size := by have := hB1.size; simpa using this
  have HX1 := Lib.hid ((hB1.block w.heap.size (by simp)).trans HXA.out)
  have HB1 := Lib.hid (join (below1 _ _) hB1)
  have hsz : (arrOf (greatest may n)).size = 13 := by rw [arrOf_size]; exact HSM.out.1
  have HI := Lib.hid (size_marks hsz)
  have HON := Lib.hid (arrOf_one (greatest may n))
  have HRE := Lib.hid (fun W => reached_any (.slice pw n cw) v1 v2 mv (greatest may n) HSM.out.1 n (by omega) W)
  clear hB1 HZA HXA
  obtain ⟨BA, hBA⟩ : ∃ BA, BA = arrOf (greatest may n) := ⟨_, rfl⟩
  rw [← hBA] at HI HON HRE hsz ⊢
  have HBA := Lib.hid hBA
  have HSZ := Lib.hid hsz
  clear hBA hsz
  go_wp2_with (with_reducible refine wpList_store_new rfl 116 _ _ rfl _ BA rfl rfl HI.out ?hs HON.out ?_)
  case hs => rw [HSZ.out]; rfl
  have HM := Lib.hid (heap_last W1 (.cells BA 116))
  have HX := Lib.hid ((Below.heap_alloc W1 (.cells BA 116) _ (show w.heap.size < W1.heap.size by omega)).trans HX1.out)
  have HB2 := Lib.hid (join HB1.out (below1 W1 (.cells BA 116)))
  have hz2' : (W1.alloc (.cells BA 116)).heap.size = W1.heap.size + 1 := by simp
  generalize hW2 : W1.alloc (.cells BA 116) = W2 at HM HX HB2 hz2' ⊢
  clear hW2
  refine Rs.region_gen 6 [[], [], [], [2], [0, 1, 2, 3], [0, 1, 2, 3, 4]] [some 10, some 11, some 12, some 13, some 14, some 15] (spFe pw n cw v1 v2 mv BA (decide ((greatest may n).getD n 0 < 99))) (by kernel_rfl) (by kernel_rfl) rfl (spFe_stable _ _ _ _ _ _ _ _) ?_ ?_
  · refine ⟨fun V w' hG hs => ?_, fun V w' hG hs => ?_, fun V w' hG hs => ?_, fun V w' hG hs => ?_, fun V w' hG hs => ?_, fun V w' hG hs => ?_, trivial⟩
    all_goals
      have hm := (hG.block W1.heap.size (by omega)).trans HM.out
      have hx := (hG.block w.heap.size (by omega)).trans HX.out
      have k0 := blk_cells hx 0 _ rfl
      have k1 := blk_cells hx 1 _ rfl
      have k2 := blk_cells hx 2 _ rfl
      have k3 := blk_cells hx 3 _ rfl
    · rw [if_pos (by rfl)]
      exact Rs.GrowL.value (v := .agg #[.slice pw n cw, v1, v2, mv]) (w' := w') (by simp [go_sem, Rs.look, k0, k1, k2, k3]) (Rs.Gr.refl _) rfl
    · rw [if_pos (by rfl)]
      exact Rs.GrowL.value (v := .agg BA) (w' := w') (exec_load_row 116 _ rfl W1.heap.size rfl 116 BA (0, 0) _ hm und_marks rfl HI.out) (Rs.Gr.refl _) rfl
    · rw [if_pos (by rfl)]
      exact Rs.GrowL.value (v := .agg #[.slice pw n cw, v1, v2, mv]) (w' := w') (by simp [go_sem, Rs.look, k0, k1, k2, k3]) (Rs.Gr.refl _) rfl
    · have e2 : V 2 = .agg #[.slice pw n cw, v1, v2, mv] := hs 2 (by simp)
      rw [if_pos (by rfl)]
      refine Rs.GrowL.call (f := 72) (args := #[.agg #[.slice pw n cw, v1, v2, mv]]) (by simp [go_sem, Rs.look, e2]) ?_
      refine (end_any _ _ _ _ _ _ _).mono ?_
      rintro e w2 ⟨rfl, rfl⟩
      exact ⟨_, rfl, below1 _ _, rfl⟩
    · have e0 : V 0 = .agg #[.slice pw n cw, v1, v2, mv] := hs 0 (by simp)
      have e1 : V 1 = .agg BA := hs 1 (by simp)
      have e2 : V 2 = .agg #[.slice pw n cw, v1, v2, mv] := hs 2 (by simp)
      have e3 : V 3 = .int .i64 n := hs 3 (by simp)
      rw [if_pos (by rfl)]
      refine Rs.GrowL.call (f := 71) (args := #[.agg #[.slice pw n cw, v1, v2, mv], .agg BA, .int .i64 n]) (by simp [go_sem, Rs.look, e0, e1, e3]) ?_
      refine (HRE.out w').mono ?_
      rintro e w2 ⟨rfl, hB2⟩
      exact ⟨_, rfl, hB2, rfl⟩
    · have e0 : V 0 = .agg #[.slice pw n cw, v1, v2, mv] := hs 0 (by simp)
      have e1 : V 1 = .agg BA := hs 1 (by simp)
      have e2 : V 2 = .agg #[.slice pw n cw, v1, v2, mv] := hs 2 (by simp)
      have e3 : V 3 = .int .i64 n := hs 3 (by simp)
      have e4 : V 4 = .bool (decide ((greatest may n).getD n 0 < 99)) := hs 4 (by simp)
      rw [if_pos (by rfl)]
      exact Rs.GrowL.value (v := .bool (!(decide ((greatest may n).getD n 0 < 99)))) (w' := w') (by simp [go_sem, Rs.look, e0, e1, e2, e3, e4]) (Rs.Gr.refl _) rfl
  · intro V w' hG hs
    have e0 : V 0 = .agg #[.slice pw n cw, v1, v2, mv] := hs 0 (by omega)
    have e1 : V 1 = .agg BA := hs 1 (by omega)
    have e2 : V 2 = .agg #[.slice pw n cw, v1, v2, mv] := hs 2 (by omega)
    have e3 : V 3 = .int .i64 n := hs 3 (by omega)
    have e4 : V 4 = .bool (decide ((greatest may n).getD n 0 < 99)) := hs 4 (by omega)
    have e5 : V 5 = .bool (!(decide ((greatest may n).getD n 0 < 99))) := hs 5 (by omega)
    simp only [Rs.canon, Rs.dstOf, List.range_succ, List.range_zero, List.nil_append, List.cons_append, List.foldl_cons, List.foldl_nil, List.drop_succ_cons, List.drop_zero, List.drop_nil, List.getElem?_toArray, List.getElem?_cons_succ, List.getElem?_cons_zero, Option.bind_some, Act.put, List.getD_cons_succ, List.getD_cons_zero, List.setIfInBounds_toArray, List.set_cons_succ, List.set_cons_zero]
    rw [e0, e1, e2, e3, e4, e5]
    clear e0 e1 e2 e3 e4 e5 hs
    have HG := Lib.hid hG
    have hzg := hG.size
    have HMw := Lib.hid ((hG.block W1.heap.size (by omega)).trans HM.out)
    have hxw := (hG.block w.heap.size (by omega)).trans HX.out
    have k0 := blk_cells hxw 0 _ rfl
    have k1 := blk_cells hxw 1 _ rfl
    have k2 := blk_cells hxw 2 _ rfl
    have k3 := blk_cells hxw 3 _ rfl
    have hsw : w.heap.size < w'.heap.size ∧ W1.heap.size < w'.heap.size := by omega
    obtain ⟨hsw0, hsw1⟩ := hsw
    have HXW := Lib.hid hxw
    clear hG hxw HX HM
    by_cases hd : (greatest may n).getD n 0 < 99
    · have hfew : Tx.fewest may n = ((walkBack may (greatest may n) n n).reverse, 0) := by unfold Tx.fewest; rw [if_pos hd]
      have HFEW := Lib.hid hfew
      rw [decide_eq_true hd]
      clear hfew hd
      go_wp2_with fail
      refine (end_any _ _ _ _ _ _ _).mono ?_
      rintro e w5 ⟨rfl, hw5⟩
      have hB5 : Below w'.heap.size w' w5 := by rw [← hw5]; exact below1 _ _
      have hz5 : w'.heap.size + 1 = w5.heap.size := by rw [← hw5]; simp
      have HM5 := Lib.hid ((hB5.block _ hsw1).trans HMw.out)
      have HX5 := Lib.hid ((hB5.block _ hsw0).trans HXW.out)
      have HB5 := Lib.hid (join HB2.out (join HG.out hB5))
      clear hw5 hB5 k0 k1 k2 k3
      go_wp2_with fail
      go_loopw [5, 6] (fun v u wr => ∃ (b f : Nat) (done : List Int), u = .int .i64 b ∧ b ≤ n ∧ b ≤ f ∧ done.length + f = n ∧ done ++ walkBack may (greatest may n) f b = walkBack may (greatest may n) n n ∧
        wr.ownsRow w5.heap.size 3 1 v done.length (done.map (Value.int .i64)) ∧ Below w5.heap.size w5 wr) (fun _ u _ => (intOf u).toNat)
      case atStart => exact ⟨n, n, [], rfl, Nat.le_refl _, Nat.le_refl _, by simp, rfl, own_none _ _ _ _, Below.refl _ _⟩
      case round =>
        obtain ⟨b, f, done, rfl, hbn, hbf, hdf, hwb, hown, hBr⟩ := hrel
        have HWB := Lib.hid hwb
        have HO := Lib.hid hown
        have HBr := Lib.hid hBr
        have HDF := Lib.hid hdf
        have hzr := hBr.size
        have hdl : done.length ≤ 12 := by omega
        have HMr := Lib.hid ((hBr.block W1.heap.size (by omega)).trans HM5.out)
        have hxr := (hBr.block w.heap.size (by omega)).trans HX5.out
        have k0 := blk_cells hxr 0 _ rfl
        have k1 := blk_cells hxr 1 _ rfl
        have k2 := blk_cells hxr 2 _ rfl
        have k3 := blk_cells hxr 3 _ rfl
        have hs0 : w.heap.size < wr.heap.size := by omega
        clear hwb hown hBr hdf hxr
        by_cases hb0 : 0 < b
        · have hb0' : (0 : Int) < b := by omega
          have hbf1 : 1 ≤ f := by omega
          have hlt := before_lt (may := may) (m := greatest may n) hb0
          have HBEF := Lib.hid (before_any may n cw hn pw v1 v2 mv (greatest may n) HSM.out b hbn wr ((HMAY.out.hold (.of_below (HB5.out.trans (HBr.out.mono (by omega))) (fun _ h _ => h))).mono (fun j hj _ => by omega)))
          rw [← HBA.out] at HBEF
          generalize hbb : Tx.before may (greatest may n) b = c at hlt HBEF
          have HBB := Lib.hid hbb
          clear hbb
          go_wp2_with (with_reducible refine wpList_load_row rfl 116 _ rfl W1.heap.size rfl 116 BA (0, 0) _ HMr.out und_marks rfl HI.out ?_)
          refine HBEF.out.mono ?_
          rintro e w6 ⟨rfl, hB6⟩
          have HO6 := Lib.hid (own_below HO.out hB6)
          have hz6 := hB6.size
          have HB6 := Lib.hid (join HBr.out hB6)
          clear hB6 HBEF k0 k1 k2 k3
          go_wp2_with (at_builtin; refine wpList_append_own _ rfl _ _ 34 rfl w5.heap.size 3 i0 (.int .i64 0) 1 8 A_undI hi0 hz0 hz1 hz2 rfl (by decide) _ _ _ rfl (HO6.out.alloc _) ⟨w6.heap.size, 0, none⟩ 1 1 [.int .i64 ((b : Int) - (c : Int))] rfl rfl ?d1 ?d2 ?d3 ?d4 ?d5 ?_)
          case d1 => exact cell_one_new _ _ _
          case d2 => first | rfl | (intro u hu; simp at hu; subst hu; rfl)
          case d3 => unfold maxLen; omega
          case d4 => omega
          case d5 => first | omega | (simp; omega)
          intro v' w8 hown8 hgrow _
          have hB8 := below_grown (al2 HB6.out (by omega) _) (HO6.out.alloc _) (Nat.le_refl _) (by simp; omega) hgrow
          have HO8 := Lib.hid hown8
          have HB8 := Lib.hid hB8
          clear hgrow hown8 hB8
          go_wp2
          go_roundw
          case rel =>
            refine ⟨c, f - 1, done ++ [(b : Int) - (c : Int)], rfl, by omega, by omega, by simp; have := HDF.out; omega, ?_, by simpa using HO8.out, HB8.out⟩
            rw [← HWB.out, show f = (f - 1) + 1 by omega, walkBack_step _ _ _ _ hb0, HBB.out, List.append_assoc]; rfl
          case measure => simp [intOf]; omega
        · obtain rfl : b = 0 := by omega
          have hdone : done = walkBack may (greatest may n) n n := by rw [← HWB.out, walkBack_zero, List.append_nil]
          have hne : done ≠ [] := by
            rw [hdone, show n = (n - 1) + 1 by omega, walkBack_step _ _ _ _ (by omega)]; simp
          obtain ⟨p, c, rfl, hints, hfr, hcl, hcc⟩ := own_rd HO.out rfl
          rcases hints with h0 | ⟨g, o, rfl, hgl, hcells⟩
          · exact absurd h0 hne
          obtain ⟨hg5, rfl, hfz⟩ := hfr g o rfl
          have HREV := Lib.hid (Tryz.slices_Reverse_int_cells g 0 done.length c done wr (Nat.le_refl _) (by omega) hcells (fun j _ => by simpa using hfz j))
          have HDN := Lib.hid hdone
          clear hdone hne hcells hfz hfr k0 k1 k2 k3
          go_wp2_with fail
          refine HREV.out.mono ?_
          rintro e w7 ⟨rfl, q, rfl⟩
          go_wp2
          go_ret2
          refine ⟨_, by rw [HFEW.out]; rfl, ?_, ?_⟩
          · rw [HFEW.out, ← HDN.out]
            have := own_base (own_setCells (own_drewN HO.out q) (ys := (done.map (Value.int .i64)).reverse) (by simp)) (base' := w.heap.size) (by have := HB5.out.size; omega)
            simpa using this
          · have hb5 := HB5.out.size
            exact below_setCells' (by omega) _ _ _ (below_drewN' (HB5.out.trans (HBr.out.mono hb5)) q)
    · have hfew : Tx.fewest may n = ([], 6) := by unfold Tx.fewest; rw [if_neg hd]
      have HFEW := Lib.hid hfew
      rw [decide_eq_false hd]
      clear hfew hd
      go_wp2
      go_ret2
      exact ⟨_, by rw [HFEW.out]; rfl, by rw [HFEW.out]; exact own_none _ _ _ _, join HB2.out HG.out⟩

/-- a right text at work: what its closure tells -/
theorem TxAt.hold {Kp : Nat → Prop} {w w' : World} {t : Text} {pw pt : Option Addr} (h : TxAt w t pw pt) (hh : Hold Kp w w') (hk : ∀ k, k < w.heap.size → Kp k) : TxAt w' t pw pt := by
  refine ⟨?_, ?_⟩
  · rcases h.words with h | ⟨b, o, hp, hl, h⟩
    · exact .inl h
    · exact .inr ⟨b, o, hp, Nat.lt_of_lt_of_le hl hh.size, fun i hi => ⟨(hh.cell (p := ⟨b, o + i * 3, none⟩) (hk _ hl) hl).trans (h i hi).1, (hh.cell (p := ⟨b, o + i * 3 + 1, none⟩) (hk _ hl) hl).trans (h i hi).2.1, (hh.cell (p := ⟨b, o + i * 3 + 2, none⟩) (hk _ hl) hl).trans (h i hi).2.2⟩⟩
  · rcases h.turns with h | ⟨b, o, hp, hl, h⟩
    · exact .inl h
    · exact .inr ⟨b, o, hp, Nat.lt_of_lt_of_le hl hh.size, fun i hi => ⟨(hh.cell (p := ⟨b, o + i * 3, none⟩) (hk _ hl) hl).trans (h i hi).1, (hh.cell (p := ⟨b, o + i * 3 + 1, none⟩) (hk _ hl) hl).trans (h i hi).2.1, (hh.cell (p := ⟨b, o + i * 3 + 2, none⟩) (hk _ hl) hl).trans (h i hi).2.2⟩⟩
theorem entered_right : Entered 91 := fun args W => by kernel_rfl
theorem right_may (t : Text) (pw pt : Option Addr) (cw ct : Nat) (mf : Value) (w : World) (hW : WkAt w t pw pt cw) :
    MayAt (.func (.func 91) #[.agg #[.slice pw t.words.length cw, .slice pt t.turns.length ct, .int .i64 t.breath, mf]] #[]) t.right t.words.length (fun k => k < w.heap.size) w :=
  ⟨91, _, _, rfl, entered_right, fun W hH a b hab hb => right_any t pw pt cw ct mf a b (by omega) hb W ⟨hW.ok, hW.at_.hold hH (fun k hk => hk), hW.cap⟩⟩

/-- what Fewest tells -/
def fewL (t : Text) : List Int := if t.err = 0 then (Tx.fewest t.right t.words.length).1 else []
def fewE (t : Text) : Int := if t.err = 0 then (Tx.fewest t.right t.words.length).2 else t.err
def ListPost (l : List Int) (er : Int) (w : World) (e : Ending) (w' : World) : Prop := ∃ v, e = .returned (.tuple #[v, .int .i64 er]) ∧ w'.ownsRow w.heap.size 3 1 v l.length (l.map (Value.int .i64)) ∧ Below w.heap.size w w'
set_option maxHeartbeats 800000 in
theorem Fewest_any (t : Text) (hl1 : t.words.length ≤ 1000000) (hl2 : t.turns.length ≤ 1000000) (pw pt : Option Addr) (cw ct : Nat) (hcw : t.words.length ≤ cw ∧ cw ≤ maxLen) (w : World) (hW : TxAt w t pw pt) :
    Calls Tryz.prog 29 #[.agg #[.slice pw t.words.length cw, .slice pt t.turns.length ct, .int .i64 t.breath]] w (ListPost (fewL t) (fewE t) w) := by
  by_cases he : t.err = 0
  · have ok := err_ok he
    have h1 : fewL t = (Tx.fewest t.right t.words.length).1 := if_pos he
    have h2 : fewE t = (Tx.fewest t.right t.words.length).2 := if_pos he
    rw [h1, h2]
    have HS := Lib.hid (fun W (h : Below w.heap.size w W) => open_ok t he pw pt cw ct W (hW.below h))
    have HF := Lib.hid (fun W (h : Below w.heap.size w W) => fewest_any t.right t.words.length cw ok.n1 ok.n12 pw (.slice pt t.turns.length ct) (.int .i64 t.breath) _ W (right_may t pw pt cw ct .nilFunc W ⟨ok, hW.below h, hcw⟩))
    clear hW he h1 h2 ok
    go_enter Tryz.func29, Tryz.ntmps29
    go_wp2_with fail
    refine (HS.out _ (below1 _ _)).mono ?_
    rintro e w5 ⟨rfl, hB5⟩
    have HB5 := Lib.hid (join (below1 _ _) hB5)
    clear hB5
    go_wp2_with fail
    refine (HF.out _ (join HB5.out (below1 _ _))).mono ?_
    rintro e w6 ⟨v, rfl, hown, hB6⟩
    have HO := Lib.hid hown
    have HB6 := Lib.hid hB6
    clear hown hB6
    go_wp2
    go_ret2
    have hz := HB5.out.size
    exact ⟨_, rfl, own_base HO.out (by simp; omega), join (join HB5.out (below1 _ _)) HB6.out⟩
  · have h1 : fewL t = [] := if_neg he
    have h2 : fewE t = t.err := if_neg he
    rw [h1, h2]
    have HS := Lib.hid (fun W (h : Below w.heap.size w W) => open_bad t he hl1 hl2 pw pt cw ct W (hW.below h))
    have HE : (t.err != 0) = true := by simpa using he
    clear hW he h1 h2
    generalize t.err = er at HE HS ⊢
    go_enter Tryz.func29, Tryz.ntmps29
    go_wp2_with fail
    refine (HS.out _ (below1 _ _)).mono ?_
    rintro e w5 ⟨rfl, hB5⟩
    have HB5 := Lib.hid (join (below1 _ _) hB5)
    clear hB5
    go_wp2
    go_ret2
    exact ⟨_, rfl, own_none _ _ _ _, join HB5.out (below1 _ _)⟩
end Go.Proofs.YtadnggecnjdhiaaGreat
set_option linter.unusedSimpArgs false
set_option linter.unusedVariables false
namespace Go.Proofs.YtadnggecnjdhiaaGreat
open Go.RowKit Tx
attribute [local go_sem] Oper.semAt_some

theorem off_any (n lo hi : Int) (w : World) : Calls Tryz.prog 45 #[.int .i64 n, .int .i64 lo, .int .i64 hi] w fun e w' => e = .returned (.bool (!btw n lo hi)) ∧ w = w' := by
  by_cases h : n < lo
  · have HF : Hid ((!btw n lo hi) = true) := Lib.hid (by unfold btw; rw [decide_eq_false (by omega)]; rfl)
    generalize (!btw n lo hi) = b at HF ⊢
    go_enter Tryz.func45, Tryz.ntmps45
    go_wp2
    go_ret
    exact ⟨by rw [HF.out]; rfl, rfl⟩
  · by_cases h2 : hi < n
    · have HF : Hid ((!btw n lo hi) = true) := Lib.hid (by unfold btw; rw [decide_eq_false (show ¬ n ≤ hi by omega), Bool.and_false]; rfl)
      generalize (!btw n lo hi) = b at HF ⊢
      go_enter Tryz.func45, Tryz.ntmps45
      go_wp2
      go_ret
      exact ⟨by rw [HF.out]; rfl, rfl⟩
    · have HF : Hid ((!btw n lo hi) = false) := Lib.hid (by unfold btw; rw [decide_eq_true (show lo ≤ n by omega), decide_eq_true (show n ≤ hi by omega)]; rfl)
      generalize (!btw n lo hi) = b at HF ⊢
      go_enter Tryz.func45, Tryz.ntmps45
      go_wp2
      go_ret
      exact ⟨by rw [HF.out]; rfl, rfl⟩

set_option maxHeartbeats 1000000 in
set_option maxRecDepth 100000 in
theorem has_any (l : List Int) (n : Int) (hll : l.length ≤ 1000000) (p : Option Addr) (c : Nat) (w : World) (hL : Ints w p l) :
    Calls Tryz.prog 116 #[.slice p l.length c, .int .i64 n] w fun e w' => e = .returned (.bool (l.contains n)) ∧ Below w.heap.size w w' := by
  have HL := Lib.hid hL
  clear hL
  go_enter Tryz.func116, Tryz.ntmps116
  go_wp2
  go_loopg [5] l.length (fun g i wi => ∃ k : Nat, g + k = l.length ∧ i = .int .i64 k ∧ (∀ j, j < k → l.getD j 0 ≠ n) ∧ Below w.heap.size w wi)
  case atStart => exact ⟨0, by omega, rfl, fun j hj => by omega, Below.refl _ _⟩
  case round =>
    obtain ⟨k, hk, rfl, hE, hB⟩ := hrel
    have HE := Lib.hid hE
    have HB := Lib.hid hB
    by_cases hlt : k < l.length
    · have hlt' : (k : Int) < l.length := by omega
      obtain ⟨b, o, x, rfl, hbl, hx, hc⟩ := HL.out.at hlt
      have d1 := (hB.cell (p := ⟨b, o + k, none⟩) hbl).trans hc
      have HX := Lib.hid hx
      clear hE hB hx hc
      by_cases hxn : x = n
      · subst hxn
        go_wp2
        go_ret
        have : l.contains x = true := by
          rw [List.contains_iff_mem, HX.out, List.getD_eq_getElem?_getD, List.getElem?_eq_getElem hlt]; exact List.getElem_mem hlt
        exact ⟨by rw [this]; rfl, HB.out⟩
      · have hxn' : (x == n) = false := by simpa using hxn
        have HN := Lib.hid hxn
        clear hxn
        go_wp2
        go_roundg (gk - 1)
        case rel => exact ⟨k + 1, by omega, by simp, fun j hj => by
          rcases Nat.lt_succ_iff_lt_or_eq.1 hj with hj | rfl
          · exact HE.out j hj
          · rw [← HX.out]; exact HN.out, HB.out⟩
        case measure => omega
    · have hkk : k = l.length := by omega
      subst hkk
      clear hE hB
      go_wp2
      go_ret
      have : l.contains n = false := by
        rw [Bool.eq_false_iff]
        intro h
        rw [List.contains_iff_mem] at h
        obtain ⟨i, hi, he⟩ := List.getElem_of_mem h
        have := HE.out i hi
        rw [List.getD_eq_getElem?_getD, List.getElem?_eq_getElem hi] at this
        exact this he
      exact ⟨by rw [this]; rfl, HB.out⟩

def wordsL (a : Int) (n : Nat) : List Int := (List.range n).map fun (i : Nat) => a + (i : Int)
theorem wordsL_succ (a : Int) (n : Nat) : wordsL a (n + 1) = wordsL a n ++ [a + (n : Int)] := by unfold wordsL; rw [List.range_succ, List.map_append]; rfl
theorem wordsL_length (a : Int) (n : Nat) : (wordsL a n).length = n := by simp [wordsL]
set_option maxHeartbeats 1000000 in
set_option maxRecDepth 100000 in
theorem words_any (a b : Int) (ha : -1000000 ≤ a ∧ a ≤ 1000000) (hb : -1000000 ≤ b ∧ b ≤ 1000000) (w : World) :
    Calls Tryz.prog 98 #[.int .i64 a, .int .i64 b] w (RowPost (wordsL a (b - a).toNat) w) := by
  obtain ⟨i0, hi0, hz0, hz1, hz2⟩ := info_parts A_infoI
  go_enter Tryz.func98, Tryz.ntmps98
  go_wp2
  go_loopw [5, 6] (fun v i wr => ∃ k : Nat, k ≤ (b - a).toNat ∧ i = .int .i64 (a + (k : Int)) ∧ wr.ownsRow w.heap.size 3 1 v (wordsL a k).length ((wordsL a k).map (Value.int .i64)) ∧ Below w.heap.size w wr) (fun _ i _ => (b - intOf i).toNat)
  case atStart => exact ⟨0, Nat.zero_le _, by simp, own_none _ _ _ _, Below.refl _ _⟩
  case round =>
    obtain ⟨k, hk, rfl, hown, hBr⟩ := hrel
    have HO := Lib.hid hown
    have HBr := Lib.hid hBr
    have hlen : (wordsL a k).length ≤ 3000000 := by rw [wordsL_length]; omega
    have hz7 := hBr.size
    by_cases hlt : a + (k : Int) < b
    · have HK := Lib.hid hk
      have HSN := Lib.hid (wordsL_succ a k)
      have hinc : a + (k : Int) + 1 = a + ((k + 1 : Nat) : Int) := by push_cast; omega
      have HI := Lib.hid hinc
      obtain ⟨q, hq⟩ : ∃ q : Int, q = a + (k : Int) := ⟨_, rfl⟩
      have hq1 : -1000000 ≤ q ∧ q < 1000000 := by omega
      obtain ⟨hq1, hq2⟩ := hq1
      rw [← hq] at hlt HSN HI ⊢
      have HQ := Lib.hid hq
      clear hown hBr hk hinc hq
      go_wp2_with (at_builtin; refine wpList_append_own _ rfl _ _ 34 rfl w.heap.size 3 i0 (.int .i64 0) 1 8 A_undI hi0 hz0 hz1 hz2 rfl (by decide) _ _ _ rfl (HO.out.alloc _) ⟨wr.heap.size, 0, none⟩ 1 1 [.int .i64 q] rfl rfl ?d1 ?d2 ?d3 ?d4 ?d5 ?_)
      case d1 => exact cell_one_new _ _ _
      case d2 => first | rfl | (intro u hu; simp at hu; subst hu; rfl)
      case d3 => unfold maxLen; omega
      case d4 => omega
      case d5 => first | omega | (simp; omega)
      intro v' w8 hown8 hgrow _
      have hB8 := below_grown (al2 HBr.out (by omega) _) (HO.out.alloc _) (Nat.le_refl _) (by simp; omega) hgrow
      have HO8 := Lib.hid hown8
      have HB8 := Lib.hid hB8
      clear hgrow hown8 hB8
      go_wp2
      go_roundw
      case rel => exact ⟨k + 1, by have := HQ.out; omega, by rw [HI.out], by rw [HSN.out]; simpa using HO8.out, HB8.out⟩
      case measure => simp [intOf]; omega
    · obtain rfl : k = (b - a).toNat := by omega
      have HLT := Lib.hid hlt
      clear hown hBr hk
      go_wp2
      go_ret
      exact ⟨_, rfl, HO.out, HBr.out⟩
end Go.Proofs.YtadnggecnjdhiaaGreat
