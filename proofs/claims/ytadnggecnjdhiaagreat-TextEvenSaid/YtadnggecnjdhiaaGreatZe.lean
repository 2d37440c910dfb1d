/- Contracts of the code and of the reference, part 5. -/
import Derived.Test.YtadnggecnjdhiaaGreatZd
import Derived.DeepKeys
import Derived.Laws.StructEq
import Derived.Laws.CopyOwn
import Derived.Laws.CopyRow
set_option linter.unusedSimpArgs false
set_option linter.unusedVariables false
namespace Go.Proofs.YtadnggecnjdhiaaGreat
open Go.RowKit Tx

theorem cells_marks : Tryz.prog.cellsOf 116 = 13 := by kernel_rfl
theorem cells_int : Tryz.prog.cellsOf 3 = 1 := by kernel_rfl
theorem und_int : Tryz.prog.underlying 3 = some (.int .i64) := by kernel_rfl
theorem keyLits_one {a : Int} (h : (Lit.int .i64 a).wf = true) : Tryz.prog.keyLits 1 3 [.int .i64 a] = some [.int .i64 a] := by
  unfold Program.keyLits; rw [und_int]; simp [h]
theorem keyLits_marks {a0 a1 a2 a3 a4 a5 a6 a7 a8 a9 a10 a11 a12 : Int} (h : ∀ x ∈ [a0, a1, a2, a3, a4, a5, a6, a7, a8, a9, a10, a11, a12], (Lit.int .i64 x).wf = true) : Tryz.prog.keyLits 2 116 [.int .i64 a0, .int .i64 a1, .int .i64 a2, .int .i64 a3, .int .i64 a4, .int .i64 a5, .int .i64 a6, .int .i64 a7, .int .i64 a8, .int .i64 a9, .int .i64 a10, .int .i64 a11, .int .i64 a12] = some [.int .i64 a0, .int .i64 a1, .int .i64 a2, .int .i64 a3, .int .i64 a4, .int .i64 a5, .int .i64 a6, .int .i64 a7, .int .i64 a8, .int .i64 a9, .int .i64 a10, .int .i64 a11, .int .i64 a12] := by
  unfold Program.keyLits
  rw [und_marks]
  simp only [cells_marks, cells_int, List.length_cons, List.length_nil, if_true]
  simp [List.range_succ, keyLits_one (h a0 (by simp)), keyLits_one (h a1 (by simp)), keyLits_one (h a2 (by simp)), keyLits_one (h a3 (by simp)), keyLits_one (h a4 (by simp)), keyLits_one (h a5 (by simp)), keyLits_one (h a6 (by simp)), keyLits_one (h a7 (by simp)), keyLits_one (h a8 (by simp)), keyLits_one (h a9 (by simp)), keyLits_one (h a10 (by simp)), keyLits_one (h a11 (by simp)), keyLits_one (h a12 (by simp))]
theorem eql_arr {M N : Marks} (hM : M.length = 13) (hN : N.length = 13) (h1 : ∀ x ∈ M, (Lit.int .i64 x).wf = true) (h2 : ∀ x ∈ N, (Lit.int .i64 x).wf = true) (w : World) : (Op.equalIn 10000 116 (.agg (arrOf M)) (.agg (arrOf N))).run Tryz.prog w = .ok (decide (M = N)) w := by
  match M, N, hM, hN with
  | [a0, a1, a2, a3, a4, a5, a6, a7, a8, a9, a10, a11, a12], [b0, b1, b2, b3, b4, b5, b6, b7, b8, b9, b10, b11, b12], _, _ =>
    have hk : Tryz.prog.keyTypeAt 2 116 = true := by kernel_rfl
    obtain ⟨r, hr, hiff⟩ := run_equalIn_deep 9998 2 116 hk w 2 2 (.agg #[.int .i64 a0, .int .i64 a1, .int .i64 a2, .int .i64 a3, .int .i64 a4, .int .i64 a5, .int .i64 a6, .int .i64 a7, .int .i64 a8, .int .i64 a9, .int .i64 a10, .int .i64 a11, .int .i64 a12]) (.agg #[.int .i64 b0, .int .i64 b1, .int .i64 b2, .int .i64 b3, .int .i64 b4, .int .i64 b5, .int .i64 b6, .int .i64 b7, .int .i64 b8, .int .i64 b9, .int .i64 b10, .int .i64 b11, .int .i64 b12]) [.int .i64 a0, .int .i64 a1, .int .i64 a2, .int .i64 a3, .int .i64 a4, .int .i64 a5, .int .i64 a6, .int .i64 a7, .int .i64 a8, .int .i64 a9, .int .i64 a10, .int .i64 a11, .int .i64 a12] [.int .i64 b0, .int .i64 b1, .int .i64 b2, .int .i64 b3, .int .i64 b4, .int .i64 b5, .int .i64 b6, .int .i64 b7, .int .i64 b8, .int .i64 b9, .int .i64 b10, .int .i64 b11, .int .i64 b12] (by kernel_rfl) (by kernel_rfl) (keyLits_marks h1) (keyLits_marks h2)
    have hrd : r = decide ([a0, a1, a2, a3, a4, a5, a6, a7, a8, a9, a10, a11, a12] = [b0, b1, b2, b3, b4, b5, b6, b7, b8, b9, b10, b11, b12]) := by
      rw [Bool.eq_iff_iff, hiff]; simp
    simp only [arrOf, List.map_cons, List.map_nil]
    rw [← hrd]
    exact hr
def holdB (may : Nat → Nat → Bool) (n : Nat) (M : Marks) : Bool := (M.getD 0 0 == 0) && decide (Tx.lowered may n M = M)
theorem small_wf {M : Marks} (h : Small M) : ∀ x ∈ M, (Lit.int .i64 x).wf = true := fun x hx => by
  obtain ⟨i, hi, rfl⟩ := List.mem_iff_getElem.1 hx
  have hb := h.2 i (by rw [← h.1]; exact hi)
  rw [show M.getD i 0 = M[i] from by simp [hi]] at hb
  simp only [Lit.wf, Bool.and_eq_true, decide_eq_true_eq]
  have h1 : IntKind.i64.min = -9223372036854775808 := by rfl
  have h2 : IntKind.i64.max = 9223372036854775807 := by rfl
  omega
def spHd1 (pw : Option Addr) (n cw : Nat) (v1 v2 mv : Value) (BA : Array Value) (m0 : Int) (LA : Array Value) (g : Bool) (Mb : Nat) : Nat → List Value → Value → World → Prop
  | 0, _, v, _ => v = .pointer (some ⟨Mb, 0, none⟩)
  | 1, _, v, _ => v = .int .i64 m0
  | 2, _, v, _ => v = .bool true
  | 3, _, v, _ => v = .bool true
  | 4, _, v, _ => v = .agg #[.slice pw n cw, v1, v2, mv]
  | 5, _, v, _ => v = .agg BA
  | 6, _, v, _ => v = .agg LA
  | 7, _, v, _ => v = .agg BA
  | 8, _, v, _ => v = .bool g
  | 9, _, v, _ => v = .bool g
  | _, _, _, _ => False
theorem spHd1_stable (pw : Option Addr) (n cw : Nat) (v1 v2 mv : Value) (BA : Array Value) (m0 : Int) (LA : Array Value) (g : Bool) (Mb : Nat) : ∀ i L v w w', spHd1 pw n cw v1 v2 mv BA m0 LA g Mb i L v w → Rs.Gr w w' → spHd1 pw n cw v1 v2 mv BA m0 LA g Mb i L v w' := by
  intro i L v w w' h hg
  match i with
  | 0 => exact h
  | 1 => exact h
  | 2 => exact h
  | 3 => exact h
  | 4 => exact h
  | 5 => exact h
  | 6 => exact h
  | 7 => exact h
  | 8 => exact h
  | 9 => exact h
def spHd0 (pw : Option Addr) (n cw : Nat) (v1 v2 mv : Value) (BA : Array Value) (m0 : Int) (LA : Array Value) (g : Bool) (Mb : Nat) : Nat → List Value → Value → World → Prop
  | 0, _, v, _ => v = .pointer (some ⟨Mb, 0, none⟩)
  | 1, _, v, _ => v = .int .i64 m0
  | 2, _, v, _ => v = .bool false
  | 3, _, v, _ => v = .bool false
  | 4, _, v, _ => v = undef
  | 5, _, v, _ => v = undef
  | 6, _, v, _ => v = undef
  | 7, _, v, _ => v = undef
  | 8, _, v, _ => v = undef
  | 9, _, v, _ => v = .bool false
  | _, _, _, _ => False
theorem spHd0_stable (pw : Option Addr) (n cw : Nat) (v1 v2 mv : Value) (BA : Array Value) (m0 : Int) (LA : Array Value) (g : Bool) (Mb : Nat) : ∀ i L v w w', spHd0 pw n cw v1 v2 mv BA m0 LA g Mb i L v w → Rs.Gr w w' → spHd0 pw n cw v1 v2 mv BA m0 LA g Mb i L v w' := by
  intro i L v w w' h hg
  match i with
  | 0 => exact h
  | 1 => exact h
  | 2 => exact h
  | 3 => exact h
  | 4 => exact h
  | 5 => exact h
  | 6 => exact h
  | 7 => exact h
  | 8 => exact h
  | 9 => exact h

set_option maxHeartbeats 1000000 in
set_option maxRecDepth 100000 in
theorem hold_any (may : Nat → Nat → Bool) (n cw : Nat) (hn : n ≤ 12) (pw : Option Addr) (v1 v2 mv : Value) (M : Marks) (hM : Small M) (w : World) (hMay : MayAt mv may n (fun k => k < w.heap.size) w) :
    Calls Tryz.prog 90 #[.agg #[.slice pw n cw, v1, v2, mv], .agg (arrOf M)] w fun e w' => e = .returned (.bool (holdB may n M)) ∧ Below w.heap.size w w' := by
  have HMAY := Lib.hid hMay
  have HEQ := Lib.hid (fun W => eql_arr (Small.rows (may := may) (n := n) (by omega) (List.range n) M hM (fun a ha => by have := List.mem_range.1 ha; omega)).1 hM.1 (small_wf (Small.rows (may := may) (n := n) (by omega) (List.range n) M hM (fun a ha => by have := List.mem_range.1 ha; omega))) (small_wf hM) W)
  change Hid (∀ W, (Op.equalIn 10000 116 (.agg (arrOf (Tx.lowered may n M))) (.agg (arrOf M))).run Tryz.prog W = .ok (decide (Tx.lowered may n M = M)) W) at HEQ
  have HI := Lib.hid (size_marks (by rw [arrOf_size]; exact hM.1 : (arrOf M).size = 13))
  have HM0 := Lib.hid (arrOf_get (M := M) (k := 0) (by rw [hM.1]; omega))
  have HHB := Lib.hid (show holdB may n M = ((M.getD 0 0 == 0) && decide (Tx.lowered may n M = M)) from rfl)
  generalize M.getD 0 0 = m0 at HM0 HHB
  have hxm := heap_last (w.alloc (.cells #[.slice pw n cw, v1, v2, mv] 84)) (.cells (arrOf M) 116)
  rw [World.size_alloc] at hxm
  have hx0 : ((w.alloc (.cells #[.slice pw n cw, v1, v2, mv] 84)).alloc (.cells (arrOf M) 116)).heap[w.heap.size]? = some (.cells #[.slice pw n cw, v1, v2, mv] 84 (0, 0)) := by
    rw [Below.heap_alloc _ _ _ (by simp)]; exact heap_last _ _
  have HX := Lib.hid hx0
  have HBW := Lib.hid (show Below w.heap.size w ((w.alloc (.cells #[.slice pw n cw, v1, v2, mv] 84)).alloc (.cells (arrOf M) 116)) from (below1 _ _).alloc (by simp) _)
  have hsz : ((w.alloc (.cells #[.slice pw n cw, v1, v2, mv] 84)).alloc (.cells (arrOf M) 116)).heap.size = w.heap.size + 2 := by simp
  have HM := Lib.hid hxm
  clear hx0 hxm hMay
  obtain ⟨BA, hBA⟩ : ∃ BA, BA = arrOf M := ⟨_, rfl⟩
  rw [← hBA] at HI HM0 HM HX HBW HEQ hsz ⊢
  have HBA := Lib.hid hBA
  clear hBA
  go_enter Tryz.func90, Tryz.ntmps90
  go_wp2_with fail
  generalize (w.alloc (.cells #[.slice pw n cw, v1, v2, mv] 84)).alloc (.cells BA 116) = W1 at HM HX HBW hsz ⊢
  by_cases heq : (m0 == 0) = true
  · have HEQ1 := Lib.hid heq
    have HLO := Lib.hid (fun W (h : Below W1.heap.size W1 W) => lowered_any may n cw hn pw v1 v2 mv M hM W ((HMAY.out.hold (.of_below (HBW.out.trans (h.mono (by omega))) (fun _ h _ => h))).mono (fun j hj _ => by have := h.size; omega)))
    rw [← HBA.out] at HLO
    refine Rs.region_gen 10 [[], [0], [0, 1], [0, 1, 2], [0, 1, 2, 3], [0, 1, 2, 3], [0, 1, 2, 3, 4, 5], [0, 1, 2, 3], [0, 1, 2, 3, 4, 5, 6, 7], [0, 1, 2, 3, 4, 5, 6, 7, 8]] [some 5, some 6, some 7, some 8, some 9, some 10, some 11, some 12, some 13, some 14] (spHd1 pw n cw v1 v2 mv BA m0 (arrOf (Tx.lowered may n M)) (decide (Tx.lowered may n M = M)) (w.heap.size + 1)) (by kernel_rfl) (by kernel_rfl) rfl (spHd1_stable _ _ _ _ _ _ _ _ _ _ _) ?_ ?_
    · refine ⟨fun V w' hG hs => ?_, fun V w' hG hs => ?_, fun V w' hG hs => ?_, fun V w' hG hs => ?_, fun V w' hG hs => ?_, fun V w' hG hs => ?_, fun V w' hG hs => ?_, fun V w' hG hs => ?_, fun V w' hG hs => ?_, fun V w' hG hs => ?_, trivial⟩
      all_goals
        have hm := (hG.block (w.heap.size + 1) (by omega)).trans HM.out
        have hx := (hG.block w.heap.size (by omega)).trans HX.out
        have k0 := blk_cells hx 0 _ rfl
        have k1 := blk_cells hx 1 _ rfl
        have k2 := blk_cells hx 2 _ rfl
        have k3 := blk_cells hx 3 _ rfl
        have hm0 := blk_cells hm 0 _ HM0.out
      · rw [if_pos (by rfl)]
        exact Rs.GrowL.value (v := .pointer (some ⟨(w.heap.size + 1), 0, none⟩)) (w' := w') (by simp [go_sem, Rs.look]) (Rs.Gr.refl _) rfl
      · have e0 : V 0 = .pointer (some ⟨(w.heap.size + 1), 0, none⟩) := hs 0 (by simp)
        rw [if_pos (by rfl)]
        exact Rs.GrowL.value (v := .int .i64 m0) (w' := w') (by simp [go_sem, Rs.look, e0, hm0]) (Rs.Gr.refl _) rfl
      · have e0 : V 0 = .pointer (some ⟨(w.heap.size + 1), 0, none⟩) := hs 0 (by simp)
        have e1 : V 1 = .int .i64 m0 := hs 1 (by simp)
        rw [if_pos (by rfl)]
        exact Rs.GrowL.value (v := .bool true) (w' := w') (by simp [go_sem, Rs.look, e0, e1, heq]) (Rs.Gr.refl _) rfl
      · have e0 : V 0 = .pointer (some ⟨(w.heap.size + 1), 0, none⟩) := hs 0 (by simp)
        have e1 : V 1 = .int .i64 m0 := hs 1 (by simp)
        have e2 : V 2 = .bool true := hs 2 (by simp)
        rw [if_pos (by rfl)]
        exact Rs.GrowL.value (v := .bool true) (w' := w') (by simp [go_sem, Rs.look, e0, e1, e2]) (Rs.Gr.refl _) rfl
      · have e0 : V 0 = .pointer (some ⟨(w.heap.size + 1), 0, none⟩) := hs 0 (by simp)
        have e1 : V 1 = .int .i64 m0 := hs 1 (by simp)
        have e2 : V 2 = .bool true := hs 2 (by simp)
        have e3 : V 3 = .bool true := hs 3 (by simp)
        rw [if_pos (by simp [Rs.wantB, e3])]
        exact Rs.GrowL.value (v := .agg #[.slice pw n cw, v1, v2, mv]) (w' := w') (by simp [go_sem, Rs.look, e0, e1, e2, e3, k0, k1, k2, k3]) (Rs.Gr.refl _) rfl
      · have e0 : V 0 = .pointer (some ⟨(w.heap.size + 1), 0, none⟩) := hs 0 (by simp)
        have e1 : V 1 = .int .i64 m0 := hs 1 (by simp)
        have e2 : V 2 = .bool true := hs 2 (by simp)
        have e3 : V 3 = .bool true := hs 3 (by simp)
        rw [if_pos (by simp [Rs.wantB, e3])]
        exact Rs.GrowL.value (v := .agg BA) (w' := w') (exec_load_row 116 _ rfl (w.heap.size + 1) rfl 116 BA (0, 0) _ hm und_marks rfl HI.out) (Rs.Gr.refl _) rfl
      · have e0 : V 0 = .pointer (some ⟨(w.heap.size + 1), 0, none⟩) := hs 0 (by simp)
        have e1 : V 1 = .int .i64 m0 := hs 1 (by simp)
        have e2 : V 2 = .bool true := hs 2 (by simp)
        have e3 : V 3 = .bool true := hs 3 (by simp)
        have e4 : V 4 = .agg #[.slice pw n cw, v1, v2, mv] := hs 4 (by simp)
        have e5 : V 5 = .agg BA := hs 5 (by simp)
        rw [if_pos (by simp [Rs.wantB, e3])]
        refine Rs.GrowL.call (f := 119) (args := #[.agg #[.slice pw n cw, v1, v2, mv], .agg BA]) (by simp [go_sem, Rs.look, e4, e5]) ?_
        refine (HLO.out w' hG).mono ?_
        rintro e w2 ⟨rfl, hB2⟩
        exact ⟨_, rfl, hB2, rfl⟩
      · have e0 : V 0 = .pointer (some ⟨(w.heap.size + 1), 0, none⟩) := hs 0 (by simp)
        have e1 : V 1 = .int .i64 m0 := hs 1 (by simp)
        have e2 : V 2 = .bool true := hs 2 (by simp)
        have e3 : V 3 = .bool true := hs 3 (by simp)
        rw [if_pos (by simp [Rs.wantB, e3])]
        exact Rs.GrowL.value (v := .agg BA) (w' := w') (exec_load_row 116 _ rfl (w.heap.size + 1) rfl 116 BA (0, 0) _ hm und_marks rfl HI.out) (Rs.Gr.refl _) rfl
      · have e0 : V 0 = .pointer (some ⟨(w.heap.size + 1), 0, none⟩) := hs 0 (by simp)
        have e1 : V 1 = .int .i64 m0 := hs 1 (by simp)
        have e2 : V 2 = .bool true := hs 2 (by simp)
        have e3 : V 3 = .bool true := hs 3 (by simp)
        have e4 : V 4 = .agg #[.slice pw n cw, v1, v2, mv] := hs 4 (by simp)
        have e5 : V 5 = .agg BA := hs 5 (by simp)
        have e6 : V 6 = .agg (arrOf (Tx.lowered may n M)) := hs 6 (by simp)
        have e7 : V 7 = .agg BA := hs 7 (by simp)
        rw [if_pos (by simp [Rs.wantB, e3])]
        exact Rs.GrowL.value (v := .bool (decide (Tx.lowered may n M = M))) (w' := w') (by have hq := HEQ.out w'; simp [go_sem, Rs.look, e6, e7, hq]) (Rs.Gr.refl _) rfl
      · have e0 : V 0 = .pointer (some ⟨(w.heap.size + 1), 0, none⟩) := hs 0 (by simp)
        have e1 : V 1 = .int .i64 m0 := hs 1 (by simp)
        have e2 : V 2 = .bool true := hs 2 (by simp)
        have e3 : V 3 = .bool true := hs 3 (by simp)
        have e4 : V 4 = .agg #[.slice pw n cw, v1, v2, mv] := hs 4 (by simp)
        have e5 : V 5 = .agg BA := hs 5 (by simp)
        have e6 : V 6 = .agg (arrOf (Tx.lowered may n M)) := hs 6 (by simp)
        have e7 : V 7 = .agg BA := hs 7 (by simp)
        have e8 : V 8 = .bool (decide (Tx.lowered may n M = M)) := hs 8 (by simp)
        rw [if_pos (by rfl)]
        exact Rs.GrowL.value (v := .bool (decide (Tx.lowered may n M = M))) (w' := w') (by simp [go_sem, Rs.look, e0, e1, e2, e3, e4, e5, e6, e7, e8]) (Rs.Gr.refl _) rfl
    · intro V w' hG hs
      have e0 : V 0 = .pointer (some ⟨(w.heap.size + 1), 0, none⟩) := hs 0 (by omega)
      have e1 : V 1 = .int .i64 m0 := hs 1 (by omega)
      have e2 : V 2 = .bool true := hs 2 (by omega)
      have e3 : V 3 = .bool true := hs 3 (by omega)
      have e4 : V 4 = .agg #[.slice pw n cw, v1, v2, mv] := hs 4 (by omega)
      have e5 : V 5 = .agg BA := hs 5 (by omega)
      have e6 : V 6 = .agg (arrOf (Tx.lowered may n M)) := hs 6 (by omega)
      have e7 : V 7 = .agg BA := hs 7 (by omega)
      have e8 : V 8 = .bool (decide (Tx.lowered may n M = M)) := hs 8 (by omega)
      have e9 : V 9 = .bool (decide (Tx.lowered may n M = M)) := hs 9 (by omega)
      simp only [Rs.canon, Rs.dstOf, List.range_succ, List.range_zero, List.nil_append, List.cons_append, List.foldl_cons, List.foldl_nil, List.drop_succ_cons, List.drop_zero, List.drop_nil, List.getElem?_toArray, List.getElem?_cons_succ, List.getElem?_cons_zero, Option.bind_some, Act.put, List.getD_cons_succ, List.getD_cons_zero, List.setIfInBounds_toArray, List.set_cons_succ, List.set_cons_zero]
      rw [e0, e1, e2, e3, e4, e5, e6, e7, e8, e9]
      clear e0 e1 e2 e3 e4 e5 e6 e7 e8 e9 hs
      clear heq
      go_wp2
      go_ret
      exact ⟨by rw [HHB.out, HEQ1.out]; rfl, HBW.out.trans (hG.mono (by omega))⟩
  · have heq : (m0 == 0) = false := by simpa using heq
    have HEQ0 := Lib.hid heq
    refine Rs.region_gen 10 [[], [0], [0, 1], [0, 1, 2], [0, 1, 2, 3], [0, 1, 2, 3], [0, 1, 2, 3, 4, 5], [0, 1, 2, 3], [0, 1, 2, 3, 4, 5, 6, 7], [0, 1, 2, 3, 4, 5, 6, 7, 8]] [some 5, some 6, some 7, some 8, some 9, some 10, some 11, some 12, some 13, some 14] (spHd0 pw n cw v1 v2 mv BA m0 (arrOf (Tx.lowered may n M)) (decide (Tx.lowered may n M = M)) (w.heap.size + 1)) (by kernel_rfl) (by kernel_rfl) rfl (spHd0_stable _ _ _ _ _ _ _ _ _ _ _) ?_ ?_
    · refine ⟨fun V w' hG hs => ?_, fun V w' hG hs => ?_, fun V w' hG hs => ?_, fun V w' hG hs => ?_, fun V w' hG hs => ?_, fun V w' hG hs => ?_, fun V w' hG hs => ?_, fun V w' hG hs => ?_, fun V w' hG hs => ?_, fun V w' hG hs => ?_, trivial⟩
      all_goals
        have hm := (hG.block (w.heap.size + 1) (by omega)).trans HM.out
        have hx := (hG.block w.heap.size (by omega)).trans HX.out
        have k0 := blk_cells hx 0 _ rfl
        have k1 := blk_cells hx 1 _ rfl
        have k2 := blk_cells hx 2 _ rfl
        have k3 := blk_cells hx 3 _ rfl
        have hm0 := blk_cells hm 0 _ HM0.out
      · rw [if_pos (by rfl)]
        exact Rs.GrowL.value (v := .pointer (some ⟨(w.heap.size + 1), 0, none⟩)) (w' := w') (by simp [go_sem, Rs.look]) (Rs.Gr.refl _) rfl
      · have e0 : V 0 = .pointer (some ⟨(w.heap.size + 1), 0, none⟩) := hs 0 (by simp)
        rw [if_pos (by rfl)]
        exact Rs.GrowL.value (v := .int .i64 m0) (w' := w') (by simp [go_sem, Rs.look, e0, hm0]) (Rs.Gr.refl _) rfl
      · have e0 : V 0 = .pointer (some ⟨(w.heap.size + 1), 0, none⟩) := hs 0 (by simp)
        have e1 : V 1 = .int .i64 m0 := hs 1 (by simp)
        rw [if_pos (by rfl)]
        exact Rs.GrowL.value (v := .bool false) (w' := w') (by simp [go_sem, Rs.look, e0, e1, heq]) (Rs.Gr.refl _) rfl
      · have e0 : V 0 = .pointer (some ⟨(w.heap.size + 1), 0, none⟩) := hs 0 (by simp)
        have e1 : V 1 = .int .i64 m0 := hs 1 (by simp)
        have e2 : V 2 = .bool false := hs 2 (by simp)
        rw [if_pos (by rfl)]
        exact Rs.GrowL.value (v := .bool false) (w' := w') (by simp [go_sem, Rs.look, e0, e1, e2]) (Rs.Gr.refl _) rfl
      · have e0 : V 0 = .pointer (some ⟨(w.heap.size + 1), 0, none⟩) := hs 0 (by simp)
        have e1 : V 1 = .int .i64 m0 := hs 1 (by simp)
        have e2 : V 2 = .bool false := hs 2 (by simp)
        have e3 : V 3 = .bool false := hs 3 (by simp)
        rw [if_neg (by simp [Rs.wantB, e3])]
        rfl
      · have e0 : V 0 = .pointer (some ⟨(w.heap.size + 1), 0, none⟩) := hs 0 (by simp)
        have e1 : V 1 = .int .i64 m0 := hs 1 (by simp)
        have e2 : V 2 = .bool false := hs 2 (by simp)
        have e3 : V 3 = .bool false := hs 3 (by simp)
        rw [if_neg (by simp [Rs.wantB, e3])]
        rfl
      · have e0 : V 0 = .pointer (some ⟨(w.heap.size + 1), 0, none⟩) := hs 0 (by simp)
        have e1 : V 1 = .int .i64 m0 := hs 1 (by simp)
        have e2 : V 2 = .bool false := hs 2 (by simp)
        have e3 : V 3 = .bool false := hs 3 (by simp)
        have e4 : V 4 = undef := hs 4 (by simp)
        have e5 : V 5 = undef := hs 5 (by simp)
        rw [if_neg (by simp [Rs.wantB, e3])]
        rfl
      · have e0 : V 0 = .pointer (some ⟨(w.heap.size + 1), 0, none⟩) := hs 0 (by simp)
        have e1 : V 1 = .int .i64 m0 := hs 1 (by simp)
        have e2 : V 2 = .bool false := hs 2 (by simp)
        have e3 : V 3 = .bool false := hs 3 (by simp)
        rw [if_neg (by simp [Rs.wantB, e3])]
        rfl
      · have e0 : V 0 = .pointer (some ⟨(w.heap.size + 1), 0, none⟩) := hs 0 (by simp)
        have e1 : V 1 = .int .i64 m0 := hs 1 (by simp)
        have e2 : V 2 = .bool false := hs 2 (by simp)
        have e3 : V 3 = .bool false := hs 3 (by simp)
        have e4 : V 4 = undef := hs 4 (by simp)
        have e5 : V 5 = undef := hs 5 (by simp)
        have e6 : V 6 = undef := hs 6 (by simp)
        have e7 : V 7 = undef := hs 7 (by simp)
        rw [if_neg (by simp [Rs.wantB, e3])]
        rfl
      · have e0 : V 0 = .pointer (some ⟨(w.heap.size + 1), 0, none⟩) := hs 0 (by simp)
        have e1 : V 1 = .int .i64 m0 := hs 1 (by simp)
        have e2 : V 2 = .bool false := hs 2 (by simp)
        have e3 : V 3 = .bool false := hs 3 (by simp)
        have e4 : V 4 = undef := hs 4 (by simp)
        have e5 : V 5 = undef := hs 5 (by simp)
        have e6 : V 6 = undef := hs 6 (by simp)
        have e7 : V 7 = undef := hs 7 (by simp)
        have e8 : V 8 = undef := hs 8 (by simp)
        rw [if_pos (by rfl)]
        exact Rs.GrowL.value (v := .bool false) (w' := w') (by simp [go_sem, Rs.look, e0, e1, e2, e3, e4, e5, e6, e7, e8]) (Rs.Gr.refl _) rfl
    · intro V w' hG hs
      have e0 : V 0 = .pointer (some ⟨(w.heap.size + 1), 0, none⟩) := hs 0 (by omega)
      have e1 : V 1 = .int .i64 m0 := hs 1 (by omega)
      have e2 : V 2 = .bool false := hs 2 (by omega)
      have e3 : V 3 = .bool false := hs 3 (by omega)
      have e4 : V 4 = undef := hs 4 (by omega)
      have e5 : V 5 = undef := hs 5 (by omega)
      have e6 : V 6 = undef := hs 6 (by omega)
      have e7 : V 7 = undef := hs 7 (by omega)
      have e8 : V 8 = undef := hs 8 (by omega)
      have e9 : V 9 = .bool false := hs 9 (by omega)
      simp only [Rs.canon, Rs.dstOf, List.range_succ, List.range_zero, List.nil_append, List.cons_append, List.foldl_cons, List.foldl_nil, List.drop_succ_cons, List.drop_zero, List.drop_nil, List.getElem?_toArray, List.getElem?_cons_succ, List.getElem?_cons_zero, Option.bind_some, Act.put, List.getD_cons_succ, List.getD_cons_zero, List.setIfInBounds_toArray, List.set_cons_succ, List.set_cons_zero]
      rw [e0, e1, e2, e3, e4, e5, e6, e7, e8, e9]
      clear e0 e1 e2 e3 e4 e5 e6 e7 e8 e9 hs
      clear heq
      go_wp2
      go_ret
      exact ⟨by rw [HHB.out, HEQ0.out]; rfl, HBW.out.trans (hG.mono (by omega))⟩
end Go.Proofs.YtadnggecnjdhiaaGreat
set_option linter.unusedSimpArgs false
set_option linter.unusedVariables false
namespace Go.Proofs.YtadnggecnjdhiaaGreat
open Go.RowKit Tx

def padM (l : List Int) : Marks := l ++ List.replicate (13 - l.length) 0
def shows (t : Text) (l : List Int) : Int × Int :=
  if t.err ≠ 0 then (0, t.err) else if l.length ≠ t.words.length + 1 then (0, 2) else if l.any (fun k => !btw k 0 99) then (0, 3) else if holdB t.right t.words.length (padM l) = false then (0, 8) else (l.getD t.words.length 0, 0)
theorem padM_small {l : List Int} (hl : l.length ≤ 13) (h : ¬ l.any (fun k => !btw k 0 99) = true) : Small (padM l) := by
  refine ⟨by simp [padM]; omega, fun k hk => ?_⟩
  unfold padM
  by_cases hkl : k < l.length
  · have := any_false h (l.getD k 0) (getD_mem 0 hkl)
    simp only [Bool.not_eq_false'] at this
    have := btw_true this
    rw [show List.getD (l ++ List.replicate (13 - l.length) (0 : Int)) k 0 = List.getD l k 0 from by simp [List.getElem?_append, hkl]]
    omega
  · rw [show (l ++ List.replicate (13 - l.length) (0 : Int)).getD k 0 = 0 from by
      simp [List.getElem?_append, hkl, List.getElem?_replicate]
      split <;> rfl]
    omega
theorem entered_shows1' : Entered 89 := entered_shows1
theorem siz_int : (Tryz.prog.info? 3).map (·.size) = some 1 := by kernel_rfl

def z13 : List Value := List.replicate 13 (Value.int .i64 0)
set_option maxRecDepth 100000 in
theorem copy_marks (l : List Int) (hl : l.length ≤ 13) (g lb lo cl : Nat) (w : World) (hg : w.heap[g]? = some (.cells z13.toArray 116 (0, 0))) (hc : ∀ i, i < l.length → w.cell? ⟨lb, lo + i, none⟩ = some (.int .i64 (l.getD i 0))) :
    (Builtin.copy_ #[34, 34] 3 #[.slice (some ⟨g, 0, none⟩) 13 13, .slice (some ⟨lb, lo, none⟩) l.length cl]).run Tryz.prog w = .ok (goInt l.length) (w.setRow g (arrOf (padM l))) := by
  have h := run_copy_row (P := Tryz.prog) w 34 34 3 3 g 0 13 13 ⟨lb, lo, none⟩ l.length cl z13.toArray 116 (l.map (Value.int .i64)) A_undI siz_int hg (by rw [List.length_map]; exact (Nat.min_eq_left hl).symm)
    (fun j v hv => by
      have hj : j < l.length := by have := (List.getElem?_eq_some_iff.1 hv).1; simpa using this
      have hadd : (⟨lb, lo, none⟩ : Addr).add j = ⟨lb, lo + j, none⟩ := by unfold Addr.add; split <;> simp_all
      rw [hadd, hc j hj]
      simp [hj] at hv ⊢; exact hv)
    (by unfold z13; simp; omega) (fun v hv => by obtain ⟨x, _, rfl⟩ := List.mem_map.1 hv; rfl)
  rw [h, List.length_map]
  congr 2
  unfold arrOf padM z13
  congr 1
  simp only [List.take_zero, List.nil_append, Nat.zero_add, List.length_map, List.map_append, List.map_replicate, List.drop_replicate]
set_option maxHeartbeats 2000000 in
set_option maxRecDepth 100000 in
theorem Shows_in (t : Text) (l : List Int) (he : t.err = 0) (hlen : l.length = t.words.length + 1) (hany : ¬ l.any (fun k => !btw k 0 99) = true) (pw pt pl : Option Addr) (cw ct cl : Nat) (hcw : t.words.length ≤ cw ∧ cw ≤ maxLen) (w : World) (hW : TxAt w t pw pt) (hL : Ints w pl l) :
    Calls Tryz.prog 38 #[.agg #[.slice pw t.words.length cw, .slice pt t.turns.length ct, .int .i64 t.breath], .slice pl l.length cl] w fun e w' =>
      e = .returned (.tuple #[.int .i64 (shows t l).1, .int .i64 (shows t l).2]) ∧ Below w.heap.size w w' := by
  have ok := err_ok he
  have hn12 := ok.n12
  have hLL := hL
  rcases hLL with h0 | ⟨lb, lo, rfl, hlb, hlc⟩
  · rw [h0] at hlen; simp at hlen
  have HLC := Lib.hid hlc
  have hsh : shows t l = if holdB t.right t.words.length (padM l) = false then (0, 8) else (l.getD t.words.length 0, 0) := by
    unfold shows; rw [if_neg (by simp [he]), if_neg (by omega), if_neg hany]
  have hsm := padM_small (by omega) hany
  have HSH := Lib.hid hsh
  have HS := Lib.hid (fun W (h : Below w.heap.size w W) => open_ok t he pw pt cw ct W (hW.below h))
  have h3 : errIf (fun k => !btw k 0 99) l 3 = 0 := by rw [errIf, if_neg hany]
  have H3 := Lib.hid h3
  have HI := Lib.hid (fun W (h : Below w.heap.size w W) => errIfI_any 89 entered_shows1 (fun k => !btw k 0 99) l (some ⟨lb, lo, none⟩) cl 3 W (by omega) (hL.below h) (fun W' _ u => (shows1_any u W').mono fun e w' ⟨h1, h2⟩ => ⟨h1, h2 ▸ Below.refl _ _⟩))
  have HM := Lib.hid (fun W (h : Below w.heap.size w W) => right_may t pw pt cw ct .nilFunc W ⟨ok, hW.below h, hcw⟩)
  have HL := Lib.hid (fun W (h : Below w.heap.size w W) => hL.below h)
  have HSM := Lib.hid hsm
  have HLEN := Lib.hid hlen
  have hlq : ((l.length : Int) != (t.words.length : Int) + 1) = false := by rw [hlen]; simp
  have hl13 : l.length ≤ 13 := by omega
  clear hsh hsm h3 hany hW hL he hlen
  go_enter Tryz.func38, Tryz.ntmps38
  go_wp2_with fail
  refine (HS.out _ (below1 _ _)).mono ?_
  rintro e w5 ⟨rfl, hB5⟩
  have HB5 := Lib.hid (join (below1 _ _) hB5)
  clear hB5
  go_wp2_with fail
  refine (end_any _ _ _ _ _ _ _).mono ?_
  rintro e w6 ⟨rfl, hw6⟩
  have hB6 : Below w.heap.size w w6 := by rw [← hw6]; exact join (join HB5.out (below1 _ _)) (below1 _ _)
  have hz6 : w5.heap.size < w6.heap.size := by rw [← hw6]; simp; omega
  have hx6 : w6.heap[w5.heap.size]? = some (.cells #[.slice pw t.words.length cw, .slice pt t.turns.length ct, .int .i64 t.breath, .func (.func 91) #[.agg #[.slice pw t.words.length cw, .slice pt t.turns.length ct, .int .i64 t.breath, .nilFunc]] #[]] 84 (0, 0)) := by
    rw [← hw6, Below.heap_alloc _ _ _ (by simp)]; exact heap_last _ _
  have HX6 := Lib.hid hx6
  have HB6 := Lib.hid hB6
  clear hw6 hx6 hB6
  go_wp2_with fail
  refine (HI.out _ HB6.out).mono ?_
  rintro e w7 ⟨rfl, hB7⟩
  rw [H3.out]
  have hz7 := hB7.size
  have HX7 := Lib.hid ((hB7.block _ hz6).trans HX6.out)
  have HB7 := Lib.hid (join HB6.out hB7)
  clear hB7
  have hcp0 : ∀ W, W = w7.alloc (.cells #[Value.int IntKind.i64 0, Value.int IntKind.i64 0, Value.int IntKind.i64 0, Value.int IntKind.i64 0, Value.int IntKind.i64 0, Value.int IntKind.i64 0, Value.int IntKind.i64 0, Value.int IntKind.i64 0, Value.int IntKind.i64 0, Value.int IntKind.i64 0, Value.int IntKind.i64 0, Value.int IntKind.i64 0, Value.int IntKind.i64 0] 116) → (Builtin.copy_ #[34, 34] 3 #[.slice (some ⟨w7.heap.size, 0, none⟩) 13 13, .slice (some ⟨lb, lo, none⟩) l.length cl]).run Tryz.prog W = .ok (goInt l.length) (W.setRow w7.heap.size (arrOf (padM l))) := fun W hW =>
    copy_marks l hl13 w7.heap.size lb lo cl W (by rw [hW]; exact heap_last _ _) (fun i hi => by rw [hW, (join HB7.out (below1 _ _)).cell (p := ⟨lb, lo + i, none⟩) hlb]; exact HLC.out i hi)
  have hcp := hcp0 _ rfl
  clear hcp0
  have hmk := setRow_heap (w7.alloc (.cells #[Value.int IntKind.i64 0, Value.int IntKind.i64 0, Value.int IntKind.i64 0, Value.int IntKind.i64 0, Value.int IntKind.i64 0, Value.int IntKind.i64 0, Value.int IntKind.i64 0, Value.int IntKind.i64 0, Value.int IntKind.i64 0, Value.int IntKind.i64 0, Value.int IntKind.i64 0, Value.int IntKind.i64 0, Value.int IntKind.i64 0] 116)) w7.heap.size #[Value.int IntKind.i64 0, Value.int IntKind.i64 0, Value.int IntKind.i64 0, Value.int IntKind.i64 0, Value.int IntKind.i64 0, Value.int IntKind.i64 0, Value.int IntKind.i64 0, Value.int IntKind.i64 0, Value.int IntKind.i64 0, Value.int IntKind.i64 0, Value.int IntKind.i64 0, Value.int IntKind.i64 0, Value.int IntKind.i64 0] (arrOf (padM l)) 116 (0, 0) (heap_last _ _)
  have hB8 : Below w7.heap.size w7 ((w7.alloc (.cells #[Value.int IntKind.i64 0, Value.int IntKind.i64 0, Value.int IntKind.i64 0, Value.int IntKind.i64 0, Value.int IntKind.i64 0, Value.int IntKind.i64 0, Value.int IntKind.i64 0, Value.int IntKind.i64 0, Value.int IntKind.i64 0, Value.int IntKind.i64 0, Value.int IntKind.i64 0, Value.int IntKind.i64 0, Value.int IntKind.i64 0] 116)).setRow w7.heap.size (arrOf (padM l))) := below_setRow (below1 _ _) (Nat.le_refl _) _
  have hz8 : ((w7.alloc (.cells #[Value.int IntKind.i64 0, Value.int IntKind.i64 0, Value.int IntKind.i64 0, Value.int IntKind.i64 0, Value.int IntKind.i64 0, Value.int IntKind.i64 0, Value.int IntKind.i64 0, Value.int IntKind.i64 0, Value.int IntKind.i64 0, Value.int IntKind.i64 0, Value.int IntKind.i64 0, Value.int IntKind.i64 0, Value.int IntKind.i64 0] 116)).setRow w7.heap.size (arrOf (padM l))).heap.size = w7.heap.size + 1 := by simp
  have HMK := Lib.hid hmk
  have HB8 := Lib.hid hB8
  have HZ8 := Lib.hid hz8
  clear hmk hB8 hz8 hlc
  obtain ⟨BA, hBA⟩ : ∃ BA, BA = arrOf (padM l) := ⟨_, rfl⟩
  rw [← hBA] at hcp HMK HB8 HZ8
  have HBA := Lib.hid hBA
  clear hBA
  have hsm := HSM.out
  have HI8 := Lib.hid (size_marks (by rw [HBA.out, arrOf_size]; exact hsm.1 : BA.size = 13))
  have hx8 := (HB8.out.block w5.heap.size (by omega)).trans HX7.out
  have k0 := blk_cells hx8 0 _ rfl
  have k1 := blk_cells hx8 1 _ rfl
  have k2 := blk_cells hx8 2 _ rfl
  have k3 := blk_cells hx8 3 _ rfl
  have HX8 := Lib.hid hx8
  have HHD := Lib.hid (fun W (h : Below w.heap.size w W) => hold_any t.right t.words.length cw hn12 pw (.slice pt t.turns.length ct) (.int .i64 t.breath) _ (padM l) hsm W (HM.out W h))
  rw [← HBA.out] at HHD
  have HBW8 := Lib.hid (join HB7.out HB8.out)
  clear hx8 hsm
  go_wp2_with (with_reducible refine wpList_load_row rfl 116 _ rfl w7.heap.size rfl 116 BA (0, 0) _ HMK.out und_marks rfl HI8.out ?_)
  refine (HHD.out _ HBW8.out).mono ?_
  rintro e w9 ⟨rfl, hB9⟩
  have HMK9 := Lib.hid ((hB9.block w7.heap.size (by have := HZ8.out; omega)).trans HMK.out)
  have HX9 := Lib.hid ((hB9.block w5.heap.size (by have := HZ8.out; omega)).trans HX8.out)
  have hz9 : w7.heap.size + 1 ≤ w9.heap.size := by have := hB9.size; have := HZ8.out; omega
  have HB9 := Lib.hid (join HBW8.out hB9)
  clear hB9 k0 k1 k2 k3 hcp
  cases hh : holdB t.right t.words.length (padM l) with
  | false =>
    have HH := Lib.hid hh
    clear hh
    go_wp2
    go_ret2
    exact ⟨by rw [HSH.out, if_pos HH.out]; rfl, HB9.out⟩
  | true =>
    have HH := Lib.hid hh
    have k0 := blk_cells HX9.out 0 _ rfl
    have k1 := blk_cells HX9.out 1 _ rfl
    have k2 := blk_cells HX9.out 2 _ rfl
    have k3 := blk_cells HX9.out 3 _ rfl
    have hs5 : w5.heap.size < w9.heap.size := by omega
    clear hh
    go_wp2_with fail
    refine (end_any _ _ _ _ _ _ _).mono ?_
    rintro e w10 ⟨rfl, rfl⟩
    have hpl : t.words.length < (padM l).length := by rw [HSM.out.1]; omega
    have hcell := blk_cells HMK9.out t.words.length _ (by rw [HBA.out]; exact arrOf_get hpl)
    have hval : (padM l).getD t.words.length 0 = l.getD t.words.length 0 := by
      have hlt : t.words.length < l.length := by have := HLEN.out; omega
      unfold padM; simp [List.getElem?_append, hlt]
    rw [hval] at hcell
    obtain ⟨x, hx⟩ : ∃ x, x = l.getD t.words.length 0 := ⟨_, rfl⟩
    rw [← hx] at hcell
    have HXV := Lib.hid hx
    have hn13 : (t.words.length : Int) < 13 := by omega
    have hs7 : w7.heap.size < w9.heap.size := by omega
    clear hval hx k0 k1 k2 k3
    go_wp2
    go_ret2
    exact ⟨by rw [HSH.out, if_neg (by rw [HH.out]; decide), HXV.out]; rfl, join HB9.out (below1 _ _)⟩
end Go.Proofs.YtadnggecnjdhiaaGreat
set_option linter.unusedSimpArgs false
set_option linter.unusedVariables false
namespace Go.Proofs.YtadnggecnjdhiaaGreat
open Go.RowKit Tx
attribute [local go_sem] Oper.semAt_some

theorem copy_none (g c : Nat) (p : Option Addr) (W : World) : (Builtin.copy_ #[34, 34] 3 #[.slice (some ⟨g, 0, none⟩) 0 0, .slice p 0 c]).run Tryz.prog W = .ok (goInt 0) W := by
  cases p <;> simp [go_sem, Builtin.copy_, A_undI, siz_int]
set_option maxRecDepth 100000 in
theorem copy_ints (l : List Int) (g lb lo cl : Nat) (w : World) (hg : w.heap[g]? = some (.cells (arrOf (List.replicate l.length 0)) 3 (0, 0))) (hc : ∀ i, i < l.length → w.cell? ⟨lb, lo + i, none⟩ = some (.int .i64 (l.getD i 0))) :
    (Builtin.copy_ #[34, 34] 3 #[.slice (some ⟨g, 0, none⟩) l.length l.length, .slice (some ⟨lb, lo, none⟩) l.length cl]).run Tryz.prog w = .ok (goInt l.length) (w.setRow g (arrOf l)) := by
  have h := run_copy_row (P := Tryz.prog) w 34 34 3 3 g 0 l.length l.length ⟨lb, lo, none⟩ l.length cl (arrOf (List.replicate l.length 0)) 3 (l.map (Value.int .i64)) A_undI siz_int hg (by rw [List.length_map]; exact (Nat.min_eq_left (Nat.le_refl _)).symm)
    (fun j v hv => by
      have hj : j < l.length := by have := (List.getElem?_eq_some_iff.1 hv).1; simpa using this
      have hadd : (⟨lb, lo, none⟩ : Addr).add j = ⟨lb, lo + j, none⟩ := by unfold Addr.add; split <;> simp_all
      rw [hadd, hc j hj]
      simp [hj] at hv ⊢; exact hv)
    (by simp [arrOf_size]) (fun v hv => by obtain ⟨x, _, rfl⟩ := List.mem_map.1 hv; rfl)
  rw [h, List.length_map]
  congr 2
  unfold arrOf
  congr 1
  simp
set_option maxHeartbeats 1000000 in
set_option maxRecDepth 100000 in
theorem Copy_ints (l : List Int) (hll : l.length ≤ 1000000) (p : Option Addr) (c : Nat) (w : World) (hL : Ints w p l) :
    Calls Tryz.prog 54 #[.slice p l.length c] w (RowPost l w) := by
  rcases hL with rfl | ⟨lb, lo, rfl, hlb, hlc⟩
  · have hmk : (Instr.makeSlice 34 (.int .i64 0) (.int .i64 0)).run Tryz.prog w = .ok (.slice (some ⟨w.heap.size, 0, none⟩) 0 0) (w.alloc (.cells (arrOf []) 3)) := make_ints 0 (by omega) w
    have hcp := copy_none w.heap.size c p (w.alloc (.cells (arrOf []) 3))
    have hown : (w.alloc (.cells (arrOf []) 3)).ownsRow w.heap.size 3 1 (.slice (some ⟨w.heap.size, 0, none⟩) 0 0) 0 [] := ⟨rfl, .inr ⟨_, 0, arrOf [], rfl, Nat.le_refl _, heap_last _ _, Nat.le_refl _, by decide, rfl, rfl⟩⟩
    have HO := Lib.hid hown
    clear hown
    generalize hW1 : w.alloc (.cells (arrOf []) 3) = W1 at hmk hcp HO
    have HB := Lib.hid (show Below w.heap.size w W1 from hW1 ▸ below1 _ _)
    clear hW1
    go_enter Tryz.func54, Tryz.ntmps54
    go_wp2
    go_ret
    exact ⟨_, rfl, HO.out, HB.out⟩
  · have hmk := make_ints l.length hll w
    have hcp := copy_ints l w.heap.size lb lo c (w.alloc (.cells (arrOf (List.replicate l.length 0)) 3)) (heap_last _ _) (fun i hi => by rw [(below1 w _).cell (p := ⟨lb, lo + i, none⟩) hlb]; exact hlc i hi)
    have hrow := setRow_heap (w.alloc (.cells (arrOf (List.replicate l.length 0)) 3)) w.heap.size (arrOf (List.replicate l.length 0)) (arrOf l) 3 (0, 0) (heap_last _ _)
    have hB2 : Below w.heap.size w ((w.alloc (.cells (arrOf (List.replicate l.length 0)) 3)).setRow w.heap.size (arrOf l)) := below_setRow (below1 _ _) (Nat.le_refl _) _
    have hown : ((w.alloc (.cells (arrOf (List.replicate l.length 0)) 3)).setRow w.heap.size (arrOf l)).ownsRow w.heap.size 3 1 (.slice (some ⟨w.heap.size, 0, none⟩) l.length l.length) l.length (l.map (Value.int .i64)) := ⟨by simp, .inr ⟨_, l.length, arrOf l, rfl, Nat.le_refl _, hrow, Nat.le_refl _, by unfold maxLen; omega, by simp [arrOf_size], by simp [arrOf, List.take_of_length_le]⟩⟩
    have HO := Lib.hid hown
    have HB := Lib.hid hB2
    clear hown hB2 hrow
    generalize (w.alloc (.cells (arrOf (List.replicate l.length 0)) 3)).setRow w.heap.size (arrOf l) = W2 at hcp HO HB
    generalize w.alloc (.cells (arrOf (List.replicate l.length 0)) 3) = W1 at hmk hcp
    clear hlc
    go_enter Tryz.func54, Tryz.ntmps54
    go_wp2
    go_ret
    exact ⟨_, rfl, HO.out, HB.out⟩
end Go.Proofs.YtadnggecnjdhiaaGreat
set_option linter.unusedSimpArgs false
set_option linter.unusedVariables false
namespace Go.Proofs.YtadnggecnjdhiaaGreat
open Go.RowKit Tx
attribute [local go_sem] Oper.semAt_some

theorem siz_Word : (Tryz.prog.info? 61).map (·.size) = some 3 := by kernel_rfl
theorem siz_Turn : (Tryz.prog.info? 63).map (·.size) = some 3 := by kernel_rfl
theorem A_undWs : Tryz.prog.underlying 22 = some (.slice 61) := by kernel_rfl
theorem A_undTs : Tryz.prog.underlying 23 = some (.slice 63) := by kernel_rfl
theorem A_infoWd : (Tryz.prog.info? 61).map (fun i => (i.zero, i.size, i.bytes)) = some (some (.agg #[.int .i64 0, .int .i64 0, .bool false]), 3, 24) := by kernel_rfl
theorem A_infoTn : (Tryz.prog.info? 63).map (fun i => (i.zero, i.size, i.bytes)) = some (some (.agg #[.int .i64 0, .int .i64 0, .int .i64 0]), 3, 24) := by kernel_rfl

def wcell (x : Word) : List Value := [.int .i64 x.syl, .int .i64 x.wt, .bool x.stop]
def tcell (u : Turn) : List Value := [.int .i64 u.word, .int .i64 u.lo, .int .i64 u.hi]
def wcells (ws : List Word) : List Value := ws.flatMap wcell
def tcells (ts : List Turn) : List Value := ts.flatMap tcell
theorem flat3_len {α : Type} (f : α → List Value) (hf : ∀ x, (f x).length = 3) (l : List α) : (l.flatMap f).length = l.length * 3 := by
  induction l with
  | nil => rfl
  | cons x l ih => rw [List.flatMap_cons, List.length_append, ih, hf, List.length_cons]; omega
theorem flat3_get {α : Type} (d : α) (f : α → List Value) (hf : ∀ x, (f x).length = 3) : ∀ (l : List α) (i j : Nat), i < l.length → j < 3 → (l.flatMap f)[i * 3 + j]? = (f (l.getD i d))[j]?
  | [], i, j, hi, _ => by simp at hi
  | x :: l, 0, j, _, hj => by
    rw [List.flatMap_cons, List.getElem?_append_left (by rw [hf]; omega)]; simp
  | x :: l, i + 1, j, hi, hj => by
    rw [List.flatMap_cons, List.getElem?_append_right (by rw [hf]; omega), hf, show (i + 1) * 3 + j - 3 = i * 3 + j by omega]
    rw [flat3_get d f hf l i j (by simpa using hi) hj]; simp
theorem wcells_len (ws : List Word) : (wcells ws).length = ws.length * 3 := flat3_len wcell (fun _ => rfl) ws
theorem tcells_len (ts : List Turn) : (tcells ts).length = ts.length * 3 := flat3_len tcell (fun _ => rfl) ts
theorem wcells_snoc (ws : List Word) (x : Word) : wcells (ws ++ [x]) = wcells ws ++ wcell x := by unfold wcells; simp [List.flatMap_append]
theorem tcells_snoc (ts : List Turn) (x : Turn) : tcells (ts ++ [x]) = tcells ts ++ tcell x := by unfold tcells; simp [List.flatMap_append]
theorem wcells_one {ws : List Word} : ∀ v ∈ wcells ws, v.oneCell' = true := by
  intro v hv; obtain ⟨x, _, h⟩ := List.mem_flatMap.1 hv; simp [wcell] at h; rcases h with rfl | rfl | rfl <;> rfl
theorem tcells_one {ts : List Turn} : ∀ v ∈ tcells ts, v.oneCell' = true := by
  intro v hv; obtain ⟨x, _, h⟩ := List.mem_flatMap.1 hv; simp [tcell] at h; rcases h with rfl | rfl | rfl <;> rfl
theorem wds_src {w : World} {b o : Nat} {ws : List Word} (h : ∀ i, i < ws.length → w.cell? ⟨b, o + i * 3, none⟩ = some (.int .i64 (ws.getD i default).syl) ∧ w.cell? ⟨b, o + i * 3 + 1, none⟩ = some (.int .i64 (ws.getD i default).wt) ∧ w.cell? ⟨b, o + i * 3 + 2, none⟩ = some (.bool (ws.getD i default).stop)) :
    ∀ j v, (wcells ws)[j]? = some v → w.cell? ((⟨b, o, none⟩ : Addr).add j) = some v := by
  intro j v hv
  have hadd : (⟨b, o, none⟩ : Addr).add j = ⟨b, o + j, none⟩ := by unfold Addr.add; split <;> simp_all
  have hj := (List.getElem?_eq_some_iff.1 hv).1
  rw [wcells_len] at hj
  have hi : j / 3 < ws.length := by omega
  obtain ⟨i, m, e, hi', hm⟩ : ∃ i m, j = i * 3 + m ∧ i < ws.length ∧ (m = 0 ∨ m = 1 ∨ m = 2) := ⟨j / 3, j % 3, by omega, hi, by omega⟩
  subst e
  unfold wcells at hv
  rw [flat3_get default wcell (fun _ => rfl) ws i m hi' (by omega)] at hv
  obtain ⟨h1, h2, h3⟩ := h i hi'
  rw [hadd, ← Nat.add_assoc]
  generalize ws.getD i default = x at hv h1 h2 h3
  rcases hm with rfl | rfl | rfl <;> simp [wcell] at hv <;> subst hv
  · exact h1
  · exact h2
  · exact h3
theorem tns_src {w : World} {b o : Nat} {ws : List Turn} (h : ∀ i, i < ws.length → w.cell? ⟨b, o + i * 3, none⟩ = some (.int .i64 (ws.getD i default).word) ∧ w.cell? ⟨b, o + i * 3 + 1, none⟩ = some (.int .i64 (ws.getD i default).lo) ∧ w.cell? ⟨b, o + i * 3 + 2, none⟩ = some (.int .i64 (ws.getD i default).hi)) :
    ∀ j v, (tcells ws)[j]? = some v → w.cell? ((⟨b, o, none⟩ : Addr).add j) = some v := by
  intro j v hv
  have hadd : (⟨b, o, none⟩ : Addr).add j = ⟨b, o + j, none⟩ := by unfold Addr.add; split <;> simp_all
  have hj := (List.getElem?_eq_some_iff.1 hv).1
  rw [tcells_len] at hj
  have hi : j / 3 < ws.length := by omega
  obtain ⟨i, m, e, hi', hm⟩ : ∃ i m, j = i * 3 + m ∧ i < ws.length ∧ (m = 0 ∨ m = 1 ∨ m = 2) := ⟨j / 3, j % 3, by omega, hi, by omega⟩
  subst e
  unfold tcells at hv
  rw [flat3_get default tcell (fun _ => rfl) ws i m hi' (by omega)] at hv
  obtain ⟨h1, h2, h3⟩ := h i hi'
  rw [hadd, ← Nat.add_assoc]
  generalize ws.getD i default = x at hv h1 h2 h3
  rcases hm with rfl | rfl | rfl <;> simp [tcell] at hv <;> subst hv
  · exact h1
  · exact h2
  · exact h3
/-- a row of structs that is owned, as one that is read -/
theorem own_wds {w : World} {base : Nat} {e : TypeId} {v : Value} {ws : List Word} {n : Nat} (h : w.ownsRow base e 3 v n (wcells ws)) (hn : n = ws.length) : ∃ p c, v = .slice p ws.length c ∧ Wds w p ws ∧ ws.length ≤ c ∧ c ≤ maxLen := by
  subst hn
  have hc := h
  rcases h.2 with ⟨rfl, hn⟩ | ⟨g, cap, cur, rfl, hb, hg, h1, h2, h3, h4⟩
  · exact ⟨none, 0, by rw [hn], .inl (List.length_eq_zero_iff.1 hn), by omega, by unfold maxLen; omega⟩
  · refine ⟨_, cap, rfl, .inr ⟨g, 0, rfl, (Array.getElem?_eq_some_iff.1 hg).1, fun i hi => ?_⟩, h1, h2⟩
    have hadd : ∀ k, (⟨g, 0, none⟩ : Addr).add k = ⟨g, k, none⟩ := fun k => by unfold Addr.add; split <;> simp_all
    have get := fun (j : Nat) (hj : j < 3) (u : Value) (hu : (wcell (ws.getD i default))[j]? = some u) => hc.cells (g := g) rfl (i * 3 + j) u (by unfold wcells; rw [flat3_get default wcell (fun _ => rfl) ws i j hi hj]; exact hu)
    have g0 := get 0 (by omega) _ rfl
    have g1 := get 1 (by omega) _ rfl
    have g2 := get 2 (by omega) _ rfl
    rw [hadd] at g0 g1 g2
    rw [Nat.zero_add]
    exact ⟨g0, g1, g2⟩
theorem own_tns {w : World} {base : Nat} {e : TypeId} {v : Value} {ws : List Turn} {n : Nat} (h : w.ownsRow base e 3 v n (tcells ws)) (hn : n = ws.length) : ∃ p c, v = .slice p ws.length c ∧ Tns w p ws ∧ ws.length ≤ c ∧ c ≤ maxLen := by
  subst hn
  have hc := h
  rcases h.2 with ⟨rfl, hn⟩ | ⟨g, cap, cur, rfl, hb, hg, h1, h2, h3, h4⟩
  · exact ⟨none, 0, by rw [hn], .inl (List.length_eq_zero_iff.1 hn), by omega, by unfold maxLen; omega⟩
  · refine ⟨_, cap, rfl, .inr ⟨g, 0, rfl, (Array.getElem?_eq_some_iff.1 hg).1, fun i hi => ?_⟩, h1, h2⟩
    have hadd : ∀ k, (⟨g, 0, none⟩ : Addr).add k = ⟨g, k, none⟩ := fun k => by unfold Addr.add; split <;> simp_all
    have get := fun (j : Nat) (hj : j < 3) (u : Value) (hu : (tcell (ws.getD i default))[j]? = some u) => hc.cells (g := g) rfl (i * 3 + j) u (by unfold tcells; rw [flat3_get default tcell (fun _ => rfl) ws i j hi hj]; exact hu)
    have g0 := get 0 (by omega) _ rfl
    have g1 := get 1 (by omega) _ rfl
    have g2 := get 2 (by omega) _ rfl
    rw [hadd] at g0 g1 g2
    rw [Nat.zero_add]
    exact ⟨g0, g1, g2⟩

theorem run_copy_cells3 {P : Program} (w : World) (dT sT ty elem : TypeId) (b o dLen dCap n : Nat) (a : Addr) (sLen sCap : Nat) (cs : List Value)
    (hu : P.underlying dT = some (.slice elem)) (hs : (P.info? elem).map (·.size) = some 3) (hn : n = Nat.min sLen dLen) (hcs : cs.length = n * 3)
    (hsrc : ∀ j v, cs[j]? = some v → w.cell? (a.add j) = some v) (hc : ∀ j, j < cs.length → (w.cell? ⟨b, o + j, none⟩).isSome = true) (hf : ∀ j, j < cs.length → w.frozen? ⟨b, o + j, none⟩ = false) (h1 : ∀ v ∈ cs, v.oneCell' = true) :
    (Builtin.copy_ #[dT, sT] ty #[.slice (some ⟨b, o, none⟩) dLen dCap, .slice (some a) sLen sCap]).run P w = .ok (goInt n) (w.setCells b o cs) := by
  have hl := run_loadCells_list (P := P) w a cs hsrc
  have hst := run_storeCells_cells (P := P) b o cs 0 w (by simpa using hc) (by simpa using hf) h1
  rw [hcs] at hl
  cases hq : P.info? elem with
  | none => simp [hq] at hs
  | some i =>
    have hi : i.size = 3 := by simpa [hq] using hs
    simp [Builtin.copy_, run_underlying hu, Builtin.lenOf, Builtin.firstCells, sizeOf, typeInfo, hq, hi, ← hn, hl, hst]
theorem run_copy_none3 {P : Program} (w : World) (dT sT ty elem : TypeId) (d a : Option Addr) (dLen dCap sLen sCap : Nat) (hu : P.underlying dT = some (.slice elem)) (hs : (P.info? elem).map (·.size) = some 3) (hn : Nat.min sLen dLen = 0) :
    (Builtin.copy_ #[dT, sT] ty #[.slice d dLen dCap, .slice a sLen sCap]).run P w = .ok (goInt 0) w := by
  cases hq : P.info? elem with
  | none => simp [hq] at hs
  | some i =>
    have hl : ∀ (x : Addr), (loadCells x 0).run P w = .ok #[] w := fun x => by simpa using run_loadCells_list (P := P) w x [] (by simp)
    cases d <;> cases a <;> simp [Builtin.copy_, run_underlying hu, Builtin.lenOf, Builtin.firstCells, sizeOf, typeInfo, hq, hn, storeCells, hl]

/-- what a copy of words leaves -/
def WdsPost (ws : List Word) (w : World) (e : Ending) (w' : World) : Prop := ∃ g, e = .returned (.slice (some ⟨g, 0, none⟩) ws.length ws.length) ∧ w'.ownsRow w.heap.size 61 3 (.slice (some ⟨g, 0, none⟩) ws.length ws.length) ws.length (wcells ws) ∧ Below w.heap.size w w'
def TnsPost (ts : List Turn) (w : World) (e : Ending) (w' : World) : Prop := ∃ g, e = .returned (.slice (some ⟨g, 0, none⟩) ts.length ts.length) ∧ w'.ownsRow w.heap.size 63 3 (.slice (some ⟨g, 0, none⟩) ts.length ts.length) ts.length (tcells ts) ∧ Below w.heap.size w w'
set_option maxHeartbeats 1000000 in
set_option maxRecDepth 100000 in
theorem Copy_words (ws : List Word) (hll : ws.length ≤ 1000000) (p : Option Addr) (c : Nat) (w : World) (hW : Wds w p ws) :
    Calls Tryz.prog 39 #[.slice p ws.length c] w (WdsPost ws w) := by
  obtain ⟨i0, hi0, hz0, hz1, hz2⟩ := info_parts A_infoWd
  have hmk := run_make (P := Tryz.prog) w 22 61 i0 (.agg #[.int .i64 0, .int .i64 0, .bool false]) A_undWs hi0 hz0 .i64 .i64 ws.length ws.length (by omega) (by omega) (by rw [hz2]; omega) (by omega)
  rw [hz1, Int.toNat_natCast] at hmk
  obtain ⟨mc, hmc⟩ : ∃ mc, mc = madeCells (Value.agg #[.int .i64 0, .int .i64 0, .bool false]).cells (ws.length * 3) := ⟨_, rfl⟩
  have hms : mc.size = ws.length * 3 := by rw [hmc, size_madeCells]
  rw [← hmc] at hmk
  clear hmc
  have hx := heap_last w (.cells mc 61)
  have hB1 := below1 w (.cells mc 61)
  generalize w.alloc (.cells mc 61) = W1 at hmk hx hB1
  have hcp : ∃ W2, (Builtin.copy_ #[22, 22] 3 #[.slice (some ⟨w.heap.size, 0, none⟩) ws.length ws.length, .slice p ws.length c]).run Tryz.prog W1 = .ok (goInt ws.length) W2 ∧ W2.ownsRow w.heap.size 61 3 (.slice (some ⟨w.heap.size, 0, none⟩) ws.length ws.length) ws.length (wcells ws) ∧ Below w.heap.size w W2 := by
    rcases hW with rfl | ⟨b, o, rfl, hb, hcs⟩
    · refine ⟨_, run_copy_none3 _ _ _ _ 61 _ _ _ _ _ _ A_undWs siz_Word (by simp), ?_, hB1⟩
      exact ⟨rfl, .inr ⟨_, 0, mc, rfl, Nat.le_refl _, hx, Nat.le_refl _, by unfold maxLen; omega, by rw [hms]; rfl, by simp [wcells]⟩⟩
    · refine ⟨_, run_copy_cells3 _ _ _ _ 61 _ _ _ _ ws.length _ _ _ (wcells ws) A_undWs siz_Word (Nat.min_self _).symm (wcells_len ws) ?_ ?_ ?_ wcells_one, ?_, ?_⟩
      · intro j v hv
        have := wds_src hcs j v hv
        have hadd : (⟨b, o, none⟩ : Addr).add j = ⟨b, o + j, none⟩ := by unfold Addr.add; split <;> simp_all
        rw [hadd] at this ⊢
        rw [hB1.cell (p := ⟨b, o + j, none⟩) hb]; exact this
      · intro j hj; rw [wcells_len] at hj
        have : (mc[0 + j]?).isSome = true := by rw [Array.getElem?_eq_getElem (by omega)]; rfl
        simpa [World.cell?, hx] using this
      · intro j hj; simp [World.frozen?, hx]
      · have := heap_setCells w.heap.size (wcells ws) 0 _ _ _ _ hx
        rw [setFrom_all _ _ (by rw [hms, wcells_len])] at this
        exact ⟨by rw [wcells_len], .inr ⟨_, ws.length, _, rfl, Nat.le_refl _, this, Nat.le_refl _, by unfold maxLen; omega, by simp [wcells_len], by simp [wcells_len, List.take_of_length_le]⟩⟩
      · exact below_setCells' (Nat.le_refl _) _ _ _ hB1
  obtain ⟨W2, hcp, hown, hB2⟩ := hcp
  have HO := Lib.hid hown
  have HB := Lib.hid hB2
  clear hown hB2 hx hB1 hW
  go_enter Tryz.func39, Tryz.ntmps39
  go_wp2
  go_ret
  exact ⟨_, rfl, HO.out, HB.out⟩
set_option maxHeartbeats 1000000 in
set_option maxRecDepth 100000 in
theorem Copy_turns (ws : List Turn) (hll : ws.length ≤ 1000000) (p : Option Addr) (c : Nat) (w : World) (hW : Tns w p ws) :
    Calls Tryz.prog 40 #[.slice p ws.length c] w (TnsPost ws w) := by
  obtain ⟨i0, hi0, hz0, hz1, hz2⟩ := info_parts A_infoTn
  have hmk := run_make (P := Tryz.prog) w 23 63 i0 (.agg #[.int .i64 0, .int .i64 0, .int .i64 0]) A_undTs hi0 hz0 .i64 .i64 ws.length ws.length (by omega) (by omega) (by rw [hz2]; omega) (by omega)
  rw [hz1, Int.toNat_natCast] at hmk
  obtain ⟨mc, hmc⟩ : ∃ mc, mc = madeCells (Value.agg #[.int .i64 0, .int .i64 0, .int .i64 0]).cells (ws.length * 3) := ⟨_, rfl⟩
  have hms : mc.size = ws.length * 3 := by rw [hmc, size_madeCells]
  rw [← hmc] at hmk
  clear hmc
  have hx := heap_last w (.cells mc 63)
  have hB1 := below1 w (.cells mc 63)
  generalize w.alloc (.cells mc 63) = W1 at hmk hx hB1
  have hcp : ∃ W2, (Builtin.copy_ #[23, 23] 3 #[.slice (some ⟨w.heap.size, 0, none⟩) ws.length ws.length, .slice p ws.length c]).run Tryz.prog W1 = .ok (goInt ws.length) W2 ∧ W2.ownsRow w.heap.size 63 3 (.slice (some ⟨w.heap.size, 0, none⟩) ws.length ws.length) ws.length (tcells ws) ∧ Below w.heap.size w W2 := by
    rcases hW with rfl | ⟨b, o, rfl, hb, hcs⟩
    · refine ⟨_, run_copy_none3 _ _ _ _ 63 _ _ _ _ _ _ A_undTs siz_Turn (by simp), ?_, hB1⟩
      exact ⟨rfl, .inr ⟨_, 0, mc, rfl, Nat.le_refl _, hx, Nat.le_refl _, by unfold maxLen; omega, by rw [hms]; rfl, by simp [tcells]⟩⟩
    · refine ⟨_, run_copy_cells3 _ _ _ _ 63 _ _ _ _ ws.length _ _ _ (tcells ws) A_undTs siz_Turn (Nat.min_self _).symm (tcells_len ws) ?_ ?_ ?_ tcells_one, ?_, ?_⟩
      · intro j v hv
        have := tns_src hcs j v hv
        have hadd : (⟨b, o, none⟩ : Addr).add j = ⟨b, o + j, none⟩ := by unfold Addr.add; split <;> simp_all
        rw [hadd] at this ⊢
        rw [hB1.cell (p := ⟨b, o + j, none⟩) hb]; exact this
      · intro j hj; rw [tcells_len] at hj
        have : (mc[0 + j]?).isSome = true := by rw [Array.getElem?_eq_getElem (by omega)]; rfl
        simpa [World.cell?, hx] using this
      · intro j hj; simp [World.frozen?, hx]
      · have := heap_setCells w.heap.size (tcells ws) 0 _ _ _ _ hx
        rw [setFrom_all _ _ (by rw [hms, tcells_len])] at this
        exact ⟨by rw [tcells_len], .inr ⟨_, ws.length, _, rfl, Nat.le_refl _, this, Nat.le_refl _, by unfold maxLen; omega, by simp [tcells_len], by simp [tcells_len, List.take_of_length_le]⟩⟩
      · exact below_setCells' (Nat.le_refl _) _ _ _ hB1
  obtain ⟨W2, hcp, hown, hB2⟩ := hcp
  have HO := Lib.hid hown
  have HB := Lib.hid hB2
  clear hown hB2 hx hB1 hW
  go_enter Tryz.func40, Tryz.ntmps40
  go_wp2
  go_ret
  exact ⟨_, rfl, HO.out, HB.out⟩
end Go.Proofs.YtadnggecnjdhiaaGreat
set_option linter.unusedSimpArgs false
set_option linter.unusedVariables false
namespace Go.Proofs.YtadnggecnjdhiaaGreat
open Go.RowKit Tx
attribute [local go_sem] Oper.semAt_some

theorem Equal_ints (p q : Option Addr) (c d : Nat) (xs ys : List Int) (w : World) (hx9 : xs.length ≤ 1000000) (hy9 : ys.length ≤ 1000000) (hx : Ints w p xs) (hy : Ints w q ys) :
    Calls Tryz.prog 51 #[.slice p xs.length c, .slice q ys.length d] w fun e w' => e = .returned (.bool (decide (xs = ys))) ∧ Below w.heap.size w w' := by
  by_cases hl : xs.length = ys.length
  · rcases hx with rfl | ⟨b, o, rfl, hb, hc⟩
    · refine (Tryz.slices_Equal_int_empty p q c ys.length d w (by omega)).mono ?_
      rintro e w' ⟨rfl, rfl⟩
      refine ⟨?_, Below.refl _ _⟩
      cases ys with
      | nil => rfl
      | cons y ys => simp at hl
    · rcases hy with rfl | ⟨b2, o2, rfl, hb2, hc2⟩
      · have : xs = [] := by cases xs with
          | nil => rfl
          | cons y ys => simp at hl
        subst this
        refine (Tryz.slices_Equal_int_empty _ q c _ d w (by simp)).mono ?_
        rintro e w' ⟨rfl, rfl⟩
        exact ⟨rfl, Below.refl _ _⟩
      · refine (Tryz.slices_Equal_int b o xs.length c b2 o2 ys.length d xs ys w (Nat.le_refl _) (Nat.le_refl _) (by omega) (by omega) hc hc2).mono ?_
        rintro e w' ⟨rfl, n, rfl⟩
        refine ⟨?_, below_drewN' (Below.refl _ _) n⟩
        rw [List.take_length, List.take_length]
        by_cases h : xs = ys
        · subst h; simp
        · simp [h]
  · refine (Tryz.slices_Equal_int_lens p q xs.length c ys.length d w hl).mono ?_
    rintro e w' ⟨rfl, rfl⟩
    refine ⟨?_, Below.refl _ _⟩
    rw [decide_eq_false (fun h => hl (by rw [h]))]

set_option maxHeartbeats 1000000 in
theorem Like_ints (p q : Option Addr) (c d : Nat) (xs ys : List Int) (bq : Bool) (hq : decide (xs = ys) = bq) (w : World) (hx9 : xs.length ≤ 1000000) (hy9 : ys.length ≤ 1000000) (hx : Ints w p xs) (hy : Ints w q ys) :
    Calls Tryz.prog 20 #[.slice p xs.length c, .slice q ys.length d] w fun e w' => e = .returned (.bool bq) ∧ Below w.heap.size w w' := by
  have HE := Lib.hid (Equal_ints p q c d xs ys w hx9 hy9 hx hy)
  rw [hq] at HE
  clear hq hx hy
  go_enter Tryz.func20, Tryz.ntmps20
  go_wp2_with fail
  refine HE.out.mono ?_
  rintro e w1 ⟨rfl, hB⟩
  have HB := Lib.hid hB
  clear hB
  go_wp2
  go_ret
  exact ⟨rfl, HB.out⟩

theorem word_any (x : Int) (b : Bool) (w : World) :
    Calls Tryz.prog 32 #[.int .i64 x, .bool b] w fun e w' => e = .returned (.agg #[.int .i64 1, .int .i64 x, .bool b]) ∧ Below w.heap.size w w' := by
  go_enter Tryz.func32, Tryz.ntmps32
  go_wp2
  have hx := heap_last w (.cells #[.int .i64 1, .int .i64 x, .bool b] 61)
  have c0 := blk_cells hx 0 _ rfl
  have c1 := blk_cells hx 1 _ rfl
  have c2 := blk_cells hx 2 _ rfl
  exact bodyPost_ret (v := .agg #[.int .i64 1, .int .i64 x, .bool b]) (by simp [results, Tryz.results32, go_sem, c0, c1, c2]) rfl ⟨rfl, below1 _ _⟩
def gateT (last : Int) : Text := { words := [⟨1, 0, false⟩, ⟨1, 4, true⟩, ⟨1, 0, false⟩, ⟨1, 3, true⟩, ⟨1, 3, false⟩, ⟨1, 3, true⟩, ⟨1, 0, false⟩, ⟨1, 2, true⟩], turns := [⟨3, 4, last⟩], breath := 5 }
theorem wds_gate (W : World) (o : World) (T : TypeId) (h : Below (W.heap.size + 1) (W.alloc (.cells #[.int .i64 1, .int .i64 0, .bool false, .int .i64 1, .int .i64 4, .bool true, .int .i64 1, .int .i64 0, .bool false, .int .i64 1, .int .i64 3, .bool true, .int .i64 1, .int .i64 3, .bool false, .int .i64 1, .int .i64 3, .bool true, .int .i64 1, .int .i64 0, .bool false, .int .i64 1, .int .i64 2, .bool true] T)) o) (last : Int) :
    Wds o (some ⟨W.heap.size, 0, none⟩) (gateT last).words := by
  have hx := (h.block W.heap.size (by omega)).trans (heap_last W _)
  refine .inr ⟨_, _, rfl, by have := h.size; simp at this; omega, fun i hi => ?_⟩
  have hi8 : i < 8 := hi
  have : i = 0 ∨ i = 1 ∨ i = 2 ∨ i = 3 ∨ i = 4 ∨ i = 5 ∨ i = 6 ∨ i = 7 := by omega
  rcases this with rfl | rfl | rfl | rfl | rfl | rfl | rfl | rfl <;> exact ⟨blk_cells hx _ _ rfl, blk_cells hx _ _ rfl, blk_cells hx _ _ rfl⟩
theorem tns_gate (W : World) (o : World) (T : TypeId) (last : Int) (h : Below (W.heap.size + 1) (W.alloc (.cells #[.int .i64 3, .int .i64 4, .int .i64 last] T)) o) :
    Tns o (some ⟨W.heap.size, 0, none⟩) (gateT last).turns := by
  have hx := (h.block W.heap.size (by omega)).trans (heap_last W _)
  refine .inr ⟨_, _, rfl, by have := h.size; simp at this; omega, fun i hi => ?_⟩
  have hi8 : i < 1 := hi
  obtain rfl : i = 0 := by omega
  exact ⟨blk_cells hx _ _ rfl, blk_cells hx _ _ rfl, blk_cells hx _ _ rfl⟩
set_option maxHeartbeats 1000000 in
theorem Gate_any (last : Int) (w : World) :
    Calls Tryz.prog 22 #[.int .i64 last] w fun e w' => ∃ g u, e = .returned (.agg #[.slice (some ⟨g, 0, none⟩) 8 8, .slice (some ⟨u, 0, none⟩) 1 1, .int .i64 5]) ∧ TxAt w' (gateT last) (some ⟨g, 0, none⟩) (some ⟨u, 0, none⟩) ∧ Below w.heap.size w w' := by
  have HWD := Lib.hid (fun (x : Int) (b : Bool) (W : World) (h : Below (w.heap.size + 1) (w.alloc (.cells #[.slice none 0 0, .slice none 0 0, .int .i64 0] 25)) W) => (word_any x b W).mono (R' := fun e w' => e = .returned (.agg #[.int .i64 1, .int .i64 x, .bool b]) ∧ Below (w.heap.size + 1) (w.alloc (.cells #[.slice none 0 0, .slice none 0 0, .int .i64 0] 25)) w') (fun e w' he => ⟨he.1, h.trans (he.2.mono (by have := h.size; simp at this; omega))⟩))
  have HB := Lib.hid (Below.refl (w.heap.size + 1) (w.alloc (.cells #[.slice none 0 0, .slice none 0 0, .int .i64 0] 25)))
  have hw0 := heap_last w (.cells #[.slice none 0 0, .slice none 0 0, .int .i64 0] 25)
  have HW0 := Lib.hid hw0
  clear hw0
  go_enter Tryz.func22, Tryz.ntmps22
  go_wp2_with fail
  refine (HWD.out _ _ _ HB.out).mono ?_
  clear HB
  rintro e wx ⟨rfl, hBx⟩
  have HB := Lib.hid hBx
  clear hBx
  go_wp2_with fail
  refine (HWD.out _ _ _ HB.out).mono ?_
  clear HB
  rintro e wx ⟨rfl, hBx⟩
  have HB := Lib.hid hBx
  clear hBx
  go_wp2_with fail
  refine (HWD.out _ _ _ HB.out).mono ?_
  clear HB
  rintro e wx ⟨rfl, hBx⟩
  have HB := Lib.hid hBx
  clear hBx
  go_wp2_with fail
  refine (HWD.out _ _ _ HB.out).mono ?_
  clear HB
  rintro e wx ⟨rfl, hBx⟩
  have HB := Lib.hid hBx
  clear hBx
  go_wp2_with fail
  refine (HWD.out _ _ _ HB.out).mono ?_
  clear HB
  rintro e wx ⟨rfl, hBx⟩
  have HB := Lib.hid hBx
  clear hBx
  go_wp2_with fail
  refine (HWD.out _ _ _ HB.out).mono ?_
  clear HB
  rintro e wx ⟨rfl, hBx⟩
  have HB := Lib.hid hBx
  clear hBx
  go_wp2_with fail
  refine (HWD.out _ _ _ HB.out).mono ?_
  clear HB
  rintro e wx ⟨rfl, hBx⟩
  have HB := Lib.hid hBx
  clear hBx
  go_wp2_with fail
  refine (HWD.out _ _ _ HB.out).mono ?_
  clear HB
  rintro e wx ⟨rfl, hBx⟩
  have HB := Lib.hid hBx
  clear hBx
  have hx := (HB.out.block w.heap.size (by omega)).trans HW0.out
  have hlt : w.heap.size < wx.heap.size := (Array.getElem?_eq_some_iff.1 hx).1
  have k0 := blk_cells hx 0 _ rfl
  have k1 := blk_cells hx 1 _ rfl
  have k2 := blk_cells hx 2 _ rfl
  have z : ∀ i, wx.frozen? ⟨w.heap.size, i, none⟩ = false := fun i => by simp [World.frozen?, hx]
  have HX := Lib.hid hx
  clear hx
  go_wp2
  obtain ⟨W1, hW1⟩ : ∃ W1, W1 = ((wx.setCell ⟨w.heap.size, 0, none⟩ (.slice (some ⟨wx.heap.size, 0, none⟩) 8 8)).setCell ⟨w.heap.size, 1, none⟩ (.slice (some ⟨wx.heap.size + 1, 0, none⟩) 1 1)).setCell ⟨w.heap.size, 2, none⟩ (.int .i64 5) := ⟨_, rfl⟩
  rw [← hW1]
  have hsz : W1.heap.size = wx.heap.size := by rw [hW1]; simp
  have hx1 : W1.heap[w.heap.size]? = some (.cells #[.slice (some ⟨wx.heap.size, 0, none⟩) 8 8, .slice (some ⟨wx.heap.size + 1, 0, none⟩) 1 1, .int .i64 5] 25 (0, 0)) := by
    rw [hW1]; exact heap_set_same _ (heap_set_same _ (heap_set_same _ HX.out))
  have hb1 : Below w.heap.size w W1 := by
    rw [hW1]
    exact (((join (below1 w _) (HB.out.mono (by simp))).setCell (p := ⟨w.heap.size, 0, none⟩) (Nat.le_refl _) _).setCell (p := ⟨w.heap.size, 1, none⟩) (Nat.le_refl _) _).setCell (p := ⟨w.heap.size, 2, none⟩) (Nat.le_refl _) _
  clear hW1
  generalize hA : Obj.cells #[Value.int IntKind.i64 1, Value.int IntKind.i64 0, Value.bool false, Value.int IntKind.i64 1, Value.int IntKind.i64 4, Value.bool true, Value.int IntKind.i64 1, Value.int IntKind.i64 0, Value.bool false, Value.int IntKind.i64 1, Value.int IntKind.i64 3, Value.bool true, Value.int IntKind.i64 1, Value.int IntKind.i64 3, Value.bool false, Value.int IntKind.i64 1, Value.int IntKind.i64 3, Value.bool true, Value.int IntKind.i64 1, Value.int IntKind.i64 0, Value.bool false, Value.int IntKind.i64 1, Value.int IntKind.i64 2, Value.bool true] 61 = OA
  generalize hO : Obj.cells #[Value.int IntKind.i64 3, Value.int IntKind.i64 4, Value.int IntKind.i64 last] 63 = OB
  have hw : Wds ((W1.alloc OA).alloc OB) (some ⟨wx.heap.size, 0, none⟩) (gateT last).words := by
    have := wds_gate W1 ((W1.alloc OA).alloc OB) 61 (by rw [hA]; exact (Below.refl _ _).alloc (by simp) _) last
    rwa [hsz] at this
  have ht : Tns ((W1.alloc OA).alloc OB) (some ⟨wx.heap.size + 1, 0, none⟩) (gateT last).turns := by
    have := tns_gate (W1.alloc OA) ((W1.alloc OA).alloc OB) 63 last (by rw [hO]; exact Below.refl _ _)
    rwa [World.size_alloc, hsz] at this
  have hx3 : ((W1.alloc OA).alloc OB).heap[w.heap.size]? = some (.cells #[.slice (some ⟨wx.heap.size, 0, none⟩) 8 8, .slice (some ⟨wx.heap.size + 1, 0, none⟩) 1 1, .int .i64 5] 25 (0, 0)) := by
    rw [Below.heap_alloc _ _ _ (by simp; omega), Below.heap_alloc _ _ _ (by omega)]; exact hx1
  have c0 := blk_cells hx3 0 _ rfl
  have c1 := blk_cells hx3 1 _ rfl
  have c2 := blk_cells hx3 2 _ rfl
  exact bodyPost_ret (v := .agg #[.slice (some ⟨wx.heap.size, 0, none⟩) 8 8, .slice (some ⟨wx.heap.size + 1, 0, none⟩) 1 1, .int .i64 5]) (by simp [results, Tryz.results22, go_sem, c0, c1, c2]) rfl ⟨_, _, rfl, ⟨hw, ht⟩, (hb1.alloc (by omega) _).alloc (by simp; omega) _⟩
end Go.Proofs.YtadnggecnjdhiaaGreat
set_option linter.unusedSimpArgs false
set_option linter.unusedVariables false
namespace Go.Proofs.YtadnggecnjdhiaaGreat
open Go.RowKit Tx
attribute [local go_sem] Oper.semAt_some

def eqW (xs ys : List Word) (k : Nat) : Prop := ∀ j, j < k → xs.getD j default = ys.getD j default
def eqT (xs ys : List Turn) (k : Nat) : Prop := ∀ j, j < k → xs.getD j default = ys.getD j default
set_option maxHeartbeats 2000000 in
set_option maxRecDepth 100000 in
theorem Equal_words (p q : Option Addr) (c d : Nat) (xs : List Word) (w : World) (hx9 : xs.length ≤ 1000000) (hx : Wds w p xs) (hy : Wds w q xs) :
    Calls Tryz.prog 101 #[.slice p xs.length c, .slice q xs.length d] w fun e w' => e = .returned (.bool true) ∧ Below w.heap.size w w' := by
  have HX := Lib.hid hx
  have HY := Lib.hid hy
  have hle : ((xs.length : Int) != (xs.length : Int)) = false := by simp
  clear hx hy
  go_enter Tryz.func101, Tryz.ntmps101
  go_wp2
  go_loopg [13] xs.length (fun g i wi => ∃ k : Nat, g + k = xs.length ∧ i = .int .i64 k ∧ Below w.heap.size w wi)
  case atStart => exact ⟨0, by omega, rfl, Below.refl _ _⟩
  case round =>
    obtain ⟨k, hk, rfl, hB⟩ := hrel
    have HB := Lib.hid hB
    by_cases hlt : k < xs.length
    · have hlt' : (k : Int) < xs.length := by omega
      obtain ⟨b, o, x, rfl, hb, hxx, c1, c2, c3⟩ := (HX.out.below hB).at hlt
      obtain ⟨b2, o2, y, rfl, hb2, hyy, d1, d2, d3⟩ := (HY.out.below hB).at hlt
      have hxy : y = x := by rw [hyy, hxx]
      subst hxy
      clear hxx hyy hB
      obtain ⟨ya, yb, yc⟩ := y
      dsimp only at c1 c2 c3 d1 d2 d3
      go_wp2
      go_quiet (fail)
      go_wp2
      go_roundg (gk - 1)
      case rel => exact ⟨k + 1, by omega, by simp, below_drewN' HB.out _⟩
      case measure => omega
    · have hkk : k = xs.length := by omega
      subst hkk
      clear hB
      go_wp2
      go_ret
      exact ⟨rfl, HB.out⟩
set_option maxHeartbeats 2000000 in
set_option maxRecDepth 100000 in
theorem Equal_turns (p q : Option Addr) (c d : Nat) (xs : List Turn) (w : World) (hx9 : xs.length ≤ 1000000) (hx : Tns w p xs) (hy : Tns w q xs) :
    Calls Tryz.prog 102 #[.slice p xs.length c, .slice q xs.length d] w fun e w' => e = .returned (.bool true) ∧ Below w.heap.size w w' := by
  have HX := Lib.hid hx
  have HY := Lib.hid hy
  have hle : ((xs.length : Int) != (xs.length : Int)) = false := by simp
  clear hx hy
  go_enter Tryz.func102, Tryz.ntmps102
  go_wp2
  go_loopg [13] xs.length (fun g i wi => ∃ k : Nat, g + k = xs.length ∧ i = .int .i64 k ∧ Below w.heap.size w wi)
  case atStart => exact ⟨0, by omega, rfl, Below.refl _ _⟩
  case round =>
    obtain ⟨k, hk, rfl, hB⟩ := hrel
    have HB := Lib.hid hB
    by_cases hlt : k < xs.length
    · have hlt' : (k : Int) < xs.length := by omega
      obtain ⟨b, o, x, rfl, hb, hxx, c1, c2, c3⟩ := (HX.out.below hB).at hlt
      obtain ⟨b2, o2, y, rfl, hb2, hyy, d1, d2, d3⟩ := (HY.out.below hB).at hlt
      have hxy : y = x := by rw [hyy, hxx]
      subst hxy
      clear hxx hyy hB
      obtain ⟨ya, yb, yc⟩ := y
      dsimp only at c1 c2 c3 d1 d2 d3
      go_wp2
      go_quiet (fail)
      go_wp2
      go_roundg (gk - 1)
      case rel => exact ⟨k + 1, by omega, by simp, below_drewN' HB.out _⟩
      case measure => omega
    · have hkk : k = xs.length := by omega
      subst hkk
      clear hB
      go_wp2
      go_ret
      exact ⟨rfl, HB.out⟩
set_option maxHeartbeats 1000000 in
theorem Like_words (p q : Option Addr) (c d : Nat) (xs : List Word) (w : World) (hx9 : xs.length ≤ 1000000) (hx : Wds w p xs) (hy : Wds w q xs) :
    Calls Tryz.prog 52 #[.slice p xs.length c, .slice q xs.length d] w fun e w' => e = .returned (.bool true) ∧ Below w.heap.size w w' := by
  have HE := Lib.hid (Equal_words p q c d xs w hx9 hx hy)
  clear hx hy
  go_enter Tryz.func52, Tryz.ntmps52
  go_wp2_with fail
  refine HE.out.mono ?_
  rintro e w1 ⟨rfl, hB⟩
  have HB := Lib.hid hB
  clear hB
  go_wp2
  go_ret
  exact ⟨rfl, HB.out⟩
set_option maxHeartbeats 1000000 in
theorem Like_turns (p q : Option Addr) (c d : Nat) (xs : List Turn) (w : World) (hx9 : xs.length ≤ 1000000) (hx : Tns w p xs) (hy : Tns w q xs) :
    Calls Tryz.prog 53 #[.slice p xs.length c, .slice q xs.length d] w fun e w' => e = .returned (.bool true) ∧ Below w.heap.size w w' := by
  have HE := Lib.hid (Equal_turns p q c d xs w hx9 hx hy)
  clear hx hy
  go_enter Tryz.func53, Tryz.ntmps53
  go_wp2_with fail
  refine HE.out.mono ?_
  rintro e w1 ⟨rfl, hB⟩
  have HB := Lib.hid hB
  clear hB
  go_wp2
  go_ret
  exact ⟨rfl, HB.out⟩
set_option maxHeartbeats 2000000 in
set_option maxRecDepth 100000 in
/-- two texts that have the same -/
theorem same_yes (t : Text) (hl1 : t.words.length ≤ 1000000) (hl2 : t.turns.length ≤ 1000000) (pw pt qw qt : Option Addr) (cw ct dw dt : Nat) (w : World) (h1 : TxAt w t pw pt) (h2 : TxAt w t qw qt) :
    Calls Tryz.prog 21 #[.agg #[.slice pw t.words.length cw, .slice pt t.turns.length ct, .int .i64 t.breath], .agg #[.slice qw t.words.length dw, .slice qt t.turns.length dt, .int .i64 t.breath]] w fun e w' => e = .returned (.bool true) ∧ Below w.heap.size w w' := by
  have H1 := Lib.hid h1
  have H2 := Lib.hid h2
  have HB1 := below1 w (.cells #[.slice pw t.words.length cw, .slice pt t.turns.length ct, .int .i64 t.breath] 25)
  have HBx := Lib.hid (join HB1 (below1 _ (.cells #[.slice qw t.words.length dw, .slice qt t.turns.length dt, .int .i64 t.breath] 25)))
  have hx0 := (below1 (w.alloc (.cells #[.slice pw t.words.length cw, .slice pt t.turns.length ct, .int .i64 t.breath] 25)) (.cells #[.slice qw t.words.length dw, .slice qt t.turns.length dt, .int .i64 t.breath] 25)).block w.heap.size (by simp)
  have HX0 := Lib.hid (hx0.trans (heap_last w _))
  have hx1 := heap_last (w.alloc (.cells #[.slice pw t.words.length cw, .slice pt t.turns.length ct, .int .i64 t.breath] 25)) (.cells #[.slice qw t.words.length dw, .slice qt t.turns.length dt, .int .i64 t.breath] 25)
  have HX1 : Hid (((w.alloc (.cells #[.slice pw t.words.length cw, .slice pt t.turns.length ct, .int .i64 t.breath] 25)).alloc (.cells #[.slice qw t.words.length dw, .slice qt t.turns.length dt, .int .i64 t.breath] 25)).heap[w.heap.size + 1]? = some (.cells #[.slice qw t.words.length dw, .slice qt t.turns.length dt, .int .i64 t.breath] 25 (0, 0))) := Lib.hid (by simpa using hx1)
  clear h1 h2 HB1 hx0 hx1
  go_enter Tryz.func21, Tryz.ntmps21
  go_wp2_with fail
  refine (Like_words _ _ _ _ t.words _ hl1 (H1.out.words.below HBx.out) (H2.out.words.below HBx.out)).mono ?_
  rintro e w1 ⟨rfl, hB⟩
  generalize (w.alloc (.cells #[.slice pw t.words.length cw, .slice pt t.turns.length ct, .int .i64 t.breath] 25)).alloc (.cells #[.slice qw t.words.length dw, .slice qt t.turns.length dt, .int .i64 t.breath] 25) = W1 at HBx HX0 HX1 hB
  have HX0 := Lib.hid ((hB.block w.heap.size (Array.getElem?_eq_some_iff.1 HX0.out).1).trans HX0.out)
  have HX1 := Lib.hid ((hB.block (w.heap.size + 1) (Array.getElem?_eq_some_iff.1 HX1.out).1).trans HX1.out)
  have HBx := Lib.hid (join HBx.out hB)
  obtain ⟨k0, k1, k2⟩ := blk3 HX0.out
  obtain ⟨k3, k4, k5⟩ := blk3 HX1.out
  clear hB
  go_wp2_with fail
  refine (Like_turns _ _ _ _ t.turns _ hl2 (H1.out.turns.below HBx.out) (H2.out.turns.below HBx.out)).mono ?_
  rintro e w2 ⟨rfl, hB⟩
  have HX0 := Lib.hid ((hB.block w.heap.size (Array.getElem?_eq_some_iff.1 HX0.out).1).trans HX0.out)
  have HX1 := Lib.hid ((hB.block (w.heap.size + 1) (Array.getElem?_eq_some_iff.1 HX1.out).1).trans HX1.out)
  have HBx := Lib.hid (join HBx.out hB)
  clear k0 k1 k2 k3 k4 k5
  obtain ⟨k0, k1, k2⟩ := blk3 HX0.out
  obtain ⟨k3, k4, k5⟩ := blk3 HX1.out
  clear hB
  go_wp2
  go_ret
  exact ⟨ret_bool (by simp), HBx.out⟩
end Go.Proofs.YtadnggecnjdhiaaGreat
set_option linter.unusedSimpArgs false
set_option linter.unusedVariables false
namespace Go.Proofs.YtadnggecnjdhiaaGreat
open Go.RowKit Tx
attribute [local go_sem] Oper.semAt_some

theorem own_setC {w : World} {base R o : Nat} {e : TypeId} {size : Nat} {v u : Value} {n : Nat} {xs : List Value} (h : w.ownsRow base e size v n xs) (hR : R < base) : (w.setCell ⟨R, o, none⟩ u).ownsRow base e size v n xs := by
  refine h.kept (grown_set w R o u) ?_
  rcases h.2 with ⟨h1, _⟩ | ⟨g, cap, cur, h1, hb', _⟩
  · exact .inl (by rw [h1]; rfl)
  · right; rw [h1]; show some g ≠ some R; intro e; injection e; omega
/-- what the laws' Copy leaves -/
def CopyPost (t : Text) (w : World) (e : Ending) (w' : World) : Prop := ∃ g h, e = .returned (.agg #[.slice (some ⟨g, 0, none⟩) t.words.length t.words.length, .slice (some ⟨h, 0, none⟩) t.turns.length t.turns.length, .int .i64 t.breath]) ∧
  w'.ownsRow w.heap.size 61 3 (.slice (some ⟨g, 0, none⟩) t.words.length t.words.length) t.words.length (wcells t.words) ∧ w'.ownsRow w.heap.size 63 3 (.slice (some ⟨h, 0, none⟩) t.turns.length t.turns.length) t.turns.length (tcells t.turns) ∧ Below w.heap.size w w'
def spCy (t : Text) (pw pt : Option Addr) (cw ct A B : Nat) : Nat → List Value → Value → World → Prop
  | 0, _, v, _ => v = .pointer (some ⟨A, 0, none⟩)
  | 1, _, v, _ => v = .slice pw t.words.length cw
  | 2, L, v, w => ∃ g, v = .slice (some ⟨g, 0, none⟩) t.words.length t.words.length ∧ w.ownsRow B 61 3 (.slice (some ⟨g, 0, none⟩) t.words.length t.words.length) t.words.length (wcells t.words)
  | 3, _, v, _ => v = .pointer (some ⟨A, 1, none⟩)
  | 4, _, v, _ => v = .slice pt t.turns.length ct
  | 5, L, v, w => ∃ h, v = .slice (some ⟨h, 0, none⟩) t.turns.length t.turns.length ∧ w.ownsRow B 63 3 (.slice (some ⟨h, 0, none⟩) t.turns.length t.turns.length) t.turns.length (tcells t.turns)
  | 6, _, v, _ => v = .pointer (some ⟨A, 2, none⟩)
  | 7, _, v, _ => v = .int .i64 t.breath
  | 8, L, v, w => ∃ g h, v = .agg #[.slice (some ⟨g, 0, none⟩) t.words.length t.words.length, .slice (some ⟨h, 0, none⟩) t.turns.length t.turns.length, .int .i64 t.breath] ∧ w.ownsRow B 61 3 (.slice (some ⟨g, 0, none⟩) t.words.length t.words.length) t.words.length (wcells t.words) ∧ w.ownsRow B 63 3 (.slice (some ⟨h, 0, none⟩) t.turns.length t.turns.length) t.turns.length (tcells t.turns)
  | _, _, _, _ => False
theorem spCy_stable (t : Text) (pw pt : Option Addr) (cw ct A B : Nat) : ∀ i L v w w', spCy t pw pt cw ct A B i L v w → Rs.Gr w w' → spCy t pw pt cw ct A B i L v w' := by
  intro i L v w w' h hg
  match i with
  | 0 => exact h
  | 1 => exact h
  | 2 => obtain ⟨g, h1, h2⟩ := h; exact ⟨g, h1, own_below h2 hg⟩
  | 3 => exact h
  | 4 => exact h
  | 5 => obtain ⟨g, h1, h2⟩ := h; exact ⟨g, h1, own_below h2 hg⟩
  | 6 => exact h
  | 7 => exact h
  | 8 => obtain ⟨g, k, h1, h2, h3⟩ := h; exact ⟨g, k, h1, own_below h2 hg, own_below h3 hg⟩

set_option maxHeartbeats 1600000 in
set_option maxRecDepth 100000 in
theorem lCopy_any (t : Text) (hl1 : t.words.length ≤ 1000000) (hl2 : t.turns.length ≤ 1000000) (pw pt : Option Addr) (cw ct : Nat) (w : World) (hW : TxAt w t pw pt) :
    Calls Tryz.prog 7 #[.agg #[.slice pw t.words.length cw, .slice pt t.turns.length ct, .int .i64 t.breath]] w (CopyPost t w) := by
  have HT := Lib.hid hW
  have HB1 := below1 w (.cells #[.slice pw t.words.length cw, .slice pt t.turns.length ct, .int .i64 t.breath] 25)
  have HX := Lib.hid (((below1 (w.alloc (.cells #[.slice pw t.words.length cw, .slice pt t.turns.length ct, .int .i64 t.breath] 25)) (.cells #[.slice none 0 0, .slice none 0 0, .int .i64 0] 25)).block w.heap.size (by simp)).trans (heap_last w _))
  have hy := heap_last (w.alloc (.cells #[.slice pw t.words.length cw, .slice pt t.turns.length ct, .int .i64 t.breath] 25)) (.cells #[.slice none 0 0, .slice none 0 0, .int .i64 0] 25)
  rw [World.size_alloc] at hy
  have HY := Lib.hid hy
  have HB := Lib.hid (join HB1 (below1 _ (.cells #[.slice none 0 0, .slice none 0 0, .int .i64 0] 25)))
  have hz1 : ((w.alloc (.cells #[.slice pw t.words.length cw, .slice pt t.turns.length ct, .int .i64 t.breath] 25)).alloc (.cells #[.slice none 0 0, .slice none 0 0, .int .i64 0] 25)).heap.size = w.heap.size + 2 := by simp
  clear hW hy HB1
  go_enter Tryz.func7, Tryz.ntmps7
  go_wp2_with fail
  generalize (w.alloc (.cells #[.slice pw t.words.length cw, .slice pt t.turns.length ct, .int .i64 t.breath] 25)).alloc (.cells #[.slice none 0 0, .slice none 0 0, .int .i64 0] 25) = W1 at HB HX HY hz1 ⊢
  have HZ0 : w.heap.size < W1.heap.size := by omega
  refine Rs.region_gen 9 [[], [0], [0, 1], [], [3], [0, 1, 2, 3, 4], [], [6], [0, 1, 2, 3, 4, 5, 6, 7]] [some 3, some 4, some 5, some 6, some 7, some 8, some 9, some 10, some 11] (spCy t pw pt cw ct w.heap.size W1.heap.size) (by kernel_rfl) (by kernel_rfl) rfl (spCy_stable _ _ _ _ _ _ _) ?_ ?_
  · refine ⟨fun V w' hG hs => ?_, fun V w' hG hs => ?_, fun V w' hG hs => ?_, fun V w' hG hs => ?_, fun V w' hG hs => ?_, fun V w' hG hs => ?_, fun V w' hG hs => ?_, fun V w' hG hs => ?_, fun V w' hG hs => ?_, trivial⟩
    all_goals
      obtain ⟨k0, k1, k2⟩ := blk3 ((hG.block w.heap.size HZ0).trans HX.out)
    · rw [if_pos (by rfl)]
      exact Rs.GrowL.value (v := .pointer (some ⟨w.heap.size, 0, none⟩)) (w' := w') (by simp [go_sem, Rs.look]) (Rs.Gr.refl _) rfl
    · have e0 : V 0 = .pointer (some ⟨w.heap.size, 0, none⟩) := hs 0 (by simp)
      rw [if_pos (by rfl)]
      exact Rs.GrowL.value (v := .slice pw t.words.length cw) (w' := w') (by simp [go_sem, Rs.look, e0, k0]) (Rs.Gr.refl _) rfl
    · have e0 : V 0 = .pointer (some ⟨w.heap.size, 0, none⟩) := hs 0 (by simp)
      have e1 : V 1 = .slice pw t.words.length cw := hs 1 (by simp)
      rw [if_pos (by rfl)]
      refine Rs.GrowL.call (f := 39) (args := #[.slice pw t.words.length cw]) (by simp [go_sem, Rs.look, e1]) ?_
      refine (Copy_words t.words hl1 pw cw w' (HT.out.words.below (join HB.out hG))).mono ?_
      rintro e w2 ⟨g, rfl, ho, hB2⟩
      exact ⟨_, rfl, hB2, g, rfl, own_base ho hG.size⟩
    · rw [if_pos (by rfl)]
      exact Rs.GrowL.value (v := .pointer (some ⟨w.heap.size, 1, none⟩)) (w' := w') (by simp [go_sem, Rs.look]) (Rs.Gr.refl _) rfl
    · have e3 : V 3 = .pointer (some ⟨w.heap.size, 1, none⟩) := hs 3 (by simp)
      rw [if_pos (by rfl)]
      exact Rs.GrowL.value (v := .slice pt t.turns.length ct) (w' := w') (by simp [go_sem, Rs.look, e3, k1]) (Rs.Gr.refl _) rfl
    · have e0 : V 0 = .pointer (some ⟨w.heap.size, 0, none⟩) := hs 0 (by simp)
      have e1 : V 1 = .slice pw t.words.length cw := hs 1 (by simp)
      have r2 := hs 2 (by simp)
      have e3 : V 3 = .pointer (some ⟨w.heap.size, 1, none⟩) := hs 3 (by simp)
      have e4 : V 4 = .slice pt t.turns.length ct := hs 4 (by simp)
      rw [if_pos (by rfl)]
      refine Rs.GrowL.call (f := 40) (args := #[.slice pt t.turns.length ct]) (by simp [go_sem, Rs.look, e4]) ?_
      refine (Copy_turns t.turns hl2 pt ct w' (HT.out.turns.below (join HB.out hG))).mono ?_
      rintro e w2 ⟨g, rfl, ho, hB2⟩
      exact ⟨_, rfl, hB2, g, rfl, own_base ho hG.size⟩
    · rw [if_pos (by rfl)]
      exact Rs.GrowL.value (v := .pointer (some ⟨w.heap.size, 2, none⟩)) (w' := w') (by simp [go_sem, Rs.look]) (Rs.Gr.refl _) rfl
    · have e6 : V 6 = .pointer (some ⟨w.heap.size, 2, none⟩) := hs 6 (by simp)
      rw [if_pos (by rfl)]
      exact Rs.GrowL.value (v := .int .i64 t.breath) (w' := w') (by simp [go_sem, Rs.look, e6, k2]) (Rs.Gr.refl _) rfl
    · have e0 : V 0 = .pointer (some ⟨w.heap.size, 0, none⟩) := hs 0 (by simp)
      have e1 : V 1 = .slice pw t.words.length cw := hs 1 (by simp)
      have r2 := hs 2 (by simp)
      have e3 : V 3 = .pointer (some ⟨w.heap.size, 1, none⟩) := hs 3 (by simp)
      have e4 : V 4 = .slice pt t.turns.length ct := hs 4 (by simp)
      have r5 := hs 5 (by simp)
      have e6 : V 6 = .pointer (some ⟨w.heap.size, 2, none⟩) := hs 6 (by simp)
      have e7 : V 7 = .int .i64 t.breath := hs 7 (by simp)
      rw [if_pos (by rfl)]
      obtain ⟨g, e2, o2⟩ := r2
      obtain ⟨h, e5, o5⟩ := r5
      exact Rs.GrowL.value (v := .agg #[.slice (some ⟨g, 0, none⟩) t.words.length t.words.length, .slice (some ⟨h, 0, none⟩) t.turns.length t.turns.length, .int .i64 t.breath]) (w' := w') (by simp [go_sem, Rs.look, e2, e5, e7]) (Rs.Gr.refl _) ⟨g, h, rfl, o2, o5⟩
  · intro V w' hG hs
    have e0 : V 0 = .pointer (some ⟨w.heap.size, 0, none⟩) := hs 0 (by omega)
    have e1 : V 1 = .slice pw t.words.length cw := hs 1 (by omega)
    have r2 := hs 2 (by omega)
    have e3 : V 3 = .pointer (some ⟨w.heap.size, 1, none⟩) := hs 3 (by omega)
    have e4 : V 4 = .slice pt t.turns.length ct := hs 4 (by omega)
    have r5 := hs 5 (by omega)
    have e6 : V 6 = .pointer (some ⟨w.heap.size, 2, none⟩) := hs 6 (by omega)
    have e7 : V 7 = .int .i64 t.breath := hs 7 (by omega)
    have r8 := hs 8 (by omega)
    obtain ⟨g, h, e8, o1, o2⟩ := r8
    simp only [Rs.canon, Rs.dstOf, List.range_succ, List.range_zero, List.nil_append, List.cons_append, List.foldl_cons, List.foldl_nil, List.drop_succ_cons, List.drop_zero, List.drop_nil, List.getElem?_toArray, List.getElem?_cons_succ, List.getElem?_cons_zero, Option.bind_some, Act.put, List.getD_cons_succ, List.getD_cons_zero, List.setIfInBounds_toArray, List.set_cons_succ, List.set_cons_zero]
    rw [e0, e1, e3, e4, e6, e7, e8]
    clear e0 e1 e3 e4 e6 e7 e8 r2 r5 hs
    have hy2 := (hG.block (w.heap.size + 1) (by omega)).trans HY.out
    obtain ⟨k0, k1, k2⟩ := blk3 hy2
    have z : ∀ i, w'.frozen? ⟨w.heap.size + 1, i, none⟩ = false := fun i => by simp [World.frozen?, hy2]
    have hz2 := hG.size
    have hq1 : w.heap.size + 1 < w'.heap.size := by omega
    have HY2 := Lib.hid hy2
    have HB2 := Lib.hid (join HB.out hG)
    have O1 := Lib.hid o1
    have O2 := Lib.hid o2
    clear hy2 o1 o2 hG hz2
    go_wp2
    obtain ⟨W3, hW3⟩ : ∃ W3, W3 = ((w'.setCell ⟨w.heap.size + 1, 0, none⟩ (.slice (some ⟨g, 0, none⟩) t.words.length t.words.length)).setCell ⟨w.heap.size + 1, 1, none⟩ (.slice (some ⟨h, 0, none⟩) t.turns.length t.turns.length)).setCell ⟨w.heap.size + 1, 2, none⟩ (.int .i64 t.breath) := ⟨_, rfl⟩
    rw [← hW3]
    have hx1 : W3.heap[w.heap.size + 1]? = some (.cells #[.slice (some ⟨g, 0, none⟩) t.words.length t.words.length, .slice (some ⟨h, 0, none⟩) t.turns.length t.turns.length, .int .i64 t.breath] 25 (0, 0)) := by
      rw [hW3]; exact heap_set_same _ (heap_set_same _ (heap_set_same _ HY2.out))
    have c0 := blk_cells hx1 0 _ rfl
    have c1 := blk_cells hx1 1 _ rfl
    have c2 := blk_cells hx1 2 _ rfl
    refine bodyPost_ret (v := .agg #[.slice (some ⟨g, 0, none⟩) t.words.length t.words.length, .slice (some ⟨h, 0, none⟩) t.turns.length t.turns.length, .int .i64 t.breath]) (by simp [results, Tryz.results7, go_sem, c0, c1, c2]) rfl ⟨g, h, rfl, ?_, ?_, ?_⟩
    · rw [hW3]; exact own_base (own_setC (own_setC (own_setC O1.out (by omega)) (by omega)) (by omega)) (by omega)
    · rw [hW3]; exact own_base (own_setC (own_setC (own_setC O2.out (by omega)) (by omega)) (by omega)) (by omega)
    · rw [hW3]; exact belS (belS (belS HB2.out (by omega)) (by omega)) (by omega)
end Go.Proofs.YtadnggecnjdhiaaGreat
set_option linter.unusedSimpArgs false
set_option linter.unusedVariables false
namespace Go.Proofs.YtadnggecnjdhiaaGreat
open Go.RowKit Tx
attribute [local go_sem] Oper.semAt_some

theorem A_infoRW : (Tryz.prog.info? 80).map (fun i => (i.zero, i.size, i.bytes)) = some (some (.agg #[.int .i64 0, .int .i64 0, .bool false]), 3, 24) := by kernel_rfl
theorem A_infoRT : (Tryz.prog.info? 81).map (fun i => (i.zero, i.size, i.bytes)) = some (some (.agg #[.int .i64 0, .int .i64 0, .int .i64 0]), 3, 24) := by kernel_rfl
theorem A_undRW : Tryz.prog.underlying 29 = some (.slice 80) := by kernel_rfl
theorem A_undRT : Tryz.prog.underlying 30 = some (.slice 81) := by kernel_rfl
theorem own_other {w w' : World} {base base2 : Nat} {e e2 : TypeId} {size size2 : Nat} {v v2 : Value} {n n2 : Nat} {xs xs2 : List Value} (h : w.ownsRow base e size v n xs) (h2 : w.ownsRow base2 e2 size2 v2 n2 xs2) (he : e ≠ e2) (hg : w.grownBy w' v2.ownBlock) : w'.ownsRow base e size v n xs := by
  refine h.kept hg ?_
  rcases h.2 with ⟨h1, _⟩ | ⟨g, cap, cur, h1, hb, hgx, _⟩
  · exact .inl (by rw [h1]; rfl)
  · right
    rw [h1]
    rcases h2.2 with ⟨h3, _⟩ | ⟨g2, cap2, cur2, h3, hb2, hg2, _⟩
    · rw [h3]; show some g ≠ none; simp
    · rw [h3]; show some g ≠ some g2
      intro e; injection e with e; subst e
      rw [hgx] at hg2; injection hg2 with h; injection h with _ h; exact he h
theorem own_val {w : World} {base : Nat} {e : TypeId} {size : Nat} {v : Value} {n : Nat} {xs : List Value} (h : w.ownsRow base e size v n xs) : ∃ p c, v = .slice p n c := by
  rcases h.2 with ⟨rfl, hn⟩ | ⟨g, cap, cur, rfl, _⟩
  · exact ⟨none, 0, by rw [hn]⟩
  · exact ⟨_, cap, rfl⟩
theorem cell3_new (w : World) (a b c : Value) (T : TypeId) : ∀ (j : Nat) (u : Value), [a, b, c][j]? = some u → (w.alloc (.cells #[a, b, c] T)).cell? ((⟨w.heap.size, 0, none⟩ : Addr).add j) = some u := by
  intro j u hj
  have hadd : (⟨w.heap.size, 0, none⟩ : Addr).add j = ⟨w.heap.size, j, none⟩ := by unfold Addr.add; split <;> simp_all
  rw [hadd]
  exact blk_cells (heap_last w _) j u (by simpa using hj)
theorem blk_grown {w w' : World} {R : Nat} {o : Obj} {base : Nat} {e : TypeId} {size : Nat} {v : Value} {n : Nat} {xs : List Value} (h : w.heap[R]? = some o) (hown : w.ownsRow base e size v n xs) (hg : w.grownBy w' v.ownBlock) (hR : R < base) : w'.heap[R]? = some o := by
  refine (hg.block R (Array.getElem?_eq_some_iff.1 h).1 ?_).trans h
  rcases hown.2 with ⟨h1, _⟩ | ⟨g, cap, cur, h1, hb, _⟩
  · rw [h1]; show some R ≠ none; simp
  · rw [h1]; show some R ≠ some g; intro e; injection e; omega
/-- what theirs leaves -/
def TheirsPost (t : Text) (w : World) (e : Ending) (w' : World) : Prop := ∃ p q c d, e = .returned (.agg #[.slice p t.words.length c, .slice q t.turns.length d, .int .i64 t.breath]) ∧
  w'.ownsRow w.heap.size 80 3 (.slice p t.words.length c) t.words.length (wcells t.words) ∧ w'.ownsRow w.heap.size 81 3 (.slice q t.turns.length d) t.turns.length (tcells t.turns) ∧ Below w.heap.size w w'
structure ThW (t : Text) (pw pt : Option Addr) (cw ct : Nat) (w : World) (v u : Value) (k m : Nat) (W : World) : Prop where
  prm : W.heap[w.heap.size]? = some (.cells #[.slice pw t.words.length cw, .slice pt t.turns.length ct, .int .i64 t.breath] 25 (0, 0))
  res : W.heap[w.heap.size + 1]? = some (.cells #[.slice none 0 0, .slice none 0 0, .int .i64 0] 32 (0, 0))
  out : W.heap[w.heap.size + 2]? = some (.cells #[v, u, .int .i64 t.breath] 32 (0, 0))
  ow : W.ownsRow (w.heap.size + 3) 80 3 v k (wcells (t.words.take k))
  ou : W.ownsRow (w.heap.size + 3) 81 3 u m (tcells (t.turns.take m))
  bel : Below w.heap.size w W
  siz : w.heap.size + 3 ≤ W.heap.size
theorem ThW.alloc {t : Text} {pw pt : Option Addr} {cw ct : Nat} {w : World} {v u : Value} {k m : Nat} {W : World} (h : ThW t pw pt cw ct w v u k m W) (o : Obj) : ThW t pw pt cw ct w v u k m (W.alloc o) := by
  have hb := below1 W o
  exact ⟨(hb.block _ (Array.getElem?_eq_some_iff.1 h.prm).1).trans h.prm, (hb.block _ (Array.getElem?_eq_some_iff.1 h.res).1).trans h.res, (hb.block _ (Array.getElem?_eq_some_iff.1 h.out).1).trans h.out, h.ow.alloc _, h.ou.alloc _, join h.bel hb, by have := h.siz; simp; omega⟩
theorem ThW.wgrow {t : Text} {pw pt : Option Addr} {cw ct : Nat} {w : World} {v u v' : Value} {k m : Nat} {W W' : World} (h : ThW t pw pt cw ct w v u k m W) (hk : k < t.words.length) (hg : W.grownBy W' v.ownBlock) (ho : W'.ownsRow (w.heap.size + 3) 80 3 v' (k + 1) (wcells (t.words.take k) ++ wcell (t.words.getD k default))) :
    ThW t pw pt cw ct w v' u (k + 1) m (W'.setCell ⟨w.heap.size + 2, 0, none⟩ v') := by
  have hs := h.siz
  have b1 := blk_grown h.prm h.ow hg (by omega)
  have b2 := blk_grown h.res h.ow hg (by omega)
  have b3 := blk_grown h.out h.ow hg (by omega)
  have ne : ∀ {R : Nat}, R ≠ w.heap.size + 2 → (W'.setCell ⟨w.heap.size + 2, 0, none⟩ v').heap[R]? = W'.heap[R]? := fun {R} hR => Below.heap_setCell _ _ _ _ hR
  refine ⟨(ne (by omega)).trans b1, (ne (by omega)).trans b2, ?_, ?_, own_setC (own_other h.ou h.ow (by decide) hg) (by omega), belS (below_grown h.bel h.ow (by omega) (by omega) hg) (by omega), by have := hg.size; simp; omega⟩
  · exact heap_set_same _ b3
  · rw [take_snocD default hk, wcells_snoc]; exact own_setC ho (by omega)
theorem ThW.ugrow {t : Text} {pw pt : Option Addr} {cw ct : Nat} {w : World} {v u u' : Value} {k m : Nat} {W W' : World} (h : ThW t pw pt cw ct w v u k m W) (hm : m < t.turns.length) (hg : W.grownBy W' u.ownBlock) (ho : W'.ownsRow (w.heap.size + 3) 81 3 u' (m + 1) (tcells (t.turns.take m) ++ tcell (t.turns.getD m default))) :
    ThW t pw pt cw ct w v u' k (m + 1) (W'.setCell ⟨w.heap.size + 2, 1, none⟩ u') := by
  have hs := h.siz
  have b1 := blk_grown h.prm h.ou hg (by omega)
  have b2 := blk_grown h.res h.ou hg (by omega)
  have b3 := blk_grown h.out h.ou hg (by omega)
  have ne : ∀ {R : Nat}, R ≠ w.heap.size + 2 → (W'.setCell ⟨w.heap.size + 2, 1, none⟩ u').heap[R]? = W'.heap[R]? := fun {R} hR => Below.heap_setCell _ _ _ _ hR
  refine ⟨(ne (by omega)).trans b1, (ne (by omega)).trans b2, ?_, own_setC (own_other h.ow h.ou (by decide) hg) (by omega), ?_, belS (below_grown h.bel h.ou (by omega) (by omega) hg) (by omega), by have := hg.size; simp; omega⟩
  · exact heap_set_same _ b3
  · rw [take_snocD default hm, tcells_snoc]; exact own_setC ho (by omega)
set_option maxHeartbeats 4000000 in
set_option maxRecDepth 100000 in
theorem theirs_any (t : Text) (hl1 : t.words.length ≤ 1000000) (hl2 : t.turns.length ≤ 1000000) (pw pt : Option Addr) (cw ct : Nat) (w : World) (hW : TxAt w t pw pt) :
    Calls Tryz.prog 8 #[.agg #[.slice pw t.words.length cw, .slice pt t.turns.length ct, .int .i64 t.breath]] w (TheirsPost t w) := by
  obtain ⟨i0, hi0, hz0, hz1, hz2⟩ := info_parts A_infoRW
  obtain ⟨j0, hj0, hy0, hy1, hy2⟩ := info_parts A_infoRT
  have HT := Lib.hid hW
  have hS : ThW t pw pt cw ct w (.slice none 0 0) (.slice none 0 0) 0 0 (((w.alloc (.cells #[.slice pw t.words.length cw, .slice pt t.turns.length ct, .int .i64 t.breath] 25)).alloc (.cells #[.slice none 0 0, .slice none 0 0, .int .i64 0] 32)).alloc (.cells #[.slice none 0 0, .slice none 0 0, .int .i64 t.breath] 32)) := by
    have h1 := heap_last w (.cells #[.slice pw t.words.length cw, .slice pt t.turns.length ct, .int .i64 t.breath] 25)
    have b1 := below1 w (.cells #[.slice pw t.words.length cw, .slice pt t.turns.length ct, .int .i64 t.breath] 25)
    have hz1 : (w.alloc (.cells #[.slice pw t.words.length cw, .slice pt t.turns.length ct, .int .i64 t.breath] 25)).heap.size = w.heap.size + 1 := by simp
    generalize w.alloc (.cells #[.slice pw t.words.length cw, .slice pt t.turns.length ct, .int .i64 t.breath] 25) = W1 at h1 b1 hz1 ⊢
    have h2 := heap_last W1 (.cells #[.slice none 0 0, .slice none 0 0, .int .i64 0] 32)
    have b2 := below1 W1 (.cells #[.slice none 0 0, .slice none 0 0, .int .i64 0] 32)
    have hz2 : (W1.alloc (.cells #[.slice none 0 0, .slice none 0 0, .int .i64 0] 32)).heap.size = W1.heap.size + 1 := by simp
    generalize W1.alloc (.cells #[.slice none 0 0, .slice none 0 0, .int .i64 0] 32) = W2 at h2 b2 hz2 ⊢
    have h3 := heap_last W2 (.cells #[.slice none 0 0, .slice none 0 0, .int .i64 t.breath] 32)
    have b3 := below1 W2 (.cells #[.slice none 0 0, .slice none 0 0, .int .i64 t.breath] 32)
    rw [hz2, hz1] at h3
    rw [hz1] at h2
    exact ⟨(b3.block _ (by omega)).trans ((b2.block _ (by omega)).trans h1), (b3.block _ (by omega)).trans h2, h3, own_none _ _ _ _, own_none _ _ _ _, join (join b1 b2) b3, by simp; omega⟩
  have HS := Lib.hid hS
  clear hS hW
  go_enter Tryz.func8, Tryz.ntmps8
  go_wp2
  go_loopg [14] t.words.length (fun g i wi => ∃ (k : Nat) (v : Value), g + k = t.words.length ∧ i = .int .i64 k ∧ ThW t pw pt cw ct w v (.slice none 0 0) k 0 wi)
  case atStart => exact ⟨0, _, by omega, rfl, HS.out⟩
  case round =>
    clear HS
    obtain ⟨k, v, hk, rfl, hD⟩ := hrel
    obtain ⟨k0, k1, k2⟩ := blk3 hD.out
    obtain ⟨p0, p1, p2⟩ := blk3 hD.prm
    have hsz := hD.siz
    by_cases hlt : k < t.words.length
    · have hlt' : (k : Int) < t.words.length := by omega
      obtain ⟨b, o, x, rfl, hb, hxx, c1, c2, c3⟩ := (HT.out.below hD.bel).words.at hlt
      have z : wr.frozen? ⟨w.heap.size + 2, 0, none⟩ = false := by simp [World.frozen?, hD.out]
      have HXX := Lib.hid hxx
      have HD := Lib.hid (hD.alloc (.cells #[.int .i64 x.syl, .int .i64 x.wt, .bool x.stop] 61))
      have HSZ := Lib.hid hsz
      have hq2 : w.heap.size + 2 < wr.heap.size := by omega
      obtain ⟨xa, xb, xc⟩ := x
      dsimp only at c1 c2 c3 HD
      clear hD hxx hsz
      go_wp2_with (at_builtin; refine wpList_append_own _ rfl _ _ 29 rfl (w.heap.size + 3) 80 i0 (.agg #[.int .i64 0, .int .i64 0, .bool false]) 3 24 A_undRW hi0 hz0 hz1 hz2 rfl (by decide) _ _ _ rfl (HD.out.ow.alloc _) ⟨wr.heap.size + 1, 0, none⟩ 1 1 [.int .i64 xa, .int .i64 xb, .bool xc] rfl rfl ?d1 ?d2 ?d3 ?d4 ?d5 ?_)
      case d1 =>
        intro j u hj
        have := cell3_new (wr.alloc (.cells #[.int .i64 xa, .int .i64 xb, .bool xc] 61)) (.int .i64 xa) (.int .i64 xb) (.bool xc) 80 j u hj
        simpa using this
      case d2 => intro u hu; simp at hu; rcases hu with rfl | rfl | rfl <;> rfl
      case d3 => unfold maxLen; omega
      case d4 => omega
      case d5 => have := HSZ.out; simp; omega
      intro v' w8 hown8 hgrow _
      obtain ⟨vp, vc, rfl⟩ := own_val hown8
      have HD8 := Lib.hid ((HD.out.alloc _).wgrow hlt hgrow (by rw [← HXX.out]; exact hown8))
      have hz8 := hgrow.size
      have b3 := blk_grown (HD.out.alloc _).out (HD.out.alloc _).ow hgrow (by omega)
      have z8 : ∀ i, w8.frozen? ⟨w.heap.size + 2, i, none⟩ = false := fun i => by simp [World.frozen?, b3]
      obtain ⟨q0, q1, q2⟩ := blk3 b3
      have hq8 : w.heap.size + 2 < w8.heap.size := by simp at hz8; omega
      clear hgrow hown8 hz8 b3 HD
      go_wp2
      go_roundg (gk - 1)
      case rel => exact ⟨k + 1, _, by omega, by simp, HD8.out⟩
      case measure => omega
    · have hkk : k = t.words.length := by omega
      subst hkk
      have HD := Lib.hid hD
      clear hD hk hlt
      go_wp2_with fail
      go_loopg [28] t.turns.length (fun g i wi => ∃ (m : Nat) (u : Value), g + m = t.turns.length ∧ i = .int .i64 m ∧ ThW t pw pt cw ct w v u t.words.length m wi)
      case atStart => exact ⟨0, _, by omega, rfl, HD.out⟩
      case round =>
        clear HD k0 k1 k2 p0 p1 p2
        obtain ⟨k, u, hk, rfl, hD⟩ := hrel
        obtain ⟨k0, k1, k2⟩ := blk3 hD.out
        obtain ⟨p0, p1, p2⟩ := blk3 hD.res
        have hsz := hD.siz
        by_cases hlt : k < t.turns.length
        · have hlt' : (k : Int) < t.turns.length := by omega
          obtain ⟨b, o, x, rfl, hb, hxx, c1, c2, c3⟩ := (HT.out.below hD.bel).turns.at hlt
          have HXX := Lib.hid hxx
          have HD := Lib.hid (hD.alloc (.cells #[.int .i64 x.word, .int .i64 x.lo, .int .i64 x.hi] 63))
          have HSZ := Lib.hid hsz
          have hq2 : w.heap.size + 2 < wr.heap.size := by omega
          obtain ⟨xa, xb, xc⟩ := x
          dsimp only at c1 c2 c3 HD
          clear hD hxx hsz
          go_wp2_with (at_builtin; refine wpList_append_own _ rfl _ _ 30 rfl (w.heap.size + 3) 81 j0 (.agg #[.int .i64 0, .int .i64 0, .int .i64 0]) 3 24 A_undRT hj0 hy0 hy1 hy2 rfl (by decide) _ _ _ rfl (HD.out.ou.alloc _) ⟨wr.heap.size + 1, 0, none⟩ 1 1 [.int .i64 xa, .int .i64 xb, .int .i64 xc] rfl rfl ?e1 ?e2 ?e3 ?e4 ?e5 ?_)
          case e1 =>
            intro j u hj
            have := cell3_new (wr.alloc (.cells #[.int .i64 xa, .int .i64 xb, .int .i64 xc] 63)) (.int .i64 xa) (.int .i64 xb) (.int .i64 xc) 81 j u hj
            simpa using this
          case e2 => intro u hu; simp at hu; rcases hu with rfl | rfl | rfl <;> rfl
          case e3 => unfold maxLen; omega
          case e4 => omega
          case e5 => have := HSZ.out; simp; omega
          intro v' w8 hown8 hgrow _
          obtain ⟨vp, vc, rfl⟩ := own_val hown8
          have HD8 := Lib.hid ((HD.out.alloc _).ugrow hlt hgrow (by rw [← HXX.out]; exact hown8))
          have hz8 := hgrow.size
          have b3 := blk_grown (HD.out.alloc _).out (HD.out.alloc _).ou hgrow (by omega)
          have z8 : ∀ i, w8.frozen? ⟨w.heap.size + 2, i, none⟩ = false := fun i => by simp [World.frozen?, b3]
          obtain ⟨q0, q1, q2⟩ := blk3 b3
          have hq8 : w.heap.size + 2 < w8.heap.size := by simp at hz8; omega
          clear hgrow hown8 hz8 b3 HD
          go_wp2
          go_roundg (gk - 1)
          case rel => exact ⟨k + 1, _, by omega, by simp, HD8.out⟩
          case measure => omega
        · have hkk : k = t.turns.length := by omega
          subst hkk
          have z8 : ∀ i, wr.frozen? ⟨w.heap.size + 1, i, none⟩ = false := fun i => by simp [World.frozen?, hD.res]
          have hq8 : w.heap.size + 1 < wr.heap.size := by omega
          have ow := hD.ow
          have ou := hD.ou
          rw [List.take_length] at ow ou
          obtain ⟨p, c, rfl, HWd, -⟩ := own_wds ow rfl
          obtain ⟨q, d, rfl, HTn, -⟩ := own_tns ou rfl
          have HD := Lib.hid hD
          have HOW := Lib.hid ow
          have HOU := Lib.hid ou
          clear hD hk hlt ow ou HWd HTn
          go_wp2
          obtain ⟨W3, hW3⟩ : ∃ W3, W3 = ((wr.setCell ⟨w.heap.size + 1, 0, none⟩ (.slice p t.words.length c)).setCell ⟨w.heap.size + 1, 1, none⟩ (.slice q t.turns.length d)).setCell ⟨w.heap.size + 1, 2, none⟩ (.int .i64 t.breath) := ⟨_, rfl⟩
          rw [← hW3]
          have hx1 : W3.heap[w.heap.size + 1]? = some (.cells #[.slice p t.words.length c, .slice q t.turns.length d, .int .i64 t.breath] 32 (0, 0)) := by
            rw [hW3]; exact heap_set_same _ (heap_set_same _ (heap_set_same _ HD.out.res))
          have c0 := blk_cells hx1 0 _ rfl
          have c1 := blk_cells hx1 1 _ rfl
          have c2 := blk_cells hx1 2 _ rfl
          refine bodyPost_ret (v := .agg #[.slice p t.words.length c, .slice q t.turns.length d, .int .i64 t.breath]) (by simp [results, Tryz.results8, go_sem, c0, c1, c2]) rfl ⟨p, q, c, d, rfl, ?_, ?_, ?_⟩
          · rw [hW3]; exact own_base (own_setC (own_setC (own_setC HOW.out (by omega)) (by omega)) (by omega)) (by omega)
          · rw [hW3]; exact own_base (own_setC (own_setC (own_setC HOU.out (by omega)) (by omega)) (by omega)) (by omega)
          · rw [hW3]; exact belS (belS (belS HD.out.bel (by omega)) (by omega)) (by omega)
end Go.Proofs.YtadnggecnjdhiaaGreat
set_option linter.unusedSimpArgs false
set_option linter.unusedVariables false
namespace Go.Proofs.YtadnggecnjdhiaaGreat
open Go.RowKit Tx
attribute [local go_sem] Oper.semAt_some
def spFa (t : Text) (pw pt : Option Addr) (cw ct a b : Nat) : Nat → List Value → Value → World → Prop
  | 0, _, v, _ => v = .agg #[.slice pw t.words.length cw, .slice pt t.turns.length ct, .int .i64 t.breath]
  | 1, _, v, _ => v = .int .i64 a
  | 2, _, v, _ => v = .int .i64 b
  | 3, L, v, w => ∃ p c, v = .slice p (wordsL a (b - a)).length c ∧ Ints w p (wordsL a (b - a))
  | 4, L, v, w => ∃ p c, v = .slice p (rsaid t (wordsL a (b - a))).length c
  | 5, _, v, _ => v = .int .i64 ((rsaid t (wordsL a (b - a))).length : Int)
  | 6, _, v, _ => v = .bool (decide (0 < ((rsaid t (wordsL a (b - a))).length : Int)))
  | _, _, _, _ => False
theorem spFa_stable (t : Text) (pw pt : Option Addr) (cw ct a b : Nat) : ∀ i L v w w', spFa t pw pt cw ct a b i L v w → Rs.Gr w w' → spFa t pw pt cw ct a b i L v w' := by
  intro i L v w w' h hg
  match i with
  | 0 => exact h
  | 1 => exact h
  | 2 => exact h
  | 3 => obtain ⟨p, c, h1, h2⟩ := h; exact ⟨p, c, h1, h2.below hg⟩
  | 4 => exact h
  | 5 => exact h
  | 6 => exact h

theorem stop_b (t : Text) (p : Nat) (b : Bool) (hb : rstop t p = b) (hl : t.words.length ≤ 1000000) (hp : p ≤ t.words.length) (pw : Option Addr) (cw : Nat) (v1 v2 : Value) (w : World) (hW : Wds w pw t.words) :
    Calls Tryz.prog 99 #[.agg #[.slice pw t.words.length cw, v1, v2], .int .i64 p] w fun e w' => e = .returned (.bool b) ∧ Below w.heap.size w w' := hb ▸ stop_any t p hl hp pw cw v1 v2 w hW
set_option maxHeartbeats 4000000 in
set_option maxRecDepth 100000 in
theorem Fault_any (t : Text) (ok : Text.Ok t) (a b : Nat) (hab : a ≤ b) (hb : b ≤ t.words.length) (pw pt : Option Addr) (cw ct : Nat) (w : World) (hW : TxAt w t pw pt) :
    Calls Tryz.prog 49 #[.agg #[.slice pw t.words.length cw, .slice pt t.turns.length ct, .int .i64 t.breath], .int .i64 a, .int .i64 b] w fun e w' => e = .returned (.int .i64 (kindI t a b)) ∧ Below w.heap.size w w' := by
  have HK := Lib.hid (kindI_eq t (fun u hu => (ok.turn u hu).2.2.2.1) a b hab)
  have HOK := Lib.hid ok
  have hn12 := ok.n12
  have hm6 := ok.m6
  have HWO : Hid (∀ W, Calls Tryz.prog 98 #[.int .i64 a, .int .i64 b] W (RowPost (wordsL a (b - a)) W)) := Lib.hid (fun W => by
    have := words_any a b (by omega) (by omega) W
    rwa [show ((b : Int) - (a : Int)).toNat = b - a by omega] at this)
  have hwl : (wordsL (a : Int) (b - a)).length ≤ 1000000 := by rw [wordsL_length]; omega
  have HSA := Lib.hid (fun p c W (h : Below w.heap.size w W) hL => Said_any t (by omega) (fun u hu => by have := ok.turn u hu; omega) (wordsL a (b - a)) hwl pt p ct c (.slice pw t.words.length cw) (.int .i64 t.breath) W (hW.turns.below h) hL)
  have HB := Lib.hid (below1 w (.cells #[.slice pw t.words.length cw, .slice pt t.turns.length ct, .int .i64 t.breath] 32))
  have HX := Lib.hid (heap_last w (.cells #[.slice pw t.words.length cw, .slice pt t.turns.length ct, .int .i64 t.breath] 32))
  have HW := Lib.hid (hW.words)
  have hz1 : (w.alloc (.cells #[.slice pw t.words.length cw, .slice pt t.turns.length ct, .int .i64 t.breath] 32)).heap.size = w.heap.size + 1 := by simp
  generalize kindI t a b = ki at HK ⊢
  clear hW ok hwl
  obtain ⟨k0, k1, k2⟩ := blk3 HX.out
  go_enter Tryz.func49, Tryz.ntmps49
  go_wp2_with fail
  generalize w.alloc (.cells #[.slice pw t.words.length cw, .slice pt t.turns.length ct, .int .i64 t.breath] 32) = W1 at HB HX hz1 k0 k1 k2 ⊢
  have HZ0' : w.heap.size < W1.heap.size := by omega
  go_loop [7, 8] (fun n i => ∃ k : Nat, a + k ≤ b ∧ i = .int .i64 ((a + k : Nat) : Int) ∧ n = .int .i64 (t.syl a (a + k))) (fun _ i => b - (intOf i).toNat)
  case atStart => exact ⟨0, by omega, by simp, by rw [syl_none]⟩
  case round =>
    obtain ⟨k, hk, rfl, rfl⟩ := hrel
    by_cases hlt : a + k < b
    · have hlt' : ((a + k : Nat) : Int) < b := by omega
      have hlt2 : a + k < t.words.length := by omega
      have hlt3 : ((a + k : Nat) : Int) < t.words.length := by omega
      obtain ⟨bb, o, x, rfl, hbl, hxx, c1, c2, c3⟩ := (HW.out.below HB.out).at hlt2
      have hsn := syl_snoc t a k hlt2
      rw [← hxx] at hsn
      have h1 := syl_bd HOK.out a (a + k)
      have h2 := syl_bd HOK.out a (a + (k + 1))
      have HSN := Lib.hid hsn
      rw [hsn] at h2
      generalize t.syl a (a + k) = sy at h1 h2 HSN
      obtain ⟨xa, xb, xc⟩ := x
      dsimp only at c1 c2 c3 h2 HSN
      have e3 : ((a + k : Nat) : Int) + 1 = ((a + (k + 1) : Nat) : Int) := by omega
      have E3 := Lib.hid e3
      generalize hq : a + k = q at hlt hlt' hlt2 hlt3 c1 c2 c3 E3
      clear hxx hsn e3 k0 k1 k2
      obtain ⟨k0, k1, k2⟩ := blk3 HX.out
      go_wp2
      go_round
      case rel => exact ⟨k + 1, by omega, by rw [E3.out], by rw [HSN.out]⟩
      case measure => simp [intOf]; omega
    · obtain rfl : b = a + k := by omega
      have hbd := syl_bd HOK.out a (a + k)
      have HWx := Lib.hid (HW.out.below HB.out)
      generalize t.syl a (a + k) = sy at HK hbd
      generalize hB : a + k = b at *
      by_cases hlong : t.breath < sy
      · have HF : Hid (ki = 0) := Lib.hid (by rw [HK.out, if_pos hlong])
        clear HK
        go_wp2
        go_ret
        exact ⟨ret_int HF.out.symm, HB.out⟩
      have HK := Lib.hid (HK.out.trans (if_neg hlong))
      cases hsa : rstop t a with
      | false =>
        have HF : Hid (ki = 1) := Lib.hid (by rw [HK.out, if_pos hsa])
        clear HK
        go_wp2_with fail
        refine (stop_b t a _ hsa (by omega) (by omega) pw cw _ _ _ HWx.out).mono ?_
        rintro e w5 ⟨rfl, hB5⟩
        have HB5 := Lib.hid (join HB.out hB5)
        clear hB5 hsa
        go_wp2
        go_ret
        exact ⟨ret_int HF.out.symm, HB5.out⟩
      | true =>
        have HK := Lib.hid (HK.out.trans (if_neg (by rw [hsa]; decide)))
        cases hsb : rstop t b with
        | false =>
          have HF : Hid (ki = 1) := Lib.hid (by rw [HK.out, if_pos hsb])
          have HSB := Lib.hid hsb
          clear HK
          go_wp2_with fail
          refine (stop_b t a _ hsa (by omega) (by omega) pw cw _ _ _ HWx.out).mono ?_
          rintro e w5 ⟨rfl, hB5⟩
          have HX5 := Lib.hid ((hB5.block w.heap.size HZ0').trans HX.out)
          have HW5 := Lib.hid (HWx.out.below hB5)
          have HB5 := Lib.hid (join HB.out hB5)
          clear hB5 hsa hsb k0 k1 k2
          obtain ⟨k0, k1, k2⟩ := blk3 HX5.out
          go_wp2_with fail
          refine (stop_b t b _ HSB.out (by omega) (by omega) pw cw _ _ _ HW5.out).mono ?_
          rintro e w6 ⟨rfl, hB6⟩
          have HB6 := Lib.hid (join HB5.out hB6)
          clear hB6
          go_wp2
          go_ret
          exact ⟨ret_int HF.out.symm, HB6.out⟩
        | true =>
          have HF := Lib.hid (HK.out.trans (if_neg (by rw [hsb]; decide)))
          have HSB := Lib.hid hsb
          clear HK
          go_wp2_with fail
          refine (stop_b t a _ hsa (by omega) (by omega) pw cw _ _ _ HWx.out).mono ?_
          rintro e w5 ⟨rfl, hB5⟩
          have HX5 := Lib.hid ((hB5.block w.heap.size HZ0').trans HX.out)
          have HW5 := Lib.hid (HWx.out.below hB5)
          have HB5 := Lib.hid (join HB.out hB5)
          clear hB5 hsa hsb k0 k1 k2
          obtain ⟨k0, k1, k2⟩ := blk3 HX5.out
          go_wp2_with fail
          refine (stop_b t b _ HSB.out (by omega) (by omega) pw cw _ _ _ HW5.out).mono ?_
          rintro e w6 ⟨rfl, hB6⟩
          have HX := Lib.hid ((hB6.block w.heap.size (Array.getElem?_eq_some_iff.1 HX5.out).1).trans HX5.out)
          have HBx := Lib.hid (join HB5.out hB6)
          have HZ0 : w.heap.size < w6.heap.size := (Array.getElem?_eq_some_iff.1 HX.out).1
          clear hB6 k0 k1 k2 HX5 HW5 HB5
          go_wp2_with fail
          refine Rs.region_gen 7 [[], [], [], [1, 2], [0, 1, 2, 3], [0, 1, 2, 3, 4], [0, 1, 2, 3, 4, 5]] [some 37, some 38, some 39, some 40, some 41, some 42, some 43] (spFa t pw pt cw ct a b) (by kernel_rfl) (by kernel_rfl) rfl (spFa_stable _ _ _ _ _ _ _) ?_ ?_
          · refine ⟨fun V w' hG hs => ?_, fun V w' hG hs => ?_, fun V w' hG hs => ?_, fun V w' hG hs => ?_, fun V w' hG hs => ?_, fun V w' hG hs => ?_, fun V w' hG hs => ?_, trivial⟩
            all_goals
              obtain ⟨k0, k1, k2⟩ := blk3 ((hG.block w.heap.size HZ0).trans HX.out)
            · rw [if_pos (by rfl)]
              exact Rs.GrowL.value (v := .agg #[.slice pw t.words.length cw, .slice pt t.turns.length ct, .int .i64 t.breath]) (w' := w') (by simp [go_sem, Rs.look, k0, k1, k2]) (Rs.Gr.refl _) rfl
            · rw [if_pos (by rfl)]
              exact Rs.GrowL.value (v := .int .i64 a) (w' := w') (by simp [go_sem, Rs.look]) (Rs.Gr.refl _) rfl
            · rw [if_pos (by rfl)]
              exact Rs.GrowL.value (v := .int .i64 b) (w' := w') (by simp [go_sem, Rs.look]) (Rs.Gr.refl _) rfl
            · have e1 : V 1 = .int .i64 a := hs 1 (by simp)
              have e2 : V 2 = .int .i64 b := hs 2 (by simp)
              rw [if_pos (by rfl)]
              refine Rs.GrowL.call (f := 98) (args := #[.int .i64 a, .int .i64 b]) (by simp [go_sem, Rs.look, e1, e2]) ?_
              refine (HWO.out w').mono ?_
              rintro e w2 ⟨v, rfl, ho, hB2⟩
              obtain ⟨p, c, rfl, hI, -⟩ := own_rd ho rfl
              exact ⟨_, rfl, hB2, p, c, rfl, hI⟩
            · have e0 : V 0 = .agg #[.slice pw t.words.length cw, .slice pt t.turns.length ct, .int .i64 t.breath] := hs 0 (by simp)
              have e1 : V 1 = .int .i64 a := hs 1 (by simp)
              have e2 : V 2 = .int .i64 b := hs 2 (by simp)
              have r3 := hs 3 (by simp)
              rw [if_pos (by rfl)]
              obtain ⟨p, c, e3, hI⟩ := r3
              refine Rs.GrowL.call (f := 100) (args := #[.agg #[.slice pw t.words.length cw, .slice pt t.turns.length ct, .int .i64 t.breath], .slice p (wordsL a (b - a)).length c]) (by simp [go_sem, Rs.look, e0, e3]) ?_
              refine (HSA.out p c w' (join HBx.out hG) hI).mono ?_
              rintro e w2 ⟨v, rfl, ho, hB2⟩
              obtain ⟨p, c, rfl⟩ := own_val ho
              exact ⟨_, rfl, hB2, p, c, rfl⟩
            · have e0 : V 0 = .agg #[.slice pw t.words.length cw, .slice pt t.turns.length ct, .int .i64 t.breath] := hs 0 (by simp)
              have e1 : V 1 = .int .i64 a := hs 1 (by simp)
              have e2 : V 2 = .int .i64 b := hs 2 (by simp)
              have r3 := hs 3 (by simp)
              have r4 := hs 4 (by simp)
              rw [if_pos (by rfl)]
              obtain ⟨p, c, e4⟩ := r4
              exact Rs.GrowL.value (v := .int .i64 ((rsaid t (wordsL a (b - a))).length : Int)) (w' := w') (by simp [go_sem, Rs.look, e4]) (Rs.Gr.refl _) rfl
            · have e0 : V 0 = .agg #[.slice pw t.words.length cw, .slice pt t.turns.length ct, .int .i64 t.breath] := hs 0 (by simp)
              have e1 : V 1 = .int .i64 a := hs 1 (by simp)
              have e2 : V 2 = .int .i64 b := hs 2 (by simp)
              have r3 := hs 3 (by simp)
              have r4 := hs 4 (by simp)
              have e5 : V 5 = .int .i64 ((rsaid t (wordsL a (b - a))).length : Int) := hs 5 (by simp)
              rw [if_pos (by rfl)]
              exact Rs.GrowL.value (v := .bool (decide (0 < ((rsaid t (wordsL a (b - a))).length : Int)))) (w' := w') (by simp [go_sem, Rs.look, e0, e1, e2, e5]) (Rs.Gr.refl _) rfl
          · intro V w' hG hs
            have e0 : V 0 = .agg #[.slice pw t.words.length cw, .slice pt t.turns.length ct, .int .i64 t.breath] := hs 0 (by omega)
            have e1 : V 1 = .int .i64 a := hs 1 (by omega)
            have e2 : V 2 = .int .i64 b := hs 2 (by omega)
            have r3 := hs 3 (by omega)
            have r4 := hs 4 (by omega)
            have e5 : V 5 = .int .i64 ((rsaid t (wordsL a (b - a))).length : Int) := hs 5 (by omega)
            have e6 : V 6 = .bool (decide (0 < ((rsaid t (wordsL a (b - a))).length : Int))) := hs 6 (by omega)
            simp only [Rs.canon, Rs.dstOf, List.range_succ, List.range_zero, List.nil_append, List.cons_append, List.foldl_cons, List.foldl_nil, List.drop_succ_cons, List.drop_zero, List.drop_nil, List.getElem?_toArray, List.getElem?_cons_succ, List.getElem?_cons_zero, Option.bind_some, Act.put, List.getD_cons_succ, List.getD_cons_zero, List.setIfInBounds_toArray, List.set_cons_succ, List.set_cons_zero]
            rw [e0, e1, e2, e5, e6]
            clear e0 e1 e2 e5 e6 hs
            clear r3 r4
            obtain ⟨nn, hnn⟩ : ∃ nn : Nat, nn = (rsaid t (wordsL a (b - a))).length := ⟨_, rfl⟩
            rw [← hnn] at HF ⊢
            clear hnn
            by_cases hpos : 0 < nn
            · have hpos' : (0 : Int) < nn := by omega
              have HF2 := Lib.hid (HF.out.trans (if_pos hpos))
              clear HF
              go_wp2
              go_ret
              exact ⟨ret_int HF2.out.symm, join HBx.out hG⟩
            · have hpos' : ¬ (0 : Int) < nn := by omega
              have HF2 := Lib.hid (HF.out.trans (if_neg hpos))
              clear HF
              go_wp2
              go_ret
              exact ⟨ret_int HF2.out.symm, join HBx.out hG⟩
end Go.Proofs.YtadnggecnjdhiaaGreat
