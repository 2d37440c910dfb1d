import Derived.Test.YtimedmkpenbmkaaGreatU
import Derived.Test.YtimedmkpenbmkaaGreatRs
namespace Go.Proofs.YtimedmkpenbmkaaGreat
open Go.RowKit Go.Shelf
set_option linter.unusedSimpArgs false
set_option linter.unusedVariables false

def hearB (t : Hr.Town) (wind voice : Int) (house s : Nat) : Bool :=
  decide (s < t.len ∧ t.at s = 0) && ((t.needs wind s).getD house 0 != -1 && decide ((t.needs wind s).getD house 0 ≤ voice))
def ears (t : Hr.Town) (wind voice : Int) (house : Nat) : List Bool := (List.range 30).map (hearB t wind voice house)
def earsTo (t : Hr.Town) (wind voice : Int) (house k : Nat) : List Value := (List.range 30).map fun s => .bool (decide (s < k) && hearB t wind voice house s)
theorem earsTo_set (t : Hr.Town) (wind voice : Int) (house k : Nat) (hk : k < 30) (v : Bool) (hv : v = hearB t wind voice house k) : (earsTo t wind voice house k).toArray.setIfInBounds k (.bool v) = (earsTo t wind voice house (k + 1)).toArray := by
  subst hv
  apply Array.ext_getElem?
  intro j
  rw [Array.getElem?_setIfInBounds]
  unfold earsTo
  simp only [List.getElem?_toArray, List.getElem?_map, List.getElem?_range, List.size_toArray, List.length_map, List.length_range]
  by_cases hj : j < 30
  · by_cases hjk : k = j
    · subst hjk; simp [hj]
    · rw [if_neg hjk]
      simp only [List.getElem?_range, hj, if_true, Option.map_some]
      congr 2
      simp only [Nat.lt_succ_iff]
      congr 1
      simp; omega
  · rw [if_neg (by omega)]; simp [hj]
theorem earsTo_all (t : Hr.Town) (wind voice : Int) (house : Nat) : earsTo t wind voice house 30 = (ears t wind voice house).map .bool := by
  unfold earsTo ears
  rw [List.map_map]
  apply List.map_congr_left
  intro s hs
  have := List.mem_range.1 hs
  simp [this]
theorem earsTo_zero (t : Hr.Town) (wind voice : Int) (house : Nat) : (earsTo t wind voice house 0).toArray = Array.replicate 30 (.bool false) := by
  unfold earsTo
  apply Array.ext_getElem?
  intro j
  by_cases hj : j < 30
  · simp [hj]
  · simp [hj]
theorem earsTo_len (t : Hr.Town) (wind voice : Int) (house k : Nat) : (earsTo t wind voice house k).length = 30 := by unfold earsTo; simp
theorem ears_len (t : Hr.Town) (wind voice : Int) (house : Nat) : (ears t wind voice house).length = 30 := by unfold ears; simp

theorem und128 : Tryz.prog.underlying 124 = some (.array 30 4) := by kernel_rfl
theorem size128 : (Tryz.prog.info? 124).map (·.size) = some 30 := by kernel_rfl
theorem agg31 (w : World) : (isAgg 22).run Tryz.prog w = .ok false w := by kernel_rfl
theorem siz31 (w : World) : (sizeOf 22).run Tryz.prog w = .ok 1 w := by kernel_rfl
theorem idx_arr {t e n : Nat} (hu : Tryz.prog.underlying t = some (.array n e)) (hag : ∀ w, (isAgg e).run Tryz.prog w = .ok false w) (hs : ∀ w, (sizeOf e).run Tryz.prog w = .ok 1 w) {cs : Array Value} {k : Nat} {v : Value} (hk : k < n) (hv : cs[k]? = some v) (w : World) :
    (Instr.index t (.agg cs) (.int .i64 (k : Int))).run Tryz.prog w = .ok v w := by
  simp [Instr.index, asIntOf, run_underlying hu, part, hag, hs, hk, hv]

theorem voice_cells {W : World} {b : Nat} {v0 v1 v2 v3 v4 v5 : Value} {ty : TypeId} (h : W.heap[b]? = some (.cells #[v0, v1, v2, v3, v4, v5] ty (0, 0))) :
    W.cell? ⟨b, 0, none⟩ = some v0 ∧ W.cell? ⟨b, 1, none⟩ = some v1 ∧ W.cell? ⟨b, 2, none⟩ = some v2 ∧ W.cell? ⟨b, 3, none⟩ = some v3 ∧ W.cell? ⟨b, 4, none⟩ = some v4 ∧ W.cell? ⟨b, 5, none⟩ = some v5 := by
  refine ⟨?_, ?_, ?_, ?_, ?_, ?_⟩ <;> (rw [cell_of_row _ _ _ _ _ _ h]; rfl)

set_option maxHeartbeats 2000000 in
set_option maxRecDepth 100000 in
theorem hears_any (t : Hr.Town) (hok : t.Ok) (wind voice : Int) (house : Nat) (hh : house < t.len) (pl g cf : Value) (vs : Array Value) (w : World) (hT : TabsTo t wind 30 w vs) :
    Calls Tryz.prog 79 #[.agg #[.int .i64 t.wide, pl, .int .i64 wind, .int .i64 voice, g, cf], .agg vs, .int .i64 house] w fun e w' =>
      e = .returned (.agg ((ears t wind voice house).map Value.bool).toArray) ∧ Below w.heap.size w w' := by
  have HT := Lib.hid hT
  have hsz := hT.size
  have hi := tabs_size130
  rw [← hsz] at hi
  have HI := Lib.hid hi
  have hrow : ∀ o1 o3 o4, ((((w.alloc o1).alloc (.cells vs 121)).alloc o3).alloc o4).heap[w.heap.size + 1]? = some (.cells vs 121 (0, 0)) := fun o1 o3 o4 => by
    rw [Below.heap_alloc _ _ _ (by simp), Below.heap_alloc _ _ _ (by simp)]
    have := heap_alloc_last (w.alloc o1) (.cells vs 121); simpa using this
  have HROW := Lib.hid hrow
  have hlast : ∀ o1 o2 o3 R, ((((w.alloc o1).alloc o2).alloc o3).alloc (.cells R 124)).heap[w.heap.size + 1 + 1 + 1]? = some (.cells R 124 (0, 0)) := fun o1 o2 o3 R => by
    have := heap_alloc_last (((w.alloc o1).alloc o2).alloc o3) (.cells R 124); simpa using this
  have hres : ∀ o1 o2 R o4, ((((w.alloc o1).alloc o2).alloc (.cells R 124)).alloc o4).heap[w.heap.size + 1 + 1]? = some (.cells R 124 (0, 0)) := fun o1 o2 R o4 => by
    rw [Below.heap_alloc _ _ _ (by simp)]
    have := heap_alloc_last ((w.alloc o1).alloc o2) (.cells R 124); simpa using this
  have hbl : ∀ o1 o2 o3 o4, Below w.heap.size w ((((w.alloc o1).alloc o2).alloc o3).alloc o4) := fun _ _ _ _ => al (al (al (al (Below.refl _ _) _) _) _) _
  have HLAST := Lib.hid hlast
  have HRES := Lib.hid hres
  clear hT hi hrow hlast hres hsz
  go_enter Tryz.func79, Tryz.ntmps79
  go_wp2_with (with_reducible refine wpList_load_row rfl 121 _ rfl (w.heap.size + 1) rfl 121 vs (0, 0) _ (HROW.out _ _ _) und130 rfl HI.out ?_)
  go_loopw [8, 9, 11] (fun u u' i wr => ∃ k : Nat, k ≤ 30 ∧ i = .int .i64 k ∧ wr.heap[w.heap.size + 1 + 1 + 1]? = some (.cells (earsTo t wind voice house k).toArray 124 (0, 0)) ∧ wr.heap[w.heap.size + 1 + 1]? = some (.cells (Array.replicate 30 (.bool false)) 124 (0, 0)) ∧
      wr.heap[w.heap.size]? = some (.cells #[.int .i64 t.wide, pl, .int .i64 wind, .int .i64 voice, g, cf] 117 (0, 0)) ∧ Below w.heap.size w wr) (fun _ _ i _ => 30 - (intOf i).toNat)
  case atStart => exact ⟨0, by omega, rfl, by rw [earsTo_zero]; exact HLAST.out _ _ _ _, HRES.out _ _ _ _, by
    rw [Below.heap_alloc _ _ _ (by simp; omega), Below.heap_alloc _ _ _ (by simp; omega), Below.heap_alloc _ _ _ (by simp)]; exact heap_alloc_last _ _, hbl _ _ _ _⟩
  case round =>
    clear hbl
    obtain ⟨k, hk, rfl, hrow, hres, hbox, hB⟩ := hrel
    by_cases hlt : k < 30
    · have cv := voice_cells hbox
      have hcell : wr.cell? ⟨w.heap.size + 1 + 1 + 1, k, none⟩ = some (.bool (decide (k < k) && hearB t wind voice house k)) := by
        rw [cell_of_row _ _ _ _ _ _ hrow]; unfold earsTo; simp [hlt]
      have hfz := frozen_of_row wr (w.heap.size + 1 + 1 + 1) k _ 124 hrow
      have hgl : w.heap.size + 1 + 1 + 1 < wr.heap.size := (Array.getElem?_eq_some_iff.1 hrow).1
      obtain ⟨c0, c1, c2, c3, c4, c5⟩ := cv
      have HROW2 := Lib.hid hrow
      have HRES2 := Lib.hid hres
      have HBOX := Lib.hid hbox
      clear hrow hres hbox
      have hg0 : w.heap.size < wr.heap.size := by omega
      by_cases hst : k < t.len ∧ t.at k = 0
      · obtain ⟨tb, hv, hT⟩ := HT.out.yes k hlt hst.1 hst.2
        have hTr := hT.below hB (by exact hT.lt)
        have hidx := fun W => idx_arr und130 agg31 siz31 hlt hv W
        have hnl : (t.needs wind k).length = t.len := (Hr.needs_fix hok wind hst.1).inv.len
        have hcT := hTr.cell (i := house) (by omega)
        have htl := hTr.lt
        obtain ⟨x, hx⟩ : ∃ x, (t.needs wind k).getD house 0 = x := ⟨_, rfl⟩
        rw [hx] at hcT
        have hbf : hearB t wind voice house k = (x != -1 && decide (x ≤ voice)) := by unfold hearB; rw [hx]; simp only [hst, decide_true, Bool.true_and, and_self]
        have HBF := Lib.hid hbf
        have hh' : (house : Int) < t.len := by omega
        have hl0 : (0 : Int) < t.len := by omega
        have hl1 : 0 < t.len := by omega
        clear hv hT hTr hnl hx hbf
        go_wp2_with fail
        refine Rs.region_det 12 [[], [], [1], [1, 2], [1, 2, 3], [1, 2, 3, 4], [1, 2, 3, 4], [1, 2, 3, 4], [1, 2, 3, 4, 6, 7], [1, 2, 3, 4, 6, 7, 8], [1, 2, 3, 4, 5, 6, 7, 8, 9], [1, 2, 3, 4, 5, 6, 7, 8, 9, 10]]
          [some 15, some 16, some 17, some 18, some 19, some 20, some 21, some 22, some 23, some 24, some 25, some 26]
          (fun i => [.int .i64 k, .slice (some ⟨tb, 0, none⟩) t.len t.len, .int .i64 t.len, .bool true, .bool true, .agg #[.int .i64 t.wide, pl, .int .i64 wind, .int .i64 voice, g, cf], .slice (some ⟨tb, 0, none⟩) t.len t.len, .int .i64 house, .pointer (some ⟨tb, house, none⟩), .int .i64 x, .bool (x != -1 && decide (x ≤ voice)), .bool (x != -1 && decide (x ≤ voice))].getD i undef) (by kernel_rfl) (by kernel_rfl) rfl ?_ ?_
        · refine ⟨.plain rfl ?_, .plain rfl ?_, .plain rfl ?_, .plain rfl ?_, .plain rfl ?_, .plain rfl ?_, .plain rfl ?_, .plain rfl ?_, .plain rfl ?_, .plain rfl ?_, .on rfl (fun w' hG => Rs.GrowR.call (f := 102) (args := #[.agg #[.int .i64 t.wide, pl, .int .i64 wind, .int .i64 voice, g, cf], .int .i64 x]) ?_ (enough_any _ _ _ _ _ _ _ _)), .plain rfl ?_, trivial⟩
          case refine_11 => simp [go_sem, Rs.look]
          all_goals
            intro w' hG
            obtain ⟨hcG, hfG⟩ := kept hG
            simp [go_sem, Rs.look, hcG, hfG, c0, c1, c2, c3, c4, c5, hg0, hcT, htl, hh', hl0, hl1, hh, hst]
        · intro w' hG
          obtain ⟨hcG, hfG⟩ := kept hG
          have hzG := hG.size
          have HG := Lib.hid hG
          clear hG
          simp only [Rs.canon, Rs.dstOf, List.range_succ, List.range_zero, List.nil_append, List.cons_append, List.foldl_cons, List.foldl_nil, List.drop_succ_cons, List.drop_zero, List.getElem?_toArray, List.getElem?_cons_succ, List.getElem?_cons_zero, Option.bind_some, Act.put, List.getD_cons_succ, List.getD_cons_zero, List.setIfInBounds_toArray, List.set_cons_succ, List.set_cons_zero]
          go_wp2
          go_roundw
          case rel =>
            refine ⟨k + 1, by omega, by simp, ?_, ?_, ?_, setc (join hB HG.out) (by show w.heap.size ≤ w.heap.size + 1 + 1 + 1; omega)⟩
            · rw [← earsTo_set t wind voice house k hlt _ HBF.out.symm]; exact heap_set_same _ ((HG.out.block _ hgl).trans HROW2.out)
            · rw [Below.heap_setCell _ _ _ _ (by show w.heap.size + 1 + 1 ≠ w.heap.size + 1 + 1 + 1; omega), HG.out.block _ (by omega)]; exact HRES2.out
            · rw [Below.heap_setCell _ _ _ _ (by show w.heap.size ≠ w.heap.size + 1 + 1 + 1; omega), HG.out.block _ (by omega)]; exact HBOX.out
          case measure => simp [intOf]; omega
      · have hv := HT.out.no k hlt (fun h => hst h.2)
        have hidx := fun W => idx_arr und130 agg31 siz31 hlt hv W
        have hbf : hearB t wind voice house k = false := by unfold hearB; simp only [hst, decide_false, Bool.false_and]
        have HBF := Lib.hid hbf
        clear hv hbf
        go_wp2_with fail
        refine Rs.region_det 12 [[], [], [1], [1, 2], [1, 2, 3], [1, 2, 3, 4], [1, 2, 3, 4], [1, 2, 3, 4], [1, 2, 3, 4, 6, 7], [1, 2, 3, 4, 6, 7, 8], [1, 2, 3, 4, 5, 6, 7, 8, 9], [1, 2, 3, 4, 5, 6, 7, 8, 9, 10]]
          [some 15, some 16, some 17, some 18, some 19, some 20, some 21, some 22, some 23, some 24, some 25, some 26]
          (fun i => [.int .i64 k, .slice none 0 0, .int .i64 0, .bool false, .bool false, undef, undef, undef, undef, undef, undef, .bool false].getD i undef) (by kernel_rfl) (by kernel_rfl) rfl ?_ ?_
        · refine ⟨.plain rfl ?_, .plain rfl ?_, .plain rfl ?_, .plain rfl ?_, .plain rfl ?_, .off rfl rfl, .off rfl rfl, .off rfl rfl, .off rfl rfl, .off rfl rfl, .off rfl rfl, .plain rfl ?_, trivial⟩
          all_goals
            intro w' hG
            simp [go_sem, Rs.look]
        · intro w' hG
          obtain ⟨hcG, hfG⟩ := kept hG
          have hzG := hG.size
          have HG := Lib.hid hG
          clear hG
          simp only [Rs.canon, Rs.dstOf, List.range_succ, List.range_zero, List.nil_append, List.cons_append, List.foldl_cons, List.foldl_nil, List.drop_succ_cons, List.drop_zero, List.getElem?_toArray, List.getElem?_cons_succ, List.getElem?_cons_zero, Option.bind_some, Act.put, List.getD_cons_succ, List.getD_cons_zero, List.setIfInBounds_toArray, List.set_cons_succ, List.set_cons_zero]
          go_wp2
          go_roundw
          case rel =>
            refine ⟨k + 1, by omega, by simp, ?_, ?_, ?_, setc (join hB HG.out) (by show w.heap.size ≤ w.heap.size + 1 + 1 + 1; omega)⟩
            · rw [← earsTo_set t wind voice house k hlt _ HBF.out.symm]; exact heap_set_same _ ((HG.out.block _ hgl).trans HROW2.out)
            · rw [Below.heap_setCell _ _ _ _ (by show w.heap.size + 1 + 1 ≠ w.heap.size + 1 + 1 + 1; omega), HG.out.block _ (by omega)]; exact HRES2.out
            · rw [Below.heap_setCell _ _ _ _ (by show w.heap.size ≠ w.heap.size + 1 + 1 + 1; omega), HG.out.block _ (by omega)]; exact HBOX.out
          case measure => simp [intOf]; omega
    · have hkk : k = 30 := by omega
      subst hkk
      obtain ⟨A, hA⟩ : ∃ A, A = (earsTo t wind voice house 30).toArray := ⟨_, rfl⟩
      rw [← hA] at hrow
      have hAsz : A.size = 30 := by rw [hA]; simp [earsTo_len]
      have hone : A.all (·.oneCell') = true := by
        rw [hA]; unfold earsTo; rw [Array.all_eq_true]; intro i hi; simp; rfl
      have hfin : A = ((ears t wind voice house).map Value.bool).toArray := by rw [hA, earsTo_all]
      have hi := size128
      rw [← hAsz] at hi
      have hthere : wr.there (w.heap.size + 1 + 1) 0 A.size := fun j hj => by
        rw [Nat.zero_add, cell_of_row _ _ _ _ _ _ hres, frozen_of_row _ _ _ _ _ hres]
        exact ⟨by simp; omega, rfl⟩
      have HROW2 := Lib.hid hrow
      have HRES2 := Lib.hid hres
      have HI2 := Lib.hid hi
      have HTH := Lib.hid hthere
      have HON := Lib.hid hone
      have HSZ := Lib.hid hAsz
      have HFIN := Lib.hid hfin
      clear hrow hres hbox hi hthere hone hAsz hfin hA
      go_wp2_with (first | (with_reducible refine wpList_load_row rfl 124 _ rfl (w.heap.size + 1 + 1 + 1) rfl 124 A (0, 0) _ HROW2.out und128 rfl HI2.out ?_) | (with_reducible refine wpList_store_mid rfl 124 _ _ rfl (w.heap.size + 1 + 1) 0 A rfl rfl HTH.out HI2.out HON.out ?_))
      have hh : (wr.setCells (w.heap.size + 1 + 1) 0 A.toList).heap[w.heap.size + 1 + 1]? = some (.cells A 124 (0, 0)) := by
        rw [heap_setCells _ _ _ _ _ _ _ HRES2.out, setFrom_all _ _ (by rw [Array.length_toList, HSZ.out]; simp)]
      refine bodyPost_ret (results_cell_row rfl _ _ (w.heap.size + 1 + 1) 124 A (0, 0) _ rfl hh und128 rfl HI2.out) rfl ⟨by rw [HFIN.out], below_setCells' (by omega) _ _ _ hB⟩
end Go.Proofs.YtimedmkpenbmkaaGreat

namespace Go.Proofs.YtimedmkpenbmkaaGreat
open Go.RowKit Go.Shelf
set_option linter.unusedSimpArgs false
set_option linter.unusedVariables false

theorem foldl_setFrom : ∀ (es : List Value) (k off : Nat) (cells : Array Value), (es.zipIdx k).foldl (fun (cs : Array Value) (p : Value × Nat) => cs.setIfInBounds (off + p.2) p.1) cells = setFrom cells (off + k) es
  | [], _, _, _ => rfl
  | e :: es, k, off, cells => by
    rw [List.zipIdx_cons, List.foldl_cons, foldl_setFrom es (k + 1) off, setFrom]
    rfl
theorem foldl_setFrom_arr (es : Array Value) (off : Nat) (cells : Array Value) : es.zipIdx.foldl (fun (cs : Array Value) (p : Value × Nat) => cs.setIfInBounds (off + p.2) p.1) cells = setFrom cells off es.toList := by
  have := foldl_setFrom es.toList 0 off cells
  rw [Nat.add_zero] at this
  rw [← this, ← Array.foldl_toList]
  simp

theorem fill_cons (place : Nat → Option (Nat × Nat)) (cells : Array Value) (i : Nat) (v : Value) (rest : List (Nat × Value)) {off : Nat} (h : place i = some (off, v.cells.size)) (hs : off + v.cells.size ≤ cells.size) :
    Instr.fill place cells ((i, v) :: rest) = Instr.fill place (setFrom cells off v.cells.toList) rest := by
  have hc : (decide (v.cells.size ≠ v.cells.size) || decide (off + v.cells.size > cells.size)) = false := by simp; omega
  rw [Instr.fill]
  simp only [h]
  rw [if_neg (by simp; omega)]
  rw [foldl_setFrom_arr]


theorem run_build_struct {t : TypeId} {fields : Array Field} {places : Array (Nat × Nat)} {zero : Array Value} (hu : Tryz.prog.underlying t = some (.struct fields))
    (hp : ∀ w, (fields.mapM (fun f => do pure (f.offset, ← sizeOf f.type)) : Sem (Array (Nat × Nat))).run Tryz.prog w = .ok places w) (hz : ∀ w, (zeroValue t).run Tryz.prog w = .ok (.agg zero) w)
    {parts : Array (Nat × Value)} {cells : Array Value} (hf : Instr.fill (places[·]?) zero parts.toList = some cells) (w : World) :
    (Instr.build t parts).run Tryz.prog w = .ok (.agg cells) w := by
  unfold Instr.build
  simp only [Sem.run_bind, hz, Result.andThen_ok, run_underlying hu, hp, Value.cells, hf]
  rfl

theorem setFrom_two {c : Array Value} {a b : List Value} (h : c.size = a.length + b.length) : setFrom (setFrom c 0 a) a.length b = (a ++ b).toArray := by
  apply Array.ext_getElem?
  intro j
  rw [get_setFrom _ _ _ _ (by rw [size_setFrom]; omega), get_setFrom _ _ _ _ (by omega)]
  simp only [List.getElem?_toArray]
  by_cases h1 : j < a.length
  · rw [if_neg (by omega), if_pos (by omega), List.getElem?_append_left h1]; rfl
  · by_cases h2 : j < a.length + b.length
    · rw [if_pos (by omega), List.getElem?_append_right (by omega)]
    · rw [if_neg (by omega), if_neg (by omega), Array.getElem?_eq_none (by omega), List.getElem?_eq_none (by simp; omega)]

noncomputable def f135 : Array Field := match Tryz.prog.underlying 126 with | some (.struct fs) => fs | _ => #[]
theorem und135 : Tryz.prog.underlying 126 = some (.struct f135) := by kernel_rfl
theorem plc135 (w : World) : (f135.mapM (fun f => do pure (f.offset, ← sizeOf f.type)) : Sem (Array (Nat × Nat))).run Tryz.prog w = .ok #[(0, 1), (1, 30)] w := by kernel_rfl
theorem zero135 (w : World) : (zeroValue 126).run Tryz.prog w = .ok (.agg ((.int .i64 0 :: List.replicate 30 (.bool false)).toArray)) w := by kernel_rfl
theorem build135 (h : Int) (es : List Value) (he : es.length = 30) (w : World) :
    (Instr.build 126 #[(0, .int .i64 h), (1, .agg es.toArray)]).run Tryz.prog w = .ok (.agg ((.int .i64 h :: es).toArray)) w := by
  refine run_build_struct und135 plc135 zero135 ?_ w
  rw [fill_cons (off := 0) _ _ 0 (.int .i64 h) _ rfl (by simp [Value.cells]), fill_cons (off := 1) _ _ 1 (.agg es.toArray) _ (by simp [Value.cells, he]) (by rw [size_setFrom]; simp [Value.cells, he]), Instr.fill]
  congr 1
  have := setFrom_two (c := ((.int .i64 0 :: List.replicate 30 (.bool false) : List Value)).toArray) (a := [.int .i64 h]) (b := es) (by simp [he])
  simpa [Value.cells] using this
noncomputable def f192 : Array Field := match Tryz.prog.underlying 181 with | some (.struct fs) => fs | _ => #[]
theorem und192 : Tryz.prog.underlying 181 = some (.struct f192) := by kernel_rfl
theorem plc192 (w : World) : (f192.mapM (fun f => do pure (f.offset, ← sizeOf f.type)) : Sem (Array (Nat × Nat))).run Tryz.prog w = .ok #[(0, 30), (30, 1)] w := by kernel_rfl
theorem zero192 (w : World) : (zeroValue 181).run Tryz.prog w = .ok (.agg ((List.replicate 30 (Value.bool false) ++ [Value.int .i64 0]).toArray)) w := by kernel_rfl
theorem build192 (m : Int) (es : List Value) (he : es.length = 30) (w : World) :
    (Instr.build 181 #[(0, .agg es.toArray), (1, .int .i64 m)]).run Tryz.prog w = .ok (.agg ((es ++ [Value.int .i64 m]).toArray)) w := by
  refine run_build_struct und192 plc192 zero192 ?_ w
  rw [fill_cons (off := 0) _ _ 0 (.agg es.toArray) _ (by simp [Value.cells, he]) (by simp [Value.cells, he]), fill_cons (off := 30) _ _ 1 (.int .i64 m) _ rfl (by rw [size_setFrom]; simp [Value.cells]), Instr.fill]
  congr 1
  have := setFrom_two (c := ((List.replicate 30 (Value.bool false) ++ [Value.int .i64 0] : List Value)).toArray) (a := es) (b := [.int .i64 m]) (by simp [he])
  rw [he] at this
  simpa [Value.cells] using this

theorem wpList_build2 {P : Program} {ops : Array Oper} {rest : List Oper} {o : Oper} {a : Act} {w : World} {Q : Exit → Act → World → Prop} (hgd : o.guard = none) (t : TypeId) (i j : Nat) (x y : Operand) (ho : o.op = .build t #[(i, x), (j, y)]) (u v r : Value)
    (hx : a.eval x = u) (hy : a.eval y = v) (hr : (Instr.build t #[(i, u), (j, v)]).run P w = .ok r w) (h : wpList P ops Q rest (a.put o.dst r) w) : wpList P ops Q (o :: rest) a w :=
  wpList_plain hgd fun K hK => by
    unfold Oper.wp execOp
    simp only [ho, List.map_toArray, List.map_cons, List.map_nil, hx, hy, Sem.run_bind, hr, Result.andThen_ok, Sem.run_pure]
    exact hK _ _ h
theorem wpList_bslice1 {P : Program} {ops : Array Oper} {rest : List Oper} {o : Oper} {a : Act} {w w' : World} {Q : Exit → Act → World → Prop} (hgd : o.guard = none) (t : TypeId) (x : Operand) (ho : o.op = .buildSlice t 1 #[(0, x)]) (u r : Value)
    (hx : a.eval x = u) (hr : (Instr.buildSlice t 1 #[(0, u)]).run P w = .ok r w') (h : wpList P ops Q rest (a.put o.dst r) w') : wpList P ops Q (o :: rest) a w :=
  wpList_plain hgd fun K hK => by
    unfold Oper.wp execOp
    simp only [ho, List.map_toArray, List.map_cons, List.map_nil, hx, Sem.run_bind, hr, Result.andThen_ok, Sem.run_pure]
    exact hK _ _ h

/-- a slice literal of one element of several cells -/
theorem run_buildSlice_one {t e : TypeId} {size : Nat} {zero : Array Value} (hu : Tryz.prog.underlying t = some (.slice e)) (hs : ∀ w, (sizeOf e).run Tryz.prog w = .ok size w) (hz : ∀ w, (zeroValue e).run Tryz.prog w = .ok (.agg zero) w)
    (hn : ∀ (cs : Array Value) w, (newRow e cs).run Tryz.prog w = .ok ⟨w.heap.size, 0, none⟩ (w.alloc (.cells cs e))) (h0 : 0 < size) (hsz : zero.size = size) (hbig : size ≤ 16777216) {cs : Array Value} (hc : cs.size = size) (w : World) :
    (Instr.buildSlice t 1 #[(0, .agg cs)]).run Tryz.prog w = .ok (.slice (some ⟨w.heap.size, 0, none⟩) 1 1) (w.alloc (.cells cs e)) := by
  have hfill : Instr.fill (fun i => some (i * size, size)) ((Array.range (1 * size)).map (zero[· % zero.size]!)) [(0, .agg cs)] = some cs := by
    rw [fill_cons (off := 0) _ _ 0 (.agg cs) _ (by simp [Value.cells, hc]) (by simp [Value.cells, hc]), Instr.fill]
    have h := setFrom_all cs.toList ((Array.range (1 * size)).map (zero[· % zero.size]!)) (by rw [Array.size_map, Array.size_range, Array.length_toList, hc, Nat.one_mul])
    exact congrArg some h
  unfold Instr.buildSlice
  have h1 : ¬ (1 * size > 2 ^ 24) := by omega
  have h2 : ¬ (1 * size = 0) := by omega
  simp only [Sem.run_bind, run_underlying hu, hs, Result.andThen_ok, h1, h2, if_false, hz, Sem.run_pure, Value.cells, hfill, hn]
end Go.Proofs.YtimedmkpenbmkaaGreat

namespace Go.Proofs.YtimedmkpenbmkaaGreat
open Go.RowKit Go.Shelf
set_option linter.unusedSimpArgs false
set_option linter.unusedVariables false

theorem A_info135 : (Tryz.prog.info? 126).map (fun i => (i.zero, i.size, i.bytes)) = some (some (.agg ((.int .i64 0 :: List.replicate 30 (.bool false)).toArray)), 31, 40) := by kernel_rfl
theorem A_und132 : Tryz.prog.underlying 111 = some (.slice 126) := by kernel_rfl
theorem siz135 (w : World) : (sizeOf 126).run Tryz.prog w = .ok 31 w := by kernel_rfl
theorem newrow135 (cs : Array Value) (w : World) : (newRow 126 cs).run Tryz.prog w = .ok ⟨w.heap.size, 0, none⟩ (w.alloc (.cells cs 126)) := by rfl
theorem bslice132 {cs : Array Value} (hc : cs.size = 31) (w : World) : (Instr.buildSlice 111 1 #[(0, .agg cs)]).run Tryz.prog w = .ok (.slice (some ⟨w.heap.size, 0, none⟩) 1 1) (w.alloc (.cells cs 126)) :=
  run_buildSlice_one A_und132 siz135 zero135 newrow135 (by omega) (by simp) (by omega) hc w

theorem bslice132_row (h : Int) (es : List Value) (he : es.length = 30) (w : World) : (Instr.buildSlice 111 1 #[(0, .agg (Value.int .i64 h :: es).toArray)]).run Tryz.prog w = .ok (.slice (some ⟨w.heap.size, 0, none⟩) 1 1) (w.alloc (.cells (Value.int .i64 h :: es).toArray 126)) :=
  bslice132 (by simp [he]) w
/-- the cells of houses with what they hear -/
def lisV (l : List (Nat × List Bool)) : List Value := l.flatMap fun x => .int .i64 (x.1 : Int) :: x.2.map .bool
theorem lisV_snoc (l : List (Nat × List Bool)) (x : Nat × List Bool) : lisV (l ++ [x]) = lisV l ++ (.int .i64 (x.1 : Int) :: x.2.map .bool) := by simp [lisV]
/-- the houses that count, with what they hear -/
def lisTo (t : Hr.Town) (wind voice : Int) (cnt : Nat → Bool) (k : Nat) : List (Nat × List Bool) := ((List.range k).filter fun p => t.at p == 1 && cnt p).map fun p => (p, ears t wind voice p)
def lis (t : Hr.Town) (wind voice : Int) (cnt : Nat → Bool) : List (Nat × List Bool) := lisTo t wind voice cnt t.len
theorem lisTo_yes {t : Hr.Town} {wind voice : Int} {cnt : Nat → Bool} {k : Nat} (h : (t.at k == 1 && cnt k) = true) : lisTo t wind voice cnt (k + 1) = lisTo t wind voice cnt k ++ [(k, ears t wind voice k)] := by
  unfold lisTo; rw [List.range_succ, List.filter_append, List.filter_cons_of_pos (by exact h)]; simp
theorem lisTo_no {t : Hr.Town} {wind voice : Int} {cnt : Nat → Bool} {k : Nat} (h : (t.at k == 1 && cnt k) = false) : lisTo t wind voice cnt (k + 1) = lisTo t wind voice cnt k := by
  unfold lisTo; rw [List.range_succ, List.filter_append, List.filter_cons_of_neg (by rw [h]; simp)]; simp
theorem lisTo_len (t : Hr.Town) (wind voice : Int) (cnt : Nat → Bool) (k : Nat) : (lisTo t wind voice cnt k).length ≤ k := by
  unfold lisTo; rw [List.length_map]; have := List.length_filter_le (fun p => t.at p == 1 && cnt p) (List.range k); simpa using this

set_option maxHeartbeats 2000000 in
set_option maxRecDepth 100000 in
theorem listeners_any (t : Hr.Town) (hok : t.Ok) (wind voice : Int) (b o cap : Nat) (g : Value) (cf : FuncId) (caps : Array Value) (cnt : Nat → Bool) (vs : Array Value) (w : World) (hI : Ints w b o t.plots) (hT : TabsTo t wind 30 w vs) (hcf : ∀ args W, (callFunc cf args).run Tryz.prog W = .ok (.enter cf args) W)
    (hCnt : ∀ p : Nat, p < t.len → ∀ W, Below w.heap.size w W → Calls Tryz.prog cf (#[.int .i64 p] ++ caps) W fun e w' => e = .returned (.bool (cnt p)) ∧ Below W.heap.size W w') :
    Calls Tryz.prog 73 #[.agg #[.int .i64 t.wide, .slice (some ⟨b, o, none⟩) t.plots.length cap, .int .i64 wind, .int .i64 voice, g, .func (.func cf) #[] caps], .agg vs] w fun e w' =>
      ∃ v, e = .returned v ∧ w'.ownsRow (w.heap.size + 1 + 1) 126 31 v (lis t wind voice cnt).length (lisV (lis t wind voice cnt)) ∧ Below w.heap.size w w' := by
  obtain ⟨i0, hi, hz0, hz1, hz2⟩ := info_parts A_info135
  have HT := Lib.hid hT
  have HI := Lib.hid hI
  have HCNT := Lib.hid hCnt
  have h30 : t.plots.length ≤ 30 := hok.n30
  have hbl := hI.1
  have hsz := hT.size
  have hti := tabs_size130
  rw [← hsz] at hti
  have HTI := Lib.hid hti
  have hrow0 : ∀ o1, ((w.alloc o1).alloc (.cells vs 121)).heap[w.heap.size + 1]? = some (.cells vs 121 (0, 0)) := fun o1 => by
    have := heap_alloc_last (w.alloc o1) (.cells vs 121); simpa using this
  have hbox0 : ∀ cs o2, ((w.alloc (.cells cs 117)).alloc o2).heap[w.heap.size]? = some (.cells cs 117 (0, 0)) := fun cs o2 => by
    rw [Below.heap_alloc _ _ _ (by simp)]; exact heap_alloc_last _ _
  have hbl0 : ∀ o1 o2, Below w.heap.size w ((w.alloc o1).alloc o2) := fun _ _ => al (al (Below.refl _ _) _) _
  clear hI hT hCnt hti hsz
  go_enter Tryz.func73, Tryz.ntmps73
  go_wp2_with fail
  go_loopw [5, 6, 11] (fun v u i wr => ∃ k : Nat, k ≤ t.len ∧ i = .int .i64 k ∧ wr.ownsRow (w.heap.size + 1 + 1) 126 31 v (lisTo t wind voice cnt k).length (lisV (lisTo t wind voice cnt k)) ∧
      wr.heap[w.heap.size + 1]? = some (.cells vs 121 (0, 0)) ∧ wr.heap[w.heap.size]? = some (.cells #[.int .i64 t.wide, .slice (some ⟨b, o, none⟩) t.plots.length cap, .int .i64 wind, .int .i64 voice, g, .func (.func cf) #[] caps] 117 (0, 0)) ∧ Below w.heap.size w wr)
    (fun _ _ i _ => t.len - (intOf i).toNat)
  case atStart => exact ⟨0, Nat.zero_le _, rfl, World.ownsRow_nil _ _ _ _, hrow0 _, hbox0 _ _, hbl0 _ _⟩
  case round =>
    clear hrow0 hbox0 hbl0
    obtain ⟨k, hk, rfl, hown, hrow, hbox, hB⟩ := hrel
    obtain ⟨c0, c1, c2, c3, c4, c5⟩ := voice_cells hbox
    have hl0 : w.heap.size + 1 < wr.heap.size := (Array.getElem?_eq_some_iff.1 hrow).1
    have HO := Lib.hid hown
    have HROW := Lib.hid hrow
    have HBOX := Lib.hid hbox
    have HB := Lib.hid hB
    have HI2 := Lib.hid (HI.out.below hB hbl)
    by_cases hlt : k < t.len
    · have hlt' : (k : Int) < t.plots.length := by have : t.plots.length = t.len := rfl; omega
      have hcp := HI2.out.2 k hlt
      obtain ⟨x, hx⟩ : ∃ x, t.plots.getD k 0 = x := ⟨_, rfl⟩
      have hxx : t.at k = x := hx
      rw [hx] at hcp
      have HX := Lib.hid hxx
      clear hx hxx hown hrow hbox hB
      by_cases hx1 : x = 1
      · subst hx1
        go_wp2_with fail
        refine (HCNT.out k hlt wr HB.out).mono ?_
        rintro e w5 ⟨rfl, hB5⟩
        cases hc : cnt k with
        | false =>
          have hno : (t.at k == 1 && cnt k) = false := by rw [hc]; simp
          have HNO := Lib.hid hno
          have HBW := Lib.hid (join HB.out hB5)
          have HO5 := Lib.hid (own_below HO.out hB5)
          have HR5 := Lib.hid ((hB5.block _ hl0).trans HROW.out)
          have HBX5 := Lib.hid ((hB5.block _ (Nat.lt_of_succ_lt hl0)).trans HBOX.out)
          clear hno hc hB5
          go_wp2
          go_roundw
          case rel => exact ⟨k + 1, by omega, by simp, by rw [lisTo_no HNO.out]; exact HO5.out, HR5.out, HBX5.out, HBW.out⟩
          case measure => simp [intOf]; omega
        | true =>
          have hyes : (t.at k == 1 && cnt k) = true := by rw [hc, HX.out]; rfl
          have HYES := Lib.hid hyes
          have HBW := Lib.hid (join HB.out hB5)
          have HO5 := Lib.hid (own_below HO.out hB5)
          have HR5 := Lib.hid ((hB5.block _ hl0).trans HROW.out)
          have HBX5 := Lib.hid ((hB5.block _ (Nat.lt_of_succ_lt hl0)).trans HBOX.out)
          have HT5 := Lib.hid (HT.out.below HBW.out)
          have hz5 := hB5.size
          have hl5 : w.heap.size + 1 + 1 ≤ w5.heap.size := by omega
          obtain ⟨d0, d1, d2, d3, d4, d5⟩ := voice_cells HBX5.out
          clear hyes hc hB5 c0 c1 c2 c3 c4 c5
          go_wp2_with (first | (with_reducible refine wpList_load_row rfl 121 _ rfl (w.heap.size + 1) rfl 121 vs (0, 0) _ HR5.out und130 rfl HTI.out ?_) | fail)
          refine (hears_any t hok wind voice k hlt _ _ _ vs _ HT5.out).mono ?_
          rintro e w6 ⟨rfl, hB6⟩
          have HBW6 := Lib.hid (join HBW.out hB6)
          have HO6 := Lib.hid (own_below HO5.out hB6)
          have HR6 := Lib.hid ((hB6.block _ (by omega)).trans HR5.out)
          have HBX6 := Lib.hid ((hB6.block _ (by omega)).trans HBX5.out)
          have hz6 := hB6.size
          have hl6 : w.heap.size + 1 + 1 ≤ w6.heap.size := by omega
          obtain ⟨es, hes⟩ : ∃ es, es = (ears t wind voice k).map Value.bool := ⟨_, rfl⟩
          have hel : es.length = 30 := by rw [hes]; simp [ears_len]
          rw [← hes]
          have HES := Lib.hid hes
          have HEL := Lib.hid hel
          have hone : ∀ u ∈ (Value.int .i64 (k : Int) :: es), u.oneCell' = true := by
            intro u hu
            rcases List.mem_cons.1 hu with rfl | hu
            · rfl
            · rw [hes] at hu; obtain ⟨b', _, rfl⟩ := List.mem_map.1 hu; rfl
          have HONE := Lib.hid hone
          have hll := lisTo_len t wind voice cnt k
          have h30' : k < 30 := by have := hok.n30; omega
          clear hes hone hB6 d0 d1 d2 d3 d4 d5
          go_wp2_with (first | (with_reducible refine wpList_build2 rfl 126 0 1 _ _ rfl (.int .i64 (k : Int)) (.agg es.toArray) _ rfl rfl (build135 (k : Int) es hel _) ?_) | (with_reducible refine wpList_bslice1 rfl 111 _ rfl (.agg (Value.int .i64 (k : Int) :: es).toArray) _ rfl (bslice132_row (k : Int) es hel _) ?_) | (at_builtin; refine wpList_append_own _ rfl _ _ 111 rfl (w.heap.size + 1 + 1) 126 i0 _ 31 40 A_und132 hi hz0 hz1 hz2 rfl (by decide) _ _ _ rfl (HO6.out.alloc _) ⟨w6.heap.size, 0, none⟩ 1 1 (Value.int .i64 (k : Int) :: es) rfl ?c0 ?c1 HONE.out ?c3 ?c4 ?c5 ?_))
          case c0 => simp [HEL.out]
          case c1 =>
            intro j u hj
            have hadd : (⟨w6.heap.size, 0, none⟩ : Addr).add j = ⟨w6.heap.size, j, none⟩ := by unfold Addr.add; split <;> simp_all
            rw [hadd, cell_of_row _ _ _ _ _ _ (heap_alloc_last _ _)]
            simpa using hj
          case c3 => unfold maxLen; omega
          case c4 => omega
          case c5 => simp; omega
          intro v' w7 hown7 hgrow _
          have hL7 := below_grown (al2 HBW6.out (by omega) _) (HO6.out.alloc _) (by omega) (by simp; omega) hgrow
          have hR7 := (hgrow.block (w.heap.size + 1) (by simp; omega) (fun e => by have := (HO6.out.lt _ e.symm).1; omega)).trans ((Below.heap_alloc _ _ _ (by omega)).trans HR6.out)
          have hX7 := (hgrow.block (w.heap.size) (by simp; omega) (fun e => by have := (HO6.out.lt _ e.symm).1; omega)).trans ((Below.heap_alloc _ _ _ (by omega)).trans HBX6.out)
          have HOWN7 := Lib.hid hown7
          have HL7 := Lib.hid hL7
          have HR7 := Lib.hid hR7
          have HX7 := Lib.hid hX7
          clear hown7 hgrow hL7 hR7 hX7
          go_wp2
          go_roundw
          case rel => exact ⟨k + 1, by omega, by simp, by rw [lisTo_yes HYES.out, lisV_snoc, List.length_append, ← HES.out]; exact HOWN7.out, HR7.out, HX7.out, HL7.out⟩
          case measure => simp [intOf]; omega
      · have hx1' : (x == 1) = false := by simpa using hx1
        have hno : (t.at k == 1 && cnt k) = false := by rw [HX.out, hx1']; rfl
        have HNO := Lib.hid hno
        clear hno hx1
        go_wp2
        go_roundw
        case rel => exact ⟨k + 1, by omega, by simp, by rw [lisTo_no HNO.out]; exact HO.out, HROW.out, HBOX.out, HB.out⟩
        case measure => simp [intOf]; omega
    · have hkk : k = t.plots.length := by have : t.plots.length = t.len := rfl; omega
      clear hown hrow hbox hB
      subst hkk
      go_wp2
      go_ret
      exact ⟨_, rfl, HO.out, HB.out⟩
end Go.Proofs.YtimedmkpenbmkaaGreat
