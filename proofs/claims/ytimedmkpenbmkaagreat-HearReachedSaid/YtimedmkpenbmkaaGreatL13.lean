import Derived.Test.YtimedmkpenbmkaaGreatRae
import Derived.Deep.CutRange
import Derived.Deep.DeepCutAuto
namespace Go.Proofs.YtimedmkpenbmkaaGreat
open Go.RowKit Go.Shelf
set_option linter.unusedSimpArgs false
set_option linter.unusedVariables false

/-- what stands in a law of a town and an air -/
structure Mo (t : Hr.Town) (pv : Value) (c7 c8 : Nat) (wind voice : Int) (w W : World) : Prop where
  b7 : W.heap[c7]? = some (.cells #[.int .i64 t.wide, pv] 25 (0, 0))
  b8 : W.heap[c8]? = some (.cells #[.int .i64 wind, .int .i64 voice] 29 (0, 0))
  rp : RdI W pv t.plots
  bel : Below w.heap.size w W
theorem Mo.below {t : Hr.Town} {pv : Value} {c7 c8 : Nat} {wind voice : Int} {w W W' : World} (h : Mo t pv c7 c8 wind voice w W) (hB : Below W.heap.size W W') : Mo t pv c7 c8 wind voice w W' :=
  ⟨(hB.block _ (Array.getElem?_eq_some_iff.1 h.b7).1).trans h.b7, (hB.block _ (Array.getElem?_eq_some_iff.1 h.b8).1).trans h.b8, h.rp.below hB, join h.bel hB⟩
theorem Mo.aft {t : Hr.Town} {pv : Value} {c7 c8 : Nat} {wind voice : Int} {w W W' : World} {g : Nat} (h : Mo t pv c7 c8 wind voice w W) (hA : Aft g W W') (h7 : c7 ≠ g) (h8 : c8 ≠ g) (ho : Off g pv) (hg : w.heap.size ≤ g) : Mo t pv c7 c8 wind voice w W' :=
  ⟨(hA.same _ h7 (Array.getElem?_eq_some_iff.1 h.b7).1).trans h.b7, (hA.same _ h8 (Array.getElem?_eq_some_iff.1 h.b8).1).trans h.b8, h.rp.hold hA ho, h.bel.trans (Aft.low hA hg h.bel.size)⟩
theorem Mo.cs {t : Hr.Town} {pv : Value} {c7 c8 : Nat} {wind voice : Int} {w W : World} (h : Mo t pv c7 c8 wind voice w W) :
    W.cell? ⟨c7, 0, none⟩ = some (.int .i64 t.wide) ∧ W.cell? ⟨c7, 1, none⟩ = some pv ∧ W.cell? ⟨c8, 0, none⟩ = some (.int .i64 wind) ∧ W.cell? ⟨c8, 1, none⟩ = some (.int .i64 voice) ∧ c7 < W.heap.size ∧ c8 < W.heap.size := by
  obtain ⟨a, b⟩ := blk_cells2 h.b7
  obtain ⟨c, d⟩ := blk_cells2 h.b8
  exact ⟨a, b, c, d, (Array.getElem?_eq_some_iff.1 h.b7).1, (Array.getElem?_eq_some_iff.1 h.b8).1⟩
/-- .. and of its houses -/
structure Ro (t : Hr.Town) (pv : Value) (c7 c8 : Nat) (wind voice : Int) (hv : Value) (w W : World) : Prop where
  mo : Mo t pv c7 c8 wind voice w W
  rh : RdI W hv (kindIdx t.plots 1)
theorem Ro.below {t : Hr.Town} {pv : Value} {c7 c8 : Nat} {wind voice : Int} {hv : Value} {w W W' : World} (h : Ro t pv c7 c8 wind voice hv w W) (hB : Below W.heap.size W W') : Ro t pv c7 c8 wind voice hv w W' :=
  ⟨h.mo.below hB, h.rh.below hB⟩
theorem Ro.aft {t : Hr.Town} {pv : Value} {c7 c8 : Nat} {wind voice : Int} {hv : Value} {w W W' : World} {g : Nat} (h : Ro t pv c7 c8 wind voice hv w W) (hA : Aft g W W') (h7 : c7 ≠ g) (h8 : c8 ≠ g) (ho : Off g pv) (hoh : Off g hv) (hg : w.heap.size ≤ g) : Ro t pv c7 c8 wind voice hv w W' :=
  ⟨h.mo.aft hA h7 h8 ho hg, h.rh.hold hA hoh⟩
theorem blk_ne {W : World} {c g : Nat} {cs cur : Array Value} {e : TypeId} {z z' : Nat × Nat} (h : W.heap[c]? = some (.cells cs e z)) (hg : W.heap[g]? = some (.cells cur 3 z')) (he : e ≠ 3) : c ≠ g := by
  rintro rfl
  rw [h] at hg
  injection hg with hg
  injection hg with _ hg
  exact he hg

theorem entered28 : Entered 28 := fun args W => by kernel_rfl
set_option maxHeartbeats 1000000 in
theorem ask28 (c : Nat) (v : Value) (D : List Int) (W : World) (h : W.cell? ⟨c, 0, none⟩ = some v) (hR : RdI W v D) : AskI 28 (.pointer (some ⟨c, 0, none⟩)) (fun h => D.contains h) W := by
  intro x
  have hl : c < W.heap.size := by
    rcases Nat.lt_or_ge c W.heap.size with h' | h'
    · exact h'
    · simp [World.cell?, Array.getElem?_eq_none h'] at h
  have HC := Lib.hid (contains_rd v D x W hR)
  obtain ⟨_, a, cap, rfl, -⟩ := hR
  go_enter Tryz.func28, Tryz.ntmps28
  go_wp2_with fail
  refine HC.out.mono ?_
  rintro e w1 ⟨rfl, hB⟩
  have HB := Lib.hid hB
  clear HC hB
  go_wp2_with fail
  go_ret
  refine ⟨?_, HB.out⟩
  show Ending.returned (.bool (decide (x ∈ D))) = Ending.returned (.bool (D.contains x))
  congr 2; rw [Bool.eq_iff_iff]; simp

def spA8 (t : Hr.Town) (pv : Value) (QB B : Nat) : Nat → List Value → Value → World → Prop
  | 0, _, v, _ => v = .pointer (some ⟨QB, 0, none⟩)
  | 1, _, v, _ => ∃ wind voice, AirV wind voice ∧ v = .agg #[.int .i64 wind, .int .i64 voice]
  | 2, _, v, _ => v = .agg #[.int .i64 t.wide, pv]
  | 3, _, v, w => QB < B ∧ w.ownsRow B 3 1 v (kindIdx t.plots 1).length ((kindIdx t.plots 1).map (Value.int .i64))
  | 4, _, v, w => ∃ p c0 c1, v = .pointer (some ⟨p, 0, none⟩) ∧ QB < B ∧ B ≤ p ∧ w.heap[p]? = some (.cells #[c0, c1] 29 (0, 0))
  | 5, L, v, w => ∃ p wind voice, L.getD 4 undef = .pointer (some ⟨p, 0, none⟩) ∧ AirV wind voice ∧ QB < B ∧ B ≤ p ∧ w.heap[p]? = some (.cells #[.int .i64 wind, .int .i64 voice] 29 (0, 0))
  | 6, _, v, w => QB < B ∧ w.ownsRow B 3 1 v (kindIdx t.plots 1).length ((kindIdx t.plots 1).map (Value.int .i64))
  | _, _, _, _ => False
theorem spA8_stable (t : Hr.Town) (pv : Value) (QB : Nat) (ma : Option Addr) (n mc B : Nat) : ∀ i L v w w', spA8 t pv QB B i L v w → Ax QB ma n mc B w w' → spA8 t pv QB B i L v w' := by
  intro i L v w w' h hg
  match i with
  | 0 => exact h
  | 1 => exact h
  | 2 => exact h
  | 3 => exact ⟨h.1, hg.row h.1 h.2⟩
  | 6 => exact ⟨h.1, hg.row h.1 h.2⟩
  | 4 =>
    obtain ⟨p, c0, c1, h1, hq, h2, h3⟩ := h
    rcases hg.same p (Array.getElem?_eq_some_iff.1 h3).1 (by omega) with e | ⟨_, cs, wd, vc, _, e1, e2⟩
    · exact ⟨p, c0, c1, h1, hq, h2, e.trans h3⟩
    · exact ⟨p, _, _, h1, hq, h2, e2⟩
  | 5 =>
    obtain ⟨p, c0, c1, h1, hA, hq, h2, h3⟩ := h
    rcases hg.same p (Array.getElem?_eq_some_iff.1 h3).1 (by omega) with e | ⟨_, cs, wd, vc, hA', e1, e2⟩
    · exact ⟨p, c0, c1, h1, hA, hq, h2, e.trans h3⟩
    · exact ⟨p, _, _, h1, hA', hq, h2, e2⟩

set_option maxHeartbeats 8000000 in
set_option maxRecDepth 100000 in
theorem HearReached_any (ma : Option Addr) (n mc : Nat) (ma2 : Option Addr) (n2 mc2 : Nat) (w : World) (hM : RdB w ma n) (hM2 : RdB w ma2 n2) :
    Calls Tryz.prog 4 #[.slice ma n mc, .slice ma2 n2 mc2] w fun e w' => e = .returned (.bool true) ∧ Below w.heap.size w w' := by
  obtain ⟨i0, hi, hz0, hz1, hz2⟩ := info_parts A_info3
  have hB0 := below1 w (.cells #[.slice ma n mc, .int .i64 0, .int .u32 0] 108)
  have hBL := (bell_hung (mc := mc) hM).below (below1 _ (.cells #[.slice ma2 n2 mc2, .int .i64 0, .int .u32 0] 108))
  have hBQ := bell_hung (mc := mc2) (hM2.below hB0)
  rw [World.size_alloc] at hBQ
  have HBL := Lib.hid hBL
  have HBQ := Lib.hid hBQ
  have HM := Lib.hid hM
  have HM2 := Lib.hid hM2
  have HB0 := Lib.hid (al hB0 (.cells #[.slice ma2 n2 mc2, .int .i64 0, .int .u32 0] 108))
  clear hM hM2 hB0 hBL hBQ
  go_enter Tryz.func4, Tryz.ntmps4
  go_wp2_with fail
  refine (hang_any ma n mc w).mono ?_
  rintro e w1 ⟨rfl, rfl⟩
  go_wp2_with fail
  refine (hang_any ma2 n2 mc2 _).mono ?_
  rintro e w1 ⟨rfl, rfl⟩
  go_wp2_with fail
  refine (made_any w.heap.size ma n mc 24 (by omega) (by omega) _ HBL.out (fun hn mb mo e => by have := HM.out.2.1 hn mb mo e; simp; omega)).mono ?_
  rintro e w2 ⟨t, v, p, rfl, ho, hc, h24, hp, hp0, hbl, hh⟩
  have ok : t.Ok := by have := (town_ok hc).1; rwa [townOf_self] at this
  have HOK := Lib.hid ok
  have HC := Lib.hid hc
  have hsz2 := hh.size
  simp only [World.size_alloc] at hsz2 ho
  have hoffB := own_off (QB := w.heap.size) ho (by omega)
  have hoffQ := own_off (QB := w.heap.size + 1) ho (by omega)
  have hQ2 := HBQ.out.hold hh (show w.heap.size + 1 ≠ w.heap.size by omega) (fun hn mb mo e => by have := HM2.out.2.1 hn mb mo e; show mb ≠ w.heap.size; omega)
  have hB2 : Below w.heap.size w w2 := HB0.out.trans ((hh.mono (Kq := fun k => k < w.heap.size) (fun k (hk : k < w.heap.size) _ => show k ≠ w.heap.size by omega)).to_below (by simp; omega))
  obtain ⟨pa, pc, rfl⟩ := own_slice ho
  obtain ⟨W1, hW1⟩ : ∃ W1 : World, W1 = w2.alloc (.cells #[.int .i64 t.wide, .slice pa t.plots.length pc] 25) := ⟨_, rfl⟩
  have hs1 : W1.heap.size = w2.heap.size + 1 := by rw [hW1]; simp
  have hS2 : PvS t w2.heap.size (.slice pa t.plots.length pc) w.heap.size ma n mc W1 := by
    rw [hW1]; exact ⟨heap_alloc_last _ _, (RdI.own rfl rfl ho).below (below1 _ _), hbl.below (below1 _ _), by omega, hoffB⟩
  have HS2 := Lib.hid hS2
  have HQ2 := Lib.hid (show BellOk W1 (w.heap.size + 1) ma2 n2 mc2 by rw [hW1]; exact hQ2.below (below1 w2 (.cells #[.int .i64 t.wide, .slice pa t.plots.length pc] 25)))
  have HB2 := Lib.hid (show Below w.heap.size w W1 by rw [hW1]; exact al hB2 (.cells #[.int .i64 t.wide, .slice pa t.plots.length pc] 25))
  have HOQ := Lib.hid hoffQ
  have HOB : Hid (∀ g, w2.heap.size ≤ g → Off g (.slice pa t.plots.length pc)) := Lib.hid (fun g hg b o n c e => by
    have hne : t.plots ≠ [] := by intro e; have := (check_len hc).2; rw [e] at this; simp at this
    obtain ⟨b', o', e', -, hI⟩ := rd_ints (RdI.own rfl rfl ho) hne
    injection e with e1
    rw [e'] at e1
    injection e1 with e1
    injection e1 with e1
    have := hI.1
    omega)
  have HMA : Hid (n ≠ 0 → ∀ mb mo, ma = some ⟨mb, mo, none⟩ → mb < W1.heap.size) := Lib.hid (fun hn mb mo e => by have := HM.out.2.1 hn mb mo e; omega)
  have HM2L : Hid (n2 ≠ 0 → ∀ mb mo, ma2 = some ⟨mb, mo, none⟩ → mb < w.heap.size) := Lib.hid HM2.out.2.1
  have hqb : w.heap.size + 1 < w2.heap.size := by omega
  have hqb2 : w.heap.size < W1.heap.size := by omega
  have hl30 : t.plots.length ≤ 30 := HOK.out.n30
  have HW1 := Lib.hid hW1
  clear HBL HBQ ho hc hbl hh hB2 ok hp hp0 h24 HB0 hS2 hQ2 hoffB hoffQ HM HM2 hW1 hsz2
  go_wp2_with fail
  rw [← HW1.out]
  refine Rg.region_gen (Ax.isGr w.heap.size ma n mc W1.heap.size) 7 [[], [0], [], [0, 1, 2], [], [0, 1, 2, 3, 4], [0, 1, 2, 3, 4]] [some 39, some 40, some 41, some 42, some 8, none, some 9] (spA8 t (.slice pa t.plots.length pc) w.heap.size W1.heap.size) (by kernel_rfl) (by kernel_rfl) rfl (spA8_stable _ _ _ _ _ _ _) ?_ ?_
  · refine ⟨fun V w' hG hs => ?_, fun V w' hG hs => ?_, fun V w' hG hs => ?_, fun V w' hG hs => ?_, fun V w' hG hs => ?_, fun V w' hG hs => ?_, fun V w' hG hs => ?_, trivial⟩
    all_goals
      have hSr := HS2.out.ring (hG.bell HS2.out.bell) hG.aft
      obtain ⟨k0, k1⟩ := hSr.cs
    · rw [if_pos (by rfl)]
      exact Rg.GrowL.value (v := .pointer (some ⟨w.heap.size, 0, none⟩)) (w' := w') (by simp [go_sem, Rs.look]) ((Ax.isGr w.heap.size ma n mc W1.heap.size).refl _) rfl
    · have e0 : V 0 = .pointer (some ⟨w.heap.size, 0, none⟩) := hs 0 (by simp)
      rw [if_pos (by rfl)]
      refine Rg.GrowL.call (Ax.isGr w.heap.size ma n mc W1.heap.size) (f := 17) (args := #[.pointer (some ⟨w.heap.size, 0, none⟩)]) (by simp [go_sem, Rs.look, e0]) ?_
      refine (aired_any w.heap.size ma n mc trivial w' hSr.bell (fun hn mb mo e => Nat.lt_of_lt_of_le (HMA.out hn mb mo e) hG.size)).mono ?_
      rintro e w3 ⟨wind, voice, g0, g4, v1, v16, rfl, hbl, hH⟩
      exact ⟨_, rfl, .of_bell hH.out hbl.out, wind, voice, ⟨g0, g4, v1, v16⟩, rfl⟩
    · rw [if_pos (by rfl)]
      exact Rg.GrowL.value (v := .agg #[.int .i64 t.wide, .slice pa t.plots.length pc]) (w' := w') (by simp [go_sem, Rs.look, k0, k1]) ((Ax.isGr w.heap.size ma n mc W1.heap.size).refl _) rfl
    · have e2 : V 2 = .agg #[.int .i64 t.wide, .slice pa t.plots.length pc] := hs 2 (by simp)
      rw [if_pos (by rfl)]
      refine Rg.GrowL.call (Ax.isGr w.heap.size ma n mc W1.heap.size) (f := 18) (args := #[.agg #[.int .i64 t.wide, .slice pa t.plots.length pc]]) (by simp [go_sem, Rs.look, e2]) ?_
      refine (houses_any t.wide pa pc t.plots (by omega) w' hSr.rp).mono ?_
      rintro e w3 ⟨u, rfl, ho, hB⟩
      exact ⟨_, rfl, .of_gr hB, hqb2, own_base ho hG.size⟩
    · rw [if_pos (by rfl)]
      exact Rg.GrowL.value (v := .pointer (some ⟨w'.heap.size, 0, none⟩)) (w' := w'.alloc (.cells #[.int .i64 0, .int .i64 0] 29)) (by simp [go_sem, Rs.look]) (.of_gr (below1 _ _)) ⟨_, _, _, rfl, hqb2, hG.size, heap_alloc_last _ _⟩
    · have r1 := hs 1 (by simp)
      have r4 := hs 4 (by simp)
      rw [if_pos (by rfl)]
      obtain ⟨wind, voice, hA, e1⟩ : ∃ wind voice, AirV wind voice ∧ V 1 = .agg #[.int .i64 wind, .int .i64 voice] := r1
      obtain ⟨p, c0, c1, e4, hq, hpB, hb⟩ : ∃ p c0 c1, V 4 = .pointer (some ⟨p, 0, none⟩) ∧ w.heap.size < W1.heap.size ∧ W1.heap.size ≤ p ∧ w'.heap[p]? = some (.cells #[c0, c1] 29 (0, 0)) := r4
      obtain ⟨q0, q1⟩ := blk_cells2 hb
      have f0 := frozen_of_row w' p 0 _ _ hb
      have f1 := frozen_of_row w' p 1 _ _ hb
      have hf := Ax.fill (QB := w.heap.size) (ma := ma) (n := n) (mc := mc) hA hq HMA.out hpB hb
      exact Rg.GrowL.skipA (w' := (w'.setCell ⟨p, 0, none⟩ (.int .i64 wind)).setCell ⟨p, 1, none⟩ (.int .i64 voice)) (by simp [go_sem, Rs.look, e1, e4, q0, q1, f0, f1]) hf.1 ⟨p, wind, voice, e4, hA, hq, hpB, hf.2⟩
    · have r3 := hs 3 (by simp)
      rw [if_pos (by rfl)]
      exact Rg.GrowL.value (v := V 3) (w' := w') (by simp [go_sem, Rs.look]) ((Ax.isGr w.heap.size ma n mc W1.heap.size).refl _) r3
  · intro V w' hG hs
    have e0 : V 0 = .pointer (some ⟨w.heap.size, 0, none⟩) := hs 0 (by omega)
    have e2 : V 2 = .agg #[.int .i64 t.wide, .slice pa t.plots.length pc] := hs 2 (by omega)
    have r6 : _ ∧ w'.ownsRow W1.heap.size 3 1 (V 6) (kindIdx t.plots 1).length ((kindIdx t.plots 1).map (Value.int .i64)) := hs 6 (by omega)
    obtain ⟨c8, wind, voice, e4, hA, -, hc8, hb8⟩ : ∃ p wind voice, V 4 = .pointer (some ⟨p, 0, none⟩) ∧ AirV wind voice ∧ w.heap.size < W1.heap.size ∧ W1.heap.size ≤ p ∧ w'.heap[p]? = some (.cells #[.int .i64 wind, .int .i64 voice] 29 (0, 0)) := hs 5 (by omega)
    have hSr := HS2.out.ring (hG.bell HS2.out.bell) hG.aft
    have hMo : Mo t (.slice pa t.plots.length pc) w2.heap.size c8 wind voice w w' := ⟨hSr.b7, hb8, hSr.rp, HB2.out.trans (Aft.low hG.aft (Nat.le_refl _) (by omega))⟩
    have hBQ := HQ2.out.hold hG.aft (show w.heap.size + 1 ≠ w.heap.size by omega) (fun hn mb mo e => by have := HM2L.out hn mb mo e; show mb ≠ w.heap.size; omega)
    simp only [Rs.canon, Rs.dstOf, List.range_succ, List.range_zero, List.nil_append, List.cons_append, List.foldl_cons, List.foldl_nil, List.drop_succ_cons, List.drop_zero, List.drop_nil, List.getElem?_toArray, List.getElem?_cons_succ, List.getElem?_cons_zero, Option.bind_some, Act.put, List.getD_cons_succ, List.getD_cons_zero, List.setIfInBounds_toArray, List.set_cons_succ, List.set_cons_zero]
    rw [e0, e2, e4]
    generalize V 6 = v9 at r6 ⊢
    generalize V 3 = y3
    generalize V 1 = y1
    have hr9 := r6.2
    obtain ⟨a9, p9, rfl⟩ := own_slice r6.2
    have HMO := Lib.hid hMo
    have HBQ := Lib.hid hBQ
    have HR9 := Lib.hid hr9
    have HAV := Lib.hid hA
    have hsz' := hG.size
    obtain ⟨k0, k1, k2, k3, k4, k5⟩ := hMo.cs
    have ha : airErr wind voice = 0 := by unfold airErr; rw [if_neg (by unfold AirV at hA; omega)]
    have HAE := Lib.hid ha
    clear e0 e2 e4 hs r6 hr9 hb8 hSr hMo hBQ hG hA HS2 HB2 HMA HQ2 HW1 ha
    go_wp2_with fail
    have hne : t.plots ≠ [] := by intro e; have := (check_len HC.out).2; rw [e] at this; simp at this
    obtain ⟨pb, po, rfl, -, -⟩ := rd_ints HMO.out.rp hne
    obtain ⟨g0, g4, v1, v16⟩ := HAV.out
    have HRo : Hid (Ro t (.slice (some ⟨pb, po, none⟩) t.plots.length pc) w2.heap.size c8 wind voice (.slice a9 (kindIdx t.plots 1).length p9) w w') := Lib.hid ⟨HMO.out, RdI.own rfl rfl HR9.out⟩
    have HOF9 : Hid (Off (w.heap.size + 1) (.slice a9 (kindIdx t.plots 1).length p9)) := Lib.hid (own_off HR9.out (by omega))
    have hH30 : (kindIdx t.plots 1).length ≤ 30 := by have := kindTo_len t.plots 1 t.plots.length; unfold kindIdx; omega
    have hz8 : W1.heap.size ≤ c8 := hc8
    have hq7 : w2.heap.size ≠ w.heap.size + 1 := by omega
    have hq8 : c8 ≠ w.heap.size + 1 := by omega
    clear HMO HR9 hne k0 k1 k2 k3 k4 k5
    refine (Few_f HOK.out HC.out wind voice HAE.out pb po pc a9 p9 w' HRo.out.mo.rp HRo.out.rh).mono ?_
    rintro e w4 ⟨v10, rfl, hB, hx, hox⟩
    have HOX : Hid (Off (w.heap.size + 1) v10) := Lib.hid (hox _ (by omega))
    have HRo4 := Lib.hid (HRo.out.below hB)
    have HBQ4 := Lib.hid (HBQ.out.below hB)
    have HX4 := Lib.hid hx
    have hz4 := hB.size
    clear hB hx hox HRo HBQ
    obtain ⟨k0, k1, k2, k3, k4, k5⟩ := HRo4.out.mo.cs
    have HDF := Lib.hid (fun W hR => Deaf_any t.wide wind voice (some ⟨pb, po, none⟩) pc t.plots (by omega) W hR)
    rw [(deaf_open HC.out HAE.out).1, (deaf_open HC.out HAE.out).2] at HDF
    go_wp2_with fail
    refine (HDF.out w4 HRo4.out.mo.rp).mono ?_
    rintro e w5 ⟨v12, rfl, ho12, hB⟩
    have HD5 := Lib.hid (RdI.own rfl rfl ho12)
    obtain ⟨a12, p12, rfl⟩ := own_slice ho12
    have HRo5 := Lib.hid (HRo4.out.below hB)
    have HBQ5 := Lib.hid (HBQ4.out.below hB)
    have HX5 := Lib.hid (HX4.out.below hB)
    have hz5 := hB.size
    clear hB ho12 HRo4 HBQ4 HX4 HDF k0 k1 k2 k3 k4 k5
    obtain ⟨k0, k1, k2, k3, k4, k5⟩ := HRo5.out.mo.cs
    go_wp2_with fail
    refine (Apart_h HOK.out HC.out wind voice HAE.out pb po pc a9 p9 w5 HRo5.out.mo.rp HRo5.out.rh).mono ?_
    rintro e w6 ⟨v14, rfl, hB, hu, hou, hcu⟩
    have HCU := Lib.hid hcu
    have HOU : Hid (Off (w.heap.size + 1) v14) := Lib.hid (hou _ (by omega))
    have HU6 := Lib.hid hu
    have HRo6 := Lib.hid (HRo5.out.below hB)
    have HBQ6 := Lib.hid (HBQ5.out.below hB)
    have HX6 := Lib.hid (HX5.out.below hB)
    have HD6 := Lib.hid (HD5.out.below hB)
    have hz6 := hB.size
    clear hB hu hou hcu HRo5 HBQ5 HX5 HD5 k0 k1 k2 k3 k4 k5
    obtain ⟨k0, k1, k2, k3, k4, k5⟩ := HRo6.out.mo.cs
    go_wp2_with fail
    refine (Check_any t.wide (some ⟨pb, po, none⟩) pc t.plots (by omega) w6 HRo6.out.mo.rp).mono ?_
    rintro e w7 ⟨rfl, hB⟩
    rw [HC.out]
    have HU7 := Lib.hid (HU6.out.below hB)
    have HRo7 := Lib.hid (HRo6.out.below hB)
    have HBQ7 := Lib.hid (HBQ6.out.below hB)
    have HX7 := Lib.hid (HX6.out.below hB)
    have HD7 := Lib.hid (HD6.out.below hB)
    have hz7 := hB.size
    clear hB HU6 HRo6 HBQ6 HX6 HD6 k0 k1 k2 k3 k4 k5
    have HDE := Lib.hid (fun x (hx : x ∈ deafOf t wind voice) => deaf_stands hx)
    have hD10 := deafOf_len t wind voice HC.out
    have HFN := Lib.hid (fun h => few_none (t := t) (wind := wind) (voice := voice) h)
    have HFS := Lib.hid (fun h => few_some (t := t) HC.out (wind := wind) (voice := voice) h)
    obtain ⟨D, hD⟩ : ∃ D, D = deafOf t wind voice := ⟨_, rfl⟩
    rw [← hD] at HD7 HDE hD10 HFN HFS ⊢
    clear hD
    go_wp2_with fail
    go_loopw [76] (fun i wr => ∃ k : Nat, k ≤ D.length ∧ i = .int .i64 k ∧ Below w7.heap.size w7 wr) (fun i _ => D.length - (intOf i).toNat)
    case atStart => exact ⟨0, Nat.zero_le _, rfl, Below.refl _ _⟩
    case round =>
      obtain ⟨k, hk, rfl, hB⟩ := hrel
      obtain ⟨wk, rfl⟩ : ∃ wk : World, wk = wr := ⟨_, rfl⟩
      have HRok := Lib.hid (HRo7.out.below hB)
      have HBk := Lib.hid hB
      have hzk := hB.size
      obtain ⟨k0, k1, k2, k3, k4, k5⟩ := HRok.out.mo.cs
      by_cases hlt : k < D.length
      · have hlt' : (k : Int) < D.length := by omega
        obtain ⟨b1, o1, rfl, -, hI1⟩ := rd_ints (HD7.out.below hB) (by intro e; rw [e] at hlt; simp at hlt)
        obtain ⟨p, hp, hpl, hp1, hps⟩ := HDE.out _ (mem_getD hlt)
        have c1 := hI1.2 k hlt
        rw [hp] at c1
        have hb1 := hI1.1
        have HSA := Lib.hid (fun W hR => Stands_any t.wide wind voice p (some ⟨pb, po, none⟩) pc t.plots (by omega) W hR)
        rw [house_at HC.out HAE.out hpl hp1, house_stands HC.out HAE.out hpl hp1, hps] at HSA
        clear hB hI1 hp hps
        go_wp2_with fail
        refine (HSA.out wk HRok.out.mo.rp).mono ?_
        rintro e w8 ⟨v18, rfl, ho18, hB⟩
        obtain ⟨a18, p18, rfl⟩ := own_slice ho18
        have HB8 := Lib.hid (join HBk.out hB)
        clear ho18 hB HSA k0 k1 k2 k3 k4 k5 c1 hb1
        go_wp2_with fail
        go_roundw
        case rel => exact ⟨k + 1, by omega, by simp, HB8.out⟩
        case measure => simp [intOf]; omega
      · obtain rfl : k = D.length := by omega
        have HU7k := Lib.hid (HU7.out.below hB)
        have HBQk := Lib.hid (HBQ7.out.below hB)
        have HXk := Lib.hid (HX7.out.below hB)
        clear hB HBk hlt HD7 HDE HU7 HRo7 HBQ7 HX7
        by_cases hd0 : D = []
        · subst hd0
          obtain ⟨h0, ch, E, hf, hch, hap, hsub, hapt, hle⟩ := HFS.out rfl
          rw [h0]
          rw [hf] at HXk
          rw [hap] at HU7k
          have HCH := Lib.hid hch
          have HSB := Lib.hid hsub
          have HAP := Lib.hid hapt
          obtain ⟨_, a10, p10, rfl, -⟩ := id HXk.out
          obtain ⟨_, a14, p14, rfl, -⟩ := id HU7k.out
          have hchl := HCH.out.len
          have hNl : (natI ch).length = ch.length := natI_len ch
          have hNE : (natI (fsts E)).length = E.length := by rw [natI_len]; simp [fsts]
          have hN30 : (natI ch).length ≤ 30 := by omega
          have hE30 : (natI (fsts E)).length ≤ 30 := by omega
          have d1 : decide ((natI ch).length < (natI (fsts E)).length) = false := by simp; omega
          have d1' : decide (((natI ch).length : Int) < ((natI (fsts E)).length : Int)) = false := by simp; omega
          have HNL := Lib.hid hNl
          have HNE := Lib.hid hNE
          have HSV := Lib.hid (Served_n HOK.out HC.out HAE.out pb po pc a9 a10 p9 p10 ch (chosen_street HCH.out) (by omega) wk HRok.out.mo.rp HRok.out.rh HXk.out)
          rw [HCH.out.cnt] at HSV
          clear HFN HFS hf hch hap hsub hapt h0 hNl hNE hle
          go_wp2_with fail
          refine HSV.out.mono ?_
          rintro e w8 ⟨rfl, hB⟩
          have HR8 := Lib.hid (HRok.out.below hB)
          have HBQ8 := Lib.hid (HBQk.out.below hB)
          have HX8 := Lib.hid (HXk.out.below hB)
          have HU8 := Lib.hid (HU7k.out.below hB)
          have hz8 := hB.size
          have HSO := Lib.hid (isSorted_any (.slice a10 (natI ch).length p10) (natI ch) (by omega) (sorted_get HCH.out.sorted) w8 HX8.out)
          clear hB HRok HBQk HXk HU7k HSV k0 k1 k2 k3 k4 k5
          go_wp2_with fail
          refine HSO.out.mono ?_
          rintro e w9 ⟨rfl, hB⟩
          have HR9 := Lib.hid (HR8.out.below hB)
          have HBQ9 := Lib.hid (HBQ8.out.below hB)
          have HX9 := Lib.hid (HX8.out.below hB)
          have HU9 := Lib.hid (HU8.out.below hB)
          have hz9 := hB.size
          clear hB HR8 HBQ8 HX8 HU8 HSO d1 d1'
          go_wp2_with fail
          go_loopw [140] (fun i wr => ∃ j : Nat, j ≤ 8 ∧ i = .int .i64 j ∧ BellOk wr (w.heap.size + 1) ma2 n2 mc2 ∧ Aft (w.heap.size + 1) w9 wr) (fun i _ => 8 - (intOf i).toNat)
          case atStart => exact ⟨0, by omega, rfl, HBQ9.out, Aft.of (Hold.refl _ _)⟩
          case round =>
            obtain ⟨j, hj, rfl, hbr, hAr⟩ := hrel
            obtain ⟨wj, rfl⟩ : ∃ wj : World, wj = wr := ⟨_, rfl⟩
            have HRj := Lib.hid (HR9.out.aft hAr hq7 hq8 HOQ.out HOF9.out (by omega))
            have HXj := Lib.hid (HX9.out.hold hAr HOX.out)
            have HUj := Lib.hid (HU9.out.hold hAr HOU.out)
            have HBj := Lib.hid hbr
            have HAj := Lib.hid hAr
            have hzj := hAr.size
            clear hbr hAr
            obtain ⟨k0, k1, k2, k3, k4, k5⟩ := HRj.out.mo.cs
            by_cases hlt : j < 8
            · have hlt' : (j : Int) < 8 := by omega
              go_wp2_with fail
              refine (some_any (w.heap.size + 1) ma2 n2 mc2 t HOK.out pb po pc (natI ch).length hN30 wj HBj.out (fun hn mb mo e => by have := HM2L.out hn mb mo e; omega) HRj.out.mo.rp).mono ?_
              rintro e w12 ⟨v28, O, rfl, hO, hOs, hOst, hOl, hb12, hA12⟩
              have HR12 := Lib.hid (HRj.out.aft hA12 hq7 hq8 HOQ.out HOF9.out (by omega))
              have HX12 := Lib.hid (HXj.out.hold hA12 HOX.out)
              have HB12 := Lib.hid hb12
              have HA12 := Lib.hid (Hold.trans HAj.out hA12)
              have HO := Lib.hid hO
              have hBest := chosen_best HCH.out hOs (fun s hs => by have := (hOst s hs).1; have := HOK.out.n30; omega) (by omega)
              obtain ⟨_, a28, p28, rfl, -⟩ := id hO
              have HSV := Lib.hid (Served_n HOK.out HC.out HAE.out pb po pc a9 a28 p9 p28 O hOst (by omega) w12 HR12.out.mo.rp HR12.out.rh HO.out)
              generalize hkk : cntS (lis t wind voice fun _ => true) O = kk at hBest HSV
              have hNO : (natI O).length = O.length := natI_len O
              have HNO := Lib.hid hNO
              clear hO hOs hOst hb12 hA12 hNO hkk k0 k1 k2 k3 k4 k5
              obtain ⟨k0, k1, k2, k3, k4, k5⟩ := HR12.out.mo.cs
              go_wp2_with fail
              refine HSV.out.mono ?_
              rintro e w13 ⟨rfl, hB⟩
              have HB13 := Lib.hid (HB12.out.below hB)
              have HA13 := Lib.hid (Aft.below HA12.out hB)
              have HX13 := Lib.hid (HX12.out.below hB)
              have HO13 := Lib.hid (HO.out.below hB)
              obtain ⟨hle, heq⟩ := hBest
              have HEQ := Lib.hid heq
              clear hB heq hle HR12 HSV k0 k1 k2 k3 k4 k5
              by_cases hk : kk = (kindIdx t.plots 1).length
              · obtain ⟨hle2, hfst⟩ := HEQ.out hk
                have d0 : (kk == (kindIdx t.plots 1).length) = true := by simpa using hk
                have d0' : ((kk : Int) == ((kindIdx t.plots 1).length : Int)) = true := by simp; omega
                have d1 : decide ((natI O).length < (natI ch).length) = false := by have := HNO.out; have := HNL.out; simp; omega
                have d1' : decide (((natI O).length : Int) < ((natI ch).length : Int)) = false := by have := HNO.out; have := HNL.out; simp; omega
                have HK := Lib.hid hk
                clear hk
                by_cases hll : O.length = ch.length
                · have hCM := compare_any (.slice a28 (natI O).length p28) (.slice a10 (natI ch).length p10) (natI O) (natI ch) (by have := HNO.out; omega) (by have := HNO.out; have := HNL.out; omega) (bef_cmp (hfst hll)) w13 HO13.out HX13.out
                  have HCM := Lib.hid hCM
                  have d2 : ((natI O).length == (natI ch).length) = true := by have := HNO.out; have := HNL.out; simp; omega
                  have d2' : (((natI O).length : Int) == ((natI ch).length : Int)) = true := by have := HNO.out; have := HNL.out; simp; omega
                  clear hCM hfst hll hle2
                  go_wp2_with fail
                  refine HCM.out.mono ?_
                  rintro e w14 ⟨z, rfl, hz, hB⟩
                  have HB14 := Lib.hid (HB13.out.below hB)
                  have HA14 := Lib.hid (Aft.below HA13.out hB)
                  have d3 : decide (z < 0) = false := by simp; omega
                  clear hB hz
                  go_wp2_with fail
                  go_roundw
                  case rel => exact ⟨j + 1, by omega, by simp, HB14.out, HA14.out⟩
                  case measure => simp [intOf]; omega
                · have d2 : ((natI O).length == (natI ch).length) = false := by have := HNO.out; have := HNL.out; simp; omega
                  have d2' : (((natI O).length : Int) == ((natI ch).length : Int)) = false := by have := HNO.out; have := HNL.out; simp; omega
                  clear hfst hll hle2
                  go_wp2_with fail
                  go_roundw
                  case rel => exact ⟨j + 1, by omega, by simp, HB13.out, HA13.out⟩
                  case measure => simp [intOf]; omega
              · have d2 : (kk == (kindIdx t.plots 1).length) = false := by simpa using hk
                have d2' : ((kk : Int) == ((kindIdx t.plots 1).length : Int)) = false := by simp; omega
                go_wp2_with fail
                go_roundw
                case rel => exact ⟨j + 1, by omega, by simp, HB13.out, HA13.out⟩
                case measure => simp [intOf]; omega
            · obtain rfl : j = 8 := by omega
              clear HCH HX9 HR9 HBQ9 HU9 HXj HAj HBj hlt hj k0 k1 k2 k3 k4 k5
              have hCU14 : (natI (fsts E)).length ≤ p14 := HCU.out _ _ _ rfl
              clear HCU
              go_wp2_with fail
              go_loopw [186] (fun i wr => ∃ m : Nat, m ≤ (natI (fsts E)).length ∧ i = .int .i64 m ∧ Below wj.heap.size wj wr) (fun i _ => (natI (fsts E)).length - (intOf i).toNat)
              case atStart => exact ⟨0, Nat.zero_le _, rfl, Below.refl _ _⟩
              case round =>
                obtain ⟨m, hm, rfl, hB⟩ := hrel
                obtain ⟨wm, rfl⟩ : ∃ wm : World, wm = wr := ⟨_, rfl⟩
                have HRm := Lib.hid (HRj.out.below hB)
                have HUm := Lib.hid (HUj.out.below hB)
                have HBm := Lib.hid hB
                clear hB
                obtain ⟨k0, k1, k2, k3, k4, k5⟩ := HRm.out.mo.cs
                by_cases hlt : m < (natI (fsts E)).length
                · have hlt' : (m : Int) < ((natI (fsts E)).length : Int) := by omega
                  obtain ⟨b1, o1, rfl, -, hI1⟩ := rd_ints HUm.out (by intro e; rw [e] at hlt; simp at hlt)
                  have hmE : m < E.length := by have := HNE.out; omega
                  obtain ⟨p, hp, hpl, hp1⟩ := apt_house HSB.out hmE
                  have c1 := hI1.2 m hlt
                  rw [hp] at c1
                  have hb1 := hI1.1
                  have HSA := Lib.hid (fun W hR => Stands_any t.wide wind voice p (some ⟨pb, po, none⟩) pc t.plots (by omega) W hR)
                  rw [house_at HC.out HAE.out hpl hp1, house_stands HC.out HAE.out hpl hp1] at HSA
                  have hX30 := standsOf_len t wind voice p
                  have HAS : Hid (∀ k, k < m → ∃ q : Nat, (natI (fsts E)).getD k 0 = q ∧ q < t.len ∧ t.at q = 1 ∧ (standsOf t wind voice p).any (fun s => (standsOf t wind voice q).contains s) = false) := Lib.hid (fun k hk => by
                    obtain ⟨p', q, h1, h2, _, _, h3, h4, h5⟩ := apt_stands HSB.out HAP.out hmE hk
                    obtain rfl : p' = p := by omega
                    exact ⟨q, h2, h3, h4, h5⟩)
                  obtain ⟨X, hX⟩ : ∃ X, X = standsOf t wind voice p := ⟨_, rfl⟩
                  rw [← hX] at HSA HAS hX30
                  have HI1 := Lib.hid hI1
                  have hm0 : ¬ ((m : Int) < 0) := by omega
                  have hmc : m ≤ p14 := by omega
                  clear hX hp hp1 hpl hI1
                  go_wp2_with fail
                  refine (HSA.out wm HRm.out.mo.rp).mono ?_
                  rintro e w15 ⟨v27, rfl, ho27, hB⟩
                  have HX15 := Lib.hid (RdI.own rfl rfl ho27)
                  obtain ⟨a27, p27, rfl⟩ := own_slice ho27
                  have HR15 := Lib.hid (HRm.out.below hB)
                  have HI15 := Lib.hid (HI1.out.below hB HI1.out.1)
                  have HB15 := Lib.hid (join HBm.out hB)
                  clear ho27 hB HSA HI1 HRm c1 hb1 k0 k1 k2 k3 k4 k5
                  go_wp2_with fail
                  go_loopw [204] (fun i wr => ∃ j : Nat, j ≤ m ∧ i = .int .i64 j ∧ Below w15.heap.size w15 wr) (fun i _ => m - (intOf i).toNat)
                  case atStart => exact ⟨0, Nat.zero_le _, rfl, Below.refl _ _⟩
                  case round =>
                    obtain ⟨j, hj, rfl, hB⟩ := hrel
                    obtain ⟨wq, rfl⟩ : ∃ wq : World, wq = wr := ⟨_, rfl⟩
                    have HRq := Lib.hid (HR15.out.below hB)
                    have HXq := Lib.hid (HX15.out.below hB)
                    have HIq := Lib.hid (HI15.out.below hB HI15.out.1)
                    have HBq := Lib.hid (join HB15.out hB)
                    have HBq0 := Lib.hid hB
                    clear hB
                    obtain ⟨k0, k1, k2, k3, k4, k5⟩ := HRq.out.mo.cs
                    by_cases hjm : j < m
                    · have hjm' : (j : Int) < (m : Int) := by omega
                      obtain ⟨q, hq, hql, hq1, hany⟩ := HAS.out j hjm
                      have c2 := HIq.out.2 j (by omega)
                      rw [hq] at c2
                      have hb2 := HIq.out.1
                      have HSQ := Lib.hid (fun W hR => Stands_any t.wide wind voice q (some ⟨pb, po, none⟩) pc t.plots (by omega) W hR)
                      rw [house_at HC.out HAE.out hql hq1, house_stands HC.out HAE.out hql hq1] at HSQ
                      obtain ⟨Y, hY⟩ : ∃ Y, Y = standsOf t wind voice q := ⟨_, rfl⟩
                      rw [← hY] at HSQ hany
                      have HAN := Lib.hid hany
                      clear hY hany hq hql hq1
                      go_wp2_with fail
                      refine (HSQ.out wq HRq.out.mo.rp).mono ?_
                      rintro e w16 ⟨v31, rfl, ho31, hB⟩
                      have hY16 := RdI.own rfl rfl ho31
                      obtain ⟨a31, p31, rfl⟩ := own_slice ho31
                      obtain ⟨W17, hW17⟩ : ∃ W17 : World, W17 = w16.alloc (.cells #[.slice a31 Y.length p31] 22) := ⟨_, rfl⟩
                      have h17 : Below wq.heap.size wq W17 := by rw [hW17]; exact al hB _
                      have HX17 := Lib.hid (HXq.out.below h17)
                      have HB17 := Lib.hid (join HBq0.out h17)
                      have hY17 : RdI W17 (.slice a31 Y.length p31) Y := by rw [hW17]; exact hY16.below (below1 _ _)
                      have hb31 : W17.heap[w16.heap.size]? = some (.cells #[.slice a31 Y.length p31] 22 (0, 0)) := by rw [hW17]; exact heap_alloc_last _ _
                      obtain ⟨c17, hc17⟩ : ∃ c17, c17 = w16.heap.size := ⟨_, rfl⟩
                      rw [← hc17] at hb31
                      have HCF := Lib.hid (containsFuncR 28 entered28 (.pointer (some ⟨c17, 0, none⟩)) (fun s => Y.contains s) (.slice a27 X.length p27) X (by omega) W17 HX17.out (fun W hW => ask28 c17 (.slice a31 Y.length p31) Y W (by rw [cell_of_row _ _ _ _ _ _ ((hW.block _ (Array.getElem?_eq_some_iff.1 hb31).1).trans hb31)]; rfl) (hY17.below hW)))
                      rw [HAN.out] at HCF
                      have HW17 := Lib.hid hW17
                      have HC17 := Lib.hid hc17
                      clear hW17 hc17 hY17 hb31 hY16 ho31 hB h17 k0 k1 k2 k3 k4 k5 HSQ HAN c2 hb2
                      go_upto_region 38 with fail
                      rw [← HW17.out]
                      rw [← HC17.out]
                      clear HW17 HC17
                      go_wp2_with fail
                      refine HCF.out.mono ?_
                      rintro e w18 ⟨rfl, hB⟩
                      have HB18 := Lib.hid (join HB17.out hB)
                      clear hB HCF
                      go_wp2_with fail
                      go_roundw
                      case rel => exact ⟨j + 1, by omega, by simp, HB18.out⟩
                      case measure => simp [intOf]; omega
                    · obtain rfl : j = m := by omega
                      go_wp2_with fail
                      refine ⟨⟨_, _, _, _, _, _, _, _, _, _, _, _, _, _, _, _, _, _, _, _, _, _, _, _, _, _, _, _, _, _, _, _, _, _, _, _, _, _, _, _, _, _, _, _, _, _, ?rel, rfl⟩, ?measure⟩
                      case rel => exact ⟨j + 1, by omega, by simp, HBq.out⟩
                      case measure => simp [intOf]; omega
                · obtain rfl : m = (natI (fsts E)).length := by omega
                  go_wp2_with fail
                  refine (awake_any _).mono ?_
                  rintro e w15 ⟨rfl, hB⟩
                  have HR15 := Lib.hid (HRm.out.below hB)
                  clear hB
                  go_wp2_with fail
                  go_ret
                  exact ⟨rfl, HR15.out.mo.bel⟩
        · obtain ⟨h6, hf⟩ := HFN.out hd0
          have hdl : (D.length : Int) > 0 := by have := List.length_pos_iff.2 hd0; omega
          have hdl' : decide ((D.length : Int) > 0) = true := by simpa using hdl
          rw [h6]
          rw [hf] at HXk
          obtain ⟨_, a10, p10, rfl, -⟩ := HXk.out
          clear h6 hf HFN HFS HXk HU7k k0 k1 k2 k3 k4 k5
          go_wp2_with fail
          refine (awake_any _).mono ?_
          rintro e w8 ⟨rfl, hB⟩
          have HR8 := Lib.hid (HRok.out.below hB)
          clear hB
          go_wp2_with fail
          go_ret
          exact ⟨rfl, HR8.out.mo.bel⟩
end Go.Proofs.YtimedmkpenbmkaaGreat
