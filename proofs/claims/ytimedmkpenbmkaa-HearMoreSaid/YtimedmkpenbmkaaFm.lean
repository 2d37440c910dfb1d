/- HearMore holds: for any numbers and order the law returns true, and what was passed in reads as before. No conditions. -/
import Derived.Test.YtimedmkpenbmkaaFz
import Derived.Deep.CutRange
import Derived.Deep.DeepCutAuto
namespace Go.Proofs.Ytimedmkpenbmkaa
open Go.RowKit Go.Shelf
set_option linter.unusedSimpArgs false
set_option linter.unusedVariables false

/-- what stands in a law of a town and an air -/
structure Mo (t : Hr.Town) (pv : Value) (c7 c8 : Nat) (wind voice : Int) (w W : World) : Prop where
  b7 : W.heap[c7]? = some (.cells #[.int .i64 t.wide, pv] 24 (0, 0))
  b8 : W.heap[c8]? = some (.cells #[.int .i64 wind, .int .i64 voice] 27 (0, 0))
  rp : RdI W pv t.plots
  bel : Below w.heap.size w W
theorem Mo.below {t : Hr.Town} {pv : Value} {c7 c8 : Nat} {wind voice : Int} {w W W' : World} (h : Mo t pv c7 c8 wind voice w W) (hB : Below W.heap.size W W') : Mo t pv c7 c8 wind voice w W' :=
  ⟨(hB.block _ (Array.getElem?_eq_some_iff.1 h.b7).1).trans h.b7, (hB.block _ (Array.getElem?_eq_some_iff.1 h.b8).1).trans h.b8, h.rp.below hB, join h.bel hB⟩
theorem Mo.aft {t : Hr.Town} {pv : Value} {c7 c8 : Nat} {wind voice : Int} {w W W' : World} {g : Nat} (h : Mo t pv c7 c8 wind voice w W) (hA : Aft g W W') (h7 : c7 ≠ g) (h8 : c8 ≠ g) (ho : Off g pv) (hg : w.heap.size ≤ g) : Mo t pv c7 c8 wind voice w W' :=
  ⟨(hA.same _ h7 (Array.getElem?_eq_some_iff.1 h.b7).1).trans h.b7, (hA.same _ h8 (Array.getElem?_eq_some_iff.1 h.b8).1).trans h.b8, h.rp.hold hA ho, h.bel.trans (Aft.low hA hg h.bel.size)⟩
theorem Mo.cs {t : Hr.Town} {pv : Value} {c7 c8 : Nat} {wind voice : Int} {w W : World} (h : Mo t pv c7 c8 wind voice w W) :
    W.cell? ⟨c7, 0, none⟩ = some (.int .i64 t.wide) ∧ W.cell? ⟨c7, 1, none⟩ = some pv ∧ W.cell? ⟨c8, 0, none⟩ = some (.int .i64 wind) ∧ W.cell? ⟨c8, 1, none⟩ = some (.int .i64 voice) ∧ c7 < W.heap.size ∧ c8 < W.heap.size := by
  obtain ⟨a, b⟩ := blk_cells2 h.b7
  obtain ⟨c, d⟩ := blk_cells2 h.b8
  exact ⟨a, b, c, d, (Array.getElem?_eq_some_iff.1 h.b7).1, (Array.getElem?_eq_some_iff.1 h.b8).1⟩
theorem blk_ne {W : World} {c g : Nat} {cs cur : Array Value} {e : TypeId} {z z' : Nat × Nat} (h : W.heap[c]? = some (.cells cs e z)) (hg : W.heap[g]? = some (.cells cur 3 z')) (he : e ≠ 3) : c ≠ g := by
  rintro rfl
  rw [h] at hg
  injection hg with hg
  injection hg with _ hg
  exact he hg

def spA8 (t : Hr.Town) (pv : Value) (QB B : Nat) : Nat → List Value → Value → World → Prop
  | 0, _, v, _ => v = .pointer (some ⟨QB, 0, none⟩)
  | 1, _, v, _ => ∃ wind voice, AirV wind voice ∧ v = .agg #[.int .i64 wind, .int .i64 voice]
  | 2, _, v, _ => v = .agg #[.int .i64 t.wide, pv]
  | 3, _, v, w => QB < B ∧ w.ownsRow B 3 1 v (kindIdx t.plots 1).length ((kindIdx t.plots 1).map (Value.int .i64))
  | 4, _, v, w => ∃ p c0 c1, v = .pointer (some ⟨p, 0, none⟩) ∧ QB < B ∧ B ≤ p ∧ w.heap[p]? = some (.cells #[c0, c1] 27 (0, 0))
  | 5, L, v, w => ∃ p wind voice, L.getD 4 undef = .pointer (some ⟨p, 0, none⟩) ∧ AirV wind voice ∧ QB < B ∧ B ≤ p ∧ w.heap[p]? = some (.cells #[.int .i64 wind, .int .i64 voice] 27 (0, 0))
  | 6, _, v, w => QB < B ∧ w.ownsRow B 3 1 v (kindIdx t.plots 1).length ((kindIdx t.plots 1).map (Value.int .i64))
  | _, _, _, _ => False
theorem spA8_stable (t : Hr.Town) (pv : Value) (QB : Nat) (ma : Option Addr) (n mc B : Nat) : ∀ i L v w w', spA8 t pv QB B i L v w → Ax QB ma n mc B w w' → spA8 t pv QB B i L v w' := by
  intro i L v w w' h hg
  match i with
  | 0 => exact h
  | 1 => exact h
  | 2 => exact h
  | 3 => exact ⟨h.1, hg.row h.1 h.2⟩
  | 6 => exact ⟨h.1, hg.row h.1 h.2⟩
  | 4 =>
    obtain ⟨p, c0, c1, h1, hq, h2, h3⟩ := h
    rcases hg.same p (Array.getElem?_eq_some_iff.1 h3).1 (by omega) with e | ⟨_, cs, wd, vc, _, e1, e2⟩
    · exact ⟨p, c0, c1, h1, hq, h2, e.trans h3⟩
    · exact ⟨p, _, _, h1, hq, h2, e2⟩
  | 5 =>
    obtain ⟨p, c0, c1, h1, hA, hq, h2, h3⟩ := h
    rcases hg.same p (Array.getElem?_eq_some_iff.1 h3).1 (by omega) with e | ⟨_, cs, wd, vc, hA', e1, e2⟩
    · exact ⟨p, c0, c1, h1, hA, hq, h2, e.trans h3⟩
    · exact ⟨p, _, _, h1, hA', hq, h2, e2⟩

/-- what is taken over of a list, in the order of some places -/
def mxT (A : List Int) (out : List Nat) (k : Nat) : List Int := (out.take k).map fun i => A.getD i 0
theorem mxT_len {A : List Int} {out : List Nat} {k : Nat} (h : k ≤ out.length) : (mxT A out k).length = k := by unfold mxT; rw [List.length_map, List.length_take]; omega
theorem mxT_next {A : List Int} {out : List Nat} {k : Nat} (h : k < out.length) : mxT A out (k + 1) = mxT A out k ++ [A.getD (out.getD k 0) 0] := by
  unfold mxT
  rw [List.take_succ_eq_append_getElem h, List.map_append, List.getD_eq_getElem?_getD (l := out), List.getElem?_eq_getElem h]
  rfl
theorem mxT_perm {A : List Int} {out : List Nat} (h : out.Perm (List.range A.length)) : (mxT A out A.length).Perm A := by
  have hl : out.length = A.length := by have := h.length_eq; simpa using this
  unfold mxT
  rw [← hl, List.take_length]
  have e : (List.range A.length).map (fun i => A.getD i 0) = A := by
    apply List.ext_getElem (by simp)
    intro i h1 h2
    rw [List.getElem_map, List.getElem_range, List.getD_eq_getElem?_getD, List.getElem?_eq_getElem h2]; rfl
  have := h.map fun i => A.getD i 0
  rwa [e] at this
theorem RdI.tail {w : World} {b o cap cap' : Nat} {m : Int} {M : List Int} (h : RdI w (.slice (some ⟨b, o, none⟩) (M.length + 1) cap) (m :: M)) : RdI w (.slice (some ⟨b, o + 1, none⟩) M.length cap') M := by
  obtain ⟨hl, a, c, e, hI⟩ := h
  obtain ⟨b', o', e', hI⟩ := hI (by simp)
  rw [e'] at e
  injection e with e1
  injection e1 with e1
  injection e1 with e1 e2
  subst e1 e2
  refine ⟨by simp at hl; omega, _, _, rfl, fun _ => ⟨b, o + 1, rfl, hI.1, fun i hi => ?_⟩⟩
  have := hI.2 (i + 1) (by simpa using hi)
  rw [show o + (i + 1) = o + 1 + i by omega] at this
  simpa using this

set_option maxHeartbeats 8000000 in
set_option maxRecDepth 100000 in
theorem HearMore_any (ma : Option Addr) (n mc : Nat) (ma2 : Option Addr) (n2 mc2 : Nat) (w : World) (hM : RdB w ma n) (hM2 : RdB w ma2 n2) :
    Calls Try.prog 13 #[.slice ma n mc, .slice ma2 n2 mc2] w fun e w' => e = .returned (.bool true) ∧ Below w.heap.size w w' := by
  obtain ⟨i0, hi, hz0, hz1, hz2⟩ := info_parts A_info3
  have hB0 := below1 w (.cells #[.slice ma n mc, .int .i64 0, .int .u32 0] 150)
  have hBL := (bell_hung (mc := mc) hM).below (below1 _ (.cells #[.slice ma2 n2 mc2, .int .i64 0, .int .u32 0] 150))
  have hBQ := bell_hung (mc := mc2) (hM2.below hB0)
  rw [World.size_alloc] at hBQ
  have HBL := Lib.hid hBL
  have HBQ := Lib.hid hBQ
  have HM := Lib.hid hM
  have HM2 := Lib.hid hM2
  have HB0 := Lib.hid (al hB0 (.cells #[.slice ma2 n2 mc2, .int .i64 0, .int .u32 0] 150))
  clear hM hM2 hB0 hBL hBQ
  go_enter Try.func13, Try.ntmps13
  go_wp2_with fail
  refine (hang_any ma n mc w).mono ?_
  rintro e w1 ⟨rfl, rfl⟩
  go_wp2_with fail
  refine (hang_any ma2 n2 mc2 _).mono ?_
  rintro e w1 ⟨rfl, rfl⟩
  go_wp2_with fail
  refine (made_any w.heap.size ma n mc 24 (by omega) (by omega) _ HBL.out (fun hn mb mo e => by have := HM.out.2.1 hn mb mo e; simp; omega)).mono ?_
  rintro e w2 ⟨t, v, p, rfl, ho, hc, h24, hp, hp0, hbl, hh⟩
  have ok : t.Ok := by have := (town_ok hc).1; rwa [townOf_self] at this
  have HOK := Lib.hid ok
  have HC := Lib.hid hc
  have hsz2 := hh.size
  simp only [World.size_alloc] at hsz2 ho
  have hoffB := own_off (QB := w.heap.size) ho (by omega)
  have hoffQ := own_off (QB := w.heap.size + 1) ho (by omega)
  have hQ2 := HBQ.out.hold hh (show w.heap.size + 1 ≠ w.heap.size by omega) (fun hn mb mo e => by have := HM2.out.2.1 hn mb mo e; show mb ≠ w.heap.size; omega)
  have hB2 : Below w.heap.size w w2 := HB0.out.trans ((hh.mono (Kq := fun k => k < w.heap.size) (fun k (hk : k < w.heap.size) _ => show k ≠ w.heap.size by omega)).to_below (by simp; omega))
  obtain ⟨pa, pc, rfl⟩ := own_slice ho
  obtain ⟨W1, hW1⟩ : ∃ W1 : World, W1 = w2.alloc (.cells #[.int .i64 t.wide, .slice pa t.plots.length pc] 24) := ⟨_, rfl⟩
  have hs1 : W1.heap.size = w2.heap.size + 1 := by rw [hW1]; simp
  have hS2 : PvS t w2.heap.size (.slice pa t.plots.length pc) w.heap.size ma n mc W1 := by
    rw [hW1]; exact ⟨heap_alloc_last _ _, (RdI.own rfl rfl ho).below (below1 _ _), hbl.below (below1 _ _), by omega, hoffB⟩
  have HS2 := Lib.hid hS2
  have HQ2 := Lib.hid (show BellOk W1 (w.heap.size + 1) ma2 n2 mc2 by rw [hW1]; exact hQ2.below (below1 w2 (.cells #[.int .i64 t.wide, .slice pa t.plots.length pc] 24)))
  have HB2 := Lib.hid (show Below w.heap.size w W1 by rw [hW1]; exact al hB2 (.cells #[.int .i64 t.wide, .slice pa t.plots.length pc] 24))
  have HOQ := Lib.hid hoffQ
  have HOB : Hid (∀ g, w2.heap.size ≤ g → Off g (.slice pa t.plots.length pc)) := Lib.hid (fun g hg b o n c e => by
    have hne : t.plots ≠ [] := by intro e; have := (check_len hc).2; rw [e] at this; simp at this
    obtain ⟨b', o', e', -, hI⟩ := rd_ints (RdI.own rfl rfl ho) hne
    injection e with e1
    rw [e'] at e1
    injection e1 with e1
    injection e1 with e1
    have := hI.1
    omega)
  have HMA : Hid (n ≠ 0 → ∀ mb mo, ma = some ⟨mb, mo, none⟩ → mb < W1.heap.size) := Lib.hid (fun hn mb mo e => by have := HM.out.2.1 hn mb mo e; omega)
  have HM2L : Hid (n2 ≠ 0 → ∀ mb mo, ma2 = some ⟨mb, mo, none⟩ → mb < w.heap.size) := Lib.hid HM2.out.2.1
  have hqb : w.heap.size + 1 < w2.heap.size := by omega
  have hqb2 : w.heap.size < W1.heap.size := by omega
  have hl30 : t.plots.length ≤ 30 := HOK.out.n30
  have HW1 := Lib.hid hW1
  clear HBL HBQ ho hc hbl hh hB2 ok hp hp0 h24 HB0 hS2 hQ2 hoffB hoffQ HM HM2 hW1 hsz2
  go_wp2_with fail
  rw [← HW1.out]
  refine Rg.region_gen (Ax.isGr w.heap.size ma n mc W1.heap.size) 7 [[], [0], [], [0, 1, 2], [], [0, 1, 2, 3, 4], [0, 1, 2, 3, 4]] [some 36, some 37, some 38, some 39, some 8, none, some 9] (spA8 t (.slice pa t.plots.length pc) w.heap.size W1.heap.size) (by kernel_rfl) (by kernel_rfl) rfl (spA8_stable _ _ _ _ _ _ _) ?_ ?_
  · refine ⟨fun V w' hG hs => ?_, fun V w' hG hs => ?_, fun V w' hG hs => ?_, fun V w' hG hs => ?_, fun V w' hG hs => ?_, fun V w' hG hs => ?_, fun V w' hG hs => ?_, trivial⟩
    all_goals
      have hSr := HS2.out.ring (hG.bell HS2.out.bell) hG.aft
      obtain ⟨k0, k1⟩ := hSr.cs
    · rw [if_pos (by rfl)]
      exact Rg.GrowL.value (v := .pointer (some ⟨w.heap.size, 0, none⟩)) (w' := w') (by simp [go_sem, Rs.look]) ((Ax.isGr w.heap.size ma n mc W1.heap.size).refl _) rfl
    · have e0 : V 0 = .pointer (some ⟨w.heap.size, 0, none⟩) := hs 0 (by simp)
      rw [if_pos (by rfl)]
      refine Rg.GrowL.call (Ax.isGr w.heap.size ma n mc W1.heap.size) (f := 59) (args := #[.pointer (some ⟨w.heap.size, 0, none⟩)]) (by simp [go_sem, Rs.look, e0]) ?_
      refine (aired_any w.heap.size ma n mc trivial w' hSr.bell (fun hn mb mo e => Nat.lt_of_lt_of_le (HMA.out hn mb mo e) hG.size)).mono ?_
      rintro e w3 ⟨wind, voice, g0, g4, v1, v16, rfl, hbl, hH⟩
      exact ⟨_, rfl, .of_bell hH.out hbl.out, wind, voice, ⟨g0, g4, v1, v16⟩, rfl⟩
    · rw [if_pos (by rfl)]
      exact Rg.GrowL.value (v := .agg #[.int .i64 t.wide, .slice pa t.plots.length pc]) (w' := w') (by simp [go_sem, Rs.look, k0, k1]) ((Ax.isGr w.heap.size ma n mc W1.heap.size).refl _) rfl
    · have e2 : V 2 = .agg #[.int .i64 t.wide, .slice pa t.plots.length pc] := hs 2 (by simp)
      rw [if_pos (by rfl)]
      refine Rg.GrowL.call (Ax.isGr w.heap.size ma n mc W1.heap.size) (f := 63) (args := #[.agg #[.int .i64 t.wide, .slice pa t.plots.length pc]]) (by simp [go_sem, Rs.look, e2]) ?_
      refine (houses_any t.wide pa pc t.plots (by omega) w' hSr.rp).mono ?_
      rintro e w3 ⟨u, rfl, ho, hB⟩
      exact ⟨_, rfl, .of_gr hB, hqb2, own_base ho hG.size⟩
    · rw [if_pos (by rfl)]
      exact Rg.GrowL.value (v := .pointer (some ⟨w'.heap.size, 0, none⟩)) (w' := w'.alloc (.cells #[.int .i64 0, .int .i64 0] 27)) (by simp [go_sem, Rs.look]) (.of_gr (below1 _ _)) ⟨_, _, _, rfl, hqb2, hG.size, heap_alloc_last _ _⟩
    · have r1 := hs 1 (by simp)
      have r4 := hs 4 (by simp)
      rw [if_pos (by rfl)]
      obtain ⟨wind, voice, hA, e1⟩ : ∃ wind voice, AirV wind voice ∧ V 1 = .agg #[.int .i64 wind, .int .i64 voice] := r1
      obtain ⟨p, c0, c1, e4, hq, hpB, hb⟩ : ∃ p c0 c1, V 4 = .pointer (some ⟨p, 0, none⟩) ∧ w.heap.size < W1.heap.size ∧ W1.heap.size ≤ p ∧ w'.heap[p]? = some (.cells #[c0, c1] 27 (0, 0)) := r4
      obtain ⟨q0, q1⟩ := blk_cells2 hb
      have f0 := frozen_of_row w' p 0 _ _ hb
      have f1 := frozen_of_row w' p 1 _ _ hb
      have hf := Ax.fill (QB := w.heap.size) (ma := ma) (n := n) (mc := mc) hA hq HMA.out hpB hb
      exact Rg.GrowL.skipA (w' := (w'.setCell ⟨p, 0, none⟩ (.int .i64 wind)).setCell ⟨p, 1, none⟩ (.int .i64 voice)) (by simp [go_sem, Rs.look, e1, e4, q0, q1, f0, f1]) hf.1 ⟨p, wind, voice, e4, hA, hq, hpB, hf.2⟩
    · have r3 := hs 3 (by simp)
      rw [if_pos (by rfl)]
      exact Rg.GrowL.value (v := V 3) (w' := w') (by simp [go_sem, Rs.look]) ((Ax.isGr w.heap.size ma n mc W1.heap.size).refl _) r3
  · intro V w' hG hs
    have e0 : V 0 = .pointer (some ⟨w.heap.size, 0, none⟩) := hs 0 (by omega)
    have e2 : V 2 = .agg #[.int .i64 t.wide, .slice pa t.plots.length pc] := hs 2 (by omega)
    have r6 : _ ∧ w'.ownsRow W1.heap.size 3 1 (V 6) (kindIdx t.plots 1).length ((kindIdx t.plots 1).map (Value.int .i64)) := hs 6 (by omega)
    obtain ⟨c8, wind, voice, e4, hA, -, hc8, hb8⟩ : ∃ p wind voice, V 4 = .pointer (some ⟨p, 0, none⟩) ∧ AirV wind voice ∧ w.heap.size < W1.heap.size ∧ W1.heap.size ≤ p ∧ w'.heap[p]? = some (.cells #[.int .i64 wind, .int .i64 voice] 27 (0, 0)) := hs 5 (by omega)
    have hSr := HS2.out.ring (hG.bell HS2.out.bell) hG.aft
    have hMo : Mo t (.slice pa t.plots.length pc) w2.heap.size c8 wind voice w w' := ⟨hSr.b7, hb8, hSr.rp, HB2.out.trans (Aft.low hG.aft (Nat.le_refl _) (by omega))⟩
    have hBQ := HQ2.out.hold hG.aft (show w.heap.size + 1 ≠ w.heap.size by omega) (fun hn mb mo e => by have := HM2L.out hn mb mo e; show mb ≠ w.heap.size; omega)
    simp only [Rs.canon, Rs.dstOf, List.range_succ, List.range_zero, List.nil_append, List.cons_append, List.foldl_cons, List.foldl_nil, List.drop_succ_cons, List.drop_zero, List.drop_nil, List.getElem?_toArray, List.getElem?_cons_succ, List.getElem?_cons_zero, Option.bind_some, Act.put, List.getD_cons_succ, List.getD_cons_zero, List.setIfInBounds_toArray, List.set_cons_succ, List.set_cons_zero]
    rw [e0, e2, e4]
    generalize V 6 = v9 at r6 ⊢
    generalize V 3 = y3
    generalize V 1 = y1
    have hr9 := r6.2
    obtain ⟨a9, p9, rfl⟩ := own_slice r6.2
    have HMO := Lib.hid hMo
    have HBQ := Lib.hid hBQ
    have HR9 := Lib.hid hr9
    have HAV := Lib.hid hA
    have hsz' := hG.size
    obtain ⟨k0, k1, k2, k3, k4, k5⟩ := hMo.cs
    have ha : airErr wind voice = 0 := by unfold airErr; rw [if_neg (by unfold AirV at hA; omega)]
    have HAE := Lib.hid ha
    clear e0 e2 e4 hs r6 hr9 hb8 hSr hMo hBQ hG hA HS2 HB2 HMA HQ2 HW1 ha
    go_wp2_with fail
    have hoE : openErr t.wide t.plots wind voice = 0 := by unfold openErr; rw [HC.out]; exact HAE.out
    have hdl : deafL t.wide t.plots wind voice = deafOf t wind voice := by unfold deafL; rw [if_pos hoE, townOf_self]
    have HDE := Lib.hid (Deaf_any t.wide wind voice pa pc t.plots (by omega) w' HMO.out.rp)
    rw [hoE, hdl] at HDE
    have hH30 : (kindIdx t.plots 1).length ≤ 30 := by have := kindTo_len t.plots 1 t.plots.length; unfold kindIdx; omega
    obtain ⟨D, hD⟩ : ∃ D, D = deafOf t wind voice := ⟨_, rfl⟩
    rw [← hD] at HDE
    have HG9 : Hid (∀ g, a9 = some ⟨g, 0, none⟩ → kindIdx t.plots 1 ≠ [] → g < w'.heap.size) := Lib.hid (fun g e hne => by
      rcases HR9.out.2 with ⟨_, h0⟩ | ⟨g', cap', cur, h1, h2, h3, _⟩
      · exact absurd (List.length_eq_zero_iff.1 h0) hne
      · injection h1 with h1
        rw [e] at h1
        injection h1 with h1
        injection h1 with h1
        rw [h1]
        exact (Array.getElem?_eq_some_iff.1 h3).1)
    have HDQ := Lib.hid hD
    clear hoE hdl hD
    refine HDE.out.mono ?_
    rintro e w3 ⟨vd, rfl, hod, hB⟩
    have hrd := RdI.own rfl rfl hod
    obtain ⟨ad, cd, rfl⟩ := own_slice hod
    have HDO : Hid (∀ g, g < w'.heap.size → Off g (.slice ad D.length cd)) := Lib.hid (fun g hg => own_off hod hg)
    obtain ⟨W4, hW4⟩ : ∃ W4 : World, W4 = w3.alloc (.cells #[.slice ad D.length cd] 31) := ⟨_, rfl⟩
    have h4 : Below w'.heap.size w' W4 := by rw [hW4]; exact al hB _
    have HMO4 := Lib.hid (HMO.out.below h4)
    have HBQ4 := Lib.hid (HBQ.out.below h4)
    have HR94 := Lib.hid (own_below HR9.out h4)
    have HD10 := Lib.hid (show RdI W4 (.slice ad D.length cd) D by rw [hW4]; exact hrd.below (below1 _ _))
    have HB10 : Hid (W4.heap[w3.heap.size]? = some (.cells #[.slice ad D.length cd] 31 (0, 0))) := Lib.hid (by rw [hW4]; exact heap_alloc_last _ _)
    have hz4 : w'.heap.size ≤ W4.heap.size := h4.size
    have HW4 := Lib.hid hW4
    obtain ⟨c10, hc10⟩ : ∃ c10, c10 = w3.heap.size := ⟨_, rfl⟩
    rw [← hc10] at HB10
    have HC10 := Lib.hid hc10
    have HDF := Lib.hid (deleteFuncR 74 entered74 (.pointer (some ⟨c10, 0, none⟩)) (fun h => D.contains h) W1.heap.size a9 p9 (kindIdx t.plots 1) (by omega) W4 HR94.out (fun hne W g hg hgb hgl hcur hA => by
      obtain ⟨cur, hcur⟩ := hcur
      have h9 := HG9.out g hg hne
      refine ask74 c10 (.slice ad D.length cd) D W ?_ (rd_aft HD10.out hA (.inr (HDO.out g h9)))
      rw [cell_of_row _ _ _ _ _ _ ((hA.same c10 (blk_ne HB10.out hcur (by decide)) (Array.getElem?_eq_some_iff.1 HB10.out).1).trans HB10.out)]; rfl))
    have HOF9 : Hid (Off (w.heap.size + 1) (.slice a9 (kindIdx t.plots 1).length p9)) := Lib.hid (own_off HR94.out (by omega))
    obtain ⟨A, hA⟩ : ∃ A, A = keptTo (fun h => D.contains h) (kindIdx t.plots 1) (kindIdx t.plots 1).length := ⟨_, rfl⟩
    rw [← hA] at HDF
    have hAN : A = notDeaf t wind voice := by rw [hA, HDQ.out]; rfl
    have HNM := Lib.hid (show Named t A by rw [hAN]; exact notDeaf_named HOK.out HC.out wind voice)
    have HHA := Lib.hid (show Heard (lis t wind voice (inL A)) by rw [hAN]; exact heard_of fun x hx => (mem_notDeaf.1 hx).2)
    have hA10 : A.length ≤ 10 := HNM.out.len
    clear hod hB hrd h4 hW4 hc10 hA hAN HMO HBQ HR9 HDE k0 k1 k2 k3 k4 k5
    go_upto_region 7 with fail
    rw [← HW4.out]
    rw [← HC10.out]
    clear HW4 HC10
    go_wp2_with fail
    refine HDF.out.mono ?_
    rintro e w5 ⟨rfl, hr5, g, hgb, hg1, hg0, hA5⟩
    have h7g : w2.heap.size ≠ g := by omega
    have h8g : c8 ≠ g := by
      by_cases h0 : kindIdx t.plots 1 = []
      · have := hg0 h0
        have := HMO4.out.cs.2.2.2.2.2
        omega
      · obtain ⟨cur, hcur⟩ := (hg1 h0).2.2
        exact blk_ne HMO4.out.b8 hcur (by decide)
    have HMO5 := Lib.hid (HMO4.out.aft hA5 h7g h8g (HOB.out g (by omega)) (by omega))
    have HBQ5 := Lib.hid (HBQ4.out.hold hA5 (show w.heap.size + 1 ≠ g by omega) (fun hn mb mo e => by have := HM2L.out hn mb mo e; show mb ≠ g; omega))
    have HR5 := Lib.hid hr5
    have hz5 := hA5.size
    have HOA : Hid (Off (w.heap.size + 1) (.slice a9 A.length p9)) := Lib.hid (fun b o n' c e => HOF9.out b o (kindIdx t.plots 1).length p9 (by injection e with e1 e2 e3; rw [e1]))
    clear hr5 hgb hg1 hg0 hA5 h7g h8g HMO4 HBQ4 HR94 HD10 HB10 HDF HOF9 HDO HG9
    go_wp2_with fail
    refine (rung_any (w.heap.size + 1) ma2 n2 mc2 A.length (by omega) w5 HBQ5.out (fun hn mb mo e => by have := HM2L.out hn mb mo e; omega)).mono ?_
    rintro e w6 ⟨v54, out, rfl, ho6, hperm, -, hA6⟩
    obtain ⟨a54, p54, rfl⟩ := own_slice ho6
    have hol : out.length = A.length := by have := hperm.length_eq; simpa using this
    have HMO6 := Lib.hid (HMO5.out.aft hA6 (show w2.heap.size ≠ w.heap.size + 1 by omega) (show c8 ≠ w.heap.size + 1 by omega) HOQ.out (by omega))
    have HR6 := Lib.hid (HR5.out.hold hA6 HOA.out)
    have HO6 := Lib.hid (show RdI w6 (.slice a54 A.length p54) (out.map fun (x : Nat) => (x : Int)) from RdI.own (by rw [List.length_map, hol]) (by unfold ints; rw [List.map_map]; rfl) ho6)
    have HPM := Lib.hid hperm
    have hz6 := hA6.size
    clear ho6 hperm hA6 HMO5 HBQ5 HR5 HOA HOQ HM2L HOB
    go_wp2_with fail
    go_loopw [12, 56] (fun v i wr => ∃ k : Nat, k ≤ A.length ∧ i = .int .i64 k ∧ wr.ownsRow w6.heap.size 3 1 v (mxT A out k).length ((mxT A out k).map (Value.int .i64)) ∧ Below w6.heap.size w6 wr) (fun _ i _ => A.length - (intOf i).toNat)
    case atStart => exact ⟨0, Nat.zero_le _, rfl, own_none _ _ _ _, Below.refl _ _⟩
    case round =>
      obtain ⟨k, hk, rfl, hown, hB⟩ := hrel
      obtain ⟨wk, rfl⟩ : ∃ wk : World, wk = wr := ⟨_, rfl⟩
      have HO := Lib.hid hown
      have HB := Lib.hid hB
      have hzk := hB.size
      have hml := mxT_len (A := A) (out := out) (k := k) (by omega)
      by_cases hlt : k < A.length
      · have hlt' : (k : Int) < A.length := by omega
        obtain ⟨b1, o1, rfl, -, hI1⟩ := rd_ints (HR6.out.below hB) (by intro e; rw [e] at hlt; simp at hlt)
        obtain ⟨b2, o2, rfl, -, hI2⟩ := rd_ints (HO6.out.below hB) (by intro e; have h0 := congrArg List.length e; rw [List.length_map, hol] at h0; exact absurd h0 (by show A.length ≠ 0; omega))
        obtain ⟨x, hx⟩ : ∃ x : Nat, out.getD k 0 = x := ⟨_, rfl⟩
        have hxl : x < A.length := by
          have h1 : out.getD k 0 ∈ out := by rw [List.getD_eq_getElem?_getD, List.getElem?_eq_getElem (by omega)]; exact List.getElem_mem _
          rw [hx, HPM.out.mem_iff, List.mem_range] at h1
          exact h1
        have hxl' : (x : Int) < A.length := by omega
        have c2 := hI2.2 k (by rw [List.length_map, hol]; exact hlt)
        have e2 : (out.map fun (x : Nat) => (x : Int)).getD k 0 = (x : Int) := by
          rw [← hx, List.getD_eq_getElem?_getD, List.getD_eq_getElem?_getD, List.getElem?_map, List.getElem?_eq_getElem (by omega : k < out.length)]; rfl
        rw [e2] at c2
        have c1 := hI1.2 x hxl
        have hb1 := hI1.1
        have hb2 := hI2.1
        obtain ⟨y, hy⟩ : ∃ y, A.getD x 0 = y := ⟨_, rfl⟩
        rw [hy] at c1
        have HNX : Hid (mxT A out (k + 1) = mxT A out k ++ [y]) := Lib.hid (by rw [mxT_next (by omega), hx, hy])
        clear hI1 hI2 e2 hx hy hown hB
        go_wp2_with (at_builtin; refine wpList_append_own _ rfl _ _ 31 rfl w6.heap.size 3 i0 (.int .i64 0) 1 8 A_und31 hi hz0 hz1 hz2 rfl (by decide) _ _ _ rfl (HO.out.alloc _) ⟨wk.heap.size, 0, none⟩ 1 1 [.int .i64 y] rfl rfl ?d1 ?d2 ?d3 ?d4 ?d5 ?_)
        case d1 =>
          intro j u hj
          match j, hj with
          | 0, hj => simp at hj; subst hj; simp [Addr.add]
        case d2 => intro u hu; simp at hu; subst hu; rfl
        case d3 => unfold maxLen; omega
        case d4 => omega
        case d5 => first | omega | (simp; omega)
        intro v' w8 hown8 hgrow _
        have hB8 := below_grown (al2 HB.out (by omega) _) (HO.out.alloc _) (Nat.le_refl _) (by simp; omega) hgrow
        have HO8 := Lib.hid hown8
        have HB8 := Lib.hid hB8
        clear hgrow hown8 hB8
        go_wp2_with fail
        go_roundw
        case rel => exact ⟨k + 1, by omega, by simp, by rw [HNX.out, List.length_append, hml]; simpa using HO8.out, HB8.out⟩
        case measure => simp [intOf]; omega
      · obtain rfl : k = A.length := by omega
        have hne : t.plots ≠ [] := by intro e; have := (check_len HC.out).2; rw [e] at this; simp at this
        have HM7 := Lib.hid (HMO6.out.below hB)
        obtain ⟨pb, po, rfl, -, -⟩ := rd_ints HM7.out.rp hne
        have HA7 := Lib.hid (HR6.out.below hB)
        obtain ⟨MX, hMX⟩ : ∃ MX, MX = mxT A out A.length := ⟨_, rfl⟩
        have hP : MX.Perm A := by rw [hMX]; exact mxT_perm HPM.out
        have hMl : MX.length = A.length := hP.length_eq
        rw [← hMX] at hown
        have hX7 := RdI.own rfl rfl hown
        obtain ⟨a12, p12, rfl⟩ := own_slice hown
        have HCP : Hid (MX ≠ [] → MX.length ≤ p12) := Lib.hid (fun h => by obtain ⟨g, _, _, hc, _⟩ := TabQ.of_own hown h; exact hc)
        have HNMX := Lib.hid (HNM.out.perm hP)
        have HHX := Lib.hid (show Heard (lis t wind voice (inL MX)) by rw [lis_perm hP]; exact HHA.out)
        have HX7 := Lib.hid hX7
        have HFA : Hid (∀ W, RdI W (.slice (some ⟨pb, po, none⟩) t.plots.length pc) t.plots → RdI W (.slice a9 A.length p9) A → Calls Try.prog 46 #[.agg #[.int .i64 t.wide, .slice (some ⟨pb, po, none⟩) t.plots.length pc], .agg #[.int .i64 wind, .int .i64 voice], .slice a9 A.length p9] W fun e w' => ∃ v, e = .returned (.tuple #[v, .int .i64 0]) ∧ Below W.heap.size W w' ∧ RdI w' v (cX t wind voice A)) :=
          Lib.hid (fun W h1 h2 => Few_n HNM.out wind voice HAE.out HHA.out pb po pc a9 p9 W h1 h2)
        have HFX : Hid (∀ W, RdI W (.slice (some ⟨pb, po, none⟩) t.plots.length pc) t.plots → RdI W (.slice a12 MX.length p12) MX → Calls Try.prog 46 #[.agg #[.int .i64 t.wide, .slice (some ⟨pb, po, none⟩) t.plots.length pc], .agg #[.int .i64 wind, .int .i64 voice], .slice a12 MX.length p12] W fun e w' => ∃ v, e = .returned (.tuple #[v, .int .i64 0]) ∧ Below W.heap.size W w' ∧ RdI w' v (cX t wind voice MX)) :=
          Lib.hid (fun W h1 h2 => Few_n HNMX.out wind voice HAE.out HHX.out pb po pc a12 p12 W h1 h2)
        have HUA : Hid (∀ W, RdI W (.slice (some ⟨pb, po, none⟩) t.plots.length pc) t.plots → RdI W (.slice a9 A.length p9) A → Calls Try.prog 50 #[.agg #[.int .i64 t.wide, .slice (some ⟨pb, po, none⟩) t.plots.length pc], .agg #[.int .i64 wind, .int .i64 voice], .slice a9 A.length p9] W fun e w' => ∃ v, e = .returned (.tuple #[v, .int .i64 0]) ∧ Below W.heap.size W w' ∧ RdI w' v (cU t wind voice A)) :=
          Lib.hid (fun W h1 h2 => Apart_n HNM.out wind voice HAE.out pb po pc a9 p9 W h1 h2)
        have HUX : Hid (∀ W, RdI W (.slice (some ⟨pb, po, none⟩) t.plots.length pc) t.plots → RdI W (.slice a12 MX.length p12) MX → Calls Try.prog 50 #[.agg #[.int .i64 t.wide, .slice (some ⟨pb, po, none⟩) t.plots.length pc], .agg #[.int .i64 wind, .int .i64 voice], .slice a12 MX.length p12] W fun e w' => ∃ v, e = .returned (.tuple #[v, .int .i64 0]) ∧ Below W.heap.size W w' ∧ RdI w' v (cU t wind voice MX)) :=
          Lib.hid (fun W h1 h2 => Apart_n HNMX.out wind voice HAE.out pb po pc a12 p12 W h1 h2)
        have HMX : Hid (∀ W, RdI W (.slice (some ⟨pb, po, none⟩) t.plots.length pc) t.plots → RdI W (.slice a12 MX.length p12) MX → Calls Try.prog 48 #[.agg #[.int .i64 t.wide, .slice (some ⟨pb, po, none⟩) t.plots.length pc], .agg #[.int .i64 wind, .int .i64 voice], .slice a12 MX.length p12] W fun e w' => ∃ v, e = .returned (.tuple #[v, .int .i64 0]) ∧ Below W.heap.size W w' ∧ RdI w' v (cM t wind voice MX)) :=
          Lib.hid (fun W h1 h2 => Must_n HNMX.out wind voice HAE.out HHX.out pb po pc a12 p12 W h1 h2)
        rw [cX_perm hP] at HFX
        rw [cU_perm hP] at HUX
        rw [cM_perm hP] at HMX
        have HBX : Hid (∀ (st : Nat) W, st ≤ 30 → RdI W (.slice (some ⟨pb, po, none⟩) t.plots.length pc) t.plots → RdI W (.slice a12 MX.length p12) MX → Calls Try.prog 52 #[.agg #[.int .i64 t.wide, .slice (some ⟨pb, po, none⟩) t.plots.length pc], .agg #[.int .i64 wind, .int .i64 voice], .slice a12 MX.length p12, .int .i64 st] W fun e w' => ∃ v, e = .returned (.tuple #[v, .int .i64 (cN t wind voice MX st), .int .i64 0]) ∧ Below W.heap.size W w' ∧ RdI w' v (chooseP (lis t wind voice (inL MX)) st).1) :=
          Lib.hid (fun st W hst h1 h2 => Best_n HNMX.out wind voice HAE.out pb po pc a12 p12 st hst W h1 h2)
        have HML := Lib.hid (more_must HNM.out wind voice HHA.out)
        obtain ⟨X, hX⟩ : ∃ X, X = cX t wind voice A := ⟨_, rfl⟩
        obtain ⟨U, hU⟩ : ∃ U, U = cU t wind voice A := ⟨_, rfl⟩
        obtain ⟨M, hM⟩ : ∃ M, M = cM t wind voice A := ⟨_, rfl⟩
        rw [← hX] at HFA HFX HML
        rw [← hU] at HUA HUX
        rw [← hM] at HMX HML
        have HXQ := Lib.hid hX
        have HUQ := Lib.hid hU
        have HMQ := Lib.hid hM
        have HMP := Lib.hid hP
        have HMLN := Lib.hid hMl
        clear hne hMX hP hMl hown hX7 hX hU hM hml hB HB HO HMO6 HR6 HO6 HPM
        obtain ⟨k0, k1, k2, k3, k4, k5⟩ := HM7.out.cs
        go_wp2_with fail
        refine (HFA.out _ HM7.out.rp HA7.out).mono ?_
        rintro e w8 ⟨vx, rfl, hB, hx⟩
        obtain ⟨_, ax, qx, rfl, -⟩ := id hx
        obtain ⟨W9, hW9⟩ : ∃ W9 : World, W9 = w8.alloc (.cells #[.slice ax X.length qx] 31) := ⟨_, rfl⟩
        have h9 : Below wk.heap.size wk W9 := by rw [hW9]; exact al hB _
        have HM9 := Lib.hid (HM7.out.below h9)
        have HA9 := Lib.hid (HA7.out.below h9)
        have HX9 := Lib.hid (HX7.out.below h9)
        have HX := Lib.hid (show RdI W9 (.slice ax X.length qx) X by rw [hW9]; exact hx.below (below1 _ _))
        have HB15 : Hid (W9.heap[w8.heap.size]? = some (.cells #[.slice ax X.length qx] 31 (0, 0))) := Lib.hid (by rw [hW9]; exact heap_alloc_last _ _)
        obtain ⟨c15, hc15⟩ : ∃ c15, c15 = w8.heap.size := ⟨_, rfl⟩
        rw [← hc15] at HB15
        have HW9 := Lib.hid hW9
        have HC15 := Lib.hid hc15
        clear hx hB hW9 h9 hc15 k0 k1 k2 k3 k4 k5 HM7 HA7 HX7 HFA
        go_upto_region 15 with fail
        rw [← HW9.out]
        rw [← HC15.out]
        clear HW9 HC15
        obtain ⟨k0, k1, k2, k3, k4, k5⟩ := HM9.out.cs
        go_wp2_with fail
        refine (HFX.out _ HM9.out.rp HX9.out).mono ?_
        rintro e w10 ⟨vy, rfl, hB, hy⟩
        have HM10 := Lib.hid (HM9.out.below hB)
        have HA10 := Lib.hid (HA9.out.below hB)
        have HX10 := Lib.hid (HX9.out.below hB)
        have HX := Lib.hid (HX.out.below hB)
        have HB15 : Hid (w10.heap[c15]? = some (.cells #[.slice ax X.length qx] 31 (0, 0))) := Lib.hid ((hB.block _ (Array.getElem?_eq_some_iff.1 HB15.out).1).trans HB15.out)
        have HY := Lib.hid hy
        clear hB hy k0 k1 k2 k3 k4 k5 HM9 HA9 HX9 HFX
        obtain ⟨k0, k1, k2, k3, k4, k5⟩ := HM10.out.cs
        go_wp2_with fail
        refine (HUA.out _ HM10.out.rp HA10.out).mono ?_
        rintro e w11 ⟨vu, rfl, hB, hu⟩
        have HM11 := Lib.hid (HM10.out.below hB)
        have HX11 := Lib.hid (HX10.out.below hB)
        have HX := Lib.hid (HX.out.below hB)
        have HB15 : Hid (w11.heap[c15]? = some (.cells #[.slice ax X.length qx] 31 (0, 0))) := Lib.hid ((hB.block _ (Array.getElem?_eq_some_iff.1 HB15.out).1).trans HB15.out)
        have HY := Lib.hid (HY.out.below hB)
        have HU := Lib.hid hu
        obtain ⟨_, au, qu, rfl, -⟩ := id hu
        clear hB hu k0 k1 k2 k3 k4 k5 HM10 HA10 HX10 HUA
        obtain ⟨k0, k1, k2, k3, k4, k5⟩ := HM11.out.cs
        go_wp2_with fail
        refine (HUX.out _ HM11.out.rp HX11.out).mono ?_
        rintro e w12 ⟨vv, rfl, hB, hv⟩
        have HM12 := Lib.hid (HM11.out.below hB)
        have HX12 := Lib.hid (HX11.out.below hB)
        have HX := Lib.hid (HX.out.below hB)
        have HB15 : Hid (w12.heap[c15]? = some (.cells #[.slice ax X.length qx] 31 (0, 0))) := Lib.hid ((hB.block _ (Array.getElem?_eq_some_iff.1 HB15.out).1).trans HB15.out)
        have HY := Lib.hid (HY.out.below hB)
        have HU := Lib.hid (HU.out.below hB)
        have HV := Lib.hid hv
        clear hB hv k0 k1 k2 k3 k4 k5 HM11 HX11 HUX
        obtain ⟨k0, k1, k2, k3, k4, k5⟩ := HM12.out.cs
        go_wp2_with fail
        refine (HMX.out _ HM12.out.rp HX12.out).mono ?_
        rintro e w13 ⟨vm, rfl, hB, hm⟩
        obtain ⟨_, am, qm, rfl, -⟩ := id hm
        obtain ⟨W14, hW14⟩ : ∃ W14 : World, W14 = w13.alloc (.cells #[.slice am M.length qm] 31) := ⟨_, rfl⟩
        have h14 : Below w12.heap.size w12 W14 := by rw [hW14]; exact al hB _
        have HM14 := Lib.hid (HM12.out.below h14)
        have HX14 := Lib.hid (HX12.out.below h14)
        have HX := Lib.hid (HX.out.below h14)
        have HB15 : Hid (W14.heap[c15]? = some (.cells #[.slice ax X.length qx] 31 (0, 0))) := Lib.hid ((h14.block _ (Array.getElem?_eq_some_iff.1 HB15.out).1).trans HB15.out)
        have HY := Lib.hid (HY.out.below h14)
        have HU := Lib.hid (HU.out.below h14)
        have HV := Lib.hid (HV.out.below h14)
        have HM := Lib.hid (show RdI W14 (.slice am M.length qm) M by rw [hW14]; exact hm.below (below1 _ _))
        have HB22 : Hid (W14.heap[w13.heap.size]? = some (.cells #[.slice am M.length qm] 31 (0, 0))) := Lib.hid (by rw [hW14]; exact heap_alloc_last _ _)
        obtain ⟨c22, hc22⟩ : ∃ c22, c22 = w13.heap.size := ⟨_, rfl⟩
        rw [← hc22] at HB22
        have HW14 := Lib.hid hW14
        have HC22 := Lib.hid hc22
        clear hB hm hW14 h14 hc22 k0 k1 k2 k3 k4 k5 HM12 HX12 HMX
        go_upto_region 19 with fail
        rw [← HW14.out]
        rw [← HC22.out]
        clear HW14 HC22
        have k15 : W14.cell? ⟨c15, 0, none⟩ = some (.slice ax X.length qx) := by rw [cell_of_row _ _ _ _ _ _ HB15.out]; rfl
        have l15 : c15 < W14.heap.size := (Array.getElem?_eq_some_iff.1 HB15.out).1
        go_wp2_with fail
        refine (Like_int (.slice ax X.length qx) vy X X true (by simp) W14 HX.out HY.out).mono ?_
        rintro e w15 ⟨rfl, hB⟩
        have HM15 := Lib.hid (HM14.out.below hB)
        have HX15 := Lib.hid (HX14.out.below hB)
        have HX := Lib.hid (HX.out.below hB)
        have HB15 : Hid (w15.heap[c15]? = some (.cells #[.slice ax X.length qx] 31 (0, 0))) := Lib.hid ((hB.block _ (Array.getElem?_eq_some_iff.1 HB15.out).1).trans HB15.out)
        have HB22 : Hid (w15.heap[c22]? = some (.cells #[.slice am M.length qm] 31 (0, 0))) := Lib.hid ((hB.block _ (Array.getElem?_eq_some_iff.1 HB22.out).1).trans HB22.out)
        have HU := Lib.hid (HU.out.below hB)
        have HV := Lib.hid (HV.out.below hB)
        have HM := Lib.hid (HM.out.below hB)
        clear hB k15 l15 HY HM14 HX14
        go_wp2_with fail
        refine (Like_int (.slice au U.length qu) vv U U true (by simp) w15 HU.out HV.out).mono ?_
        rintro e w16 ⟨rfl, hB⟩
        have HM16 := Lib.hid (HM15.out.below hB)
        have HX16 := Lib.hid (HX15.out.below hB)
        have HX := Lib.hid (HX.out.below hB)
        have HB15 : Hid (w16.heap[c15]? = some (.cells #[.slice ax X.length qx] 31 (0, 0))) := Lib.hid ((hB.block _ (Array.getElem?_eq_some_iff.1 HB15.out).1).trans HB15.out)
        have HB22 : Hid (w16.heap[c22]? = some (.cells #[.slice am M.length qm] 31 (0, 0))) := Lib.hid ((hB.block _ (Array.getElem?_eq_some_iff.1 HB22.out).1).trans HB22.out)
        have HU := Lib.hid (HU.out.below hB)
        have HM := Lib.hid (HM.out.below hB)
        clear hB HV HM15 HX15
        have k22 : w16.cell? ⟨c22, 0, none⟩ = some (.slice am M.length qm) := by rw [cell_of_row _ _ _ _ _ _ HB22.out]; rfl
        have l22 : c22 < w16.heap.size := (Array.getElem?_eq_some_iff.1 HB22.out).1
        have hMl : M.length ≤ 1000000 := by
          rw [HMQ.out]
          unfold cM
          have h1 := mustTo_len (lis t wind voice (inL A)) t.plots.length
          omega
        have HCF := Lib.hid (containsFuncR 76 entered76 (.pointer (some ⟨c15, 0, none⟩)) (fun s => !X.contains s) (.slice am M.length qm) M hMl w16 HM.out (fun W hW => ask76 c15 (.slice ax X.length qx) X W (by rw [cell_of_row _ _ _ _ _ _ ((hW.block _ (Array.getElem?_eq_some_iff.1 HB15.out).1).trans HB15.out)]; rfl) (HX.out.below hW)))
        rw [HML.out] at HCF
        clear hMl
        go_wp2_with fail
        refine HCF.out.mono ?_
        rintro e w17 ⟨rfl, hB⟩
        have HM17 := Lib.hid (HM16.out.below hB)
        have HX17 := Lib.hid (HX16.out.below hB)
        have HX := Lib.hid (HX.out.below hB)
        have HB15 : Hid (w17.heap[c15]? = some (.cells #[.slice ax X.length qx] 31 (0, 0))) := Lib.hid ((hB.block _ (Array.getElem?_eq_some_iff.1 HB15.out).1).trans HB15.out)
        have HB22 : Hid (w17.heap[c22]? = some (.cells #[.slice am M.length qm] 31 (0, 0))) := Lib.hid ((hB.block _ (Array.getElem?_eq_some_iff.1 HB22.out).1).trans HB22.out)
        have HU := Lib.hid (HU.out.below hB)
        have HM := Lib.hid (HM.out.below hB)
        clear hB HCF k22 l22 HM16 HX16
        have k15 : w17.cell? ⟨c15, 0, none⟩ = some (.slice ax X.length qx) := by rw [cell_of_row _ _ _ _ _ _ HB15.out]; rfl
        have l15 : c15 < w17.heap.size := (Array.getElem?_eq_some_iff.1 HB15.out).1
        by_cases h0 : MX = []
        · have hA0 : A = [] := by have := HMLN.out; rw [h0] at this; exact List.length_eq_zero_iff.1 this.symm
          have hd1 : ((MX.length : Int) == 0) = true := by rw [h0]; rfl
          have hd2 : ((X.length : Int) == 0) = true := by rw [HXQ.out, hA0, cX_nil]; rfl
          clear hA0 h0
          go_wp2_with fail
          refine (awake_any _).mono ?_
          rintro e w18 ⟨rfl, hB⟩
          have HBE := Lib.hid (HM17.out.below hB).bel
          clear hB
          go_wp2_with fail
          go_ret
          exact ⟨rfl, HBE.out⟩
        · have hd1 : ((MX.length : Int) == 0) = false := by have := List.length_pos_iff.2 h0; simp; omega
          obtain ⟨m, less, hml⟩ : ∃ m less, MX = m :: less := by
            cases MX with
            | nil => exact absurd rfl h0
            | cons m less => exact ⟨m, less, rfl⟩
          obtain ⟨b12, o12, rfl, -, -⟩ := rd_ints HX17.out h0
          have hcp := HCP.out h0
          have hll : MX.length - 1 = less.length := by rw [hml]; rfl
          have hM1 : 1 ≤ MX.length := by rw [hml]; simp
          have hM1' : (1 : Int) ≤ MX.length := by omega
          have HLL := Lib.hid hll
          have HME := Lib.hid hml
          clear hml h0 hll
          clear k15 l15
          go_upto_region 23 with fail
          go_cut [24] from 147 to 148 (fun s24 wx => ∃ a q, s24 = .slice a less.length q ∧ RdI w17 s24 less ∧ wx = w17)
          case first =>
            go_wp2_with fail
            · obtain rfl : p12 = 1 := by omega
              go_meet
              have h0 : less = [] := List.length_eq_zero_iff.1 (by have := HLL.out; omega)
              exact ⟨some ⟨b12, o12, none⟩, 0, by rw [HLL.out], ⟨by rw [h0]; simp, some ⟨b12, o12, none⟩, 0, by rw [HLL.out], fun hn => absurd h0 hn⟩, rfl⟩
            · go_meet
              exact ⟨some ⟨b12, o12 + 1, none⟩, p12 - 1, by rw [HLL.out], by rw [HLL.out]; exact RdI.tail (cap := p12) (m := m) (by have h := HX17.out; rw [HME.out] at h; exact h), rfl⟩
          case rest =>
            obtain ⟨a24, q24, rfl, hr24, rfl⟩ := hcut
            have hNm := HNMX.out
            have hHm := HHX.out
            rw [HME.out] at hNm hHm
            have hml0 := more_law hNm wind voice hHm
            have hmlaw := And.intro hml0.n (And.intro hml0.x30 (And.intro hml0.z1 (And.intro hml0.z2 (And.intro hml0.w1 (And.intro hml0.w2 (And.intro hml0.u30 hml0.few))))))
            clear hml0
            rw [← HME.out, cX_perm HMP.out, cU_perm HMP.out, cM_perm HMP.out, HMLN.out] at hmlaw
            rw [← HXQ.out, ← HUQ.out, ← HMQ.out] at hmlaw
            obtain ⟨hmn, hx30, hz1, hz2, hw1, hw2, hu30, hfew⟩ := hmlaw
            have hNl := hNm.tail
            have hHl : Heard (lis t wind voice (inL less)) := heard_sub hHm (lis_sub fun x hx => List.mem_cons_of_mem _ hx)
            have HFL : Hid (∀ W, RdI W (.slice (some ⟨pb, po, none⟩) t.plots.length pc) t.plots → RdI W (.slice a24 less.length q24) less → Calls Try.prog 46 #[.agg #[.int .i64 t.wide, .slice (some ⟨pb, po, none⟩) t.plots.length pc], .agg #[.int .i64 wind, .int .i64 voice], .slice a24 less.length q24] W fun e w' => ∃ v, e = .returned (.tuple #[v, .int .i64 0]) ∧ Below W.heap.size W w' ∧ RdI w' v (cX t wind voice less)) :=
              Lib.hid (fun W h1 h2 => Few_n hNl wind voice HAE.out hHl pb po pc a24 q24 W h1 h2)
            have HUL : Hid (∀ W, RdI W (.slice (some ⟨pb, po, none⟩) t.plots.length pc) t.plots → RdI W (.slice a24 less.length q24) less → Calls Try.prog 50 #[.agg #[.int .i64 t.wide, .slice (some ⟨pb, po, none⟩) t.plots.length pc], .agg #[.int .i64 wind, .int .i64 voice], .slice a24 less.length q24] W fun e w' => ∃ v, e = .returned (.tuple #[v, .int .i64 0]) ∧ Below W.heap.size W w' ∧ RdI w' v (cU t wind voice less)) :=
              Lib.hid (fun W h1 h2 => Apart_n hNl wind voice HAE.out pb po pc a24 q24 W h1 h2)
            have HML2 : Hid (∀ W, RdI W (.slice (some ⟨pb, po, none⟩) t.plots.length pc) t.plots → RdI W (.slice a24 less.length q24) less → Calls Try.prog 48 #[.agg #[.int .i64 t.wide, .slice (some ⟨pb, po, none⟩) t.plots.length pc], .agg #[.int .i64 wind, .int .i64 voice], .slice a24 less.length q24] W fun e w' => ∃ v, e = .returned (.tuple #[v, .int .i64 0]) ∧ Below W.heap.size W w' ∧ RdI w' v (cM t wind voice less)) :=
              Lib.hid (fun W h1 h2 => Must_n hNl wind voice HAE.out hHl pb po pc a24 q24 W h1 h2)
            have HBX := Lib.hid (fun W => HBX.out X.length W hx30)
            rw [hmn] at HBX
            obtain ⟨Z, hZ⟩ : ∃ Z, Z = cX t wind voice less := ⟨_, rfl⟩
            obtain ⟨Wn, hWn⟩ : ∃ Wn, Wn = cU t wind voice less := ⟨_, rfl⟩
            obtain ⟨F, hF⟩ : ∃ F, F = cM t wind voice less := ⟨_, rfl⟩
            have hFl : F.length ≤ 1000000 := by
              rw [hF]
              unfold cM
              have h1 := mustTo_len (lis t wind voice (inL less)) t.plots.length
              omega
            have HFA2 := Lib.hid hfew
            rw [← hZ] at HFL hz1 hz2
            rw [← hWn] at HUL hw1 hw2
            rw [← hF] at HML2 HFA2
            have d1 : decide (Z.length ≤ X.length) = true := by simpa using hz1
            have d1' : decide ((Z.length : Int) ≤ (X.length : Int)) = true := by simp; omega
            have d2 : decide (X.length ≤ Z.length + 1) = true := by simpa using hz2
            have d2' : decide ((X.length : Int) ≤ (Z.length : Int) + 1) = true := by simp; omega
            have d3 : decide (Wn.length ≤ U.length) = true := by simpa using hw1
            have d3' : decide ((Wn.length : Int) ≤ (U.length : Int)) = true := by simp; omega
            have d4 : decide (U.length ≤ Wn.length + 1) = true := by simpa using hw2
            have d4' : decide ((U.length : Int) ≤ (Wn.length : Int) + 1) = true := by simp; omega
            have hzl : Z.length ≤ 30 := by omega
            have hwl : Wn.length ≤ 30 := by omega
            clear hz1 hz2 hw1 hw2
            have HFLN := Lib.hid hFl
            have HLS := Lib.hid hr24
            clear hNm hHm hNl hHl hZ hWn hF hmn hfew hr24 hFl HNMX HHX HNM HHA HML HXQ HUQ HMQ HMP HLL HME HCP
            obtain ⟨k0, k1, k2, k3, k4, k5⟩ := HM17.out.cs
            go_wp2_with fail
            refine (HFL.out _ HM17.out.rp HLS.out).mono ?_
            rintro e w18 ⟨vz, rfl, hB, hz⟩
            have HM18 := Lib.hid (HM17.out.below hB)
            have HB15 : Hid (w18.heap[c15]? = some (.cells #[.slice ax X.length qx] 31 (0, 0))) := Lib.hid ((hB.block _ (Array.getElem?_eq_some_iff.1 HB15.out).1).trans HB15.out)
            have HB22 : Hid (w18.heap[c22]? = some (.cells #[.slice am M.length qm] 31 (0, 0))) := Lib.hid ((hB.block _ (Array.getElem?_eq_some_iff.1 HB22.out).1).trans HB22.out)
            have HX17 := Lib.hid (HX17.out.below hB)
            have HX := Lib.hid (HX.out.below hB)
            have HU := Lib.hid (HU.out.below hB)
            have HM := Lib.hid (HM.out.below hB)
            have HLS := Lib.hid (HLS.out.below hB)
            obtain ⟨_, az, qz, rfl, -⟩ := id hz
            clear hB hz k0 k1 k2 k3 k4 k5 HM17 HFL
            obtain ⟨k0, k1, k2, k3, k4, k5⟩ := HM18.out.cs
            go_wp2_with fail
            refine (HUL.out _ HM18.out.rp HLS.out).mono ?_
            rintro e w19 ⟨vw, rfl, hB, hw⟩
            have HM19 := Lib.hid (HM18.out.below hB)
            have HB15 : Hid (w19.heap[c15]? = some (.cells #[.slice ax X.length qx] 31 (0, 0))) := Lib.hid ((hB.block _ (Array.getElem?_eq_some_iff.1 HB15.out).1).trans HB15.out)
            have HB22 : Hid (w19.heap[c22]? = some (.cells #[.slice am M.length qm] 31 (0, 0))) := Lib.hid ((hB.block _ (Array.getElem?_eq_some_iff.1 HB22.out).1).trans HB22.out)
            have HX17 := Lib.hid (HX17.out.below hB)
            have HX := Lib.hid (HX.out.below hB)
            have HM := Lib.hid (HM.out.below hB)
            have HLS := Lib.hid (HLS.out.below hB)
            obtain ⟨_, aw, qw, rfl, -⟩ := id hw
            clear hB hw k0 k1 k2 k3 k4 k5 HM18 HUL
            obtain ⟨k0, k1, k2, k3, k4, k5⟩ := HM19.out.cs
            go_wp2_with fail
            refine (HML2.out _ HM19.out.rp HLS.out).mono ?_
            rintro e w20 ⟨vf, rfl, hB, hf⟩
            have HM20 := Lib.hid (HM19.out.below hB)
            have HF := Lib.hid hf
            have HB15 : Hid (w20.heap[c15]? = some (.cells #[.slice ax X.length qx] 31 (0, 0))) := Lib.hid ((hB.block _ (Array.getElem?_eq_some_iff.1 HB15.out).1).trans HB15.out)
            have HB22 : Hid (w20.heap[c22]? = some (.cells #[.slice am M.length qm] 31 (0, 0))) := Lib.hid ((hB.block _ (Array.getElem?_eq_some_iff.1 HB22.out).1).trans HB22.out)
            have HX17 := Lib.hid (HX17.out.below hB)
            have HX := Lib.hid (HX.out.below hB)
            have HM := Lib.hid (HM.out.below hB)
            clear hB hf k0 k1 k2 k3 k4 k5 HM19 HML2
            obtain ⟨k0, k1, k2, k3, k4, k5⟩ := HM20.out.cs
            have k15 : w20.cell? ⟨c15, 0, none⟩ = some (.slice ax X.length qx) := by rw [cell_of_row _ _ _ _ _ _ HB15.out]; rfl
            have l15 : c15 < w20.heap.size := (Array.getElem?_eq_some_iff.1 HB15.out).1
            go_wp2_with fail
            refine (HBX.out _ HM20.out.rp HX17.out).mono ?_
            rintro e w21 ⟨vb, rfl, hB, -⟩
            have HM21 := Lib.hid (HM20.out.below hB)
            have HB15 : Hid (w21.heap[c15]? = some (.cells #[.slice ax X.length qx] 31 (0, 0))) := Lib.hid ((hB.block _ (Array.getElem?_eq_some_iff.1 HB15.out).1).trans HB15.out)
            have HB22 : Hid (w21.heap[c22]? = some (.cells #[.slice am M.length qm] 31 (0, 0))) := Lib.hid ((hB.block _ (Array.getElem?_eq_some_iff.1 HB22.out).1).trans HB22.out)
            have HM := Lib.hid (HM.out.below hB)
            have HF := Lib.hid (HF.out.below hB)
            clear hB k0 k1 k2 k3 k4 k5 k15 l15 HM20 HBX
            have k15 : w21.cell? ⟨c15, 0, none⟩ = some (.slice ax X.length qx) := by rw [cell_of_row _ _ _ _ _ _ HB15.out]; rfl
            have l15 : c15 < w21.heap.size := (Array.getElem?_eq_some_iff.1 HB15.out).1
            have HCF := Lib.hid (containsFuncR 77 entered77 (.pointer (some ⟨c22, 0, none⟩)) (fun s => !M.contains s) vf F HFLN.out w21 HF.out (fun W hW => ask77 c22 (.slice am M.length qm) M W (by rw [cell_of_row _ _ _ _ _ _ ((hW.block _ (Array.getElem?_eq_some_iff.1 HB22.out).1).trans HB22.out)]; rfl) (HM.out.below hW)))
            rw [HFA2.out] at HCF
            go_wp2_with fail
            refine HCF.out.mono ?_
            rintro e w22 ⟨rfl, hB⟩
            have HM22 := Lib.hid (HM21.out.below hB)
            clear hB HCF k15 l15
            go_wp2_with fail
            refine (awake_any _).mono ?_
            rintro e w23 ⟨rfl, hB⟩
            have HBE := Lib.hid (HM22.out.below hB).bel
            clear hB
            go_wp2_with fail
            go_ret
            exact ⟨rfl, HBE.out⟩
end Go.Proofs.Ytimedmkpenbmkaa

namespace Go.Proofs.Ytimedmkpenbmkaa
open Go.ChangeShapes Go.WideShapes Go.ChangeAt Go.RowKit Go.Joins
set_option linter.unusedVariables false
set_option linter.unusedSimpArgs false

set_option maxHeartbeats 1000000 in
set_option maxRecDepth 100000 in
theorem HearMore_lifted (os : Os) (started : os.Started) (H : Type) (enc : TypeId × Value → H) :
    ReturnsInHanded {} Try.checked os 13 .any (Rows.hearMoreSpec.pre6 enc Try.prog Try.f13 Rows.hearMoreRow.domain false) (Rows.hearMoreSpec.post enc Try.prog Try.f13 false true false false) := by
  refine returnsInHanded_of_change (C := Try.checked) Try.own started (by kernel_rfl) Try.func13
    (ChangeSpec.witness6 (enc := enc) (C := Try.checked) false ⟨#[], #[.slice none 0 0, .slice none 0 0], []⟩ 8 (by kernel_rfl) (by kernel_rfl) (by kernel_rfl) (by kernel_rfl)) ?_
  intro W base args ds gs before hval0 hW hcnd _
  have hval : ∀ (j : Nat) t v, Try.f13.params[j]? = some t → args[j]? = some v → Value.okWide Try.prog W .any base t v := hval0
  have hW' := hW
  obtain ⟨p, q, hA0, hV, rfl, hfz, hnd⟩ := hW
  have hA : DataW.TrodAll enc Try.prog W 0 (fun _ => true) true Try.f13.params.toList args.toList ds p := hA0
  rw [Try.params13] at hA hval
  obtain ⟨v0, vs0, d0, ds0, p0, q0, hargs, rfl, rfl, h0, r0⟩ := trodAll_cons hA
  obtain ⟨v1, vs1, d1, ds1, p1, q1, rfl, rfl, rfl, h1, r1⟩ := trodAll_cons r0
  obtain ⟨rfl, rfl, rfl⟩ := trodAll_nil r1
  obtain rfl : args = #[v0, v1] := by cases args; simp_all
  obtain ⟨rfl, rfl⟩ := trodVars_none hV
  have lt0 := lt_of_trod h0
  have k0 := h0
  have lt1 := lt_of_trod h1
  have k1 := h1
  obtain ⟨m0, hm0⟩ := h0
  obtain ⟨m1, hm1⟩ := h1
  obtain ⟨x0, x1, x2, rfl⟩ := okWide_slice Try.underlying84 (hval 0 84 v0 rfl rfl)
  obtain ⟨y0, y1, y2, rfl⟩ := okWide_slice Try.underlying84 (hval 1 84 v1 rfl rfl)
  obtain ⟨ma, n, mc, e0, hM⟩ := rdB_of_trod (fun _ => rfl) Try.underlying84 Try.underlying5 cells5 hm0
  obtain ⟨ma2, n2, mc2, e1, hM2⟩ := rdB_of_trod (fun _ => rfl) Try.underlying84 Try.underlying5 cells5 hm1
  clear hA0 hval0
  injection e0 with q1 q2 q3
  subst q1 q2 q3
  injection e1 with q1 q2 q3
  subst q1 q2 q3
  refine (HearMore_any _ _ _ _ _ _ W hM hM2).mono fun e W' ⟨he, bel⟩ => ?_
  subst he
  exact ⟨_, rfl, _, _, _, [], _, [], hW', trodAll_mk1 (shut_bool Try.underlying4 _), (trodAll_cons_mk (Below.trod Try.laidOut (by kernel_rfl) (of_decide_eq_true (by kernel_rfl)) k0 bel lt0) (trodAll_cons_mk (Below.trod Try.laidOut (by kernel_rfl) (of_decide_eq_true (by kernel_rfl)) k1 bel lt1) trodAll_mk0)), rfl, bel.frame _, fun h => by cases h⟩

theorem HearMore_holds : Rows.HearMoreSaid :=
  OpenClaim.holds_of_wide 13 Try.f13 rfl rfl rfl rfl rfl rfl rfl ⟨rfl, rfl, rfl, rfl, rfl⟩ rfl rfl rfl rfl rfl (by kernel_rfl) Try.func13 (by kernel_rfl)
    (of_decide_eq_true (by kernel_rfl)) (by unfold Func.isWrapper; first | (rw [if_pos (by decide +kernel)]; kernel_rfl) | (rw [if_neg (by decide +kernel)]; exact ⟨rfl, rfl⟩))
    (fun os started H enc _ => HearMore_lifted os started H enc)
end Go.Proofs.Ytimedmkpenbmkaa
