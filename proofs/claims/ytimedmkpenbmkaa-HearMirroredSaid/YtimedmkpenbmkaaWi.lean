import Derived.Test.YtimedmkpenbmkaaHo
import Derived.Test.YtimedmkpenbmkaaTk
namespace Go.Proofs.Ytimedmkpenbmkaa
open Go.RowKit Go.Shelf
set_option linter.unusedSimpArgs false
set_option linter.unusedVariables false

theorem Ints.hold' {w w' : World} {b o : Nat} {xs : List Int} (h : Ints w b o xs) {Kp : Nat → Prop} (hh : Hold Kp w w') (hb : Kp b) : Ints w' b o xs := ⟨Nat.lt_of_lt_of_le h.1 hh.size, fun i hi => (hh.cell (p := ⟨b, o + i, none⟩) hb h.1).trans (h.2 i hi)⟩
theorem A_info25 : (Try.prog.info? 25).map (fun i => (i.zero, i.size, i.bytes)) = some (some (.int .i64 0), 1, 8) := by kernel_rfl
theorem A_und66 : Try.prog.underlying 66 = some (.slice 25) := by kernel_rfl
/-- the winds in which a house hears a stand -/
def windsTo (t : Hr.Town) (voice : Int) (s h k : Nat) : List Int := ((List.range k).filter fun d => hearB t (d : Nat) voice h s).map fun (p : Nat) => (p : Int)
def windsOf (t : Hr.Town) (voice : Int) (s h : Nat) : List Int := windsTo t voice s h 5
theorem windsTo_yes {t : Hr.Town} {voice : Int} {s h k : Nat} (e : hearB t (k : Nat) voice h s = true) : windsTo t voice s h (k + 1) = windsTo t voice s h k ++ [(k : Int)] := by
  unfold windsTo; rw [List.range_succ, List.filter_append]; simp [e]
theorem windsTo_no {t : Hr.Town} {voice : Int} {s h k : Nat} (e : hearB t (k : Nat) voice h s = false) : windsTo t voice s h (k + 1) = windsTo t voice s h k := by
  unfold windsTo; rw [List.range_succ, List.filter_append]; simp [e]
theorem windsTo_len (t : Hr.Town) (voice : Int) (s h k : Nat) : (windsTo t voice s h k).length ≤ k := by
  unfold windsTo
  have := List.length_filter_le (fun d => hearB t (d : Nat) voice h s) (List.range k)
  simp at this ⊢; omega

set_option maxHeartbeats 1000000 in
set_option maxRecDepth 100000 in
theorem Winds_no (wd voice s h : Int) (a : Option Addr) (cap : Nat) (xs : List Int) (hl : xs.length ≤ 1000000) (w : World) (hR : RdI w (.slice a xs.length cap) xs) (he : atE wd xs 0 voice s 0 ≠ 0) :
    Calls Try.prog 43 #[.agg #[.int .i64 wd, .slice a xs.length cap], .int .i64 voice, .int .i64 s, .int .i64 h] w fun e w' => e = .returned (.tuple #[.slice none 0 0, .int .i64 (atE wd xs 0 voice s 0)]) ∧ Below w.heap.size w w' := by
  have HB := Lib.hid (below1 w (.cells #[.int .i64 wd, .slice a xs.length cap] 24))
  have HP := Lib.hid (openAt_bad wd 0 voice s 0 a cap xs hl _ (hR.below HB.out) he)
  unfold zeroWork at HP
  generalize atE wd xs 0 voice s 0 = E at he HP ⊢
  have h1 : (E != 0) = true := by simpa using he
  clear he hR
  go_enter Try.func43, Try.ntmps43
  go_wp2_with fail
  refine HP.out.mono ?_
  rintro e w1 ⟨rfl, hB⟩
  have HB1 := Lib.hid (join HB.out hB)
  clear hB HP
  go_wp2
  go_ret2
  exact ⟨rfl, by first | (with_reducible exact al HB1.out _) | (with_reducible refine setc6 HB1.out ?_; omega)⟩

set_option maxHeartbeats 1000000 in
set_option maxRecDepth 100000 in
theorem Winds_plot (t : Hr.Town) (ok : t.Ok) (voice : Int) (s : Nat) (h : Int) (he : atE t.wide t.plots 0 voice s 0 = 0) (hh : plotErr t.plots h 1 ≠ 0) (b o cap : Nat) (w : World) (hI : Ints w b o t.plots) :
    Calls Try.prog 43 #[.agg #[.int .i64 t.wide, .slice (some ⟨b, o, none⟩) t.plots.length cap], .int .i64 voice, .int .i64 s, .int .i64 h] w fun e w' => e = .returned (.tuple #[.slice none 0 0, .int .i64 (plotErr t.plots h 1)]) ∧ Below w.heap.size w w' := by
  obtain ⟨hc, ha, hp⟩ := atE_ok he
  have h30 : t.plots.length ≤ 30 := ok.n30
  have HB := Lib.hid (below1 w (.cells #[.int .i64 t.wide, .slice (some ⟨b, o, none⟩) t.plots.length cap] 24))
  have hIb := hI.below HB.out hI.1
  have HP := Lib.hid (openAt_ok t.wide 0 voice s 0 b o cap t.plots _ ⟨fun _ => ⟨b, o, rfl, hIb⟩, by omega⟩ hIb (by omega) hc ha hp)
  have HPL := Lib.hid (fun W (hB : Below w.heap.size w W) => plotError_any t.wide b o cap t.plots W h 1 (by omega) (hI.below hB hI.1))
  have hx0 : (w.alloc (.cells #[.int .i64 t.wide, .slice (some ⟨b, o, none⟩) t.plots.length cap] 24)).heap[w.heap.size]? = some (.cells #[.int .i64 t.wide, .slice (some ⟨b, o, none⟩) t.plots.length cap] 24 (0, 0)) := heap_alloc_last _ _
  have HX := Lib.hid hx0
  generalize plotErr t.plots h 1 = E at hh HPL ⊢
  have h1 : (E != 0) = true := by simpa using hh
  clear hh he hc ha hp hI hIb hx0
  go_enter Try.func43, Try.ntmps43
  go_wp2_with fail
  refine HP.out.mono ?_
  rintro e w1 ⟨r, rfl, hD, hr, hB⟩
  have hx1 := (hB.block w.heap.size (by simp)).trans HX.out
  have hlt : w.heap.size < w1.heap.size := (Array.getElem?_eq_some_iff.1 hx1).1
  have HB1 := Lib.hid (join HB.out hB)
  obtain ⟨k0, k1⟩ := blk_cells2 hx1
  clear hB hD HP HB HX hx1 hr
  go_wp2_with fail
  refine (HPL.out _ (al HB1.out _)).mono ?_
  rintro e w2 ⟨rfl, hB⟩
  have HB2 := Lib.hid (join (al HB1.out _) hB)
  clear hB
  go_wp2
  go_ret2
  exact ⟨rfl, HB2.out⟩

def spWi (wk : Value) (s h : Nat) (T : List Int) (y voice : Int) : Nat → List Value → Value → World → Prop
  | 0, _, v, _ => v = wk
  | 1, _, v, _ => v = wk
  | 2, _, v, _ => v = .int .i64 s
  | 3, _, v, w => ∃ tb, v = .slice (some ⟨tb, 0, none⟩) T.length T.length ∧ TabAt w tb T
  | 4, _, v, _ => v = .int .i64 h
  | 5, _, v, w => ∃ tb, v = .pointer (some ⟨tb, h, none⟩) ∧ TabAt w tb T
  | 6, _, v, _ => v = .int .i64 y
  | 7, _, v, _ => v = .bool (y != -1 && decide (y ≤ voice))
  | _, _, _, _ => False
theorem spWi_stable (wk : Value) (s h : Nat) (T : List Int) (y voice : Int) : ∀ i L v w w', spWi wk s h T y voice i L v w → Rs.Gr w w' → spWi wk s h T y voice i L v w' := by
  intro i L v w w' hh hg
  match i with
  | 0 => exact hh
  | 1 => exact hh
  | 2 => exact hh
  | 3 => obtain ⟨tb, h1, h2⟩ := hh; exact ⟨tb, h1, h2.below hg h2.lt⟩
  | 4 => exact hh
  | 5 => obtain ⟨tb, h1, h2⟩ := hh; exact ⟨tb, h1, h2.below hg h2.lt⟩
  | 6 => exact hh
  | 7 => exact hh

set_option maxHeartbeats 2000000 in
set_option maxRecDepth 100000 in
theorem Winds_yes (t : Hr.Town) (ok : t.Ok) (voice : Int) (s h : Nat) (he : atE t.wide t.plots 0 voice s 0 = 0) (hh : plotErr t.plots h 1 = 0) (b o cap : Nat) (w : World) (hI : Ints w b o t.plots) :
    Calls Try.prog 43 #[.agg #[.int .i64 t.wide, .slice (some ⟨b, o, none⟩) t.plots.length cap], .int .i64 voice, .int .i64 s, .int .i64 h] w fun e w' => ∃ v, e = .returned (.tuple #[v, .int .i64 0]) ∧ w'.ownsRow w.heap.size 25 1 v (windsOf t voice s h).length ((windsOf t voice s h).map (Value.int .i64)) ∧ Below w.heap.size w w' := by
  obtain ⟨i0, hi, hz0, hz1, hz2⟩ := info_parts A_info25
  obtain ⟨hc, ha, hp⟩ := atE_ok he
  obtain ⟨_, _, v1, v40⟩ := wind_ok ha
  obtain ⟨s', hs', hs, hst⟩ := plot_ok hp
  obtain rfl : s = s' := by omega
  obtain ⟨h', hh', hhl, _⟩ := plot_ok hh
  obtain rfl : h = h' := by omega
  have h30 : t.plots.length ≤ 30 := ok.n30
  have HB := Lib.hid (below1 w (.cells #[.int .i64 t.wide, .slice (some ⟨b, o, none⟩) t.plots.length cap] 24))
  have hIb := hI.below HB.out hI.1
  have HP := Lib.hid (openAt_ok t.wide 0 voice s 0 b o cap t.plots _ ⟨fun _ => ⟨b, o, rfl, hIb⟩, by omega⟩ hIb (by omega) hc ha hp)
  have HPL := Lib.hid (fun W (hB : Below w.heap.size w W) => plotError_any t.wide b o cap t.plots W h 1 (by omega) (hI.below hB hI.1))
  rw [hh] at HPL
  have hx0 : (w.alloc (.cells #[.int .i64 t.wide, .slice (some ⟨b, o, none⟩) t.plots.length cap] 24)).heap[w.heap.size]? = some (.cells #[.int .i64 t.wide, .slice (some ⟨b, o, none⟩) t.plots.length cap] 24 (0, 0)) := heap_alloc_last _ _
  have HX := Lib.hid hx0
  have HI := Lib.hid hI
  have HST := Lib.hid (show t.at s = 0 from hst)
  have hs2 : s < t.len := hs
  have hh2 : h < t.len := hhl
  clear hh he hc ha hp hI hIb hx0 hst hs' hh'
  go_enter Try.func43, Try.ntmps43
  go_wp2_with fail
  refine HP.out.mono ?_
  rintro e w1 ⟨r, rfl, hD, hr, hB⟩
  have hx1 := (hB.block w.heap.size (by simp)).trans HX.out
  have hlt : w.heap.size < w1.heap.size := (Array.getElem?_eq_some_iff.1 hx1).1
  have HB1 := Lib.hid (join HB.out hB)
  have hrl : r < w1.heap.size := dir_lt hD
  have HD := Lib.hid hD
  obtain ⟨k0, k1⟩ := blk_cells2 hx1
  clear hB hD HP HB HX hx1 hr
  go_wp2_with fail
  refine (HPL.out _ (al HB1.out _)).mono ?_
  rintro e w2 ⟨rfl, hB⟩
  have hbx : w2.heap[w1.heap.size]? = some (.cells #[.int .i64 t.wide, .slice (some ⟨b, o, none⟩) t.plots.length cap, .int .i64 0, .int .i64 voice, .map (some r), .func (.func 128) #[] #[]] 119 (0, 0)) := (hB.block _ (by simp)).trans (heap_alloc_last _ _)
  have HB2 := Lib.hid (join (al HB1.out _) hB)
  have HD2 := Lib.hid ((hB.block r (by simp; omega)).trans (dir_al HD.out hrl _))
  have HBX := Lib.hid hbx
  have hcl : w1.heap.size < w2.heap.size := (Array.getElem?_eq_some_iff.1 hbx).1
  have hwl := HI.out.1
  clear hB k0 k1 HPL hbx HD
  go_wp2_with fail
  go_loopw [13, 14] (fun v0 d wr => ∃ (k : Nat) (wn : Int) (v : Value), v = v0 ∧ k ≤ 5 ∧ d = .int .i64 k ∧ wr.ownsRow w2.heap.size 25 1 v (windsTo t voice s h k).length ((windsTo t voice s h k).map (Value.int .i64)) ∧ Hold (fun i => i ≠ w1.heap.size) w2 wr ∧ wr.heap[w1.heap.size]? = some (.cells #[.int .i64 t.wide, .slice (some ⟨b, o, none⟩) t.plots.length cap, .int .i64 wn, .int .i64 voice, .map (some r), .func (.func 128) #[] #[]] 119 (0, 0))) (fun _ d _ => 5 - (intOf d).toNat)
  case atStart => exact ⟨0, 0, _, rfl, by omega, rfl, own_none _ _ _ _, Hold.refl _ _, HBX.out⟩
  case round =>
    obtain ⟨k, wn, v, hv0, hk, rfl, hown, hHr, hbx⟩ := hrel
    subst hv0
    have hlen := windsTo_len t voice s h k
    by_cases hlt5 : k < 5
    · have hk4 : (k : Int) ≤ 4 := by omega
      have hk0 : (0 : Int) ≤ k := by omega
      obtain ⟨c0, c1, c2, c3, c4, c5⟩ := voice_cells hbx
      have f2 := frozen_of_row wr w1.heap.size 2 _ _ hbx
      have hbx2 := heap_set_same (o := 2) (.int .i64 (k : Int)) hbx
      have HBX2 : Hid ((wr.setCell ⟨w1.heap.size, 2, none⟩ (.int .i64 (k : Int))).heap[w1.heap.size]? = some (.cells #[.int .i64 t.wide, .slice (some ⟨b, o, none⟩) t.plots.length cap, .int .i64 k, .int .i64 voice, .map (some r), .func (.func 128) #[] #[]] 119 (0, 0))) := Lib.hid hbx2
      have HH2 := Lib.hid (hHr.trans (Hold.setCell (Kp := fun i => i ≠ w1.heap.size) wr ⟨w1.heap.size, 2, none⟩ (.int .i64 (k : Int)) (fun h => h rfl)))
      have HO2 : Hid ((wr.setCell ⟨w1.heap.size, 2, none⟩ (.int .i64 (k : Int))).ownsRow w2.heap.size 25 1 v (windsTo t voice s h k).length ((windsTo t voice s h k).map (Value.int .i64))) := Lib.hid (by
        refine hown.kept (grown_set wr w1.heap.size 2 _) ?_
        rcases hown.2 with ⟨g1, _⟩ | ⟨g, cp, cur, g1, g2, _⟩
        · exact .inl (by rw [g1]; rfl)
        · right; rw [g1]; show some g ≠ some w1.heap.size; intro e; injection e; omega)
      clear hown hHr hbx hbx2
      go_wp2_with fail
      obtain ⟨T, hTN⟩ : ∃ T, T = t.needs (k : Nat) s := ⟨_, rfl⟩
      obtain ⟨y, hy⟩ : ∃ y, T.getD h 0 = y := ⟨_, rfl⟩
      have hTl : T.length = t.len := by rw [hTN]; exact needs_len ok _ hs
      have hhb : hearB t (k : Nat) voice h s = (y != -1 && decide (y ≤ voice)) := by
        unfold hearB; rw [← hTN, hy]; simp [hs2, HST.out]
      have HHB := Lib.hid hhb
      have HTL := Lib.hid hTl
      have HTN := Lib.hid hTN
      have HY := Lib.hid hy
      have hhT : (h : Int) < T.length := by rw [hTl]; omega
      clear hhb hTl hTN hy c0 c1 c2 c3 c4 c5 f2
      obtain ⟨W3, hW3⟩ : ∃ W3, W3 = wr.setCell ⟨w1.heap.size, 2, none⟩ (.int .i64 (k : Int)) := ⟨_, rfl⟩
      rw [← hW3] at HBX2 HH2 HO2 ⊢
      clear hW3
      have hc3 : w1.heap.size < W3.heap.size := (Array.getElem?_eq_some_iff.1 HBX2.out).1
      have hs23 := HH2.out.size
      refine Rs.region_gen 8 [[], [], [], [1, 2], [], [1, 2, 3, 4], [1, 2, 3, 4, 5], [0, 1, 2, 3, 4, 5, 6]] [some 39, some 40, some 41, some 42, some 43, some 44, some 45, some 46] (spWi (.agg #[.int .i64 t.wide, .slice (some ⟨b, o, none⟩) t.plots.length cap, .int .i64 k, .int .i64 voice, .map (some r), .func (.func 128) #[] #[]]) s h T y voice) (by kernel_rfl) (by kernel_rfl) rfl (spWi_stable _ _ _ _ _ _) ?_ ?_
      · refine ⟨fun V w' hG hs => ?_, fun V w' hG hs => ?_, fun V w' hG hs => ?_, fun V w' hG hs => ?_, fun V w' hG hs => ?_, fun V w' hG hs => ?_, fun V w' hG hs => ?_, fun V w' hG hs => ?_, trivial⟩
        all_goals
          obtain ⟨c0, c1, c2, c3, c4, c5⟩ := voice_cells ((hG.block _ hc3).trans HBX2.out)
          rw [if_pos (by rfl)]
        · exact Rs.GrowL.value (v := .agg #[.int .i64 t.wide, .slice (some ⟨b, o, none⟩) t.plots.length cap, .int .i64 k, .int .i64 voice, .map (some r), .func (.func 128) #[] #[]]) (w' := w') (by simp [go_sem, Rs.look, c0, c1, c2, c3, c4, c5]) (Rs.Gr.refl _) rfl
        · exact Rs.GrowL.value (v := .agg #[.int .i64 t.wide, .slice (some ⟨b, o, none⟩) t.plots.length cap, .int .i64 k, .int .i64 voice, .map (some r), .func (.func 128) #[] #[]]) (w' := w') (by simp [go_sem, Rs.look, c0, c1, c2, c3, c4, c5]) (Rs.Gr.refl _) rfl
        · exact Rs.GrowL.value (v := .int .i64 s) (w' := w') (by simp [go_sem, Rs.look]) (Rs.Gr.refl _) rfl
        · have e1 : V 1 = .agg #[.int .i64 t.wide, .slice (some ⟨b, o, none⟩) t.plots.length cap, .int .i64 k, .int .i64 voice, .map (some r), .func (.func 128) #[] #[]] := hs 1 (by simp)
          have e2 : V 2 = .int .i64 s := hs 2 (by simp)
          refine Rs.GrowL.call (f := 91) (args := #[.agg #[.int .i64 t.wide, .slice (some ⟨b, o, none⟩) t.plots.length cap, .int .i64 k, .int .i64 voice, .map (some r), .func (.func 128) #[] #[]], .int .i64 s]) (by simp [go_sem, Rs.look, e1, e2]) ?_
          have hI3 : Ints w' b o t.plots := ((HI.out.below HB2.out hwl).hold' HH2.out (show b ≠ w1.heap.size by omega)).below hG (Nat.lt_of_lt_of_le (HI.out.below HB2.out hwl).1 hs23)
          have hD3 : DirMap w' r := (hG.block r (Nat.lt_of_lt_of_le (dir_lt HD2.out) hs23)).trans ((HH2.out.same r (show r ≠ w1.heap.size by omega) (dir_lt HD2.out)).trans HD2.out)
          refine (needs_callT t ok k voice hk0 hk4 b o cap r _ _ _ s hs2 T HTN.out w' w' (Below.refl _ _) hI3 hD3).mono ?_
          rintro e w4 ⟨tb, rfl, hT, _, hB4⟩
          exact ⟨_, rfl, hB4.out, tb, rfl, hT.out⟩
        · exact Rs.GrowL.value (v := .int .i64 h) (w' := w') (by simp [go_sem, Rs.look]) (Rs.Gr.refl _) rfl
        · obtain ⟨tb, e3, hT⟩ : ∃ tb, V 3 = .slice (some ⟨tb, 0, none⟩) T.length T.length ∧ TabAt w' tb T := hs 3 (by simp)
          have e4 : V 4 = .int .i64 h := hs 4 (by simp)
          exact Rs.GrowL.value (v := .pointer (some ⟨tb, h, none⟩)) (w' := w') (by simp [go_sem, Rs.look, e3, e4, hhT]) (Rs.Gr.refl _) ⟨tb, rfl, hT⟩
        · obtain ⟨tb, e5, hT⟩ : ∃ tb, V 5 = .pointer (some ⟨tb, h, none⟩) ∧ TabAt w' tb T := hs 5 (by simp)
          have hc := hT.cell (i := h) (by have := HTL.out; omega)
          rw [HY.out] at hc
          exact Rs.GrowL.value (v := .int .i64 y) (w' := w') (by simp [go_sem, Rs.look, e5, hc]) (Rs.Gr.refl _) rfl
        · have e0 : V 0 = .agg #[.int .i64 t.wide, .slice (some ⟨b, o, none⟩) t.plots.length cap, .int .i64 k, .int .i64 voice, .map (some r), .func (.func 128) #[] #[]] := hs 0 (by simp)
          have e6 : V 6 = .int .i64 y := hs 6 (by simp)
          refine Rs.GrowL.call (f := 99) (args := #[.agg #[.int .i64 t.wide, .slice (some ⟨b, o, none⟩) t.plots.length cap, .int .i64 k, .int .i64 voice, .map (some r), .func (.func 128) #[] #[]], .int .i64 y]) (by simp [go_sem, Rs.look, e0, e6]) ?_
          refine (enough_any _ _ _ _ _ _ w' y).mono ?_
          rintro e w4 ⟨rfl, hB4⟩
          exact ⟨_, rfl, hB4, rfl⟩
      · intro V w5 hG hs
        have e0 : V 0 = .agg #[.int .i64 t.wide, .slice (some ⟨b, o, none⟩) t.plots.length cap, .int .i64 k, .int .i64 voice, .map (some r), .func (.func 128) #[] #[]] := hs 0 (by omega)
        have e1 : V 1 = .agg #[.int .i64 t.wide, .slice (some ⟨b, o, none⟩) t.plots.length cap, .int .i64 k, .int .i64 voice, .map (some r), .func (.func 128) #[] #[]] := hs 1 (by omega)
        have e2 : V 2 = .int .i64 s := hs 2 (by omega)
        have e4 : V 4 = .int .i64 h := hs 4 (by omega)
        have e6 : V 6 = .int .i64 y := hs 6 (by omega)
        have e7 : V 7 = .bool (y != -1 && decide (y ≤ voice)) := hs 7 (by omega)
        simp only [Rs.canon, Rs.dstOf, List.range_succ, List.range_zero, List.nil_append, List.cons_append, List.foldl_cons, List.foldl_nil, List.drop_succ_cons, List.drop_zero, List.drop_nil, List.getElem?_toArray, List.getElem?_cons_succ, List.getElem?_cons_zero, Option.bind_some, Act.put, List.getD_cons_succ, List.getD_cons_zero, List.setIfInBounds_toArray, List.set_cons_succ, List.set_cons_zero]
        rw [e0, e1, e2, e4, e6, e7]
        generalize V 3 = v3
        generalize V 5 = v5
        have HO5 := Lib.hid (own_below HO2.out hG)
        have HH5 := Lib.hid (HH2.out.low hG hs23)
        have HBX5 := Lib.hid ((hG.block _ hc3).trans HBX2.out)
        generalize hen : (y != -1 && decide (y ≤ voice)) = en at HHB ⊢
        clear e0 e1 e2 e4 e6 e7 hs hG hen HO2 HH2 HBX2
        have hz5 := HH5.out.size
        cases en with
        | false =>
          go_wp2
          go_roundw
          case rel => exact ⟨k + 1, _, _, rfl, by omega, by simp, by rw [windsTo_no HHB.out]; exact HO5.out, HH5.out, HBX5.out⟩
          case measure => simp [intOf]; omega
        | true =>
          go_wp2_with (at_builtin; refine wpList_append_own _ rfl _ _ 66 rfl w2.heap.size 25 i0 (.int .i64 0) 1 8 A_und66 hi hz0 hz1 hz2 rfl (by decide) _ _ _ rfl (HO5.out.alloc _) ⟨w5.heap.size, 0, none⟩ 1 1 [.int .i64 (k : Int)] rfl rfl ?d1 ?d2 ?d3 ?d4 ?d5 ?_)
          case d1 =>
            intro j u hj
            match j, hj with
            | 0, hj => simp at hj; subst hj; simp [Addr.add]
          case d2 => first | rfl | (intro u hu; simp at hu; subst hu; rfl)
          case d3 => unfold maxLen; omega
          case d4 => omega
          case d5 => first | omega | (simp; omega)
          intro v' w8 hown8 hgrow _
          have hnb : ∀ i, i < w2.heap.size → some i ≠ v.ownBlock := fun i hi e => by have := (HO5.out.lt i e.symm).1; omega
          have hH8 : Hold (fun i => i < w2.heap.size) w5 w8 := (Hold.alloc w5 _).trans ⟨hgrow.os, hgrow.tape, hgrow.output, hgrow.size, fun i hi hl => hgrow.block i hl (fun e => hnb i hi e)⟩
          have HH8 := Lib.hid (HH5.out.low (hH8.to_below hz5) (Nat.le_refl _))
          have HBX8 := Lib.hid ((hH8.same _ hcl (by omega)).trans HBX5.out)
          have HO8 := Lib.hid hown8
          clear hgrow hown8 hH8 hnb
          go_wp2
          go_roundw
          case rel => exact ⟨k + 1, _, _, rfl, by omega, by simp, by rw [windsTo_yes HHB.out]; simpa using HO8.out, HH8.out, HBX8.out⟩
          case measure => simp [intOf]; omega
    · obtain rfl : k = 5 := by omega
      have HO := Lib.hid hown
      have HHr := Lib.hid hHr
      clear hown hHr hbx
      go_wp2
      go_ret2
      exact ⟨_, rfl, own_base HO.out HB2.out.size, HB2.out.trans ((HHr.out.mono (Kq := fun i => i < w.heap.size) (fun i (hi : i < w.heap.size) _ => show i ≠ w1.heap.size by omega)).to_below HB2.out.size)⟩
end Go.Proofs.Ytimedmkpenbmkaa
