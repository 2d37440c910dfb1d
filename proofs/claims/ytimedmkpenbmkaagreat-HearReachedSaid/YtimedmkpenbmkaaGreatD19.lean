import Derived.Test.YtimedmkpenbmkaaGreatD12
namespace Go.Proofs.YtimedmkpenbmkaaGreat
open Go.RowKit Go.Shelf
attribute [local go_sem] Oper.semAt_some
set_option linter.unusedSimpArgs false
set_option linter.unusedVariables false

/-- whether a step can be the last one of a way to a plot that needs what the table says -/
def stepBack (T : List Int) (z p : Nat) (x : Nat × Int) : Bool := decide (x.1 = z) && decide (T.getD p 0 + x.2 = T.getD z 0)
def backAt (t : Hr.Town) (wind : Int) (T : List Int) (z p : Nat) : Bool := (t.steps wind p).any (stepBack T z p)
def noneTo (t : Hr.Town) (wind : Int) (T : List Int) (z k : Nat) : Prop := ∀ p, p < k → backAt t wind T z p = false
/-- the plot before one on a way, as it is looked for -/
def IsBefore (t : Hr.Town) (wind : Int) (T : List Int) (z : Nat) (y : Int) : Prop := (∃ k : Nat, k < t.len ∧ y = k ∧ noneTo t wind T z k ∧ backAt t wind T z k = true) ∨ (y = -1 ∧ noneTo t wind T z t.len)

/-- what holds in before -/
structure BfC (t : Hr.Town) (wind voice : Int) (b o cap r : Nat) (cf : Value) (tb oo cap2 : Nat) (T : List Int) (z : Nat) (w W : World) (C : Nat) (ds : List Deferred) : Prop where
  wk : WkBox W t.wide wind voice b o cap r cf t.plots w.heap.size
  tab : W.cell? ⟨w.heap.size + 1, 0, none⟩ = some (.slice (some ⟨tb, oo, none⟩) T.length cap2)
  plot : W.cell? ⟨w.heap.size + 1 + 1, 0, none⟩ = some (.int .i64 z)
  res : W.heap[w.heap.size + 1 + 1 + 1]? = some (.cells #[.int .i64 0] 3)
  ints : Ints W tb oo T
  bel : Below w.heap.size w W
  marks : Marks (w.heap.size + 1 + 1 + 1 + 1) W C ds
  sz : w.heap.size + 1 + 1 + 1 + 1 ≤ W.heap.size ∧ C ≤ W.heap.size

theorem BfC.below {t : Hr.Town} {wind voice : Int} {b o cap r : Nat} {cf : Value} {tb oo cap2 : Nat} {T : List Int} {z : Nat} {w W W' : World} {C : Nat} {ds : List Deferred} (h : BfC t wind voice b o cap r cf tb oo cap2 T z w W C ds) (ht : tb < w.heap.size) (hb : b < w.heap.size) (hr : r < w.heap.size) {B : Nat} (h3 : w.heap.size + 1 + 1 + 1 + 1 ≤ B) (hC : C ≤ B) (hB : Below B W W') :
    BfC t wind voice b o cap r cf tb oo cap2 T z w W' C ds :=
  ⟨h.wk.hold (Kp := fun k => k < B) (.of_below hB (fun _ h _ => h)) ⟨by omega, by omega, by omega⟩, (hB.cell (p := ⟨w.heap.size + 1, 0, none⟩) (show w.heap.size + 1 < B by omega)).trans h.tab, (hB.cell (p := ⟨w.heap.size + 1 + 1, 0, none⟩) (show w.heap.size + 1 + 1 < B by omega)).trans h.plot, (hB.block _ (by omega)).trans h.res,
    ⟨Nat.lt_of_lt_of_le h.ints.1 hB.size, fun i hi => (hB.cell (p := ⟨tb, oo + i, none⟩) (show tb < B by omega)).trans (h.ints.2 i hi)⟩, h.bel.trans (hB.mono (by omega)), h.marks.keep (fun k _ hk => hB.block k (by omega)),
    Nat.le_trans h.sz.1 hB.size, Nat.le_trans h.sz.2 hB.size⟩

set_option maxHeartbeats 1000000 in
set_option maxRecDepth 100000 in
theorem before_any (t : Hr.Town) (hok : t.Ok) (wind voice : Int) (hw0 : 0 ≤ wind) (hw4 : wind ≤ 4) (b o cap r : Nat) (f1 : Fn) (f2 f3 : Array Value) (tb oo cap2 : Nat) (T : List Int) (hT : T.length = t.len) (hF : ∀ i, i < T.length → -1 ≤ T.getD i 0 ∧ T.getD i 0 ≤ 1000) (z : Nat) (hz : z < t.len)
    (w : World) (hI : Ints w b o t.plots) (hD : DirMap w r) (hI2 : Ints w tb oo T) :
    Calls Tryz.prog 135 #[.agg #[.int .i64 t.wide, .slice (some ⟨b, o, none⟩) t.plots.length cap, .int .i64 wind, .int .i64 voice, .map (some r), .func f1 f2 f3], .slice (some ⟨tb, oo, none⟩) T.length cap2, .int .i64 z] w fun e w' =>
      ∃ y, e = .returned (.int .i64 y) ∧ IsBefore t wind T z y ∧ Below w.heap.size w w' := by
  have htl := hI2.1
  have hbl := hI.1
  have hrl : r < w.heap.size := (Array.getElem?_eq_some_iff.1 hD).1
  have h30 := hok.n30
  have HI := Lib.hid hI
  have HI2 := Lib.hid hI2
  have HD := Lib.hid hD
  have HT := Lib.hid hT
  have HF := Lib.hid hF
  have hn30 : t.plots.length ≤ 30 := h30
  clear hI hI2 hD hT hF
  obtain ⟨n, hn9⟩ : ∃ n : Nat, 9 ≤ n := ⟨9, Nat.le_refl _⟩
  refine (callsIn_wide (n := n)).1 ?_
  refine callsIn_of_wp_marks Tryz.func135 rfl trivial ?_ rfl
  simp only [Tryz.ntmps135, List.size_toArray, List.length_cons, List.length_nil, Nat.reduceAdd, Nat.reduceSub, Array.replicate_succ, Array.replicate_zero, List.push_toArray, List.append_toArray, List.nil_append, List.cons_append]
  gi_wp2_with fail
  have hB3 : ∀ o1 o2 o3 o4, Below w.heap.size w ((((w.alloc o1).alloc o2).alloc o3).alloc o4) := fun o1 o2 o3 o4 => (((below1 _ _).alloc (by simp) _).alloc (by simp; omega) _).alloc (by simp; omega) _
  generalize hW3 : (((w.alloc (Obj.cells #[Value.int IntKind.i64 t.wide, Value.slice (some { block := b, off := o }) t.plots.length cap, Value.int IntKind.i64 wind, Value.int IntKind.i64 voice, Value.map (some r), Value.func f1 f2 f3] 117)).alloc (Obj.cells #[Value.slice (some { block := tb, off := oo }) T.length cap2] 22)).alloc (Obj.cells #[Value.int IntKind.i64 z] 3)).alloc (Obj.cells #[Value.int IntKind.i64 0] 3) = W3
  have hA3 : BfC t wind voice b o cap r (.func f1 f2 f3) tb oo cap2 T z w W3 W3.heap.size [] := by
    have hb3 : Below w.heap.size w W3 := by rw [← hW3]; exact hB3 _ _ _ _
    refine ⟨⟨?_, ?_, ?_, ?_, ?_, ?_, HI.out.below hb3 hbl, (hb3.block r hrl).trans HD.out⟩, ?_, ?_, ?_, HI2.out.below hb3 htl, hb3, trivial, ?_, Nat.le_refl _⟩
    case refine_9 =>
      rw [← hW3]
      have := World.alloc_heap_new (((w.alloc (Obj.cells #[Value.int IntKind.i64 t.wide, Value.slice (some { block := b, off := o }) t.plots.length cap, Value.int IntKind.i64 wind, Value.int IntKind.i64 voice, Value.map (some r), Value.func f1 f2 f3] 117)).alloc (Obj.cells #[Value.slice (some { block := tb, off := oo }) T.length cap2] 22)).alloc (Obj.cells #[Value.int IntKind.i64 z] 3)) (Obj.cells #[Value.int IntKind.i64 0] 3)
      simp only [World.size_alloc] at this
      exact this
    case refine_10 => rw [← hW3]; simp
    all_goals (rw [← hW3]; clear hW3; go_simp)
  clear hW3 hB3
  refine wpIn_loop (fun a' w' => ∃ (k : Nat) (ds : List Deferred) (u7 u8 u9 u15 u16 u17 u18 u19 u20 u21 u22 u23 u24 u25 u26 u27 u28 u29 u30 u31 u32 u33 u34 u35 u36 u37 u38 u39 : Value), k ≤ t.len ∧ a' = { tmps := #[Value.agg #[Value.int IntKind.i64 t.wide, Value.slice (some { block := b, off := o }) t.plots.length cap, Value.int IntKind.i64 wind, Value.int IntKind.i64 voice, Value.map (some r), Value.func f1 f2 f3], Value.slice (some { block := tb, off := oo }) T.length cap2, Value.int IntKind.i64 z, Value.pointer (some { block := w.heap.size, off := 0 }), Value.pointer (some { block := w.heap.size + 1, off := 0 }), Value.pointer (some { block := w.heap.size + 1 + 1, off := 0 }), Value.pointer (some { block := w.heap.size + 1 + 1 + 1, off := 0 }), u7, u8, u9, Value.pointer (some { block := w.heap.size, off := 0 }), Value.pointer (some { block := w.heap.size, off := 1 }), Value.slice (some { block := b, off := o }) t.plots.length cap, Value.int IntKind.i64 t.plots.length, Value.int IntKind.i64 k, u15, u16, u17, u18, u19, u20, u21, u22, u23, u24, u25, u26, u27, u28, u29, u30, u31, u32, u33, u34, u35, u36, u37, u38, u39], defers := ds } ∧ BfC t wind voice b o cap r (.func f1 f2 f3) tb oo cap2 T z w w' w'.heap.size ds ∧ noneTo t wind T z k) (fun a' _ => t.len - (intOf (a'.tmps.getD 14 undef)).toNat) ⟨0, [], undef, undef, undef, undef, undef, undef, undef, undef, undef, undef, undef, undef, undef, undef, undef, undef, undef, undef, undef, undef, undef, undef, undef, undef, undef, undef, undef, undef, Nat.zero_le _, rfl, hA3, fun p hp => by omega⟩ ?_
  clear hA3
  rintro a' wr ⟨k, ds, u7, u8, u9, u15, u16, u17, u18, u19, u20, u21, u22, u23, u24, u25, u26, u27, u28, u29, u30, u31, u32, u33, u34, u35, u36, u37, u38, u39, hk, rfl, hA, hTo⟩
  by_cases hlt : k < t.len
  · have hlt' : (k : Int) < t.plots.length := by have : t.plots.length = t.len := rfl; omega
    have HA := Lib.hid hA
    have HTO := Lib.hid hTo
    have c0 := hA.wk.c0
    have c1 := hA.wk.c1
    have c2 := hA.wk.c2
    have c3 := hA.wk.c3
    have c4 := hA.wk.c4
    have c5 := hA.wk.c5
    have hl0 : w.heap.size < wr.heap.size := hA.wk.lt.1
    have hls := hA.sz.1
    clear hA hTo
    gi_wp2_with fail
    refine ⟨trivial, (fun h => by cases h), ?_⟩
    refine (callsIn_wide.2 (steps_eq _ _ _ _ _ _ _ _)).mono ?_
    rintro e W4 ⟨rfl, hW4⟩
    have hB4 : Below wr.heap.size wr W4 := by rw [← hW4]; exact (((below1 _ _).alloc (by simp) _).alloc (by simp; omega) _)
    have hs4 : W4.heap.size = wr.heap.size + 3 := by rw [← hW4]; simp
    have k0 : W4.cell? ⟨wr.heap.size, 0, none⟩ = some (.int .i64 k) := by rw [← hW4]; clear hW4; go_simp
    have kB : W4.cell? ⟨(wr.alloc (Obj.cells #[Value.int IntKind.i64 k] 3)).heap.size + 1, 0, none⟩ = some (.int .i64 k) := by rw [← hW4]; clear hW4; go_simp
    have hA4 := HA.out.below htl hbl hrl (C := wr.heap.size) hls (Nat.le_refl _) hB4
    have hwk : WkBox W4 t.wide wind voice b o cap r (.func f1 f2 f3) t.plots (wr.alloc (Obj.cells #[Value.int IntKind.i64 k] 3)).heap.size := by
      refine ⟨?_, ?_, ?_, ?_, ?_, ?_, hA4.wk.ints, hA4.wk.dir⟩ <;> (rw [← hW4]; clear hW4; go_simp)
    rw [World.size_alloc] at kB hwk
    clear hW4 c0 c1 c2 c3 c4 c5
    gi_wp2_with fail
    refine range_low (gf := 151) (lb := #[.pointer (some ⟨wr.heap.size + 1, 0, none⟩), .pointer (some ⟨wr.heap.size + 1 + 1, 0, none⟩)]) rfl (enters_of Tryz.func151 (by kernel_rfl) rfl)
      (steps_stops (n - 1) (fun k' => k' ≠ w.heap.size + 1 + 1 + 1) t hok wind voice hw0 hw4 b o cap r f1 f2 f3 k _ _ hlt W4 ⟨by omega, by omega, by omega, by omega⟩ hwk kB) (Below.refl _ _) (fun _ => rfl)
      (fun pre W' => BfC t wind voice b o cap r (.func f1 f2 f3) tb oo cap2 T z w W' W4.heap.size ds ∧ W'.cell? ⟨wr.heap.size, 0, none⟩ = some (.int .i64 k) ∧ W4.heap.size ≤ W'.heap.size ∧ ∀ x ∈ pre, stepBack T z k x.1 = false) (fun c _ W' => c = .ret ∧ W'.heap[w.heap.size + 1 + 1 + 1]? = some (.cells #[.int .i64 k] 3) ∧ Below w.heap.size w W' ∧ Marks (w.heap.size + 1 + 1 + 1 + 1) W' W4.heap.size ds ∧ backAt t wind T z k = true ∧ W4.heap.size ≤ W'.heap.size) ?agI ?agX ?start ?round ?done ?stop
    case agI =>
      rintro s' X Y ⟨i1, i2, i3, i4⟩ hb
      exact ⟨i1.below htl hbl hrl (by omega) (Nat.le_refl _) hb, (hb.cell (p := ⟨wr.heap.size, 0, none⟩) (show wr.heap.size < W4.heap.size by omega)).trans i2, Nat.le_trans i3 hb.size, i4⟩
    case agX =>
      rintro c s' X Y ⟨i1, i2, i3, i4, i5, i6⟩ hb
      exact ⟨i1, (hb.block _ (by omega)).trans i2, i3.trans (hb.mono (by omega)), i4.keep (fun k' _ hk' => hb.block k' hk'), i5, Nat.le_trans i6 hb.size⟩
    case start => exact ⟨⟨hA4.wk, hA4.tab, hA4.plot, hA4.res, hA4.ints, hA4.bel, hA4.marks.mono (by omega), hA4.sz.1, Nat.le_refl _⟩, k0, Nat.le_refl _, fun _ h => by cases h⟩
    case round =>
      rintro l' pre ⟨⟨q, n'⟩, hx⟩ W5 hl1 hl2 ⟨i1, i2, i3, i4⟩
      have hnb := Hr.steps_pos hx
      have hgood := fun h : stepBack T z k (q, n') = true => (show backAt t wind T z k = true from List.any_eq_true.2 ⟨_, hx, h⟩)
      have hft : (k : Int) < T.length := by have := HT.out; omega
      have hzt : (z : Int) < T.length := by have := HT.out; omega
      have HGOOD := Lib.hid hgood
      have h1k := HF.out k (by omega)
      have h1z := HF.out z (by omega)
      obtain ⟨fv, hfv⟩ : ∃ x, x = T.getD k 0 := ⟨_, rfl⟩
      obtain ⟨zv, hzv⟩ : ∃ x, x = T.getD z 0 := ⟨_, rfl⟩
      have hok' : stepBack T z k (q, n') = (decide (q = z) && decide (fv + n' = zv)) := by rw [hfv, hzv]; rfl
      have HOK := Lib.hid hok'
      rw [← hfv] at h1k
      rw [← hzv] at h1z
      have hn1 : 1 ≤ n' := hnb.1
      have hn5 : n' ≤ 5 := hnb.2
      have HI4 := Lib.hid i4
      have HFV := Lib.hid (And.intro hfv hzv)
      clear hgood hok' hfv hzv hnb i1 i2 i3 i4 hA4
      gi_wp2
      refine ⟨Below.refl _ _, ?_⟩
      rintro Wb hg hsz ⟨j1, j2, j3, j4⟩
      have ct := j1.tab
      have cp := j1.plot
      have cf := j1.ints.2 k (by omega)
      have cz := j1.ints.2 z (by omega)
      rw [← HFV.out.1] at cf
      rw [← HFV.out.2] at cz
      have cr : Wb.cell? ⟨w.heap.size + 1 + 1 + 1, 0, none⟩ = some (.int .i64 0) := by simp [World.cell?, j1.res]
      have fr : Wb.frozen? ⟨w.heap.size + 1 + 1 + 1, 0, none⟩ = false := by simp [World.frozen?, j1.res]
      have J1 := Lib.hid j1
      clear j1 hg
      have hB6 : ∀ nq, Below Wb.heap.size Wb (Wb.drewN nq) := fun nq => below_drewN (Below.refl _ _) nq
      have hkeep : ∀ nq, stepBack T z k (q, n') = false → ∀ a6, roundPostLow (fun k' => (k' ≠ w.heap.size + 1 + 1 + 1 ∧ k' < W4.heap.size) ∨ (W4.heap.size ≤ k' ∧ k' < W5.heap.size))
          (fun pre W' => BfC t wind voice b o cap r (.func f1 f2 f3) tb oo cap2 T z w W' W4.heap.size ds ∧ W'.cell? ⟨wr.heap.size, 0, none⟩ = some (.int .i64 k) ∧ W4.heap.size ≤ W'.heap.size ∧ ∀ x ∈ pre, stepBack T z k x.1 = false) (fun c _ W' => c = .ret ∧ W'.heap[w.heap.size + 1 + 1 + 1]? = some (.cells #[.int .i64 k] 3) ∧ Below w.heap.size w W' ∧ Marks (w.heap.size + 1 + 1 + 1 + 1) W' W4.heap.size ds ∧ backAt t wind T z k = true ∧ W4.heap.size ≤ W'.heap.size) (pre ++ [(⟨(q, n'), hx⟩ : StEl t wind k)]) Wb .normal a6 (Wb.drewN nq) := fun nq hs a6 => by
        refine ⟨.of_below (hB6 nq) (fun k' _ hk' => hk'), J1.out.below htl hbl hrl (by omega) j3 (hB6 nq), ((hB6 nq).cell (p := ⟨wr.heap.size, 0, none⟩) (show wr.heap.size < Wb.heap.size by omega)).trans j2, Nat.le_trans j3 (hB6 nq).size, fun x hxm => ?_⟩
        rcases List.mem_append.1 hxm with h | h
        · exact HI4.out x h
        · rw [List.mem_singleton] at h; subst h; exact hs
      have hstop : ∀ nq, stepBack T z k (q, n') = true → ∀ a6, roundPostLow (fun k' => (k' ≠ w.heap.size + 1 + 1 + 1 ∧ k' < W4.heap.size) ∨ (W4.heap.size ≤ k' ∧ k' < W5.heap.size))
          (fun pre W' => BfC t wind voice b o cap r (.func f1 f2 f3) tb oo cap2 T z w W' W4.heap.size ds ∧ W'.cell? ⟨wr.heap.size, 0, none⟩ = some (.int .i64 k) ∧ W4.heap.size ≤ W'.heap.size ∧ ∀ x ∈ pre, stepBack T z k x.1 = false) (fun c _ W' => c = .ret ∧ W'.heap[w.heap.size + 1 + 1 + 1]? = some (.cells #[.int .i64 k] 3) ∧ Below w.heap.size w W' ∧ Marks (w.heap.size + 1 + 1 + 1 + 1) W' W4.heap.size ds ∧ backAt t wind T z k = true ∧ W4.heap.size ≤ W'.heap.size) (pre ++ [(⟨(q, n'), hx⟩ : StEl t wind k)]) Wb .ret a6 ((Wb.drewN nq).setCell ⟨w.heap.size + 1 + 1 + 1, 0, none⟩ (.int .i64 k)) := fun nq hs a6 => by
        have h6 : Hold (fun k' => k' ≠ w.heap.size + 1 + 1 + 1 ∧ k' < Wb.heap.size) Wb ((Wb.drewN nq).setCell ⟨w.heap.size + 1 + 1 + 1, 0, none⟩ (.int .i64 k)) :=
          (Hold.of_below (hB6 nq) (fun _ h _ => h.2)).trans (Hold.setCell _ _ _ (fun h => h.1 rfl))
        have hJ := J1.out.below htl hbl hrl (by omega) j3 (hB6 nq)
        refine ⟨h6.mono (fun k' hk' hl => by rcases hk' with h | h <;> omega), rfl, one_setCell hJ.res, hJ.bel.trans ((Below.refl _ _).setCell (p := ⟨w.heap.size + 1 + 1 + 1, 0, none⟩) (by show w.heap.size ≤ w.heap.size + 1 + 1 + 1; omega) _), hJ.marks.keep (fun k' hk1 hk2 => Below.heap_setCell _ _ _ _ (show k' ≠ w.heap.size + 1 + 1 + 1 by omega)), HGOOD.out hs, Nat.le_trans j3 (Nat.le_trans (hB6 nq).size (by simp))⟩
      have HKEEP := Lib.hid hkeep
      have HSTOP := Lib.hid hstop
      clear hkeep hstop hB6
      by_cases hA : q = z
      · subst hA
        by_cases hB : fv + n' = zv
        · have HS := HSTOP
          have HST := Lib.hid (show stepBack T q k (q, n') = true by rw [HOK.out]; simp [hB])
          have e2 : (fv + n' == zv) = true := by simpa using hB
          have HB := Lib.hid hB
          clear HKEEP HSTOP hB
          gi_wp2_with fail
          refine region_quiet_round l' rfl mixed (by kernel_rfl) ?_
          repeat (gi_big_quiet_step (fail))
          refine wpQuietIn_nil ?_
          intro _ hw'
          obtain ⟨nq, hw''⟩ := hw'
          subst hw''
          gi_wp2
          exact HS.out nq HST.out _
        · have e2 : (fv + n' == zv) = false := by simpa using hB
          have HST := Lib.hid (show stepBack T q k (q, n') = false by rw [HOK.out]; simp [hB])
          clear HSTOP
          gi_wp2_with fail
          refine region_quiet_round l' rfl mixed (by kernel_rfl) ?_
          repeat (gi_big_quiet_step (fail))
          refine wpQuietIn_nil ?_
          intro _ hw'
          obtain ⟨nq, hw''⟩ := hw'
          subst hw''
          gi_wp2
          exact HKEEP.out nq HST.out _
      · have e1 : ((q : Int) == (z : Int)) = false := by simp; omega
        have HST := Lib.hid (show stepBack T z k (q, n') = false by rw [HOK.out]; simp [hA])
        clear HSTOP
        gi_wp2_with fail
        refine region_quiet_round l' rfl mixed (by kernel_rfl) ?_
        repeat (gi_big_quiet_step (fail))
        refine wpQuietIn_nil ?_
        intro _ hw'
        obtain ⟨nq, hw''⟩ := hw'
        subst hw''
        gi_wp2
        exact HKEEP.out nq HST.out _
    case done =>
      rintro D ys W' hD hys ⟨i1, i2, i3, i4⟩ hK
      have hDl := (Array.getElem?_eq_some_iff.1 hK).1
      have hat : backAt t wind T z k = false := by
        refine Bool.eq_false_iff.2 (fun h => ?_)
        obtain ⟨x, hx, hxx⟩ := List.any_eq_true.1 h
        rw [← hys] at hx
        obtain ⟨y, hy, rfl⟩ := List.mem_map.1 hx
        rw [i4 y hy] at hxx; cases hxx
      gi_wp2
      refine ⟨⟨k + 1, _, _, _, _, _, _, _, _, _, _, _, _, _, _, _, _, _, _, _, _, _, _, _, _, _, _, _, _, _, by omega, rfl, ⟨i1.wk, i1.tab, i1.plot, i1.res, i1.ints, i1.bel, ⟨D, rfl, by omega, hDl, hK, i1.marks.mono hD⟩, i1.sz.1, Nat.le_refl _⟩, fun p hp => by rcases Nat.lt_succ_iff_lt_or_eq.1 hp with h | rfl; exact HTO.out p h; exact hat⟩, ?_⟩
      simp [intOf]
      omega
    case stop =>
      rintro D c pre W' hD ⟨rfl, i2, i3, i4, i5, i6⟩ hK
      have hDl := (Array.getElem?_eq_some_iff.1 hK).1
      gi_wp2
      refine leaves_marks (B := w.heap.size + 1 + 1 + 1 + 1) (by simp) _ W'.heap.size W' ⟨D, rfl, by omega, hDl, hK, i4.mono hD⟩ (Nat.le_refl _) (fun w' hh => ?_)
      have hres := (hh.same _ (show w.heap.size + 1 + 1 + 1 < w.heap.size + 1 + 1 + 1 + 1 by omega) (by omega)).trans i2
      have hc : w'.cell? ⟨w.heap.size + 1 + 1 + 1, 0, none⟩ = some (.int .i64 k) := by simp [World.cell?, hres]
      refine ⟨.int .i64 k, ?_, ?_⟩
      · simp [results, Tryz.results135, go_sem, hc]
      · exact ⟨k, rfl, .inl ⟨k, hlt, rfl, HTO.out, i5⟩, i3.trans ((hh.to_below (by omega)).mono (by omega))⟩
  · obtain rfl : k = t.len := by omega
    have hlt' : ¬ ((t.len : Int) < t.plots.length) := by have : t.plots.length = t.len := rfl; omega
    have hres := hA.res
    have hc : wr.cell? ⟨w.heap.size + 1 + 1 + 1, 0, none⟩ = some (.int .i64 0) := by simp [World.cell?, hres]
    have hf : wr.frozen? ⟨w.heap.size + 1 + 1 + 1, 0, none⟩ = false := by simp [World.frozen?, hres]
    have HA := Lib.hid hA
    have HTO := Lib.hid hTo
    have HR := Lib.hid hres
    clear hA hTo hres
    gi_wp2
    have hres2 := one_setCell (u := .int .i64 (-1)) HR.out
    refine leaves_marks (B := w.heap.size + 1 + 1 + 1 + 1) (by simp) _ wr.heap.size _ (HA.out.marks.keep (fun k' hk1 hk2 => Below.heap_setCell _ _ _ _ (show k' ≠ w.heap.size + 1 + 1 + 1 by omega))) (by simp) (fun w' hh => ?_)
    have hres := (hh.same _ (show w.heap.size + 1 + 1 + 1 < w.heap.size + 1 + 1 + 1 + 1 by omega) (by have := HA.out.sz.1; simp; omega)).trans hres2
    have hc : w'.cell? ⟨w.heap.size + 1 + 1 + 1, 0, none⟩ = some (.int .i64 (-1)) := by simp [World.cell?, hres]
    refine ⟨.int .i64 (-1), ?_, ?_⟩
    · simp [results, Tryz.results135, go_sem, hc]
    · exact ⟨-1, rfl, .inr ⟨rfl, HTO.out⟩, (HA.out.bel.setCell (p := ⟨w.heap.size + 1 + 1 + 1, 0, none⟩) (by show w.heap.size ≤ w.heap.size + 1 + 1 + 1; omega) _).trans ((hh.to_below (by have := HA.out.sz.1; simp; omega)).mono (by omega))⟩
end Go.Proofs.YtimedmkpenbmkaaGreat
