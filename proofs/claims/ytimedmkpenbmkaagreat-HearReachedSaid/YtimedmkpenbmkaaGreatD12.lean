import Derived.Test.YtimedmkpenbmkaaGreatD9
namespace Go.Proofs.YtimedmkpenbmkaaGreat
open Go.RowKit Go.Shelf
attribute [local go_sem] Oper.semAt_some
set_option linter.unusedSimpArgs false
set_option linter.unusedVariables false

/-- the marks that loops over a function have left, the latest first, between B and C -/
def Marks (B : Nat) (w : World) : Nat → List Deferred → Prop
  | _, [] => True
  | C, d :: ds => ∃ D, d = { target := .collected D, args := #[] } ∧ B ≤ D ∧ D < C ∧ w.heap[D]? = some (.deferred (some [])) ∧ Marks B w D ds

theorem Marks.mono {B : Nat} {w : World} : ∀ {ds : List Deferred} {C C' : Nat}, Marks B w C ds → C ≤ C' → Marks B w C' ds
  | [], _, _, _, _ => trivial
  | _ :: _, _, _, ⟨D, h1, h2, h3, h4, h5⟩, hc => ⟨D, h1, h2, Nat.lt_of_lt_of_le h3 hc, h4, h5⟩
theorem Marks.keep {B : Nat} {w w' : World} : ∀ {ds : List Deferred} {C : Nat}, Marks B w C ds → (∀ k, B ≤ k → k < C → w'.heap[k]? = w.heap[k]?) → Marks B w' C ds
  | [], _, _, _ => trivial
  | _ :: _, _, ⟨D, h1, h2, h3, h4, h5⟩, hk => ⟨D, h1, h2, h3, (hk D h2 h3).trans h4, h5.keep (fun k hb hc => hk k hb (Nat.lt_trans hc h3))⟩

theorem leaves_marks {F : Fence} {n : Nat} {P : Program} {fn : Func} {tmps : Array Value} {R : Ending → World → Prop} {B : Nat} {u : FrameMode} (hu : u ≠ .run) : ∀ (ds : List Deferred) (C : Nat) (w : World), Marks B w C ds → C ≤ w.heap.size →
    (∀ w', Hold (fun k => k < B) w w' → LeavesIn F n P fn tmps R [] u w') → LeavesInM F n P fn tmps R ds u w
  | [], _, w, _, _, hR => hR w (Hold.refl _ _)
  | d :: ds, C, w, ⟨D, h1, h2, h3, h4, h5⟩, hC, hR => by
    subst h1
    refine ⟨hu, .inl ⟨D, _, rfl, run_takeDeferred h4, leaves_marks hu ds D _ (h5.keep (fun k _ hk => World.putObj_heap_other (by omega))) (by simp; omega) (fun w' hh => hR w' (Hold.trans ?_ hh))⟩⟩
    exact .of_below (putObj_below (B := B) _ _ _ h2 (by omega)) (fun k hk _ => hk)

/-- whether a step leads to no greater number than it may -/
def stepOk (T : List Int) (p : Nat) (x : Nat × Int) : Bool := !(decide (T.getD p 0 ≤ 9223372036854775807 - x.2) && decide (T.getD p 0 + x.2 < T.getD x.1 0))
def agreesAt (t : Hr.Town) (wind : Int) (T : List Int) (p : Nat) : Bool := (t.steps wind p).all (stepOk T p)
def agreesTo (t : Hr.Town) (wind : Int) (T : List Int) (k : Nat) : Bool := (List.range k).all (agreesAt t wind T)
def agreesAll (t : Hr.Town) (wind : Int) (T : List Int) : Bool := agreesTo t wind T t.len

theorem agreesTo_succ {t : Hr.Town} {wind : Int} {T : List Int} {k : Nat} (h : agreesTo t wind T k = true) (h2 : agreesAt t wind T k = true) : agreesTo t wind T (k + 1) = true := by
  unfold agreesTo at *
  rw [List.range_succ, List.all_append, h]
  simp [h2]
theorem agrees_no {t : Hr.Town} {wind : Int} {T : List Int} {k : Nat} (hk : k < t.len) {x : Nat × Int} (hx : x ∈ t.steps wind k) (h : stepOk T k x = false) : agreesAll t wind T = false := by
  cases he : agreesAll t wind T with
  | false => rfl
  | true =>
    have h1 := (List.all_eq_true.1 he) k (List.mem_range.2 hk)
    have h2 := (List.all_eq_true.1 h1) x hx
    rw [h] at h2; cases h2

/-- what holds in agrees -/
structure AgC (t : Hr.Town) (wind voice : Int) (b o cap r : Nat) (cf : Value) (tb oo cap2 : Nat) (T : List Int) (w W : World) (C : Nat) (ds : List Deferred) : Prop where
  wk : WkBox W t.wide wind voice b o cap r cf t.plots w.heap.size
  tab : W.cell? ⟨w.heap.size + 1, 0, none⟩ = some (.slice (some ⟨tb, oo, none⟩) T.length cap2)
  res : W.heap[w.heap.size + 1 + 1]? = some (.cells #[.bool false] 4)
  ints : Ints W tb oo T
  bel : Below w.heap.size w W
  marks : Marks (w.heap.size + 1 + 1 + 1) W C ds
  sz : w.heap.size + 1 + 1 + 1 ≤ W.heap.size ∧ C ≤ W.heap.size

theorem AgC.below {t : Hr.Town} {wind voice : Int} {b o cap r : Nat} {cf : Value} {tb oo cap2 : Nat} {T : List Int} {w W W' : World} {C : Nat} {ds : List Deferred} (h : AgC t wind voice b o cap r cf tb oo cap2 T w W C ds) (ht : tb < w.heap.size) (hb : b < w.heap.size) (hr : r < w.heap.size) {B : Nat} (h3 : w.heap.size + 1 + 1 + 1 ≤ B) (hC : C ≤ B) (hB : Below B W W') :
    AgC t wind voice b o cap r cf tb oo cap2 T w W' C ds :=
  ⟨h.wk.hold (Kp := fun k => k < B) (.of_below hB (fun _ h _ => h)) ⟨by omega, by omega, by omega⟩, (hB.cell (p := ⟨w.heap.size + 1, 0, none⟩) (show w.heap.size + 1 < B by omega)).trans h.tab, (hB.block _ (by omega)).trans h.res,
    ⟨Nat.lt_of_lt_of_le h.ints.1 hB.size, fun i hi => (hB.cell (p := ⟨tb, oo + i, none⟩) (show tb < B by omega)).trans (h.ints.2 i hi)⟩, h.bel.trans (hB.mono (by omega)), h.marks.keep (fun k _ hk => hB.block k (by omega)),
    Nat.le_trans h.sz.1 hB.size, Nat.le_trans h.sz.2 hB.size⟩

set_option maxHeartbeats 1000000 in
set_option maxRecDepth 100000 in
theorem agrees_any (t : Hr.Town) (hok : t.Ok) (wind voice : Int) (hw0 : 0 ≤ wind) (hw4 : wind ≤ 4) (b o cap r : Nat) (f1 : Fn) (f2 f3 : Array Value) (tb oo cap2 : Nat) (T : List Int) (hT : T.length = t.len) (hF : ∀ i, i < T.length → -9223372036854775808 ≤ T.getD i 0 ∧ T.getD i 0 ≤ 9223372036854775807)
    (w : World) (hI : Ints w b o t.plots) (hD : DirMap w r) (hI2 : Ints w tb oo T) :
    Calls Tryz.prog 98 #[.agg #[.int .i64 t.wide, .slice (some ⟨b, o, none⟩) t.plots.length cap, .int .i64 wind, .int .i64 voice, .map (some r), .func f1 f2 f3], .slice (some ⟨tb, oo, none⟩) T.length cap2] w fun e w' =>
      e = .returned (.bool (agreesAll t wind T)) ∧ Below w.heap.size w w' := by
  have htl := hI2.1
  have hbl := hI.1
  have hrl : r < w.heap.size := (Array.getElem?_eq_some_iff.1 hD).1
  have h30 := hok.n30
  have HI := Lib.hid hI
  have HI2 := Lib.hid hI2
  have HD := Lib.hid hD
  have HT := Lib.hid hT
  have HF := Lib.hid hF
  have hn30 : t.plots.length ≤ 30 := h30
  clear hI hI2 hD hT hF
  obtain ⟨n, hn9⟩ : ∃ n : Nat, 9 ≤ n := ⟨9, Nat.le_refl _⟩
  refine (callsIn_wide (n := n)).1 ?_
  refine callsIn_of_wp_marks Tryz.func98 rfl trivial ?_ rfl
  simp only [Tryz.ntmps98, List.size_toArray, List.length_cons, List.length_nil, Nat.reduceAdd, Nat.reduceSub, Array.replicate_succ, Array.replicate_zero, List.push_toArray, List.append_toArray, List.nil_append, List.cons_append]
  gi_wp2_with fail
  have hB3 : ∀ o1 o2 o3, Below w.heap.size w (((w.alloc o1).alloc o2).alloc o3) := fun o1 o2 o3 => ((below1 _ _).alloc (by simp) _).alloc (by simp; omega) _
  generalize hW3 : (((w.alloc (Obj.cells #[Value.int IntKind.i64 t.wide, Value.slice (some { block := b, off := o }) t.plots.length cap, Value.int IntKind.i64 wind, Value.int IntKind.i64 voice, Value.map (some r), Value.func f1 f2 f3] 117)).alloc (Obj.cells #[Value.slice (some { block := tb, off := oo }) T.length cap2] 22)).alloc (Obj.cells #[Value.bool false] 4)) = W3
  have hA3 : AgC t wind voice b o cap r (.func f1 f2 f3) tb oo cap2 T w W3 W3.heap.size [] := by
    have hb3 : Below w.heap.size w W3 := by rw [← hW3]; exact hB3 _ _ _
    refine ⟨⟨?_, ?_, ?_, ?_, ?_, ?_, HI.out.below hb3 hbl, (hb3.block r hrl).trans HD.out⟩, ?_, ?_, HI2.out.below hb3 htl, hb3, trivial, ?_, Nat.le_refl _⟩
    case refine_8 =>
      rw [← hW3]
      have := World.alloc_heap_new ((w.alloc (Obj.cells #[Value.int IntKind.i64 t.wide, Value.slice (some { block := b, off := o }) t.plots.length cap, Value.int IntKind.i64 wind, Value.int IntKind.i64 voice, Value.map (some r), Value.func f1 f2 f3] 117)).alloc (Obj.cells #[Value.slice (some { block := tb, off := oo }) T.length cap2] 22)) (Obj.cells #[Value.bool false] 4)
      simp only [World.size_alloc] at this
      exact this
    case refine_9 => rw [← hW3]; simp
    all_goals (rw [← hW3]; clear hW3; go_simp)
  clear hW3 hB3
  refine wpIn_loop (fun a' w' => ∃ (k : Nat) (ds : List Deferred) (u5 u6 u7 u13 u14 u15 u16 u17 u18 u19 u20 u21 u22 u23 u24 u25 u26 u27 u28 u29 u30 u31 u32 u33 u34 u35 u36 u37 u38 u39 u40 : Value), k ≤ t.len ∧ a' = { tmps := #[Value.agg #[Value.int IntKind.i64 t.wide, Value.slice (some { block := b, off := o }) t.plots.length cap, Value.int IntKind.i64 wind, Value.int IntKind.i64 voice, Value.map (some r), Value.func f1 f2 f3], Value.slice (some { block := tb, off := oo }) T.length cap2, Value.pointer (some { block := w.heap.size, off := 0 }), Value.pointer (some { block := w.heap.size + 1, off := 0 }), Value.pointer (some { block := w.heap.size + 1 + 1, off := 0 }), u5, u6, u7, Value.pointer (some { block := w.heap.size, off := 0 }), Value.pointer (some { block := w.heap.size, off := 1 }), Value.slice (some { block := b, off := o }) t.plots.length cap, Value.int IntKind.i64 t.plots.length, Value.int IntKind.i64 k, u13, u14, u15, u16, u17, u18, u19, u20, u21, u22, u23, u24, u25, u26, u27, u28, u29, u30, u31, u32, u33, u34, u35, u36, u37, u38, u39, u40], defers := ds } ∧ AgC t wind voice b o cap r (.func f1 f2 f3) tb oo cap2 T w w' w'.heap.size ds ∧ agreesTo t wind T k = true) (fun a' _ => t.len - (intOf (a'.tmps.getD 12 undef)).toNat) ⟨0, [], undef, undef, undef, undef, undef, undef, undef, undef, undef, undef, undef, undef, undef, undef, undef, undef, undef, undef, undef, undef, undef, undef, undef, undef, undef, undef, undef, undef, undef, undef, undef, Nat.zero_le _, rfl, hA3, rfl⟩ ?_
  clear hA3
  rintro a' wr ⟨k, ds, u5, u6, u7, u13, u14, u15, u16, u17, u18, u19, u20, u21, u22, u23, u24, u25, u26, u27, u28, u29, u30, u31, u32, u33, u34, u35, u36, u37, u38, u39, u40, hk, rfl, hA, hTo⟩
  by_cases hlt : k < t.len
  · have hlt' : (k : Int) < t.plots.length := by have : t.plots.length = t.len := rfl; omega
    have HA := Lib.hid hA
    have HTO := Lib.hid hTo
    have c0 := hA.wk.c0
    have c1 := hA.wk.c1
    have c2 := hA.wk.c2
    have c3 := hA.wk.c3
    have c4 := hA.wk.c4
    have c5 := hA.wk.c5
    have hl0 : w.heap.size < wr.heap.size := hA.wk.lt.1
    have hls := hA.sz.1
    clear hA hTo
    gi_wp2_with fail
    refine ⟨trivial, (fun h => by cases h), ?_⟩
    refine (callsIn_wide.2 (steps_eq _ _ _ _ _ _ _ _)).mono ?_
    rintro e W4 ⟨rfl, hW4⟩
    have hB4 : Below wr.heap.size wr W4 := by rw [← hW4]; exact (((below1 _ _).alloc (by simp) _).alloc (by simp; omega) _)
    have hs4 : W4.heap.size = wr.heap.size + 3 := by rw [← hW4]; simp
    have k0 : W4.cell? ⟨wr.heap.size, 0, none⟩ = some (.int .i64 k) := by rw [← hW4]; clear hW4; go_simp
    have kB : W4.cell? ⟨(wr.alloc (Obj.cells #[Value.int IntKind.i64 k] 3)).heap.size + 1, 0, none⟩ = some (.int .i64 k) := by rw [← hW4]; clear hW4; go_simp
    have hA4 := HA.out.below htl hbl hrl (C := wr.heap.size) hls (Nat.le_refl _) hB4
    have hwk : WkBox W4 t.wide wind voice b o cap r (.func f1 f2 f3) t.plots (wr.alloc (Obj.cells #[Value.int IntKind.i64 k] 3)).heap.size := by
      refine ⟨?_, ?_, ?_, ?_, ?_, ?_, hA4.wk.ints, hA4.wk.dir⟩ <;> (rw [← hW4]; clear hW4; go_simp)
    rw [World.size_alloc] at kB hwk
    clear hW4 c0 c1 c2 c3 c4 c5
    gi_wp2_with fail
    refine range_low (gf := 151) (lb := #[.pointer (some ⟨wr.heap.size + 1, 0, none⟩), .pointer (some ⟨wr.heap.size + 1 + 1, 0, none⟩)]) rfl (enters_of Tryz.func151 (by kernel_rfl) rfl)
      (steps_stops (n - 1) (fun k' => k' ≠ w.heap.size + 1 + 1) t hok wind voice hw0 hw4 b o cap r f1 f2 f3 k _ _ hlt W4 ⟨by omega, by omega, by omega, by omega⟩ hwk kB) (Below.refl _ _) (fun _ => rfl)
      (fun pre W' => AgC t wind voice b o cap r (.func f1 f2 f3) tb oo cap2 T w W' W4.heap.size ds ∧ W'.cell? ⟨wr.heap.size, 0, none⟩ = some (.int .i64 k) ∧ W4.heap.size ≤ W'.heap.size ∧ ∀ x ∈ pre, stepOk T k x.1 = true)
      (fun c _ W' => c = .ret ∧ W'.heap[w.heap.size + 1 + 1]? = some (.cells #[.bool false] 4) ∧ Below w.heap.size w W' ∧ Marks (w.heap.size + 1 + 1 + 1) W' W4.heap.size ds ∧ agreesAll t wind T = false ∧ W4.heap.size ≤ W'.heap.size) ?agI ?agX ?start ?round ?done ?stop
    case agI =>
      rintro s' X Y ⟨i1, i2, i3, i4⟩ hb
      exact ⟨i1.below htl hbl hrl (by omega) (Nat.le_refl _) hb, (hb.cell (p := ⟨wr.heap.size, 0, none⟩) (show wr.heap.size < W4.heap.size by omega)).trans i2, Nat.le_trans i3 hb.size, i4⟩
    case agX =>
      rintro c s' X Y ⟨i1, i2, i3, i4, i5, i6⟩ hb
      exact ⟨i1, (hb.block _ (by omega)).trans i2, i3.trans (hb.mono (by omega)), i4.keep (fun k' _ hk' => hb.block k' hk'), i5, Nat.le_trans i6 hb.size⟩
    case start => exact ⟨⟨hA4.wk, hA4.tab, hA4.res, hA4.ints, hA4.bel, hA4.marks.mono (by omega), hA4.sz.1, Nat.le_refl _⟩, k0, Nat.le_refl _, fun _ h => by cases h⟩
    case round =>
      rintro l' pre ⟨⟨q, n'⟩, hx⟩ W5 hl1 hl2 ⟨i1, i2, i3, i4⟩
      have hnb := Hr.steps_pos hx
      have hql := Hr.steps_lt hok hx
      have hbad := fun h : stepOk T k (q, n') = false => agrees_no (wind := wind) (T := T) hlt hx h
      have hft : (k : Int) < T.length := by have := HT.out; omega
      have hqt : (q : Int) < T.length := by have := HT.out; omega
      have HBAD := Lib.hid hbad
      have HQL := Lib.hid hql
      have h1k := HF.out k (by omega)
      have h1q := HF.out q (by omega)
      obtain ⟨fv, hfv⟩ : ∃ x, x = T.getD k 0 := ⟨_, rfl⟩
      obtain ⟨qv, hqv⟩ : ∃ x, x = T.getD q 0 := ⟨_, rfl⟩
      have hok' : stepOk T k (q, n') = !(decide (fv ≤ 9223372036854775807 - n') && decide (fv + n' < qv)) := by rw [hfv, hqv]; rfl
      have HOK := Lib.hid hok'
      rw [← hfv] at h1k
      rw [← hqv] at h1q
      have hn1 : 1 ≤ n' := hnb.1
      have hn5 : n' ≤ 5 := hnb.2
      have HI4 := Lib.hid i4
      have HFV := Lib.hid (And.intro hfv hqv)
      clear hbad hql hok' hfv hqv hnb i1 i2 i3 i4 hA4
      gi_wp2
      refine ⟨Below.refl _ _, ?_⟩
      rintro Wb hg hsz ⟨j1, j2, j3, j4⟩
      have ct := j1.tab
      have cf := j1.ints.2 k (by omega)
      have cq := j1.ints.2 q (by omega)
      rw [← HFV.out.1] at cf
      rw [← HFV.out.2] at cq
      have cr : Wb.cell? ⟨w.heap.size + 1 + 1, 0, none⟩ = some (.bool false) := by simp [World.cell?, j1.res]
      have fr : Wb.frozen? ⟨w.heap.size + 1 + 1, 0, none⟩ = false := by simp [World.frozen?, j1.res]
      have J1 := Lib.hid j1
      clear j1 hg
      have hB6 : ∀ nq, Below Wb.heap.size Wb (Wb.drewN nq) := fun nq => below_drewN (Below.refl _ _) nq
      have hkeep : ∀ nq, stepOk T k (q, n') = true → ∀ a6, roundPostLow (fun k' => (k' ≠ w.heap.size + 1 + 1 ∧ k' < W4.heap.size) ∨ (W4.heap.size ≤ k' ∧ k' < W5.heap.size))
          (fun pre W' => AgC t wind voice b o cap r (.func f1 f2 f3) tb oo cap2 T w W' W4.heap.size ds ∧ W'.cell? ⟨wr.heap.size, 0, none⟩ = some (.int .i64 k) ∧ W4.heap.size ≤ W'.heap.size ∧ ∀ x ∈ pre, stepOk T k x.1 = true)
          (fun c _ W' => c = .ret ∧ W'.heap[w.heap.size + 1 + 1]? = some (.cells #[.bool false] 4) ∧ Below w.heap.size w W' ∧ Marks (w.heap.size + 1 + 1 + 1) W' W4.heap.size ds ∧ agreesAll t wind T = false ∧ W4.heap.size ≤ W'.heap.size)
          (pre ++ [(⟨(q, n'), hx⟩ : StEl t wind k)]) Wb .normal a6 (Wb.drewN nq) := fun nq hs a6 => by
        refine ⟨.of_below (hB6 nq) (fun k' _ hk' => hk'), J1.out.below htl hbl hrl (by omega) j3 (hB6 nq), ((hB6 nq).cell (p := ⟨wr.heap.size, 0, none⟩) (show wr.heap.size < Wb.heap.size by omega)).trans j2, Nat.le_trans j3 (hB6 nq).size, fun x hxm => ?_⟩
        rcases List.mem_append.1 hxm with h | h
        · exact HI4.out x h
        · rw [List.mem_singleton] at h; subst h; exact hs
      have hstop : ∀ nq, stepOk T k (q, n') = false → ∀ a6, roundPostLow (fun k' => (k' ≠ w.heap.size + 1 + 1 ∧ k' < W4.heap.size) ∨ (W4.heap.size ≤ k' ∧ k' < W5.heap.size))
          (fun pre W' => AgC t wind voice b o cap r (.func f1 f2 f3) tb oo cap2 T w W' W4.heap.size ds ∧ W'.cell? ⟨wr.heap.size, 0, none⟩ = some (.int .i64 k) ∧ W4.heap.size ≤ W'.heap.size ∧ ∀ x ∈ pre, stepOk T k x.1 = true)
          (fun c _ W' => c = .ret ∧ W'.heap[w.heap.size + 1 + 1]? = some (.cells #[.bool false] 4) ∧ Below w.heap.size w W' ∧ Marks (w.heap.size + 1 + 1 + 1) W' W4.heap.size ds ∧ agreesAll t wind T = false ∧ W4.heap.size ≤ W'.heap.size)
          (pre ++ [(⟨(q, n'), hx⟩ : StEl t wind k)]) Wb .ret a6 ((Wb.drewN nq).setCell ⟨w.heap.size + 1 + 1, 0, none⟩ (.bool false)) := fun nq hs a6 => by
        have h6 : Hold (fun k' => k' ≠ w.heap.size + 1 + 1 ∧ k' < Wb.heap.size) Wb ((Wb.drewN nq).setCell ⟨w.heap.size + 1 + 1, 0, none⟩ (.bool false)) :=
          (Hold.of_below (hB6 nq) (fun _ h _ => h.2)).trans (Hold.setCell _ _ _ (fun h => h.1 rfl))
        have hJ := J1.out.below htl hbl hrl (by omega) j3 (hB6 nq)
        refine ⟨h6.mono (fun k' hk' hl => by rcases hk' with h | h <;> omega), rfl, one_setCell hJ.res, hJ.bel.trans ((Below.refl _ _).setCell (p := ⟨w.heap.size + 1 + 1, 0, none⟩) (by show w.heap.size ≤ w.heap.size + 1 + 1; omega) _), hJ.marks.keep (fun k' hk1 hk2 => Below.heap_setCell _ _ _ _ (show k' ≠ w.heap.size + 1 + 1 by omega)), HBAD.out hs, Nat.le_trans j3 (Nat.le_trans (hB6 nq).size (by simp))⟩
      have HKEEP := Lib.hid hkeep
      have HSTOP := Lib.hid hstop
      clear hkeep hstop hB6
      by_cases hA : fv ≤ 9223372036854775807 - n'
      · have e1 : decide (fv ≤ 9223372036854775807 - n') = true := by simpa using hA
        by_cases hB : fv + n' < qv
        · have HS := HSTOP
          have HSF := Lib.hid (show stepOk T k (q, n') = false by rw [HOK.out]; simp [hA, hB])
          have e2 : decide (fv + n' < qv) = true := by simpa using hB
          clear HKEEP HSTOP
          gi_wp2_with fail
          refine region_quiet_round l' rfl mixed (by kernel_rfl) ?_
          repeat (gi_big_quiet_step (fail))
          refine wpQuietIn_nil ?_
          intro _ hw'
          obtain ⟨nq, hw''⟩ := hw'
          subst hw''
          gi_wp2
          exact HS.out nq HSF.out _
        · have e2 : decide (fv + n' < qv) = false := by simpa using hB
          have HST := Lib.hid (show stepOk T k (q, n') = true by rw [HOK.out]; simp [hA, hB])
          clear HSTOP
          gi_wp2_with fail
          refine region_quiet_round l' rfl mixed (by kernel_rfl) ?_
          repeat (gi_big_quiet_step (fail))
          refine wpQuietIn_nil ?_
          intro _ hw'
          obtain ⟨nq, hw''⟩ := hw'
          subst hw''
          gi_wp2
          exact HKEEP.out nq HST.out _
      · have e1 : decide (fv ≤ 9223372036854775807 - n') = false := by simpa using hA
        have HST := Lib.hid (show stepOk T k (q, n') = true by rw [HOK.out]; simp [hA])
        clear HSTOP
        gi_wp2_with fail
        refine region_quiet_round l' rfl mixed (by kernel_rfl) ?_
        repeat (gi_big_quiet_step (fail))
        refine wpQuietIn_nil ?_
        intro _ hw'
        obtain ⟨nq, hw''⟩ := hw'
        subst hw''
        gi_wp2
        exact HKEEP.out nq HST.out _
    case done =>
      rintro D ys W' hD hys ⟨i1, i2, i3, i4⟩ hK
      have hDl := (Array.getElem?_eq_some_iff.1 hK).1
      have hat : agreesAt t wind T k = true := by
        refine List.all_eq_true.2 (fun x hx => ?_)
        rw [← hys] at hx
        obtain ⟨y, hy, rfl⟩ := List.mem_map.1 hx
        exact i4 y hy
      gi_wp2
      refine ⟨⟨k + 1, _, _, _, _, _, _, _, _, _, _, _, _, _, _, _, _, _, _, _, _, _, _, _, _, _, _, _, _, _, _, _, _, by omega, rfl, ⟨i1.wk, i1.tab, i1.res, i1.ints, i1.bel, ⟨D, rfl, by omega, hDl, hK, i1.marks.mono hD⟩, i1.sz.1, Nat.le_refl _⟩, agreesTo_succ HTO.out hat⟩, ?_⟩
      simp [intOf]
      omega
    case stop =>
      rintro D c pre W' hD ⟨rfl, i2, i3, i4, i5, i6⟩ hK
      have hDl := (Array.getElem?_eq_some_iff.1 hK).1
      gi_wp2
      refine leaves_marks (B := w.heap.size + 1 + 1 + 1) (by simp) _ W'.heap.size W' ⟨D, rfl, by omega, hDl, hK, i4.mono hD⟩ (Nat.le_refl _) (fun w' hh => ?_)
      have hres := (hh.same _ (show w.heap.size + 1 + 1 < w.heap.size + 1 + 1 + 1 by omega) (by omega)).trans i2
      have hc : w'.cell? ⟨w.heap.size + 1 + 1, 0, none⟩ = some (.bool false) := by simp [World.cell?, hres]
      refine ⟨.bool false, ?_, ?_⟩
      · simp [results, Tryz.results98, go_sem, hc]
      · exact ⟨by rw [i5], i3.trans ((hh.to_below (by omega)).mono (by omega))⟩
  · obtain rfl : k = t.len := by omega
    have hlt' : ¬ ((t.len : Int) < t.plots.length) := by have : t.plots.length = t.len := rfl; omega
    have hres := hA.res
    have hc : wr.cell? ⟨w.heap.size + 1 + 1, 0, none⟩ = some (.bool false) := by simp [World.cell?, hres]
    have hf : wr.frozen? ⟨w.heap.size + 1 + 1, 0, none⟩ = false := by simp [World.frozen?, hres]
    have HA := Lib.hid hA
    have HTO := Lib.hid hTo
    have HR := Lib.hid hres
    clear hA hTo hres
    gi_wp2
    have hres2 := one_setCell (u := .bool true) HR.out
    refine leaves_marks (B := w.heap.size + 1 + 1 + 1) (by simp) _ wr.heap.size _ (HA.out.marks.keep (fun k' hk1 hk2 => Below.heap_setCell _ _ _ _ (show k' ≠ w.heap.size + 1 + 1 by omega))) (by simp) (fun w' hh => ?_)
    have hres := (hh.same _ (show w.heap.size + 1 + 1 < w.heap.size + 1 + 1 + 1 by omega) (by have := HA.out.sz.1; simp; omega)).trans hres2
    have hc : w'.cell? ⟨w.heap.size + 1 + 1, 0, none⟩ = some (.bool true) := by simp [World.cell?, hres]
    refine ⟨.bool true, ?_, ?_⟩
    · simp [results, Tryz.results98, go_sem, hc]
    · exact ⟨by rw [show agreesAll t wind T = true from HTO.out], (HA.out.bel.setCell (p := ⟨w.heap.size + 1 + 1, 0, none⟩) (by show w.heap.size ≤ w.heap.size + 1 + 1; omega) _).trans ((hh.to_below (by have := HA.out.sz.1; simp; omega)).mono (by omega))⟩
end Go.Proofs.YtimedmkpenbmkaaGreat

namespace Go.Proofs.YtimedmkpenbmkaaGreat
open Go.RowKit Go.Shelf
set_option linter.unusedSimpArgs false
set_option linter.unusedVariables false

/-- behind the opening of a town: the box of the town at work, and the box of the town itself -/
structure Opened (t : Hr.Town) (wind voice : Int) (b o cap r : Nat) (w : World) (c : Nat) (W : World) : Prop where
  wk : WkBox W t.wide wind voice b o cap r (.func (.func 121) #[] #[]) t.plots c
  t1 : W.cell? ⟨w.heap.size, 1, none⟩ = some (.slice (some ⟨b, o, none⟩) t.plots.length cap)
  bel : Below w.heap.size w W
  lo : w.heap.size < c

theorem opened_alloc {t : Hr.Town} {wind voice : Int} {b o cap r : Nat} {w w5 : World} (h5 : Below w.heap.size w w5) (hlt : w.heap.size < w5.heap.size) (hI : Ints w b o t.plots) (hD : DirMap w5 r)
    (t1 : w5.cell? ⟨w.heap.size, 1, none⟩ = some (.slice (some ⟨b, o, none⟩) t.plots.length cap)) :
    Opened t wind voice b o cap r w w5.heap.size (w5.alloc (.cells #[.int .i64 t.wide, .slice (some ⟨b, o, none⟩) t.plots.length cap, .int .i64 wind, .int .i64 voice, .map (some r), .func (.func 121) #[] #[]] 117)) := by
  have hB := al h5 (.cells #[.int .i64 t.wide, .slice (some ⟨b, o, none⟩) t.plots.length cap, .int .i64 wind, .int .i64 voice, .map (some r), .func (.func 121) #[] #[]] 117)
  have hI5 := hI.below hB hI.1
  have hD5 := dir_al hD (dir_lt hD) (.cells #[.int .i64 t.wide, .slice (some ⟨b, o, none⟩) t.plots.length cap, .int .i64 wind, .int .i64 voice, .map (some r), .func (.func 121) #[] #[]] 117)
  have ht1 := ((below1 w5 (.cells #[.int .i64 t.wide, .slice (some ⟨b, o, none⟩) t.plots.length cap, .int .i64 wind, .int .i64 voice, .map (some r), .func (.func 121) #[] #[]] 117)).cell (p := ⟨w.heap.size, 1, none⟩) hlt).trans t1
  exact ⟨⟨by go_simp, by go_simp, by go_simp, by go_simp, by go_simp, by go_simp, hI5, hD5⟩, ht1, hB, hlt⟩

theorem opened_set {t : Hr.Town} {wind voice : Int} {b o cap r c : Nat} {w w5 : World} {z0 z1 z2 z3 z4 z5 : Value} (h5 : Below w.heap.size w w5) (lo : w.heap.size < c) (hrc : r ≠ c) (hI : Ints w b o t.plots) (hD : DirMap w5 r)
    (t1 : w5.cell? ⟨w.heap.size, 1, none⟩ = some (.slice (some ⟨b, o, none⟩) t.plots.length cap))
    (e0 : w5.cell? ⟨c, 0, none⟩ = some z0) (e1 : w5.cell? ⟨c, 1, none⟩ = some z1) (e2 : w5.cell? ⟨c, 2, none⟩ = some z2) (e3 : w5.cell? ⟨c, 3, none⟩ = some z3) (e4 : w5.cell? ⟨c, 4, none⟩ = some z4) (e5 : w5.cell? ⟨c, 5, none⟩ = some z5) :
    Opened t wind voice b o cap r w c ((((((w5.setCell ⟨c, 0, none⟩ (.int .i64 t.wide)).setCell ⟨c, 1, none⟩ (.slice (some ⟨b, o, none⟩) t.plots.length cap)).setCell ⟨c, 2, none⟩ (.int .i64 wind)).setCell ⟨c, 3, none⟩ (.int .i64 voice)).setCell ⟨c, 4, none⟩ (.map (some r))).setCell ⟨c, 5, none⟩ (.func (.func 121) #[] #[])) := by
  have hB := setc6 (v0 := .int .i64 t.wide) (v1 := .slice (some ⟨b, o, none⟩) t.plots.length cap) (v2 := .int .i64 wind) (v3 := .int .i64 voice) (v4 := .map (some r)) (v5 := .func (.func 121) #[] #[]) h5 (Nat.le_of_lt lo)
  have hI5 := hI.below hB hI.1
  have hD5 := dir_setc6 (v0 := .int .i64 t.wide) (v1 := .slice (some ⟨b, o, none⟩) t.plots.length cap) (v2 := .int .i64 wind) (v3 := .int .i64 voice) (v4 := .map (some r)) (v5 := .func (.func 121) #[] #[]) hD hrc
  have hne : w.heap.size ≠ c := by omega
  refine ⟨⟨?_, ?_, ?_, ?_, ?_, ?_, hI5, hD5⟩, ?_, hB, lo⟩
  all_goals go_simp
end Go.Proofs.YtimedmkpenbmkaaGreat
