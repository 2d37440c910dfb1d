import Derived.Test.YtimedmkpenbmkaaGreatAr
import Derived.Test.YtimedmkpenbmkaaGreatRl
namespace Go.Proofs.YtimedmkpenbmkaaGreat
open Go.RowKit Go.Shelf
attribute [local go_sem] Oper.semAt_some
set_option linter.unusedSimpArgs false
set_option linter.unusedVariables false

theorem around_stops (n : Nat) (Keep : Nat → Prop) (t : Hr.Town) (hok : t.Ok) (wind voice : Int) (b o cap r : Nat) (cf : Value) (p A1 A2 A3 : Nat) (hp : p < t.len)
    (w : World) (hA : Keep A1 ∧ Keep A2 ∧ Keep A3 ∧ Keep b ∧ Keep r) (hC : ArCap w t.wide wind voice b o cap r cf t.plots p A1 A2 A3) :
    SeqLow n Tryz.prog 160 #[.pointer (some ⟨A1, 0, none⟩), .pointer (some ⟨A2, 0, none⟩), .pointer (some ⟨A3, 0, none⟩)] (arEnc (t := t) (p := p)) Keep (fun ys => ys.map (·.1) = t.around p) w :=
  fun l J Jx W hb hJ hJx hY h0 =>
    have hl := hC.lt
    around1_in n l _ t hok wind voice b o cap r cf p A1 A2 A3 hp ⟨.inl ⟨hA.1, hl.1⟩, .inl ⟨hA.2.1, hl.2.1⟩, .inl ⟨hA.2.2.1, hl.2.2.1⟩, .inl ⟨hA.2.2.2.1, hl.2.2.2.1⟩, .inl ⟨hA.2.2.2.2, hl.2.2.2.2⟩⟩
      J Jx (fun pre x W h _ => hY pre x W h) W (hC.below hb) h0 hJ

/-- the element that a round of the steps is handed -/
abbrev StEl (t : Hr.Town) (wind : Int) (p : Nat) := { x : Nat × Int // x ∈ t.steps wind p }
abbrev stEnc {t : Hr.Town} {wind : Int} {p : Nat} (x : StEl t wind p) : Array Value := #[.int .i64 x.1.1, .int .i64 x.1.2]
def toSt (t : Hr.Town) (wind : Int) (p : Nat) (x : ArEl t p) : StEl t wind p := ⟨(x.1.1, t.cost wind x.1.2 x.1.1), by unfold Hr.Town.steps; exact List.mem_map.2 ⟨x.1, x.2, rfl⟩⟩

/-- a box with a town at work -/
structure WkBox (w : World) (wd wind voice : Int) (b o cap r : Nat) (cf : Value) (xs : List Int) (A : Nat) : Prop where
  c0 : w.cell? ⟨A, 0, none⟩ = some (.int .i64 wd)
  c1 : w.cell? ⟨A, 1, none⟩ = some (.slice (some ⟨b, o, none⟩) xs.length cap)
  c2 : w.cell? ⟨A, 2, none⟩ = some (.int .i64 wind)
  c3 : w.cell? ⟨A, 3, none⟩ = some (.int .i64 voice)
  c4 : w.cell? ⟨A, 4, none⟩ = some (.map (some r))
  c5 : w.cell? ⟨A, 5, none⟩ = some cf
  ints : Ints w b o xs
  dir : DirMap w r

theorem WkBox.lt {w : World} {wd wind voice : Int} {b o cap r : Nat} {cf : Value} {xs : List Int} {A : Nat} (h : WkBox w wd wind voice b o cap r cf xs A) : A < w.heap.size ∧ b < w.heap.size ∧ r < w.heap.size := by
  obtain ⟨_, h1, _⟩ := cells_of_cell h.c0
  exact ⟨(Array.getElem?_eq_some_iff.1 h1).1, h.ints.1, (Array.getElem?_eq_some_iff.1 h.dir).1⟩
theorem WkBox.hold {Kp : Nat → Prop} {w w' : World} {wd wind voice : Int} {b o cap r : Nat} {cf : Value} {xs : List Int} {A : Nat} (h : WkBox w wd wind voice b o cap r cf xs A) (hb : Hold Kp w w') (hA : Kp A ∧ Kp b ∧ Kp r) : WkBox w' wd wind voice b o cap r cf xs A :=
  have hl := h.lt
  ⟨(hb.cell (p := ⟨A, 0, none⟩) hA.1 hl.1).trans h.c0, (hb.cell (p := ⟨A, 1, none⟩) hA.1 hl.1).trans h.c1, (hb.cell (p := ⟨A, 2, none⟩) hA.1 hl.1).trans h.c2, (hb.cell (p := ⟨A, 3, none⟩) hA.1 hl.1).trans h.c3,
    (hb.cell (p := ⟨A, 4, none⟩) hA.1 hl.1).trans h.c4, (hb.cell (p := ⟨A, 5, none⟩) hA.1 hl.1).trans h.c5, ⟨Nat.lt_of_lt_of_le hl.2.1 hb.size, fun i hi => (hb.cell (p := ⟨b, o + i, none⟩) hA.2.1 hl.2.1).trans (h.ints.2 i hi)⟩, (hb.same r hA.2.2 hl.2.2).trans h.dir⟩
theorem WkBox.below {w w' : World} {wd wind voice : Int} {b o cap r : Nat} {cf : Value} {xs : List Int} {A : Nat} (h : WkBox w wd wind voice b o cap r cf xs A) (hb : Below w.heap.size w w') : WkBox w' wd wind voice b o cap r cf xs A :=
  h.hold (Kp := fun _ => True) (.of_below hb (fun _ _ hl => hl)) ⟨trivial, trivial, trivial⟩

theorem yieldAt_to {m m' l0 : Nat} {P : Program} {l : Nat} {args : Array Value} {W : World} {R : Ending → World → Prop} (h : YieldAt Fence.wide m P l args W R) : YieldAt (Fence.wide.inRound l0) m' P l args W R := by
  obtain ⟨fn, tmps, assign, body, hy, hR⟩ := h
  exact ⟨fn, tmps, assign, body, hy, hR.1, fun c cs _ => hR.2 c cs (room_wide _)⟩
theorem yield_split {e : Ending} {X Y : Prop} (h : (e = .returned (.bool true) ∧ X) ∨ (e = .returned (.bool false) ∧ Y)) : ∃ bv, e = .returned (.bool bv) ∧ ((bv = true ∧ X) ∨ (bv = false ∧ Y)) := by
  rcases h with ⟨rfl, h⟩ | ⟨rfl, h⟩
  · exact ⟨true, rfl, .inl ⟨rfl, h⟩⟩
  · exact ⟨false, rfl, .inr ⟨rfl, h⟩⟩
theorem mixed : Tryz.prog.follows .mixedOrders = true := by kernel_rfl

theorem around_dir {t : Hr.Town} {p q : Nat} {s1 s2 : Int} (h : (q, (s1, s2)) ∈ t.around p) : ∃ d : Int, 1 ≤ d ∧ d ≤ 4 ∧ Hr.stepOf d = (s1, s2) := by
  unfold Hr.Town.around at h
  split at h
  · cases h
  · obtain ⟨d, hd, he⟩ := List.mem_filterMap.1 h
    refine ⟨d, by simp at hd; omega, by simp at hd; omega, ?_⟩
    unfold Hr.Town.aroundAt at he
    split at he
    · split at he
      · cases he
      · injection he with he; injection he with h1 h2
    · cases he

set_option maxHeartbeats 1000000 in
set_option maxRecDepth 100000 in
theorem steps1_in (n : Nat) (l : Nat) (Kp : Nat → Prop) (t : Hr.Town) (hok : t.Ok) (wind voice : Int) (hw0 : 0 ≤ wind) (hw4 : wind ≤ 4) (b o cap r : Nat) (f1 : Fn) (f2 f3 : Array Value) (p A B : Nat) (hp : p < t.len)
    (hA : Kp A ∧ Kp B ∧ Kp b ∧ Kp r)
    (J Jx : List (StEl t wind p) → World → Prop)
    (hY : ∀ pre x W, J pre W → YieldAt Fence.wide (n - 1) Tryz.prog l (stEnc x) W fun e W' =>
      (e = .returned (.bool true) ∧ J (pre ++ [x]) W' ∧ Hold Kp W W') ∨ (e = .returned (.bool false) ∧ Jx (pre ++ [x]) W' ∧ Hold Kp W W'))
    (W : World) (hKn : ∀ k, W.heap.size ≤ k → Kp k) (hC : WkBox W t.wide wind voice b o cap r (.func f1 f2 f3) t.plots A) (cB : W.cell? ⟨B, 0, none⟩ = some (.int .i64 p))
    (h0 : J [] W) (hab : Low W.heap.size J) (habx : Low W.heap.size Jx) :
    CallsIn Fence.wide n Tryz.prog 151 #[.func (.yield l) #[] #[], .pointer (some ⟨A, 0, none⟩), .pointer (some ⟨B, 0, none⟩)] W fun e W' => (∃ v, e = .returned v) ∧
      ((∃ ys : List (StEl t wind p), ys.map (·.1) = t.steps wind p ∧ J ys W') ∨ (∃ pre, Jx pre W')) := by
  have hmf := mf
  have hlt := hC.lt
  have hAs : A < W.heap.size := hlt.1
  have hBs : B < W.heap.size := by
    obtain ⟨_, h1, _⟩ := cells_of_cell cB
    exact (Array.getElem?_eq_some_iff.1 h1).1
  have c0 := hC.c0
  have c1 := hC.c1
  have c2 := hC.c2
  have c3 := hC.c3
  have c4 := hC.c4
  have c5 := hC.c5
  have d : ∀ o' k, (W.alloc o').cell? ⟨A, k, none⟩ = W.cell? ⟨A, k, none⟩ := fun o' k => (below1 W o').cell (p := ⟨A, k, none⟩) hAs
  have d2 : ∀ o' k, (W.alloc o').cell? ⟨B, k, none⟩ = W.cell? ⟨B, k, none⟩ := fun o' k => (below1 W o').cell (p := ⟨B, k, none⟩) hBs
  refine callsIn_of_wp_marks Tryz.func151 rfl trivial ?_ rfl
  simp only [Tryz.ntmps151, List.size_toArray, List.length_cons, List.length_nil, Nat.reduceAdd, Nat.reduceSub, Array.replicate_succ, Array.replicate_zero, List.push_toArray, List.append_toArray, List.nil_append, List.cons_append]
  gi_wp2_with fail
  refine ⟨trivial, (fun h => by cases h), ?_⟩
  refine (callsIn_wide.2 (around_eq _ _ _ _ _ _ _ _ _ _ _)).mono ?_
  rintro e W4 ⟨rfl, hW4⟩
  have hB4 : Below W.heap.size W W4 := by rw [← hW4]; exact ((((below1 _ _).alloc (by simp) _).alloc (by simp; omega) _).alloc (by simp; omega) _)
  have hs4 : W4.heap.size = W.heap.size + 4 := by rw [← hW4]; simp
  have hwk4 : WkBox W4 t.wide wind voice b o cap r (.func f1 f2 f3) t.plots A := hC.below hB4
  have hA4 : ArCap W4 t.wide wind voice b o cap r (.func f1 f2 f3) t.plots p (W.heap.size + 1 + 1 + 1) (W.heap.size + 1 + 1) (W.heap.size + 1) := by
    refine ⟨?_, ?_, ?_, ?_, ?_, hwk4.ints, hwk4.dir⟩ <;> (rw [← hW4]; clear hW4; go_simp)
  have hy4 : W4.cell? ⟨W.heap.size, 0, none⟩ = some (.func (.yield l) #[] #[]) := by rw [← hW4]; clear hW4; go_simp
  clear hW4 c0 c1 c2 c3 c4 c5 d d2
  gi_wp2
  refine range_low (gf := 160) (lb := #[.pointer (some ⟨W.heap.size + 1 + 1 + 1, 0, none⟩), .pointer (some ⟨W.heap.size + 1 + 1, 0, none⟩), .pointer (some ⟨W.heap.size + 1, 0, none⟩)]) rfl (enters_of Tryz.func160 (by kernel_rfl) rfl)
    (around_stops (n - 1) Kp t hok wind voice b o cap r (.func f1 f2 f3) p _ _ _ hp W4 ⟨hKn _ (by omega), hKn _ (by omega), hKn _ (by omega), hA.2.2.1, hA.2.2.2⟩ hA4) (Below.refl _ _) (fun _ => rfl)
    (fun pre W' => J (pre.map (toSt t wind p)) W' ∧ WkBox W' t.wide wind voice b o cap r (.func f1 f2 f3) t.plots A ∧ W'.cell? ⟨W.heap.size, 0, none⟩ = some (.func (.yield l) #[] #[]) ∧ W4.heap.size ≤ W'.heap.size)
    (fun c _ W' => c = .ret ∧ ∃ pre', Jx pre' W')
    ?lowI ?lowX ⟨hab _ _ _ h0 hB4, hwk4, hy4, Nat.le_refl _⟩ ?round ?done ?stop
  case lowI =>
    rintro s X Y ⟨i1, i2, i3, i4⟩ hb
    exact ⟨hab _ _ _ i1 (hb.mono (by omega)), i2.hold (Kp := fun k => k < W4.heap.size) (.of_below hb (fun _ h _ => h)) ⟨by omega, by omega, by omega⟩, (hb.cell (p := ⟨W.heap.size, 0, none⟩) (show W.heap.size < W4.heap.size by omega)).trans i3, Nat.le_trans i4 hb.size⟩
  case lowX =>
    rintro c s X Y ⟨i1, pre', i2⟩ hb
    exact ⟨i1, pre', habx _ _ _ i2 (hb.mono (by omega))⟩
  case round =>
    rintro l' pre ⟨⟨q, s1, s2⟩, hx⟩ W5 hl1 hl2 ⟨i1, i2, i3, i4⟩
    clear hA4 hwk4 hy4
    gi_wp2
    refine ⟨below1 _ _, ?_⟩
    rintro Wb hg hsz ⟨j1, j2, j3, j4⟩
    obtain ⟨dd, hd1, hd4, hst⟩ := around_dir hx
    have hql : q < t.len := Hr.around_lt hok hx
    have hcost : ∀ W', Ints W' b o t.plots → DirMap W' r → Calls Tryz.prog 154 #[.agg #[.int .i64 t.wide, .slice (some ⟨b, o, none⟩) t.plots.length cap, .int .i64 wind, .int .i64 voice, .map (some r), .func f1 f2 f3], .agg #[.int .i64 s1, .int .i64 s2], .int .i64 q] W' fun e w' =>
        e = .returned (.int .i64 (t.cost wind (s1, s2) q)) ∧ Below W'.heap.size W' w' := fun W' h1 h2 => by
      have h := costs_any t.wide wind voice b o cap t.plots r (.func f1 f2 f3) W' dd q hql (show t.len ≤ 40 from Nat.le_trans hok.n30 (by omega)) h1 h2 hw0 hw4 hd1 hd4
      have hc : costOf t.plots wind dd q = t.cost wind (s1, s2) q := by unfold costOf Hr.Town.cost; rw [hst]; rfl
      rw [hst, hc] at h
      exact h
    have hltb := j2.lt
    have hst5 : Wb.heap[W5.heap.size]? = some (.cells #[.int .i64 s1, .int .i64 s2] 186) := by
      rw [hg.block _ (by simp) (fun e => by injection e with e; omega)]
      exact World.alloc_heap_new _ _
    have hs1 : Wb.cell? ⟨W5.heap.size, 0, none⟩ = some (.int .i64 s1) := by simp [World.cell?, hst5]
    have hs2 : Wb.cell? ⟨W5.heap.size, 1, none⟩ = some (.int .i64 s2) := by simp [World.cell?, hst5]
    have HST5 := Lib.hid hst5
    clear hst5 hst
    have c0 := j2.c0
    have c1 := j2.c1
    have c2 := j2.c2
    have c3 := j2.c3
    have c4 := j2.c4
    have c5 := j2.c5
    have hmix := mixed
    gi_wp2
    have hcst := CallsIn.inRound (n := n - 1 - 1 - 1) l' (callsIn_wide.2 (hcost Wb.drew j2.ints j2.dir))
    have hyl : ∀ w6, Below Wb.heap.size Wb.drew w6 → w6.cell? ⟨W.heap.size, 0, none⟩ = some (.func (.yield l) #[] #[]) ∧ ∃ fn tmps assign body, (Instr.yield l #[.int .i64 q, .int .i64 (t.cost wind (s1, s2) q)]).run Tryz.prog w6 = .ok (.round l fn tmps assign body) w6 ∧
        RoundIn (Fence.wide.inRound l') (n - 1 - 1 - 1) Tryz.prog l fn tmps assign body w6 (fun e W' => ∃ bv, e = .returned (.bool bv) ∧ Hid ((bv = true ∧ J (pre.map (toSt t wind p) ++ [toSt t wind p ⟨(q, s1, s2), hx⟩]) W' ∧ Hold Kp w6 W') ∨ (bv = false ∧ Jx (pre.map (toSt t wind p) ++ [toSt t wind p ⟨(q, s1, s2), hx⟩]) W' ∧ Hold Kp w6 W'))) := by
      intro w6 hB6
      refine ⟨(hB6.cell (p := ⟨W.heap.size, 0, none⟩) (show W.heap.size < Wb.heap.size by omega)).trans j3, ?_⟩
      obtain ⟨gfn, gtmps, gassign, gbody, hy, hR⟩ := yieldAt_to (m' := n - 1 - 1 - 1) (l0 := l') (hY _ (toSt t wind p ⟨(q, s1, s2), hx⟩) w6 (hab _ _ _ j1 (Below.mono (B := Wb.heap.size) ⟨hB6.os, hB6.tape, hB6.output, hB6.size, hB6.block⟩ (show W.heap.size ≤ Wb.heap.size by omega))))
      exact ⟨gfn, gtmps, gassign, gbody, hy, hR.mono (fun e W' h => yield_split h)⟩
    have hWb : W.heap.size < Wb.heap.size := by omega
    have HCST := Lib.hid hcst
    have HYL := Lib.hid hyl
    have J1 := Lib.hid j1
    have J2 := Lib.hid j2
    have I4 := Lib.hid i4
    have HA' := Lib.hid hA
    have HAB := Lib.hid hab
    have HABX := Lib.hid habx
    have HKN := Lib.hid hKn
    have HS4 := Lib.hid (show W.heap.size ≤ W4.heap.size by omega)
    clear hcst hyl hcost j1 j2 i1 i2 i3 i4 hA hab habx hKn hY hC cB h0 hmf hB4 hg hs4 hlt hok hw0 hw4 hp hltb hl1
    refine wpIn_region_any hmix ?_
    obtain ⟨wv, hwv⟩ : ∃ wv : Array Value, wv = #[.int .i64 t.wide, .slice (some ⟨b, o, none⟩) t.plots.length cap, .int .i64 wind, .int .i64 voice, .map (some r), .func f1 f2 f3] := ⟨_, rfl⟩
    refine wpAnyIn_good (fun listed a w => ∃ (x13 x14 x15 x16 x17 x18 x19 x20 : Value) (b0 b1 b2 b3 b4 b5 b6 b7 : Bool), listed = #[b0, b1, b2, b3, b4, b5, b6, b7] ∧
      a = { tmps := #[.func (.yield l) #[] #[], .pointer (some ⟨A, 0, none⟩), .pointer (some ⟨B, 0, none⟩), .pointer (some ⟨W.heap.size, 0, none⟩), .int .i64 q, .pointer (some ⟨W5.heap.size, 0, none⟩),
        .agg #[.int .i64 t.wide, .slice (some ⟨b, o, none⟩) t.plots.length cap, .int .i64 wind, .int .i64 voice, .map (some r), .func f1 f2 f3], .int .i64 p,
        .agg #[.int .i64 t.wide, .slice (some ⟨b, o, none⟩) t.plots.length cap, .int .i64 wind, .int .i64 voice, .map (some r), .func f1 f2 f3],
        .func (.func 153) #[.agg #[.int .i64 t.wide, .slice (some ⟨b, o, none⟩) t.plots.length cap, .int .i64 wind, .int .i64 voice, .map (some r), .func f1 f2 f3]] #[],
        .func (.func 160) #[] #[.pointer (some ⟨W.heap.size + 1 + 1 + 1, 0, none⟩), .pointer (some ⟨W.heap.size + 1 + 1, 0, none⟩), .pointer (some ⟨W.heap.size + 1, 0, none⟩)],
        .int .i64 q, .agg #[.int .i64 s1, .int .i64 s2], x13, x14, x15, x16, x17, x18, x19, x20], defers := [] } ∧
      (b0 = true → x13 = .func (.yield l) #[] #[]) ∧ (b1 = true → x14 = .int .i64 q) ∧ (b2 = true → x15 = .agg wv) ∧ (b3 = true → x16 = .agg #[.int .i64 s1, .int .i64 s2]) ∧ (b4 = true → x17 = .int .i64 q) ∧
      (b5 = true → x18 = .int .i64 (t.cost wind (s1, s2) q) ∧ b2 = true ∧ b3 = true ∧ b4 = true) ∧ (b6 = true → b0 = true ∧ b1 = true ∧ b5 = true) ∧ (b7 = true → b6 = true) ∧
      (b5 = false → w = Wb.drew) ∧ (b5 = true → b6 = false → Below Wb.heap.size Wb.drew w) ∧
      (b6 = true → ∃ bv, x19 = .bool bv ∧ (b7 = true → x20 = .bool (!bv)) ∧ ∃ w6, Below Wb.heap.size Wb.drew w6 ∧ Hid ((bv = true ∧ J (pre.map (toSt t wind p) ++ [toSt t wind p ⟨(q, s1, s2), hx⟩]) w ∧ Hold Kp w6 w) ∨ (bv = false ∧ Jx (pre.map (toSt t wind p) ++ [toSt t wind p ⟨(q, s1, s2), hx⟩]) w ∧ Hold Kp w6 w)))) ?hsz ?step ?fin _ _ _ _ (by decide) ?ini
    case hsz => rintro _ _ _ ⟨_, _, _, _, _, _, _, _, _, _, _, _, _, _, _, _, rfl, _⟩; rfl
    case step =>
      rintro listed a w ⟨x13, x14, x15, x16, x17, x18, x19, x20, b0, b1, b2, b3, b4, b5, b6, b7, rfl, rfl, g0, g1, g2, g3, g4, g5, g6, g7, v0, v1, v2⟩ i hi
      obtain ⟨hun, oo, hoo, hdep⟩ := mem_ready.1 hi
      have hi8 : i < 8 := (Array.getElem?_eq_some_iff.1 hoo).1
      have : i = 0 ∨ i = 1 ∨ i = 2 ∨ i = 3 ∨ i = 4 ∨ i = 5 ∨ i = 6 ∨ i = 7 := by omega
      clear hi
      have hoo' := hoo
      rcases this with rfl | rfl | rfl | rfl | rfl | rfl | rfl | rfl
      all_goals
        simp only [List.getElem?_toArray, List.getElem?_cons_zero, List.getElem?_cons_succ, Option.some.injEq] at hoo'
        subst hoo'
        refine wpOpIn_step hoo (fun K' hK => ?_)
        clear hoo
      · -- the load of yield
        obtain rfl : b0 = false := by simpa using hun
        obtain rfl : b6 = false := by cases b6 with | false => rfl | true => exact absurd (g6 rfl).1 (by simp)
        have hyc : w.cell? ⟨W.heap.size, 0, none⟩ = some (.func (.yield l) #[] #[]) := by
          cases b5 with
          | false => rw [v0 rfl]; exact j3
          | true => exact ((v1 rfl rfl).cell (p := ⟨W.heap.size, 0, none⟩) hWb).trans j3
        go_simp
        exact hK _ _ ⟨_, x14, x15, x16, x17, x18, x19, x20, true, b1, b2, b3, b4, b5, false, b7, rfl, rfl, fun _ => rfl, g1, g2, g3, g4, g5, (fun h => by cases h), g7, v0, v1, v2⟩
      · obtain rfl : b1 = false := by simpa using hun
        obtain rfl : b6 = false := by cases b6 with | false => rfl | true => exact absurd (g6 rfl).2.1 (by simp)
        go_simp
        exact hK _ _ ⟨x13, _, x15, x16, x17, x18, x19, x20, b0, true, b2, b3, b4, b5, false, b7, rfl, rfl, g0, fun _ => rfl, g2, g3, g4, g5, (fun h => by cases h), g7, v0, v1, v2⟩
      · obtain rfl : b2 = false := by simpa using hun
        obtain rfl : b5 = false := by cases b5 with | false => rfl | true => exact absurd (g5 rfl).2.1 (by simp)
        obtain rfl := v0 rfl
        go_simp
        exact hK _ _ ⟨x13, x14, _, x16, x17, x18, x19, x20, b0, b1, true, b3, b4, false, b6, b7, rfl, rfl, g0, g1, fun _ => by rw [hwv], g3, g4, (fun h => by cases h), g6, g7, fun _ => rfl, (fun h => by cases h), v2⟩
      · obtain rfl : b3 = false := by simpa using hun
        obtain rfl : b5 = false := by cases b5 with | false => rfl | true => exact absurd (g5 rfl).2.2.1 (by simp)
        obtain rfl := v0 rfl
        go_simp
        exact hK _ _ ⟨x13, x14, x15, _, x17, x18, x19, x20, b0, b1, b2, true, b4, false, b6, b7, rfl, rfl, g0, g1, g2, fun _ => rfl, g4, (fun h => by cases h), g6, g7, fun _ => rfl, (fun h => by cases h), v2⟩
      · obtain rfl : b4 = false := by simpa using hun
        obtain rfl : b5 = false := by cases b5 with | false => rfl | true => exact absurd (g5 rfl).2.2.2 (by simp)
        obtain rfl := v0 rfl
        go_simp
        exact hK _ _ ⟨x13, x14, x15, x16, _, x18, x19, x20, b0, b1, b2, b3, true, false, b6, b7, rfl, rfl, g0, g1, g2, g3, fun _ => rfl, (fun h => by cases h), g6, g7, fun _ => rfl, (fun h => by cases h), v2⟩
      · -- the call of costs
        obtain rfl : b5 = false := by simpa using hun
        obtain rfl : b6 = false := by cases b6 with | false => rfl | true => exact absurd (g6 rfl).2.2 (by simp)
        obtain rfl : b2 = true := by simpa using hdep { on := 2, ground := .data } (by simp) rfl
        obtain rfl : b3 = true := by simpa using hdep { on := 3, ground := .data } (by simp) rfl
        obtain rfl : b4 = true := by simpa using hdep { on := 4, ground := .data } (by simp) rfl
        obtain rfl := v0 rfl
        obtain rfl := g2 rfl
        obtain rfl := g3 rfl
        obtain rfl := g4 rfl
        clear hun hdep g2 g3 g4
        subst hwv
        go_simp
        refine ⟨trivial, (fun h => by cases h), ?_⟩
        refine HCST.out.mono ?_
        rintro e w6 ⟨rfl, hB6⟩
        exact hK _ _ ⟨x13, x14, _, _, _, _, x19, x20, b0, b1, true, true, true, true, false, b7, rfl, rfl, g0, g1, fun _ => rfl, fun _ => rfl, fun _ => rfl, fun _ => ⟨rfl, rfl, rfl, rfl⟩, (fun h => by cases h), g7, (fun h => by cases h), fun _ _ => hB6, (fun h => by cases h)⟩
      · -- the call of yield
        obtain rfl : b6 = false := by simpa using hun
        obtain rfl : b0 = true := by simpa using hdep { on := 0, ground := .data } (by simp) rfl
        obtain rfl : b1 = true := by simpa using hdep { on := 1, ground := .data } (by simp) rfl
        obtain rfl : b5 = true := by simpa using hdep { on := 5, ground := .data } (by simp) rfl
        obtain ⟨rfl, h2, h3, h4⟩ := g5 rfl
        obtain rfl := g0 rfl
        obtain rfl := g1 rfl
        have hB6 := v1 rfl rfl
        obtain ⟨y6, gfn, gtmps, gassign, gbody, hy, hR⟩ := HYL.out w hB6
        have HB6 := Lib.hid hB6
        have HR := Lib.hid hR
        have G := Lib.hid (And.intro g2 (And.intro g3 g4))
        have G7 := Lib.hid g7
        clear hun hdep g0 g1 g2 g3 g4 g5 g6 g7 v0 v1 v2 hB6 hR
        go_simp
        refine ⟨(fun h => by cases h), ?_⟩
        refine HR.out.mono ?_
        rintro e W7 ⟨bv, rfl, H7⟩
        exact hK _ _ ⟨_, _, x15, x16, x17, _, _, x20, true, true, b2, b3, b4, true, true, b7, rfl, rfl, fun _ => rfl, fun _ => rfl, G.out.1, G.out.2.1, G.out.2.2, fun _ => ⟨rfl, h2, h3, h4⟩, fun _ => ⟨rfl, rfl, rfl⟩, fun _ => rfl, (fun h => by cases h), (fun _ h => by cases h), fun _ => ⟨bv, rfl, (fun h => by have := G7.out h; cases this), w, HB6.out, H7⟩⟩
      · obtain rfl : b7 = false := by simpa using hun
        obtain rfl : b6 = true := by simpa using hdep { on := 6, ground := .data } (by simp) rfl
        obtain ⟨bv, rfl, -, w6, hB6, H7⟩ := v2 rfl
        have G := Lib.hid (And.intro g0 (And.intro g1 (And.intro g2 (And.intro g3 (And.intro g4 (And.intro g5 (And.intro g6 (And.intro v0 v1))))))))
        clear g0 g1 g2 g3 g4 g5 g6 g7 v0 v1 v2 hdep hun
        go_simp
        obtain ⟨g0, g1, g2, g3, g4, g5, g6, v0, v1⟩ := G.out
        exact hK _ _ ⟨x13, x14, x15, x16, x17, x18, _, _, b0, b1, b2, b3, b4, b5, true, true, rfl, rfl, g0, g1, g2, g3, g4, g5, g6, fun _ => rfl, v0, v1, fun _ => ⟨bv, rfl, fun _ => rfl, w6, hB6, H7⟩⟩
    case ini => exact ⟨_, _, _, _, _, _, _, _, false, false, false, false, false, false, false, false, rfl, rfl, (fun h => by cases h), (fun h => by cases h), (fun h => by cases h), (fun h => by cases h), (fun h => by cases h), (fun h => by cases h), (fun h => by cases h), (fun h => by cases h), fun _ => rfl, (fun h => by cases h), (fun h => by cases h)⟩
    case fin =>
      rintro listed a w ⟨x13, x14, x15, x16, x17, x18, x19, x20, b0, b1, b2, b3, b4, b5, b6, b7, rfl, rfl, g0, g1, g2, g3, g4, g5, g6, g7, v0, v1, v2⟩ hr
      obtain rfl : b7 = true := by
        have := ready_nil (by rfl) (by kernel_rfl) hr 7 (by decide)
        simpa using this
      obtain ⟨bv, rfl, h20, w6, hB6, H7⟩ := v2 (g7 rfl)
      obtain rfl := h20 rfl
      clear g0 g1 g2 g3 g4 g5 g6 g7 v0 v1 v2 hr
      have hsub : Hold Kp Wb w6 := ⟨hB6.os, hB6.tape, hB6.output, hB6.size, fun k _ hl => hB6.block k hl⟩
      have hM : ∀ k, (Kp k ∧ k < W4.heap.size ∨ W4.heap.size ≤ k ∧ k < W5.heap.size) → Kp k := fun k hk => by
        rcases hk with h | h
        · exact h.1
        · exact HKN.out k (Nat.le_trans HS4.out h.1)
      have HSUB := Lib.hid hsub
      have HM := Lib.hid hM
      clear hsub hM hB6
      cases bv with
      | true =>
        gi_wp2
        rcases H7.out with ⟨-, hJ7, hK7⟩ | ⟨h, -⟩
        · have hk := HSUB.out.trans hK7
          exact ⟨hk.mono (fun k hk _ => HM.out k hk), by rw [List.map_append]; exact hJ7, J2.out.hold hk ⟨HA'.out.1, HA'.out.2.2⟩, (hk.cell (p := ⟨W.heap.size, 0, none⟩) (HKN.out _ (Nat.le_refl _)) hWb).trans j3, Nat.le_trans j4 hk.size⟩
        · cases h
      | false =>
        gi_wp2
        rcases H7.out with ⟨h, -⟩ | ⟨-, hJ7, hK7⟩
        · cases h
        · exact ⟨(HSUB.out.trans hK7).mono (fun k hk _ => HM.out k hk), rfl, _, hJ7⟩
  case done =>
    rintro D ys W' hD hys ⟨i1, i2, i3, i4⟩ hK
    gi_wp2
    refine ⟨by simp, .inl ⟨_, _, rfl, run_takeDeferred hK, ?_⟩⟩
    refine ⟨_, results_none rfl _ _ _, ⟨_, rfl⟩, .inl ⟨ys.map (toSt t wind p), ?_, hab _ _ _ i1 (putObj_below _ _ _ (by omega) (Array.getElem?_eq_some_iff.1 hK).1)⟩⟩
    have h1 := congrArg (List.map fun (x : Nat × (Int × Int)) => (x.1, t.cost wind x.2 x.1)) hys
    rw [List.map_map] at h1
    refine Eq.trans ?_ h1
    rw [List.map_map]
    rfl
  case stop =>
    rintro D c pre W' hD ⟨rfl, pre', hx⟩ hK
    gi_wp2
    refine ⟨by simp, .inl ⟨_, _, rfl, run_takeDeferred hK, ?_⟩⟩
    exact ⟨_, results_none rfl _ _ _, ⟨_, rfl⟩, .inr ⟨pre', habx _ _ _ hx (putObj_below _ _ _ (by omega) (Array.getElem?_eq_some_iff.1 hK).1)⟩⟩
end Go.Proofs.YtimedmkpenbmkaaGreat

namespace Go.Proofs.YtimedmkpenbmkaaGreat
open Go.RowKit Go.Shelf
attribute [local go_sem] Oper.semAt_some
set_option linter.unusedSimpArgs false
set_option linter.unusedVariables false

theorem steps_stops (n : Nat) (Keep : Nat → Prop) (t : Hr.Town) (hok : t.Ok) (wind voice : Int) (hw0 : 0 ≤ wind) (hw4 : wind ≤ 4) (b o cap r : Nat) (f1 : Fn) (f2 f3 : Array Value) (p A B : Nat) (hp : p < t.len)
    (w : World) (hA : Keep A ∧ Keep B ∧ Keep b ∧ Keep r) (hC : WkBox w t.wide wind voice b o cap r (.func f1 f2 f3) t.plots A) (cB : w.cell? ⟨B, 0, none⟩ = some (.int .i64 p)) :
    SeqLow n Tryz.prog 151 #[.pointer (some ⟨A, 0, none⟩), .pointer (some ⟨B, 0, none⟩)] (stEnc (t := t) (wind := wind) (p := p)) Keep (fun ys => ys.map (·.1) = t.steps wind p) w :=
  fun l J Jx W hb hJ hJx hY h0 => by
    have hl := hC.lt
    have hBs : B < w.heap.size := by
      obtain ⟨_, h1, _⟩ := cells_of_cell cB
      exact (Array.getElem?_eq_some_iff.1 h1).1
    exact steps1_in n l _ t hok wind voice hw0 hw4 b o cap r f1 f2 f3 p A B hp ⟨.inl ⟨hA.1, hl.1⟩, .inl ⟨hA.2.1, hBs⟩, .inl ⟨hA.2.2.1, hl.2.1⟩, .inl ⟨hA.2.2.2, hl.2.2⟩⟩
      J Jx hY W (fun k hk => .inr hk) (hC.below hb) ((hb.cell (p := ⟨B, 0, none⟩) hBs).trans cB) h0 hJ hJx

/-- a block that holds a table, whole -/
def TabAt (w : World) (b : Nat) (xs : List Int) : Prop := w.heap[b]? = some (.cells (xs.map (Value.int .i64)).toArray 3)
theorem TabAt.lt {w : World} {b : Nat} {xs : List Int} (h : TabAt w b xs) : b < w.heap.size := (Array.getElem?_eq_some_iff.1 h).1
theorem TabAt.cell {w : World} {b : Nat} {xs : List Int} (h : TabAt w b xs) {i : Nat} (hi : i < xs.length) : w.cell? ⟨b, i, none⟩ = some (.int .i64 (xs.getD i 0)) := by
  unfold TabAt at h
  simp [World.cell?, h, hi]
theorem TabAt.free {w : World} {b : Nat} {xs : List Int} (h : TabAt w b xs) (i : Nat) : w.frozen? ⟨b, i, none⟩ = false := by
  unfold TabAt at h
  simp [World.frozen?, h]
theorem TabAt.hold {w w' : World} {b : Nat} {xs : List Int} (h : TabAt w b xs) {Kp : Nat → Prop} (hh : Hold Kp w w') (hk : Kp b) : TabAt w' b xs := (hh.same b hk h.lt).trans h
theorem TabAt.below {w w' : World} {b : Nat} {xs : List Int} (h : TabAt w b xs) {B : Nat} (hh : Below B w w') (hk : b < B) : TabAt w' b xs := (hh.block b hk).trans h
theorem TabAt.set {w : World} {b : Nat} {xs : List Int} (h : TabAt w b xs) {i : Nat} (hi : i < xs.length) (x : Int) : TabAt (w.setCell ⟨b, i, none⟩ (.int .i64 x)) b (xs.set i x) := by
  unfold TabAt at *
  simp only [World.setCell, Array.getElem?_modify, if_true]
  rw [h]
  simp [List.map_set]
theorem Hold.setCell {Kp : Nat → Prop} (w : World) (a : Addr) (v : Value) (h : ¬ Kp a.block) : Hold Kp w (w.setCell a v) := ⟨rfl, rfl, rfl, by simp, fun k hk _ => Below.heap_setCell _ _ _ _ (fun e => h (e ▸ hk))⟩
theorem Hold.alloc {Kp : Nat → Prop} (w : World) (o : Obj) : Hold Kp w (w.alloc o) := ⟨rfl, rfl, rfl, by simp, fun k _ hl => Below.heap_alloc w o k hl⟩

theorem lower1_at {f : Nat} {T : List Int} {bb : Bool} {x : Nat × Int} (hT : T.getD f 0 ≠ -1) (hx : 1 ≤ x.2) (hq : x.1 < T.length) : (Hr.lower1 f (T, bb) x).1.getD f 0 = T.getD f 0 := by
  unfold Hr.lower1
  simp only
  generalize hneed : (if T.getD x.1 0 ≠ -1 ∧ T.getD x.1 0 < T.getD f 0 + x.2 then T.getD x.1 0 else T.getD f 0 + x.2) = need
  by_cases h : need ≠ T.getD x.1 0
  · rw [if_pos h]
    simp only
    rw [Hr.getD_set _ _ _ _ hq]
    split
    · rename_i h2
      subst h2
      exfalso; apply h
      rw [← hneed, if_pos ⟨hT, by omega⟩]
    · rfl
  · rw [if_neg h]

/-- what the rounds of lower do -/
def lowFold (f : Nat) (T : List Int) (xs : List (Nat × Int)) : List Int × Bool := xs.foldl (Hr.lower1 f) (T, false)

theorem lowFold_inv {t : Hr.Town} (ok : t.Ok) {wind : Int} {s f : Nat} {T : List Int} (h : t.Inv wind s T) (hf : f < t.len) (hn : T.getD f 0 ≠ -1) (xs : List (Nat × Int)) (hx : ∀ x ∈ xs, x ∈ t.steps wind f) :
    t.Inv wind s (lowFold f T xs).1 ∧ (lowFold f T xs).1.getD f 0 = T.getD f 0 := by
  unfold lowFold
  suffices ∀ (xs : List (Nat × Int)) (T : List Int) (bb : Bool), t.Inv wind s T → T.getD f 0 ≠ -1 → (∀ x ∈ xs, x ∈ t.steps wind f) →
      t.Inv wind s (xs.foldl (Hr.lower1 f) (T, bb)).1 ∧ (xs.foldl (Hr.lower1 f) (T, bb)).1.getD f 0 = T.getD f 0 from this xs T false h hn hx
  intro xs
  induction xs with
  | nil => intro T bb h hn hx; exact ⟨h, rfl⟩
  | cons x xs ih =>
    intro T bb h hn hx
    have hx0 := hx x (by simp)
    have h1 := (Hr.lower1_inv (b := bb) ok h hf hn hx0).1
    have h2 := lower1_at (bb := bb) hn (Hr.steps_pos (q := x.1) (n := x.2) hx0).1 (by rw [h.len]; exact Hr.steps_lt (q := x.1) (n := x.2) ok hx0)
    rw [List.foldl_cons]
    obtain ⟨a, b⟩ := ih (Hr.lower1 f (T, bb) x).1 (Hr.lower1 f (T, bb) x).2 h1 (by rw [h2]; exact hn) (fun y hy => hx y (by simp [hy]))
    exact ⟨a, by rw [← h2]; exact b⟩

/-- what holds between two rounds of lower -/
def lowInv (w : World) (tb f s4 : Nat) (T : List Int) (xs : List (Nat × Int)) (W' : World) : Prop :=
  TabAt W' tb (lowFold f T xs).1 ∧ W'.heap[w.heap.size + 1 + 1 + 1]? = some (.cells #[.bool (lowFold f T xs).2] 4) ∧
    W'.cell? ⟨w.heap.size + 1, 0, none⟩ = some (.slice (some ⟨tb, 0, none⟩) T.length T.length) ∧ W'.cell? ⟨w.heap.size + 1 + 1, 0, none⟩ = some (.int .i64 f) ∧ Hold (fun k => k ≠ tb ∧ k < w.heap.size) w W' ∧ s4 ≤ W'.heap.size

theorem lowInv_alloc {w X : World} {tb f s4 : Nat} {T : List Int} {xs : List (Nat × Int)} (h : lowInv w tb f s4 T xs X) (hw : w.heap.size + 1 + 1 + 1 < X.heap.size) (o : Obj) : lowInv w tb f s4 T xs (X.alloc o) := by
  obtain ⟨j1, j2, j3, j4, j5, j6⟩ := h
  have hb := below1 X o
  exact ⟨j1.below hb j1.lt, (hb.block _ hw).trans j2, (hb.cell (p := ⟨w.heap.size + 1, 0, none⟩) (show w.heap.size + 1 < X.heap.size by omega)).trans j3, (hb.cell (p := ⟨w.heap.size + 1 + 1, 0, none⟩) (show w.heap.size + 1 + 1 < X.heap.size by omega)).trans j4,
    j5.trans (.of_below hb (fun _ _ hl => hl)), Nat.le_trans j6 hb.size⟩

set_option maxHeartbeats 1000000 in
set_option maxRecDepth 100000 in
theorem lower_any (t : Hr.Town) (hok : t.Ok) (wind voice : Int) (hw0 : 0 ≤ wind) (hw4 : wind ≤ 4) (b o cap r : Nat) (f1 : Fn) (f2 f3 : Array Value) (tb f s : Nat) (T : List Int) (hf : f < t.len)
    (w : World) (hI : Ints w b o t.plots) (hD : DirMap w r) (hbt : b ≠ tb) (hT : TabAt w tb T) (hinv : t.Inv wind s T) (hn : T.getD f 0 ≠ -1) :
    Calls Tryz.prog 132 #[.agg #[.int .i64 t.wide, .slice (some ⟨b, o, none⟩) t.plots.length cap, .int .i64 wind, .int .i64 voice, .map (some r), .func f1 f2 f3], .slice (some ⟨tb, 0, none⟩) T.length T.length, .int .i64 f] w fun e w' =>
      e = .returned (.bool (t.lower wind T f).2) ∧ TabAt w' tb (t.lower wind T f).1 ∧ Hold (fun k => k ≠ tb) w w' := by
  have htl := hT.lt
  have hbl := hI.1
  have hrl : r < w.heap.size := (Array.getElem?_eq_some_iff.1 hD).1
  have hrt : r ≠ tb := fun e => by subst e; unfold DirMap at hD; unfold TabAt at hT; rw [hD] at hT; cases hT
  obtain ⟨n, hn9⟩ : ∃ n : Nat, 9 ≤ n := ⟨9, Nat.le_refl _⟩
  refine (callsIn_wide (n := n)).1 ?_
  refine callsIn_of_wp_marks Tryz.func132 rfl trivial ?_ rfl
  simp only [Tryz.ntmps132, List.size_toArray, List.length_cons, List.length_nil, Nat.reduceAdd, Nat.reduceSub, Array.replicate_succ, Array.replicate_zero, List.push_toArray, List.append_toArray, List.nil_append, List.cons_append]
  gi_wp2_with fail
  refine ⟨trivial, (fun h => by cases h), ?_⟩
  refine (callsIn_wide.2 (steps_eq _ _ _ _ _ _ _ _)).mono ?_
  rintro e W4 ⟨rfl, hW4⟩
  have hB4 : Below w.heap.size w W4 := by rw [← hW4]; exact ((((((below1 _ _).alloc (by simp) _).alloc (by simp; omega) _).alloc (by simp; omega) _).alloc (by simp; omega) _).alloc (by simp; omega) _)
  have hs4 : W4.heap.size = w.heap.size + 6 := by rw [← hW4]; simp
  have k4 : W4.cell? ⟨w.heap.size + 1, 0, none⟩ = some (.slice (some ⟨tb, 0, none⟩) T.length T.length) := by rw [← hW4]; clear hW4; go_simp
  have k5 : W4.cell? ⟨w.heap.size + 1 + 1, 0, none⟩ = some (.int .i64 f) := by rw [← hW4]; clear hW4; go_simp
  have k7 : W4.heap[w.heap.size + 1 + 1 + 1]? = some (.cells #[.bool false] 4) := by
    rw [← hW4]
    rw [Below.heap_alloc _ _ _ (by simp), Below.heap_alloc _ _ _ (by simp)]
    have := World.alloc_heap_new (((w.alloc (.cells #[.int .i64 t.wide, .slice (some ⟨b, o, none⟩) t.plots.length cap, .int .i64 wind, .int .i64 voice, .map (some r), .func f1 f2 f3] 117)).alloc (.cells #[.slice (some ⟨tb, 0, none⟩) T.length T.length] 22)).alloc (.cells #[.int .i64 f] 3)) (.cells #[.bool false] 4)
    simp only [World.size_alloc] at this
    exact this
  have hwk : WkBox W4 t.wide wind voice b o cap r (.func f1 f2 f3) t.plots (w.heap.size + 1 + 1 + 1 + 1) := by
    refine ⟨?_, ?_, ?_, ?_, ?_, ?_, hI.below hB4 hbl, (hB4.block r hrl).trans hD⟩ <;> (rw [← hW4]; clear hW4; go_simp)
  have kB : W4.cell? ⟨w.heap.size + 1 + 1 + 1 + 1 + 1, 0, none⟩ = some (.int .i64 f) := by rw [← hW4]; clear hW4; go_simp
  have hT4 : TabAt W4 tb T := hT.below hB4 htl
  clear hW4
  gi_wp2
  refine range_low (gf := 151) (lb := #[.pointer (some ⟨w.heap.size + 1 + 1 + 1 + 1, 0, none⟩), .pointer (some ⟨w.heap.size + 1 + 1 + 1 + 1 + 1, 0, none⟩)]) rfl (enters_of Tryz.func151 (by kernel_rfl) rfl)
    (steps_stops (n - 1) (fun k => k ≠ tb ∧ k ≠ w.heap.size + 1 + 1 + 1) t hok wind voice hw0 hw4 b o cap r f1 f2 f3 f _ _ hf W4 ⟨⟨by omega, by omega⟩, ⟨by omega, by omega⟩, ⟨hbt, by omega⟩, ⟨hrt, by omega⟩⟩ hwk kB) (Below.refl _ _) (fun _ => rfl)
    (fun pre W' => lowInv w tb f W4.heap.size T (pre.map (·.1)) W')
    (fun _ _ _ => False) ?lowI (fun _ _ _ _ h _ => h) ⟨hT4, k7, k4, k5, .of_below hB4 (fun _ h _ => h.2), Nat.le_refl _⟩ ?round ?done (fun _ _ _ _ _ h _ => h.elim)
  case lowI =>
    rintro s' X Y ⟨i1, i2, i3, i4, i5, i6⟩ hb
    exact ⟨i1.below hb (by omega), (hb.block _ (by omega)).trans i2, (hb.cell (p := ⟨w.heap.size + 1, 0, none⟩) (show w.heap.size + 1 < W4.heap.size by omega)).trans i3, (hb.cell (p := ⟨w.heap.size + 1 + 1, 0, none⟩) (show w.heap.size + 1 + 1 < W4.heap.size by omega)).trans i4,
      i5.trans (.of_below hb (fun k h _ => by omega)), Nat.le_trans i6 hb.size⟩
  case round =>
    rintro l' pre ⟨⟨q, n'⟩, hx⟩ W5 hl1 hl2 ⟨i1, i2, i3, i4, i5, i6⟩
    have hmem : ∀ x ∈ pre.map (·.1), x ∈ t.steps wind f := fun x hxm => by
      obtain ⟨y, _, rfl⟩ := List.mem_map.1 hxm
      exact y.2
    obtain ⟨hinv', hfv⟩ := lowFold_inv hok hinv hf hn _ hmem
    have hnew : lowFold f T ((pre ++ [(⟨(q, n'), hx⟩ : StEl t wind f)]).map (·.1)) = Hr.lower1 f (lowFold f T (pre.map (·.1))) (q, n') := by unfold lowFold; rw [List.map_append, List.foldl_append]; rfl
    have hnb := Hr.steps_pos hx
    have hql := Hr.steps_lt hok hx
    have hl' := hinv'.len
    have hl0 := hinv.len
    have hfb : 0 ≤ T.getD f 0 ∧ T.getD f 0 ≤ 145 := by
      have h1 := hinv.nn f hf
      have h2 := hinv.mu_bd f hf
      have := hok.n30
      omega
    have hob : (lowFold f T (pre.map (·.1))).1.getD q 0 = -1 ∨ 0 ≤ (lowFold f T (pre.map (·.1))).1.getD q 0 ∧ (lowFold f T (pre.map (·.1))).1.getD q 0 ≤ 145 := by
      have h1 := hinv'.nn q hql
      have h2 := hinv'.mu_bd q hql
      have := hok.n30
      omega
    generalize hR : lowFold f T (pre.map (·.1)) = R at i1 i2 hinv' hfv hnew hl' hob
    obtain ⟨T', lb⟩ := R
    dsimp only at i1 i2 hinv' hfv hl' hob
    have HR := Lib.hid hR
    clear hR
    generalize hfvd : T.getD f 0 = fv at hfv hfb
    generalize hold' : T'.getD q 0 = old at hob
    have hlow : Hr.lower1 f (T', lb) (q, n') = if old = -1 ∨ fv + n' < old then (T'.set q (fv + n'), true) else (T', lb) := by
      unfold Hr.lower1
      simp only
      rw [hfv, hold']
      by_cases h1 : old = -1 ∨ fv + n' < old
      · rw [if_pos h1, if_neg (show ¬ (old ≠ -1 ∧ old < fv + n') by omega), if_pos (by omega)]
      · rw [if_neg h1]
        by_cases h2 : old ≠ -1 ∧ old < fv + n'
        · rw [if_pos h2, if_neg (by simp)]
        · rw [if_neg h2, if_neg (by omega)]
    rw [hlow] at hnew
    have HNEW := Lib.hid hnew
    have HINV := Lib.hid hinv'
    clear hnew hlow hinv' hmem hinv
    gi_wp2
    refine ⟨Below.refl _ _, ?_⟩
    rintro Wb hg hsz ⟨j1, j2, j3, j4, j5, j6⟩
    rw [HR.out] at j1 j2
    dsimp only at j1 j2
    have hLs : w.heap.size + 1 + 1 + 1 < Wb.heap.size := by omega
    have hft : f < T'.length := by omega
    have hqt : q < T'.length := by omega
    have cf := j1.cell hft
    have cq := j1.cell hqt
    rw [hfv] at cf
    rw [hold'] at cq
    have fq := j1.free q
    have c7 : Wb.cell? ⟨w.heap.size + 1 + 1 + 1, 0, none⟩ = some (.bool lb) := by simp [World.cell?, j2]
    have f7 : Wb.frozen? ⟨w.heap.size + 1 + 1 + 1, 0, none⟩ = false := by simp [World.frozen?, j2]
    have htb : tb < Wb.heap.size := j1.lt
    have hft' : (f : Int) < T.length := by omega
    have hqt' : (q : Int) < T.length := by omega
    have a1 : ∀ o' x k, x < Wb.heap.size → (Wb.alloc o').cell? ⟨x, k, none⟩ = Wb.cell? ⟨x, k, none⟩ := fun o' x k h => (below1 Wb o').cell (p := ⟨x, k, none⟩) h
    have a2 : ∀ o', (Wb.alloc o').cell? ⟨tb, q, none⟩ = some (.int .i64 old) := fun o' => (a1 o' tb q htb).trans cq
    have a3 : ∀ o', (Wb.alloc o').frozen? ⟨tb, q, none⟩ = false := fun o' => ((below1 Wb o').frozen (p := ⟨tb, q, none⟩) htb).trans fq
    have a4 : ∀ o', (Wb.alloc o').cell? ⟨w.heap.size + 1, 0, none⟩ = some (.slice (some ⟨tb, 0, none⟩) T.length T.length) := fun o' => (a1 o' _ 0 (by omega)).trans j3
    have a7 : ∀ o', (Wb.alloc o').cell? ⟨w.heap.size + 1 + 1 + 1, 0, none⟩ = some (.bool lb) := fun o' => (a1 o' _ 0 (by omega)).trans c7
    have a8 : ∀ o', (Wb.alloc o').frozen? ⟨w.heap.size + 1 + 1 + 1, 0, none⟩ = false := fun o' => ((below1 Wb o').frozen (p := ⟨w.heap.size + 1 + 1 + 1, 0, none⟩) hLs).trans f7
    -- how the round ends
    have keep : ∀ W6, Below Wb.heap.size Wb W6 → ¬ (old = -1 ∨ fv + n' < old) → ∀ a6, roundPostLow (fun k => ((k ≠ tb ∧ k ≠ w.heap.size + 1 + 1 + 1) ∧ k < W4.heap.size) ∨ (W4.heap.size ≤ k ∧ k < W5.heap.size))
        (fun pre W' => lowInv w tb f W4.heap.size T (pre.map (·.1)) W')
        (fun _ _ _ => False) (pre ++ [(⟨(q, n'), hx⟩ : StEl t wind f)]) Wb .normal a6 W6 := fun W6 hB6 hno a6 => by
      refine ⟨.of_below hB6 (fun _ _ h => h), ?_⟩
      show lowInv _ _ _ _ _ _ _
      unfold lowInv
      rw [HNEW.out, if_neg hno]
      exact ⟨j1.below hB6 htb, (hB6.block _ hLs).trans j2, (hB6.cell (p := ⟨w.heap.size + 1, 0, none⟩) (show w.heap.size + 1 < Wb.heap.size by omega)).trans j3, (hB6.cell (p := ⟨w.heap.size + 1 + 1, 0, none⟩) (show w.heap.size + 1 + 1 < Wb.heap.size by omega)).trans j4,
        j5.trans (.of_below hB6 (fun k h hl => by omega)), Nat.le_trans j6 hB6.size⟩
    have stored : ∀ W6, Below Wb.heap.size Wb W6 → (old = -1 ∨ fv + n' < old) → ∀ a6, roundPostLow (fun k => ((k ≠ tb ∧ k ≠ w.heap.size + 1 + 1 + 1) ∧ k < W4.heap.size) ∨ (W4.heap.size ≤ k ∧ k < W5.heap.size))
        (fun pre W' => lowInv w tb f W4.heap.size T (pre.map (·.1)) W')
        (fun _ _ _ => False) (pre ++ [(⟨(q, n'), hx⟩ : StEl t wind f)]) Wb .normal a6 ((W6.setCell ⟨tb, q, none⟩ (.int .i64 (fv + n'))).setCell ⟨w.heap.size + 1 + 1 + 1, 0, none⟩ (.bool true)) := fun W6 hB6 hyes a6 => by
      have h6 : Hold (fun k => k ≠ tb ∧ k ≠ w.heap.size + 1 + 1 + 1 ∧ k < Wb.heap.size) Wb ((W6.setCell ⟨tb, q, none⟩ (.int .i64 (fv + n'))).setCell ⟨w.heap.size + 1 + 1 + 1, 0, none⟩ (.bool true)) :=
        (Hold.of_below hB6 (fun _ h _ => h.2.2)).trans ((Hold.setCell _ _ _ (fun h => h.1 rfl)).trans (Hold.setCell _ _ _ (fun h => h.2.1 rfl)))
      refine ⟨h6.mono (fun k hk hl => by rcases hk with h | h <;> omega), ?_⟩
      show lowInv _ _ _ _ _ _ _
      unfold lowInv
      rw [HNEW.out, if_pos hyes]
      refine ⟨?_, ?_, (h6.cell (p := ⟨w.heap.size + 1, 0, none⟩) (by refine ⟨?_, ?_, ?_⟩ <;> (show _; simp only; omega)) (show w.heap.size + 1 < Wb.heap.size by omega)).trans j3, (h6.cell (p := ⟨w.heap.size + 1 + 1, 0, none⟩) (by refine ⟨?_, ?_, ?_⟩ <;> (show _; simp only; omega)) (show w.heap.size + 1 + 1 < Wb.heap.size by omega)).trans j4,
        j5.trans (h6.mono (fun k h hl => by omega)), Nat.le_trans j6 h6.size⟩
      · exact ((j1.below hB6 htb).set hqt (fv + n')).hold (Hold.setCell (Kp := fun k => k = tb) _ _ _ (by show ¬ (w.heap.size + 1 + 1 + 1 = tb); omega)) rfl
      · have h7 : (W6.setCell ⟨tb, q, none⟩ (.int .i64 (fv + n'))).heap[w.heap.size + 1 + 1 + 1]? = some (.cells #[.bool lb] 4) := (Below.heap_setCell _ _ _ _ (show w.heap.size + 1 + 1 + 1 ≠ tb by omega)).trans ((hB6.block _ hLs).trans j2)
        exact one_setCell h7
    have KEEP := Lib.hid keep
    have STORED := Lib.hid stored
    clear keep stored a1 hg i1 i2 i3 i4 i5 i6 hfv hold' hfvd hT hI hD hT4 hwk
    have HS4 := Lib.hid hs4
    have HL0 := Lib.hid hl0
    have HL' := Lib.hid hl'
    have hTp : 0 ≤ fv + n' := by omega
    have hTq : fv + n' ≤ 200 := by omega
    have HLS := Lib.hid hLs
    clear hs4 hl0 hl' hsz
    by_cases hA : old = -1
    · subst hA
      have e1 : (fv + n' != -1) = true := by simp; omega
      gi_wp2
      exact STORED.out Wb (Below.refl _ _) (.inl (by simp)) _
    · have e1 : (old != -1) = true := by simpa using hA
      have hob' : 0 ≤ old ∧ old ≤ 145 := by omega
      have hl2 := fun o' => CallsIn.inRound (n := n - 1 - 1 - 1) l' (callsIn_wide.2 (least2_eq (fv + n') old Wb.heap.size 1 (Wb.alloc (.cells #[.int .i64 old] o')) (by rw [World.cell?_alloc_at _ _ _ _ rfl]; rfl)))
      have HA := Lib.hid hA
      clear hA hob
      by_cases hlt : fv + n' < old
      · have hl3 : (if old < fv + n' then old else fv + n') = fv + n' := if_neg (by omega)
        have e2 : (fv + n' != old) = true := by simp; omega
        rw [hl3] at hl2
        have HL2 := Lib.hid hl2
        have HLT := Lib.hid hlt
        clear hl2 hl3 hlt
        gi_wp2
        refine ⟨trivial, (fun h => by cases h), ?_⟩
        refine (HL2.out 3).mono ?_
        rintro e w6 ⟨rfl, rfl⟩
        gi_wp2
        obtain ⟨h1, h2⟩ := STORED.out Wb (Below.refl _ _) (.inr HLT.out) { tmps := #[], defers := [] }
        exact ⟨h1.trans (Hold.alloc _ _), lowInv_alloc h2 (by simpa using HLS.out) _⟩
      · have hl3 : (if old < fv + n' then old else fv + n') = old := by split <;> omega
        have e2 : (old != old) = false := by simp
        rw [hl3] at hl2
        have HL2 := Lib.hid hl2
        have HLT := Lib.hid hlt
        clear hl2 hl3 hlt
        gi_wp2
        refine ⟨trivial, (fun h => by cases h), ?_⟩
        refine (HL2.out 3).mono ?_
        rintro e w6 ⟨rfl, rfl⟩
        gi_wp2
        exact KEEP.out (Wb.alloc (.cells #[.int .i64 old] 3)) (below1 _ _) (fun h => h.elim HA.out (by have := HLT.out; omega)) _
  case done =>
    rintro D ys W' hD hys ⟨i1, i2, i3, i4, i5, i6⟩ hK
    have hc7 : W'.cell? ⟨w.heap.size + 1 + 1 + 1, 0, none⟩ = some (.bool (lowFold f T (ys.map (·.1))).2) := by simp [World.cell?, i2]
    have hDt : W4.heap.size ≤ D := hD
    have hDl := (Array.getElem?_eq_some_iff.1 hK).1
    have HYS := Lib.hid hys
    have HI := Lib.hid (And.intro i1 i5)
    clear i1 i2 i3 i4 i5 hys
    gi_wp2
    refine ⟨by simp, .inl ⟨_, _, rfl, run_takeDeferred hK, ?_⟩⟩
    have hL : lowFold f T (ys.map (·.1)) = t.lower wind T f := congrArg (lowFold f T) HYS.out
    rw [hL] at HI
    refine ⟨_, results_tmp rfl _ _ _, ?_, ?_, ?_⟩
    · rw [← hL]; rfl
    · exact HI.out.1.below (putObj_below (B := W4.heap.size) _ _ _ hD hDl) (by omega)
    · exact ⟨HI.out.2.os, HI.out.2.tape, HI.out.2.output, Nat.le_trans HI.out.2.size (by simp), fun k hk hl => (World.putObj_heap_other (by omega)).trans (HI.out.2.same k ⟨hk, hl⟩ hl)⟩
end Go.Proofs.YtimedmkpenbmkaaGreat
