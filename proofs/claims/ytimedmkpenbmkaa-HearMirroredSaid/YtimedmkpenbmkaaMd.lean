import Derived.Test.YtimedmkpenbmkaaBm
import Derived.Test.YtimedmkpenbmkaaE5
import Derived.Test.YtimedmkpenbmkaaT9
namespace Go.Proofs.Ytimedmkpenbmkaa
open Go.RowKit Go.Shelf
set_option linter.unusedSimpArgs false
set_option linter.unusedVariables false

/-- the world in which a town is made -/
structure MdW (w : World) (bl : Nat) (ma : Option Addr) (n mc : Nat) (R : Nat) (wd : Int) (xs : List Int) (v : Value) (W : World) : Prop where
  res : W.heap[w.heap.size]? = some (.cells #[.int .i64 0, .slice none 0 0] 24 (0, 0))
  box : W.heap[R]? = some (.cells #[.int .i64 wd, v] 24 (0, 0))
  own : W.ownsRow (R + 1) 102 1 v xs.length (xs.map (Value.int .i64))
  bell : BellOk W bl ma n mc
  hold : Hold (fun k => k ≠ bl) w W
  lt : w.heap.size < R
  blt : bl < w.heap.size
  mlt : n ≠ 0 → ∀ mb mo, ma = some ⟨mb, mo, none⟩ → mb < w.heap.size
theorem MdW.size {w : World} {bl : Nat} {ma : Option Addr} {n mc R : Nat} {wd : Int} {xs : List Int} {v : Value} {W : World} (h : MdW w bl ma n mc R wd xs v W) : R + 1 ≤ W.heap.size := (Array.getElem?_eq_some_iff.1 h.box).1
theorem MdW.below {w : World} {bl : Nat} {ma : Option Addr} {n mc R : Nat} {wd : Int} {xs : List Int} {v : Value} {W W' : World} (h : MdW w bl ma n mc R wd xs v W) (hB : Below W.heap.size W W') : MdW w bl ma n mc R wd xs v W' :=
  ⟨(hB.block _ (Array.getElem?_eq_some_iff.1 h.res).1).trans h.res, (hB.block _ (Array.getElem?_eq_some_iff.1 h.box).1).trans h.box, own_below h.own hB, h.bell.below hB, h.hold.low hB h.hold.size, h.lt, h.blt, h.mlt⟩
theorem MdW.ring {w : World} {bl : Nat} {ma : Option Addr} {n mc R : Nat} {wd : Int} {xs : List Int} {v : Value} {W W' : World} (h : MdW w bl ma n mc R wd xs v W) (hb : BellOk W' bl ma n mc) (hh : Hold (fun k => k ≠ bl) W W') : MdW w bl ma n mc R wd xs v W' := by
  have hblt := h.blt
  have hlt := h.lt
  refine ⟨(hh.same _ (by omega) (Array.getElem?_eq_some_iff.1 h.res).1).trans h.res, (hh.same _ (by omega) (Array.getElem?_eq_some_iff.1 h.box).1).trans h.box, ?_, hb, h.hold.trans hh, h.lt, h.blt, h.mlt⟩
  refine h.own.kept (row := some bl) ⟨hh.os, hh.tape, hh.output, hh.size, fun k hk hne => hh.same k (fun e => hne (by rw [e])) hk⟩ ?_
  rcases h.own.2 with ⟨h1, _⟩ | ⟨g, cap, cur, h1, hb', _⟩
  · exact .inl (by rw [h1]; rfl)
  · right; rw [h1]; show some g ≠ some bl; intro e; injection e; omega
theorem MdW.app {w : World} {bl : Nat} {ma : Option Addr} {n mc R : Nat} {wd : Int} {xs : List Int} {v v' : Value} {W W' : World} {x : Int} (h : MdW w bl ma n mc R wd xs v W) (hg : W.grownBy W' v.ownBlock)
    (ho : W'.ownsRow (R + 1) 102 1 v' (xs.length + 1) (xs.map (Value.int .i64) ++ [.int .i64 x])) :
    MdW w bl ma n mc R wd (xs ++ [x]) v' (W'.setCell ⟨R, 1, none⟩ v') ∧ W'.cell? ⟨R, 1, none⟩ = some v ∧ W'.frozen? ⟨R, 1, none⟩ = false := by
  have hz := h.size
  have hle := h.lt
  have hblt := h.blt
  have hne : ∀ k, k < R + 1 → some k ≠ v.ownBlock := fun k hk e => by
    have := h.own.lt k e.symm; omega
  have hr := (hg.block _ (by omega) (fun e => hne _ (by omega) e)).trans h.res
  have hb := (hg.block R (by omega) (fun e => hne _ (by omega) e)).trans h.box
  have hB : Hold (fun k => k < R + 1) W W' := ⟨hg.os, hg.tape, hg.output, hg.size, fun k hk hl => hg.block k hl (fun e => hne k hk e)⟩
  have hS : Hold (fun k => k ≠ R) W' (W'.setCell ⟨R, 1, none⟩ v') := Hold.set _ _ _ _
  refine ⟨⟨(Below.heap_setCell _ _ _ _ (show w.heap.size ≠ R by omega)).trans hr, heap_set_same _ hb, ?_, ?_, ?_, h.lt, h.blt, h.mlt⟩, ?_, ?_⟩
  · have : (xs ++ [x]).length = xs.length + 1 := by simp
    rw [this, List.map_append]
    refine ho.kept (grown_set W' R 1 v') ?_
    rcases ho.2 with ⟨h1, _⟩ | ⟨g, cap, cur, rfl, hb', _⟩
    · exact .inl (by rw [h1]; rfl)
    · right; show some g ≠ some R; intro e; injection e; omega
  · exact (h.bell.hold hB (by omega) (fun hn mb mo e => by have := h.mlt hn mb mo e; omega)).hold hS (by omega) (fun hn mb mo e => by have := h.mlt hn mb mo e; omega)
  · exact h.hold.low (((Hold.to_below (B := w.heap.size) (hB.mono (Kq := fun k => k < w.heap.size) (fun k (hk : k < w.heap.size) _ => show k < R + 1 by omega)) h.hold.size)).trans ((Below.refl w.heap.size W').setCell (p := ⟨R, 1, none⟩) (by show w.heap.size ≤ R; omega) v')) (Nat.le_refl _)
  · rw [cell_of_row _ _ _ _ _ _ hb]; rfl
  · exact frozen_of_row _ _ _ _ _ hb
theorem MdW.load {w : World} {bl : Nat} {ma : Option Addr} {n mc R : Nat} {wd : Int} {xs : List Int} {v : Value} {W : World} (h : MdW w bl ma n mc R wd xs v W) :
    W.cell? ⟨R, 0, none⟩ = some (.int .i64 wd) ∧ W.cell? ⟨R, 1, none⟩ = some v ∧ W.frozen? ⟨R, 0, none⟩ = false ∧ W.frozen? ⟨R, 1, none⟩ = false ∧
    W.cell? ⟨w.heap.size, 0, none⟩ = some (.int .i64 0) ∧ W.cell? ⟨w.heap.size, 1, none⟩ = some (.slice none 0 0) ∧ W.frozen? ⟨w.heap.size, 0, none⟩ = false ∧ W.frozen? ⟨w.heap.size, 1, none⟩ = false := by
  obtain ⟨a1, a2⟩ := blk_cells2 h.box
  obtain ⟨b1, b2⟩ := blk_cells2 h.res
  exact ⟨a1, a2, frozen_of_row _ _ _ _ _ h.box, frozen_of_row _ _ _ _ _ h.box, b1, b2, frozen_of_row _ _ _ _ _ h.res, frozen_of_row _ _ _ _ _ h.res⟩

/-- the row of which a plot is drawn -/
theorem six_at (w : World) (x : Int) (h0 : 0 ≤ x) (h5 : x ≤ 5) : ∃ p : Int, (p = 0 ∨ p = 1 ∨ p = 2) ∧ (w.alloc (.cells #[.int .i64 0, .int .i64 0, .int .i64 0, .int .i64 1, .int .i64 1, .int .i64 2] 3)).cell? ⟨w.heap.size, x.toNat, none⟩ = some (.int .i64 p) := by
  have h := heap_alloc_last w (.cells #[.int .i64 0, .int .i64 0, .int .i64 0, .int .i64 1, .int .i64 1, .int .i64 2] 3)
  have hx : x = 0 ∨ x = 1 ∨ x = 2 ∨ x = 3 ∨ x = 4 ∨ x = 5 := by omega
  rcases hx with rfl | rfl | rfl | rfl | rfl | rfl
  · exact ⟨0, by omega, by rw [cell_of_row _ _ _ _ _ _ h]; rfl⟩
  · exact ⟨0, by omega, by rw [cell_of_row _ _ _ _ _ _ h]; rfl⟩
  · exact ⟨0, by omega, by rw [cell_of_row _ _ _ _ _ _ h]; rfl⟩
  · exact ⟨1, by omega, by rw [cell_of_row _ _ _ _ _ _ h]; rfl⟩
  · exact ⟨1, by omega, by rw [cell_of_row _ _ _ _ _ _ h]; rfl⟩
  · exact ⟨2, by omega, by rw [cell_of_row _ _ _ _ _ _ h]; rfl⟩

theorem cnt1_snoc (xs : List Int) (p : Int) : cnt1 (xs ++ [p]) = cnt1 xs + if p = 1 then 1 else 0 := by
  unfold cnt1; rw [List.countP_append]; congr 1; by_cases h : p = 1 <;> simp [h]
theorem cnt1_set0 : ∀ (xs : List Int) (i : Nat), cnt1 (xs.set i 0) ≤ cnt1 xs
  | [], _ => Nat.le_refl _
  | y :: ys, 0 => by unfold cnt1; simp [List.countP_cons]
  | y :: ys, i + 1 => by
    have := cnt1_set0 ys i
    unfold cnt1 at *
    simp only [List.set_cons_succ, List.countP_cons]
    omega
theorem MdW.put {w : World} {bl : Nat} {ma : Option Addr} {n mc R : Nat} {wd : Int} {xs : List Int} {g cp : Nat} {W : World} (h : MdW w bl ma n mc R wd xs (.slice (some ⟨g, 0, none⟩) xs.length cp) W) (hg : R + 1 ≤ g) {i : Nat} (hi : i < xs.length) (y : Int) :
    MdW w bl ma n mc R wd (xs.set i y) (.slice (some ⟨g, 0, none⟩) xs.length cp) (W.setCell ⟨g, i, none⟩ (.int .i64 y)) := by
  have hlt := h.lt
  have hblt := h.blt
  have hS : Hold (fun k => k ≠ g) W (W.setCell ⟨g, i, none⟩ (.int .i64 y)) := Hold.set _ _ _ _
  refine ⟨(Below.heap_setCell _ _ _ _ (show w.heap.size ≠ g by omega)).trans h.res, (Below.heap_setCell _ _ _ _ (show R ≠ g by omega)).trans h.box, ?_, h.bell.hold hS (by omega) (fun hn mb mo e => by have := h.mlt hn mb mo e; omega), ?_, h.lt, h.blt, h.mlt⟩
  · have := own_setCell_at h.own (i := i) (by simpa using hi) (.int .i64 y)
    rw [List.length_set, List.map_set]
    exact this
  · exact h.hold.low ((Below.refl w.heap.size W).setCell (p := ⟨g, i, none⟩) (by show w.heap.size ≤ g; omega) _) (Nat.le_refl _)
theorem MdW.made {w : World} {bl : Nat} {ma : Option Addr} {n mc R : Nat} {wd : Int} {xs : List Int} {v : Value} {W : World} (h : MdW w bl ma n mc R wd xs v W) (a b : Value) :
    ((W.setCell ⟨w.heap.size, 0, none⟩ a).setCell ⟨w.heap.size, 1, none⟩ b).ownsRow w.heap.size 102 1 v xs.length (xs.map (Value.int .i64)) ∧ BellOk ((W.setCell ⟨w.heap.size, 0, none⟩ a).setCell ⟨w.heap.size, 1, none⟩ b) bl ma n mc ∧ Hold (fun k => k ≠ bl) w ((W.setCell ⟨w.heap.size, 0, none⟩ a).setCell ⟨w.heap.size, 1, none⟩ b) := by
  have hlt := h.lt
  have hblt := h.blt
  have hS : Hold (fun k => k ≠ w.heap.size) W ((W.setCell ⟨w.heap.size, 0, none⟩ a).setCell ⟨w.heap.size, 1, none⟩ b) := (Hold.set _ _ _ _).trans (Hold.set _ _ _ _)
  have hk : ∀ (W : World) (o : Nat) (u : Value), W.ownsRow (R + 1) 102 1 v xs.length (xs.map (Value.int .i64)) → (W.setCell ⟨w.heap.size, o, none⟩ u).ownsRow (R + 1) 102 1 v xs.length (xs.map (Value.int .i64)) := by
    intro W o u h
    refine h.kept (grown_set W w.heap.size o u) ?_
    rcases h.2 with ⟨h1, _⟩ | ⟨g, cap, cur, h1, hb', _⟩
    · exact .inl (by rw [h1]; rfl)
    · right; rw [h1]; show some g ≠ some w.heap.size; intro e; injection e; omega
  refine ⟨own_base (base := R + 1) (hk _ _ _ (hk _ _ _ h.own)) (by omega), h.bell.hold hS (by omega) (fun hn mb mo e => by have := h.mlt hn mb mo e; omega), ?_⟩
  exact h.hold.low (((Below.refl w.heap.size W).setCell (p := ⟨w.heap.size, 0, none⟩) (Nat.le_refl _) _).setCell (p := ⟨w.heap.size, 1, none⟩) (Nat.le_refl _) _) (Nat.le_refl _)
theorem made_check {x : Int} {xs : List Int} {k i : Nat} {y : Int} (x1 : 1 ≤ x) (x6 : x ≤ 6) (hl : xs.length = k) (h1 : 1 ≤ k) (h24 : k ≤ 24) (hyx : y * x = k) (hc : cnt1 xs ≤ 10) (hk : ∀ z ∈ xs, z = 0 ∨ z = 1 ∨ z = 2) : checkErr x (xs.set i 0) = 0 := by
  have hm : (((xs.set i 0).length : Nat) : Int) % x = 0 := by
    rw [List.length_set, hl, ← hyx]; exact Int.mul_emod_left _ _
  have hb : (xs.set i 0).any badPlot = false := by
    rw [List.any_eq_false]
    intro z hz
    rcases List.mem_or_eq_of_mem_set hz with h | h
    · have := hk z h; simp [badPlot]; omega
    · subst h; simp [badPlot]
  have hc2 := cnt1_set0 xs i
  have hll : (xs.set i 0).length = k := by rw [List.length_set, hl]
  unfold checkErr
  rw [if_neg (by omega), hb]
  simp only [Bool.false_eq_true, if_false]
  rw [if_neg (by omega)]
/-- what Made leaves -/
def MadePost (w : World) (bl : Nat) (ma : Option Addr) (n mc : Nat) (most : Nat) (e : Ending) (w' : World) : Prop :=
  ∃ (t : Hr.Town) (v : Value) (p : Nat), e = .returned (.agg #[.int .i64 t.wide, v]) ∧ w'.ownsRow w.heap.size 102 1 v t.plots.length (t.plots.map (Value.int .i64)) ∧ checkErr t.wide t.plots = 0 ∧ t.len ≤ most ∧ p < t.len ∧ t.at p = 0 ∧ BellOk w' bl ma n mc ∧ Hold (fun k => k ≠ bl) w w'

set_option maxHeartbeats 1000000 in
set_option maxRecDepth 100000 in
theorem made_any (bl : Nat) (ma : Option Addr) (n mc : Nat) (most : Nat) (h6 : 6 ≤ most) (h24 : most ≤ 24) (w : World) (hb : BellOk w bl ma n mc) (hma : n ≠ 0 → ∀ mb mo, ma = some ⟨mb, mo, none⟩ → mb < w.heap.size) :
    Calls Try.prog 58 #[.pointer (some ⟨bl, 0, none⟩), .int .i64 most] w (MadePost w bl ma n mc most) := by
  obtain ⟨i0, hi, hz0, hz1, hz2⟩ := info_parts A_info_plot
  have HB := Lib.hid (hb.below (below1 w (.cells #[.int .i64 0, .slice none 0 0] 24)))
  have hl := hb.lt
  have HMA := Lib.hid hma
  have hm24 : (most : Int) ≤ 24 := by omega
  have hm6 : (6 : Int) ≤ most := by omega
  clear hb hma
  go_enter Try.func58, Try.ntmps58
  go_wp2_with fail
  refine (strike_any bl ma n mc 1 6 5 (by omega) (by omega) (by omega) (by omega) _ HB.out).mono ?_
  rintro e w1 ⟨x, x1, x6, rfl, hB, hH⟩
  have HB1 := Lib.hid hB
  have HH1 := Lib.hid hH
  have hz := hH.size
  rw [World.size_alloc] at hz
  have hx0 : (x == 0) = false := by simp; omega
  have hd0 : 0 ≤ (most : Int) / x := Int.ediv_nonneg (by omega) (by omega)
  have hd1 : (most : Int) / x ≤ 24 := by have := Int.ediv_le_self (a := (most : Int)) x (by omega); omega
  have hdm : (most : Int) / x * x ≤ most := Int.ediv_mul_le _ (by omega)
  obtain ⟨q, hq⟩ : ∃ q, q = (most : Int) / x := ⟨_, rfl⟩
  have hq0 : 0 ≤ q := by rw [hq]; exact hd0
  have hq1 : q ≤ 24 := by rw [hq]; exact hd1
  have hqm : q * x ≤ most := by rw [hq]; exact hdm
  clear hdm
  have HQ := Lib.hid hq
  have hW2 : MdW w bl ma n mc w1.heap.size x [] (.slice none 0 0) (w1.alloc (.cells #[.int .i64 x, .slice none 0 0] 24)) := by
    refine ⟨(Below.heap_alloc _ _ _ (by omega)).trans ((hH.same _ (show w.heap.size ≠ bl by omega) (by simp)).trans (heap_alloc_last _ _)), heap_alloc_last _ _, own_none _ _ _ _, hB.below (below1 _ _), ?_, by omega, hl, HMA.out⟩
    exact ((Hold.alloc w _).trans hH).trans (Hold.alloc w1 _)
  have HW2 := Lib.hid hW2
  clear hB hH hq hW2 HB HB1 HH1
  go_wp2_with fail
  rw [← HQ.out]
  clear hd0 hd1
  refine (strike_any bl ma n mc 1 (max 1 q) (max 1 q - 1).toNat (by omega) (by omega) (by omega) (by omega) _ HW2.out.bell).mono ?_
  rintro e w3 ⟨y, y1, y2, rfl, hB, hH⟩
  have hW3 := HW2.out.ring hB hH
  have HW3 := Lib.hid hW3
  have hyx0 : 1 ≤ y * x := by have := Int.mul_le_mul (show 1 ≤ y by omega) (show 1 ≤ x by omega) (by omega) (by omega); omega
  have hyx1 : y * x ≤ most := by
    by_cases h1 : y ≤ q
    · have := Int.mul_le_mul_of_nonneg_right h1 (show 0 ≤ x by omega); omega
    · have : y = 1 := by omega
      subst this; omega
  obtain ⟨N, hN⟩ : ∃ N : Nat, y * x = N := ⟨(y * x).toNat, by omega⟩
  have HN := Lib.hid hN
  obtain ⟨k1, k2, k3, k4, k5, k6, k7, k8⟩ := hW3.load
  have hN24 : N ≤ 24 := by omega
  have hN1 : 1 ≤ N := by omega
  have hyx2 : y * x ≤ 24 := by omega
  clear hB hH hW3 HW2 hN
  go_wp2_with fail
  rw [HN.out]
  have HYX := Lib.hid hyx1
  clear k1 k2 k3 k4 k5 k6 k7 k8 hyx0 hyx1 hyx2
  go_loopw [7, 8, 23] (fun lf pv i wr => ∃ (k a : Nat) (xs : List Int) (v : Value), k ≤ N ∧ i = .int .i64 k ∧ lf = .int .i64 (10 - a) ∧ a ≤ k ∧ xs.length = k ∧ (cnt1 xs = if a ≤ 10 then a else 10) ∧ (∀ z ∈ xs, z = 0 ∨ z = 1 ∨ z = 2) ∧ MdW w bl ma n mc w1.heap.size x xs v wr) (fun _ _ i _ => N - (intOf i).toNat)
  case atStart => exact ⟨0, 0, [], _, Nat.zero_le _, rfl, rfl, Nat.le_refl _, rfl, rfl, (fun z hz => by cases hz), HW3.out⟩
  case round =>
    obtain ⟨k, a, xs, v, hk, rfl, rfl, hak, hxl, hcnt, hkd, hW⟩ := hrel
    have HW := Lib.hid hW
    have HXL := Lib.hid hxl
    have HCNT := Lib.hid hcnt
    have HKD := Lib.hid hkd
    by_cases hlt : k < N
    · have hlt' : (k : Int) < N := by omega
      have hsix := six_at wr
      have HSIX := Lib.hid hsix
      have hak' : (a : Int) ≤ 30 := by omega
      have HBL := Lib.hid (hW.below (below1 wr (.cells #[.int .i64 0, .int .i64 0, .int .i64 0, .int .i64 1, .int .i64 1, .int .i64 2] 3)))
      clear hW hxl hcnt hkd hsix HW3
      go_wp2_with fail
      refine (stroke_any bl ma n mc 5 (by omega) _ HBL.out.bell).mono ?_
      rintro e w5 ⟨z, z0, z5, rfl, hB, hH⟩
      obtain ⟨p, hp, hc⟩ := HSIX.out z z0 z5
      have hW5 := HBL.out.ring hB hH
      have hwl := hW5.size
      have hwz : wr.heap.size < w5.heap.size := Nat.lt_of_lt_of_le (by simp) hH.size
      have hc5 := (hH.cell (p := ⟨wr.heap.size, z.toNat, none⟩) (by show wr.heap.size ≠ bl; have := HW.out.hold.size; omega) (by simp)).trans hc
      have hz6 : z < 6 := by omega
      have HW5 := Lib.hid hW5
      obtain ⟨k1, k2, k3, k4, k5, k6, k7, k8⟩ := hW5.load
      have HWZ := Lib.hid hwz
      clear hB hH hc hW5 HBL HSIX hwl
      -- what is appended
      have fin : True := trivial
      by_cases hp1 : p = 1
      · subst hp1
        by_cases ha : a < 10
        · have hnl : ¬ ((10 : Int) - a - 1 < 0) := by omega
          go_wp2_with (at_builtin; refine wpList_append_own _ rfl _ _ 22 rfl (w1.heap.size + 1) 102 i0 (.int .i64 0) 1 8 A_und_plot hi hz0 hz1 hz2 rfl (by decide) _ _ _ rfl (HW5.out.own.alloc _) ⟨w5.heap.size, 0, none⟩ 1 1 [.int .i64 1] rfl rfl ?c1 ?c2 ?c3 ?c4 ?c5 ?_)
          case c1 =>
            intro j u hj
            cases j with
            | zero => simp at hj; subst hj; exact (cell_of_row _ _ _ _ _ _ (heap_alloc_last _ _)).trans rfl
            | succ j => simp at hj
          case c2 => intro u hu; rw [List.mem_singleton.1 hu]; rfl
          case c3 => rw [HXL.out]; unfold maxLen; omega
          case c4 => rw [HXL.out]; omega
          case c5 => have := HW5.out.size; simp; omega
          intro v' w7 hown7 hgrow _
          obtain ⟨ob7, cp7, rfl⟩ := own_slice hown7
          obtain ⟨hD7, hc7, hf7⟩ := (HW5.out.below (below1 w5 (.cells #[.int .i64 1] 102))).app hgrow hown7
          have HD7 := Lib.hid hD7
          clear hown7 hgrow hD7
          go_wp2
          go_roundw
          case rel => exact ⟨k + 1, a + 1, xs ++ [1], _, by omega, by simp, by first | rfl | (congr 1; push_cast; omega), by omega, by rw [List.length_append, HXL.out]; rfl, by rw [cnt1_snoc, HCNT.out, if_pos (show a ≤ 10 by omega), if_pos rfl, if_pos (by omega)], fun z hz => by rcases List.mem_append.1 hz with h | h; exact HKD.out z h; rw [List.mem_singleton.1 h]; omega, HD7.out⟩
          case measure => simp [intOf]; omega
        · have hnl : (10 : Int) - a - 1 < 0 := by omega
          go_wp2_with (at_builtin; refine wpList_append_own _ rfl _ _ 22 rfl (w1.heap.size + 1) 102 i0 (.int .i64 0) 1 8 A_und_plot hi hz0 hz1 hz2 rfl (by decide) _ _ _ rfl (HW5.out.own.alloc _) ⟨w5.heap.size, 0, none⟩ 1 1 [.int .i64 0] rfl rfl ?c1 ?c2 ?c3 ?c4 ?c5 ?_)
          case c1 =>
            intro j u hj
            cases j with
            | zero => simp at hj; subst hj; exact (cell_of_row _ _ _ _ _ _ (heap_alloc_last _ _)).trans rfl
            | succ j => simp at hj
          case c2 => intro u hu; rw [List.mem_singleton.1 hu]; rfl
          case c3 => rw [HXL.out]; unfold maxLen; omega
          case c4 => rw [HXL.out]; omega
          case c5 => have := HW5.out.size; simp; omega
          intro v' w7 hown7 hgrow _
          obtain ⟨ob7, cp7, rfl⟩ := own_slice hown7
          obtain ⟨hD7, hc7, hf7⟩ := (HW5.out.below (below1 w5 (.cells #[.int .i64 0] 102))).app hgrow hown7
          have HD7 := Lib.hid hD7
          clear hown7 hgrow hD7
          go_wp2
          go_roundw
          case rel => exact ⟨k + 1, a + 1, xs ++ [0], _, by omega, by simp, by first | rfl | (congr 1; push_cast; omega), by omega, by rw [List.length_append, HXL.out]; rfl, by rw [cnt1_snoc, HCNT.out, if_neg (show ¬ (0 : Int) = 1 by decide), if_neg (show ¬ a + 1 ≤ 10 by omega)]; split <;> omega, fun z hz => by rcases List.mem_append.1 hz with h | h; exact HKD.out z h; rw [List.mem_singleton.1 h]; omega, HD7.out⟩
          case measure => simp [intOf]; omega
      · have hp1' : (p == 1) = false := by simpa using hp1
        go_wp2_with (at_builtin; refine wpList_append_own _ rfl _ _ 22 rfl (w1.heap.size + 1) 102 i0 (.int .i64 0) 1 8 A_und_plot hi hz0 hz1 hz2 rfl (by decide) _ _ _ rfl (HW5.out.own.alloc _) ⟨w5.heap.size, 0, none⟩ 1 1 [.int .i64 p] rfl rfl ?c1 ?c2 ?c3 ?c4 ?c5 ?_)
        case c1 =>
          intro j u hj
          cases j with
          | zero => simp at hj; subst hj; exact (cell_of_row _ _ _ _ _ _ (heap_alloc_last _ _)).trans rfl
          | succ j => simp at hj
        case c2 => intro u hu; rw [List.mem_singleton.1 hu]; rfl
        case c3 => rw [HXL.out]; unfold maxLen; omega
        case c4 => rw [HXL.out]; omega
        case c5 => have := HW5.out.size; simp; omega
        intro v' w7 hown7 hgrow _
        obtain ⟨ob7, cp7, rfl⟩ := own_slice hown7
        obtain ⟨hD7, hc7, hf7⟩ := (HW5.out.below (below1 w5 (.cells #[.int .i64 p] 102))).app hgrow hown7
        have HD7 := Lib.hid hD7
        clear hown7 hgrow hD7
        go_wp2
        go_roundw
        case rel => exact ⟨k + 1, a, xs ++ [p], _, by omega, by simp, by first | rfl | (congr 1; push_cast; omega), by omega, by rw [List.length_append, HXL.out]; rfl, by rw [cnt1_snoc, HCNT.out, if_neg hp1]; rfl, fun z hz => by rcases List.mem_append.1 hz with h | h; exact HKD.out z h; rw [List.mem_singleton.1 h]; omega, HD7.out⟩
        case measure => simp [intOf]; omega
    · obtain rfl : k = N := by omega
      clear HW3
      obtain ⟨k1, k2, k3, k4, k5, k6, k7, k8⟩ := hW.load
      have hxne : xs ≠ [] := by rintro rfl; simp at hxl; omega
      obtain ⟨g, cp, rfl, hgb, hgi, hcp, hmx, hfz⟩ := own_ints rfl hW.own hxne
      rw [hxl] at k2
      have hblt := hW.blt
      have hRl := hW.lt
      have hgl := hgi.1
      have hcz : ∀ z : Int, 0 ≤ z → z ≤ k - 1 → ∀ W, Hold (fun k => k ≠ bl) wr W → (∃ u, W.cell? ⟨g, z.toNat, none⟩ = some (.int .i64 u)) ∧ W.frozen? ⟨g, z.toNat, none⟩ = false ∧ W.cell? ⟨w1.heap.size, 1, none⟩ = some (.slice (some ⟨g, 0, none⟩) k cp) := fun z z0 z1 W hh => by
        have h1 := hgi.2 z.toNat (by omega)
        rw [Nat.zero_add] at h1
        refine ⟨⟨_, (hh.cell (p := ⟨g, z.toNat, none⟩) (by show g ≠ bl; omega) hgl).trans h1⟩, ?_, (hh.cell (p := ⟨w1.heap.size, 1, none⟩) (by show w1.heap.size ≠ bl; omega) hW.size).trans k2⟩
        have := hh.same g (by show g ≠ bl; omega) hgl
        have h2 := hfz z.toNat
        unfold World.frozen? at h2 ⊢
        rw [this]; exact h2
      have HCZ := Lib.hid hcz
      have HBK : Hid (∀ W : World, W.heap = wr.heap → BellOk W bl ma n mc) := Lib.hid (fun W e => by
        obtain ⟨a, t, h⟩ := hW.bell
        refine ⟨a, t, by rw [e]; exact h.box, h.le, h.big, h.turn0, h.turn1, fun hn => ?_⟩
        obtain ⟨mb, mo, e1, l, ne, hc⟩ := h.metal hn
        exact ⟨mb, mo, e1, by rw [e]; exact l, ne, fun i hi => by obtain ⟨x, x0, x1, hx⟩ := hc i hi; exact ⟨x, x0, x1, by unfold World.cell? at hx ⊢; rw [e]; exact hx⟩⟩)
      have hNN : ((k : Int) - 1) = ((k - 1 : Nat) : Int) := by omega
      have hwr : IntKind.i64.wrap ((k : Int) - 1) = ((k - 1 : Nat) : Int) := by rw [hNN]; exact IntWalk.i64_in _ (by omega)
      clear hW hxl hcnt hkd hcz hNN hxne hgi hfz
      go_wp2_with fail
      go_region_with (first | (go_at_call 61; refine (stroke_any bl ma n mc (k - 1) (by omega) _ (by exact HBK.out _ rfl)).mono ?_; rintro e w5 ⟨z, z0, z1, rfl, hB, hH⟩; obtain ⟨⟨u, q0⟩, q1, q2⟩ := HCZ.out z z0 (by omega) w5 ⟨hH.os, hH.tape, hH.output, hH.size, hH.same⟩; have hgl5 := Nat.lt_of_lt_of_le hgl hH.size; have hzN : z < k := (by omega)))
      all_goals
        have hW5 := HW.out.ring hB ⟨hH.os, hH.tape, hH.output, hH.size, hH.same⟩
        have hzn : z.toNat < xs.length := by rw [HXL.out]; omega
        have hW6 := hW5.put (by omega) hzn 0
        rw [HXL.out] at hW6
        have HW6 := Lib.hid hW6
        have hlx : (xs.set z.toNat 0).length = k := by rw [List.length_set]; exact HXL.out
        have HLX := Lib.hid hlx
        obtain ⟨e1, e2, e3, e4, e5, e6, e7, e8⟩ := hW6.load
        have HCK := Lib.hid (made_check (i := z.toNat) x1 x6 HXL.out hN1 hN24 HN.out (by rw [HCNT.out]; split <;> omega) HKD.out)
        have HZN := Lib.hid hzn
        clear hW5 hW6 hB hH hlx hzn q0 q1 q2 hwr
        go_wp2_with fail
        have hfin := HW6.out.made (.int .i64 x) (.slice (some ⟨g, 0, none⟩) k cp)
        refine bodyPost_ret (v := .agg #[.int .i64 x, .slice (some ⟨g, 0, none⟩) k cp]) (by simp [results, Try.results58, go_sem, e5, e6]) rfl ?_
        have hx' : ((x.toNat : Nat) : Int) = x := by omega
        refine ⟨⟨x.toNat, xs.set z.toNat 0⟩, .slice (some ⟨g, 0, none⟩) k cp, z.toNat, by simp only [hx'], hfin.1, by simp only [hx']; exact HCK.out, ?_, ?_, ?_, hfin.2.1, hfin.2.2⟩
        · show (xs.set z.toNat 0).length ≤ most
          rw [HLX.out]; have := HN.out; have := HYX.out; omega
        · show z.toNat < (xs.set z.toNat 0).length
          rw [HLX.out]; omega
        · show (xs.set z.toNat 0).getD z.toNat 0 = 0
          rw [Hr.getD_set _ _ _ _ HZN.out, if_pos rfl]
end Go.Proofs.Ytimedmkpenbmkaa
