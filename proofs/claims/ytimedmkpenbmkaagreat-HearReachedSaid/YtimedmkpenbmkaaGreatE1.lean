import Derived.Test.YtimedmkpenbmkaaGreatAw
import Derived.Laws.CopyOwn
import Derived.Laws.MakeOwn
namespace Go.Proofs.YtimedmkpenbmkaaGreat
open Go.RowKit Go.Shelf
set_option linter.unusedSimpArgs false
set_option linter.unusedVariables false

theorem own_of_cells {w : World} {base g n : Nat} {e : TypeId} {xs : List Value} (hg : w.heap[g]? = some (.cells xs.toArray e (0, 0))) (hb : base ≤ g) (hn : n = xs.length) (hm : n ≤ maxLen) : w.ownsRow base e 1 (.slice (some ⟨g, 0, none⟩) n n) n xs := by
  subst hn
  exact ⟨by omega, .inr ⟨g, xs.length, xs.toArray, rfl, hb, hg, Nat.le_refl _, hm, by simp, by simp⟩⟩

theorem own_cells {w : World} {base : Nat} {e : TypeId} {g n : Nat} {xs : List Value} (h : w.ownsRow base e 1 (.slice (some ⟨g, 0, none⟩) n n) n xs) : xs.length = n ∧ w.heap[g]? = some (.cells xs.toArray e (0, 0)) := by
  rcases h.2 with ⟨h1, _⟩ | ⟨g', cp, cur, h1, _, h3, h4, _, h5, h6⟩
  · cases h1
  · injection h1 with e1 _ e3; injection e1 with e1; injection e1 with e1
    subst e1; subst e3
    have hl := h.1
    refine ⟨by omega, ?_⟩
    have : cur = xs.toArray := by
      apply Array.toList_inj.1
      rw [← h6, List.take_of_length_le (by simp; omega)]
    rw [h3, this]

theorem A_info_plot : (Tryz.prog.info? 32).map (fun i => (i.zero, i.size, i.bytes)) = some (some (.int .i64 0), 1, 8) := by kernel_rfl
theorem A_und_plot : Tryz.prog.underlying 23 = some (.slice 32) := by kernel_rfl
theorem A_siz_plot : (Tryz.prog.info? 32).map (·.size) = some 1 := by kernel_rfl
set_option maxHeartbeats 1000000 in
theorem copy_plot (v : Value) (xs : List Int) (hl : xs.length ≤ 1000000) (w : World) (hR : RdI w v xs) :
    Calls Tryz.prog 87 #[v] w fun e w' => ∃ v', e = .returned v' ∧ w'.ownsRow w.heap.size 32 1 v' xs.length (xs.map (Value.int .i64)) ∧ Below w.heap.size w w' := by
  obtain ⟨i0, hi, hz0, hz1, hz2⟩ := info_parts A_info_plot
  obtain ⟨_, a, cap, rfl, h2⟩ := hR
  have H2 := Lib.hid h2
  obtain ⟨n, hn⟩ : ∃ n, n = xs.length := ⟨_, rfl⟩
  rw [← hn] at hl ⊢
  have HN := Lib.hid hn
  clear h2 hn
  go_enter Tryz.func87, Tryz.ntmps87
  go_wp2_with (with_reducible refine wpList_make_full _ rfl _ _ 23 rfl w.heap.size 32 i0 (.int .i64 0) 1 A_und_plot hi hz0 hz1 .i64 .i64 n n n rfl rfl rfl rfl (by rw [hz2]; omega) (by unfold maxLen; omega) (Nat.le_refl _) ?_)
  intro w1 hown hgr
  obtain ⟨hlen, hg1⟩ := own_cells hown
  have hb1 : Below w.heap.size w w1 := ⟨hgr.os, hgr.tape, hgr.output, hgr.size, fun k hk => hgr.block k hk (by simp)⟩
  generalize (madeCells _ _).toList = cur at hg1 hlen
  obtain ⟨ys, hys⟩ : ∃ ys, ys = xs.map (Value.int .i64) := ⟨_, rfl⟩
  have hyl : ys.length = n := by rw [hys, List.length_map, ← HN.out]
  have HYS := Lib.hid hys
  have HG1 := Lib.hid hg1
  have HCL := Lib.hid hlen
  have HYL := Lib.hid hyl
  have HB1 := Lib.hid hb1
  have hpos : 0 < ys.length → (some ⟨w.heap.size, 0, none⟩ : Option Addr) = some ⟨w.heap.size, 0, none⟩ ∧ ∃ ad, a = some ad ∧ ∀ j u, ys[j]? = some u → w1.cell? (ad.add j) = some u := by
    intro h0
    have hx : xs ≠ [] := by rintro rfl; rw [hys] at h0; simp at h0
    obtain ⟨b, o, rfl, hI⟩ := H2.out hx
    refine ⟨rfl, _, rfl, fun j u hu => ?_⟩
    have hadd : (⟨b, o, none⟩ : Addr).add j = ⟨b, o + j, none⟩ := by unfold Addr.add; split <;> simp_all
    rw [hadd]
    have hj : j < xs.length := by
      rw [hys] at hu; have := (List.getElem?_eq_some_iff.1 hu).1; simpa using this
    refine ((hI.below hb1 hI.1).2 j hj).trans ?_
    rw [hys] at hu
    simp [List.getElem?_eq_getElem hj] at hu ⊢
    exact hu
  have HPOS := Lib.hid hpos
  have h1c : ∀ u ∈ ys, u.oneCell' = true := by rw [hys]; intro u hu; obtain ⟨x, _, rfl⟩ := List.mem_map.1 hu; rfl
  have H1C := Lib.hid h1c
  clear hown hgr hg1 hb1 hlen hys hyl hpos h1c H2
  go_wp2_with (with_reducible refine wpList_copy_splice rfl _ _ 23 23 rfl 32 A_und_plot A_siz_plot (some ⟨w.heap.size, 0, none⟩) a n n n cap rfl rfl w.heap.size 0 cur 32 HG1.out ys (by rw [HYL.out]; exact (Nat.min_self n).symm) HPOS.out (by rw [HYL.out, HCL.out]; omega) H1C.out w.heap.size w HB1.out (Nat.le_refl _) ?_)
  intro w2 HG2 hb2
  have HB2 := Lib.hid hb2
  clear hb2
  go_wp2
  go_ret
  refine ⟨_, rfl, own_of_cells ?_ (Nat.le_refl _) (by rw [List.length_map, ← HN.out]) (by unfold maxLen; omega), HB2.out⟩
  have := HG2.out
  rw [← HYS.out]
  have hs : splice cur 0 ys = ys := by
    unfold splice
    rw [List.take_zero, List.nil_append, Nat.zero_add, HYL.out, List.drop_of_length_le (by rw [HCL.out]; omega), List.append_nil]
  rwa [hs] at this

theorem A_info_int : (Tryz.prog.info? 3).map (fun i => (i.zero, i.size, i.bytes)) = some (some (.int .i64 0), 1, 8) := by kernel_rfl
theorem A_und_int : Tryz.prog.underlying 22 = some (.slice 3) := by kernel_rfl
theorem A_siz_int : (Tryz.prog.info? 3).map (·.size) = some 1 := by kernel_rfl
set_option maxHeartbeats 1000000 in
theorem copy_int (v : Value) (xs : List Int) (hl : xs.length ≤ 1000000) (w : World) (hR : RdI w v xs) :
    Calls Tryz.prog 40 #[v] w fun e w' => ∃ v', e = .returned v' ∧ w'.ownsRow w.heap.size 3 1 v' xs.length (xs.map (Value.int .i64)) ∧ Below w.heap.size w w' := by
  obtain ⟨i0, hi, hz0, hz1, hz2⟩ := info_parts A_info_int
  obtain ⟨_, a, cap, rfl, h2⟩ := hR
  have H2 := Lib.hid h2
  obtain ⟨n, hn⟩ : ∃ n, n = xs.length := ⟨_, rfl⟩
  rw [← hn] at hl ⊢
  have HN := Lib.hid hn
  clear h2 hn
  go_enter Tryz.func40, Tryz.ntmps40
  go_wp2_with (with_reducible refine wpList_make_full _ rfl _ _ 22 rfl w.heap.size 3 i0 (.int .i64 0) 1 A_und_int hi hz0 hz1 .i64 .i64 n n n rfl rfl rfl rfl (by rw [hz2]; omega) (by unfold maxLen; omega) (Nat.le_refl _) ?_)
  intro w1 hown hgr
  obtain ⟨hlen, hg1⟩ := own_cells hown
  have hb1 : Below w.heap.size w w1 := ⟨hgr.os, hgr.tape, hgr.output, hgr.size, fun k hk => hgr.block k hk (by simp)⟩
  generalize (madeCells _ _).toList = cur at hg1 hlen
  obtain ⟨ys, hys⟩ : ∃ ys, ys = xs.map (Value.int .i64) := ⟨_, rfl⟩
  have hyl : ys.length = n := by rw [hys, List.length_map, ← HN.out]
  have HYS := Lib.hid hys
  have HG1 := Lib.hid hg1
  have HCL := Lib.hid hlen
  have HYL := Lib.hid hyl
  have HB1 := Lib.hid hb1
  have hpos : 0 < ys.length → (some ⟨w.heap.size, 0, none⟩ : Option Addr) = some ⟨w.heap.size, 0, none⟩ ∧ ∃ ad, a = some ad ∧ ∀ j u, ys[j]? = some u → w1.cell? (ad.add j) = some u := by
    intro h0
    have hx : xs ≠ [] := by rintro rfl; rw [hys] at h0; simp at h0
    obtain ⟨b, o, rfl, hI⟩ := H2.out hx
    refine ⟨rfl, _, rfl, fun j u hu => ?_⟩
    have hadd : (⟨b, o, none⟩ : Addr).add j = ⟨b, o + j, none⟩ := by unfold Addr.add; split <;> simp_all
    rw [hadd]
    have hj : j < xs.length := by
      rw [hys] at hu; have := (List.getElem?_eq_some_iff.1 hu).1; simpa using this
    refine ((hI.below hb1 hI.1).2 j hj).trans ?_
    rw [hys] at hu
    simp [List.getElem?_eq_getElem hj] at hu ⊢
    exact hu
  have HPOS := Lib.hid hpos
  have h1c : ∀ u ∈ ys, u.oneCell' = true := by rw [hys]; intro u hu; obtain ⟨x, _, rfl⟩ := List.mem_map.1 hu; rfl
  have H1C := Lib.hid h1c
  clear hown hgr hg1 hb1 hlen hys hyl hpos h1c H2
  go_wp2_with (with_reducible refine wpList_copy_splice rfl _ _ 22 22 rfl 3 A_und_int A_siz_int (some ⟨w.heap.size, 0, none⟩) a n n n cap rfl rfl w.heap.size 0 cur 3 HG1.out ys (by rw [HYL.out]; exact (Nat.min_self n).symm) HPOS.out (by rw [HYL.out, HCL.out]; omega) H1C.out w.heap.size w HB1.out (Nat.le_refl _) ?_)
  intro w2 HG2 hb2
  have HB2 := Lib.hid hb2
  clear hb2
  go_wp2
  go_ret
  refine ⟨_, rfl, own_of_cells ?_ (Nat.le_refl _) (by rw [List.length_map, ← HN.out]) (by unfold maxLen; omega), HB2.out⟩
  have := HG2.out
  rw [← HYS.out]
  have hs : splice cur 0 ys = ys := by
    unfold splice
    rw [List.take_zero, List.nil_append, Nat.zero_add, HYL.out, List.drop_of_length_le (by rw [HCL.out]; omega), List.append_nil]
  rwa [hs] at this
end Go.Proofs.YtimedmkpenbmkaaGreat

namespace Go.Proofs.YtimedmkpenbmkaaGreat
open Go.RowKit Go.Shelf
set_option linter.unusedSimpArgs false
set_option linter.unusedVariables false

/-- what is left of Own's region -/
def spOwn (wd : Int) (sv : Value) (xs : List Int) (A B : Nat) : Nat → List Value → Value → World → Prop
  | 0, _, v, _ => v = .pointer (some ⟨A, 0, none⟩)
  | 1, _, v, _ => v = .int .i64 wd
  | 2, _, v, _ => v = .pointer (some ⟨A, 1, none⟩)
  | 3, _, v, _ => v = sv
  | 4, _, v, w => w.ownsRow B 32 1 v xs.length (xs.map (Value.int .i64))
  | _, _, _, _ => False
theorem spOwn_stable (wd : Int) (sv : Value) (xs : List Int) (A B : Nat) : ∀ i L v w w', spOwn wd sv xs A B i L v w → Rs.Gr w w' → spOwn wd sv xs A B i L v w' := by
  intro i L v w w' h hg
  match i with
  | 0 => exact h
  | 1 => exact h
  | 2 => exact h
  | 3 => exact h
  | 4 => exact own_below h hg

set_option maxHeartbeats 2000000 in
set_option maxRecDepth 100000 in
theorem Own_any (wd : Int) (a : Option Addr) (cap : Nat) (xs : List Int) (hl : xs.length ≤ 1000000) (w : World) (hR : RdI w (.slice a xs.length cap) xs) :
    Calls Tryz.prog 31 #[.agg #[.int .i64 wd, .slice a xs.length cap]] w fun e w' => ∃ v, e = .returned (.agg #[.int .i64 wd, v]) ∧ w'.ownsRow w.heap.size 32 1 v xs.length (xs.map (Value.int .i64)) ∧ Below w.heap.size w w' := by
  have HR := Lib.hid hR
  clear hR
  go_enter Tryz.func31, Tryz.ntmps31
  go_wp2_with fail
  refine Rs.region_gen 5 [[], [0], [], [2], [2, 3]] [some 3, some 4, some 5, some 6, some 7] (spOwn wd (.slice a xs.length cap) xs w.heap.size w.heap.size) (by kernel_rfl) (by kernel_rfl) rfl (spOwn_stable _ _ _ _ _) ?_ ?_
  · refine ⟨fun V w' hG hs => ?_, fun V w' hG hs => ?_, fun V w' hG hs => ?_, fun V w' hG hs => ?_, fun V w' hG hs => ?_, trivial⟩
    all_goals
      have hb0 := (hG.block w.heap.size (by simp; omega)).trans ((Below.heap_alloc _ _ _ (by simp)).trans (heap_alloc_last _ _))
      obtain ⟨k0, k1⟩ := blk_cells2 hb0
      rw [if_pos (by rfl)]
    · exact Rs.GrowL.value (v := .pointer (some ⟨w.heap.size, 0, none⟩)) (w' := w') (by simp [go_sem, Rs.look]) (Rs.Gr.refl _) rfl
    · have e0 : V 0 = .pointer (some ⟨w.heap.size, 0, none⟩) := hs 0 (by simp)
      exact Rs.GrowL.value (v := .int .i64 wd) (w' := w') (by simp [go_sem, Rs.look, e0, k0]) (Rs.Gr.refl _) rfl
    · exact Rs.GrowL.value (v := .pointer (some ⟨w.heap.size, 1, none⟩)) (w' := w') (by simp [go_sem, Rs.look]) (Rs.Gr.refl _) rfl
    · have e2 : V 2 = .pointer (some ⟨w.heap.size, 1, none⟩) := hs 2 (by simp)
      exact Rs.GrowL.value (v := .slice a xs.length cap) (w' := w') (by simp [go_sem, Rs.look, e2, k1]) (Rs.Gr.refl _) rfl
    · have e3 : V 3 = .slice a xs.length cap := hs 3 (by simp)
      refine Rs.GrowL.call (f := 87) (args := #[.slice a xs.length cap]) (by simp [go_sem, Rs.look, e3]) ?_
      have hBw := join (al (below1 w _) _) hG
      refine (copy_plot _ xs hl w' (HR.out.below hBw)).mono ?_
      rintro e w2 ⟨v, rfl, hown, hB2⟩
      exact ⟨_, rfl, hB2, own_base hown hBw.size⟩
  · intro V w' hG hs
    have e0 : V 0 = .pointer (some ⟨w.heap.size, 0, none⟩) := hs 0 (by omega)
    have e1 : V 1 = .int .i64 wd := hs 1 (by omega)
    have e2 : V 2 = .pointer (some ⟨w.heap.size, 1, none⟩) := hs 2 (by omega)
    have e3 : V 3 = .slice a xs.length cap := hs 3 (by omega)
    have h4 : w'.ownsRow w.heap.size 32 1 (V 4) xs.length (xs.map (Value.int .i64)) := hs 4 (by omega)
    simp only [Rs.canon, Rs.dstOf, List.range_succ, List.range_zero, List.nil_append, List.cons_append, List.foldl_cons, List.foldl_nil, List.drop_succ_cons, List.drop_zero, List.drop_nil, List.getElem?_toArray, List.getElem?_cons_succ, List.getElem?_cons_zero, Option.bind_some, Act.put, List.getD_cons_succ, List.getD_cons_zero, List.setIfInBounds_toArray, List.set_cons_succ, List.set_cons_zero]
    rw [e0, e1, e2, e3]
    generalize V 4 = v at h4 ⊢
    obtain ⟨ob, cp, rfl⟩ := own_slice h4
    have hb1 : w'.heap[w.heap.size + 1]? = some (.cells #[.int .i64 0, .slice none 0 0] 25 (0, 0)) := (hG.block (w.heap.size + 1) (by simp)).trans (by
      have := heap_alloc_last (w.alloc (.cells #[.int .i64 wd, .slice a xs.length cap] 25)) (.cells #[.int .i64 0, .slice none 0 0] 25)
      simpa using this)
    obtain ⟨k0, k1⟩ := blk_cells2 hb1
    have f0 := frozen_of_row w' (w.heap.size + 1) 0 _ _ hb1
    have f1 := frozen_of_row w' (w.heap.size + 1) 1 _ _ hb1
    have HBW := Lib.hid (join (al (below1 w _) _) hG)
    have H4 := Lib.hid h4
    have HB1 := Lib.hid hb1
    clear h4 hb1 hs hG
    go_wp2
    refine bodyPost_ret (v := .agg #[.int .i64 wd, .slice ob xs.length cp]) (by simp [results, Tryz.results31, go_sem, k0, k1]) rfl ⟨_, rfl, ?_, ?_⟩
    · have hne : (Value.slice ob xs.length cp).ownBlock ≠ some (w.heap.size + 1) := by
        rcases H4.out.2 with ⟨h1, _⟩ | ⟨g, cap, cur, h1, _, hg, _⟩
        · rw [h1]; simp [Value.ownBlock]
        · rw [h1]; intro e; injection e with e; simp only at e; rw [e, HB1.out] at hg; injection hg with hg; injection hg with _ h2; cases h2
      have hk : ∀ (W : World) (o : Nat) (u : Value), W.ownsRow w.heap.size 32 1 (.slice ob xs.length cp) xs.length (xs.map (Value.int .i64)) → (W.setCell ⟨w.heap.size + 1, o, none⟩ u).ownsRow w.heap.size 32 1 (.slice ob xs.length cp) xs.length (xs.map (Value.int .i64)) :=
        fun W o u h => h.kept (grown_set W (w.heap.size + 1) o u) (.inr hne)
      exact hk _ _ _ (hk _ _ _ H4.out)
    · exact setc (setc HBW.out (Nat.le_succ _)) (Nat.le_succ _)
end Go.Proofs.YtimedmkpenbmkaaGreat

namespace Go.Proofs.YtimedmkpenbmkaaGreat
open Go.RowKit Go.Shelf
set_option linter.unusedSimpArgs false
set_option linter.unusedVariables false

/-- a world in which a struct of a number and a list grows: its result's cell R, its box R + 1 -/
structure GwW (w : World) (ty et : TypeId) (R : Nat) (wd : Int) (xs : List Int) (v : Value) (W : World) : Prop where
  res : W.heap[R]? = some (.cells #[.int .i64 0, .slice none 0 0] ty (0, 0))
  box : W.heap[R + 1]? = some (.cells #[.int .i64 wd, v] ty (0, 0))
  own : W.ownsRow (R + 2) et 1 v xs.length (xs.map (Value.int .i64))
  le : w.heap.size ≤ R
  bel : Below w.heap.size w W
theorem GwW.size {w : World} {ty et : TypeId} {R : Nat} {wd : Int} {xs : List Int} {v : Value} {W : World} (h : GwW w ty et R wd xs v W) : R + 2 ≤ W.heap.size := by
  have := (Array.getElem?_eq_some_iff.1 h.box).1; omega
theorem GwW.below {w : World} {ty et : TypeId} {R : Nat} {wd : Int} {xs : List Int} {v : Value} {W W' : World} (h : GwW w ty et R wd xs v W) (hB : Below W.heap.size W W') : GwW w ty et R wd xs v W' :=
  ⟨(hB.block _ (Array.getElem?_eq_some_iff.1 h.res).1).trans h.res, (hB.block _ (Array.getElem?_eq_some_iff.1 h.box).1).trans h.box, own_below h.own hB, h.le, join h.bel hB⟩
theorem GwW.app {w : World} {ty et : TypeId} {R : Nat} {wd : Int} {xs : List Int} {v v' : Value} {W W' : World} {x : Int} (h : GwW w ty et R wd xs v W) (hg : W.grownBy W' v.ownBlock)
    (ho : W'.ownsRow (R + 2) et 1 v' (xs.length + 1) (xs.map (Value.int .i64) ++ [.int .i64 x])) :
    GwW w ty et R wd (xs ++ [x]) v' (W'.setCell ⟨R + 1, 1, none⟩ v') ∧ W'.cell? ⟨R + 1, 1, none⟩ = some v ∧ W'.frozen? ⟨R + 1, 1, none⟩ = false := by
  have hz := h.size
  have hle := h.le
  have hne : ∀ k, k < R + 2 → some k ≠ v.ownBlock := fun k hk e => by
    have := h.own.lt k e.symm; omega
  have hr := (hg.block R (by omega) (fun e => hne _ (by omega) e)).trans h.res
  have hb := (hg.block (R + 1) (by omega) (fun e => hne _ (by omega) e)).trans h.box
  refine ⟨⟨(Below.heap_setCell _ _ _ _ (by simp)).trans hr, heap_set_same _ hb, ?_, hle, ?_⟩, ?_, ?_⟩
  · have : (xs ++ [x]).length = xs.length + 1 := by simp
    rw [this, List.map_append]
    refine ho.kept (grown_set W' (R + 1) 1 v') ?_
    rcases ho.2 with ⟨h1, _⟩ | ⟨g, cap, cur, rfl, hb', _⟩
    · exact .inl (by rw [h1]; rfl)
    · right; show some g ≠ some (R + 1); intro e; injection e; omega
  · exact (below_grown h.bel h.own (by omega) (by omega) hg).setCell (by simp; omega) _
  · rw [cell_of_row _ _ _ _ _ _ hb]; rfl
  · exact frozen_of_row _ _ _ _ _ hb
theorem GwW.load {w : World} {ty et : TypeId} {R : Nat} {wd : Int} {xs : List Int} {v : Value} {W : World} (h : GwW w ty et R wd xs v W) :
    W.cell? ⟨R + 1, 0, none⟩ = some (.int .i64 wd) ∧ W.cell? ⟨R + 1, 1, none⟩ = some v ∧ W.frozen? ⟨R + 1, 0, none⟩ = false ∧ W.frozen? ⟨R + 1, 1, none⟩ = false ∧
    W.cell? ⟨R, 0, none⟩ = some (.int .i64 0) ∧ W.cell? ⟨R, 1, none⟩ = some (.slice none 0 0) ∧ W.frozen? ⟨R, 0, none⟩ = false ∧ W.frozen? ⟨R, 1, none⟩ = false := by
  refine ⟨?_, ?_, frozen_of_row _ _ _ _ _ h.box, frozen_of_row _ _ _ _ _ h.box, ?_, ?_, frozen_of_row _ _ _ _ _ h.res, frozen_of_row _ _ _ _ _ h.res⟩
  · rw [cell_of_row _ _ _ _ _ _ h.box]; rfl
  · rw [cell_of_row _ _ _ _ _ _ h.box]; rfl
  · rw [cell_of_row _ _ _ _ _ _ h.res]; rfl
  · rw [cell_of_row _ _ _ _ _ _ h.res]; rfl
/-- what the function leaves when its result is written -/
theorem GwW.done {w : World} {ty et : TypeId} {R : Nat} {wd : Int} {xs : List Int} {v : Value} {W : World} (h : GwW w ty et R wd xs v W) (a b : Value) :
    ((W.setCell ⟨R, 0, none⟩ a).setCell ⟨R, 1, none⟩ b).ownsRow w.heap.size et 1 v xs.length (xs.map (Value.int .i64)) ∧ Below w.heap.size w ((W.setCell ⟨R, 0, none⟩ a).setCell ⟨R, 1, none⟩ b) := by
  have hle := h.le
  refine ⟨own_base (base := R + 2) ?_ (by omega), setc (setc h.bel hle) hle⟩
  have hk : ∀ (W : World) (o : Nat) (u : Value), W.ownsRow (R + 2) et 1 v xs.length (xs.map (Value.int .i64)) → (W.setCell ⟨R, o, none⟩ u).ownsRow (R + 2) et 1 v xs.length (xs.map (Value.int .i64)) := by
    intro W o u h
    refine h.kept (grown_set W R o u) ?_
    rcases h.2 with ⟨h1, _⟩ | ⟨g, cap, cur, h1, hb', _⟩
    · exact .inl (by rw [h1]; rfl)
    · right; rw [h1]; show some g ≠ some R; intro e; injection e; omega
  exact hk _ _ _ (hk _ _ _ h.own)

theorem take_snocI (xs : List Int) (k : Nat) (h : k < xs.length) : xs.take (k + 1) = xs.take k ++ [xs.getD k 0] := by
  rw [List.take_succ_eq_append_getElem h]; simp [List.getElem?_eq_getElem h]

set_option maxHeartbeats 2000000 in
set_option maxRecDepth 100000 in
theorem theirs_any (wd : Int) (a : Option Addr) (cap : Nat) (xs : List Int) (hl : xs.length ≤ 1000000) (w : World) (hR : RdI w (.slice a xs.length cap) xs) :
    Calls Tryz.prog 32 #[.agg #[.int .i64 wd, .slice a xs.length cap]] w fun e w' => ∃ v, e = .returned (.agg #[.int .i64 wd, v]) ∧ w'.ownsRow w.heap.size 3 1 v xs.length (xs.map (Value.int .i64)) ∧ Below w.heap.size w w' := by
  obtain ⟨i0, hi, hz0, hz1, hz2⟩ := info_parts A_info3
  obtain ⟨_, a', cap', e1, hI⟩ := hR
  injection e1 with e1 _ e3
  subst e1
  subst e3
  have HI := Lib.hid hI
  clear hI
  have hS0 : GwW w 64 3 (w.heap.size + 1) wd [] (.slice none 0 0) (((w.alloc (.cells #[.int .i64 wd, .slice a xs.length cap] 25)).alloc (.cells #[.int .i64 0, .slice none 0 0] 64)).alloc (.cells #[.int .i64 wd, .slice none 0 0] 64)) := by
    refine ⟨?_, ?_, ⟨rfl, .inl ⟨rfl, rfl⟩⟩, by omega, al (al (al (Below.refl _ _) _) _) _⟩
    · refine (Below.heap_alloc _ _ _ (by simp)).trans ?_
      have := heap_alloc_last (w.alloc (.cells #[.int .i64 wd, .slice a xs.length cap] 25)) (.cells #[.int .i64 0, .slice none 0 0] 64); simpa using this
    · have := heap_alloc_last ((w.alloc (.cells #[.int .i64 wd, .slice a xs.length cap] 25)).alloc (.cells #[.int .i64 0, .slice none 0 0] 64)) (.cells #[.int .i64 wd, .slice none 0 0] 64); simpa using this
  have HS := Lib.hid hS0
  clear hS0
  go_enter Tryz.func32, Tryz.ntmps32
  go_wp2
  go_loopg [12] xs.length (fun g i wi => ∃ (k : Nat) (v : Value), g + k = xs.length ∧ i = .int .i64 k ∧ GwW w 64 3 (w.heap.size + 1) wd (xs.take k) v wi)
  case atStart => exact ⟨0, .slice none 0 0, by omega, rfl, HS.out⟩
  case round =>
    clear HS
    obtain ⟨k, v, hk, rfl, hD⟩ := hrel
    by_cases hlt : k < xs.length
    · have hlt' : (k : Int) < xs.length := by omega
      have hne : xs ≠ [] := by rintro rfl; simp at hlt
      obtain ⟨b, o, rfl, hI⟩ := HI.out hne
      have hc := (hI.below hD.bel hI.1).2 k hlt
      have hsn := take_snocI xs k hlt
      obtain ⟨x, hx⟩ : ∃ x, x = xs.getD k 0 := ⟨_, rfl⟩
      rw [← hx] at hc hsn
      obtain ⟨ys, hys⟩ : ∃ ys, ys = xs.take k := ⟨_, rfl⟩
      rw [← hys] at hD hsn
      have hyl : ys.length = k := by rw [hys, List.length_take]; omega
      obtain ⟨k1, k2, k3, k4, _⟩ := hD.load
      have HD := Lib.hid hD
      have HSN := Lib.hid hsn
      have HYL := Lib.hid hyl
      clear hI hx hsn hys hyl hD
      go_wp2_with (at_builtin; refine wpList_append_own _ rfl _ _ 22 rfl (w.heap.size + 1 + 2) 3 i0 (.int .i64 0) 1 8 A_und31 hi hz0 hz1 hz2 rfl (by decide) _ _ _ rfl (HD.out.own.alloc _) ⟨wr.heap.size, 0, none⟩ 1 1 [.int .i64 x] rfl rfl ?c1 ?c2 ?c3 ?c4 ?c5 ?_)
      case c1 =>
        intro j u hj
        cases j with
        | zero => simp at hj; subst hj; exact (cell_of_row _ _ _ _ _ _ (heap_alloc_last _ _)).trans rfl
        | succ j => simp at hj
      case c2 => intro u hu; rw [List.mem_singleton.1 hu]; rfl
      case c3 => rw [HYL.out]; unfold maxLen; omega
      case c4 => rw [HYL.out]; omega
      case c5 => have := HD.out.size; simp; omega
      intro v' w7 hown7 hgrow _
      obtain ⟨ob7, cp7, rfl⟩ := own_slice hown7
      obtain ⟨hD7, hc7, hf7⟩ := (HD.out.below (below1 wr (.cells #[.int .i64 x] 3))).app hgrow hown7
      have HD7 := Lib.hid hD7
      clear hown7 hgrow hD7
      go_wp2
      go_roundg (gk - 1)
      case rel => exact ⟨k + 1, _, by omega, by simp, by rw [HSN.out]; exact HD7.out⟩
      case measure => omega
    · have hkk : k = xs.length := by omega
      subst hkk
      rw [List.take_length] at hD
      obtain ⟨k1, k2, k3, k4, k5, k6, k7, k8⟩ := hD.load
      obtain ⟨ob7, cp7, rfl⟩ := own_slice hD.own
      have HD := Lib.hid hD
      clear hD
      go_wp2
      refine bodyPost_ret (v := .agg #[.int .i64 wd, .slice ob7 xs.length cp7]) (by simp [results, Tryz.results32, go_sem, k5, k6]) rfl ⟨_, rfl, ?_⟩
      exact HD.out.done _ _

def eqTo (xs ys : List Int) (k : Nat) : Prop := ∀ j, j < k → xs.getD j 0 = ys.getD j 0
set_option maxHeartbeats 2000000 in
set_option maxRecDepth 100000 in
theorem Equal_plot (u v : Value) (xs ys : List Int) (w : World) (hu : RdI w u xs) (hv : RdI w v ys) :
    Calls Tryz.prog 131 #[u, v] w fun e w' => e = .returned (.bool (decide (xs = ys))) ∧ Below w.heap.size w w' := by
  obtain ⟨lx, a, c, rfl, h1⟩ := hu
  obtain ⟨ly, a2, c2, rfl, h2⟩ := hv
  by_cases hlen : xs.length = ys.length
  · have hle : ((xs.length : Int) != (ys.length : Int)) = false := by simp [hlen]
    have H1 := Lib.hid h1
    have H2 := Lib.hid h2
    have HLEN := Lib.hid hlen
    have hx9 : xs.length ≤ 9223372036854775807 := lx
    clear h1 h2 hlen
    go_enter Tryz.func131, Tryz.ntmps131
    go_wp2
    go_loopg [13] xs.length (fun g i wi => ∃ k : Nat, g + k = xs.length ∧ i = .int .i64 k ∧ eqTo xs ys k ∧ Below w.heap.size w wi)
    case atStart => exact ⟨0, by omega, rfl, fun j hj => by omega, Below.refl _ _⟩
    case round =>
      obtain ⟨k, hk, rfl, hE, hB⟩ := hrel
      have HE := Lib.hid hE
      have HB := Lib.hid hB
      by_cases hlt : k < xs.length
      · have hlt' : (k : Int) < xs.length := by omega
        have hx : xs ≠ [] := by rintro rfl; simp at hlt
        have hy : ys ≠ [] := fun e => by have := HLEN.out; rw [e] at this; simp only [List.length_nil] at this; omega
        obtain ⟨b, o, rfl, hI⟩ := H1.out hx
        obtain ⟨b2, o2, rfl, hI2⟩ := H2.out hy
        have hlt2 : k < ys.length := by have := HLEN.out; omega
        have hlt2' : (k : Int) < ys.length := by omega
        have d1 := (hI.below hB hI.1).2 k hlt
        have d2 := (hI2.below hB hI2.1).2 k hlt2
        obtain ⟨x, hx1⟩ : ∃ x, x = xs.getD k 0 := ⟨_, rfl⟩
        obtain ⟨y, hy1⟩ : ∃ y, y = ys.getD k 0 := ⟨_, rfl⟩
        rw [← hx1] at d1
        rw [← hy1] at d2
        have HX := Lib.hid hx1
        have HY := Lib.hid hy1
        clear hI hI2 hx hy hE hB hx1 hy1
        by_cases hxy : x = y
        · subst hxy
          go_wp2
          go_quiet (fail)
          go_wp2
          go_roundg (gk - 1)
          case rel => exact ⟨k + 1, by omega, by simp, fun j hj => by
            rcases Nat.lt_succ_iff_lt_or_eq.1 hj with hj | rfl
            · exact HE.out j hj
            · rw [← HX.out, ← HY.out], below_drewN' HB.out _⟩
          case measure => omega
        · have hxy' : (x != y) = true := by simpa using hxy
          have HN := Lib.hid hxy
          clear hxy
          go_wp2
          go_quiet (fail)
          go_wp2
          go_ret
          have hne : xs ≠ ys := fun e => HN.out (by rw [HX.out, HY.out, e])
          exact ⟨by simp [hne], below_drewN' HB.out _⟩
      · have hkk : k = xs.length := by omega
        subst hkk
        clear hE hB
        go_wp2
        go_ret
        have heq : xs = ys := by
          apply List.ext_getElem HLEN.out
          intro i h1 h2
          have := HE.out i h1
          simpa [List.getElem?_eq_getElem h1, List.getElem?_eq_getElem h2] using this
        exact ⟨by simp [heq], HB.out⟩
  · have hle : ((xs.length : Int) != (ys.length : Int)) = true := by simp; omega
    go_enter Tryz.func131, Tryz.ntmps131
    go_wp2
    go_ret
    have : xs ≠ ys := fun e => hlen (by rw [e])
    exact ⟨by simp [this], Below.refl _ _⟩

set_option maxHeartbeats 1000000 in
theorem Like_plot (u v : Value) (xs ys : List Int) (q : Bool) (hq : decide (xs = ys) = q) (w : World) (hu : RdI w u xs) (hv : RdI w v ys) :
    Calls Tryz.prog 92 #[u, v] w fun e w' => e = .returned (.bool q) ∧ Below w.heap.size w w' := by
  have HE := Lib.hid (Equal_plot u v xs ys w hu hv)
  rw [hq] at HE
  clear hq hu hv
  go_enter Tryz.func92, Tryz.ntmps92
  go_wp2_with (go_at_call 131; refine HE.out.mono ?_; rintro e w1 ⟨rfl, hB⟩; have HB := Lib.hid hB; clear hB)
  go_ret
  exact ⟨rfl, HB.out⟩

set_option maxHeartbeats 1000000 in
theorem same_yes (wd : Int) (a a2 : Option Addr) (n cap cap2 n2 : Nat) (xs : List Int) (w : World) (hu : RdI w (.slice a n cap) xs) (hv : RdI w (.slice a2 n2 cap2) xs) :
    Calls Tryz.prog 39 #[.agg #[.int .i64 wd, .slice a n cap], .agg #[.int .i64 wd, .slice a2 n2 cap2]] w fun e w' => e = .returned (.bool true) ∧ Below w.heap.size w w' := by
  have HU := Lib.hid hu
  have HV := Lib.hid hv
  clear hu hv
  have hBw : ∀ o1 o2, Below w.heap.size w ((w.alloc o1).alloc o2) := fun o1 o2 => al (al (Below.refl _ _) _) _
  have HBW := Lib.hid hBw
  clear hBw
  go_enter Tryz.func39, Tryz.ntmps39
  go_wp2_with fail
  refine (Like_plot _ _ xs xs true (by simp) _ (HU.out.below (HBW.out _ _)) (HV.out.below (HBW.out _ _))).mono ?_
  rintro e w1 ⟨rfl, hB⟩
  have HB := Lib.hid (join (HBW.out _ _) hB)
  clear hB HBW
  go_wp2
  go_ret
  exact ⟨rfl, HB.out⟩
end Go.Proofs.YtimedmkpenbmkaaGreat
