import Derived.Test.YtimedmkpenbmkaaE5
namespace Go.Proofs.Ytimedmkpenbmkaa
open Go.RowKit Go.Shelf
set_option linter.unusedSimpArgs false
set_option linter.unusedVariables false


theorem wp_named {P : Program} {c : Code} {Q : Exit → Act → World → Prop} {a : Act} {w : World} (h : ∀ W, W = w → c.wp P Q a W) : c.wp P Q a w := h w rfl
theorem calls_named {P : Program} {f : FuncId} {args : Array Value} {w : World} {R : Ending → World → Prop} (h : ∀ W, W = w → Calls P f args W R) : Calls P f args w R := h w rfl

/-- a law's own town and that of the reference, in their boxes -/
structure LwT (wd : Int) (xs : List Int) (c7 : Nat) (u7 : Value) (c8 : Nat) (u8 : Value) (W : World) : Prop where
  b7 : W.heap[c7]? = some (.cells #[.int .i64 wd, u7] 24 (0, 0))
  b8 : W.heap[c8]? = some (.cells #[.int .i64 wd, u8] 33 (0, 0))
  r7 : RdI W u7 xs
  r8 : RdI W u8 xs
theorem LwT.below {wd : Int} {xs : List Int} {c7 c8 : Nat} {u7 u8 : Value} {W W' : World} (h : LwT wd xs c7 u7 c8 u8 W) (hB : Below W.heap.size W W') : LwT wd xs c7 u7 c8 u8 W' :=
  ⟨(hB.block _ (Array.getElem?_eq_some_iff.1 h.b7).1).trans h.b7, (hB.block _ (Array.getElem?_eq_some_iff.1 h.b8).1).trans h.b8, h.r7.below hB, h.r8.below hB⟩
theorem LwT.cs {wd : Int} {xs : List Int} {c7 c8 : Nat} {u7 u8 : Value} {W : World} (h : LwT wd xs c7 u7 c8 u8 W) :
    (W.cell? ⟨c7, 0, none⟩ = some (.int .i64 wd) ∧ W.cell? ⟨c7, 1, none⟩ = some u7) ∧ W.cell? ⟨c8, 0, none⟩ = some (.int .i64 wd) ∧ W.cell? ⟨c8, 1, none⟩ = some u8 := ⟨blk_cells2 h.b7, blk_cells2 h.b8⟩
/-- how they come to lie so -/
theorem LwT.start {w : World} {wd : Int} {xs : List Int} {c7 c8 B : Nat} {u7 u8 : Value} (h7 : w.heap[c7]? = some (.cells #[.int .i64 0, .slice none 0 0] 24 (0, 0))) (h8 : w.heap[c8]? = some (.cells #[.int .i64 0, .slice none 0 0] 33 (0, 0)))
    (o7 : w.ownsRow B 102 1 u7 xs.length (xs.map (Value.int .i64))) (o8 : w.ownsRow B 3 1 u8 xs.length (xs.map (Value.int .i64))) :
    LwT wd xs c7 u7 c8 u8 ((((w.setCell ⟨c7, 0, none⟩ (.int .i64 wd)).setCell ⟨c7, 1, none⟩ u7).setCell ⟨c8, 0, none⟩ (.int .i64 wd)).setCell ⟨c8, 1, none⟩ u8) := by
  have hne : c7 ≠ c8 := fun e => by rw [e, h8] at h7; injection h7 with h; injection h with _ h; cases h
  have key : ∀ (c : Nat) (T : TypeId) (e : TypeId) (v : Value) (o : Nat) (x : Value) (W : World), (∃ cs, W.heap[c]? = some (.cells cs T (0, 0))) → T ≠ e → W.ownsRow B e 1 v xs.length (xs.map (Value.int .i64)) → (W.setCell ⟨c, o, none⟩ x).ownsRow B e 1 v xs.length (xs.map (Value.int .i64)) := by
    intro c T e v o x W hc hT h
    refine h.kept (grown_set W c o x) ?_
    rcases h.2 with ⟨h1, _⟩ | ⟨g, cap, cur, h1, _, hg, _⟩
    · exact .inl (by rw [h1]; rfl)
    · right; rw [h1]; show some g ≠ some c; intro e2; injection e2 with e2
      obtain ⟨cs, hc⟩ := hc
      rw [e2, hc] at hg; injection hg with hg; injection hg with _ hg; exact hT hg
  have hw1 := heap_set_same (o := 0) (.int .i64 wd) h7
  have hw2 := heap_set_same (o := 1) u7 hw1
  have h81 : (w.setCell ⟨c7, 0, none⟩ (.int .i64 wd)).heap[c8]? = some (.cells #[.int .i64 0, .slice none 0 0] 33 (0, 0)) := (Below.heap_setCell _ _ _ _ (Ne.symm hne)).trans h8
  have h82 : ((w.setCell ⟨c7, 0, none⟩ (.int .i64 wd)).setCell ⟨c7, 1, none⟩ u7).heap[c8]? = some (.cells #[.int .i64 0, .slice none 0 0] 33 (0, 0)) := (Below.heap_setCell _ _ _ _ (Ne.symm hne)).trans h81
  have hw3 := heap_set_same (o := 0) (.int .i64 wd) h82
  have hw4 := heap_set_same (o := 1) u8 hw3
  have hw5 := (Below.heap_setCell ((w.setCell ⟨c7, 0, none⟩ (.int .i64 wd)).setCell ⟨c7, 1, none⟩ u7) ⟨c8, 0, none⟩ (.int .i64 wd) c7 hne).trans hw2
  have hw6 := (Below.heap_setCell (((w.setCell ⟨c7, 0, none⟩ (.int .i64 wd)).setCell ⟨c7, 1, none⟩ u7).setCell ⟨c8, 0, none⟩ (.int .i64 wd)) ⟨c8, 1, none⟩ u8 c7 hne).trans hw5
  refine ⟨hw6, hw4, RdI.own rfl rfl (key c8 33 102 u7 1 u8 _ ⟨_, hw3⟩ (by decide) (key c8 33 102 u7 0 _ _ ⟨_, h82⟩ (by decide) (key c7 24 102 u7 1 u7 _ ⟨_, hw1⟩ (by decide) (key c7 24 102 u7 0 _ _ ⟨_, h7⟩ (by decide) o7)))),
    RdI.own rfl rfl (key c8 33 3 u8 1 u8 _ ⟨_, hw3⟩ (by decide) (key c8 33 3 u8 0 _ _ ⟨_, h82⟩ (by decide) (key c7 24 3 u8 1 u7 _ ⟨_, hw1⟩ (by decide) (key c7 24 3 u8 0 _ _ ⟨_, h7⟩ (by decide) o8))))⟩
theorem grown_setCells (g : Nat) : ∀ (vs : List Value) (o : Nat) (w : World), w.grownBy (w.setCells g o vs) (some g)
  | [], _, w => grown_refl w _
  | v :: r, o, w => grown_trans (grown_set w g o v) (grown_setCells g r (o + 1) _)
theorem run_clear_own {w : World} {base : Nat} {t e ty : TypeId} {v : Value} {n : Nat} {xs : List Value} (ht : Try.prog.underlying t = some (.slice e)) (hz : ∀ w, (zeroValue e).run Try.prog w = .ok (.int .i64 0) w) (h : w.ownsRow base e 1 v n xs) :
    ∃ w', (Builtin.clear_ #[t] ty #[v]).run Try.prog w = .ok (.tuple #[]) w' ∧ w.grownBy w' v.ownBlock := by
  have hc := h
  rcases h.2 with ⟨rfl, hn⟩ | ⟨g, cap, cur, rfl, hb, hg, h1, h2, h3, h4⟩
  · exact ⟨w, by simp [Builtin.clear_, run_underlying ht], grown_refl _ _⟩
  · by_cases hn : n = 0
    · subst hn
      exact ⟨w, by simp [Builtin.clear_, run_underlying ht], grown_refl _ _⟩
    · refine ⟨_, Lib.run_clear_slice w t e ty (.int .i64 0) ht hz rfl rfl g 0 n cap (by omega) (fun j hj => ?_) (fun j hj => ?_), grown_setCells g _ 0 w⟩
      · rw [cell_of_row _ _ _ _ _ _ hg, Nat.zero_add]
        have : j < cur.size := by omega
        simp [this]
      · exact frozen_of_row _ _ _ _ _ hg
theorem wpList_clear_own {ops : Array Oper} {rest : List Oper} {o : Oper} {a : Act} {w : World} {Q : Exit → Act → World → Prop} (hgd : o.guard = none) (x : Operand) (t : TypeId) (ho : o.op = .call { callee := .builtin .clear, args := #[x], argTypes := #[t] })
    {e : TypeId} (ht : Try.prog.underlying t = some (.slice e)) (hz : ∀ w, (zeroValue e).run Try.prog w = .ok (.int .i64 0) w) (base : Nat) (v : Value) (n : Nat) (xs : List Value) (hx : a.eval x = v) (hown : w.ownsRow base e 1 v n xs)
    (h : ∀ w', w.grownBy w' v.ownBlock → wpList Try.prog ops Q rest (a.put o.dst (.tuple #[])) w') : wpList Try.prog ops Q (o :: rest) a w := by
  refine wpList_plain hgd fun K hK => ?_
  obtain ⟨w', hrun, hg⟩ := run_clear_own (ty := o.type) ht hz hown
  unfold Oper.wp
  simp [execOp, ho, resolve, invoke, builtin, hx, hrun, Result.andThen]
  exact hK _ _ (h w' hg)
theorem zero102 (w : World) : (zeroValue 102).run Try.prog w = .ok (.int .i64 0) w := by kernel_rfl

theorem field33 (v0 v1 : Value) (w : World) : (Instr.field 33 (.agg #[v0, v1]) 1).run Try.prog w = .ok v1 w := by kernel_rfl

def spT3 (wd : Int) (sv : Value) (xs : List Int) (B : Nat) : Nat → List Value → Value → World → Prop
  | 0, _, v, _ => v = .agg #[.int .i64 wd, sv]
  | 1, L, v, w => ∃ u, v = .agg #[.int .i64 wd, u] ∧ w.ownsRow B 102 1 u xs.length (xs.map (Value.int .i64))
  | 2, _, v, _ => v = .agg #[.int .i64 wd, sv]
  | 3, L, v, w => ∃ u, v = .agg #[.int .i64 wd, u] ∧ w.ownsRow B 3 1 u xs.length (xs.map (Value.int .i64))
  | 4, L, v, w => ∃ p, v = .pointer (some ⟨p, 0, none⟩) ∧ B ≤ p ∧ w.heap[p]? = some (.cells #[.int .i64 0, .slice none 0 0] 24 (0, 0))
  | 5, L, v, w => ∃ p, v = .pointer (some ⟨p, 0, none⟩) ∧ B ≤ p ∧ w.heap[p]? = some (.cells #[.int .i64 0, .slice none 0 0] 33 (0, 0))
  | _, _, _, _ => False
theorem spT3_stable (wd : Int) (sv : Value) (xs : List Int) (B : Nat) : ∀ i L v w w', spT3 wd sv xs B i L v w → Rs.Gr w w' → spT3 wd sv xs B i L v w' := by
  intro i L v w w' h hg
  match i with
  | 0 => exact h
  | 1 => obtain ⟨u, h1, h2⟩ := h; exact ⟨u, h1, own_below h2 hg⟩
  | 2 => exact h
  | 3 => obtain ⟨u, h1, h2⟩ := h; exact ⟨u, h1, own_below h2 hg⟩
  | 4 => obtain ⟨p, h1, h2, h3⟩ := h; exact ⟨p, h1, h2, (hg.block p (Array.getElem?_eq_some_iff.1 h3).1).trans h3⟩
  | 5 => obtain ⟨p, h1, h2, h3⟩ := h; exact ⟨p, h1, h2, (hg.block p (Array.getElem?_eq_some_iff.1 h3).1).trans h3⟩
def spT4 (wd : Int) (u7 u8 : Value) (E A wind voice : Int) (bx : Nat) : Nat → List Value → Value → World → Prop
  | 0, _, v, _ => v = .agg #[.int .i64 wd, u7]
  | 1, _, v, _ => v = .int .i64 E
  | 2, _, v, _ => v = .agg #[.int .i64 wd, u8]
  | 3, _, v, _ => v = .int .i64 E
  | 4, _, v, _ => v = .bool false
  | 5, _, v, _ => v = .bool false
  | 6, _, v, _ => v = .agg #[.int .i64 wind, .int .i64 voice]
  | 7, _, v, _ => v = .int .i64 A
  | 8, _, v, _ => v = .pointer (some ⟨bx, 0, none⟩)
  | 9, _, v, _ => v = .int .i64 wind
  | 10, _, v, _ => v = .pointer (some ⟨bx, 1, none⟩)
  | 11, _, v, _ => v = .int .i64 voice
  | _, _, _, _ => False
theorem spT4_stable (wd : Int) (u7 u8 : Value) (E A wind voice : Int) (bx : Nat) : ∀ i L v w w', spT4 wd u7 u8 E A wind voice bx i L v w → Rs.Gr w w' → spT4 wd u7 u8 E A wind voice bx i L v w' := by
  intro i L v w w' h hg
  match i with
  | 0 => exact h
  | 1 => exact h
  | 2 => exact h
  | 3 => exact h
  | 4 => exact h
  | 5 => exact h
  | 6 => exact h
  | 7 => exact h
  | 8 => exact h
  | 9 => exact h
  | 10 => exact h
  | 11 => exact h
def spT8 (E wW : Int) (c9 c11 : Nat) (v9 v11 : Value) (L9 : List Int) : Nat → List Value → Value → World → Prop
  | 0, _, v, _ => v = .int .i64 E
  | 1, _, v, _ => v = .int .i64 E
  | 2, _, v, _ => v = .bool false
  | 3, _, v, _ => v = .bool false
  | 4, _, v, _ => v = .pointer (some ⟨c9, 0, none⟩)
  | 5, _, v, _ => v = .int .i64 wW
  | 6, _, v, _ => v = .pointer (some ⟨c11, 0, none⟩)
  | 7, _, v, _ => v = .int .i64 wW
  | 8, _, v, _ => v = .bool false
  | 9, _, v, _ => v = .bool false
  | 10, _, v, _ => v = .bool false
  | 11, _, v, _ => v = .agg #[.int .i64 wW, v9]
  | 12, L, v, w => ∃ u, v = .agg #[.int .i64 wW, u] ∧ RdI w u L9
  | 13, L, v, w => RdI w v L9
  | 14, _, v, _ => v = .pointer (some ⟨c11, 1, none⟩)
  | 15, _, v, _ => v = v11
  | _, _, _, _ => False
theorem spT8_stable (E wW : Int) (c9 c11 : Nat) (v9 v11 : Value) (L9 : List Int) : ∀ i L v w w', spT8 E wW c9 c11 v9 v11 L9 i L v w → Rs.Gr w w' → spT8 E wW c9 c11 v9 v11 L9 i L v w' := by
  intro i L v w w' h hg
  match i with
  | 0 => exact h
  | 1 => exact h
  | 2 => exact h
  | 3 => exact h
  | 4 => exact h
  | 5 => exact h
  | 6 => exact h
  | 7 => exact h
  | 8 => exact h
  | 9 => exact h
  | 10 => exact h
  | 11 => exact h
  | 12 => obtain ⟨u, h1, h2⟩ := h; exact ⟨u, h1, h2.below hg⟩
  | 13 => exact h.below hg
  | 14 => exact h
  | 15 => exact h

set_option maxHeartbeats 1000000 in
set_option maxRecDepth 100000 in
theorem HearTowns_any (wd : Int) (a : Option Addr) (cap : Nat) (xs : List Int) (wind voice plot : Int) (w : World) (hR : RdI w (.slice a xs.length cap) xs) :
    Calls Try.prog 3 #[.agg #[.int .i64 wd, .slice a xs.length cap], .agg #[.int .i64 wind, .int .i64 voice], .int .i64 plot] w fun e w' => e = .returned (.bool true) ∧ Below w.heap.size w w' := by
  have HR := Lib.hid hR
  have HB0 := Lib.hid (al (below1 w (.cells #[.int .i64 wd, .slice a xs.length cap] 24)) (.cells #[.int .i64 wind, .int .i64 voice] 27))
  have hx0 : ((w.alloc (.cells #[.int .i64 wd, .slice a xs.length cap] 24)).alloc (.cells #[.int .i64 wind, .int .i64 voice] 27)).heap[w.heap.size]? = some (.cells #[.int .i64 wd, .slice a xs.length cap] 24 (0, 0)) := (Below.heap_alloc _ _ _ (by simp)).trans (heap_alloc_last _ _)
  have hx1 : ((w.alloc (.cells #[.int .i64 wd, .slice a xs.length cap] 24)).alloc (.cells #[.int .i64 wind, .int .i64 voice] 27)).heap[w.heap.size + 1]? = some (.cells #[.int .i64 wind, .int .i64 voice] 27 (0, 0)) := by
    have := heap_alloc_last (w.alloc (.cells #[.int .i64 wd, .slice a xs.length cap] 24)) (.cells #[.int .i64 wind, .int .i64 voice] 27); simpa using this
  have HX0 := Lib.hid hx0
  have HX1 := Lib.hid hx1
  have hl9 : xs.length ≤ 9223372036854775807 := hR.1
  clear hR hx0 hx1
  by_cases hgr : 40 < xs.length
  · have hg : decide (40 < (xs.length : Int)) = true := by simp; omega
    have HG := Lib.hid (fun W => great_any a wd xs.length cap W)
    rw [hg] at HG
    clear hg
    go_enter Try.func3, Try.ntmps3
    go_wp2_with fail
    refine (HG.out _).mono ?_
    rintro e w1 ⟨rfl, hB⟩
    have HB1 := Lib.hid (join HB0.out hB)
    clear hB
    go_wp2_with fail
    refine (awake_any w1).mono ?_
    rintro e w2 ⟨rfl, hB⟩
    have HB2 := Lib.hid (join HB1.out hB)
    clear hB
    go_wp2
    go_ret
    exact ⟨rfl, HB2.out⟩
  · have hg : decide (40 < (xs.length : Int)) = false := by simp; omega
    have HG := Lib.hid (fun W => great_any a wd xs.length cap W)
    rw [hg] at HG
    have hl : xs.length ≤ 1000000 := by omega
    clear hg
    go_enter Try.func3, Try.ntmps3
    go_wp2_with fail
    refine (HG.out _).mono ?_
    rintro e w1 ⟨rfl, hB⟩
    have HX0 := (hB.block w.heap.size (by simp; omega)).trans HX0.out
    have HX1 := (hB.block (w.heap.size + 1) (by simp)).trans HX1.out
    have HZ0 : w.heap.size < w1.heap.size := (Array.getElem?_eq_some_iff.1 HX0).1
    have HB := Lib.hid (join HB0.out hB)
    clear hB HB0
    go_wp2_with fail
    refine Rs.region_gen 6 [[], [0], [], [0, 1, 2], [], []] [some 16, some 17, some 18, some 19, some 7, some 8] (spT3 wd (.slice a xs.length cap) xs w1.heap.size) (by kernel_rfl) (by kernel_rfl) rfl (spT3_stable _ _ _ _) ?_ ?_
    · refine ⟨fun V w' hG hs => ?_, fun V w' hG hs => ?_, fun V w' hG hs => ?_, fun V w' hG hs => ?_, fun V w' hG hs => ?_, fun V w' hG hs => ?_, trivial⟩
      all_goals
        obtain ⟨k0, k1⟩ := blk_cells2 ((hG.block w.heap.size HZ0).trans HX0)
      · rw [if_pos (by rfl)]
        exact Rs.GrowL.value (v := .agg #[.int .i64 wd, (.slice a xs.length cap)]) (w' := w') (by simp [go_sem, Rs.look, k0, k1]) (Rs.Gr.refl _) rfl
      · have e0 : V 0 = .agg #[.int .i64 wd, (.slice a xs.length cap)] := hs 0 (by simp)
        rw [if_pos (by rfl)]
        refine Rs.GrowL.call (f := 17) (args := #[.agg #[.int .i64 wd, .slice a xs.length cap]]) (by simp [go_sem, Rs.look, e0]) ?_
        refine (Own_any wd a cap xs hl w' (HR.out.below (join HB.out hG))).mono ?_
        rintro e w2 ⟨u, rfl, ho, hB2⟩
        exact ⟨_, rfl, hB2, u, rfl, own_base ho hG.size⟩
      · rw [if_pos (by rfl)]
        exact Rs.GrowL.value (v := .agg #[.int .i64 wd, (.slice a xs.length cap)]) (w' := w') (by simp [go_sem, Rs.look, k0, k1]) (Rs.Gr.refl _) rfl
      · have e0 : V 0 = .agg #[.int .i64 wd, (.slice a xs.length cap)] := hs 0 (by simp)
        have r1 := hs 1 (by simp)
        have e2 : V 2 = .agg #[.int .i64 wd, (.slice a xs.length cap)] := hs 2 (by simp)
        rw [if_pos (by rfl)]
        refine Rs.GrowL.call (f := 18) (args := #[.agg #[.int .i64 wd, .slice a xs.length cap]]) (by simp [go_sem, Rs.look, e2]) ?_
        refine (theirs_any wd a cap xs hl w' (HR.out.below (join HB.out hG))).mono ?_
        rintro e w2 ⟨u, rfl, ho, hB2⟩
        exact ⟨_, rfl, hB2, u, rfl, own_base ho hG.size⟩
      · rw [if_pos (by rfl)]
        exact Rs.GrowL.value (v := .pointer (some ⟨w'.heap.size, 0, none⟩)) (w' := w'.alloc (.cells #[.int .i64 0, .slice none 0 0] 24)) (by simp [go_sem, Rs.look]) (below1 _ _) ⟨_, rfl, hG.size, heap_alloc_last _ _⟩
      · rw [if_pos (by rfl)]
        exact Rs.GrowL.value (v := .pointer (some ⟨w'.heap.size, 0, none⟩)) (w' := w'.alloc (.cells #[.int .i64 0, .slice none 0 0] 33)) (by simp [go_sem, Rs.look]) (below1 _ _) ⟨_, rfl, hG.size, heap_alloc_last _ _⟩
    · intro V w' hG hs
      have e0 : V 0 = .agg #[.int .i64 wd, (.slice a xs.length cap)] := hs 0 (by omega)
      have r1 := hs 1 (by omega)
      have e2 : V 2 = .agg #[.int .i64 wd, (.slice a xs.length cap)] := hs 2 (by omega)
      have r3 := hs 3 (by omega)
      have r4 := hs 4 (by omega)
      have r5 := hs 5 (by omega)

      obtain ⟨u7, e1, o7⟩ : ∃ u, V 1 = .agg #[.int .i64 wd, u] ∧ w'.ownsRow w1.heap.size 102 1 u xs.length (xs.map (Value.int .i64)) := r1
      obtain ⟨u8, e3, o8⟩ : ∃ u, V 3 = .agg #[.int .i64 wd, u] ∧ w'.ownsRow w1.heap.size 3 1 u xs.length (xs.map (Value.int .i64)) := r3
      obtain ⟨c7, e4, hc7, x7⟩ : ∃ p, V 4 = .pointer (some ⟨p, 0, none⟩) ∧ w1.heap.size ≤ p ∧ w'.heap[p]? = some (.cells #[.int .i64 0, .slice none 0 0] 24 (0, 0)) := r4
      obtain ⟨c8, e5, hc8, x8⟩ : ∃ p, V 5 = .pointer (some ⟨p, 0, none⟩) ∧ w1.heap.size ≤ p ∧ w'.heap[p]? = some (.cells #[.int .i64 0, .slice none 0 0] 33 (0, 0)) := r5
      simp only [Rs.canon, Rs.dstOf, List.range_succ, List.range_zero, List.nil_append, List.cons_append, List.foldl_cons, List.foldl_nil, List.drop_succ_cons, List.drop_zero, List.drop_nil, List.getElem?_toArray, List.getElem?_cons_succ, List.getElem?_cons_zero, Option.bind_some, Act.put, List.getD_cons_succ, List.getD_cons_zero, List.setIfInBounds_toArray, List.set_cons_succ, List.set_cons_zero]
      rw [e0, e2, e1, e3, e4, e5]
      clear e0 e2 e1 e3 e4 e5 hs
      obtain ⟨a7, p7, rfl⟩ := own_slice o7
      obtain ⟨a8, p8, rfl⟩ := own_slice o8
      have hne : c7 ≠ c8 := fun e => by rw [e, x8] at x7; injection x7 with h; injection h with _ h; cases h
      obtain ⟨q0, q1⟩ := blk_cells2 x7
      obtain ⟨q2, q3⟩ := blk_cells2 x8
      have f0 := frozen_of_row w' c7 0 _ _ x7
      have f1 := frozen_of_row w' c7 1 _ _ x7
      have f2 := frozen_of_row w' c8 0 _ _ x8
      have f3 := frozen_of_row w' c8 1 _ _ x8
      have HL := Lib.hid (LwT.start (wd := wd) x7 x8 o7 o8)
      have HB := Lib.hid (setc (setc (setc (setc (join HB.out hG) (v := .int .i64 wd) (p := ⟨c7, 0, none⟩) (by have := HB.out.size; simp; omega)) (v := .slice a7 xs.length p7) (p := ⟨c7, 1, none⟩) (by have := HB.out.size; simp; omega)) (v := .int .i64 wd) (p := ⟨c8, 0, none⟩) (by have := HB.out.size; simp; omega)) (v := .slice a8 xs.length p8) (p := ⟨c8, 1, none⟩) (by have := HB.out.size; simp; omega))
      have hX0 := (hG.block w.heap.size HZ0).trans HX0
      have hX1 := (hG.block (w.heap.size + 1) (by have := (Array.getElem?_eq_some_iff.1 HX1).1; omega)).trans HX1
      have n0 : ∀ c, w1.heap.size ≤ c → w.heap.size ≠ c := fun c hc => by omega
      have n1 : ∀ c, w1.heap.size ≤ c → w.heap.size + 1 ≠ c := fun c hc => by have := (Array.getElem?_eq_some_iff.1 HX1).1; omega
      have HX0 := Lib.hid ((Below.heap_setCell ((( w'.setCell ⟨c7, 0, none⟩ (.int .i64 wd)).setCell ⟨c7, 1, none⟩ (.slice a7 xs.length p7)).setCell ⟨c8, 0, none⟩ (.int .i64 wd)) ⟨c8, 1, none⟩ (.slice a8 xs.length p8) _ (n0 c8 hc8)).trans ((Below.heap_setCell _ _ _ _ (n0 c8 hc8)).trans ((Below.heap_setCell _ _ _ _ (n0 c7 hc7)).trans ((Below.heap_setCell _ _ _ _ (n0 c7 hc7)).trans hX0))))
      have HX1 := Lib.hid ((Below.heap_setCell ((( w'.setCell ⟨c7, 0, none⟩ (.int .i64 wd)).setCell ⟨c7, 1, none⟩ (.slice a7 xs.length p7)).setCell ⟨c8, 0, none⟩ (.int .i64 wd)) ⟨c8, 1, none⟩ (.slice a8 xs.length p8) _ (n1 c8 hc8)).trans ((Below.heap_setCell _ _ _ _ (n1 c8 hc8)).trans ((Below.heap_setCell _ _ _ _ (n1 c7 hc7)).trans ((Below.heap_setCell _ _ _ _ (n1 c7 hc7)).trans hX1))))
      clear o7 o8 x7 x8 hX0 hX1 n0 n1
      clear hG
      go_wp2_with fail
      refine wp_named fun W hW => ?_
      rw [← hW] at HL HB HX0 HX1
      clear hW
      obtain ⟨E, hE⟩ : ∃ E, E = checkErr wd xs := ⟨_, rfl⟩
      obtain ⟨A, hA⟩ : ∃ A, A = airErr wind voice := ⟨_, rfl⟩
      have HE := Lib.hid hE
      have HA := Lib.hid hA
      have HZ1 : w.heap.size + 1 < W.heap.size := (Array.getElem?_eq_some_iff.1 HX1.out).1
      clear hE hA
      refine Rs.region_gen 12 [[], [0], [], [0, 1, 2], [0, 1, 2, 3], [0, 1, 2, 3, 4], [0, 1, 2, 3, 4, 5], [0, 1, 2, 3, 4, 5, 6], [0, 1, 2, 3, 4, 5], [0, 1, 2, 3, 4, 5, 8], [0, 1, 2, 3, 4, 5], [0, 1, 2, 3, 4, 5, 10]] [some 20, some 21, some 22, some 23, some 24, some 25, some 26, some 27, some 28, some 29, some 30, some 31] (spT4 wd (.slice a7 xs.length p7) (.slice a8 xs.length p8) E A wind voice (w.heap.size + 1)) (by kernel_rfl) (by kernel_rfl) rfl (spT4_stable _ _ _ _ _ _ _ _) ?_ ?_
      · refine ⟨fun V w' hG hs => ?_, fun V w' hG hs => ?_, fun V w' hG hs => ?_, fun V w' hG hs => ?_, fun V w' hG hs => ?_, fun V w' hG hs => ?_, fun V w' hG hs => ?_, fun V w' hG hs => ?_, fun V w' hG hs => ?_, fun V w' hG hs => ?_, fun V w' hG hs => ?_, fun V w' hG hs => ?_, trivial⟩
        all_goals
          obtain ⟨⟨k0, k1⟩, k2, k3⟩ := (HL.out.below hG).cs
          obtain ⟨k4, k5⟩ := blk_cells2 ((hG.block (w.heap.size + 1) HZ1).trans HX1.out)
        · rw [if_pos (by rfl)]
          exact Rs.GrowL.value (v := .agg #[.int .i64 wd, (.slice a7 xs.length p7)]) (w' := w') (by simp [go_sem, Rs.look, k0, k1]) (Rs.Gr.refl _) rfl
        · have e0 : V 0 = .agg #[.int .i64 wd, (.slice a7 xs.length p7)] := hs 0 (by simp)
          rw [if_pos (by rfl)]
          refine Rs.GrowL.call (f := 19) (args := #[.agg #[.int .i64 wd, .slice a7 xs.length p7]]) (by simp [go_sem, Rs.look, e0]) ?_
          refine (Check_any wd a7 p7 xs hl w' ((HL.out.below hG).r7)).mono ?_
          rintro e w2 ⟨rfl, hB2⟩
          exact ⟨_, rfl, hB2, congrArg (Value.int .i64) HE.out.symm⟩
        · rw [if_pos (by rfl)]
          exact Rs.GrowL.value (v := .agg #[.int .i64 wd, (.slice a8 xs.length p8)]) (w' := w') (by simp [go_sem, Rs.look, k2, k3]) (Rs.Gr.refl _) rfl
        · have e0 : V 0 = .agg #[.int .i64 wd, (.slice a7 xs.length p7)] := hs 0 (by simp)
          have e1 : V 1 = .int .i64 E := hs 1 (by simp)
          have e2 : V 2 = .agg #[.int .i64 wd, (.slice a8 xs.length p8)] := hs 2 (by simp)
          rw [if_pos (by rfl)]
          refine Rs.GrowL.call (f := 20) (args := #[.agg #[.int .i64 wd, .slice a8 xs.length p8]]) (by simp [go_sem, Rs.look, e2]) ?_
          refine (refCheck_any wd a8 p8 xs hl w' ((HL.out.below hG).r8)).mono ?_
          rintro e w2 ⟨rfl, hB2⟩
          exact ⟨_, rfl, hB2, congrArg (Value.int .i64) HE.out.symm⟩
        · have e0 : V 0 = .agg #[.int .i64 wd, (.slice a7 xs.length p7)] := hs 0 (by simp)
          have e1 : V 1 = .int .i64 E := hs 1 (by simp)
          have e2 : V 2 = .agg #[.int .i64 wd, (.slice a8 xs.length p8)] := hs 2 (by simp)
          have e3 : V 3 = .int .i64 E := hs 3 (by simp)
          rw [if_pos (by rfl)]
          exact Rs.GrowL.value (v := .bool false) (w' := w') (by simp [go_sem, Rs.look, e0, e1, e2, e3]) (Rs.Gr.refl _) rfl
        · have e0 : V 0 = .agg #[.int .i64 wd, (.slice a7 xs.length p7)] := hs 0 (by simp)
          have e1 : V 1 = .int .i64 E := hs 1 (by simp)
          have e2 : V 2 = .agg #[.int .i64 wd, (.slice a8 xs.length p8)] := hs 2 (by simp)
          have e3 : V 3 = .int .i64 E := hs 3 (by simp)
          have e4 : V 4 = .bool false := hs 4 (by simp)
          rw [if_pos (by rfl)]
          exact Rs.GrowL.value (v := .bool false) (w' := w') (by simp [go_sem, Rs.look, e0, e1, e2, e3, e4]) (Rs.Gr.refl _) rfl
        · have e0 : V 0 = .agg #[.int .i64 wd, (.slice a7 xs.length p7)] := hs 0 (by simp)
          have e1 : V 1 = .int .i64 E := hs 1 (by simp)
          have e2 : V 2 = .agg #[.int .i64 wd, (.slice a8 xs.length p8)] := hs 2 (by simp)
          have e3 : V 3 = .int .i64 E := hs 3 (by simp)
          have e4 : V 4 = .bool false := hs 4 (by simp)
          have e5 : V 5 = .bool false := hs 5 (by simp)
          rw [if_pos (by simp [Rs.wantB, e5])]
          exact Rs.GrowL.value (v := .agg #[.int .i64 wind, .int .i64 voice]) (w' := w') (by simp [go_sem, Rs.look, e0, e1, e2, e3, e4, e5, k4, k5]) (Rs.Gr.refl _) rfl
        · have e0 : V 0 = .agg #[.int .i64 wd, (.slice a7 xs.length p7)] := hs 0 (by simp)
          have e1 : V 1 = .int .i64 E := hs 1 (by simp)
          have e2 : V 2 = .agg #[.int .i64 wd, (.slice a8 xs.length p8)] := hs 2 (by simp)
          have e3 : V 3 = .int .i64 E := hs 3 (by simp)
          have e4 : V 4 = .bool false := hs 4 (by simp)
          have e5 : V 5 = .bool false := hs 5 (by simp)
          have e6 : V 6 = .agg #[.int .i64 wind, .int .i64 voice] := hs 6 (by simp)
          rw [if_pos (by simp [Rs.wantB, e5])]
          refine Rs.GrowL.call (f := 21) (args := #[.agg #[.int .i64 wind, .int .i64 voice]]) (by simp [go_sem, Rs.look, e6]) ?_
          refine (checkAir_any wind voice w').mono ?_
          rintro e w2 ⟨rfl, hB2⟩
          exact ⟨_, rfl, hB2, congrArg (Value.int .i64) HA.out.symm⟩
        · have e0 : V 0 = .agg #[.int .i64 wd, (.slice a7 xs.length p7)] := hs 0 (by simp)
          have e1 : V 1 = .int .i64 E := hs 1 (by simp)
          have e2 : V 2 = .agg #[.int .i64 wd, (.slice a8 xs.length p8)] := hs 2 (by simp)
          have e3 : V 3 = .int .i64 E := hs 3 (by simp)
          have e4 : V 4 = .bool false := hs 4 (by simp)
          have e5 : V 5 = .bool false := hs 5 (by simp)
          rw [if_pos (by simp [Rs.wantB, e5])]
          exact Rs.GrowL.value (v := .pointer (some ⟨(w.heap.size + 1), 0, none⟩)) (w' := w') (by simp [go_sem, Rs.look, e0, e1, e2, e3, e4, e5]) (Rs.Gr.refl _) rfl
        · have e0 : V 0 = .agg #[.int .i64 wd, (.slice a7 xs.length p7)] := hs 0 (by simp)
          have e1 : V 1 = .int .i64 E := hs 1 (by simp)
          have e2 : V 2 = .agg #[.int .i64 wd, (.slice a8 xs.length p8)] := hs 2 (by simp)
          have e3 : V 3 = .int .i64 E := hs 3 (by simp)
          have e4 : V 4 = .bool false := hs 4 (by simp)
          have e5 : V 5 = .bool false := hs 5 (by simp)
          have e8 : V 8 = .pointer (some ⟨(w.heap.size + 1), 0, none⟩) := hs 8 (by simp)
          rw [if_pos (by simp [Rs.wantB, e5])]
          exact Rs.GrowL.value (v := .int .i64 wind) (w' := w') (by simp [go_sem, Rs.look, e0, e1, e2, e3, e4, e5, e8, k4]) (Rs.Gr.refl _) rfl
        · have e0 : V 0 = .agg #[.int .i64 wd, (.slice a7 xs.length p7)] := hs 0 (by simp)
          have e1 : V 1 = .int .i64 E := hs 1 (by simp)
          have e2 : V 2 = .agg #[.int .i64 wd, (.slice a8 xs.length p8)] := hs 2 (by simp)
          have e3 : V 3 = .int .i64 E := hs 3 (by simp)
          have e4 : V 4 = .bool false := hs 4 (by simp)
          have e5 : V 5 = .bool false := hs 5 (by simp)
          rw [if_pos (by simp [Rs.wantB, e5])]
          exact Rs.GrowL.value (v := .pointer (some ⟨(w.heap.size + 1), 1, none⟩)) (w' := w') (by simp [go_sem, Rs.look, e0, e1, e2, e3, e4, e5]) (Rs.Gr.refl _) rfl
        · have e0 : V 0 = .agg #[.int .i64 wd, (.slice a7 xs.length p7)] := hs 0 (by simp)
          have e1 : V 1 = .int .i64 E := hs 1 (by simp)
          have e2 : V 2 = .agg #[.int .i64 wd, (.slice a8 xs.length p8)] := hs 2 (by simp)
          have e3 : V 3 = .int .i64 E := hs 3 (by simp)
          have e4 : V 4 = .bool false := hs 4 (by simp)
          have e5 : V 5 = .bool false := hs 5 (by simp)
          have e10 : V 10 = .pointer (some ⟨(w.heap.size + 1), 1, none⟩) := hs 10 (by simp)
          rw [if_pos (by simp [Rs.wantB, e5])]
          exact Rs.GrowL.value (v := .int .i64 voice) (w' := w') (by simp [go_sem, Rs.look, e0, e1, e2, e3, e4, e5, e10, k5]) (Rs.Gr.refl _) rfl
      · intro V w' hG hs
        have e0 : V 0 = .agg #[.int .i64 wd, (.slice a7 xs.length p7)] := hs 0 (by omega)
        have e1 : V 1 = .int .i64 E := hs 1 (by omega)
        have e2 : V 2 = .agg #[.int .i64 wd, (.slice a8 xs.length p8)] := hs 2 (by omega)
        have e3 : V 3 = .int .i64 E := hs 3 (by omega)
        have e4 : V 4 = .bool false := hs 4 (by omega)
        have e5 : V 5 = .bool false := hs 5 (by omega)
        have e6 : V 6 = .agg #[.int .i64 wind, .int .i64 voice] := hs 6 (by omega)
        have e7 : V 7 = .int .i64 A := hs 7 (by omega)
        have e8 : V 8 = .pointer (some ⟨(w.heap.size + 1), 0, none⟩) := hs 8 (by omega)
        have e9 : V 9 = .int .i64 wind := hs 9 (by omega)
        have e10 : V 10 = .pointer (some ⟨(w.heap.size + 1), 1, none⟩) := hs 10 (by omega)
        have e11 : V 11 = .int .i64 voice := hs 11 (by omega)
        simp only [Rs.canon, Rs.dstOf, List.range_succ, List.range_zero, List.nil_append, List.cons_append, List.foldl_cons, List.foldl_nil, List.drop_succ_cons, List.drop_zero, List.drop_nil, List.getElem?_toArray, List.getElem?_cons_succ, List.getElem?_cons_zero, Option.bind_some, Act.put, List.getD_cons_succ, List.getD_cons_zero, List.setIfInBounds_toArray, List.set_cons_succ, List.set_cons_zero]
        rw [e0, e1, e2, e3, e4, e5, e6, e7, e8, e9, e10, e11]
        clear e0 e1 e2 e3 e4 e5 e6 e7 e8 e9 e10 e11 hs
        have HL := Lib.hid (HL.out.below hG)
        have HB := Lib.hid (join HB.out hG)
        have HX0 := Lib.hid ((hG.block w.heap.size (by omega)).trans HX0.out)
        clear hG HX1
        go_wp2_with fail
        refine (refAir_any wind voice w').mono ?_
        rintro e w2 ⟨rfl, rfl⟩
        rw [← HA.out]
        clear HA
        obtain ⟨⟨k0, k1⟩, k2, k3⟩ := HL.out.cs
        go_wp2_with fail
        have HLk := Lib.hid HL.out
        have HX0k := Lib.hid HX0.out
        have HBk := Lib.hid HB.out
        have HZk : w.heap.size < w'.heap.size := (Array.getElem?_eq_some_iff.1 HX0.out).1
        have hzw : w'.heap.size ≤ w'.heap.size := Nat.le_refl _
        clear HB HX0
        obtain ⟨wk, hwk⟩ : ∃ wk, wk = w' := ⟨_, rfl⟩
        subst hwk
        refine (Walled_any wd a7 p7 xs plot hl wk HL.out.r7).mono ?_
        rintro e w2 ⟨v9, rfl, ho9, hB2⟩
        obtain ⟨L9, hL9⟩ : ∃ L, L = walledP wd xs plot := ⟨_, rfl⟩
        obtain ⟨wW, hwW⟩ : ∃ L, L = walledW wd xs plot := ⟨_, rfl⟩
        obtain ⟨wE, hwE⟩ : ∃ L, L = walledE wd xs plot := ⟨_, rfl⟩
        rw [← hL9] at ho9
        rw [← hwW, ← hwE]
        have hlL9 : L9.length ≤ 1000000 := by rw [hL9]; unfold walledP; split <;> simp <;> omega
        have HL := Lib.hid (HL.out.below hB2)
        obtain ⟨a9, p9, rfl⟩ := own_slice ho9
        have HO9 := Lib.hid ho9
        have HB := Lib.hid hB2
        have HWL := Lib.hid (And.intro hL9 (And.intro hwW hwE))
        clear hB2 k0 k1 k2 k3 ho9 hL9 hwW hwE
        obtain ⟨⟨k0, k1⟩, k2, k3⟩ := HL.out.cs
        have lt8 : c8 < w2.heap.size := (Array.getElem?_eq_some_iff.1 HL.out.b8).1
        go_wp2_with fail
        clear lt8
        obtain ⟨c9, hc9⟩ : ∃ c, c = w2.heap.size := ⟨_, rfl⟩
        have HC9 := Lib.hid (heap_alloc_last w2 (.cells #[.int .i64 wW, .slice a9 L9.length p9] 24))
        rw [← hc9] at HC9 ⊢
        have HL := Lib.hid (HL.out.below (below1 w2 (.cells #[.int .i64 wW, .slice a9 L9.length p9] 24)))
        have HO9 := Lib.hid (own_below HO9.out (below1 w2 (.cells #[.int .i64 wW, .slice a9 L9.length p9] 24)))
        have HB := Lib.hid (al HB.out (.cells #[.int .i64 wW, .slice a9 L9.length p9] 24))
        clear k0 k1 k2 k3 hc9
        refine calls_named fun W3 hW3 => ?_
        rw [← hW3] at HL HB HC9 HO9
        clear hW3
        refine (refWalled_any wd a8 p8 xs plot hl W3 HL.out.r8).mono ?_
        rintro e w5 ⟨v11, rfl, ho11, hB5⟩
        rw [← HWL.out.1] at ho11
        rw [← HWL.out.2.1, ← HWL.out.2.2]
        clear HWL
        obtain ⟨a11, p11, rfl⟩ := own_slice ho11
        have HL := Lib.hid (HL.out.below hB5)
        have HC9 := Lib.hid ((hB5.block c9 (Array.getElem?_eq_some_iff.1 HC9.out).1).trans HC9.out)
        have HO9 := Lib.hid (own_below HO9.out hB5)
        have HB := Lib.hid (join HB.out hB5)
        have HR11 := Lib.hid (RdI.own rfl rfl ho11)
        clear hB5 ho11
        go_wp2_with fail
        obtain ⟨c11, hc11⟩ : ∃ c, c = w5.heap.size := ⟨_, rfl⟩
        have HC11 := Lib.hid (heap_alloc_last w5 (.cells #[.int .i64 wW, .slice a11 L9.length p11] 33))
        rw [← hc11] at HC11 ⊢
        have hbl := below1 w5 (.cells #[.int .i64 wW, .slice a11 L9.length p11] 33)
        have HL := Lib.hid (HL.out.below hbl)
        have HC9 := Lib.hid ((hbl.block c9 (Array.getElem?_eq_some_iff.1 HC9.out).1).trans HC9.out)
        have HO9 := Lib.hid (own_below HO9.out hbl)
        have HB := Lib.hid (join HB.out hbl)
        have HR11 := Lib.hid (HR11.out.below hbl)
        clear hbl hc11
        refine wp_named fun W6 hW6 => ?_
        rw [← hW6] at HL HB HC9 HO9 HR11 HC11
        clear hW6
        have R9 := Lib.hid (RdI.own rfl rfl HO9.out)
        have HZ9 : c9 < W6.heap.size := (Array.getElem?_eq_some_iff.1 HC9.out).1
        have HZ11 : c11 < W6.heap.size := (Array.getElem?_eq_some_iff.1 HC11.out).1
        refine Rs.region_gen 16 [[], [], [0, 1], [0, 1, 2], [0, 1, 2, 3], [0, 1, 2, 3, 4], [0, 1, 2, 3], [0, 1, 2, 3, 6], [0, 1, 2, 3, 4, 5, 6, 7], [0, 1, 2, 3, 4, 5, 6, 7, 8], [0, 1, 2, 3, 4, 5, 6, 7, 8, 9], [0, 1, 2, 3, 4, 5, 6, 7, 8, 9, 10], [0, 1, 2, 3, 4, 5, 6, 7, 8, 9, 10, 11], [0, 1, 2, 3, 4, 5, 6, 7, 8, 9, 10, 11, 12], [0, 1, 2, 3, 4, 5, 6, 7, 8, 9, 10], [0, 1, 2, 3, 4, 5, 6, 7, 8, 9, 10, 14]] [some 47, some 48, some 49, some 50, some 51, some 52, some 53, some 54, some 55, some 56, some 57, some 58, some 59, some 60, some 61, some 62] (spT8 wE wW c9 c11 (.slice a9 L9.length p9) (.slice a11 L9.length p11) L9) (by kernel_rfl) (by kernel_rfl) rfl (spT8_stable _ _ _ _ _ _ _) ?_ ?_
        · refine ⟨fun V w' hG hs => ?_, fun V w' hG hs => ?_, fun V w' hG hs => ?_, fun V w' hG hs => ?_, fun V w' hG hs => ?_, fun V w' hG hs => ?_, fun V w' hG hs => ?_, fun V w' hG hs => ?_, fun V w' hG hs => ?_, fun V w' hG hs => ?_, fun V w' hG hs => ?_, fun V w' hG hs => ?_, fun V w' hG hs => ?_, fun V w' hG hs => ?_, fun V w' hG hs => ?_, fun V w' hG hs => ?_, trivial⟩
          all_goals
            obtain ⟨k0, k1⟩ := blk_cells2 ((hG.block c9 HZ9).trans HC9.out)
            obtain ⟨k2, k3⟩ := blk_cells2 ((hG.block c11 HZ11).trans HC11.out)
          · rw [if_pos (by rfl)]
            exact Rs.GrowL.value (v := .int .i64 wE) (w' := w') (by simp [go_sem, Rs.look]) (Rs.Gr.refl _) rfl
          · rw [if_pos (by rfl)]
            exact Rs.GrowL.value (v := .int .i64 wE) (w' := w') (by simp [go_sem, Rs.look]) (Rs.Gr.refl _) rfl
          · have e0 : V 0 = .int .i64 wE := hs 0 (by simp)
            have e1 : V 1 = .int .i64 wE := hs 1 (by simp)
            rw [if_pos (by rfl)]
            exact Rs.GrowL.value (v := .bool false) (w' := w') (by simp [go_sem, Rs.look, e0, e1]) (Rs.Gr.refl _) rfl
          · have e0 : V 0 = .int .i64 wE := hs 0 (by simp)
            have e1 : V 1 = .int .i64 wE := hs 1 (by simp)
            have e2 : V 2 = .bool false := hs 2 (by simp)
            rw [if_pos (by rfl)]
            exact Rs.GrowL.value (v := .bool false) (w' := w') (by simp [go_sem, Rs.look, e0, e1, e2]) (Rs.Gr.refl _) rfl
          · have e0 : V 0 = .int .i64 wE := hs 0 (by simp)
            have e1 : V 1 = .int .i64 wE := hs 1 (by simp)
            have e2 : V 2 = .bool false := hs 2 (by simp)
            have e3 : V 3 = .bool false := hs 3 (by simp)
            rw [if_pos (by simp [Rs.wantB, e3])]
            exact Rs.GrowL.value (v := .pointer (some ⟨c9, 0, none⟩)) (w' := w') (by simp [go_sem, Rs.look, e0, e1, e2, e3]) (Rs.Gr.refl _) rfl
          · have e0 : V 0 = .int .i64 wE := hs 0 (by simp)
            have e1 : V 1 = .int .i64 wE := hs 1 (by simp)
            have e2 : V 2 = .bool false := hs 2 (by simp)
            have e3 : V 3 = .bool false := hs 3 (by simp)
            have e4 : V 4 = .pointer (some ⟨c9, 0, none⟩) := hs 4 (by simp)
            rw [if_pos (by simp [Rs.wantB, e3])]
            exact Rs.GrowL.value (v := .int .i64 wW) (w' := w') (by simp [go_sem, Rs.look, e0, e1, e2, e3, e4, k0]) (Rs.Gr.refl _) rfl
          · have e0 : V 0 = .int .i64 wE := hs 0 (by simp)
            have e1 : V 1 = .int .i64 wE := hs 1 (by simp)
            have e2 : V 2 = .bool false := hs 2 (by simp)
            have e3 : V 3 = .bool false := hs 3 (by simp)
            rw [if_pos (by simp [Rs.wantB, e3])]
            exact Rs.GrowL.value (v := .pointer (some ⟨c11, 0, none⟩)) (w' := w') (by simp [go_sem, Rs.look, e0, e1, e2, e3]) (Rs.Gr.refl _) rfl
          · have e0 : V 0 = .int .i64 wE := hs 0 (by simp)
            have e1 : V 1 = .int .i64 wE := hs 1 (by simp)
            have e2 : V 2 = .bool false := hs 2 (by simp)
            have e3 : V 3 = .bool false := hs 3 (by simp)
            have e6 : V 6 = .pointer (some ⟨c11, 0, none⟩) := hs 6 (by simp)
            rw [if_pos (by simp [Rs.wantB, e3])]
            exact Rs.GrowL.value (v := .int .i64 wW) (w' := w') (by simp [go_sem, Rs.look, e0, e1, e2, e3, e6, k2]) (Rs.Gr.refl _) rfl
          · have e0 : V 0 = .int .i64 wE := hs 0 (by simp)
            have e1 : V 1 = .int .i64 wE := hs 1 (by simp)
            have e2 : V 2 = .bool false := hs 2 (by simp)
            have e3 : V 3 = .bool false := hs 3 (by simp)
            have e4 : V 4 = .pointer (some ⟨c9, 0, none⟩) := hs 4 (by simp)
            have e5 : V 5 = .int .i64 wW := hs 5 (by simp)
            have e6 : V 6 = .pointer (some ⟨c11, 0, none⟩) := hs 6 (by simp)
            have e7 : V 7 = .int .i64 wW := hs 7 (by simp)
            rw [if_pos (by simp [Rs.wantB, e3])]
            exact Rs.GrowL.value (v := .bool false) (w' := w') (by simp [go_sem, Rs.look, e0, e1, e2, e3, e4, e5, e6, e7]) (Rs.Gr.refl _) rfl
          · have e0 : V 0 = .int .i64 wE := hs 0 (by simp)
            have e1 : V 1 = .int .i64 wE := hs 1 (by simp)
            have e2 : V 2 = .bool false := hs 2 (by simp)
            have e3 : V 3 = .bool false := hs 3 (by simp)
            have e4 : V 4 = .pointer (some ⟨c9, 0, none⟩) := hs 4 (by simp)
            have e5 : V 5 = .int .i64 wW := hs 5 (by simp)
            have e6 : V 6 = .pointer (some ⟨c11, 0, none⟩) := hs 6 (by simp)
            have e7 : V 7 = .int .i64 wW := hs 7 (by simp)
            have e8 : V 8 = .bool false := hs 8 (by simp)
            rw [if_pos (by rfl)]
            exact Rs.GrowL.value (v := .bool false) (w' := w') (by simp [go_sem, Rs.look, e0, e1, e2, e3, e4, e5, e6, e7, e8]) (Rs.Gr.refl _) rfl
          · have e0 : V 0 = .int .i64 wE := hs 0 (by simp)
            have e1 : V 1 = .int .i64 wE := hs 1 (by simp)
            have e2 : V 2 = .bool false := hs 2 (by simp)
            have e3 : V 3 = .bool false := hs 3 (by simp)
            have e4 : V 4 = .pointer (some ⟨c9, 0, none⟩) := hs 4 (by simp)
            have e5 : V 5 = .int .i64 wW := hs 5 (by simp)
            have e6 : V 6 = .pointer (some ⟨c11, 0, none⟩) := hs 6 (by simp)
            have e7 : V 7 = .int .i64 wW := hs 7 (by simp)
            have e8 : V 8 = .bool false := hs 8 (by simp)
            have e9 : V 9 = .bool false := hs 9 (by simp)
            rw [if_pos (by rfl)]
            exact Rs.GrowL.value (v := .bool false) (w' := w') (by simp [go_sem, Rs.look, e0, e1, e2, e3, e4, e5, e6, e7, e8, e9]) (Rs.Gr.refl _) rfl
          · have e0 : V 0 = .int .i64 wE := hs 0 (by simp)
            have e1 : V 1 = .int .i64 wE := hs 1 (by simp)
            have e2 : V 2 = .bool false := hs 2 (by simp)
            have e3 : V 3 = .bool false := hs 3 (by simp)
            have e4 : V 4 = .pointer (some ⟨c9, 0, none⟩) := hs 4 (by simp)
            have e5 : V 5 = .int .i64 wW := hs 5 (by simp)
            have e6 : V 6 = .pointer (some ⟨c11, 0, none⟩) := hs 6 (by simp)
            have e7 : V 7 = .int .i64 wW := hs 7 (by simp)
            have e8 : V 8 = .bool false := hs 8 (by simp)
            have e9 : V 9 = .bool false := hs 9 (by simp)
            have e10 : V 10 = .bool false := hs 10 (by simp)
            rw [if_pos (by simp [Rs.wantB, e10])]
            exact Rs.GrowL.value (v := .agg #[.int .i64 wW, (.slice a9 L9.length p9)]) (w' := w') (by simp [go_sem, Rs.look, e0, e1, e2, e3, e4, e5, e6, e7, e8, e9, e10, k0, k1]) (Rs.Gr.refl _) rfl
          · have e0 : V 0 = .int .i64 wE := hs 0 (by simp)
            have e1 : V 1 = .int .i64 wE := hs 1 (by simp)
            have e2 : V 2 = .bool false := hs 2 (by simp)
            have e3 : V 3 = .bool false := hs 3 (by simp)
            have e4 : V 4 = .pointer (some ⟨c9, 0, none⟩) := hs 4 (by simp)
            have e5 : V 5 = .int .i64 wW := hs 5 (by simp)
            have e6 : V 6 = .pointer (some ⟨c11, 0, none⟩) := hs 6 (by simp)
            have e7 : V 7 = .int .i64 wW := hs 7 (by simp)
            have e8 : V 8 = .bool false := hs 8 (by simp)
            have e9 : V 9 = .bool false := hs 9 (by simp)
            have e10 : V 10 = .bool false := hs 10 (by simp)
            have e11 : V 11 = .agg #[.int .i64 wW, (.slice a9 L9.length p9)] := hs 11 (by simp)
            rw [if_pos (by simp [Rs.wantB, e10])]
            refine Rs.GrowL.call (f := 18) (args := #[.agg #[.int .i64 wW, .slice a9 L9.length p9]]) (by simp [go_sem, Rs.look, e11]) ?_
            refine (theirs_any wW a9 p9 L9 hlL9 w' (R9.out.below hG)).mono ?_
            rintro e w2 ⟨u, rfl, ho, hB2⟩
            exact ⟨_, rfl, hB2, u, rfl, RdI.own rfl rfl ho⟩
          · have e0 : V 0 = .int .i64 wE := hs 0 (by simp)
            have e1 : V 1 = .int .i64 wE := hs 1 (by simp)
            have e2 : V 2 = .bool false := hs 2 (by simp)
            have e3 : V 3 = .bool false := hs 3 (by simp)
            have e4 : V 4 = .pointer (some ⟨c9, 0, none⟩) := hs 4 (by simp)
            have e5 : V 5 = .int .i64 wW := hs 5 (by simp)
            have e6 : V 6 = .pointer (some ⟨c11, 0, none⟩) := hs 6 (by simp)
            have e7 : V 7 = .int .i64 wW := hs 7 (by simp)
            have e8 : V 8 = .bool false := hs 8 (by simp)
            have e9 : V 9 = .bool false := hs 9 (by simp)
            have e10 : V 10 = .bool false := hs 10 (by simp)
            have e11 : V 11 = .agg #[.int .i64 wW, (.slice a9 L9.length p9)] := hs 11 (by simp)
            have r12 := hs 12 (by simp)
            rw [if_pos (by simp [Rs.wantB, e10])]
            obtain ⟨u, e12, hu⟩ : ∃ u, V 12 = .agg #[.int .i64 wW, u] ∧ RdI w' u L9 := r12
            obtain ⟨lu, au, cu, hsu, _⟩ := id hu
            exact Rs.GrowL.value (v := u) (w' := w') (by simp [go_sem, Rs.look, e12, field33]) (Rs.Gr.refl _) hu
          · have e0 : V 0 = .int .i64 wE := hs 0 (by simp)
            have e1 : V 1 = .int .i64 wE := hs 1 (by simp)
            have e2 : V 2 = .bool false := hs 2 (by simp)
            have e3 : V 3 = .bool false := hs 3 (by simp)
            have e4 : V 4 = .pointer (some ⟨c9, 0, none⟩) := hs 4 (by simp)
            have e5 : V 5 = .int .i64 wW := hs 5 (by simp)
            have e6 : V 6 = .pointer (some ⟨c11, 0, none⟩) := hs 6 (by simp)
            have e7 : V 7 = .int .i64 wW := hs 7 (by simp)
            have e8 : V 8 = .bool false := hs 8 (by simp)
            have e9 : V 9 = .bool false := hs 9 (by simp)
            have e10 : V 10 = .bool false := hs 10 (by simp)
            rw [if_pos (by simp [Rs.wantB, e10])]
            exact Rs.GrowL.value (v := .pointer (some ⟨c11, 1, none⟩)) (w' := w') (by simp [go_sem, Rs.look, e0, e1, e2, e3, e4, e5, e6, e7, e8, e9, e10]) (Rs.Gr.refl _) rfl
          · have e0 : V 0 = .int .i64 wE := hs 0 (by simp)
            have e1 : V 1 = .int .i64 wE := hs 1 (by simp)
            have e2 : V 2 = .bool false := hs 2 (by simp)
            have e3 : V 3 = .bool false := hs 3 (by simp)
            have e4 : V 4 = .pointer (some ⟨c9, 0, none⟩) := hs 4 (by simp)
            have e5 : V 5 = .int .i64 wW := hs 5 (by simp)
            have e6 : V 6 = .pointer (some ⟨c11, 0, none⟩) := hs 6 (by simp)
            have e7 : V 7 = .int .i64 wW := hs 7 (by simp)
            have e8 : V 8 = .bool false := hs 8 (by simp)
            have e9 : V 9 = .bool false := hs 9 (by simp)
            have e10 : V 10 = .bool false := hs 10 (by simp)
            have e14 : V 14 = .pointer (some ⟨c11, 1, none⟩) := hs 14 (by simp)
            rw [if_pos (by simp [Rs.wantB, e10])]
            exact Rs.GrowL.value (v := (.slice a11 L9.length p11)) (w' := w') (by simp [go_sem, Rs.look, e0, e1, e2, e3, e4, e5, e6, e7, e8, e9, e10, e14, k3]) (Rs.Gr.refl _) rfl
        · intro V w' hG hs
          have e0 : V 0 = .int .i64 wE := hs 0 (by omega)
          have e1 : V 1 = .int .i64 wE := hs 1 (by omega)
          have e2 : V 2 = .bool false := hs 2 (by omega)
          have e3 : V 3 = .bool false := hs 3 (by omega)
          have e4 : V 4 = .pointer (some ⟨c9, 0, none⟩) := hs 4 (by omega)
          have e5 : V 5 = .int .i64 wW := hs 5 (by omega)
          have e6 : V 6 = .pointer (some ⟨c11, 0, none⟩) := hs 6 (by omega)
          have e7 : V 7 = .int .i64 wW := hs 7 (by omega)
          have e8 : V 8 = .bool false := hs 8 (by omega)
          have e9 : V 9 = .bool false := hs 9 (by omega)
          have e10 : V 10 = .bool false := hs 10 (by omega)
          have e11 : V 11 = .agg #[.int .i64 wW, (.slice a9 L9.length p9)] := hs 11 (by omega)
          have r12 := hs 12 (by omega)
          have r13 := hs 13 (by omega)
          have e14 : V 14 = .pointer (some ⟨c11, 1, none⟩) := hs 14 (by omega)
          have e15 : V 15 = (.slice a11 L9.length p11) := hs 15 (by omega)
          simp only [Rs.canon, Rs.dstOf, List.range_succ, List.range_zero, List.nil_append, List.cons_append, List.foldl_cons, List.foldl_nil, List.drop_succ_cons, List.drop_zero, List.drop_nil, List.getElem?_toArray, List.getElem?_cons_succ, List.getElem?_cons_zero, Option.bind_some, Act.put, List.getD_cons_succ, List.getD_cons_zero, List.setIfInBounds_toArray, List.set_cons_succ, List.set_cons_zero]
          rw [e0, e1, e2, e3, e4, e5, e6, e7, e8, e9, e10, e11, e14, e15]
          clear e0 e1 e2 e3 e4 e5 e6 e7 e8 e9 e10 e11 e14 e15 hs
          have r13' : RdI w' (V 13) L9 := r13
          clear r12 r13
          generalize V 13 = v13 at r13' ⊢
          generalize V 12 = v12
          have HL := Lib.hid (HL.out.below hG)
          have HC9 := Lib.hid ((hG.block c9 HZ9).trans HC9.out)
          have HO9 := Lib.hid (own_below HO9.out hG)
          have HR11 := Lib.hid (HR11.out.below hG)
          have HR13 := Lib.hid r13'
          have HB := Lib.hid (join HB.out hG)
          clear hG r13' HC11
          go_wp2_with fail
          refine (Like_int v13 (.slice a11 L9.length p11) L9 L9 true (by simp) w' HR13.out HR11.out).mono ?_
          rintro e w7 ⟨rfl, hB7⟩
          have HL := Lib.hid (HL.out.below hB7)
          have HC9 := Lib.hid ((hB7.block c9 (Array.getElem?_eq_some_iff.1 HC9.out).1).trans HC9.out)
          have HO9 := Lib.hid (own_below HO9.out hB7)
          have HB := Lib.hid (join HB.out hB7)
          clear hB7 HR11 HR13
          obtain ⟨k0, k1⟩ := blk_cells2 HC9.out
          go_wp2_with (with_reducible refine wpList_clear_own rfl (.tmp 67) 22 rfl A_und22 zero102 wk.heap.size (.slice a9 L9.length p9) L9.length _ rfl HO9.out ?_)
          intro w8 hgr
          have HB8 := Lib.hid (below_grown HB.out HO9.out (Nat.le_refl _) HB.out.size hgr)
          clear hgr HO9 HC9 HL HB k0 k1
          have HL8 := Lib.hid (HLk.out.below HB8.out)
          have HX8 := Lib.hid ((HB8.out.block w.heap.size HZk).trans HX0k.out)
          have HB := Lib.hid (join HBk.out HB8.out)
          clear HLk HX0k HBk HB8
          obtain ⟨⟨k0, k1⟩, _, _⟩ := HL8.out.cs
          obtain ⟨k2, k3⟩ := blk_cells2 HX8.out
          have HR8 := Lib.hid (HR.out.below HB.out)
          go_wp2_with fail
          refine (same_yes wd a7 a xs.length p7 cap xs.length xs w8 HL8.out.r7 HR8.out).mono ?_
          rintro e w9 ⟨rfl, hB9⟩
          have HB := Lib.hid (join HB.out hB9)
          clear hB9
          go_wp2_with fail
          refine (awake_any w9).mono ?_
          rintro e w10 ⟨rfl, hB10⟩
          have HB := Lib.hid (join HB.out hB10)
          clear hB10
          go_wp2
          go_ret
          exact ⟨rfl, HB.out⟩
end Go.Proofs.Ytimedmkpenbmkaa
