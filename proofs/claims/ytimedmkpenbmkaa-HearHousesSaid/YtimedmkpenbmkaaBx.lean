/- A law's own town and that of the reference, made in a region that draws its order: worlds go on by new memory, and by filling two boxes. -/
import Derived.Test.YtimedmkpenbmkaaRg
import Derived.Test.YtimedmkpenbmkaaL1
namespace Go.Proofs.Ytimedmkpenbmkaa.Rg
open Go
theorem GrowL.skip {P : Program} {G : World → World → Prop} {o : Oper} {ρ : Operand → Value} {w w' : World} {Φ : Value → World → Prop} (h : (execOp ρ o).run P w = .ok .skip w') (hg : G w w') (hv : Φ undef w') : GrowL G P o ρ w Φ := by
  unfold GrowL; rw [h]; exact ⟨hg, hv⟩
end Go.Proofs.Ytimedmkpenbmkaa.Rg
namespace Go.Proofs.Ytimedmkpenbmkaa
open Go.RowKit Go.Shelf
set_option linter.unusedSimpArgs false
set_option linter.unusedVariables false

def Box2 (T e : TypeId) : Prop := T = 24 ∧ e = 102 ∨ T = 33 ∧ e = 3
/-- worlds go on: what was there stays, but for boxes behind B, which may be filled with a town -/
structure Bx (wd : Int) (xs : List Int) (B : Nat) (a b : World) : Prop where
  os : b.os = a.os
  tape : b.tape = a.tape
  output : b.output = a.output
  size : a.heap.size ≤ b.heap.size
  same : ∀ k, k < a.heap.size → b.heap[k]? = a.heap[k]? ∨ (B ≤ k ∧ ∃ T e u cs, Box2 T e ∧ a.heap[k]? = some (.cells cs T (0, 0)) ∧ b.heap[k]? = some (.cells #[.int .i64 wd, u] T (0, 0)) ∧ b.ownsRow B e 1 u xs.length (xs.map (Value.int .i64)))
theorem Bx.of_gr {wd : Int} {xs : List Int} {B : Nat} {a b : World} (h : Below a.heap.size a b) : Bx wd xs B a b := ⟨h.os, h.tape, h.output, h.size, fun k hk => .inl (h.block k hk)⟩
theorem Bx.low {wd : Int} {xs : List Int} {B : Nat} {a b : World} (h : Bx wd xs B a b) (hB : B ≤ a.heap.size) : Below B a b := ⟨h.os, h.tape, h.output, h.size, fun k hk => by
  rcases h.same k (by omega) with e | ⟨e, _⟩
  · exact e
  · omega⟩
theorem Bx.row {wd : Int} {xs : List Int} {B B0 : Nat} {a b : World} (h : Bx wd xs B a b) {e : TypeId} (he : e = 102 ∨ e = 3) {v : Value} {n : Nat} {l : List Value} (ho : a.ownsRow B0 e 1 v n l) : b.ownsRow B0 e 1 v n l := by
  refine ⟨ho.1, ?_⟩
  rcases ho.2 with h1 | ⟨g, cap, cur, h1, h2, h3, h4⟩
  · exact .inl h1
  · refine .inr ⟨g, cap, cur, h1, h2, ?_, h4⟩
    rcases h.same g (Array.getElem?_eq_some_iff.1 h3).1 with e1 | ⟨_, T, e', u, cs, hT, e1, _⟩
    · rw [e1]; exact h3
    · rw [h3] at e1
      injection e1 with e1
      injection e1 with _ e1
      rcases hT with ⟨rfl, _⟩ | ⟨rfl, _⟩ <;> rcases he with rfl | rfl <;> cases e1
theorem Box2.ty {T e : TypeId} (h : Box2 T e) : e = 102 ∨ e = 3 := h.imp And.right And.right
theorem Bx.isGr (wd : Int) (xs : List Int) (B : Nat) : Rg.IsGr (Bx wd xs B) where
  refl w := .of_gr (Below.refl _ _)
  drew w := .of_gr ((Below.refl _ _).drew)
  trans {a b c} h k := ⟨k.os.trans h.os, k.tape.trans h.tape, k.output.trans h.output, Nat.le_trans h.size k.size, fun i hi => by
    rcases k.same i (Nat.lt_of_lt_of_le hi h.size) with e1 | ⟨hB, T, e, u, cs, hT, e1, e2, e3⟩
    · rcases h.same i hi with e2 | ⟨hB, T, e, u, cs, hT, e2, e3, e4⟩
      · exact .inl (e1.trans e2)
      · exact .inr ⟨hB, T, e, u, cs, hT, e2, e1.trans e3, k.row hT.ty e4⟩
    · rcases h.same i hi with e4 | ⟨_, T', e', u', cs', hT', e4, e5, _⟩
      · exact .inr ⟨hB, T, e, u, cs, hT, e4.symm.trans e1, e2, e3⟩
      · rw [e5] at e1
        injection e1 with e1
        injection e1 with _ e1
        subst e1
        exact .inr ⟨hB, T', e, u, cs', hT, e4, e2, e3⟩⟩
/-- a box is filled -/
theorem Bx.fill {wd : Int} {xs : List Int} {B p : Nat} {a : World} {T e : TypeId} {c0 c1 u : Value} (hT : Box2 T e) (hp : B ≤ p) (hb : a.heap[p]? = some (.cells #[c0, c1] T (0, 0))) (ho : a.ownsRow B e 1 u xs.length (xs.map (Value.int .i64))) :
    Bx wd xs B a ((a.setCell ⟨p, 0, none⟩ (.int .i64 wd)).setCell ⟨p, 1, none⟩ u) ∧ ((a.setCell ⟨p, 0, none⟩ (.int .i64 wd)).setCell ⟨p, 1, none⟩ u).heap[p]? = some (.cells #[.int .i64 wd, u] T (0, 0)) ∧ ((a.setCell ⟨p, 0, none⟩ (.int .i64 wd)).setCell ⟨p, 1, none⟩ u).ownsRow B e 1 u xs.length (xs.map (Value.int .i64)) := by
  have h1 := heap_set_same (o := 0) (.int .i64 wd) hb
  have h2 := heap_set_same (o := 1) u h1
  have h3 : ((a.setCell ⟨p, 0, none⟩ (.int .i64 wd)).setCell ⟨p, 1, none⟩ u).heap[p]? = some (.cells #[.int .i64 wd, u] T (0, 0)) := h2
  have hne : ∀ g, u.ownBlock = some g → g ≠ p := fun g hg e2 => by
    rcases ho.2 with ⟨g1, _⟩ | ⟨g', cap, cur, g1, _, g3, _⟩
    · rw [g1] at hg; cases hg
    · rw [g1] at hg
      injection hg with hg
      simp only at hg
      rw [hg, e2, hb] at g3
      injection g3 with g3
      injection g3 with _ g3
      rcases hT with ⟨rfl, rfl⟩ | ⟨rfl, rfl⟩ <;> cases g3
  have hk : ∀ (W : World) (o : Nat) (x : Value), W.ownsRow B e 1 u xs.length (xs.map (Value.int .i64)) → (W.setCell ⟨p, o, none⟩ x).ownsRow B e 1 u xs.length (xs.map (Value.int .i64)) := fun W o x h => by
    refine h.kept (grown_set W p o x) ?_
    cases hu : u.ownBlock with
    | none => exact .inl rfl
    | some g => exact .inr (fun e2 => by injection e2 with e2; exact hne g hu e2)
  refine ⟨⟨rfl, rfl, rfl, by simp, fun k hk' => ?_⟩, h3, hk _ _ _ (hk _ _ _ ho)⟩
  by_cases e2 : k = p
  · subst e2
    exact .inr ⟨hp, T, e, u, _, hT, hb, h3, hk _ _ _ (hk _ _ _ ho)⟩
  · exact .inl ((Below.heap_setCell _ _ _ _ e2).trans (Below.heap_setCell _ _ _ _ e2))
end Go.Proofs.Ytimedmkpenbmkaa
