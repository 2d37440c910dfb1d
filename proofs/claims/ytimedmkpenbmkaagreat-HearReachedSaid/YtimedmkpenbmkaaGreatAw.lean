import Derived.Test.YtimedmkpenbmkaaGreatB8
import Derived.Deep.LoopGhost
import Derived.Lib.OthersKept
import Derived.Test.YtimedmkpenbmkaaGreatD12
import Derived.Test.YtimedmkpenbmkaaGreatW3
import Derived.Test.YtimedmkpenbmkaaGreatD18
import Derived.Test.YtimedmkpenbmkaaGreatLd
namespace Go.Proofs.YtimedmkpenbmkaaGreat
open Go.RowKit Go.Shelf
set_option linter.unusedSimpArgs false
set_option linter.unusedVariables false

/-! ### towns that are drawn -/
def kindOf (c : Nat) : Int := if c = 104 then 1 else if c = 115 then 0 else 2
def rowOf (s : ByteArray) : List Int := s.data.toList.map fun c => kindOf c.toNat
def plotsOf (ss : List ByteArray) : List Int := ss.flatMap rowOf
def wideOf (ss : List ByteArray) : Nat := (ss.getLast?.map (·.size)).getD 0
/-- rows of letters lie in memory -/
def Strs (w : World) (b : Nat) (ss : List ByteArray) : Prop := b < w.heap.size ∧ ∀ k s, ss[k]? = some s → w.cell? ⟨b, k, none⟩ = some (.string s)
theorem Strs.below {w w' : World} {B b : Nat} {ss : List ByteArray} (h : Strs w b ss) (hB : Below B w w') (hb : b < B) : Strs w' b ss :=
  ⟨Nat.lt_of_lt_of_le h.1 hB.size, fun k s hk => (hB.cell (p := ⟨b, k, none⟩) hb).trans (h.2 k s hk)⟩
theorem A_info102 : (Tryz.prog.info? 32).map (fun i => (i.zero, i.size, i.bytes)) = some (some (.int .i64 0), 1, 8) := by kernel_rfl
theorem A_und22 : Tryz.prog.underlying 23 = some (.slice 32) := by kernel_rfl
theorem wideOf_snoc (l : List ByteArray) (s : ByteArray) : wideOf (l ++ [s]) = s.size := by simp [wideOf]
theorem plotsOf_snoc (l : List ByteArray) (s : ByteArray) : plotsOf (l ++ [s]) = plotsOf l ++ rowOf s := by simp [plotsOf]
theorem rowOf_take (s : ByteArray) (p : Nat) (h : p < s.size) : (rowOf s).take (p + 1) = (rowOf s).take p ++ [kindOf (s[p]'h).toNat] := by
  have hl : p < (rowOf s).length := by simpa [rowOf] using h
  rw [List.take_succ_eq_append_getElem hl]
  simp [rowOf]
  rfl

/-- the world of Drawn -/
structure DrW (w : World) (wide : Int) (xs : List Int) (v : Value) (W : World) : Prop where
  res : W.heap[w.heap.size]? = some (.cells #[.int .i64 0, .slice none 0 0] 25 (0, 0))
  box : W.heap[w.heap.size + 1]? = some (.cells #[.int .i64 wide, v] 25 (0, 0))
  own : W.ownsRow (w.heap.size + 2) 32 1 v xs.length (xs.map (Value.int .i64))
  bel : Below w.heap.size w W
theorem DrW.size {w : World} {wide : Int} {xs : List Int} {v : Value} {W : World} (h : DrW w wide xs v W) : w.heap.size + 2 ≤ W.heap.size := by
  have := (Array.getElem?_eq_some_iff.1 h.box).1; omega
theorem DrW.start (w : World) : DrW w 0 [] (.slice none 0 0) ((w.alloc (.cells #[.int .i64 0, .slice none 0 0] 25)).alloc (.cells #[.int .i64 0, .slice none 0 0] 25)) := by
  refine ⟨?_, ?_, ⟨rfl, .inl ⟨rfl, rfl⟩⟩, al (al (Below.refl _ _) _) _⟩
  · exact (Below.heap_alloc _ _ _ (by simp)).trans (heap_alloc_last _ _)
  · have := heap_alloc_last (w.alloc (.cells #[.int .i64 0, .slice none 0 0] 25)) (.cells #[.int .i64 0, .slice none 0 0] 25); simpa using this
theorem DrW.below {w : World} {wide : Int} {xs : List Int} {v : Value} {W W' : World} (h : DrW w wide xs v W) (hB : Below W.heap.size W W') : DrW w wide xs v W' :=
  ⟨(hB.block _ (Array.getElem?_eq_some_iff.1 h.res).1).trans h.res, (hB.block _ (Array.getElem?_eq_some_iff.1 h.box).1).trans h.box, own_below h.own hB, join h.bel hB⟩
/-- an element more -/
theorem DrW.app {w : World} {wide : Int} {xs : List Int} {v v' : Value} {W W' : World} {x : Int} (h : DrW w wide xs v W) (hg : W.grownBy W' v.ownBlock)
    (ho : W'.ownsRow (w.heap.size + 2) 32 1 v' (xs.length + 1) (xs.map (Value.int .i64) ++ [.int .i64 x])) :
    DrW w wide (xs ++ [x]) v' (W'.setCell ⟨w.heap.size + 1, 1, none⟩ v') ∧ W'.cell? ⟨w.heap.size + 1, 1, none⟩ = some v ∧ W'.frozen? ⟨w.heap.size + 1, 1, none⟩ = false := by
  have hz := h.size
  have hne : ∀ k, k < w.heap.size + 2 → some k ≠ v.ownBlock := fun k hk e => by
    have := h.own.lt k e.symm; omega
  have hr := (hg.block w.heap.size (by omega) (fun e => hne _ (by omega) e)).trans h.res
  have hb := (hg.block (w.heap.size + 1) (by omega) (fun e => hne _ (by omega) e)).trans h.box
  refine ⟨⟨(Below.heap_setCell _ _ _ _ (by simp)).trans hr, heap_set_same _ hb, ?_, ?_⟩, ?_, ?_⟩
  · have : (xs ++ [x]).length = xs.length + 1 := by simp
    rw [this, List.map_append]
    refine ho.kept (grown_set W' (w.heap.size + 1) 1 v') ?_
    rcases ho.2 with ⟨h1, _⟩ | ⟨g, cap, cur, rfl, hb', _⟩
    · exact .inl (by rw [h1]; rfl)
    · right; show some g ≠ some (w.heap.size + 1); intro e; injection e; omega
  · exact (below_grown h.bel h.own (by omega) (by omega) hg).setCell (by simp) _
  · rw [cell_of_row _ _ _ _ _ _ hb]; rfl
  · exact frozen_of_row _ _ _ _ _ hb

/-- the iterator moves on -/
theorem DrW.it {w : World} {wide : Int} {xs : List Int} {v : Value} {W : World} (h : DrW w wide xs v W) {I p : Nat} {s : ByteArray} (hI : W.heap[I]? = some (.stringIter s p)) (hlt : w.heap.size ≤ I) (q : Nat) :
    DrW w wide xs v (W.iterAt I s q) ∧ (W.iterAt I s q).heap[I]? = some (.stringIter s q) := by
  have n1 : w.heap.size ≠ I := fun e => by have := h.res; rw [e] at this; rw [this] at hI; cases hI
  have n2 : w.heap.size + 1 ≠ I := fun e => by have := h.box; rw [e] at this; rw [this] at hI; cases hI
  refine ⟨⟨(Lib.iterAt_other _ _ _ _ _ n1).trans h.res, (Lib.iterAt_other _ _ _ _ _ n2).trans h.box, ?_, Lib.below_iterAt h.bel hlt s q⟩, Lib.iterAt_heap _ _ _ _ _ hI⟩
  refine h.own.kept (row := some I) ⟨rfl, rfl, rfl, by rw [Lib.iterAt_size]; exact Nat.le_refl _, fun k _ hn => Lib.iterAt_other _ _ _ _ _ (fun e => hn (by rw [e]))⟩ ?_
  rcases h.own.2 with ⟨h1, _⟩ | ⟨g, cap, cur, h1, hb', hg, _⟩
  · exact .inl (by rw [h1]; rfl)
  · right; rw [h1]; show some g ≠ some I; intro e; injection e with e; rw [e] at hg; rw [hg] at hI; cases hI

theorem DrW.wide {w : World} {wide : Int} {xs : List Int} {v : Value} {W : World} (h : DrW w wide xs v W) (n : Int) : DrW w n xs v (W.setCell ⟨w.heap.size + 1, 0, none⟩ (.int .i64 n)) := by
  refine ⟨(Below.heap_setCell _ _ _ _ (by simp)).trans h.res, heap_set_same _ h.box, ?_, h.bel.setCell (by simp) _⟩
  refine h.own.kept (grown_set W (w.heap.size + 1) 0 _) ?_
  rcases h.own.2 with ⟨h1, _⟩ | ⟨g, cap, cur, h1, hb', _⟩
  · exact .inl (by rw [h1]; rfl)
  · right; rw [h1]; show some g ≠ some (w.heap.size + 1); intro e; injection e; omega
theorem DrW.load {w : World} {wide : Int} {xs : List Int} {v : Value} {W : World} (h : DrW w wide xs v W) :
    W.cell? ⟨w.heap.size + 1, 0, none⟩ = some (.int .i64 wide) ∧ W.cell? ⟨w.heap.size + 1, 1, none⟩ = some v ∧ W.frozen? ⟨w.heap.size + 1, 0, none⟩ = false ∧ W.frozen? ⟨w.heap.size + 1, 1, none⟩ = false ∧
    W.cell? ⟨w.heap.size, 0, none⟩ = some (.int .i64 0) ∧ W.cell? ⟨w.heap.size, 1, none⟩ = some (.slice none 0 0) ∧ W.frozen? ⟨w.heap.size, 0, none⟩ = false ∧ W.frozen? ⟨w.heap.size, 1, none⟩ = false := by
  refine ⟨?_, ?_, frozen_of_row _ _ _ _ _ h.box, frozen_of_row _ _ _ _ _ h.box, ?_, ?_, frozen_of_row _ _ _ _ _ h.res, frozen_of_row _ _ _ _ _ h.res⟩
  · rw [cell_of_row _ _ _ _ _ _ h.box]; rfl
  · rw [cell_of_row _ _ _ _ _ _ h.box]; rfl
  · rw [cell_of_row _ _ _ _ _ _ h.res]; rfl
  · rw [cell_of_row _ _ _ _ _ _ h.res]; rfl

set_option maxHeartbeats 2000000 in
set_option maxRecDepth 100000 in
theorem Drawn_any (b cap : Nat) (ss : List ByteArray) (hss : ∀ s ∈ ss, s.size ≤ 30 ∧ ∀ i (h : i < s.size), (s[i]'h).toNat < 128) (hl : ss.length ≤ 30) (w : World) (hS : Strs w b ss) :
    Calls Tryz.prog 5 #[.slice (some ⟨b, 0, none⟩) ss.length cap] w fun e w' =>
      ∃ v, e = .returned (.agg #[.int .i64 (wideOf ss), v]) ∧ w'.ownsRow w.heap.size 32 1 v (plotsOf ss).length ((plotsOf ss).map (Value.int .i64)) ∧ Below w.heap.size w w' := by
  obtain ⟨i0, hi, hz0, hz1, hz2⟩ := info_parts A_info102
  have hbl := hS.1
  have HS := Lib.hid hS
  have HSS := Lib.hid hss
  have HST := Lib.hid (DrW.start w)
  have hpl : ∀ k, (plotsOf (ss.take k)).length ≤ 900 := by
    have : ∀ l : List ByteArray, (∀ s ∈ l, s.size ≤ 30) → (plotsOf l).length ≤ 30 * l.length := by
      intro l
      induction l with
      | nil => intro _; simp [plotsOf]
      | cons s l ih => intro h; have a := h s (by simp); have b := ih (fun x hx => h x (by simp [hx])); simp [plotsOf, rowOf] at b ⊢; omega
    intro k
    have h1 := this (ss.take k) (fun s hs => (hss s (List.mem_of_mem_take hs)).1)
    have h2 : (ss.take k).length ≤ ss.length := by simp; omega
    omega
  have HPL := Lib.hid hpl
  clear hS hss hpl
  go_enter Tryz.func5, Tryz.ntmps5
  go_wp2
  go_loopg [11] ss.length (fun g i wi => ∃ (k : Nat) (v : Value), g + k = ss.length ∧ i = .int .i64 k ∧ DrW w (wideOf (ss.take k)) (plotsOf (ss.take k)) v wi)
  case atStart => exact ⟨0, .slice none 0 0, by omega, rfl, HST.out⟩
  case round =>
    clear HST
    obtain ⟨k, v, hk, rfl, hD⟩ := hrel
    obtain ⟨wo, rfl⟩ : ∃ wo : World, wo = wr := ⟨_, rfl⟩
    obtain ⟨go, rfl⟩ : ∃ go : Nat, go = gk := ⟨_, rfl⟩
    by_cases hlt : k < ss.length
    · have hlt' : (k : Int) < ss.length := by omega
      have hc : wo.cell? ⟨b, k, none⟩ = some (.string ss[k]) := (hD.bel.cell (p := ⟨b, k, none⟩) hbl).trans (HS.out.2 k _ (List.getElem?_eq_getElem hlt))
      obtain ⟨hs30, hsa⟩ := HSS.out _ (List.getElem_mem hlt)
      obtain ⟨s, hs⟩ : ∃ s, s = ss[k] := ⟨_, rfl⟩
      rw [← hs] at hc hs30 hsa
      have htk : ss.take (k + 1) = ss.take k ++ [s] := by rw [List.take_succ_eq_append_getElem hlt, hs]
      have HTK := Lib.hid htk
      have hp9 := HPL.out k
      obtain ⟨ps, hps⟩ : ∃ ps, ps = plotsOf (ss.take k) := ⟨_, rfl⟩
      rw [← hps] at hD hp9
      have HPS := Lib.hid hps
      obtain ⟨hw0, _, hf0, _⟩ := hD.load
      have hD1 : DrW w s.size ps v ((wo.setCell ⟨w.heap.size + 1, 0, none⟩ (.int .i64 s.size)).iter s 0) := by
        have := (hD.wide s.size).below (below1 _ (.stringIter s 0)); exact this
      have hI1 : ((wo.setCell ⟨w.heap.size + 1, 0, none⟩ (.int .i64 s.size)).iter s 0).heap[wo.heap.size]? = some (.stringIter s 0) := by
        have := World.iter_heap (wo.setCell ⟨w.heap.size + 1, 0, none⟩ (.int .i64 s.size)) s 0; simpa using this
      have hwB : w.heap.size ≤ wo.heap.size := by have := hD.size; omega
      have HD1 := Lib.hid hD1
      have HI1 := Lib.hid hI1
      have HSA := Lib.hid hsa
      clear htk hs hD hsa hps hD1 hI1
      go_wp2
      go_loopg [8] s.size (fun g2 u8 wi => ∃ (pos : Nat) (v2 : Value), g2 + pos = s.size ∧ DrW w s.size (ps ++ (rowOf s).take pos) v2 wi ∧ wi.heap[wo.heap.size]? = some (.stringIter s pos))
      case atStart => exact ⟨0, v, by omega, by simpa using HD1.out, HI1.out⟩
      case round =>
        clear HD1 HI1 hw0 hf0 hc
        obtain ⟨pos, v2, hg2, hD, hI⟩ := hrel
        have hD2 := Lib.hid hD
        have hI2 := Lib.hid hI
        by_cases hp : pos < s.size
        · have hnx : ∀ ty, (Instr.next (.pointer (some ⟨wo.heap.size, 0, none⟩)) true ty).run Tryz.prog wr = _ := fun ty => Lib.run_next_ascii_at wr wo.heap.size s pos ty hI hp (HSA.out pos hp)
          obtain ⟨hD3, hI3⟩ := hD.it hI hwB (pos + 1)
          obtain ⟨w3, hw3⟩ : ∃ w3, w3 = wr.iterAt wo.heap.size s (pos + 1) := ⟨_, rfl⟩
          rw [← hw3] at hnx hD3 hI3
          obtain ⟨_, hv1, _, hvf, _⟩ := hD3.load
          have hrt := rowOf_take s pos hp
          obtain ⟨c, hc⟩ : ∃ c, c = (s[pos]'hp).toNat := ⟨_, rfl⟩
          rw [← hc] at hnx hrt
          obtain ⟨qs, hqs⟩ : ∃ qs, qs = ps ++ (rowOf s).take pos := ⟨_, rfl⟩
          rw [← hqs] at hD3
          have hq9 : qs.length ≤ 930 := by
            rw [hqs, List.length_append]; have : ((rowOf s).take pos).length ≤ pos := List.length_take_le _ _; omega
          have HRT := Lib.hid hrt
          have HD3 := Lib.hid hD3
          have HI3 := Lib.hid hI3
          have HQS := Lib.hid hqs
          have hz3 := hD3.size
          have hzI : wo.heap.size < w3.heap.size := (Array.getElem?_eq_some_iff.1 hI3).1
          clear hD hI hD2 hI2 hD3 hI3 hw3 hrt hc hqs
          by_cases c1 : c = 115
          · subst c1
            go_wp2_with (at_builtin; refine wpList_append_own _ rfl _ _ 23 rfl (w.heap.size + 2) 32 i0 (.int .i64 0) 1 8 A_und22 hi hz0 hz1 hz2 rfl (by decide) _ _ _ rfl (HD3.out.own.alloc _) ⟨w3.heap.size, 0, none⟩ 1 1 [.int .i64 0] rfl rfl ?c1 ?c2 ?c3 ?c4 ?c5 ?_)
            case c1 =>
              intro j u hj
              cases j with
              | zero => simp at hj; subst hj; exact (cell_of_row _ _ _ _ _ _ (heap_alloc_last _ _)).trans rfl
              | succ j => simp at hj
            case c2 => intro u hu; rw [List.mem_singleton.1 hu]; rfl
            case c3 => unfold maxLen; omega
            case c4 => omega
            case c5 => simp; omega
            intro v' w7 hown7 hgrow _
            obtain ⟨ob7, cp7, rfl⟩ := own_slice hown7
            have hDa := HD3.out.below (below1 w3 (.cells #[.int .i64 0] 32))
            obtain ⟨hD7, hc7, hf7⟩ := hDa.app hgrow hown7
            have hI7 : w7.heap[wo.heap.size]? = some (.stringIter s (pos + 1)) := by
              refine (hgrow.block wo.heap.size (by simp; omega) (fun e => ?_)).trans ((Below.heap_alloc _ _ _ hzI).trans HI3.out)
              rcases hDa.own.2 with ⟨h1, _⟩ | ⟨g, cap, cur, h1, _, hg, _⟩
              · rw [h1] at e; cases e
              · rw [h1] at e; injection e with e; simp only at e; rw [← e, ((Below.heap_alloc _ _ _ hzI).trans HI3.out)] at hg; cases hg
            have hI8 : (w7.setCell ⟨w.heap.size + 1, 1, none⟩ (.slice ob7 (qs.length + 1) cp7)).heap[wo.heap.size]? = some (.stringIter s (pos + 1)) := (Below.heap_setCell _ _ _ _ (by have := HD3.out.box; intro e; first | (rw [e, HI3.out] at this; cases this) | (rw [← e, HI3.out] at this; cases this) | (simp only at e; rw [← e, HI3.out] at this; cases this))).trans hI7
            have HD7 := Lib.hid hD7
            have HI8 := Lib.hid hI8
            clear hown7 hgrow hDa hD7 hI7 hI8
            go_wp2
            go_roundg (gk - 1)
            case rel => exact ⟨pos + 1, _, by omega, by rw [HRT.out, ← List.append_assoc, ← HQS.out]; simpa [kindOf] using HD7.out, HI8.out⟩
            case measure => omega
          · by_cases c2 : c = 104
            · subst c2
              go_wp2_with (at_builtin; refine wpList_append_own _ rfl _ _ 23 rfl (w.heap.size + 2) 32 i0 (.int .i64 0) 1 8 A_und22 hi hz0 hz1 hz2 rfl (by decide) _ _ _ rfl (HD3.out.own.alloc _) ⟨w3.heap.size, 0, none⟩ 1 1 [.int .i64 1] rfl rfl ?c1 ?c2 ?c3 ?c4 ?c5 ?_)
              case c1 =>
                intro j u hj
                cases j with
                | zero => simp at hj; subst hj; exact (cell_of_row _ _ _ _ _ _ (heap_alloc_last _ _)).trans rfl
                | succ j => simp at hj
              case c2 => intro u hu; rw [List.mem_singleton.1 hu]; rfl
              case c3 => unfold maxLen; omega
              case c4 => omega
              case c5 => simp; omega
              intro v' w7 hown7 hgrow _
              obtain ⟨ob7, cp7, rfl⟩ := own_slice hown7
              have hDa := HD3.out.below (below1 w3 (.cells #[.int .i64 1] 32))
              obtain ⟨hD7, hc7, hf7⟩ := hDa.app hgrow hown7
              have hI7 : w7.heap[wo.heap.size]? = some (.stringIter s (pos + 1)) := by
                refine (hgrow.block wo.heap.size (by simp; omega) (fun e => ?_)).trans ((Below.heap_alloc _ _ _ hzI).trans HI3.out)
                rcases hDa.own.2 with ⟨h1, _⟩ | ⟨g, cap, cur, h1, _, hg, _⟩
                · rw [h1] at e; cases e
                · rw [h1] at e; injection e with e; simp only at e; rw [← e, ((Below.heap_alloc _ _ _ hzI).trans HI3.out)] at hg; cases hg
              have hI8 : (w7.setCell ⟨w.heap.size + 1, 1, none⟩ (.slice ob7 (qs.length + 1) cp7)).heap[wo.heap.size]? = some (.stringIter s (pos + 1)) := (Below.heap_setCell _ _ _ _ (by have := HD3.out.box; intro e; first | (rw [e, HI3.out] at this; cases this) | (rw [← e, HI3.out] at this; cases this) | (simp only at e; rw [← e, HI3.out] at this; cases this))).trans hI7
              have HD7 := Lib.hid hD7
              have HI8 := Lib.hid hI8
              clear hown7 hgrow hDa hD7 hI7 hI8
              go_wp2
              go_roundg (gk - 1)
              case rel => exact ⟨pos + 1, _, by omega, by rw [HRT.out, ← List.append_assoc, ← HQS.out]; simpa [kindOf] using HD7.out, HI8.out⟩
              case measure => omega
            · have d1 : ((c : Int) == 115) = false := by simp; omega
              have d2 : ((c : Int) == 104) = false := by simp; omega
              go_wp2_with (at_builtin; refine wpList_append_own _ rfl _ _ 23 rfl (w.heap.size + 2) 32 i0 (.int .i64 0) 1 8 A_und22 hi hz0 hz1 hz2 rfl (by decide) _ _ _ rfl (HD3.out.own.alloc _) ⟨w3.heap.size, 0, none⟩ 1 1 [.int .i64 2] rfl rfl ?c1 ?c2 ?c3 ?c4 ?c5 ?_)
              case c1 =>
                intro j u hj
                cases j with
                | zero => simp at hj; subst hj; exact (cell_of_row _ _ _ _ _ _ (heap_alloc_last _ _)).trans rfl
                | succ j => simp at hj
              case c2 => intro u hu; rw [List.mem_singleton.1 hu]; rfl
              case c3 => unfold maxLen; omega
              case c4 => omega
              case c5 => simp; omega
              intro v' w7 hown7 hgrow _
              obtain ⟨ob7, cp7, rfl⟩ := own_slice hown7
              have hDa := HD3.out.below (below1 w3 (.cells #[.int .i64 2] 32))
              obtain ⟨hD7, hc7, hf7⟩ := hDa.app hgrow hown7
              have hI7 : w7.heap[wo.heap.size]? = some (.stringIter s (pos + 1)) := by
                refine (hgrow.block wo.heap.size (by simp; omega) (fun e => ?_)).trans ((Below.heap_alloc _ _ _ hzI).trans HI3.out)
                rcases hDa.own.2 with ⟨h1, _⟩ | ⟨g, cap, cur, h1, _, hg, _⟩
                · rw [h1] at e; cases e
                · rw [h1] at e; injection e with e; simp only at e; rw [← e, ((Below.heap_alloc _ _ _ hzI).trans HI3.out)] at hg; cases hg
              have hI8 : (w7.setCell ⟨w.heap.size + 1, 1, none⟩ (.slice ob7 (qs.length + 1) cp7)).heap[wo.heap.size]? = some (.stringIter s (pos + 1)) := (Below.heap_setCell _ _ _ _ (by have := HD3.out.box; intro e; first | (rw [e, HI3.out] at this; cases this) | (rw [← e, HI3.out] at this; cases this) | (simp only at e; rw [← e, HI3.out] at this; cases this))).trans hI7
              have HD7 := Lib.hid hD7
              have HI8 := Lib.hid hI8
              clear hown7 hgrow hDa hD7 hI7 hI8
              go_wp2
              go_roundg (gk - 1)
              case rel => exact ⟨pos + 1, _, by omega, by rw [HRT.out, ← List.append_assoc, ← HQS.out]; simpa [kindOf, c1, c2] using HD7.out, HI8.out⟩
              case measure => omega
        · have hpp : pos = s.size := by omega
          subst hpp
          have hnx : ∀ ty, (Instr.next (.pointer (some ⟨wo.heap.size, 0, none⟩)) true ty).run Tryz.prog wr = _ := fun ty => Lib.run_next_end_at wr wo.heap.size s s.size ty hI (by omega)
          clear hD hI
          go_wp2
          go_roundg (go - 1)
          case rel => exact ⟨k + 1, v2, by omega, by simp, by rw [HTK.out, wideOf_snoc, plotsOf_snoc, ← HPS.out]; have := hD2.out; rwa [List.take_of_length_le (by simp [rowOf])] at this⟩
          case measure => omega
    · obtain ⟨k1, k2, k3, k4, k5, k6, k7, k8⟩ := hD.load
      have hkk : k = ss.length := by omega
      subst hkk
      rw [List.take_length] at hD k1
      obtain ⟨ob7, cp7, rfl⟩ := own_slice hD.own
      have HD := Lib.hid hD
      clear hD
      go_wp2
      refine bodyPost_ret (v := .agg #[.int .i64 (wideOf ss), .slice ob7 (plotsOf ss).length cp7]) (by simp [results, Tryz.results5, go_sem, k5, k6]) rfl ⟨_, rfl, ?_, ?_⟩
      · refine own_base ?_ (by omega : w.heap.size ≤ w.heap.size + 2)
        have hk : ∀ (W : World) (o : Nat) (u : Value), W.ownsRow (w.heap.size + 2) 32 1 (.slice ob7 (plotsOf ss).length cp7) (plotsOf ss).length ((plotsOf ss).map (Value.int .i64)) → (W.setCell ⟨w.heap.size, o, none⟩ u).ownsRow (w.heap.size + 2) 32 1 (.slice ob7 (plotsOf ss).length cp7) (plotsOf ss).length ((plotsOf ss).map (Value.int .i64)) := by
          intro W o u h
          refine h.kept (grown_set W w.heap.size o u) ?_
          rcases h.2 with ⟨h1, _⟩ | ⟨g, cap, cur, h1, hb', _⟩
          · exact .inl (by rw [h1]; rfl)
          · right; rw [h1]; show some g ≠ some w.heap.size; intro e; injection e; omega
        exact hk _ _ _ (hk _ _ _ HD.out.own)
      · exact setc (setc HD.out.bel (Nat.le_refl _)) (Nat.le_refl _)
end Go.Proofs.YtimedmkpenbmkaaGreat

namespace Go.Proofs.YtimedmkpenbmkaaGreat
open Go.RowKit Go.Shelf
set_option linter.unusedSimpArgs false
set_option linter.unusedVariables false

/-- a list of ints that is read -/
def RdI (W : World) (v : Value) (xs : List Int) : Prop := xs.length ≤ 9223372036854775807 ∧ ∃ a cap, v = .slice a xs.length cap ∧ (xs ≠ [] → ∃ b o, a = some ⟨b, o, none⟩ ∧ Ints W b o xs)
theorem RdI.mk' {W : World} {b o cap : Nat} {xs : List Int} (h : Ints W b o xs) (hl : xs.length ≤ 9223372036854775807) : RdI W (.slice (some ⟨b, o, none⟩) xs.length cap) xs := ⟨hl, _, _, rfl, fun _ => ⟨b, o, rfl, h⟩⟩
theorem RdI.below {w w' : World} {v : Value} {xs : List Int} (h : RdI w v xs) (hB : Below w.heap.size w w') : RdI w' v xs := by
  obtain ⟨hl, a, cap, h1, h2⟩ := h
  exact ⟨hl, a, cap, h1, fun hne => let ⟨b, o, h3, h4⟩ := h2 hne; ⟨b, o, h3, h4.below hB h4.1⟩⟩
theorem RdI.own {w : World} {base : Nat} {e : TypeId} {v : Value} {xs : List Int} {vs : List Value} {n : Nat} (hn : n = xs.length) (hv : vs = xs.map (Value.int .i64)) (h : w.ownsRow base e 1 v n vs) : RdI w v xs := by
  subst hn
  obtain ⟨ob, cp, hs⟩ := own_slice h
  by_cases h0 : xs = []
  · subst h0; exact ⟨by simp, ob, cp, hs, fun hne => absurd rfl hne⟩
  · obtain ⟨g, cap, h1, h2, h3, h4, h5, _⟩ := own_ints hv h h0
    subst h1
    exact RdI.mk' h3 (by have : maxLen = 9223372036854775807 := rfl; omega)

theorem callFn86 : True := trivial
set_option maxHeartbeats 1000000 in
theorem Equal_int (u v : Value) (xs ys : List Int) (w : World) (hu : RdI w u xs) (hv : RdI w v ys) :
    Calls Tryz.prog 91 #[u, v] w fun e w' => e = .returned (.bool (decide (xs = ys))) ∧ ∃ q, w' = w.drewN q := by
  obtain ⟨lx, a, c, rfl, h1⟩ := hu
  obtain ⟨ly, a2, c2, rfl, h2⟩ := hv
  by_cases hlen : xs.length = ys.length
  · by_cases hx : xs = []
    · subst hx
      refine (Tryz.slices_Equal_int_empty a a2 c ys.length c2 w (by omega)).mono ?_
      rintro e w' ⟨rfl, rfl⟩
      have : ys = [] := List.length_eq_zero_iff.1 hlen.symm
      subst this
      exact ⟨by simp, 0, rfl⟩
    · obtain ⟨b, o, rfl, hi⟩ := h1 hx
      have hy : ys ≠ [] := fun e => hx (by rw [e] at hlen; exact List.length_eq_zero_iff.1 hlen)
      obtain ⟨b2, o2, rfl, hi2⟩ := h2 hy
      refine (Tryz.slices_Equal_int b o xs.length c b2 o2 ys.length c2 xs ys w (Nat.le_refl _) (Nat.le_refl _) (by omega) (by omega) hi.2 hi2.2).mono ?_
      rintro e w' ⟨rfl, hq⟩
      refine ⟨?_, hq⟩
      rw [List.take_length, List.take_length]
      congr 2
      rw [Bool.eq_iff_iff]; simp
  · refine (Tryz.slices_Equal_int_lens a a2 xs.length c ys.length c2 w hlen).mono ?_
    rintro e w' ⟨rfl, rfl⟩
    have : xs ≠ ys := fun e => hlen (by rw [e])
    exact ⟨by simp [this], 0, rfl⟩

set_option maxHeartbeats 1000000 in
theorem Like_int (u v : Value) (xs ys : List Int) (q : Bool) (hq : decide (xs = ys) = q) (w : World) (hu : RdI w u xs) (hv : RdI w v ys) :
    Calls Tryz.prog 38 #[u, v] w fun e w' => e = .returned (.bool q) ∧ Below w.heap.size w w' := by
  have HE := Lib.hid (Equal_int u v xs ys w hu hv)
  rw [hq] at HE
  clear hq hu hv
  go_enter Tryz.func38, Tryz.ntmps38
  go_wp2_with (go_at_call 91; refine HE.out.mono ?_; rintro e w' ⟨rfl, n, rfl⟩)
  go_ret
  exact ⟨rfl, below_drewN' (Below.refl _ _) n⟩

/-- an opening of a quarter whose houses are right -/
theorem oq_of (t : Hr.Town) (hc : checkErr t.wide t.plots = 0) (wind voice : Int) (ha : airErr wind voice = 0) (b o cap : Nat) (a : Option Addr) (hcap : Nat) (hs : List Int) (hl : hs.length ≤ 9223372036854775807) (w : World) (hP : Plots w (some ⟨b, o, none⟩) t.plots) (hI : Ints w b o t.plots)
    (hR : RdI w (.slice a hs.length hcap) hs) (hq : (qAll t.plots (List.replicate 30 false) hs).1 = 0) :
    OQ w t.wide wind voice (.slice (some ⟨b, o, none⟩) t.plots.length cap) (.slice a hs.length hcap) (qAll t.plots (List.replicate 30 false) hs).2 := by
  intro W hB
  have hn := (check_len hc).1
  refine openQ_ok t.wide wind voice b o cap t.plots _ 0 _ W (hP.below hB) (hI.below hB hI.1) ?_ hc ha rfl
  intro A N W' hQ hB' hN
  by_cases h0 : hs = []
  · subst h0
    refine (firstQ_none a hcap _ W').mono ?_
    rintro e w' ⟨rfl, rfl⟩
    exact ⟨rfl, grown_refl _ _, hQ.nm⟩
  · obtain ⟨_, a', cap', e1, h2⟩ := hR
    injection e1 with e1 _ e3
    subst e1
    obtain ⟨hb, ho, rfl, hI2⟩ := h2 h0
    have hB2 := join hB (hB'.mono (Nat.le_refl _))
    refine (firstQ_any t.wide b o cap t.plots hn A N hb ho hcap hs (by omega) _ W' hQ (hI2.below hB2 hI2.1) (by have := hI2.1; have := hB.size; omega)).mono ?_
    rintro e w' ⟨rfl, h1, h2⟩
    rw [hq]
    exact ⟨rfl, h1, h2⟩
end Go.Proofs.YtimedmkpenbmkaaGreat

namespace Go.Proofs.YtimedmkpenbmkaaGreat
open Go.RowKit Go.Shelf
set_option linter.unusedSimpArgs false
set_option linter.unusedVariables false

def rowT : Hr.Town := ⟨4, [0, 1, 0, 1]⟩
def courtT : Hr.Town := ⟨3, [1, 0, 1, 0, 2, 0]⟩
def gapT : Hr.Town := ⟨4, [0, 1, 2, 1]⟩

/-- a town in a box -/
structure TwBox (W : World) (c : Nat) (t : Hr.Town) (g k : Nat) : Prop where
  box : W.heap[c]? = some (.cells #[.int .i64 t.wide, .slice (some ⟨g, 0, none⟩) t.plots.length k] 25 (0, 0))
  ints : Ints W g 0 t.plots
theorem TwBox.below {W W' : World} {c g k : Nat} {t : Hr.Town} (h : TwBox W c t g k) (hB : Below W.heap.size W W') : TwBox W' c t g k :=
  ⟨(hB.block c (Array.getElem?_eq_some_iff.1 h.box).1).trans h.box, h.ints.below hB h.ints.1⟩
theorem TwBox.c {W : World} {c g k : Nat} {t : Hr.Town} (h : TwBox W c t g k) : W.cell? ⟨c, 0, none⟩ = some (.int .i64 t.wide) ∧ W.cell? ⟨c, 1, none⟩ = some (.slice (some ⟨g, 0, none⟩) t.plots.length k) := blk_cells2 h.box

def s1 : ByteArray := { data := #[115, 104, 115, 104] }
def s2 : ByteArray := { data := #[104, 115, 104] }
def s3 : ByteArray := { data := #[115, 119, 115] }
def s4 : ByteArray := { data := #[115, 104, 119, 104] }

theorem plots_eq {t : Hr.Town} {ss : List ByteArray} (h : plotsOf ss = t.plots) (h2 : wideOf ss = t.wide) : True := trivial
theorem Drawn_t (t : Hr.Town) (b cap n : Nat) (ss : List ByteArray) (hn : n = ss.length) (hp : plotsOf ss = t.plots) (hwd : wideOf ss = t.wide) (h0 : t.plots ≠ []) (hss : ∀ s ∈ ss, s.size ≤ 30 ∧ ∀ i (h : i < s.size), (s[i]'h).toNat < 128) (hl : ss.length ≤ 30) (w : World) (hS : Strs w b ss) :
    Calls Tryz.prog 5 #[.slice (some ⟨b, 0, none⟩) n cap] w fun e w' => ∃ g k, e = .returned (.agg #[.int .i64 t.wide, .slice (some ⟨g, 0, none⟩) t.plots.length k]) ∧ Ints w' g 0 t.plots ∧ w.heap.size ≤ g ∧ Below w.heap.size w w' := by
  subst hn
  refine (Drawn_any b cap ss hss hl w hS).mono ?_
  rintro e w' ⟨v, rfl, hown, hB⟩
  rw [hp] at hown
  obtain ⟨g, k, rfl, hg, hI, _⟩ := own_ints rfl hown h0
  rw [hwd]
  exact ⟨g, k, rfl, hI, hg, hB⟩
theorem ascii_of {s : ByteArray} (h : s.data.toList.all (fun c => decide (c.toNat < 128)) = true) : ∀ i (hi : i < s.size), (s[i]'hi).toNat < 128 := fun i hi => by
  have := List.all_eq_true.1 h (s[i]'hi) (by
    have : s[i]'hi = s.data.toList[i]'(by simpa using hi) := by simp; rfl
    rw [this]; exact List.getElem_mem _)
  simpa using this
theorem strs1 (w : World) (a : ByteArray) : Strs (w.alloc (.cells #[.string a] 9)) w.heap.size [a] := by
  refine ⟨by simp, fun k s hk => ?_⟩
  rw [cell_of_row _ _ _ _ _ _ (heap_alloc_last _ _)]
  match k, hk with
  | 0, hk => simp at hk; subst hk; rfl
  | k + 1, hk => simp at hk
theorem strs2 (w : World) (a b : ByteArray) : Strs (w.alloc (.cells #[.string a, .string b] 9)) w.heap.size [a, b] := by
  refine ⟨by simp, fun k s hk => ?_⟩
  rw [cell_of_row _ _ _ _ _ _ (heap_alloc_last _ _)]
  match k, hk with
  | 0, hk => simp at hk; subst hk; rfl
  | 1, hk => simp at hk; subst hk; rfl
  | k + 2, hk => simp at hk
theorem drawnRow (w : World) : Calls Tryz.prog 5 #[.slice (some ⟨w.heap.size, 0, none⟩) 1 1] (w.alloc (.cells #[.string { data := #[115, 104, 115, 104] }] 9)) fun e w' => ∃ g k, e = .returned (.agg #[.int .i64 (4 : Nat), .slice (some ⟨g, 0, none⟩) 4 k]) ∧ Ints w' g 0 rowT.plots ∧ Below w.heap.size w w' := by
  refine (Drawn_t rowT w.heap.size 1 1 [s1] rfl (by decide) (by decide) (by decide) ?_ (by decide) _ (strs1 w s1)).mono ?_
  · intro s hs; rw [List.mem_singleton.1 hs]; exact ⟨by decide, ascii_of (by decide)⟩
  · rintro e w' ⟨g, k, rfl, hI, hg, hB⟩
    exact ⟨g, k, rfl, hI, (below1 _ _).trans (hB.mono (by simp))⟩
theorem drawnGap (w : World) : Calls Tryz.prog 5 #[.slice (some ⟨w.heap.size, 0, none⟩) 1 1] (w.alloc (.cells #[.string { data := #[115, 104, 119, 104] }] 9)) fun e w' => ∃ g k, e = .returned (.agg #[.int .i64 (4 : Nat), .slice (some ⟨g, 0, none⟩) 4 k]) ∧ Ints w' g 0 gapT.plots ∧ Below w.heap.size w w' := by
  refine (Drawn_t gapT w.heap.size 1 1 [s4] rfl (by decide) (by decide) (by decide) ?_ (by decide) _ (strs1 w s4)).mono ?_
  · intro s hs; rw [List.mem_singleton.1 hs]; exact ⟨by decide, ascii_of (by decide)⟩
  · rintro e w' ⟨g, k, rfl, hI, hg, hB⟩
    exact ⟨g, k, rfl, hI, (below1 _ _).trans (hB.mono (by simp))⟩
theorem drawnCourt (w : World) : Calls Tryz.prog 5 #[.slice (some ⟨w.heap.size, 0, none⟩) 2 2] (w.alloc (.cells #[.string { data := #[104, 115, 104] }, .string { data := #[115, 119, 115] }] 9)) fun e w' => ∃ g k, e = .returned (.agg #[.int .i64 (3 : Nat), .slice (some ⟨g, 0, none⟩) 6 k]) ∧ Ints w' g 0 courtT.plots ∧ Below w.heap.size w w' := by
  refine (Drawn_t courtT w.heap.size 2 2 [s2, s3] rfl (by decide) (by decide) (by decide) ?_ (by decide) _ (strs2 w s2 s3)).mono ?_
  · intro s hs
    rcases List.mem_cons.1 hs with rfl | hs
    · exact ⟨by decide, ascii_of (by decide)⟩
    · rw [List.mem_singleton.1 hs]; exact ⟨by decide, ascii_of (by decide)⟩
  · rintro e w' ⟨g, k, rfl, hI, hg, hB⟩
    exact ⟨g, k, rfl, hI, (below1 _ _).trans (hB.mono (by simp))⟩

theorem rowOk : rowT.Ok := ⟨by decide, by decide, by decide, by decide, by decide, by decide⟩

theorem courtOk : courtT.Ok := ⟨by decide, by decide, by decide, by decide, by decide, by decide⟩
theorem gapOk : gapT.Ok := ⟨by decide, by decide, by decide, by decide, by decide, by decide⟩
theorem plots_of {w : World} {g : Nat} {xs : List Int} (h : Ints w g 0 xs) (hl : xs.length ≤ 30) : Plots w (some ⟨g, 0, none⟩) xs := ⟨fun _ => ⟨g, 0, rfl, h⟩, by omega⟩
theorem ints_new (w : World) (xs : List Int) : Ints (w.alloc (.cells (xs.map (Value.int .i64)).toArray 3)) w.heap.size 0 xs := by
  refine ⟨by simp, fun i hi => ?_⟩
  rw [cell_of_row _ _ _ _ _ _ (heap_alloc_last _ _)]
  simp [List.getElem?_eq_getElem hi]
theorem rd_new (w : World) (xs : List Int) (n : Nat) (hn : n = xs.length) (hl : xs.length ≤ 100) : RdI (w.alloc (.cells (xs.map (Value.int .i64)).toArray 3)) (.slice (some ⟨w.heap.size, 0, none⟩) n n) xs := by
  subst hn; exact RdI.mk' (ints_new w xs) (by omega)
theorem tab_rd {w : World} {tb : Nat} {T : List Int} {n : Nat} (h : TabAt w tb T) (hn : n = T.length) (hl : T.length ≤ 30) : RdI w (.slice (some ⟨tb, 0, none⟩) n n) T := by
  subst hn; exact RdI.mk' h.ints (by omega)

theorem needsRow (g k : Nat) (W : World) (hI : Ints W g 0 rowT.plots) :
    Calls Tryz.prog 43 #[.agg #[.int .i64 4, .slice (some ⟨g, 0, none⟩) 4 k], .int .i64 4, .int .i64 0] W fun e w' => ∃ v, e = .returned (.tuple #[v, .int .i64 0]) ∧ RdI w' v [0, 5, 9, 14] ∧ Below W.heap.size W w' := by
  refine (Needs_ok rowT rowOk 4 (by decide) (by decide) 0 g 0 k (by decide) W (plots_of hI (by decide)) hI (by decide) (by decide) (by decide) (by decide)).mono ?_
  rintro e w' ⟨tb, rfl, hT, _, hB⟩
  have hv : rowT.needs 4 0 = [0, 5, 9, 14] := by kernel_rfl
  rw [hv] at hT
  exact ⟨_, rfl, tab_rd hT rfl (by decide), hB⟩
theorem holdsCourt (g k h : Nat) (W : World) (hI : Ints W g 0 courtT.plots) (hT : Ints W h 0 [3, 0, 3, 5, 0, 5]) :
    Calls Tryz.prog 45 #[.agg #[.int .i64 3, .slice (some ⟨g, 0, none⟩) 6 k], .int .i64 0, .int .i64 1, .slice (some ⟨h, 0, none⟩) 6 6] W fun e w' => e = .returned (.tuple #[.bool true, .int .i64 0]) ∧ Below W.heap.size W w' := by
  have hF : ∀ i, i < [3, 0, 3, 5, 0, 5].length → -9223372036854775808 ≤ ([3, 0, 3, 5, 0, 5] : List Int).getD i 0 ∧ ([3, 0, 3, 5, 0, 5] : List Int).getD i 0 ≤ 9223372036854775807 := by decide
  refine (Holds_ok courtT courtOk 0 (by decide) (by decide) 1 g 0 k h 0 6 [3, 0, 3, 5, 0, 5] (by decide) hF (by decide) W (by decide) (plots_of hI (by decide)) hI hT (by decide) (by decide) (by decide) (by decide)).mono ?_
  rintro e w' ⟨rfl, hB⟩
  have hv : agreesAll courtT 0 [3, 0, 3, 5, 0, 5] = true := by kernel_rfl
  rw [hv]
  exact ⟨rfl, hB⟩
theorem needGap (g k : Nat) (W : World) (hI : Ints W g 0 gapT.plots) :
    Calls Tryz.prog 41 #[.agg #[.int .i64 4, .slice (some ⟨g, 0, none⟩) 4 k], .int .i64 0, .int .i64 0, .int .i64 3] W fun e w' => e = .returned (.tuple #[.int .i64 0, .int .i64 6]) ∧ Below W.heap.size W w' := by
  have hv : gapT.needs 0 0 = [0, 3, -1, -1] := by kernel_rfl
  refine (Need_ok 4 0 0 3 _ [0, 3, -1, -1] W (by decide) (fun W' hB' => ?_)).mono ?_
  · refine (Needs_ok gapT gapOk 0 (by decide) (by decide) 0 g 0 k (by decide) W' (plots_of (hI.below hB' hI.1) (by decide)) (hI.below hB' hI.1) (by decide) (by decide) (by decide) (by decide)).mono ?_
    rintro e w' ⟨tb, rfl, hT, hb, hB⟩
    rw [hv] at hT
    exact ⟨tb, rfl, hT, hb, hB⟩
  · rintro e w' ⟨rfl, hB⟩
    exact ⟨rfl, hB⟩
theorem fewT (t : Hr.Town) (hok : t.Ok) (hc : checkErr t.wide t.plots = 0) (voice : Int) (ha : airErr 0 voice = 0) (g k h n : Nat) (hs : List Int) (hn : n = hs.length) (hs0 : hs.length ≤ 30) (W : World) (hI : Ints W g 0 t.plots) (hT : Ints W h 0 hs) (hq : (qAll t.plots (List.replicate 30 false) hs).1 = 0)
    (hf : firstE (lis t 0 voice ((qAll t.plots (List.replicate 30 false) hs).2.getD · false)) = 0) (ans : List Int) (hans : (chooseP (lis t 0 voice ((qAll t.plots (List.replicate 30 false) hs).2.getD · false)) 30).1 = ans) :
    Calls Tryz.prog 19 #[.agg #[.int .i64 t.wide, .slice (some ⟨g, 0, none⟩) t.plots.length k], .agg #[.int .i64 0, .int .i64 voice], .slice (some ⟨h, 0, none⟩) n n] W fun e w' => ∃ v, e = .returned (.tuple #[v, .int .i64 0]) ∧ RdI w' v ans ∧ Below W.heap.size W w' := by
  subst hn
  have hl := (check_len hc).1
  refine (Fewest_ok t hok 0 voice (by decide) (by decide) g 0 k _ _ (by rw [qAll_len]; simp) W hI (oq_of t hc 0 voice ha g 0 k (some ⟨h, 0, none⟩) hs.length hs (by omega) W (plots_of hI hl) hI (RdI.mk' hT (by omega)) hq)).mono ?_
  rintro e w' ⟨v, rfl, hB, _, h2⟩
  rw [hf]
  have := h2 hf
  rw [hans] at this
  exact ⟨v, rfl, RdI.own rfl rfl this, hB⟩
theorem fewRow (g k h : Nat) (W : World) (hI : Ints W g 0 rowT.plots) (hT : Ints W h 0 [1, 3]) :
    Calls Tryz.prog 19 #[.agg #[.int .i64 4, .slice (some ⟨g, 0, none⟩) 4 k], .agg #[.int .i64 0, .int .i64 5], .slice (some ⟨h, 0, none⟩) 2 2] W fun e w' => ∃ v, e = .returned (.tuple #[v, .int .i64 0]) ∧ RdI w' v [2] ∧ Below W.heap.size W w' :=
  fewT rowT rowOk (by decide) 5 (by decide) g k h 2 [1, 3] rfl (by decide) W hI hT (by decide) (by kernel_rfl) [2] (by kernel_rfl)
theorem fewCourt (g k h : Nat) (W : World) (hI : Ints W g 0 courtT.plots) (hT : Ints W h 0 [0, 2]) :
    Calls Tryz.prog 19 #[.agg #[.int .i64 3, .slice (some ⟨g, 0, none⟩) 6 k], .agg #[.int .i64 0, .int .i64 3], .slice (some ⟨h, 0, none⟩) 2 2] W fun e w' => ∃ v, e = .returned (.tuple #[v, .int .i64 0]) ∧ RdI w' v [1] ∧ Below W.heap.size W w' :=
  fewT courtT courtOk (by decide) 3 (by decide) g k h 2 [0, 2] rfl (by decide) W hI hT (by decide) (by kernel_rfl) [1] (by kernel_rfl)
theorem wayCourt (g k : Nat) (W : World) (hI : Ints W g 0 courtT.plots) :
    Calls Tryz.prog 49 #[.agg #[.int .i64 3, .slice (some ⟨g, 0, none⟩) 6 k], .int .i64 0, .int .i64 3, .int .i64 2] W fun e w' => ∃ v, e = .returned (.tuple #[v, .int .i64 0]) ∧ RdI w' v [3, 0, 1, 2] ∧ Below W.heap.size W w' := by
  have hr : reachErr (courtT.needs 0 3) 2 = 0 := by kernel_rfl
  refine (Way_ok courtT courtOk 0 (by decide) (by decide) 3 g 0 k 2 (by decide) _ rfl W (plots_of hI (by decide)) hI (by decide) (by decide) (by decide) (by decide)).mono ?_
  rintro e w' ⟨v, rfl, hB, _, h2⟩
  have h3 := h2 hr
  rw [hr]
  have hw : wayP courtT 0 (courtT.needs 0 3) 3 (2 : Int).toNat = [3, 0, 1, 2] := by kernel_rfl
  rw [hw] at h3
  exact ⟨v, rfl, RdI.own rfl rfl h3, hB⟩

/-- the world of awake -/
structure AwW (w : World) (c g1 k1 g2 k2 : Nat) (W : World) : Prop where
  b1 : W.heap[c]? = some (.cells #[.int .i64 4, .slice (some ⟨g1, 0, none⟩) 4 k1] 25 (0, 0))
  b2 : W.heap[c + 1]? = some (.cells #[.int .i64 3, .slice (some ⟨g2, 0, none⟩) 6 k2] 25 (0, 0))
  i1 : Ints W g1 0 rowT.plots
  i2 : Ints W g2 0 courtT.plots
  bel : Below w.heap.size w W
theorem AwW.below {w : World} {c g1 k1 g2 k2 : Nat} {W W' : World} (h : AwW w c g1 k1 g2 k2 W) (hB : Below W.heap.size W W') : AwW w c g1 k1 g2 k2 W' :=
  ⟨(hB.block c (Array.getElem?_eq_some_iff.1 h.b1).1).trans h.b1, (hB.block _ (Array.getElem?_eq_some_iff.1 h.b2).1).trans h.b2, h.i1.below hB h.i1.1, h.i2.below hB h.i2.1, join h.bel hB⟩
theorem AwW.al {w : World} {c g1 k1 g2 k2 : Nat} {W : World} (h : AwW w c g1 k1 g2 k2 W) (o : Obj) : AwW w c g1 k1 g2 k2 (W.alloc o) := h.below (below1 _ _)
theorem AwW.cs {w : World} {c g1 k1 g2 k2 : Nat} {W : World} (h : AwW w c g1 k1 g2 k2 W) :
    (W.cell? ⟨c, 0, none⟩ = some (.int .i64 4) ∧ W.cell? ⟨c, 1, none⟩ = some (.slice (some ⟨g1, 0, none⟩) 4 k1)) ∧ W.cell? ⟨c + 1, 0, none⟩ = some (.int .i64 3) ∧ W.cell? ⟨c + 1, 1, none⟩ = some (.slice (some ⟨g2, 0, none⟩) 6 k2) :=
  ⟨blk_cells2 h.b1, blk_cells2 h.b2⟩
theorem AwW.lt {w : World} {c g1 k1 g2 k2 : Nat} {W : World} (h : AwW w c g1 k1 g2 k2 W) : c + 1 < W.heap.size := (Array.getElem?_eq_some_iff.1 h.b2).1
theorem AwW.start {w w2 : World} {g1 k1 g2 k2 : Nat} (h1 : Ints w2 g1 0 rowT.plots) (h2 : Ints w2 g2 0 courtT.plots) (hB : Below w.heap.size w w2) :
    AwW w w2.heap.size g1 k1 g2 k2 ((w2.alloc (.cells #[.int .i64 4, .slice (some ⟨g1, 0, none⟩) 4 k1] 25)).alloc (.cells #[.int .i64 3, .slice (some ⟨g2, 0, none⟩) 6 k2] 25)) := by
  have hb := (below1 w2 (.cells #[.int .i64 4, .slice (some ⟨g1, 0, none⟩) 4 k1] 25))
  have hb2 := hb.alloc (by simp) (.cells #[.int .i64 3, .slice (some ⟨g2, 0, none⟩) 6 k2] 25)
  refine ⟨(Below.heap_alloc _ _ _ (by simp)).trans (heap_alloc_last _ _), ?_, h1.below hb2 h1.1, h2.below hb2 h2.1, join hB hb2⟩
  have := heap_alloc_last (w2.alloc (.cells #[.int .i64 4, .slice (some ⟨g1, 0, none⟩) 4 k1] 25)) (.cells #[.int .i64 3, .slice (some ⟨g2, 0, none⟩) 6 k2] 25)
  simpa using this
theorem intsN (w : World) (a b : Int) : Ints (w.alloc (.cells #[.int .i64 a, .int .i64 b] 3)) w.heap.size 0 [a, b] := ints_new w [a, b]

theorem louderRow (g k h : Nat) (W : World) (hI : Ints W g 0 rowT.plots) (hT : Ints W h 0 [1, 3]) :
    Calls Tryz.prog 62 #[.agg #[.int .i64 4, .slice (some ⟨g, 0, none⟩) 4 k], .int .i64 2, .slice (some ⟨h, 0, none⟩) 2 2, .int .i64 1] W fun e w' => e = .returned (.tuple #[.int .i64 5, .int .i64 0]) ∧ Below W.heap.size W w' := by
  refine (Louder_ok rowT rowOk 2 (by decide) (by decide) g 0 k _ (qAll rowT.plots (List.replicate 30 false) [1, 3]).2 (by decide) 1 (by decide) W hI (oq_of rowT (by decide) 2 40 (by decide) g 0 k (some ⟨h, 0, none⟩) 2 [1, 3] (by decide) W (plots_of hI (by decide)) hI (RdI.mk' hT (by decide)) (by decide))).mono ?_
  rintro e w' ⟨rfl, hB⟩
  have hv : leastV rowT 2 ((qAll rowT.plots (List.replicate 30 false) [1, 3]).2.getD · false) 1 = 5 := by kernel_rfl
  rw [hv]
  exact ⟨rfl, hB⟩

set_option maxHeartbeats 4000000 in
set_option maxRecDepth 100000 in
theorem awake_any (w : World) : Calls Tryz.prog 14 #[] w fun e w' => e = .returned (.bool true) ∧ Below w.heap.size w w' := by
  go_enter Tryz.func14, Tryz.ntmps14
  go_wp2_with fail
  refine (drawnRow w).mono ?_
  rintro e w1 ⟨g1, k1, rfl, hI1, hB1⟩
  have HI1 := Lib.hid hI1
  have HB1 := Lib.hid hB1
  clear hI1 hB1
  go_wp2_with fail
  refine (drawnCourt w1).mono ?_
  rintro e w2 ⟨g2, k2, rfl, hI2, hB2⟩
  have HA := Lib.hid (AwW.start (k1 := k1) (k2 := k2) (HI1.out.below hB2 HI1.out.1) hI2 (join HB1.out hB2))
  obtain ⟨c, hc⟩ : ∃ c, c = w2.heap.size := ⟨_, rfl⟩
  rw [← hc] at HA
  clear hI2 hB2 HI1 HB1
  go_wp2_with fail
  obtain ⟨W, hW⟩ : ∃ W, W = ((w2.alloc (.cells #[.int .i64 4, .slice (some ⟨g1, 0, none⟩) 4 k1] 25)).alloc (.cells #[.int .i64 3, .slice (some ⟨g2, 0, none⟩) 6 k2] 25)) := ⟨_, rfl⟩
  rw [← hW] at HA ⊢
  rw [← hc]
  clear hW hc
  refine (needsRow g1 k1 W HA.out.i1).mono ?_
  rintro e w3 ⟨l, rfl, hL, hB⟩
  have HA := Lib.hid (HA.out.below hB)
  have HL := Lib.hid hL
  obtain ⟨⟨a0, a1⟩, a2, a3⟩ := HA.out.cs
  have alt := HA.out.lt
  clear hL hB
  go_wp2_with fail
  refine (fewRow g1 k1 w3.heap.size _ (HA.out.al _).i1 (intsN w3 1 3)).mono ?_
  rintro e w4 ⟨s, rfl, hS, hB⟩
  have HL := Lib.hid (HL.out.below ((below1 _ _).trans (hB.mono (by simp))))
  have HA := Lib.hid ((HA.out.al _).below hB)
  have HS := Lib.hid hS
  clear a0 a1 a2 a3 hS hB alt
  obtain ⟨⟨a0, a1⟩, a2, a3⟩ := HA.out.cs
  have alt := HA.out.lt
  go_wp2_with fail
  refine (fewCourt g2 k2 w4.heap.size _ (HA.out.al _).i2 (intsN w4 0 2)).mono ?_
  rintro e w5 ⟨k, rfl, hK, hB⟩
  have hb := (below1 w4 (.cells #[.int .i64 0, .int .i64 2] 3)).trans (hB.mono (by simp))
  have HL := Lib.hid (HL.out.below hb)
  have HS := Lib.hid (HS.out.below hb)
  have HA := Lib.hid (HA.out.below hb)
  have HK := Lib.hid hK
  clear a0 a1 a2 a3 hK hB hb alt
  obtain ⟨⟨a0, a1⟩, a2, a3⟩ := HA.out.cs
  have alt := HA.out.lt
  go_wp2_with fail
  refine (holdsCourt g2 k2 w5.heap.size _ (HA.out.al _).i2 (ints_new w5 [3, 0, 3, 5, 0, 5])).mono ?_
  rintro e w6 ⟨rfl, hB⟩
  have hb := (below1 w5 (.cells #[.int .i64 3, .int .i64 0, .int .i64 3, .int .i64 5, .int .i64 0, .int .i64 5] 3)).trans (hB.mono (by simp))
  have HL := Lib.hid (HL.out.below hb)
  have HS := Lib.hid (HS.out.below hb)
  have HA := Lib.hid (HA.out.below hb)
  have HK := Lib.hid (HK.out.below hb)
  clear a0 a1 a2 a3 hB hb alt
  go_wp2_with fail
  refine (Like_int l _ [0, 5, 9, 14] [0, 5, 9, 14] true rfl _ (HL.out.below (below1 _ _)) (rd_new w6 [0, 5, 9, 14] 4 rfl (by decide))).mono ?_
  rintro e w7 ⟨rfl, hB⟩
  have hb := (below1 w6 (.cells #[.int .i64 0, .int .i64 5, .int .i64 9, .int .i64 14] 3)).trans (hB.mono (by simp))
  have HS := Lib.hid (HS.out.below hb)
  have HA := Lib.hid (HA.out.below hb)
  have HK := Lib.hid (HK.out.below hb)
  clear hB hb
  go_wp2_with fail
  refine (Like_int s _ [2] [2] true rfl _ (HS.out.below (below1 _ _)) (rd_new w7 [2] 1 rfl (by decide))).mono ?_
  rintro e w8 ⟨rfl, hB⟩
  have hb := (below1 w7 (.cells #[.int .i64 2] 3)).trans (hB.mono (by simp))
  have HA := Lib.hid (HA.out.below hb)
  have HK := Lib.hid (HK.out.below hb)
  clear hB hb
  go_wp2_with fail
  refine (Like_int k _ [1] [1] true rfl _ (HK.out.below (below1 _ _)) (rd_new w8 [1] 1 rfl (by decide))).mono ?_
  rintro e w9 ⟨rfl, hB⟩
  have hb := (below1 w8 (.cells #[.int .i64 1] 3)).trans (hB.mono (by simp))
  have HA := Lib.hid (HA.out.below hb)
  clear hB hb
  obtain ⟨⟨a0, a1⟩, a2, a3⟩ := HA.out.cs
  have alt := HA.out.lt
  go_wp2_with fail
  refine (louderRow g1 k1 w9.heap.size _ (HA.out.al _).i1 (intsN w9 1 3)).mono ?_
  rintro e w10 ⟨rfl, hB⟩
  have HA := Lib.hid ((HA.out.al _).below hB)
  clear a0 a1 a2 a3 hB alt
  obtain ⟨⟨a0, a1⟩, a2, a3⟩ := HA.out.cs
  have alt := HA.out.lt
  go_wp2_with fail
  refine (wayCourt g2 k2 _ HA.out.i2).mono ?_
  rintro e w11 ⟨wv, rfl, hWv, hB⟩
  have HA := Lib.hid (HA.out.below hB)
  have HW := Lib.hid hWv
  clear a0 a1 a2 a3 hB alt hWv
  go_wp2_with fail
  refine (drawnGap w11).mono ?_
  rintro e w12 ⟨g3, k3, rfl, hI3, hB⟩
  have HB := Lib.hid (join HA.out.bel hB)
  have HW := Lib.hid (HW.out.below hB)
  have HI3 := Lib.hid hI3
  clear hB hI3 HA
  go_wp2_with fail
  refine (needGap g3 k3 w12 HI3.out).mono ?_
  rintro e w13 ⟨rfl, hB⟩
  have HB := Lib.hid (join HB.out hB)
  have HW := Lib.hid (HW.out.below hB)
  clear hB HI3
  go_wp2_with fail
  refine (Like_int wv _ [3, 0, 1, 2] [3, 0, 1, 2] true rfl _ (HW.out.below (below1 _ _)) (rd_new w13 [3, 0, 1, 2] 4 rfl (by decide))).mono ?_
  rintro e w14 ⟨rfl, hB⟩
  have HB := Lib.hid (join (al HB.out _) hB)
  clear hB HW
  go_wp2
  go_ret
  exact ⟨rfl, HB.out⟩
end Go.Proofs.YtimedmkpenbmkaaGreat
