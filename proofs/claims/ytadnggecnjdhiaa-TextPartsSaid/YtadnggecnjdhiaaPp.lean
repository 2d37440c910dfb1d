/- oyezlaw02.TextParts: the error of a text, which turns a part says otherwise, and what is wrong with a reading are as specified, for any text, part and reading; the arguments are not modified. No condition. -/
import Derived.Test.YtadnggecnjdhiaaMh
set_option linter.unusedSimpArgs false
set_option linter.unusedVariables false
namespace Go.Proofs.Ytadnggecnjdhiaa
open Go.RowKit Tx
attribute [local go_sem] Oper.semAt_some
def spLp (t : Text) (pw pt : Option Addr) (cw ct B : Nat) (l : List Int) (pl : Option Addr) (cl : Nat) : Nat → List Value → Value → World → Prop
  | 0, _, v, _ => v = .agg #[.slice pw t.words.length cw, .slice pt t.turns.length ct, .int .i64 t.breath]
  | 1, L, v, w => ∃ p q c d, v = .agg #[.slice p t.words.length c, .slice q t.turns.length d, .int .i64 t.breath] ∧ w.ownsRow B 77 3 (.slice p t.words.length c) t.words.length (wcells t.words) ∧ w.ownsRow B 80 3 (.slice q t.turns.length d) t.turns.length (tcells t.turns) ∧ t.words.length ≤ c ∧ c ≤ maxLen
  | 2, _, v, _ => v = .agg #[.slice pw t.words.length cw, .slice pt t.turns.length ct, .int .i64 t.breath]
  | 3, L, v, w => ∃ p q c d, v = .agg #[.slice p t.words.length c, .slice q t.turns.length d, .int .i64 t.breath] ∧ w.ownsRow B 78 3 (.slice p t.words.length c) t.words.length (wcells t.words) ∧ w.ownsRow B 81 3 (.slice q t.turns.length d) t.turns.length (tcells t.turns)
  | 4, _, v, _ => v = .slice pl l.length cl
  | 5, L, v, w => ∃ p c, v = .slice p l.length c ∧ w.ownsRow B 3 1 (.slice p l.length c) l.length (l.map (Value.int .i64))
  | 6, L, v, w => ∃ p, v = .pointer (some ⟨p, 0, none⟩) ∧ B ≤ p ∧ w.heap[p]? = some (.cells #[.slice none 0 0, .slice none 0 0, .int .i64 0] 25 (0, 0))
  | 7, L, v, w => ∃ p, v = .pointer (some ⟨p, 0, none⟩) ∧ B ≤ p ∧ w.heap[p]? = some (.cells #[.slice none 0 0, .slice none 0 0, .int .i64 0] 35 (0, 0))
  | _, _, _, _ => False
theorem spLp_stable (t : Text) (pw pt : Option Addr) (cw ct B : Nat) (l : List Int) (pl : Option Addr) (cl : Nat) : ∀ i L v w w', spLp t pw pt cw ct B l pl cl i L v w → Rs.Gr w w' → spLp t pw pt cw ct B l pl cl i L v w' := by
  intro i L v w w' h hg
  match i with
  | 0 => exact h
  | 1 => obtain ⟨p, q, c, d, h1, h2, h3, h4⟩ := h; exact ⟨p, q, c, d, h1, own_below h2 hg, own_below h3 hg, h4⟩
  | 2 => exact h
  | 3 => obtain ⟨p, q, c, d, h1, h2, h3⟩ := h; exact ⟨p, q, c, d, h1, own_below h2 hg, own_below h3 hg⟩
  | 4 => exact h
  | 5 => obtain ⟨p, c, h1, h2⟩ := h; exact ⟨p, c, h1, own_below h2 hg⟩
  | 6 => obtain ⟨p, h1, h2, h3⟩ := h; exact ⟨p, h1, h2, (hg.block p (Array.getElem?_eq_some_iff.1 h3).1).trans h3⟩
  | 7 => obtain ⟨p, h1, h2, h3⟩ := h; exact ⟨p, h1, h2, (hg.block p (Array.getElem?_eq_some_iff.1 h3).1).trans h3⟩
def spLp4 (t : Text) (c7 c8 : Nat) (p7 q7 p8 q8 : Option Addr) (a7 b7 a8 b8 : Nat) (er : Int) : Nat → List Value → Value → World → Prop
  | 0, _, v, _ => v = .agg #[.slice p7 t.words.length a7, .slice q7 t.turns.length b7, .int .i64 t.breath]
  | 1, _, v, _ => v = .int .i64 er
  | 2, _, v, _ => v = .agg #[.slice p8 t.words.length a8, .slice q8 t.turns.length b8, .int .i64 t.breath]
  | 3, _, v, _ => v = .int .i64 er
  | 4, _, v, _ => v = .bool false
  | _, _, _, _ => False
theorem spLp4_stable (t : Text) (c7 c8 : Nat) (p7 q7 p8 q8 : Option Addr) (a7 b7 a8 b8 : Nat) (er : Int) : ∀ i L v w w', spLp4 t c7 c8 p7 q7 p8 q8 a7 b7 a8 b8 er i L v w → Rs.Gr w w' → spLp4 t c7 c8 p7 q7 p8 q8 a7 b7 a8 b8 er i L v w' := by
  intro i L v w w' h hg
  match i with
  | 0 => exact h
  | 1 => exact h
  | 2 => exact h
  | 3 => exact h
  | 4 => exact h

set_option maxHeartbeats 6000000 in
set_option maxRecDepth 100000 in
theorem TextParts_any (t : Text) (lo hi : Int) (l : List Int) (hm1 : t.words.length ≤ 9223372036854775807) (hm2 : t.turns.length ≤ 9223372036854775807) (hm3 : l.length ≤ 9223372036854775807) (pw pt pl : Option Addr) (cw ct cl : Nat) (w : World) (hW : TxAt w t pw pt) (hL : Ints w pl l) :
    Calls Try.prog 3 #[.agg #[.slice pw t.words.length cw, .slice pt t.turns.length ct, .int .i64 t.breath], .agg #[.int .i64 lo, .int .i64 hi], .slice pl l.length cl] w fun e w' => e = .returned (.bool true) ∧ Below w.heap.size w w' := by
  have HW := Lib.hid hW
  have HL := Lib.hid hL
  have HB0 := Lib.hid (join (below1 w (.cells #[.slice pw t.words.length cw, .slice pt t.turns.length ct, .int .i64 t.breath] 25)) (below1 _ (.cells #[.int .i64 lo, .int .i64 hi] 27)))
  have HX0 := Lib.hid (((below1 (w.alloc (.cells #[.slice pw t.words.length cw, .slice pt t.turns.length ct, .int .i64 t.breath] 25)) (.cells #[.int .i64 lo, .int .i64 hi] 27)).block w.heap.size (by simp)).trans (heap_last w _))
  have hy := heap_last (w.alloc (.cells #[.slice pw t.words.length cw, .slice pt t.turns.length ct, .int .i64 t.breath] 25)) (.cells #[.int .i64 lo, .int .i64 hi] 27)
  rw [World.size_alloc] at hy
  have HY0 := Lib.hid hy
  have HG := Lib.hid (fun W => great_any t 20 hm1 hm2 pw pt cw ct W)
  have HN := Lib.hid (great_no (t := t) (n := 20))
  generalize greatB t 20 = gb at HG HN
  clear hW hL hy
  cases gb with
  | true =>
    obtain ⟨k0, k1, k2⟩ := blk3 HX0.out
    go_enter Try.func3, Try.ntmps3
    go_wp2_with fail
    refine (HG.out _).mono ?_
    rintro e w1 ⟨rfl, hB⟩
    have HB1 := Lib.hid (join HB0.out hB)
    clear hB k0 k1 k2
    go_wp2_with fail
    refine (awake_any w1).mono ?_
    rintro e w2 ⟨rfl, hB⟩
    have HB2 := Lib.hid (join HB1.out hB)
    clear hB
    go_wp2
    go_ret
    exact ⟨rfl, HB2.out⟩
  | false =>
  have hn := HN.out rfl
  clear HN
  by_cases hgt : 20 < l.length
  · have hgt' : (20 : Int) < l.length := by omega
    obtain ⟨k0, k1, k2⟩ := blk3 HX0.out
    go_enter Try.func3, Try.ntmps3
    go_wp2_with fail
    refine (HG.out _).mono ?_
    rintro e w1 ⟨rfl, hB⟩
    have HB1 := Lib.hid (join HB0.out hB)
    clear hB k0 k1 k2
    go_wp2_with fail
    refine (awake_any w1).mono ?_
    rintro e w2 ⟨rfl, hB⟩
    have HB2 := Lib.hid (join HB1.out hB)
    clear hB
    go_wp2
    go_ret
    exact ⟨rfl, HB2.out⟩
  · have hgt' : ¬ (20 : Int) < l.length := by omega
    have hl1 : t.words.length ≤ 1000000 := by omega
    have hl2 : t.turns.length ≤ 1000000 := by omega
    have hl3 : l.length ≤ 1000000 := by omega
    have hsl : (sayL t lo hi).length ≤ 1000000 := Nat.le_trans (say_len t lo hi) hl2
    have CCK := Lib.hid (fun p q c d W (h : TxAt W t p q) => Check_any t hl1 hl2 p q c d W h)
    have CRC := Lib.hid (fun p q c d W (h : TxAt W t p q) => rCheck_any t hl1 hl2 p q c d W h)
    have CSY := Lib.hid (fun p q c d W (h : TxAt W t p q) => Says_any t lo hi hl1 hl2 p q c d W h)
    have CRS := Lib.hid (fun p q c d W (h : TxAt W t p q) => rSays_any t lo hi hl1 hl2 p q c d W h)
    have CWR := Lib.hid (fun p q r c d e hc W (h : TxAt W t p q) (hL : Ints W r l) => Wrong_any t l hl1 hl2 hl3 p q r c d e hc W h hL)
    have CRW := Lib.hid (fun p q r c d e W (h : TxAt W t p q) (hL : Ints W r l) => rWrong_any t l hl1 hl2 hl3 p q r c d e W h hL)
    generalize t.err = er at CCK CRC
    generalize sayL t lo hi = sl at hsl CSY CRS
    generalize sayE t lo hi = se at CSY CRS
    generalize wrongR t l = wr at CWR CRW
    obtain ⟨wa, wb, wc⟩ := wr
    dsimp only at CWR CRW
    obtain ⟨k0, k1, k2⟩ := blk3 HX0.out
    go_enter Try.func3, Try.ntmps3
    go_wp2_with fail
    refine (HG.out _).mono ?_
    rintro e w1 ⟨rfl, hB⟩
    have HX1 := Lib.hid ((hB.block w.heap.size (Array.getElem?_eq_some_iff.1 HX0.out).1).trans HX0.out)
    have HSP := Lib.hid ((hB.block (w.heap.size + 1) (Array.getElem?_eq_some_iff.1 HY0.out).1).trans HY0.out)
    have HB1 := Lib.hid (join HB0.out hB)
    have HZ0 : w.heap.size < w1.heap.size := (Array.getElem?_eq_some_iff.1 HX1.out).1
    have HZ1 : w.heap.size + 1 < w1.heap.size := (Array.getElem?_eq_some_iff.1 HSP.out).1
    clear hB k0 k1 k2 HX0 HY0 HB0 HG
    go_wp2_with fail
    refine Rs.region_gen 8 [[], [0], [], [0, 1, 2], [], [0, 1, 2, 3, 4], [], []] [some 26, some 27, some 28, some 29, some 30, some 31, some 7, some 8] (spLp t pw pt cw ct w1.heap.size l pl cl) (by kernel_rfl) (by kernel_rfl) rfl (spLp_stable _ _ _ _ _ _ _ _ _) ?_ ?_
    · refine ⟨fun V w' hG hs => ?_, fun V w' hG hs => ?_, fun V w' hG hs => ?_, fun V w' hG hs => ?_, fun V w' hG hs => ?_, fun V w' hG hs => ?_, fun V w' hG hs => ?_, fun V w' hG hs => ?_, trivial⟩
      all_goals
        obtain ⟨k0, k1, k2⟩ := blk3 ((hG.block w.heap.size HZ0).trans HX1.out)
      · rw [if_pos (by rfl)]
        exact Rs.GrowL.value (v := .agg #[.slice pw t.words.length cw, .slice pt t.turns.length ct, .int .i64 t.breath]) (w' := w') (by simp [go_sem, Rs.look, k0, k1, k2]) (Rs.Gr.refl _) rfl
      · have e0 : V 0 = .agg #[.slice pw t.words.length cw, .slice pt t.turns.length ct, .int .i64 t.breath] := hs 0 (by simp)
        rw [if_pos (by rfl)]
        refine Rs.GrowL.call (f := 19) (args := #[.agg #[.slice pw t.words.length cw, .slice pt t.turns.length ct, .int .i64 t.breath]]) (by simp [go_sem, Rs.look, e0]) ?_
        refine (lCopy_any t hl1 hl2 pw pt cw ct w' (HW.out.below (join HB1.out hG))).mono ?_
        rintro e w2 ⟨g, h, rfl, o1, o2, hB2⟩
        exact ⟨_, rfl, hB2, _, _, _, _, rfl, own_base o1 hG.size, own_base o2 hG.size, Nat.le_refl _, by unfold maxLen; omega⟩
      · rw [if_pos (by rfl)]
        exact Rs.GrowL.value (v := .agg #[.slice pw t.words.length cw, .slice pt t.turns.length ct, .int .i64 t.breath]) (w' := w') (by simp [go_sem, Rs.look, k0, k1, k2]) (Rs.Gr.refl _) rfl
      · have e0 : V 0 = .agg #[.slice pw t.words.length cw, .slice pt t.turns.length ct, .int .i64 t.breath] := hs 0 (by simp)
        have r1 := hs 1 (by simp)
        have e2 : V 2 = .agg #[.slice pw t.words.length cw, .slice pt t.turns.length ct, .int .i64 t.breath] := hs 2 (by simp)
        rw [if_pos (by rfl)]
        refine Rs.GrowL.call (f := 20) (args := #[.agg #[.slice pw t.words.length cw, .slice pt t.turns.length ct, .int .i64 t.breath]]) (by simp [go_sem, Rs.look, e2]) ?_
        refine (theirs_any t hl1 hl2 pw pt cw ct w' (HW.out.below (join HB1.out hG))).mono ?_
        rintro e w2 ⟨p, q, c, d, rfl, o1, o2, hB2⟩
        exact ⟨_, rfl, hB2, _, _, _, _, rfl, own_base o1 hG.size, own_base o2 hG.size⟩
      · rw [if_pos (by rfl)]
        exact Rs.GrowL.value (v := .slice pl l.length cl) (w' := w') (by simp [go_sem, Rs.look]) (Rs.Gr.refl _) rfl
      · have e0 : V 0 = .agg #[.slice pw t.words.length cw, .slice pt t.turns.length ct, .int .i64 t.breath] := hs 0 (by simp)
        have r1 := hs 1 (by simp)
        have e2 : V 2 = .agg #[.slice pw t.words.length cw, .slice pt t.turns.length ct, .int .i64 t.breath] := hs 2 (by simp)
        have r3 := hs 3 (by simp)
        have e4 : V 4 = .slice pl l.length cl := hs 4 (by simp)
        rw [if_pos (by rfl)]
        refine Rs.GrowL.call (f := 21) (args := #[.slice pl l.length cl]) (by simp [go_sem, Rs.look, e4]) ?_
        refine (Copy_ints l hl3 pl cl w' (HL.out.below (join HB1.out hG))).mono ?_
        rintro e w2 ⟨v, rfl, ho, hB2⟩
        obtain ⟨p, c, rfl⟩ := own_val ho
        exact ⟨_, rfl, hB2, p, c, rfl, own_base ho hG.size⟩
      · rw [if_pos (by rfl)]
        exact Rs.GrowL.value (v := .pointer (some ⟨w'.heap.size, 0, none⟩)) (w' := w'.alloc (.cells #[.slice none 0 0, .slice none 0 0, .int .i64 0] 25)) (by simp [go_sem, Rs.look]) (below1 _ _) ⟨_, rfl, hG.size, heap_last _ _⟩
      · rw [if_pos (by rfl)]
        exact Rs.GrowL.value (v := .pointer (some ⟨w'.heap.size, 0, none⟩)) (w' := w'.alloc (.cells #[.slice none 0 0, .slice none 0 0, .int .i64 0] 35)) (by simp [go_sem, Rs.look]) (below1 _ _) ⟨_, rfl, hG.size, heap_last _ _⟩
    · intro V w' hG hs
      have e0 : V 0 = .agg #[.slice pw t.words.length cw, .slice pt t.turns.length ct, .int .i64 t.breath] := hs 0 (by omega)
      have r1 := hs 1 (by omega)
      have e2 : V 2 = .agg #[.slice pw t.words.length cw, .slice pt t.turns.length ct, .int .i64 t.breath] := hs 2 (by omega)
      have r3 := hs 3 (by omega)
      have e4 : V 4 = .slice pl l.length cl := hs 4 (by omega)
      have r5 := hs 5 (by omega)
      have r6 := hs 6 (by omega)
      have r7 := hs 7 (by omega)
      obtain ⟨p7, q7, a7, b7, e1, o1, o2, hcw⟩ := r1
      obtain ⟨p8, q8, a8, b8, e3, o3, o4⟩ := r3
      obtain ⟨p9, c9, e5, o9⟩ := r5
      obtain ⟨c7, e6, hc7, x7⟩ := r6
      obtain ⟨c8, e7, hc8, x8⟩ := r7
      simp only [Rs.canon, Rs.dstOf, List.range_succ, List.range_zero, List.nil_append, List.cons_append, List.foldl_cons, List.foldl_nil, List.drop_succ_cons, List.drop_zero, List.drop_nil, List.getElem?_toArray, List.getElem?_cons_succ, List.getElem?_cons_zero, Option.bind_some, Act.put, List.getD_cons_succ, List.getD_cons_zero, List.setIfInBounds_toArray, List.set_cons_succ, List.set_cons_zero]
      rw [e0, e1, e2, e3, e4, e5, e6, e7]
      clear e0 e1 e2 e3 e4 e5 e6 e7 hs
      have hne : c7 ≠ c8 := fun e => by rw [e, x8] at x7; injection x7 with h; injection h with _ h; cases h
      have hz2 := hG.size
      have hz1 := HB1.out.size
      have HBx := Lib.hid (join HB1.out hG)
      have hAx := (hG.block w.heap.size HZ0).trans HX1.out
      have HLW := Lib.hid (LwT.start hAx (by omega) (by omega) x7 x8 o1 o2 o3 o4 HW.out HBx.out (by omega) (by omega))
      have HBW := Lib.hid (lwSet_bel HBx.out (show w.heap.size ≤ c7 by omega) (show w.heap.size ≤ c8 by omega) (.slice p7 t.words.length a7) (.slice q7 t.turns.length b7) (.int .i64 t.breath) (.slice p8 t.words.length a8) (.slice q8 t.turns.length b8) (.int .i64 t.breath))
      have HI9 := Lib.hid (own_rd (own_lwSet x7 x8 hne (by decide) (by decide) (.slice p7 t.words.length a7) (.slice q7 t.turns.length b7) (.int .i64 t.breath) (.slice p8 t.words.length a8) (.slice q8 t.turns.length b8) (.int .i64 t.breath) o9) rfl)
      have hsp := (hG.block (w.heap.size + 1) HZ1).trans HSP.out
      have HSP := Lib.hid ((lwSet_other (show w.heap.size + 1 ≠ c7 by omega) (show w.heap.size + 1 ≠ c8 by omega) (.slice p7 t.words.length a7) (.slice q7 t.turns.length b7) (.int .i64 t.breath) (.slice p8 t.words.length a8) (.slice q8 t.turns.length b8) (.int .i64 t.breath)).trans hsp)
      have f7 : ∀ i, w'.frozen? ⟨c7, i, none⟩ = false := fun i => by simp [World.frozen?, x7]
      have f8 : ∀ i, w'.frozen? ⟨c8, i, none⟩ = false := fun i => by simp [World.frozen?, x8]
      obtain ⟨m0, m1, m2⟩ := blk3 x7
      obtain ⟨n0, n1, n2⟩ := blk3 x8
      have h7 : c7 < w'.heap.size := (Array.getElem?_eq_some_iff.1 x7).1
      have h8 : c8 < w'.heap.size := (Array.getElem?_eq_some_iff.1 x8).1
      clear o1 o2 o3 o4 o9 x7 x8 hAx hsp hz2 hz1 HX1 HB1 HBx
      clear hG
      go_wp2_with fail
      obtain ⟨W, hW⟩ : ∃ W, W = lwSet w' c7 c8 (.slice p7 t.words.length a7) (.slice q7 t.turns.length b7) (.int .i64 t.breath) (.slice p8 t.words.length a8) (.slice q8 t.turns.length b8) (.int .i64 t.breath) := ⟨_, rfl⟩
      rw [← hW] at HLW HBW HI9 HSP
      unfold lwSet at hW
      rw [← hW]
      clear hW f7 f8 m0 m1 m2 n0 n1 n2 h7 h8
      obtain ⟨p9', c9', e9, hI9, -⟩ := HI9.out
      injection e9 with e9 _ e9c; subst e9; subst e9c
      clear HI9
      have HI9 := Lib.hid hI9
      clear hI9
      refine Rs.region_gen 5 [[], [0], [], [0, 1, 2], [0, 1, 2, 3]] [some 32, some 33, some 34, some 35, some 36] (spLp4 t c7 c8 p7 q7 p8 q8 a7 b7 a8 b8 er) (by kernel_rfl) (by kernel_rfl) rfl (spLp4_stable _ _ _ _ _ _ _ _ _ _ _ _) ?_ ?_
      · refine ⟨fun V w' hG hs => ?_, fun V w' hG hs => ?_, fun V w' hG hs => ?_, fun V w' hG hs => ?_, fun V w' hG hs => ?_, trivial⟩
        all_goals
          have HQ := HLW.out.below hG
          obtain ⟨k3, k4, k5⟩ := blk3 HQ.x7
          obtain ⟨k6, k7, k8⟩ := blk3 HQ.x8
          clear HQ
        · rw [if_pos (by rfl)]
          exact Rs.GrowL.value (v := .agg #[.slice p7 t.words.length a7, .slice q7 t.turns.length b7, .int .i64 t.breath]) (w' := w') (by simp [go_sem, Rs.look, k3, k4, k5]) (Rs.Gr.refl _) rfl
        · have e0 : V 0 = .agg #[.slice p7 t.words.length a7, .slice q7 t.turns.length b7, .int .i64 t.breath] := hs 0 (by simp)
          rw [if_pos (by rfl)]
          refine Rs.GrowL.call (f := 22) (args := #[.agg #[.slice p7 t.words.length a7, .slice q7 t.turns.length b7, .int .i64 t.breath]]) (by simp [go_sem, Rs.look, e0]) ?_
          refine (CCK.out p7 q7 a7 b7 w' (HLW.out.below hG).r7).mono ?_
          rintro e w2 ⟨rfl, hB2⟩
          exact ⟨_, rfl, hB2, rfl⟩
        · rw [if_pos (by rfl)]
          exact Rs.GrowL.value (v := .agg #[.slice p8 t.words.length a8, .slice q8 t.turns.length b8, .int .i64 t.breath]) (w' := w') (by simp [go_sem, Rs.look, k6, k7, k8]) (Rs.Gr.refl _) rfl
        · have e0 : V 0 = .agg #[.slice p7 t.words.length a7, .slice q7 t.turns.length b7, .int .i64 t.breath] := hs 0 (by simp)
          have e1 : V 1 = .int .i64 er := hs 1 (by simp)
          have e2 : V 2 = .agg #[.slice p8 t.words.length a8, .slice q8 t.turns.length b8, .int .i64 t.breath] := hs 2 (by simp)
          rw [if_pos (by rfl)]
          refine Rs.GrowL.call (f := 23) (args := #[.agg #[.slice p8 t.words.length a8, .slice q8 t.turns.length b8, .int .i64 t.breath]]) (by simp [go_sem, Rs.look, e2]) ?_
          refine (CRC.out p8 q8 a8 b8 w' (HLW.out.below hG).r8).mono ?_
          rintro e w2 ⟨rfl, hB2⟩
          exact ⟨_, rfl, hB2, rfl⟩
        · have e0 : V 0 = .agg #[.slice p7 t.words.length a7, .slice q7 t.turns.length b7, .int .i64 t.breath] := hs 0 (by simp)
          have e1 : V 1 = .int .i64 er := hs 1 (by simp)
          have e2 : V 2 = .agg #[.slice p8 t.words.length a8, .slice q8 t.turns.length b8, .int .i64 t.breath] := hs 2 (by simp)
          have e3 : V 3 = .int .i64 er := hs 3 (by simp)
          rw [if_pos (by rfl)]
          exact Rs.GrowL.value (v := .bool false) (w' := w') (by simp [go_sem, Rs.look, e0, e1, e2, e3]) (Rs.Gr.refl _) rfl
      · intro V w' hG hs
        have e0 : V 0 = .agg #[.slice p7 t.words.length a7, .slice q7 t.turns.length b7, .int .i64 t.breath] := hs 0 (by omega)
        have e1 : V 1 = .int .i64 er := hs 1 (by omega)
        have e2 : V 2 = .agg #[.slice p8 t.words.length a8, .slice q8 t.turns.length b8, .int .i64 t.breath] := hs 2 (by omega)
        have e3 : V 3 = .int .i64 er := hs 3 (by omega)
        have e4 : V 4 = .bool false := hs 4 (by omega)
        simp only [Rs.canon, Rs.dstOf, List.range_succ, List.range_zero, List.nil_append, List.cons_append, List.foldl_cons, List.foldl_nil, List.drop_succ_cons, List.drop_zero, List.drop_nil, List.getElem?_toArray, List.getElem?_cons_succ, List.getElem?_cons_zero, Option.bind_some, Act.put, List.getD_cons_succ, List.getD_cons_zero, List.setIfInBounds_toArray, List.set_cons_succ, List.set_cons_zero]
        rw [e0, e1, e2, e3, e4]
        clear e0 e1 e2 e3 e4 hs
        have HLW := Lib.hid (HLW.out.below hG)
        have HI9 := Lib.hid (HI9.out.below hG)
        have HSP := Lib.hid ((hG.block _ (Array.getElem?_eq_some_iff.1 HSP.out).1).trans HSP.out)
        have HBW := Lib.hid (join HBW.out hG)
        clear hG
        obtain ⟨k0, k1, k2⟩ := blk3 HLW.out.prm
        obtain ⟨k3, k4, k5⟩ := blk3 HLW.out.x7
        obtain ⟨k6, k7, k8⟩ := blk3 HLW.out.x8
        have y0 := blk_cells HSP.out 0 _ rfl
        have y1 := blk_cells HSP.out 1 _ rfl
        go_wp2_with fail
        refine (CSY.out p7 q7 a7 b7 _ HLW.out.r7).mono ?_
        rintro e w2 ⟨v18, rfl, ho, hB⟩
        have HSP := Lib.hid ((hB.block _ (Array.getElem?_eq_some_iff.1 HSP.out).1).trans HSP.out)
        have HLW := Lib.hid (HLW.out.below hB)
        have HI9 := Lib.hid (HI9.out.below hB)
        have HBW := Lib.hid (join HBW.out hB)
        obtain ⟨p18, c18, rfl, H18, -⟩ := own_rd ho rfl
        have H18 := Lib.hid H18
        clear k0 k1 k2 k3 k4 k5 k6 k7 k8 y0 y1
        clear hB ho
        obtain ⟨k0, k1, k2⟩ := blk3 HLW.out.prm
        obtain ⟨k3, k4, k5⟩ := blk3 HLW.out.x7
        obtain ⟨k6, k7, k8⟩ := blk3 HLW.out.x8
        have y0 := blk_cells HSP.out 0 _ rfl
        have y1 := blk_cells HSP.out 1 _ rfl
        go_wp2_with fail
        refine (CRS.out p8 q8 a8 b8 _ HLW.out.r8).mono ?_
        rintro e w2 ⟨v19, rfl, ho, hB⟩
        have HSP := Lib.hid ((hB.block _ (Array.getElem?_eq_some_iff.1 HSP.out).1).trans HSP.out)
        have HLW := Lib.hid (HLW.out.below hB)
        have HI9 := Lib.hid (HI9.out.below hB)
        have H18 := Lib.hid (H18.out.below hB)
        have HBW := Lib.hid (join HBW.out hB)
        obtain ⟨p19, c19, rfl, H19, -⟩ := own_rd ho rfl
        have H19 := Lib.hid H19
        clear k0 k1 k2 k3 k4 k5 k6 k7 k8 y0 y1
        clear hB ho
        obtain ⟨k0, k1, k2⟩ := blk3 HLW.out.prm
        obtain ⟨k3, k4, k5⟩ := blk3 HLW.out.x7
        obtain ⟨k6, k7, k8⟩ := blk3 HLW.out.x8
        have y0 := blk_cells HSP.out 0 _ rfl
        have y1 := blk_cells HSP.out 1 _ rfl
        go_wp2_with fail
        refine (Like_ints p18 p19 c18 c19 sl sl true (by simp) _ hsl hsl H18.out H19.out).mono ?_
        rintro e w2 ⟨rfl, hB⟩
        have HSP := Lib.hid ((hB.block _ (Array.getElem?_eq_some_iff.1 HSP.out).1).trans HSP.out)
        have HLW := Lib.hid (HLW.out.below hB)
        have HI9 := Lib.hid (HI9.out.below hB)
        have HBW := Lib.hid (join HBW.out hB)
        clear k0 k1 k2 k3 k4 k5 k6 k7 k8 y0 y1
        clear hB H18 H19
        obtain ⟨k0, k1, k2⟩ := blk3 HLW.out.prm
        obtain ⟨k3, k4, k5⟩ := blk3 HLW.out.x7
        obtain ⟨k6, k7, k8⟩ := blk3 HLW.out.x8
        have y0 := blk_cells HSP.out 0 _ rfl
        have y1 := blk_cells HSP.out 1 _ rfl
        go_wp2_with fail
        refine (CWR.out p7 q7 p9 a7 b7 c9 ⟨hcw.1, hcw.2⟩ _ HLW.out.r7 HI9.out).mono ?_
        rintro e w2 ⟨rfl, hB⟩
        have HSP := Lib.hid ((hB.block _ (Array.getElem?_eq_some_iff.1 HSP.out).1).trans HSP.out)
        have HLW := Lib.hid (HLW.out.below hB)
        have HI9 := Lib.hid (HI9.out.below hB)
        have HBW := Lib.hid (join HBW.out hB)
        clear k0 k1 k2 k3 k4 k5 k6 k7 k8 y0 y1
        clear hB 
        obtain ⟨k0, k1, k2⟩ := blk3 HLW.out.prm
        obtain ⟨k3, k4, k5⟩ := blk3 HLW.out.x7
        obtain ⟨k6, k7, k8⟩ := blk3 HLW.out.x8
        have y0 := blk_cells HSP.out 0 _ rfl
        have y1 := blk_cells HSP.out 1 _ rfl
        go_wp2_with fail
        refine (CRW.out p8 q8 pl a8 b8 cl _ HLW.out.r8 (HL.out.below HBW.out)).mono ?_
        rintro e w2 ⟨rfl, hB⟩
        have HSP := Lib.hid ((hB.block _ (Array.getElem?_eq_some_iff.1 HSP.out).1).trans HSP.out)
        have HLW := Lib.hid (HLW.out.below hB)
        have HI9 := Lib.hid (HI9.out.below hB)
        have HBW := Lib.hid (join HBW.out hB)
        clear k0 k1 k2 k3 k4 k5 k6 k7 k8 y0 y1
        clear hB 
        obtain ⟨k0, k1, k2⟩ := blk3 HLW.out.prm
        obtain ⟨k3, k4, k5⟩ := blk3 HLW.out.x7
        obtain ⟨k6, k7, k8⟩ := blk3 HLW.out.x8
        have y0 := blk_cells HSP.out 0 _ rfl
        have y1 := blk_cells HSP.out 1 _ rfl
        go_wp2_with fail
        refine (same_yes t hl1 hl2 p7 q7 pw pt a7 b7 cw ct _ HLW.out.r7 HLW.out.r0).mono ?_
        rintro e w2 ⟨rfl, hB⟩
        have HSP := Lib.hid ((hB.block _ (Array.getElem?_eq_some_iff.1 HSP.out).1).trans HSP.out)
        have HLW := Lib.hid (HLW.out.below hB)
        have HI9 := Lib.hid (HI9.out.below hB)
        have HBW := Lib.hid (join HBW.out hB)
        clear k0 k1 k2 k3 k4 k5 k6 k7 k8 y0 y1
        clear hB 
        obtain ⟨k0, k1, k2⟩ := blk3 HLW.out.prm
        obtain ⟨k3, k4, k5⟩ := blk3 HLW.out.x7
        obtain ⟨k6, k7, k8⟩ := blk3 HLW.out.x8
        have y0 := blk_cells HSP.out 0 _ rfl
        have y1 := blk_cells HSP.out 1 _ rfl
        go_wp2_with fail
        refine (Like_ints p9 pl c9 cl l l true (by simp) _ hl3 hl3 HI9.out (HL.out.below HBW.out)).mono ?_
        rintro e w2 ⟨rfl, hB⟩
        have HSP := Lib.hid ((hB.block _ (Array.getElem?_eq_some_iff.1 HSP.out).1).trans HSP.out)
        have HLW := Lib.hid (HLW.out.below hB)
        have HI9 := Lib.hid (HI9.out.below hB)
        have HBW := Lib.hid (join HBW.out hB)
        clear k0 k1 k2 k3 k4 k5 k6 k7 k8 y0 y1
        clear hB 
        obtain ⟨k0, k1, k2⟩ := blk3 HLW.out.prm
        obtain ⟨k3, k4, k5⟩ := blk3 HLW.out.x7
        obtain ⟨k6, k7, k8⟩ := blk3 HLW.out.x8
        have y0 := blk_cells HSP.out 0 _ rfl
        have y1 := blk_cells HSP.out 1 _ rfl
        go_wp2_with fail
        refine (awake_any _).mono ?_
        rintro e w10 ⟨rfl, hB10⟩
        have HBW := Lib.hid (join HBW.out hB10)
        clear hB10
        go_wp2
        go_ret
        exact ⟨rfl, HBW.out⟩
end Go.Proofs.Ytadnggecnjdhiaa
namespace Go.Proofs.Ytadnggecnjdhiaa
open Go.ChangeShapes Go.WideShapes Go.ChangeAt Go.RowKit Go.Joins Tx
set_option linter.unusedVariables false
set_option linter.unusedSimpArgs false

set_option maxRecDepth 100000 in
theorem TextParts_lifted (os : Os) (started : os.Started) (H : Type) (enc : TypeId × Value → H) :
    ReturnsInHanded {} Try.checked os 3 .any (Rows.textPartsSpec.pre6 enc Try.prog Try.f3 Rows.textPartsRow.domain false) (Rows.textPartsSpec.post enc Try.prog Try.f3 false true false false) := by
  refine returnsInHanded_of_change (C := Try.checked) Try.own started (by kernel_rfl) Try.func3
    (ChangeSpec.witness6 (enc := enc) (C := Try.checked) false ⟨#[], #[.agg #[.slice none 0 0, .slice none 0 0, .int .i64 0], .agg #[.int .i64 0, .int .i64 0], .slice none 0 0], []⟩ 8 (by kernel_rfl) (by kernel_rfl) (by kernel_rfl) (by kernel_rfl)) ?_
  intro W base args ds gs before hval0 hW hcnd _
  have hval : ∀ (j : Nat) t v, Try.f3.params[j]? = some t → args[j]? = some v → Value.okWide Try.prog W .any base t v := hval0
  have hW' := hW
  obtain ⟨p, q, hA0, hV, rfl, hfz, hnd⟩ := hW
  have hA : DataW.TrodAll enc Try.prog W 0 (fun _ => true) true Try.f3.params.toList args.toList ds p := hA0
  rw [Try.params3] at hA hval
  obtain ⟨v0, vs0, d0, ds0, p0, q0, hargs, rfl, rfl, h0, r0⟩ := trodAll_cons hA
  obtain ⟨v1, vs1, d1, ds1, p1, q1, rfl, rfl, rfl, h1, r1⟩ := trodAll_cons r0
  obtain ⟨v2, vs2, d2, ds2, p2, q2, rfl, rfl, rfl, h2, r2⟩ := trodAll_cons r1
  obtain ⟨rfl, rfl, rfl⟩ := trodAll_nil r2
  obtain rfl : args = #[v0, v1, v2] := by cases args; simp_all
  obtain ⟨rfl, rfl⟩ := trodVars_none hV
  have lt0 := lt_of_trod h0
  have k0 := h0
  obtain ⟨pw0, pt0, cw0, ct0, t0, e0, hT0, l0, m0⟩ := text_of_trod (fun _ => rfl) (hval 0 25 v0 rfl rfl) h0
  have lt1 := lt_of_trod h1
  have k1 := h1
  obtain ⟨lo1, hi1, e1⟩ := span_of_trod (hval 1 27 v1 rfl rfl) h1
  have lt2 := lt_of_trod h2
  have k2 := h2
  obtain ⟨a2, c2, xs2, e2, hL2, l2⟩ := ints_of_Trod (fun _ => rfl) (hval 2 28 v2 rfl rfl) h2
  clear hA0 hval0
  subst e0
  subst e1
  subst e2
  refine (TextParts_any t0 lo1 hi1 xs2 l0 m0 l2 pw0 pt0 a2 cw0 ct0 c2 W hT0 hL2).mono fun e W' ⟨he, bel⟩ => ?_
  subst he
  exact ⟨_, rfl, _, _, _, [], _, [], hW', trodAll_mk1 (shut_bool Try.underlying4 _), (trodAll_cons_mk (Below.trod Try.laidOut (by kernel_rfl) (of_decide_eq_true (by kernel_rfl)) k0 bel lt0) (trodAll_cons_mk (Below.trod Try.laidOut (by kernel_rfl) (of_decide_eq_true (by kernel_rfl)) k1 bel lt1) (trodAll_cons_mk (Below.trod Try.laidOut (by kernel_rfl) (of_decide_eq_true (by kernel_rfl)) k2 bel lt2) trodAll_mk0))), rfl, bel.frame _, fun h => by cases h⟩

theorem TextParts_holds : Rows.TextPartsSaid :=
  OpenClaim.holds_of_wide 3 Try.f3 rfl rfl rfl rfl rfl rfl rfl ⟨rfl, rfl, rfl, rfl, rfl⟩ rfl rfl rfl rfl rfl (by kernel_rfl) Try.func3 (by kernel_rfl)
    (of_decide_eq_true (by kernel_rfl)) (by unfold Func.isWrapper; first | (rw [if_pos (by decide +kernel)]; kernel_rfl) | (rw [if_neg (by decide +kernel)]; exact ⟨rfl, rfl⟩))
    (fun os started H enc _ => TextParts_lifted os started H enc)
end Go.Proofs.Ytadnggecnjdhiaa
