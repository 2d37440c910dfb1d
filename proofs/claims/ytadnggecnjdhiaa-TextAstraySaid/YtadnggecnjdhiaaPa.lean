/- oyezlaw02.TextAstray: the first turn that some run of a reading says otherwise, and the run, or the error, are as specified, for any text and reading; the arguments are not modified. No condition. -/
import Derived.Test.YtadnggecnjdhiaaMh
set_option linter.unusedSimpArgs false
set_option linter.unusedVariables false
namespace Go.Proofs.Ytadnggecnjdhiaa
open Go.RowKit Tx
attribute [local go_sem] Oper.semAt_some
def spLa (t : Text) (pw pt : Option Addr) (cw ct B : Nat) (l : List Int) (pl : Option Addr) (cl : Nat) : Nat → List Value → Value → World → Prop
  | 0, _, v, _ => v = .agg #[.slice pw t.words.length cw, .slice pt t.turns.length ct, .int .i64 t.breath]
  | 1, L, v, w => ∃ p q c d, v = .agg #[.slice p t.words.length c, .slice q t.turns.length d, .int .i64 t.breath] ∧ w.ownsRow B 77 3 (.slice p t.words.length c) t.words.length (wcells t.words) ∧ w.ownsRow B 80 3 (.slice q t.turns.length d) t.turns.length (tcells t.turns) ∧ t.words.length ≤ c ∧ c ≤ maxLen
  | 2, _, v, _ => v = .agg #[.slice pw t.words.length cw, .slice pt t.turns.length ct, .int .i64 t.breath]
  | 3, L, v, w => ∃ p q c d, v = .agg #[.slice p t.words.length c, .slice q t.turns.length d, .int .i64 t.breath] ∧ w.ownsRow B 78 3 (.slice p t.words.length c) t.words.length (wcells t.words) ∧ w.ownsRow B 81 3 (.slice q t.turns.length d) t.turns.length (tcells t.turns)
  | 4, _, v, _ => v = .slice pl l.length cl
  | 5, L, v, w => ∃ p c, v = .slice p l.length c ∧ w.ownsRow B 3 1 (.slice p l.length c) l.length (l.map (Value.int .i64))
  | 6, L, v, w => ∃ p, v = .pointer (some ⟨p, 0, none⟩) ∧ B ≤ p ∧ w.heap[p]? = some (.cells #[.slice none 0 0, .slice none 0 0, .int .i64 0] 25 (0, 0))
  | 7, L, v, w => ∃ p, v = .pointer (some ⟨p, 0, none⟩) ∧ B ≤ p ∧ w.heap[p]? = some (.cells #[.slice none 0 0, .slice none 0 0, .int .i64 0] 35 (0, 0))
  | _, _, _, _ => False
theorem spLa_stable (t : Text) (pw pt : Option Addr) (cw ct B : Nat) (l : List Int) (pl : Option Addr) (cl : Nat) : ∀ i L v w w', spLa t pw pt cw ct B l pl cl i L v w → Rs.Gr w w' → spLa t pw pt cw ct B l pl cl i L v w' := by
  intro i L v w w' h hg
  match i with
  | 0 => exact h
  | 1 => obtain ⟨p, q, c, d, h1, h2, h3, h4⟩ := h; exact ⟨p, q, c, d, h1, own_below h2 hg, own_below h3 hg, h4⟩
  | 2 => exact h
  | 3 => obtain ⟨p, q, c, d, h1, h2, h3⟩ := h; exact ⟨p, q, c, d, h1, own_below h2 hg, own_below h3 hg⟩
  | 4 => exact h
  | 5 => obtain ⟨p, c, h1, h2⟩ := h; exact ⟨p, c, h1, own_below h2 hg⟩
  | 6 => obtain ⟨p, h1, h2, h3⟩ := h; exact ⟨p, h1, h2, (hg.block p (Array.getElem?_eq_some_iff.1 h3).1).trans h3⟩
  | 7 => obtain ⟨p, h1, h2, h3⟩ := h; exact ⟨p, h1, h2, (hg.block p (Array.getElem?_eq_some_iff.1 h3).1).trans h3⟩

theorem astrayGo_ends (P : List Int) : ∀ (us : List Turn) (i : Nat), (astrayGo P i us).2.2.2 = 0 ∨ (astrayGo P i us).2.2.2 = 6
  | [], _ => .inr rfl
  | u :: us, i => by
    rw [astrayGo]
    split
    · exact .inl rfl
    · exact astrayGo_ends P us (i + 1)
set_option maxHeartbeats 8000000 in
set_option maxRecDepth 100000 in
theorem TextAstray_any (t : Text) (l : List Int) (hm1 : t.words.length ≤ 9223372036854775807) (hm2 : t.turns.length ≤ 9223372036854775807) (hm3 : l.length ≤ 9223372036854775807) (pw pt pl : Option Addr) (cw ct cl : Nat) (w : World) (hW : TxAt w t pw pt) (hL : Ints w pl l) :
    Calls Try.prog 6 #[.agg #[.slice pw t.words.length cw, .slice pt t.turns.length ct, .int .i64 t.breath], .slice pl l.length cl] w fun e w' => e = .returned (.bool true) ∧ Below w.heap.size w w' := by
  have HW := Lib.hid hW
  have HL := Lib.hid hL
  have HB0 := Lib.hid (below1 w (.cells #[.slice pw t.words.length cw, .slice pt t.turns.length ct, .int .i64 t.breath] 25))
  have HX0 := Lib.hid (heap_last w (.cells #[.slice pw t.words.length cw, .slice pt t.turns.length ct, .int .i64 t.breath] 25))
  have HG := Lib.hid (fun W => great_any t 20 hm1 hm2 pw pt cw ct W)
  have HN := Lib.hid (great_no (t := t) (n := 20))
  generalize greatB t 20 = gb at HG HN
  clear hW hL
  cases gb with
  | true =>
    obtain ⟨k0, k1, k2⟩ := blk3 HX0.out
    go_enter Try.func6, Try.ntmps6
    go_wp2_with fail
    refine (HG.out _).mono ?_
    rintro e w1 ⟨rfl, hB⟩
    have HB1 := Lib.hid (join HB0.out hB)
    clear hB k0 k1 k2
    go_wp2_with fail
    refine (awake_any w1).mono ?_
    rintro e w2 ⟨rfl, hB⟩
    have HB2 := Lib.hid (join HB1.out hB)
    clear hB
    go_wp2
    go_ret
    exact ⟨rfl, HB2.out⟩
  | false =>
  have hn := HN.out rfl
  clear HN
  by_cases hgt : 20 < l.length
  · have hgt' : (20 : Int) < l.length := by omega
    obtain ⟨k0, k1, k2⟩ := blk3 HX0.out
    go_enter Try.func6, Try.ntmps6
    go_wp2_with fail
    refine (HG.out _).mono ?_
    rintro e w1 ⟨rfl, hB⟩
    have HB1 := Lib.hid (join HB0.out hB)
    clear hB k0 k1 k2
    go_wp2_with fail
    refine (awake_any w1).mono ?_
    rintro e w2 ⟨rfl, hB⟩
    have HB2 := Lib.hid (join HB1.out hB)
    clear hB
    go_wp2
    go_ret
    exact ⟨rfl, HB2.out⟩
  · have hgt' : ¬ (20 : Int) < l.length := by omega
    have hl1 : t.words.length ≤ 1000000 := by omega
    have hl2 : t.turns.length ≤ 1000000 := by omega
    have hl3 : l.length ≤ 1000000 := by omega
    have CAS := Lib.hid (fun p q r c d e hc W (h : TxAt W t p q) (hL : Ints W r l) => Astray_any t l hl1 hl2 (by omega) p q r c d e hc W h hL)
    have CRE := Lib.hid (fun p q r c d e W (h : TxAt W t p q) (hL : Ints W r l) => Reading_any t l hl1 hl2 hl3 p q r c d e W h hL)
    have CRW := Lib.hid (fun p q r c d e W (h : TxAt W t p q) (hL : Ints W r l) => rWrong_any t l hl1 hl2 hl3 p q r c d e W h hL)
    have CRA := Lib.hid (fun he p q r c d e W (h : TxAt W t p q) (hL : Ints W r l) => rAstray_any t l he (by omega) p q r c d e W h hL)
    have HGE := Lib.hid (astrayGo_ends (placesL l) t.turns 0)
    have HAR : Hid (astrayR t l = if readErr t l = 0 then (if (wrongR t l).2.2 = 6 then astrayGo (placesL l) 0 t.turns else (0, 0, 0, 8)) else (0, 0, 0, readErr t l)) := Lib.hid (by
      unfold astrayR wrongR
      by_cases h : readErr t l = 0
      · rw [if_pos h, if_pos h, if_pos h]
      · rw [if_neg h, if_neg h])
    generalize astrayR t l = av at CAS HAR
    generalize readErr t l = er at CRE CRA HAR
    generalize wrongR t l = wr at CRW HAR
    generalize astrayGo (placesL l) 0 t.turns = ag at CRA HAR HGE
    obtain ⟨wa, wb, wc⟩ := wr
    dsimp only at CRW HAR
    obtain ⟨k0, k1, k2⟩ := blk3 HX0.out
    go_enter Try.func6, Try.ntmps6
    go_wp2_with fail
    refine (HG.out _).mono ?_
    rintro e w1 ⟨rfl, hB⟩
    have HX1 := Lib.hid ((hB.block w.heap.size (Array.getElem?_eq_some_iff.1 HX0.out).1).trans HX0.out)
    have HB1 := Lib.hid (join HB0.out hB)
    have HZ0 : w.heap.size < w1.heap.size := (Array.getElem?_eq_some_iff.1 HX1.out).1
    clear hB k0 k1 k2 HX0 HB0 HG
    go_wp2_with fail
    refine Rs.region_gen 8 [[], [0], [], [0, 1, 2], [], [0, 1, 2, 3, 4], [], []] [some 26, some 27, some 28, some 29, some 30, some 31, some 5, some 6] (spLa t pw pt cw ct w1.heap.size l pl cl) (by kernel_rfl) (by kernel_rfl) rfl (spLa_stable _ _ _ _ _ _ _ _ _) ?_ ?_
    · refine ⟨fun V w' hG hs => ?_, fun V w' hG hs => ?_, fun V w' hG hs => ?_, fun V w' hG hs => ?_, fun V w' hG hs => ?_, fun V w' hG hs => ?_, fun V w' hG hs => ?_, fun V w' hG hs => ?_, trivial⟩
      all_goals
        obtain ⟨k0, k1, k2⟩ := blk3 ((hG.block w.heap.size HZ0).trans HX1.out)
      · rw [if_pos (by rfl)]
        exact Rs.GrowL.value (v := .agg #[.slice pw t.words.length cw, .slice pt t.turns.length ct, .int .i64 t.breath]) (w' := w') (by simp [go_sem, Rs.look, k0, k1, k2]) (Rs.Gr.refl _) rfl
      · have e0 : V 0 = .agg #[.slice pw t.words.length cw, .slice pt t.turns.length ct, .int .i64 t.breath] := hs 0 (by simp)
        rw [if_pos (by rfl)]
        refine Rs.GrowL.call (f := 19) (args := #[.agg #[.slice pw t.words.length cw, .slice pt t.turns.length ct, .int .i64 t.breath]]) (by simp [go_sem, Rs.look, e0]) ?_
        refine (lCopy_any t hl1 hl2 pw pt cw ct w' (HW.out.below (join HB1.out hG))).mono ?_
        rintro e w2 ⟨g, h, rfl, o1, o2, hB2⟩
        exact ⟨_, rfl, hB2, _, _, _, _, rfl, own_base o1 hG.size, own_base o2 hG.size, Nat.le_refl _, by unfold maxLen; omega⟩
      · rw [if_pos (by rfl)]
        exact Rs.GrowL.value (v := .agg #[.slice pw t.words.length cw, .slice pt t.turns.length ct, .int .i64 t.breath]) (w' := w') (by simp [go_sem, Rs.look, k0, k1, k2]) (Rs.Gr.refl _) rfl
      · have e0 : V 0 = .agg #[.slice pw t.words.length cw, .slice pt t.turns.length ct, .int .i64 t.breath] := hs 0 (by simp)
        have r1 := hs 1 (by simp)
        have e2 : V 2 = .agg #[.slice pw t.words.length cw, .slice pt t.turns.length ct, .int .i64 t.breath] := hs 2 (by simp)
        rw [if_pos (by rfl)]
        refine Rs.GrowL.call (f := 20) (args := #[.agg #[.slice pw t.words.length cw, .slice pt t.turns.length ct, .int .i64 t.breath]]) (by simp [go_sem, Rs.look, e2]) ?_
        refine (theirs_any t hl1 hl2 pw pt cw ct w' (HW.out.below (join HB1.out hG))).mono ?_
        rintro e w2 ⟨p, q, c, d, rfl, o1, o2, hB2⟩
        exact ⟨_, rfl, hB2, _, _, _, _, rfl, own_base o1 hG.size, own_base o2 hG.size⟩
      · rw [if_pos (by rfl)]
        exact Rs.GrowL.value (v := .slice pl l.length cl) (w' := w') (by simp [go_sem, Rs.look]) (Rs.Gr.refl _) rfl
      · have e0 : V 0 = .agg #[.slice pw t.words.length cw, .slice pt t.turns.length ct, .int .i64 t.breath] := hs 0 (by simp)
        have r1 := hs 1 (by simp)
        have e2 : V 2 = .agg #[.slice pw t.words.length cw, .slice pt t.turns.length ct, .int .i64 t.breath] := hs 2 (by simp)
        have r3 := hs 3 (by simp)
        have e4 : V 4 = .slice pl l.length cl := hs 4 (by simp)
        rw [if_pos (by rfl)]
        refine Rs.GrowL.call (f := 21) (args := #[.slice pl l.length cl]) (by simp [go_sem, Rs.look, e4]) ?_
        refine (Copy_ints l hl3 pl cl w' (HL.out.below (join HB1.out hG))).mono ?_
        rintro e w2 ⟨v, rfl, ho, hB2⟩
        obtain ⟨p, c, rfl⟩ := own_val ho
        exact ⟨_, rfl, hB2, p, c, rfl, own_base ho hG.size⟩
      · rw [if_pos (by rfl)]
        exact Rs.GrowL.value (v := .pointer (some ⟨w'.heap.size, 0, none⟩)) (w' := w'.alloc (.cells #[.slice none 0 0, .slice none 0 0, .int .i64 0] 25)) (by simp [go_sem, Rs.look]) (below1 _ _) ⟨_, rfl, hG.size, heap_last _ _⟩
      · rw [if_pos (by rfl)]
        exact Rs.GrowL.value (v := .pointer (some ⟨w'.heap.size, 0, none⟩)) (w' := w'.alloc (.cells #[.slice none 0 0, .slice none 0 0, .int .i64 0] 35)) (by simp [go_sem, Rs.look]) (below1 _ _) ⟨_, rfl, hG.size, heap_last _ _⟩
    · intro V w' hG hs
      have e0 : V 0 = .agg #[.slice pw t.words.length cw, .slice pt t.turns.length ct, .int .i64 t.breath] := hs 0 (by omega)
      have r1 := hs 1 (by omega)
      have e2 : V 2 = .agg #[.slice pw t.words.length cw, .slice pt t.turns.length ct, .int .i64 t.breath] := hs 2 (by omega)
      have r3 := hs 3 (by omega)
      have e4 : V 4 = .slice pl l.length cl := hs 4 (by omega)
      have r5 := hs 5 (by omega)
      have r6 := hs 6 (by omega)
      have r7 := hs 7 (by omega)
      obtain ⟨p7, q7, a7, b7, e1, o1, o2, hcw⟩ := r1
      obtain ⟨p8, q8, a8, b8, e3, o3, o4⟩ := r3
      obtain ⟨p9, c9, e5, o9⟩ := r5
      obtain ⟨c7, e6, hc7, x7⟩ := r6
      obtain ⟨c8, e7, hc8, x8⟩ := r7
      simp only [Rs.canon, Rs.dstOf, List.range_succ, List.range_zero, List.nil_append, List.cons_append, List.foldl_cons, List.foldl_nil, List.drop_succ_cons, List.drop_zero, List.drop_nil, List.getElem?_toArray, List.getElem?_cons_succ, List.getElem?_cons_zero, Option.bind_some, Act.put, List.getD_cons_succ, List.getD_cons_zero, List.setIfInBounds_toArray, List.set_cons_succ, List.set_cons_zero]
      rw [e0, e1, e2, e3, e4, e5, e6, e7]
      clear e0 e1 e2 e3 e4 e5 e6 e7 hs
      have hne : c7 ≠ c8 := fun e => by rw [e, x8] at x7; injection x7 with h; injection h with _ h; cases h
      have hz2 := hG.size
      have hz1 := HB1.out.size
      have HBx := Lib.hid (join HB1.out hG)
      have hAx := (hG.block w.heap.size HZ0).trans HX1.out
      have HLW := Lib.hid (LwT.start hAx (by omega) (by omega) x7 x8 o1 o2 o3 o4 HW.out HBx.out (by omega) (by omega))
      have HBW := Lib.hid (lwSet_bel HBx.out (show w.heap.size ≤ c7 by omega) (show w.heap.size ≤ c8 by omega) (.slice p7 t.words.length a7) (.slice q7 t.turns.length b7) (.int .i64 t.breath) (.slice p8 t.words.length a8) (.slice q8 t.turns.length b8) (.int .i64 t.breath))
      have HI9 := Lib.hid (own_rd (own_lwSet x7 x8 hne (by decide) (by decide) (.slice p7 t.words.length a7) (.slice q7 t.turns.length b7) (.int .i64 t.breath) (.slice p8 t.words.length a8) (.slice q8 t.turns.length b8) (.int .i64 t.breath) o9) rfl)
      have f7 : ∀ i, w'.frozen? ⟨c7, i, none⟩ = false := fun i => by simp [World.frozen?, x7]
      have f8 : ∀ i, w'.frozen? ⟨c8, i, none⟩ = false := fun i => by simp [World.frozen?, x8]
      obtain ⟨m0, m1, m2⟩ := blk3 x7
      obtain ⟨n0, n1, n2⟩ := blk3 x8
      have h7 : c7 < w'.heap.size := (Array.getElem?_eq_some_iff.1 x7).1
      have h8 : c8 < w'.heap.size := (Array.getElem?_eq_some_iff.1 x8).1
      clear o1 o2 o3 o4 o9 x7 x8 hAx hz2 hz1 HX1 HB1 HBx
      clear hG
      go_wp2_with fail
      refine calls_named fun W hW => ?_
      have hW2 : W = lwSet w' c7 c8 (.slice p7 t.words.length a7) (.slice q7 t.turns.length b7) (.int .i64 t.breath) (.slice p8 t.words.length a8) (.slice q8 t.turns.length b8) (.int .i64 t.breath) := hW
      rw [← hW2] at HLW HBW HI9
      clear hW hW2 f7 f8 m0 m1 m2 n0 n1 n2 h7 h8
      obtain ⟨p9', c9', e9, hI9, -⟩ := HI9.out
      injection e9 with e9 _ e9c; subst e9; subst e9c
      clear HI9
      have HI9 := Lib.hid hI9
      clear hI9
      rcases (Decidable.em (er = 0)).symm with he | he
      · have HER : (er == 0) = false := by simpa using he
        have HAV : Hid (av = (0, 0, 0, er)) := Lib.hid (by rw [HAR.out, if_neg he])
        rw [HAV.out] at CAS
        dsimp only at CAS
        clear HAV HAR he CRA
        obtain ⟨k0, k1, k2⟩ := blk3 HLW.out.prm
        obtain ⟨k3, k4, k5⟩ := blk3 HLW.out.x7
        obtain ⟨k6, k7, k8⟩ := blk3 HLW.out.x8
        refine (CAS.out p7 q7 p9 a7 b7 c9 ⟨hcw.1, hcw.2⟩ _ HLW.out.r7 HI9.out).mono ?_
        rintro e w2 ⟨rfl, hB⟩
        have HLW := Lib.hid (HLW.out.below hB)
        have HI9 := Lib.hid (HI9.out.below hB)
        have HBW := Lib.hid (join HBW.out hB)
        clear k0 k1 k2 k3 k4 k5 k6 k7 k8
        clear hB 
        have HSA := Lib.hid (heap_last w2 (.cells #[.int .i64 0, .int .i64 0] 27))
        have hB := below1 w2 (.cells #[.int .i64 0, .int .i64 0] 27)
        have HLW := Lib.hid (HLW.out.below hB)
        have HI9 := Lib.hid (HI9.out.below hB)
        have HBW := Lib.hid (join HBW.out hB)
        clear hB
        obtain ⟨k0, k1, k2⟩ := blk3 HLW.out.prm
        obtain ⟨k3, k4, k5⟩ := blk3 HLW.out.x7
        obtain ⟨k6, k7, k8⟩ := blk3 HLW.out.x8
        have y0 := blk_cells HSA.out 0 _ rfl
        have y1 := blk_cells HSA.out 1 _ rfl
        go_wp2_with fail
        refine (CRE.out p8 q8 pl a8 b8 cl _ HLW.out.r8 (HL.out.below HBW.out)).mono ?_
        rintro e w2 ⟨rfl, hB⟩
        have HSA := Lib.hid ((hB.block _ (Array.getElem?_eq_some_iff.1 HSA.out).1).trans HSA.out)
        have HLW := Lib.hid (HLW.out.below hB)
        have HI9 := Lib.hid (HI9.out.below hB)
        have HBW := Lib.hid (join HBW.out hB)
        clear k0 k1 k2 k3 k4 k5 k6 k7 k8 y0 y1
        clear hB 
        have HSB := Lib.hid (heap_last w2 (.cells #[.int .i64 0, .int .i64 0] 27))
        have hB := below1 w2 (.cells #[.int .i64 0, .int .i64 0] 27)
        have HSA := Lib.hid ((hB.block _ (Array.getElem?_eq_some_iff.1 HSA.out).1).trans HSA.out)
        have HLW := Lib.hid (HLW.out.below hB)
        have HI9 := Lib.hid (HI9.out.below hB)
        have HBW := Lib.hid (join HBW.out hB)
        clear hB
        obtain ⟨k0, k1, k2⟩ := blk3 HLW.out.prm
        obtain ⟨k3, k4, k5⟩ := blk3 HLW.out.x7
        obtain ⟨k6, k7, k8⟩ := blk3 HLW.out.x8
        have y0 := blk_cells HSA.out 0 _ rfl
        have y1 := blk_cells HSA.out 1 _ rfl
        have z0 := blk_cells HSB.out 0 _ rfl
        have z1 := blk_cells HSB.out 1 _ rfl
        go_wp2_with fail
        refine (same_yes t hl1 hl2 p7 q7 pw pt a7 b7 cw ct _ HLW.out.r7 HLW.out.r0).mono ?_
        rintro e w2 ⟨rfl, hB⟩
        have HSA := Lib.hid ((hB.block _ (Array.getElem?_eq_some_iff.1 HSA.out).1).trans HSA.out)
        have HSB := Lib.hid ((hB.block _ (Array.getElem?_eq_some_iff.1 HSB.out).1).trans HSB.out)
        have HLW := Lib.hid (HLW.out.below hB)
        have HI9 := Lib.hid (HI9.out.below hB)
        have HBW := Lib.hid (join HBW.out hB)
        clear k0 k1 k2 k3 k4 k5 k6 k7 k8 y0 y1 z0 z1
        clear hB 
        obtain ⟨k0, k1, k2⟩ := blk3 HLW.out.prm
        obtain ⟨k3, k4, k5⟩ := blk3 HLW.out.x7
        obtain ⟨k6, k7, k8⟩ := blk3 HLW.out.x8
        have y0 := blk_cells HSA.out 0 _ rfl
        have y1 := blk_cells HSA.out 1 _ rfl
        have z0 := blk_cells HSB.out 0 _ rfl
        have z1 := blk_cells HSB.out 1 _ rfl
        go_wp2_with fail
        refine (Like_ints p9 pl c9 cl l l true (by simp) _ hl3 hl3 HI9.out (HL.out.below HBW.out)).mono ?_
        rintro e w2 ⟨rfl, hB⟩
        have HSA := Lib.hid ((hB.block _ (Array.getElem?_eq_some_iff.1 HSA.out).1).trans HSA.out)
        have HSB := Lib.hid ((hB.block _ (Array.getElem?_eq_some_iff.1 HSB.out).1).trans HSB.out)
        have HLW := Lib.hid (HLW.out.below hB)
        have HI9 := Lib.hid (HI9.out.below hB)
        have HBW := Lib.hid (join HBW.out hB)
        clear k0 k1 k2 k3 k4 k5 k6 k7 k8 y0 y1 z0 z1
        clear hB 
        obtain ⟨k0, k1, k2⟩ := blk3 HLW.out.prm
        obtain ⟨k3, k4, k5⟩ := blk3 HLW.out.x7
        obtain ⟨k6, k7, k8⟩ := blk3 HLW.out.x8
        have y0 := blk_cells HSA.out 0 _ rfl
        have y1 := blk_cells HSA.out 1 _ rfl
        have z0 := blk_cells HSB.out 0 _ rfl
        have z1 := blk_cells HSB.out 1 _ rfl
        go_wp2_with fail
        refine (awake_any _).mono ?_
        rintro e w10 ⟨rfl, hB10⟩
        have HBW := Lib.hid (join HBW.out hB10)
        clear hB10
        go_wp2
        go_ret
        exact ⟨rfl, HBW.out⟩
      rcases (Decidable.em (wc = 6)).symm with hr | hr
      · have HWC : (wc != 6) = true := by simpa using hr
        have HAV : Hid (av = (0, 0, 0, 8)) := Lib.hid (by rw [HAR.out, if_pos he, if_neg hr])
        rw [HAV.out] at CAS
        dsimp only at CAS
        rw [he] at CRE
        clear HAV HAR he hr CRA
        obtain ⟨k0, k1, k2⟩ := blk3 HLW.out.prm
        obtain ⟨k3, k4, k5⟩ := blk3 HLW.out.x7
        obtain ⟨k6, k7, k8⟩ := blk3 HLW.out.x8
        refine (CAS.out p7 q7 p9 a7 b7 c9 ⟨hcw.1, hcw.2⟩ _ HLW.out.r7 HI9.out).mono ?_
        rintro e w2 ⟨rfl, hB⟩
        have HLW := Lib.hid (HLW.out.below hB)
        have HI9 := Lib.hid (HI9.out.below hB)
        have HBW := Lib.hid (join HBW.out hB)
        clear k0 k1 k2 k3 k4 k5 k6 k7 k8
        clear hB 
        have HSA := Lib.hid (heap_last w2 (.cells #[.int .i64 0, .int .i64 0] 27))
        have hB := below1 w2 (.cells #[.int .i64 0, .int .i64 0] 27)
        have HLW := Lib.hid (HLW.out.below hB)
        have HI9 := Lib.hid (HI9.out.below hB)
        have HBW := Lib.hid (join HBW.out hB)
        clear hB
        obtain ⟨k0, k1, k2⟩ := blk3 HLW.out.prm
        obtain ⟨k3, k4, k5⟩ := blk3 HLW.out.x7
        obtain ⟨k6, k7, k8⟩ := blk3 HLW.out.x8
        have y0 := blk_cells HSA.out 0 _ rfl
        have y1 := blk_cells HSA.out 1 _ rfl
        go_wp2_with fail
        refine (CRE.out p8 q8 pl a8 b8 cl _ HLW.out.r8 (HL.out.below HBW.out)).mono ?_
        rintro e w2 ⟨rfl, hB⟩
        have HSA := Lib.hid ((hB.block _ (Array.getElem?_eq_some_iff.1 HSA.out).1).trans HSA.out)
        have HLW := Lib.hid (HLW.out.below hB)
        have HI9 := Lib.hid (HI9.out.below hB)
        have HBW := Lib.hid (join HBW.out hB)
        clear k0 k1 k2 k3 k4 k5 k6 k7 k8 y0 y1
        clear hB 
        obtain ⟨k0, k1, k2⟩ := blk3 HLW.out.prm
        obtain ⟨k3, k4, k5⟩ := blk3 HLW.out.x7
        obtain ⟨k6, k7, k8⟩ := blk3 HLW.out.x8
        have y0 := blk_cells HSA.out 0 _ rfl
        have y1 := blk_cells HSA.out 1 _ rfl
        go_wp2_with fail
        refine (CRW.out p8 q8 pl a8 b8 cl _ HLW.out.r8 (HL.out.below HBW.out)).mono ?_
        rintro e w2 ⟨rfl, hB⟩
        have HSA := Lib.hid ((hB.block _ (Array.getElem?_eq_some_iff.1 HSA.out).1).trans HSA.out)
        have HLW := Lib.hid (HLW.out.below hB)
        have HI9 := Lib.hid (HI9.out.below hB)
        have HBW := Lib.hid (join HBW.out hB)
        clear k0 k1 k2 k3 k4 k5 k6 k7 k8 y0 y1
        clear hB 
        have HSB := Lib.hid (heap_last w2 (.cells #[.int .i64 0, .int .i64 0] 27))
        have hB := below1 w2 (.cells #[.int .i64 0, .int .i64 0] 27)
        have HSA := Lib.hid ((hB.block _ (Array.getElem?_eq_some_iff.1 HSA.out).1).trans HSA.out)
        have HLW := Lib.hid (HLW.out.below hB)
        have HI9 := Lib.hid (HI9.out.below hB)
        have HBW := Lib.hid (join HBW.out hB)
        clear hB
        obtain ⟨k0, k1, k2⟩ := blk3 HLW.out.prm
        obtain ⟨k3, k4, k5⟩ := blk3 HLW.out.x7
        obtain ⟨k6, k7, k8⟩ := blk3 HLW.out.x8
        have y0 := blk_cells HSA.out 0 _ rfl
        have y1 := blk_cells HSA.out 1 _ rfl
        have z0 := blk_cells HSB.out 0 _ rfl
        have z1 := blk_cells HSB.out 1 _ rfl
        go_wp2_with fail
        refine (same_yes t hl1 hl2 p7 q7 pw pt a7 b7 cw ct _ HLW.out.r7 HLW.out.r0).mono ?_
        rintro e w2 ⟨rfl, hB⟩
        have HSA := Lib.hid ((hB.block _ (Array.getElem?_eq_some_iff.1 HSA.out).1).trans HSA.out)
        have HSB := Lib.hid ((hB.block _ (Array.getElem?_eq_some_iff.1 HSB.out).1).trans HSB.out)
        have HLW := Lib.hid (HLW.out.below hB)
        have HI9 := Lib.hid (HI9.out.below hB)
        have HBW := Lib.hid (join HBW.out hB)
        clear k0 k1 k2 k3 k4 k5 k6 k7 k8 y0 y1 z0 z1
        clear hB 
        obtain ⟨k0, k1, k2⟩ := blk3 HLW.out.prm
        obtain ⟨k3, k4, k5⟩ := blk3 HLW.out.x7
        obtain ⟨k6, k7, k8⟩ := blk3 HLW.out.x8
        have y0 := blk_cells HSA.out 0 _ rfl
        have y1 := blk_cells HSA.out 1 _ rfl
        have z0 := blk_cells HSB.out 0 _ rfl
        have z1 := blk_cells HSB.out 1 _ rfl
        go_wp2_with fail
        refine (Like_ints p9 pl c9 cl l l true (by simp) _ hl3 hl3 HI9.out (HL.out.below HBW.out)).mono ?_
        rintro e w2 ⟨rfl, hB⟩
        have HSA := Lib.hid ((hB.block _ (Array.getElem?_eq_some_iff.1 HSA.out).1).trans HSA.out)
        have HSB := Lib.hid ((hB.block _ (Array.getElem?_eq_some_iff.1 HSB.out).1).trans HSB.out)
        have HLW := Lib.hid (HLW.out.below hB)
        have HI9 := Lib.hid (HI9.out.below hB)
        have HBW := Lib.hid (join HBW.out hB)
        clear k0 k1 k2 k3 k4 k5 k6 k7 k8 y0 y1 z0 z1
        clear hB 
        obtain ⟨k0, k1, k2⟩ := blk3 HLW.out.prm
        obtain ⟨k3, k4, k5⟩ := blk3 HLW.out.x7
        obtain ⟨k6, k7, k8⟩ := blk3 HLW.out.x8
        have y0 := blk_cells HSA.out 0 _ rfl
        have y1 := blk_cells HSA.out 1 _ rfl
        have z0 := blk_cells HSB.out 0 _ rfl
        have z1 := blk_cells HSB.out 1 _ rfl
        go_wp2_with fail
        refine (awake_any _).mono ?_
        rintro e w10 ⟨rfl, hB10⟩
        have HBW := Lib.hid (join HBW.out hB10)
        clear hB10
        go_wp2
        go_ret
        exact ⟨rfl, HBW.out⟩
      have HAV : Hid (av = ag) := Lib.hid (by rw [HAR.out, if_pos he, if_pos hr])
      rw [HAV.out] at CAS
      replace CRA := Lib.hid (CRA.out he)
      subst he
      subst hr
      obtain ⟨aa, ab, ac, ad⟩ := ag
      dsimp only at CAS CRA HGE
      clear HAV HAR
      rcases HGE.out with rfl | rfl
      · clear HGE
        obtain ⟨k0, k1, k2⟩ := blk3 HLW.out.prm
        obtain ⟨k3, k4, k5⟩ := blk3 HLW.out.x7
        obtain ⟨k6, k7, k8⟩ := blk3 HLW.out.x8
        refine (CAS.out p7 q7 p9 a7 b7 c9 ⟨hcw.1, hcw.2⟩ _ HLW.out.r7 HI9.out).mono ?_
        rintro e w2 ⟨rfl, hB⟩
        have HLW := Lib.hid (HLW.out.below hB)
        have HI9 := Lib.hid (HI9.out.below hB)
        have HBW := Lib.hid (join HBW.out hB)
        clear k0 k1 k2 k3 k4 k5 k6 k7 k8
        clear hB 
        have HSA := Lib.hid (heap_last w2 (.cells #[.int .i64 ab, .int .i64 ac] 27))
        have hB := below1 w2 (.cells #[.int .i64 ab, .int .i64 ac] 27)
        have HLW := Lib.hid (HLW.out.below hB)
        have HI9 := Lib.hid (HI9.out.below hB)
        have HBW := Lib.hid (join HBW.out hB)
        clear hB
        obtain ⟨k0, k1, k2⟩ := blk3 HLW.out.prm
        obtain ⟨k3, k4, k5⟩ := blk3 HLW.out.x7
        obtain ⟨k6, k7, k8⟩ := blk3 HLW.out.x8
        have y0 := blk_cells HSA.out 0 _ rfl
        have y1 := blk_cells HSA.out 1 _ rfl
        go_wp2_with fail
        refine (CRE.out p8 q8 pl a8 b8 cl _ HLW.out.r8 (HL.out.below HBW.out)).mono ?_
        rintro e w2 ⟨rfl, hB⟩
        have HSA := Lib.hid ((hB.block _ (Array.getElem?_eq_some_iff.1 HSA.out).1).trans HSA.out)
        have HLW := Lib.hid (HLW.out.below hB)
        have HI9 := Lib.hid (HI9.out.below hB)
        have HBW := Lib.hid (join HBW.out hB)
        clear k0 k1 k2 k3 k4 k5 k6 k7 k8 y0 y1
        clear hB 
        obtain ⟨k0, k1, k2⟩ := blk3 HLW.out.prm
        obtain ⟨k3, k4, k5⟩ := blk3 HLW.out.x7
        obtain ⟨k6, k7, k8⟩ := blk3 HLW.out.x8
        have y0 := blk_cells HSA.out 0 _ rfl
        have y1 := blk_cells HSA.out 1 _ rfl
        go_wp2_with fail
        refine (CRW.out p8 q8 pl a8 b8 cl _ HLW.out.r8 (HL.out.below HBW.out)).mono ?_
        rintro e w2 ⟨rfl, hB⟩
        have HSA := Lib.hid ((hB.block _ (Array.getElem?_eq_some_iff.1 HSA.out).1).trans HSA.out)
        have HLW := Lib.hid (HLW.out.below hB)
        have HI9 := Lib.hid (HI9.out.below hB)
        have HBW := Lib.hid (join HBW.out hB)
        clear k0 k1 k2 k3 k4 k5 k6 k7 k8 y0 y1
        clear hB 
        obtain ⟨wX, hwX⟩ : ∃ wX, wX = w2 := ⟨_, rfl⟩
        rw [← hwX] at HLW HSA HI9 HBW ⊢
        clear hwX
        have HLX := HLW
        have HSX := HSA
        have HIX := HI9
        have HBX := HBW
        have HSB := Lib.hid (heap_last wX (.cells #[.int .i64 0, .int .i64 0] 27))
        have hB := below1 wX (.cells #[.int .i64 0, .int .i64 0] 27)
        have HSA := Lib.hid ((hB.block _ (Array.getElem?_eq_some_iff.1 HSA.out).1).trans HSA.out)
        have HLW := Lib.hid (HLW.out.below hB)
        have HI9 := Lib.hid (HI9.out.below hB)
        have HBW := Lib.hid (join HBW.out hB)
        clear hB
        obtain ⟨k0, k1, k2⟩ := blk3 HLW.out.prm
        obtain ⟨k3, k4, k5⟩ := blk3 HLW.out.x7
        obtain ⟨k6, k7, k8⟩ := blk3 HLW.out.x8
        have y0 := blk_cells HSA.out 0 _ rfl
        have y1 := blk_cells HSA.out 1 _ rfl
        have z0 := blk_cells HSB.out 0 _ rfl
        have z1 := blk_cells HSB.out 1 _ rfl
        go_wp2_with fail
        refine (CRA.out p8 q8 pl a8 b8 cl _ HLW.out.r8 (HL.out.below HBW.out)).mono ?_
        rintro e w2 ⟨rfl, hB⟩
        have HSB := Lib.hid ((hB.block _ (Array.getElem?_eq_some_iff.1 HSB.out).1).trans HSB.out)
        have HBY := Lib.hid (join (below1 wX (.cells #[.int .i64 0, .int .i64 0] 27)) hB)
        clear k0 k1 k2 k3 k4 k5 k6 k7 k8 y0 y1 z0 z1
        clear hB
        have z0 := blk_cells HSB.out 0 _ rfl
        have z1 := blk_cells HSB.out 1 _ rfl
        have zf : ∀ i, w2.frozen? ⟨wX.heap.size, i, none⟩ = false := fun i => by simp [World.frozen?, HSB.out]
        have zs : wX.heap.size < w2.heap.size := (Array.getElem?_eq_some_iff.1 HSB.out).1
        obtain ⟨wY, hwY⟩ : ∃ wY, wY = (w2.setCell ⟨wX.heap.size, 0, none⟩ (.int .i64 ab)).setCell ⟨wX.heap.size, 1, none⟩ (.int .i64 ac) := ⟨_, rfl⟩
        have HBZ : Below wX.heap.size wX wY := by rw [hwY]; exact belS (belS HBY.out (Nat.le_refl _)) (Nat.le_refl _)
        have HSB2 : Hid (wY.heap[wX.heap.size]? = some (.cells #[.int .i64 ab, .int .i64 ac] 27 (0, 0))) := Lib.hid (by rw [hwY]; exact heap_set_same _ (heap_set_same _ HSB.out))
        have HLW := Lib.hid (HLX.out.below HBZ)
        have HI9 := Lib.hid (HIX.out.below HBZ)
        have HSA := Lib.hid ((HBZ.block _ (Array.getElem?_eq_some_iff.1 HSX.out).1).trans HSX.out)
        have HBW := Lib.hid (join HBX.out HBZ)
        clear HSB HBY HBZ HLX HIX HSX HBX
        have HSB := HSB2
        clear HSB2
        rw [hwY] at HLW HI9 HSA HBW HSB
        clear hwY
        obtain ⟨k0, k1, k2⟩ := blk3 HLW.out.prm
        obtain ⟨k3, k4, k5⟩ := blk3 HLW.out.x7
        obtain ⟨k6, k7, k8⟩ := blk3 HLW.out.x8
        have y0 := blk_cells HSA.out 0 _ rfl
        have y1 := blk_cells HSA.out 1 _ rfl
        have z0 := blk_cells HSB.out 0 _ rfl
        have z1 := blk_cells HSB.out 1 _ rfl
        go_wp2_with fail
        refine (same_yes t hl1 hl2 p7 q7 pw pt a7 b7 cw ct _ HLW.out.r7 HLW.out.r0).mono ?_
        rintro e w2 ⟨rfl, hB⟩
        have HSA := Lib.hid ((hB.block _ (Array.getElem?_eq_some_iff.1 HSA.out).1).trans HSA.out)
        have HSB := Lib.hid ((hB.block _ (Array.getElem?_eq_some_iff.1 HSB.out).1).trans HSB.out)
        have HLW := Lib.hid (HLW.out.below hB)
        have HI9 := Lib.hid (HI9.out.below hB)
        have HBW := Lib.hid (join HBW.out hB)
        clear k0 k1 k2 k3 k4 k5 k6 k7 k8 y0 y1 z0 z1
        clear hB 
        obtain ⟨k0, k1, k2⟩ := blk3 HLW.out.prm
        obtain ⟨k3, k4, k5⟩ := blk3 HLW.out.x7
        obtain ⟨k6, k7, k8⟩ := blk3 HLW.out.x8
        have y0 := blk_cells HSA.out 0 _ rfl
        have y1 := blk_cells HSA.out 1 _ rfl
        have z0 := blk_cells HSB.out 0 _ rfl
        have z1 := blk_cells HSB.out 1 _ rfl
        go_wp2_with fail
        refine (Like_ints p9 pl c9 cl l l true (by simp) _ hl3 hl3 HI9.out (HL.out.below HBW.out)).mono ?_
        rintro e w2 ⟨rfl, hB⟩
        have HSA := Lib.hid ((hB.block _ (Array.getElem?_eq_some_iff.1 HSA.out).1).trans HSA.out)
        have HSB := Lib.hid ((hB.block _ (Array.getElem?_eq_some_iff.1 HSB.out).1).trans HSB.out)
        have HLW := Lib.hid (HLW.out.below hB)
        have HI9 := Lib.hid (HI9.out.below hB)
        have HBW := Lib.hid (join HBW.out hB)
        clear k0 k1 k2 k3 k4 k5 k6 k7 k8 y0 y1 z0 z1
        clear hB 
        obtain ⟨k0, k1, k2⟩ := blk3 HLW.out.prm
        obtain ⟨k3, k4, k5⟩ := blk3 HLW.out.x7
        obtain ⟨k6, k7, k8⟩ := blk3 HLW.out.x8
        have y0 := blk_cells HSA.out 0 _ rfl
        have y1 := blk_cells HSA.out 1 _ rfl
        have z0 := blk_cells HSB.out 0 _ rfl
        have z1 := blk_cells HSB.out 1 _ rfl
        go_wp2_with fail
        refine (awake_any _).mono ?_
        rintro e w10 ⟨rfl, hB10⟩
        have HBW := Lib.hid (join HBW.out hB10)
        clear hB10
        go_wp2
        go_ret
        exact ⟨rfl, HBW.out⟩
      · clear HGE
        obtain ⟨k0, k1, k2⟩ := blk3 HLW.out.prm
        obtain ⟨k3, k4, k5⟩ := blk3 HLW.out.x7
        obtain ⟨k6, k7, k8⟩ := blk3 HLW.out.x8
        refine (CAS.out p7 q7 p9 a7 b7 c9 ⟨hcw.1, hcw.2⟩ _ HLW.out.r7 HI9.out).mono ?_
        rintro e w2 ⟨rfl, hB⟩
        have HLW := Lib.hid (HLW.out.below hB)
        have HI9 := Lib.hid (HI9.out.below hB)
        have HBW := Lib.hid (join HBW.out hB)
        clear k0 k1 k2 k3 k4 k5 k6 k7 k8
        clear hB 
        have HSA := Lib.hid (heap_last w2 (.cells #[.int .i64 ab, .int .i64 ac] 27))
        have hB := below1 w2 (.cells #[.int .i64 ab, .int .i64 ac] 27)
        have HLW := Lib.hid (HLW.out.below hB)
        have HI9 := Lib.hid (HI9.out.below hB)
        have HBW := Lib.hid (join HBW.out hB)
        clear hB
        obtain ⟨k0, k1, k2⟩ := blk3 HLW.out.prm
        obtain ⟨k3, k4, k5⟩ := blk3 HLW.out.x7
        obtain ⟨k6, k7, k8⟩ := blk3 HLW.out.x8
        have y0 := blk_cells HSA.out 0 _ rfl
        have y1 := blk_cells HSA.out 1 _ rfl
        go_wp2_with fail
        refine (CRE.out p8 q8 pl a8 b8 cl _ HLW.out.r8 (HL.out.below HBW.out)).mono ?_
        rintro e w2 ⟨rfl, hB⟩
        have HSA := Lib.hid ((hB.block _ (Array.getElem?_eq_some_iff.1 HSA.out).1).trans HSA.out)
        have HLW := Lib.hid (HLW.out.below hB)
        have HI9 := Lib.hid (HI9.out.below hB)
        have HBW := Lib.hid (join HBW.out hB)
        clear k0 k1 k2 k3 k4 k5 k6 k7 k8 y0 y1
        clear hB 
        obtain ⟨k0, k1, k2⟩ := blk3 HLW.out.prm
        obtain ⟨k3, k4, k5⟩ := blk3 HLW.out.x7
        obtain ⟨k6, k7, k8⟩ := blk3 HLW.out.x8
        have y0 := blk_cells HSA.out 0 _ rfl
        have y1 := blk_cells HSA.out 1 _ rfl
        go_wp2_with fail
        refine (CRW.out p8 q8 pl a8 b8 cl _ HLW.out.r8 (HL.out.below HBW.out)).mono ?_
        rintro e w2 ⟨rfl, hB⟩
        have HSA := Lib.hid ((hB.block _ (Array.getElem?_eq_some_iff.1 HSA.out).1).trans HSA.out)
        have HLW := Lib.hid (HLW.out.below hB)
        have HI9 := Lib.hid (HI9.out.below hB)
        have HBW := Lib.hid (join HBW.out hB)
        clear k0 k1 k2 k3 k4 k5 k6 k7 k8 y0 y1
        clear hB 
        obtain ⟨wX, hwX⟩ : ∃ wX, wX = w2 := ⟨_, rfl⟩
        rw [← hwX] at HLW HSA HI9 HBW ⊢
        clear hwX
        have HLX := HLW
        have HSX := HSA
        have HIX := HI9
        have HBX := HBW
        have HSB := Lib.hid (heap_last wX (.cells #[.int .i64 0, .int .i64 0] 27))
        have hB := below1 wX (.cells #[.int .i64 0, .int .i64 0] 27)
        have HSA := Lib.hid ((hB.block _ (Array.getElem?_eq_some_iff.1 HSA.out).1).trans HSA.out)
        have HLW := Lib.hid (HLW.out.below hB)
        have HI9 := Lib.hid (HI9.out.below hB)
        have HBW := Lib.hid (join HBW.out hB)
        clear hB
        obtain ⟨k0, k1, k2⟩ := blk3 HLW.out.prm
        obtain ⟨k3, k4, k5⟩ := blk3 HLW.out.x7
        obtain ⟨k6, k7, k8⟩ := blk3 HLW.out.x8
        have y0 := blk_cells HSA.out 0 _ rfl
        have y1 := blk_cells HSA.out 1 _ rfl
        have z0 := blk_cells HSB.out 0 _ rfl
        have z1 := blk_cells HSB.out 1 _ rfl
        go_wp2_with fail
        refine (CRA.out p8 q8 pl a8 b8 cl _ HLW.out.r8 (HL.out.below HBW.out)).mono ?_
        rintro e w2 ⟨rfl, hB⟩
        have HSB := Lib.hid ((hB.block _ (Array.getElem?_eq_some_iff.1 HSB.out).1).trans HSB.out)
        have HBY := Lib.hid (join (below1 wX (.cells #[.int .i64 0, .int .i64 0] 27)) hB)
        clear k0 k1 k2 k3 k4 k5 k6 k7 k8 y0 y1 z0 z1
        clear hB
        have z0 := blk_cells HSB.out 0 _ rfl
        have z1 := blk_cells HSB.out 1 _ rfl
        have zf : ∀ i, w2.frozen? ⟨wX.heap.size, i, none⟩ = false := fun i => by simp [World.frozen?, HSB.out]
        have zs : wX.heap.size < w2.heap.size := (Array.getElem?_eq_some_iff.1 HSB.out).1
        obtain ⟨wY, hwY⟩ : ∃ wY, wY = (w2.setCell ⟨wX.heap.size, 0, none⟩ (.int .i64 ab)).setCell ⟨wX.heap.size, 1, none⟩ (.int .i64 ac) := ⟨_, rfl⟩
        have HBZ : Below wX.heap.size wX wY := by rw [hwY]; exact belS (belS HBY.out (Nat.le_refl _)) (Nat.le_refl _)
        have HSB2 : Hid (wY.heap[wX.heap.size]? = some (.cells #[.int .i64 ab, .int .i64 ac] 27 (0, 0))) := Lib.hid (by rw [hwY]; exact heap_set_same _ (heap_set_same _ HSB.out))
        have HLW := Lib.hid (HLX.out.below HBZ)
        have HI9 := Lib.hid (HIX.out.below HBZ)
        have HSA := Lib.hid ((HBZ.block _ (Array.getElem?_eq_some_iff.1 HSX.out).1).trans HSX.out)
        have HBW := Lib.hid (join HBX.out HBZ)
        clear HSB HBY HBZ HLX HIX HSX HBX
        have HSB := HSB2
        clear HSB2
        rw [hwY] at HLW HI9 HSA HBW HSB
        clear hwY
        obtain ⟨k0, k1, k2⟩ := blk3 HLW.out.prm
        obtain ⟨k3, k4, k5⟩ := blk3 HLW.out.x7
        obtain ⟨k6, k7, k8⟩ := blk3 HLW.out.x8
        have y0 := blk_cells HSA.out 0 _ rfl
        have y1 := blk_cells HSA.out 1 _ rfl
        have z0 := blk_cells HSB.out 0 _ rfl
        have z1 := blk_cells HSB.out 1 _ rfl
        go_wp2_with fail
        refine (same_yes t hl1 hl2 p7 q7 pw pt a7 b7 cw ct _ HLW.out.r7 HLW.out.r0).mono ?_
        rintro e w2 ⟨rfl, hB⟩
        have HSA := Lib.hid ((hB.block _ (Array.getElem?_eq_some_iff.1 HSA.out).1).trans HSA.out)
        have HSB := Lib.hid ((hB.block _ (Array.getElem?_eq_some_iff.1 HSB.out).1).trans HSB.out)
        have HLW := Lib.hid (HLW.out.below hB)
        have HI9 := Lib.hid (HI9.out.below hB)
        have HBW := Lib.hid (join HBW.out hB)
        clear k0 k1 k2 k3 k4 k5 k6 k7 k8 y0 y1 z0 z1
        clear hB 
        obtain ⟨k0, k1, k2⟩ := blk3 HLW.out.prm
        obtain ⟨k3, k4, k5⟩ := blk3 HLW.out.x7
        obtain ⟨k6, k7, k8⟩ := blk3 HLW.out.x8
        have y0 := blk_cells HSA.out 0 _ rfl
        have y1 := blk_cells HSA.out 1 _ rfl
        have z0 := blk_cells HSB.out 0 _ rfl
        have z1 := blk_cells HSB.out 1 _ rfl
        go_wp2_with fail
        refine (Like_ints p9 pl c9 cl l l true (by simp) _ hl3 hl3 HI9.out (HL.out.below HBW.out)).mono ?_
        rintro e w2 ⟨rfl, hB⟩
        have HSA := Lib.hid ((hB.block _ (Array.getElem?_eq_some_iff.1 HSA.out).1).trans HSA.out)
        have HSB := Lib.hid ((hB.block _ (Array.getElem?_eq_some_iff.1 HSB.out).1).trans HSB.out)
        have HLW := Lib.hid (HLW.out.below hB)
        have HI9 := Lib.hid (HI9.out.below hB)
        have HBW := Lib.hid (join HBW.out hB)
        clear k0 k1 k2 k3 k4 k5 k6 k7 k8 y0 y1 z0 z1
        clear hB 
        obtain ⟨k0, k1, k2⟩ := blk3 HLW.out.prm
        obtain ⟨k3, k4, k5⟩ := blk3 HLW.out.x7
        obtain ⟨k6, k7, k8⟩ := blk3 HLW.out.x8
        have y0 := blk_cells HSA.out 0 _ rfl
        have y1 := blk_cells HSA.out 1 _ rfl
        have z0 := blk_cells HSB.out 0 _ rfl
        have z1 := blk_cells HSB.out 1 _ rfl
        go_wp2_with fail
        refine (awake_any _).mono ?_
        rintro e w10 ⟨rfl, hB10⟩
        have HBW := Lib.hid (join HBW.out hB10)
        clear hB10
        go_wp2
        go_ret
        exact ⟨rfl, HBW.out⟩
end Go.Proofs.Ytadnggecnjdhiaa
namespace Go.Proofs.Ytadnggecnjdhiaa
open Go.ChangeShapes Go.WideShapes Go.ChangeAt Go.RowKit Go.Joins Tx
set_option linter.unusedVariables false
set_option linter.unusedSimpArgs false

set_option maxRecDepth 100000 in
theorem TextAstray_lifted (os : Os) (started : os.Started) (H : Type) (enc : TypeId × Value → H) :
    ReturnsInHanded {} Try.checked os 6 .any (Rows.textAstraySpec.pre6 enc Try.prog Try.f6 Rows.textAstrayRow.domain false) (Rows.textAstraySpec.post enc Try.prog Try.f6 false true false false) := by
  refine returnsInHanded_of_change (C := Try.checked) Try.own started (by kernel_rfl) Try.func6
    (ChangeSpec.witness6 (enc := enc) (C := Try.checked) false ⟨#[], #[.agg #[.slice none 0 0, .slice none 0 0, .int .i64 0], .slice none 0 0], []⟩ 8 (by kernel_rfl) (by kernel_rfl) (by kernel_rfl) (by kernel_rfl)) ?_
  intro W base args ds gs before hval0 hW hcnd _
  have hval : ∀ (j : Nat) t v, Try.f6.params[j]? = some t → args[j]? = some v → Value.okWide Try.prog W .any base t v := hval0
  have hW' := hW
  obtain ⟨p, q, hA0, hV, rfl, hfz, hnd⟩ := hW
  have hA : DataW.TrodAll enc Try.prog W 0 (fun _ => true) true Try.f6.params.toList args.toList ds p := hA0
  rw [Try.params6] at hA hval
  obtain ⟨v0, vs0, d0, ds0, p0, q0, hargs, rfl, rfl, h0, r0⟩ := trodAll_cons hA
  obtain ⟨v1, vs1, d1, ds1, p1, q1, rfl, rfl, rfl, h1, r1⟩ := trodAll_cons r0
  obtain ⟨rfl, rfl, rfl⟩ := trodAll_nil r1
  obtain rfl : args = #[v0, v1] := by cases args; simp_all
  obtain ⟨rfl, rfl⟩ := trodVars_none hV
  have lt0 := lt_of_trod h0
  have k0 := h0
  obtain ⟨pw0, pt0, cw0, ct0, t0, e0, hT0, l0, m0⟩ := text_of_trod (fun _ => rfl) (hval 0 25 v0 rfl rfl) h0
  have lt1 := lt_of_trod h1
  have k1 := h1
  obtain ⟨a1, c1, xs1, e1, hL1, l1⟩ := ints_of_Trod (fun _ => rfl) (hval 1 28 v1 rfl rfl) h1
  clear hA0 hval0
  subst e0
  subst e1
  refine (TextAstray_any t0 xs1 l0 m0 l1 pw0 pt0 a1 cw0 ct0 c1 W hT0 hL1).mono fun e W' ⟨he, bel⟩ => ?_
  subst he
  exact ⟨_, rfl, _, _, _, [], _, [], hW', trodAll_mk1 (shut_bool Try.underlying4 _), (trodAll_cons_mk (Below.trod Try.laidOut (by kernel_rfl) (of_decide_eq_true (by kernel_rfl)) k0 bel lt0) (trodAll_cons_mk (Below.trod Try.laidOut (by kernel_rfl) (of_decide_eq_true (by kernel_rfl)) k1 bel lt1) trodAll_mk0)), rfl, bel.frame _, fun h => by cases h⟩

theorem TextAstray_holds : Rows.TextAstraySaid :=
  OpenClaim.holds_of_wide 6 Try.f6 rfl rfl rfl rfl rfl rfl rfl ⟨rfl, rfl, rfl, rfl, rfl⟩ rfl rfl rfl rfl rfl (by kernel_rfl) Try.func6 (by kernel_rfl)
    (of_decide_eq_true (by kernel_rfl)) (by unfold Func.isWrapper; first | (rw [if_pos (by decide +kernel)]; kernel_rfl) | (rw [if_neg (by decide +kernel)]; exact ⟨rfl, rfl⟩))
    (fun os started H enc _ => TextAstray_lifted os started H enc)
end Go.Proofs.Ytadnggecnjdhiaa
