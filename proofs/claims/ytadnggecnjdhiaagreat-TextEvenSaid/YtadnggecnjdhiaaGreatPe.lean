/- oyezlaw02.TextEven: a right reading whose longest breath is as short as can be, with the fewest breaths, and a sure reading with the fewest breaths are as specified, for any text. No condition. -/
import Derived.Test.YtadnggecnjdhiaaGreatZj
set_option linter.unusedSimpArgs false
set_option linter.unusedVariables false
namespace Go.Proofs.YtadnggecnjdhiaaGreat
open Go.RowKit Tx
attribute [local go_sem] Oper.semAt_some
def spLte (t : Text) (pw pt : Option Addr) (cw ct B : Nat)  : Nat → List Value → Value → World → Prop
  | 0, _, v, _ => v = .agg #[.slice pw t.words.length cw, .slice pt t.turns.length ct, .int .i64 t.breath]
  | 1, L, v, w => ∃ p q c d, v = .agg #[.slice p t.words.length c, .slice q t.turns.length d, .int .i64 t.breath] ∧ w.ownsRow B 61 3 (.slice p t.words.length c) t.words.length (wcells t.words) ∧ w.ownsRow B 63 3 (.slice q t.turns.length d) t.turns.length (tcells t.turns) ∧ t.words.length ≤ c ∧ c ≤ maxLen
  | 2, _, v, _ => v = .agg #[.slice pw t.words.length cw, .slice pt t.turns.length ct, .int .i64 t.breath]
  | 3, L, v, w => ∃ p q c d, v = .agg #[.slice p t.words.length c, .slice q t.turns.length d, .int .i64 t.breath] ∧ w.ownsRow B 80 3 (.slice p t.words.length c) t.words.length (wcells t.words) ∧ w.ownsRow B 81 3 (.slice q t.turns.length d) t.turns.length (tcells t.turns)
  | 4, L, v, w => ∃ p, v = .pointer (some ⟨p, 0, none⟩) ∧ B ≤ p ∧ w.heap[p]? = some (.cells #[.slice none 0 0, .slice none 0 0, .int .i64 0] 25 (0, 0))
  | 5, L, v, w => ∃ p, v = .pointer (some ⟨p, 0, none⟩) ∧ B ≤ p ∧ w.heap[p]? = some (.cells #[.slice none 0 0, .slice none 0 0, .int .i64 0] 32 (0, 0))
  | _, _, _, _ => False
theorem spLte_stable (t : Text) (pw pt : Option Addr) (cw ct B : Nat)  : ∀ i L v w w', spLte t pw pt cw ct B i L v w → Rs.Gr w w' → spLte t pw pt cw ct B i L v w' := by
  intro i L v w w' h hg
  match i with
  | 0 => exact h
  | 1 => obtain ⟨p, q, c, d, h1, h2, h3, h4⟩ := h; exact ⟨p, q, c, d, h1, own_below h2 hg, own_below h3 hg, h4⟩
  | 2 => exact h
  | 3 => obtain ⟨p, q, c, d, h1, h2, h3⟩ := h; exact ⟨p, q, c, d, h1, own_below h2 hg, own_below h3 hg⟩
  | 4 => obtain ⟨p, h1, h2, h3⟩ := h; exact ⟨p, h1, h2, (hg.block p (Array.getElem?_eq_some_iff.1 h3).1).trans h3⟩
  | 5 => obtain ⟨p, h1, h2, h3⟩ := h; exact ⟨p, h1, h2, (hg.block p (Array.getElem?_eq_some_iff.1 h3).1).trans h3⟩

set_option maxHeartbeats 6000000 in
set_option maxRecDepth 100000 in
theorem TextEven_any (t : Text) (hm1 : t.words.length ≤ 9223372036854775807) (hm2 : t.turns.length ≤ 9223372036854775807) (pw pt : Option Addr) (cw ct : Nat) (w : World) (hW : TxAt w t pw pt) :
    Calls Tryz.prog 3 #[.agg #[.slice pw t.words.length cw, .slice pt t.turns.length ct, .int .i64 t.breath]] w fun e w' => e = .returned (.bool true) ∧ Below w.heap.size w w' := by
  have HW := Lib.hid hW
  have HB0 := Lib.hid (below1 w (.cells #[.slice pw t.words.length cw, .slice pt t.turns.length ct, .int .i64 t.breath] 25))
  have HX0 := Lib.hid (heap_last w (.cells #[.slice pw t.words.length cw, .slice pt t.turns.length ct, .int .i64 t.breath] 25))
  have HG := Lib.hid (fun W => great_any t 9 hm1 hm2 pw pt cw ct W)
  have HN := Lib.hid (great_no (t := t) (n := 9))
  generalize greatB t 9 = gb at HG HN
  clear hW
  cases gb with
  | true =>
    obtain ⟨k0, k1, k2⟩ := blk3 HX0.out
    go_enter Tryz.func3, Tryz.ntmps3
    go_wp2_with fail
    refine (HG.out _).mono ?_
    rintro e w1 ⟨rfl, hB⟩
    have HB1 := Lib.hid (join HB0.out hB)
    clear hB k0 k1 k2
    go_wp2_with fail
    refine (awake_any w1).mono ?_
    rintro e w2 ⟨rfl, hB⟩
    have HB2 := Lib.hid (join HB1.out hB)
    clear hB
    go_wp2
    go_ret
    exact ⟨rfl, HB2.out⟩
  | false =>
    have hn := HN.out rfl
    clear HN
    have hl1 : t.words.length ≤ 1000000 := by omega
    have hl2 : t.turns.length ≤ 1000000 := by omega
    have CEV := fun p q c d hc W (h : TxAt W t p q) => Even_any t hl1 hl2 p q c d hc W h
    have CSU := Lib.hid (fun p q c d hc W (h : TxAt W t p q) => Surest_any t hl1 hl2 p q c d hc W h)
    have CCK := Lib.hid (fun p q c d W (h : TxAt W t p q) => rCheck_any t hl1 hl2 p q c d W h)
    unfold EvenPost at CEV
    have CEV := Lib.hid CEV
    obtain ⟨er, her⟩ : ∃ er, t.err = er := ⟨_, rfl⟩
    rw [her] at CCK
    obtain ⟨k0, k1, k2⟩ := blk3 HX0.out
    go_enter Tryz.func3, Tryz.ntmps3
    go_wp2_with fail
    refine (HG.out _).mono ?_
    rintro e w1 ⟨rfl, hB⟩
    have HX1 := Lib.hid ((hB.block w.heap.size (Array.getElem?_eq_some_iff.1 HX0.out).1).trans HX0.out)
    have HB1 := Lib.hid (join HB0.out hB)
    have HZ0 : w.heap.size < w1.heap.size := (Array.getElem?_eq_some_iff.1 HX1.out).1
    clear hB k0 k1 k2 HX0 HB0 HG
    go_wp2_with fail
    refine Rs.region_gen 6 [[], [0], [], [0, 1, 2], [], []] [some 25, some 26, some 27, some 28, some 3, some 4] (spLte t pw pt cw ct w1.heap.size) (by kernel_rfl) (by kernel_rfl) rfl (spLte_stable _ _ _ _ _ _) ?_ ?_
    · refine ⟨fun V w' hG hs => ?_, fun V w' hG hs => ?_, fun V w' hG hs => ?_, fun V w' hG hs => ?_, fun V w' hG hs => ?_, fun V w' hG hs => ?_, trivial⟩
      all_goals
        obtain ⟨k0, k1, k2⟩ := blk3 ((hG.block w.heap.size HZ0).trans HX1.out)
      · rw [if_pos (by rfl)]
        exact Rs.GrowL.value (v := .agg #[.slice pw t.words.length cw, .slice pt t.turns.length ct, .int .i64 t.breath]) (w' := w') (by simp [go_sem, Rs.look, k0, k1, k2]) (Rs.Gr.refl _) rfl
      · have e0 : V 0 = .agg #[.slice pw t.words.length cw, .slice pt t.turns.length ct, .int .i64 t.breath] := hs 0 (by simp)
        rw [if_pos (by rfl)]
        refine Rs.GrowL.call (f := 7) (args := #[.agg #[.slice pw t.words.length cw, .slice pt t.turns.length ct, .int .i64 t.breath]]) (by simp [go_sem, Rs.look, e0]) ?_
        refine (lCopy_any t hl1 hl2 pw pt cw ct w' (HW.out.below (join HB1.out hG))).mono ?_
        rintro e w2 ⟨g, h, rfl, o1, o2, hB2⟩
        exact ⟨_, rfl, hB2, _, _, _, _, rfl, own_base o1 hG.size, own_base o2 hG.size, Nat.le_refl _, by unfold maxLen; omega⟩
      · rw [if_pos (by rfl)]
        exact Rs.GrowL.value (v := .agg #[.slice pw t.words.length cw, .slice pt t.turns.length ct, .int .i64 t.breath]) (w' := w') (by simp [go_sem, Rs.look, k0, k1, k2]) (Rs.Gr.refl _) rfl
      · have e0 : V 0 = .agg #[.slice pw t.words.length cw, .slice pt t.turns.length ct, .int .i64 t.breath] := hs 0 (by simp)
        have r1 := hs 1 (by simp)
        have e2 : V 2 = .agg #[.slice pw t.words.length cw, .slice pt t.turns.length ct, .int .i64 t.breath] := hs 2 (by simp)
        rw [if_pos (by rfl)]
        refine Rs.GrowL.call (f := 8) (args := #[.agg #[.slice pw t.words.length cw, .slice pt t.turns.length ct, .int .i64 t.breath]]) (by simp [go_sem, Rs.look, e2]) ?_
        refine (theirs_any t hl1 hl2 pw pt cw ct w' (HW.out.below (join HB1.out hG))).mono ?_
        rintro e w2 ⟨p, q, c, d, rfl, o1, o2, hB2⟩
        exact ⟨_, rfl, hB2, _, _, _, _, rfl, own_base o1 hG.size, own_base o2 hG.size⟩
      · rw [if_pos (by rfl)]
        exact Rs.GrowL.value (v := .pointer (some ⟨w'.heap.size, 0, none⟩)) (w' := w'.alloc (.cells #[.slice none 0 0, .slice none 0 0, .int .i64 0] 25)) (by simp [go_sem, Rs.look]) (below1 _ _) ⟨_, rfl, hG.size, heap_last _ _⟩
      · rw [if_pos (by rfl)]
        exact Rs.GrowL.value (v := .pointer (some ⟨w'.heap.size, 0, none⟩)) (w' := w'.alloc (.cells #[.slice none 0 0, .slice none 0 0, .int .i64 0] 32)) (by simp [go_sem, Rs.look]) (below1 _ _) ⟨_, rfl, hG.size, heap_last _ _⟩
    · intro V w' hG hs
      have e0 : V 0 = .agg #[.slice pw t.words.length cw, .slice pt t.turns.length ct, .int .i64 t.breath] := hs 0 (by omega)
      have r1 := hs 1 (by omega)
      have e2 : V 2 = .agg #[.slice pw t.words.length cw, .slice pt t.turns.length ct, .int .i64 t.breath] := hs 2 (by omega)
      have r3 := hs 3 (by omega)
      have r4 := hs 4 (by omega)
      have r5 := hs 5 (by omega)
      obtain ⟨p7, q7, a7, b7, e1, o1, o2, hcw⟩ := r1
      obtain ⟨p8, q8, a8, b8, e3, o3, o4⟩ := r3
      obtain ⟨c7, e4, hc7, x7⟩ := r4
      obtain ⟨c8, e5, hc8, x8⟩ := r5
      simp only [Rs.canon, Rs.dstOf, List.range_succ, List.range_zero, List.nil_append, List.cons_append, List.foldl_cons, List.foldl_nil, List.drop_succ_cons, List.drop_zero, List.drop_nil, List.getElem?_toArray, List.getElem?_cons_succ, List.getElem?_cons_zero, Option.bind_some, Act.put, List.getD_cons_succ, List.getD_cons_zero, List.setIfInBounds_toArray, List.set_cons_succ, List.set_cons_zero]
      rw [e0, e1, e2, e3, e4, e5]
      clear e0 e1 e2 e3 e4 e5 hs
      have hne : c7 ≠ c8 := fun e => by rw [e, x8] at x7; injection x7 with h; injection h with _ h; cases h
      have hz2 := hG.size
      have hz1 := HB1.out.size
      have HBx := Lib.hid (join HB1.out hG)
      have hAx := (hG.block w.heap.size HZ0).trans HX1.out
      have HLW := Lib.hid (LwT.start hAx (by omega) (by omega) x7 x8 o1 o2 o3 o4 HW.out HBx.out (by omega) (by omega))
      have HBW := Lib.hid (lwSet_bel HBx.out (show w.heap.size ≤ c7 by omega) (show w.heap.size ≤ c8 by omega) (.slice p7 t.words.length a7) (.slice q7 t.turns.length b7) (.int .i64 t.breath) (.slice p8 t.words.length a8) (.slice q8 t.turns.length b8) (.int .i64 t.breath))
      have f7 : ∀ i, w'.frozen? ⟨c7, i, none⟩ = false := fun i => by simp [World.frozen?, x7]
      have f8 : ∀ i, w'.frozen? ⟨c8, i, none⟩ = false := fun i => by simp [World.frozen?, x8]
      obtain ⟨m0, m1, m2⟩ := blk3 x7
      obtain ⟨n0, n1, n2⟩ := blk3 x8
      have h7 : c7 < w'.heap.size := (Array.getElem?_eq_some_iff.1 x7).1
      have h8 : c8 < w'.heap.size := (Array.getElem?_eq_some_iff.1 x8).1
      clear o1 o2 o3 o4 x7 x8 hAx hz2 hz1 HX1 HB1 HBx
      clear hG
      go_wp2_with fail
      refine calls_named fun W hW => ?_
      have hW2 : W = lwSet w' c7 c8 (.slice p7 t.words.length a7) (.slice q7 t.turns.length b7) (.int .i64 t.breath) (.slice p8 t.words.length a8) (.slice q8 t.turns.length b8) (.int .i64 t.breath) := hW
      rw [← hW2] at HLW HBW
      clear hW hW2 f7 f8 m0 m1 m2 n0 n1 n2 h7 h8
      rcases (Decidable.em (er = 0)).symm with he | he
      · have HER : (er != 0) = true := by simpa using he
        have hev0 : evR t = ([], 0, er) := by rw [← her]; exact if_neg (by rw [her]; exact he)
        have hsl0 : surL t = [] := if_neg (by rw [her]; exact he)
        have hse0 : surE t = er := (if_neg (by rw [her]; exact he)).trans her
        rw [hev0] at CEV
        rw [hsl0, hse0] at CSU
        dsimp only at CEV CSU
        obtain ⟨sl, hsl⟩ : ∃ sl : List Int, sl = [] := ⟨_, rfl⟩
        rw [← hsl] at CSU
        have HSL : Hid (sl.length = 0) := Lib.hid (by rw [hsl]; rfl)
        clear her he hev0 hsl0 hse0 hsl
        obtain ⟨k0, k1, k2⟩ := blk3 HLW.out.prm
        obtain ⟨k3, k4, k5⟩ := blk3 HLW.out.x7
        obtain ⟨k6, k7, k8⟩ := blk3 HLW.out.x8
        go_wp2_with fail
        refine (CEV.out p7 q7 a7 b7 ⟨hcw.1, hcw.2⟩ _ HLW.out.r7).mono ?_
        rintro e w2 ⟨v18, rfl, ho, hB⟩
        have HLW := Lib.hid (HLW.out.below hB)
        have HBW := Lib.hid (join HBW.out hB)
        obtain ⟨p18, c18, rfl, H18, -⟩ := own_rd ho rfl
        have H18 := Lib.hid H18
        clear k0 k1 k2 k3 k4 k5 k6 k7 k8
        clear hB ho
        obtain ⟨k0, k1, k2⟩ := blk3 HLW.out.prm
        obtain ⟨k3, k4, k5⟩ := blk3 HLW.out.x7
        obtain ⟨k6, k7, k8⟩ := blk3 HLW.out.x8
        go_wp2_with fail
        refine (CSU.out p7 q7 a7 b7 ⟨hcw.1, hcw.2⟩ _ HLW.out.r7).mono ?_
        rintro e w2 ⟨v19, rfl, ho, hB⟩
        have HLW := Lib.hid (HLW.out.below hB)
        have H18 := Lib.hid (H18.out.below hB)
        have HBW := Lib.hid (join HBW.out hB)
        obtain ⟨p19, c19, rfl, H19, -⟩ := own_rd ho rfl
        have H19 := Lib.hid H19
        clear k0 k1 k2 k3 k4 k5 k6 k7 k8
        clear hB ho
        have HSB := Lib.hid (heap_last w2 (.cells #[.slice p19 sl.length c19] 34))
        have hB := below1 w2 (.cells #[.slice p19 sl.length c19] 34)
        have HLW := Lib.hid (HLW.out.below hB)
        have H18 := Lib.hid (H18.out.below hB)
        have H19 := Lib.hid (H19.out.below hB)
        have HBW := Lib.hid (join HBW.out hB)
        clear hB
        obtain ⟨k0, k1, k2⟩ := blk3 HLW.out.prm
        obtain ⟨k3, k4, k5⟩ := blk3 HLW.out.x7
        obtain ⟨k6, k7, k8⟩ := blk3 HLW.out.x8
        have y0 := blk_cells HSB.out 0 _ rfl
        go_wp2_with fail
        refine (CCK.out p8 q8 a8 b8 _ HLW.out.r8).mono ?_
        rintro e w2 ⟨rfl, hB⟩
        have HSB := Lib.hid ((hB.block _ (Array.getElem?_eq_some_iff.1 HSB.out).1).trans HSB.out)
        have HLW := Lib.hid (HLW.out.below hB)
        have H18 := Lib.hid (H18.out.below hB)
        have H19 := Lib.hid (H19.out.below hB)
        have HBW := Lib.hid (join HBW.out hB)
        clear k0 k1 k2 k3 k4 k5 k6 k7 k8 y0
        clear hB
        have hsl0 := HSL.out
        clear HSL
        obtain ⟨k0, k1, k2⟩ := blk3 HLW.out.prm
        obtain ⟨k3, k4, k5⟩ := blk3 HLW.out.x7
        obtain ⟨k6, k7, k8⟩ := blk3 HLW.out.x8
        have y0 := blk_cells HSB.out 0 _ rfl
        go_wp2_with fail
        refine (awake_any _).mono ?_
        rintro e w10 ⟨rfl, hB10⟩
        have HBW := Lib.hid (join HBW.out hB10)
        clear hB10
        go_wp2
        go_ret
        exact ⟨rfl, HBW.out⟩
      subst he
      have F := even_facts her
      have ok := err_ok her
      have hn12 := ok.n12
      have CRI := Lib.hid (fun p q c d W (h : TxAt W t p q) => Right_any t (by omega) hl2 p q c d W h)
      have CRF := Lib.hid (fun p c W (h : LLs W p (rightsR t)) => rFewest_any (rightsR t) (by have := F.r12; omega) (fun l hl => by have h1 := F.rp l hl; have := isum_ge h1.1; have := h1.2; omega) p c W h)
      have CRS := Lib.hid (fun p q r c d e W (h : TxAt W t p q) (hL : LLs W r (rightsR t)) => rSure_any t her (rightsR t) F.r12 F.rp p q r c d e W h hL)
      have CRE := Lib.hid (fun p q r c d e W (h : TxAt W t p q) (hL : LLs W r (rightsR t)) => rEven_any t ok (rightsR t) F.r12 F.rp p q r c d e W h hL)
      have CRG := Lib.hid (fun p c W (h : LLs W p (sureR t (rightsR t))) => rFewest_any (sureR t (rightsR t)) (by have := F.s12; omega) (fun l hl => by have h1 := F.sp l hl; have := isum_ge h1.1; have := h1.2; omega) p c W h)
      have hel := F.el
      have hm12 := F.m12
      have CRW := Lib.hid (fun p q r c d e W (h : TxAt W t p q) (hL : Ints W r (evR t).1) => rWrong_any t (evR t).1 hl1 hl2 (by omega) p q r c d e W h hL)
      have CRL : ∀ hB : bestLen (rightsR t) 0 ≠ 0, Hid (∀ p r c e v1 v2 W (h : Wds W p t.words) (hL : Ints W r (evR t).1), Calls Tryz.prog 17 #[.agg #[.slice p t.words.length c, v1, v2], .slice r (evR t).1.length e] W fun e w' => e = .returned (.int .i64 (longGo t 0 (evR t).1)) ∧ Below W.heap.size W w') := fun hB => Lib.hid (fun p r c e v1 v2 W (h : Wds W p t.words) (hL : Ints W r (evR t).1) => rLongest_any t ok (evR t).1 (F.ep hB) p r c e v1 v2 W h hL)
      have hsll := F.sl
      have hc12 := F.c12
      have CCF := Lib.hid (fun B ps cs p c W (hB : W.heap[B]? = some (.cells #[.slice ps (surL t).length cs] 34 (0, 0))) (hS : Ints W ps (surL t)) (hL : LLs W p (sureR t (rightsR t))) => containsFuncL 19 entered_even1 (.pointer (some ⟨B, 0, none⟩)) (fun k => decide (k = surL t)) (sureR t (rightsR t)) p c W (by have := F.s12; omega) hL (fun W' h u hu pu cu hI => even1_any u (surL t) (by have h1 := F.sp u hu; have := isum_ge h1.1; have := h1.2; omega) (by omega) B pu ps cu cs W' ((h.block B (Array.getElem?_eq_some_iff.1 hB).1).trans hB) hI (hS.below h)))
      have hsm := F.sm
      have hew := F.ew
      have heo := F.eo
      have hcb := F.cb
      have hee := F.ee
      have hfe := F.fe
      have hen := F.en
      clear F ok her hn12
      generalize rightsR t = R at CRI CRF CRS CRE CRG CCF CRL hel hm12 hsll hc12 hsm hew heo hcb hee hfe hen
      generalize sureR t R = S at CRS CRG CCF hsll hc12 hsm hcb hfe
      generalize bestLen R 0 = B at CRF CRL hew heo hcb hee
      generalize bestLen S 0 = C at CRG hsll hc12 hsm hcb hfe
      generalize evP (evS (longGo t 0) R) = ep at CRE hel hm12 heo hen
      obtain ⟨mm, mo⟩ := ep
      dsimp only at CRE hel hm12 heo hen
      have hel12 : (evR t).1.length ≤ 12 := by omega
      have hsl12 : (surL t).length ≤ 12 := by omega
      generalize evR t = ev at CEV CRW CRL hel hew heo hee hen hel12
      obtain ⟨el, en, ee⟩ := ev
      dsimp only at CEV CRW CRL hel hew heo hee hen hel12
      generalize surL t = sl at CSU CCF hsll hsm hsl12
      generalize surE t = se at CSU hfe
      subst hel
      subst hsll
      subst hen
      rcases Nat.eq_zero_or_pos B with hB0 | hB0
      · have hC0 := hcb hB0
        subst hB0
        rw [if_pos rfl] at hee CRF
        rw [if_pos hC0] at hfe CRG
        subst hee
        subst hfe
        clear CRL hew heo hsm hcb CRW CCF hC0
        obtain ⟨k0, k1, k2⟩ := blk3 HLW.out.prm
        obtain ⟨k3, k4, k5⟩ := blk3 HLW.out.x7
        obtain ⟨k6, k7, k8⟩ := blk3 HLW.out.x8
        go_wp2_with fail
        refine (CEV.out p7 q7 a7 b7 ⟨hcw.1, hcw.2⟩ _ HLW.out.r7).mono ?_
        rintro e w2 ⟨v18, rfl, ho, hB⟩
        have HLW := Lib.hid (HLW.out.below hB)
        have HBW := Lib.hid (join HBW.out hB)
        obtain ⟨p18, c18, rfl, H18, -⟩ := own_rd ho rfl
        have H18 := Lib.hid H18
        clear k0 k1 k2 k3 k4 k5 k6 k7 k8
        clear hB ho
        obtain ⟨k0, k1, k2⟩ := blk3 HLW.out.prm
        obtain ⟨k3, k4, k5⟩ := blk3 HLW.out.x7
        obtain ⟨k6, k7, k8⟩ := blk3 HLW.out.x8
        go_wp2_with fail
        refine (CSU.out p7 q7 a7 b7 ⟨hcw.1, hcw.2⟩ _ HLW.out.r7).mono ?_
        rintro e w2 ⟨v19, rfl, ho, hB⟩
        have HLW := Lib.hid (HLW.out.below hB)
        have H18 := Lib.hid (H18.out.below hB)
        have HBW := Lib.hid (join HBW.out hB)
        obtain ⟨p19, c19, rfl, H19, -⟩ := own_rd ho rfl
        have H19 := Lib.hid H19
        clear k0 k1 k2 k3 k4 k5 k6 k7 k8
        clear hB ho
        have HSB := Lib.hid (heap_last w2 (.cells #[.slice p19 sl.length c19] 34))
        have hB := below1 w2 (.cells #[.slice p19 sl.length c19] 34)
        have HLW := Lib.hid (HLW.out.below hB)
        have H18 := Lib.hid (H18.out.below hB)
        have H19 := Lib.hid (H19.out.below hB)
        have HBW := Lib.hid (join HBW.out hB)
        clear hB
        obtain ⟨k0, k1, k2⟩ := blk3 HLW.out.prm
        obtain ⟨k3, k4, k5⟩ := blk3 HLW.out.x7
        obtain ⟨k6, k7, k8⟩ := blk3 HLW.out.x8
        have y0 := blk_cells HSB.out 0 _ rfl
        go_wp2_with fail
        refine (CCK.out p8 q8 a8 b8 _ HLW.out.r8).mono ?_
        rintro e w2 ⟨rfl, hB⟩
        have HSB := Lib.hid ((hB.block _ (Array.getElem?_eq_some_iff.1 HSB.out).1).trans HSB.out)
        have HLW := Lib.hid (HLW.out.below hB)
        have H18 := Lib.hid (H18.out.below hB)
        have H19 := Lib.hid (H19.out.below hB)
        have HBW := Lib.hid (join HBW.out hB)
        clear k0 k1 k2 k3 k4 k5 k6 k7 k8 y0
        clear hB
        obtain ⟨k0, k1, k2⟩ := blk3 HLW.out.prm
        obtain ⟨k3, k4, k5⟩ := blk3 HLW.out.x7
        obtain ⟨k6, k7, k8⟩ := blk3 HLW.out.x8
        have y0 := blk_cells HSB.out 0 _ rfl
        go_wp2_with fail
        refine (CRI.out p8 q8 a8 b8 _ HLW.out.r8).mono ?_
        rintro e w2 ⟨v20, xs20, rfl, ho, he20, hB⟩
        have HSB := Lib.hid ((hB.block _ (Array.getElem?_eq_some_iff.1 HSB.out).1).trans HSB.out)
        have HLW := Lib.hid (HLW.out.below hB)
        have H18 := Lib.hid (H18.out.below hB)
        have H19 := Lib.hid (H19.out.below hB)
        have HBW := Lib.hid (join HBW.out hB)
        obtain ⟨p20, c20, rfl, H20⟩ := LLs.of_own ho he20
        have H20 := Lib.hid H20
        clear k0 k1 k2 k3 k4 k5 k6 k7 k8 y0
        clear hB ho he20
        obtain ⟨k0, k1, k2⟩ := blk3 HLW.out.prm
        obtain ⟨k3, k4, k5⟩ := blk3 HLW.out.x7
        obtain ⟨k6, k7, k8⟩ := blk3 HLW.out.x8
        have y0 := blk_cells HSB.out 0 _ rfl
        go_wp2_with fail
        refine (CRS.out p8 q8 p20 a8 b8 c20 _ HLW.out.r8 H20.out).mono ?_
        rintro e w2 ⟨v21, xs21, rfl, ho, he21, hB⟩
        have HSB := Lib.hid ((hB.block _ (Array.getElem?_eq_some_iff.1 HSB.out).1).trans HSB.out)
        have HLW := Lib.hid (HLW.out.below hB)
        have H18 := Lib.hid (H18.out.below hB)
        have H19 := Lib.hid (H19.out.below hB)
        have H20 := Lib.hid (H20.out.below hB)
        have HBW := Lib.hid (join HBW.out hB)
        obtain ⟨p21, c21, rfl, H21⟩ := LLs.of_own ho he21
        have H21 := Lib.hid H21
        clear k0 k1 k2 k3 k4 k5 k6 k7 k8 y0
        clear hB ho he21
        obtain ⟨k0, k1, k2⟩ := blk3 HLW.out.prm
        obtain ⟨k3, k4, k5⟩ := blk3 HLW.out.x7
        obtain ⟨k6, k7, k8⟩ := blk3 HLW.out.x8
        have y0 := blk_cells HSB.out 0 _ rfl
        go_wp2_with fail
        refine (CRF.out p20 c20 _ H20.out).mono ?_
        rintro e w3 ⟨rfl, hw3⟩
        subst hw3
        clear k0 k1 k2 k3 k4 k5 k6 k7 k8 y0
        obtain ⟨k0, k1, k2⟩ := blk3 HLW.out.prm
        obtain ⟨k3, k4, k5⟩ := blk3 HLW.out.x7
        obtain ⟨k6, k7, k8⟩ := blk3 HLW.out.x8
        have y0 := blk_cells HSB.out 0 _ rfl
        go_wp2_with fail
        refine (CRE.out p8 q8 p20 a8 b8 c20 _ HLW.out.r8 H20.out).mono ?_
        rintro e w2 ⟨rfl, hB⟩
        have HSB := Lib.hid ((hB.block _ (Array.getElem?_eq_some_iff.1 HSB.out).1).trans HSB.out)
        have HLW := Lib.hid (HLW.out.below hB)
        have H18 := Lib.hid (H18.out.below hB)
        have H19 := Lib.hid (H19.out.below hB)
        have H20 := Lib.hid (H20.out.below hB)
        have H21 := Lib.hid (H21.out.below hB)
        have HBW := Lib.hid (join HBW.out hB)
        clear k0 k1 k2 k3 k4 k5 k6 k7 k8 y0
        clear hB 
        obtain ⟨k0, k1, k2⟩ := blk3 HLW.out.prm
        obtain ⟨k3, k4, k5⟩ := blk3 HLW.out.x7
        obtain ⟨k6, k7, k8⟩ := blk3 HLW.out.x8
        have y0 := blk_cells HSB.out 0 _ rfl
        go_wp2_with fail
        refine (CRG.out p21 c21 _ H21.out).mono ?_
        rintro e w3 ⟨rfl, hw3⟩
        subst hw3
        clear k0 k1 k2 k3 k4 k5 k6 k7 k8 y0
        obtain ⟨k0, k1, k2⟩ := blk3 HLW.out.prm
        obtain ⟨k3, k4, k5⟩ := blk3 HLW.out.x7
        obtain ⟨k6, k7, k8⟩ := blk3 HLW.out.x8
        have y0 := blk_cells HSB.out 0 _ rfl
        go_wp2_with fail
        refine (same_yes t hl1 hl2 p7 q7 pw pt a7 b7 cw ct _ HLW.out.r7 HLW.out.r0).mono ?_
        rintro e w2 ⟨rfl, hB⟩
        have HSB := Lib.hid ((hB.block _ (Array.getElem?_eq_some_iff.1 HSB.out).1).trans HSB.out)
        have HLW := Lib.hid (HLW.out.below hB)
        have H18 := Lib.hid (H18.out.below hB)
        have H19 := Lib.hid (H19.out.below hB)
        have H20 := Lib.hid (H20.out.below hB)
        have H21 := Lib.hid (H21.out.below hB)
        have HBW := Lib.hid (join HBW.out hB)
        clear k0 k1 k2 k3 k4 k5 k6 k7 k8 y0
        clear hB 
        obtain ⟨k0, k1, k2⟩ := blk3 HLW.out.prm
        obtain ⟨k3, k4, k5⟩ := blk3 HLW.out.x7
        obtain ⟨k6, k7, k8⟩ := blk3 HLW.out.x8
        have y0 := blk_cells HSB.out 0 _ rfl
        go_wp2_with fail
        refine (awake_any _).mono ?_
        rintro e w10 ⟨rfl, hB10⟩
        have HBW := Lib.hid (join HBW.out hB10)
        clear hB10
        go_wp2
        go_ret
        exact ⟨rfl, HBW.out⟩
      have hBn : B ≠ 0 := by omega
      rw [if_neg hBn] at hee CRF
      subst hee
      have hew := hew hBn
      have heo := heo hBn
      have CRL := CRL hBn
      rw [heo] at CRL
      generalize wrongR t el = wr at CRW hew
      obtain ⟨wa, wb, wc⟩ := wr
      dsimp only at CRW hew
      subst hew
      clear heo hcb hBn hB0
      rcases Nat.eq_zero_or_pos sl.length with hC0 | hC0
      · rw [if_pos hC0] at hfe CRG
        subst hfe
        clear CCF hsm hC0
        obtain ⟨k0, k1, k2⟩ := blk3 HLW.out.prm
        obtain ⟨k3, k4, k5⟩ := blk3 HLW.out.x7
        obtain ⟨k6, k7, k8⟩ := blk3 HLW.out.x8
        go_wp2_with fail
        refine (CEV.out p7 q7 a7 b7 ⟨hcw.1, hcw.2⟩ _ HLW.out.r7).mono ?_
        rintro e w2 ⟨v18, rfl, ho, hB⟩
        have HLW := Lib.hid (HLW.out.below hB)
        have HBW := Lib.hid (join HBW.out hB)
        obtain ⟨p18, c18, rfl, H18, -⟩ := own_rd ho rfl
        have H18 := Lib.hid H18
        clear k0 k1 k2 k3 k4 k5 k6 k7 k8
        clear hB ho
        obtain ⟨k0, k1, k2⟩ := blk3 HLW.out.prm
        obtain ⟨k3, k4, k5⟩ := blk3 HLW.out.x7
        obtain ⟨k6, k7, k8⟩ := blk3 HLW.out.x8
        go_wp2_with fail
        refine (CSU.out p7 q7 a7 b7 ⟨hcw.1, hcw.2⟩ _ HLW.out.r7).mono ?_
        rintro e w2 ⟨v19, rfl, ho, hB⟩
        have HLW := Lib.hid (HLW.out.below hB)
        have H18 := Lib.hid (H18.out.below hB)
        have HBW := Lib.hid (join HBW.out hB)
        obtain ⟨p19, c19, rfl, H19, -⟩ := own_rd ho rfl
        have H19 := Lib.hid H19
        clear k0 k1 k2 k3 k4 k5 k6 k7 k8
        clear hB ho
        have HSB := Lib.hid (heap_last w2 (.cells #[.slice p19 sl.length c19] 34))
        have hB := below1 w2 (.cells #[.slice p19 sl.length c19] 34)
        have HLW := Lib.hid (HLW.out.below hB)
        have H18 := Lib.hid (H18.out.below hB)
        have H19 := Lib.hid (H19.out.below hB)
        have HBW := Lib.hid (join HBW.out hB)
        clear hB
        obtain ⟨k0, k1, k2⟩ := blk3 HLW.out.prm
        obtain ⟨k3, k4, k5⟩ := blk3 HLW.out.x7
        obtain ⟨k6, k7, k8⟩ := blk3 HLW.out.x8
        have y0 := blk_cells HSB.out 0 _ rfl
        go_wp2_with fail
        refine (CCK.out p8 q8 a8 b8 _ HLW.out.r8).mono ?_
        rintro e w2 ⟨rfl, hB⟩
        have HSB := Lib.hid ((hB.block _ (Array.getElem?_eq_some_iff.1 HSB.out).1).trans HSB.out)
        have HLW := Lib.hid (HLW.out.below hB)
        have H18 := Lib.hid (H18.out.below hB)
        have H19 := Lib.hid (H19.out.below hB)
        have HBW := Lib.hid (join HBW.out hB)
        clear k0 k1 k2 k3 k4 k5 k6 k7 k8 y0
        clear hB
        obtain ⟨k0, k1, k2⟩ := blk3 HLW.out.prm
        obtain ⟨k3, k4, k5⟩ := blk3 HLW.out.x7
        obtain ⟨k6, k7, k8⟩ := blk3 HLW.out.x8
        have y0 := blk_cells HSB.out 0 _ rfl
        go_wp2_with fail
        refine (CRI.out p8 q8 a8 b8 _ HLW.out.r8).mono ?_
        rintro e w2 ⟨v20, xs20, rfl, ho, he20, hB⟩
        have HSB := Lib.hid ((hB.block _ (Array.getElem?_eq_some_iff.1 HSB.out).1).trans HSB.out)
        have HLW := Lib.hid (HLW.out.below hB)
        have H18 := Lib.hid (H18.out.below hB)
        have H19 := Lib.hid (H19.out.below hB)
        have HBW := Lib.hid (join HBW.out hB)
        obtain ⟨p20, c20, rfl, H20⟩ := LLs.of_own ho he20
        have H20 := Lib.hid H20
        clear k0 k1 k2 k3 k4 k5 k6 k7 k8 y0
        clear hB ho he20
        obtain ⟨k0, k1, k2⟩ := blk3 HLW.out.prm
        obtain ⟨k3, k4, k5⟩ := blk3 HLW.out.x7
        obtain ⟨k6, k7, k8⟩ := blk3 HLW.out.x8
        have y0 := blk_cells HSB.out 0 _ rfl
        go_wp2_with fail
        refine (CRS.out p8 q8 p20 a8 b8 c20 _ HLW.out.r8 H20.out).mono ?_
        rintro e w2 ⟨v21, xs21, rfl, ho, he21, hB⟩
        have HSB := Lib.hid ((hB.block _ (Array.getElem?_eq_some_iff.1 HSB.out).1).trans HSB.out)
        have HLW := Lib.hid (HLW.out.below hB)
        have H18 := Lib.hid (H18.out.below hB)
        have H19 := Lib.hid (H19.out.below hB)
        have H20 := Lib.hid (H20.out.below hB)
        have HBW := Lib.hid (join HBW.out hB)
        obtain ⟨p21, c21, rfl, H21⟩ := LLs.of_own ho he21
        have H21 := Lib.hid H21
        clear k0 k1 k2 k3 k4 k5 k6 k7 k8 y0
        clear hB ho he21
        obtain ⟨k0, k1, k2⟩ := blk3 HLW.out.prm
        obtain ⟨k3, k4, k5⟩ := blk3 HLW.out.x7
        obtain ⟨k6, k7, k8⟩ := blk3 HLW.out.x8
        have y0 := blk_cells HSB.out 0 _ rfl
        go_wp2_with fail
        refine (CRF.out p20 c20 _ H20.out).mono ?_
        rintro e w3 ⟨rfl, hw3⟩
        subst hw3
        clear k0 k1 k2 k3 k4 k5 k6 k7 k8 y0
        obtain ⟨k0, k1, k2⟩ := blk3 HLW.out.prm
        obtain ⟨k3, k4, k5⟩ := blk3 HLW.out.x7
        obtain ⟨k6, k7, k8⟩ := blk3 HLW.out.x8
        have y0 := blk_cells HSB.out 0 _ rfl
        go_wp2_with fail
        refine (CRE.out p8 q8 p20 a8 b8 c20 _ HLW.out.r8 H20.out).mono ?_
        rintro e w2 ⟨rfl, hB⟩
        have HSB := Lib.hid ((hB.block _ (Array.getElem?_eq_some_iff.1 HSB.out).1).trans HSB.out)
        have HLW := Lib.hid (HLW.out.below hB)
        have H18 := Lib.hid (H18.out.below hB)
        have H19 := Lib.hid (H19.out.below hB)
        have H20 := Lib.hid (H20.out.below hB)
        have H21 := Lib.hid (H21.out.below hB)
        have HBW := Lib.hid (join HBW.out hB)
        clear k0 k1 k2 k3 k4 k5 k6 k7 k8 y0
        clear hB 
        obtain ⟨k0, k1, k2⟩ := blk3 HLW.out.prm
        obtain ⟨k3, k4, k5⟩ := blk3 HLW.out.x7
        obtain ⟨k6, k7, k8⟩ := blk3 HLW.out.x8
        have y0 := blk_cells HSB.out 0 _ rfl
        go_wp2_with fail
        refine (CRG.out p21 c21 _ H21.out).mono ?_
        rintro e w3 ⟨rfl, hw3⟩
        subst hw3
        clear k0 k1 k2 k3 k4 k5 k6 k7 k8 y0
        obtain ⟨k0, k1, k2⟩ := blk3 HLW.out.prm
        obtain ⟨k3, k4, k5⟩ := blk3 HLW.out.x7
        obtain ⟨k6, k7, k8⟩ := blk3 HLW.out.x8
        have y0 := blk_cells HSB.out 0 _ rfl
        go_wp2_with fail
        refine (CRW.out p8 q8 p18 a8 b8 c18 _ HLW.out.r8 H18.out).mono ?_
        rintro e w2 ⟨rfl, hB⟩
        have HSB := Lib.hid ((hB.block _ (Array.getElem?_eq_some_iff.1 HSB.out).1).trans HSB.out)
        have HLW := Lib.hid (HLW.out.below hB)
        have H18 := Lib.hid (H18.out.below hB)
        have H19 := Lib.hid (H19.out.below hB)
        have H20 := Lib.hid (H20.out.below hB)
        have H21 := Lib.hid (H21.out.below hB)
        have HBW := Lib.hid (join HBW.out hB)
        clear k0 k1 k2 k3 k4 k5 k6 k7 k8 y0
        clear hB 
        obtain ⟨k0, k1, k2⟩ := blk3 HLW.out.prm
        obtain ⟨k3, k4, k5⟩ := blk3 HLW.out.x7
        obtain ⟨k6, k7, k8⟩ := blk3 HLW.out.x8
        have y0 := blk_cells HSB.out 0 _ rfl
        go_wp2_with fail
        refine (CRL.out p8 p18 a8 c18 _ _ _ HLW.out.r8.words H18.out).mono ?_
        rintro e w2 ⟨rfl, hB⟩
        have HSB := Lib.hid ((hB.block _ (Array.getElem?_eq_some_iff.1 HSB.out).1).trans HSB.out)
        have HLW := Lib.hid (HLW.out.below hB)
        have H18 := Lib.hid (H18.out.below hB)
        have H19 := Lib.hid (H19.out.below hB)
        have H20 := Lib.hid (H20.out.below hB)
        have H21 := Lib.hid (H21.out.below hB)
        have HBW := Lib.hid (join HBW.out hB)
        clear k0 k1 k2 k3 k4 k5 k6 k7 k8 y0
        clear hB 
        obtain ⟨k0, k1, k2⟩ := blk3 HLW.out.prm
        obtain ⟨k3, k4, k5⟩ := blk3 HLW.out.x7
        obtain ⟨k6, k7, k8⟩ := blk3 HLW.out.x8
        have y0 := blk_cells HSB.out 0 _ rfl
        go_wp2_with fail
        refine (same_yes t hl1 hl2 p7 q7 pw pt a7 b7 cw ct _ HLW.out.r7 HLW.out.r0).mono ?_
        rintro e w2 ⟨rfl, hB⟩
        have HSB := Lib.hid ((hB.block _ (Array.getElem?_eq_some_iff.1 HSB.out).1).trans HSB.out)
        have HLW := Lib.hid (HLW.out.below hB)
        have H18 := Lib.hid (H18.out.below hB)
        have H19 := Lib.hid (H19.out.below hB)
        have H20 := Lib.hid (H20.out.below hB)
        have H21 := Lib.hid (H21.out.below hB)
        have HBW := Lib.hid (join HBW.out hB)
        clear k0 k1 k2 k3 k4 k5 k6 k7 k8 y0
        clear hB 
        obtain ⟨k0, k1, k2⟩ := blk3 HLW.out.prm
        obtain ⟨k3, k4, k5⟩ := blk3 HLW.out.x7
        obtain ⟨k6, k7, k8⟩ := blk3 HLW.out.x8
        have y0 := blk_cells HSB.out 0 _ rfl
        go_wp2_with fail
        refine (awake_any _).mono ?_
        rintro e w10 ⟨rfl, hB10⟩
        have HBW := Lib.hid (join HBW.out hB10)
        clear hB10
        go_wp2
        go_ret
        exact ⟨rfl, HBW.out⟩
      · have hCn : sl.length ≠ 0 := by omega
        rw [if_neg hCn] at hfe CRG
        subst hfe
        have hany : (S.any fun k => decide (k = sl)) = true := List.any_eq_true.2 ⟨sl, hsm hCn, by simp⟩
        rw [hany] at CCF
        clear hany hsm hCn hC0
        obtain ⟨k0, k1, k2⟩ := blk3 HLW.out.prm
        obtain ⟨k3, k4, k5⟩ := blk3 HLW.out.x7
        obtain ⟨k6, k7, k8⟩ := blk3 HLW.out.x8
        go_wp2_with fail
        refine (CEV.out p7 q7 a7 b7 ⟨hcw.1, hcw.2⟩ _ HLW.out.r7).mono ?_
        rintro e w2 ⟨v18, rfl, ho, hB⟩
        have HLW := Lib.hid (HLW.out.below hB)
        have HBW := Lib.hid (join HBW.out hB)
        obtain ⟨p18, c18, rfl, H18, -⟩ := own_rd ho rfl
        have H18 := Lib.hid H18
        clear k0 k1 k2 k3 k4 k5 k6 k7 k8
        clear hB ho
        obtain ⟨k0, k1, k2⟩ := blk3 HLW.out.prm
        obtain ⟨k3, k4, k5⟩ := blk3 HLW.out.x7
        obtain ⟨k6, k7, k8⟩ := blk3 HLW.out.x8
        go_wp2_with fail
        refine (CSU.out p7 q7 a7 b7 ⟨hcw.1, hcw.2⟩ _ HLW.out.r7).mono ?_
        rintro e w2 ⟨v19, rfl, ho, hB⟩
        have HLW := Lib.hid (HLW.out.below hB)
        have H18 := Lib.hid (H18.out.below hB)
        have HBW := Lib.hid (join HBW.out hB)
        obtain ⟨p19, c19, rfl, H19, -⟩ := own_rd ho rfl
        have H19 := Lib.hid H19
        clear k0 k1 k2 k3 k4 k5 k6 k7 k8
        clear hB ho
        have HSB := Lib.hid (heap_last w2 (.cells #[.slice p19 sl.length c19] 34))
        have hB := below1 w2 (.cells #[.slice p19 sl.length c19] 34)
        have HLW := Lib.hid (HLW.out.below hB)
        have H18 := Lib.hid (H18.out.below hB)
        have H19 := Lib.hid (H19.out.below hB)
        have HBW := Lib.hid (join HBW.out hB)
        clear hB
        obtain ⟨k0, k1, k2⟩ := blk3 HLW.out.prm
        obtain ⟨k3, k4, k5⟩ := blk3 HLW.out.x7
        obtain ⟨k6, k7, k8⟩ := blk3 HLW.out.x8
        have y0 := blk_cells HSB.out 0 _ rfl
        go_wp2_with fail
        refine (CCK.out p8 q8 a8 b8 _ HLW.out.r8).mono ?_
        rintro e w2 ⟨rfl, hB⟩
        have HSB := Lib.hid ((hB.block _ (Array.getElem?_eq_some_iff.1 HSB.out).1).trans HSB.out)
        have HLW := Lib.hid (HLW.out.below hB)
        have H18 := Lib.hid (H18.out.below hB)
        have H19 := Lib.hid (H19.out.below hB)
        have HBW := Lib.hid (join HBW.out hB)
        clear k0 k1 k2 k3 k4 k5 k6 k7 k8 y0
        clear hB
        obtain ⟨k0, k1, k2⟩ := blk3 HLW.out.prm
        obtain ⟨k3, k4, k5⟩ := blk3 HLW.out.x7
        obtain ⟨k6, k7, k8⟩ := blk3 HLW.out.x8
        have y0 := blk_cells HSB.out 0 _ rfl
        go_wp2_with fail
        refine (CRI.out p8 q8 a8 b8 _ HLW.out.r8).mono ?_
        rintro e w2 ⟨v20, xs20, rfl, ho, he20, hB⟩
        have HSB := Lib.hid ((hB.block _ (Array.getElem?_eq_some_iff.1 HSB.out).1).trans HSB.out)
        have HLW := Lib.hid (HLW.out.below hB)
        have H18 := Lib.hid (H18.out.below hB)
        have H19 := Lib.hid (H19.out.below hB)
        have HBW := Lib.hid (join HBW.out hB)
        obtain ⟨p20, c20, rfl, H20⟩ := LLs.of_own ho he20
        have H20 := Lib.hid H20
        clear k0 k1 k2 k3 k4 k5 k6 k7 k8 y0
        clear hB ho he20
        obtain ⟨k0, k1, k2⟩ := blk3 HLW.out.prm
        obtain ⟨k3, k4, k5⟩ := blk3 HLW.out.x7
        obtain ⟨k6, k7, k8⟩ := blk3 HLW.out.x8
        have y0 := blk_cells HSB.out 0 _ rfl
        go_wp2_with fail
        refine (CRS.out p8 q8 p20 a8 b8 c20 _ HLW.out.r8 H20.out).mono ?_
        rintro e w2 ⟨v21, xs21, rfl, ho, he21, hB⟩
        have HSB := Lib.hid ((hB.block _ (Array.getElem?_eq_some_iff.1 HSB.out).1).trans HSB.out)
        have HLW := Lib.hid (HLW.out.below hB)
        have H18 := Lib.hid (H18.out.below hB)
        have H19 := Lib.hid (H19.out.below hB)
        have H20 := Lib.hid (H20.out.below hB)
        have HBW := Lib.hid (join HBW.out hB)
        obtain ⟨p21, c21, rfl, H21⟩ := LLs.of_own ho he21
        have H21 := Lib.hid H21
        clear k0 k1 k2 k3 k4 k5 k6 k7 k8 y0
        clear hB ho he21
        obtain ⟨k0, k1, k2⟩ := blk3 HLW.out.prm
        obtain ⟨k3, k4, k5⟩ := blk3 HLW.out.x7
        obtain ⟨k6, k7, k8⟩ := blk3 HLW.out.x8
        have y0 := blk_cells HSB.out 0 _ rfl
        go_wp2_with fail
        refine (CRF.out p20 c20 _ H20.out).mono ?_
        rintro e w3 ⟨rfl, hw3⟩
        subst hw3
        clear k0 k1 k2 k3 k4 k5 k6 k7 k8 y0
        obtain ⟨k0, k1, k2⟩ := blk3 HLW.out.prm
        obtain ⟨k3, k4, k5⟩ := blk3 HLW.out.x7
        obtain ⟨k6, k7, k8⟩ := blk3 HLW.out.x8
        have y0 := blk_cells HSB.out 0 _ rfl
        go_wp2_with fail
        refine (CRE.out p8 q8 p20 a8 b8 c20 _ HLW.out.r8 H20.out).mono ?_
        rintro e w2 ⟨rfl, hB⟩
        have HSB := Lib.hid ((hB.block _ (Array.getElem?_eq_some_iff.1 HSB.out).1).trans HSB.out)
        have HLW := Lib.hid (HLW.out.below hB)
        have H18 := Lib.hid (H18.out.below hB)
        have H19 := Lib.hid (H19.out.below hB)
        have H20 := Lib.hid (H20.out.below hB)
        have H21 := Lib.hid (H21.out.below hB)
        have HBW := Lib.hid (join HBW.out hB)
        clear k0 k1 k2 k3 k4 k5 k6 k7 k8 y0
        clear hB 
        obtain ⟨k0, k1, k2⟩ := blk3 HLW.out.prm
        obtain ⟨k3, k4, k5⟩ := blk3 HLW.out.x7
        obtain ⟨k6, k7, k8⟩ := blk3 HLW.out.x8
        have y0 := blk_cells HSB.out 0 _ rfl
        go_wp2_with fail
        refine (CRG.out p21 c21 _ H21.out).mono ?_
        rintro e w3 ⟨rfl, hw3⟩
        subst hw3
        clear k0 k1 k2 k3 k4 k5 k6 k7 k8 y0
        obtain ⟨k0, k1, k2⟩ := blk3 HLW.out.prm
        obtain ⟨k3, k4, k5⟩ := blk3 HLW.out.x7
        obtain ⟨k6, k7, k8⟩ := blk3 HLW.out.x8
        have y0 := blk_cells HSB.out 0 _ rfl
        go_wp2_with fail
        refine (CRW.out p8 q8 p18 a8 b8 c18 _ HLW.out.r8 H18.out).mono ?_
        rintro e w2 ⟨rfl, hB⟩
        have HSB := Lib.hid ((hB.block _ (Array.getElem?_eq_some_iff.1 HSB.out).1).trans HSB.out)
        have HLW := Lib.hid (HLW.out.below hB)
        have H18 := Lib.hid (H18.out.below hB)
        have H19 := Lib.hid (H19.out.below hB)
        have H20 := Lib.hid (H20.out.below hB)
        have H21 := Lib.hid (H21.out.below hB)
        have HBW := Lib.hid (join HBW.out hB)
        clear k0 k1 k2 k3 k4 k5 k6 k7 k8 y0
        clear hB 
        obtain ⟨k0, k1, k2⟩ := blk3 HLW.out.prm
        obtain ⟨k3, k4, k5⟩ := blk3 HLW.out.x7
        obtain ⟨k6, k7, k8⟩ := blk3 HLW.out.x8
        have y0 := blk_cells HSB.out 0 _ rfl
        go_wp2_with fail
        refine (CRL.out p8 p18 a8 c18 _ _ _ HLW.out.r8.words H18.out).mono ?_
        rintro e w2 ⟨rfl, hB⟩
        have HSB := Lib.hid ((hB.block _ (Array.getElem?_eq_some_iff.1 HSB.out).1).trans HSB.out)
        have HLW := Lib.hid (HLW.out.below hB)
        have H18 := Lib.hid (H18.out.below hB)
        have H19 := Lib.hid (H19.out.below hB)
        have H20 := Lib.hid (H20.out.below hB)
        have H21 := Lib.hid (H21.out.below hB)
        have HBW := Lib.hid (join HBW.out hB)
        clear k0 k1 k2 k3 k4 k5 k6 k7 k8 y0
        clear hB 
        obtain ⟨k0, k1, k2⟩ := blk3 HLW.out.prm
        obtain ⟨k3, k4, k5⟩ := blk3 HLW.out.x7
        obtain ⟨k6, k7, k8⟩ := blk3 HLW.out.x8
        have y0 := blk_cells HSB.out 0 _ rfl
        go_wp2_with fail
        refine (CCF.out _ p19 c19 p21 c21 _ HSB.out H19.out H21.out).mono ?_
        rintro e w2 ⟨rfl, hB⟩
        have HSB := Lib.hid ((hB.block _ (Array.getElem?_eq_some_iff.1 HSB.out).1).trans HSB.out)
        have HLW := Lib.hid (HLW.out.below hB)
        have H18 := Lib.hid (H18.out.below hB)
        have H19 := Lib.hid (H19.out.below hB)
        have H20 := Lib.hid (H20.out.below hB)
        have H21 := Lib.hid (H21.out.below hB)
        have HBW := Lib.hid (join HBW.out hB)
        clear k0 k1 k2 k3 k4 k5 k6 k7 k8 y0
        clear hB 
        obtain ⟨k0, k1, k2⟩ := blk3 HLW.out.prm
        obtain ⟨k3, k4, k5⟩ := blk3 HLW.out.x7
        obtain ⟨k6, k7, k8⟩ := blk3 HLW.out.x8
        have y0 := blk_cells HSB.out 0 _ rfl
        go_wp2_with fail
        refine (same_yes t hl1 hl2 p7 q7 pw pt a7 b7 cw ct _ HLW.out.r7 HLW.out.r0).mono ?_
        rintro e w2 ⟨rfl, hB⟩
        have HSB := Lib.hid ((hB.block _ (Array.getElem?_eq_some_iff.1 HSB.out).1).trans HSB.out)
        have HLW := Lib.hid (HLW.out.below hB)
        have H18 := Lib.hid (H18.out.below hB)
        have H19 := Lib.hid (H19.out.below hB)
        have H20 := Lib.hid (H20.out.below hB)
        have H21 := Lib.hid (H21.out.below hB)
        have HBW := Lib.hid (join HBW.out hB)
        clear k0 k1 k2 k3 k4 k5 k6 k7 k8 y0
        clear hB 
        obtain ⟨k0, k1, k2⟩ := blk3 HLW.out.prm
        obtain ⟨k3, k4, k5⟩ := blk3 HLW.out.x7
        obtain ⟨k6, k7, k8⟩ := blk3 HLW.out.x8
        have y0 := blk_cells HSB.out 0 _ rfl
        go_wp2_with fail
        refine (awake_any _).mono ?_
        rintro e w10 ⟨rfl, hB10⟩
        have HBW := Lib.hid (join HBW.out hB10)
        clear hB10
        go_wp2
        go_ret
        exact ⟨rfl, HBW.out⟩
end Go.Proofs.YtadnggecnjdhiaaGreat
namespace Go.Proofs.YtadnggecnjdhiaaGreat
open Go.ChangeShapes Go.WideShapes Go.ChangeAt Go.RowKit Go.Joins Tx
set_option linter.unusedVariables false
set_option linter.unusedSimpArgs false

set_option maxRecDepth 100000 in
theorem TextEven_lifted (os : Os) (started : os.Started) (H : Type) (enc : TypeId × Value → H) :
    ReturnsInHanded {} Tryz.checked os 3 .any (Rows.textEvenSpec.pre6 enc Tryz.prog Tryz.f3 Rows.textEvenRow.domain false) (Rows.textEvenSpec.post enc Tryz.prog Tryz.f3 false true false false) := by
  refine returnsInHanded_of_change (C := Tryz.checked) Tryz.own started (by kernel_rfl) Tryz.func3
    (ChangeSpec.witness6 (enc := enc) (C := Tryz.checked) false ⟨#[], #[.agg #[.slice none 0 0, .slice none 0 0, .int .i64 0]], []⟩ 8 (by kernel_rfl) (by kernel_rfl) (by kernel_rfl) (by kernel_rfl)) ?_
  intro W base args ds gs before hval0 hW hcnd _
  have hval : ∀ (j : Nat) t v, Tryz.f3.params[j]? = some t → args[j]? = some v → Value.okWide Tryz.prog W .any base t v := hval0
  have hW' := hW
  obtain ⟨p, q, hA0, hV, rfl, hfz, hnd⟩ := hW
  have hA : DataW.TrodAll enc Tryz.prog W 0 (fun _ => true) true Tryz.f3.params.toList args.toList ds p := hA0
  rw [Tryz.params3] at hA hval
  obtain ⟨v0, vs0, d0, ds0, p0, q0, hargs, rfl, rfl, h0, r0⟩ := trodAll_cons hA
  obtain ⟨rfl, rfl, rfl⟩ := trodAll_nil r0
  obtain rfl : args = #[v0] := by cases args; simp_all
  obtain ⟨rfl, rfl⟩ := trodVars_none hV
  have lt0 := lt_of_trod h0
  have k0 := h0
  obtain ⟨pw0, pt0, cw0, ct0, t0, e0, hT0, l0, m0⟩ := text_of_trod (fun _ => rfl) (hval 0 25 v0 rfl rfl) h0
  clear hA0 hval0
  subst e0
  refine (TextEven_any t0 l0 m0 pw0 pt0 cw0 ct0 W hT0).mono fun e W' ⟨he, bel⟩ => ?_
  subst he
  exact ⟨_, rfl, _, _, _, [], _, [], hW', trodAll_mk1 (shut_bool Tryz.underlying4 _), (trodAll_cons_mk (Below.trod Tryz.laidOut (by kernel_rfl) (of_decide_eq_true (by kernel_rfl)) k0 bel lt0) trodAll_mk0), rfl, bel.frame _, fun h => by cases h⟩

theorem TextEven_holds : Rows.TextEvenSaid :=
  OpenClaim.holds_of_wide 3 Tryz.f3 rfl rfl rfl rfl rfl rfl rfl ⟨rfl, rfl, rfl, rfl, rfl⟩ rfl rfl rfl rfl rfl (by kernel_rfl) Tryz.func3 (by kernel_rfl)
    (of_decide_eq_true (by kernel_rfl)) (by unfold Func.isWrapper; first | (rw [if_pos (by decide +kernel)]; kernel_rfl) | (rw [if_neg (by decide +kernel)]; exact ⟨rfl, rfl⟩))
    (fun os started H enc _ => TextEven_lifted os started H enc)
end Go.Proofs.YtadnggecnjdhiaaGreat
