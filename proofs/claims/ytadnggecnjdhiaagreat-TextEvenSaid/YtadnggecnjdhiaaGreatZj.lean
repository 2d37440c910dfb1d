/- Contracts of the code and of the reference, part 10. -/
import Derived.Test.YtadnggecnjdhiaaGreatZi
set_option linter.unusedSimpArgs false
set_option linter.unusedVariables false
namespace Go.Proofs.YtadnggecnjdhiaaGreat
open Go.RowKit Tx

/-- the reference's Sure -/
def sureR (t : Text) (R : List (List Int)) : List (List Int) := R.filter fun l => !decide ((astrayGo (placesL l) 0 t.turns).2.2.2 = 0)
def evP : Option (Nat × Int) → Nat × Int
  | none => (0, 0)
  | some p => p
structure EvnF (t : Text) (R S : List (List Int)) (B C mm : Nat) (mo : Int) : Prop where
  rr : rightsR t = R
  ss : sureR t R = S
  bb : bestLen R 0 = B
  cc : bestLen S 0 = C
  ee : (evR t).2.2 = if B = 0 then 6 else 0
  fe : surE t = if C = 0 then 6 else 0
  es : evP (evS (longGo t 0) R) = (mm, mo)
  en : (evR t).2.1 = mo
  el : (evR t).1.length = mm
  sl : (surL t).length = C
  ew : B ≠ 0 → (wrongR t (evR t).1).2.2 = 6
  eo : B ≠ 0 → longGo t 0 (evR t).1 = mo
  ep : B ≠ 0 → Parts t.words.length (evR t).1
  sm : C ≠ 0 → surL t ∈ S
  b12 : B ≤ 12
  c12 : C ≤ 12
  m12 : mm ≤ 12
  r12 : R.length ≤ 100000
  rp : ∀ l ∈ R, Parts t.words.length l
  s12 : S.length ≤ 100000
  sp : ∀ l ∈ S, Parts t.words.length l
  cb : B = 0 → C = 0
theorem even_facts {t : Text} (he : t.err = 0) : EvnF t (rightsR t) (sureR t (rightsR t)) (bestLen (rightsR t) 0) (bestLen (sureR t (rightsR t)) 0) (evP (evS (longGo t 0) (rightsR t))).1 (evP (evS (longGo t 0) (rightsR t))).2 := by
  have ok := err_ok he
  have hR := rightsR_eq ok he
  have hS : sureR t (rightsR t) = rights t.sureB t.words.length := by
    rw [hR]
    unfold sureR rights
    rw [List.filter_filter]
    refine List.filter_congr fun l hl => ?_
    have hp := (compF_mem _ _ _ (Nat.le_refl _)).1 hl
    rw [Bool.eq_iff_iff, Bool.and_eq_true, sure_nowhere ok hp, Bool.not_eq_true', decide_eq_false_iff_not]
    exact and_comm
  obtain ⟨g1, g2, g3, g4⟩ := fewest_rights (may := t.sureB) ok.n1 ok.n12
  have hne := rights_ne (may := t.right) ok.n1
  have hz := bestLen_zero (rights t.right t.words.length) 0 hne
  have hlenR : ∀ l ∈ rights t.right t.words.length, l.length ≤ 12 := fun l hl => by
    have h1 := (mem_rights.1 hl).1
    have := isum_ge h1.1
    have := h1.2
    have := ok.n12
    omega
  have hlenS : ∀ l ∈ rights t.sureB t.words.length, l.length ≤ 12 := fun l hl => by
    have h1 := (mem_rights.1 hl).1
    have := isum_ge h1.1
    have := h1.2
    have := ok.n12
    omega
  have eL : surL t = (Tx.fewest t.sureB t.words.length).1 := by unfold surL; rw [if_pos he]
  have eE : surE t = (Tx.fewest t.sureB t.words.length).2 := by unfold surE; rw [if_pos he]
  have hsyl : ∀ x ∈ t.words, 1 ≤ x.syl ∧ x.syl ≤ 9 := fun x hx => ⟨(ok.word x hx).1, (ok.word x hx).2.1⟩
  have hev := evR_spec he hsyl ok.n1 ok.n12 ok.b1
  have hrf := even_ref he hsyl ok.n1 ok.n12 ok.b1
  have hm : ∀ {l : List Int}, Parts t.words.length l → okFrom t.right 0 l = true → (wrongR t l).2.2 = 6 := fun {l} h1 h2 => by
    have h3 := okR_ok ok he h1
    rw [h2] at h3
    unfold okR at h3
    exact of_decide_eq_true h3
  have hr12 : (rights t.right t.words.length).length ≤ 100000 := by
    unfold rights
    have h1 := List.length_filter_le (okFrom t.right 0) (compF t.words.length t.words.length)
    have h2 := Nat.le_trans (comp_len t.words.length t.words.length) (Nat.pow_le_pow_right (show 0 < 2 by omega) ok.n12)
    omega
  have hs12 : (sureR t (rightsR t)).length ≤ 100000 := by
    have h1 := List.length_filter_le (fun l => !decide ((astrayGo (placesL l) 0 t.turns).2.2.2 = 0)) (rightsR t)
    have h2 : (sureR t (rightsR t)).length ≤ (rightsR t).length := h1
    rw [hR] at h2 ⊢
    omega
  have hsp : ∀ l ∈ sureR t (rightsR t), Parts t.words.length l := fun l hl => by
    rw [hS] at hl
    exact (mem_rights.1 hl).1
  have hcb : bestLen (rightsR t) 0 = 0 → bestLen (sureR t (rightsR t)) 0 = 0 := fun h => by
    rw [hR] at h ⊢
    rw [(hz.1 h).2]
    rfl
  rcases hrf with ⟨h1, h2, h3⟩ | ⟨h1, h2, h3⟩
  · have hB : bestLen (rightsR t) 0 = 0 := by rw [hR, hz]; exact ⟨rfl, h1⟩
    have hev0 : evS (longGo t 0) (rightsR t) = none := by rw [hR, h1]; rfl
    refine ⟨rfl, rfl, rfl, rfl, by rw [h2, if_pos hB], by rw [eE, g2, hS], rfl, ?_, ?_, by rw [eL, g1, hS], fun h => absurd hB h, fun h => absurd hB h, fun h => absurd hB h, fun h => ?_, by omega, by rw [hS]; exact bestLen_le _ 12 0 (by omega) hlenS, ?_, by rw [hR]; exact hr12, fun l hl => by rw [hR] at hl; exact (mem_rights.1 hl).1, hs12, hsp, hcb⟩
    · rw [hev0, evR_six he h2]; rfl
    · rw [hev0, h3]; rfl
    · rw [eL, hS]; apply g3; rw [g2, if_neg (by rw [← hS]; exact h)]
    · rw [hev0]; exact Nat.zero_le _
  · have hB : bestLen (rightsR t) 0 ≠ 0 := by rw [hR]; exact fun e => h1 (hz.1 e).2
    rcases hev with ⟨q1, -, -⟩ | ⟨q1, q2, q3, q4, -, -, -⟩
    · omega
    have hes : evS (longGo t 0) (rightsR t) = some ((evR t).1.length, (evR t).2.1) := by rw [hR]; exact h3
    have hlen : (evR t).1.length ≤ 12 := hlenR _ (mem_rights.2 ⟨q2, q3⟩)
    refine ⟨rfl, rfl, rfl, rfl, by rw [h2, if_neg hB], by rw [eE, g2, hS], rfl, by rw [hes]; rfl, by rw [hes]; rfl, by rw [eL, g1, hS], fun _ => hm q2 q3, fun _ => by rw [hes]; exact q4, fun _ => q2, fun h => ?_, by rw [hR]; exact bestLen_le _ 12 0 (by omega) hlenR, by rw [hS]; exact bestLen_le _ 12 0 (by omega) hlenS, by rw [hes]; exact hlen, by rw [hR]; exact hr12, fun l hl => by rw [hR] at hl; exact (mem_rights.1 hl).1, hs12, hsp, hcb⟩
    rw [eL, hS]; apply g3; rw [g2, if_neg (by rw [← hS]; exact h)]
end Go.Proofs.YtadnggecnjdhiaaGreat
set_option linter.unusedSimpArgs false
set_option linter.unusedVariables false
namespace Go.Proofs.YtadnggecnjdhiaaGreat
open Go.RowKit Tx
attribute [local go_sem] Oper.semAt_some

theorem LLs.el {W : World} {p : Option Addr} {L : List (List Int)} (h : LLs W p L) {i : Nat} (hi : i < L.length) : ∃ b q d, p = some ⟨b, 0, none⟩ ∧ b < W.heap.size ∧ W.cell? ⟨b, i, none⟩ = some (.slice q (L.getD i []).length d) ∧ El W (.slice q (L.getD i []).length d) (L.getD i []) := by
  rcases h with rfl | ⟨b, hp, hl, h⟩
  · simp at hi
  · obtain ⟨x, h1, h2⟩ := h i hi
    obtain ⟨q, d, rfl, h3⟩ := h2.ints
    exact ⟨b, q, d, hp, hl, h1, h2⟩
/-- worlds go on: what was there below B stays, and a box of a span stays one -/
structure SpG (B : Nat) (a b : World) : Prop where
  low : Below B a b
  keep : ∀ (p : Nat) (c0 c1 : Value), a.heap[p]? = some (.cells #[c0, c1] 58 (0, 0)) → ∃ d0 d1 : Value, b.heap[p]? = some (.cells #[d0, d1] 58 (0, 0))
theorem SpG.of {B : Nat} {a b : World} (hB : B ≤ a.heap.size) (h : Below a.heap.size a b) : SpG B a b := ⟨h.mono hB, fun p c0 c1 hp => ⟨c0, c1, (h.block p (Array.getElem?_eq_some_iff.1 hp).1).trans hp⟩⟩
theorem SpG.isGr (B : Nat) : Rg.IsGr (SpG B) where
  refl w := ⟨Below.refl _ _, fun p c0 c1 h => ⟨c0, c1, h⟩⟩
  drew w := ⟨(Below.refl _ _).drew, fun p c0 c1 h => ⟨c0, c1, h⟩⟩
  trans {a b c} h k := ⟨h.low.trans k.low, fun p c0 c1 hp => by
    obtain ⟨d0, d1, hd⟩ := h.keep p c0 c1 hp
    exact k.keep p d0 d1 hd⟩
theorem SpG.fill {B p : Nat} {a : World} {c0 c1 x y : Value} (hp : B ≤ p) (hb : a.heap[p]? = some (.cells #[c0, c1] 58 (0, 0))) : SpG B a ((a.setCell ⟨p, 0, none⟩ x).setCell ⟨p, 1, none⟩ y) := by
  refine ⟨belS (belS (Below.refl _ _) hp) hp, fun q d0 d1 hq => ?_⟩
  by_cases e : q = p
  · subst e
    exact ⟨x, y, heap_set_same _ (heap_set_same _ hb)⟩
  · exact ⟨d0, d1, (Below.heap_setCell _ _ _ _ e).trans ((Below.heap_setCell _ _ _ _ e).trans hq)⟩
theorem Rg.GrowL.skip {P : Program} {G : World → World → Prop} {o : Oper} {ρ : Operand → Value} {w w' : World} {Φ : Value → World → Prop} (h : (execOp ρ o).run P w = .ok .skip w') (hg : G w w') (hv : Φ undef w') : Rg.GrowL G P o ρ w Φ := by
  unfold Rg.GrowL; rw [h]; exact ⟨hg, hv⟩
def nowB (t : Text) (l : List Int) : Bool := !decide ((astrayGo (placesL l) 0 t.turns).2.2.2 = 0)
def spRsu (t : Text) (pw pt : Option Addr) (cw ct g m c j A : Nat) (x : Value) (wa wb wc : Int) (bo : Bool) : Nat → List Value → Value → World → Prop
  | 0, _, v, _ => v = .agg #[.slice pw t.words.length cw, .slice pt t.turns.length ct, .int .i64 t.breath]
  | 1, _, v, _ => v = .slice (some ⟨g, 0, none⟩) m c
  | 2, _, v, _ => v = .int .i64 (j : Int)
  | 3, _, v, _ => v = .pointer (some ⟨g, j, none⟩)
  | 4, _, v, _ => v = x
  | 5, _, v, _ => v = .tuple #[.int .i64 wa, .agg #[.int .i64 wb, .int .i64 wc], .bool bo]
  | 6, _, v, _ => v = .tuple #[.int .i64 wa, .agg #[.int .i64 wb, .int .i64 wc], .bool bo]
  | 7, _, v, _ => v = .int .i64 wa
  | 8, _, v, _ => v = .agg #[.int .i64 wb, .int .i64 wc]
  | 9, _, v, _ => v = .bool bo
  | 10, L, v, w => ∃ p, v = .pointer (some ⟨p, 0, none⟩) ∧ A ≤ p ∧ ∃ d0 d1 : Value, w.heap[p]? = some (.cells #[d0, d1] 58 (0, 0))
  | 11, _, v, _ => v = .int .i64 wa
  | 12, L, v, w => True
  | 13, _, v, _ => v = .bool bo
  | _, _, _, _ => False
theorem spRsu_stable (t : Text) (pw pt : Option Addr) (cw ct g m c j A : Nat) (x : Value) (wa wb wc : Int) (bo : Bool) : ∀ i L v w w', spRsu t pw pt cw ct g m c j A x wa wb wc bo i L v w → SpG A w w' → spRsu t pw pt cw ct g m c j A x wa wb wc bo i L v w' := by
  intro i L v w w' h hg
  match i with
  | 0 => exact h
  | 1 => exact h
  | 2 => exact h
  | 3 => exact h
  | 4 => exact h
  | 5 => exact h
  | 6 => exact h
  | 7 => exact h
  | 8 => exact h
  | 9 => exact h
  | 10 => obtain ⟨p, h1, h2, d0, d1, h3⟩ := h; obtain ⟨c0, c1, h4⟩ := hg.keep p d0 d1 h3; exact ⟨p, h1, h2, c0, c1, h4⟩
  | 11 => exact h
  | 12 => exact h
  | 13 => exact h

set_option maxHeartbeats 6000000 in
set_option maxRecDepth 100000 in
theorem rSure_any (t : Text) (he : t.err = 0) (R : List (List Int)) (hRl : R.length ≤ 100000) (hRp : ∀ l ∈ R, Parts t.words.length l) (pw pt pR : Option Addr) (cw ct cR : Nat) (w : World) (hW : TxAt w t pw pt) (hR : LLs w pR R) :
    Calls Tryz.prog 13 #[.agg #[.slice pw t.words.length cw, .slice pt t.turns.length ct, .int .i64 t.breath], .slice pR R.length cR] w (LLPost (sureR t R) w) := by
  have ok := err_ok he
  have hn12 := ok.n12
  have HWR0 := Lib.hid (fun (i : Nat) (hi : i < R.length) q d W (h : Below w.heap.size w W) (hL : Ints W q (R.getD i [])) => rAstray_any t (R.getD i []) (read_parts ok he (hRp _ (by simp [hi]))) (by have h1 := hRp (R.getD i []) (by simp [hi]); have := isum_ge h1.1; have := h1.2; omega) pw pt q cw ct d W (hW.below h) hL)
  have HB := Lib.hid (below1 w (.cells #[.slice pw t.words.length cw, .slice pt t.turns.length ct, .int .i64 t.breath] 32))
  have HX := Lib.hid (heap_last w (.cells #[.slice pw t.words.length cw, .slice pt t.turns.length ct, .int .i64 t.breath] 32))
  have HR := Lib.hid hR
  have HRR : Hid (sureR t R = R.filter (nowB t)) := Lib.hid rfl
  obtain ⟨k0, k1, k2⟩ := blk3 HX.out
  clear hW hR hRp ok
  go_enter Tryz.func13, Tryz.ntmps13
  go_wp2_with fail
  generalize w.alloc (.cells #[.slice pw t.words.length cw, .slice pt t.turns.length ct, .int .i64 t.breath] 32) = W1 at HB HX ⊢
  go_loopw [5, 6, 7, 8, 9] (fun v5 v6 _ _ _ wr => ∃ (i : Nat) (xs : List Value), v6 = .int .i64 i ∧ i ≤ R.length ∧ wr.ownsRow (w.heap.size + 1) 34 1 v5 ((R.take i).filter (nowB t)).length xs ∧ Els wr xs ((R.take i).filter (nowB t)) ∧ Below w.heap.size w wr ∧ wr.heap[w.heap.size]? = some (.cells #[.slice pw t.words.length cw, .slice pt t.turns.length ct, .int .i64 t.breath] 32 (0, 0))) (fun _ v6 _ _ _ _ => R.length - (intOf v6).toNat)
  case atStart => exact ⟨0, [], rfl, Nat.zero_le _, own_none _ _ _ _, Els.nil _, HB.out, HX.out⟩
  case round =>
    clear HB HX k0 k1 k2
    obtain ⟨wp, rfl⟩ : ∃ wp : World, wp = wr := ⟨_, rfl⟩
    obtain ⟨i, xs, rfl, hi, hown, hels, hBr, hx⟩ := hrel
    have HO := Lib.hid hown
    have HE := Lib.hid hels
    have HBr := Lib.hid hBr
    have HXr := Lib.hid hx
    have hz7 := hBr.size
    have HZ0 : w.heap.size < wp.heap.size := (Array.getElem?_eq_some_iff.1 hx).1
    by_cases hlt : i < R.length
    · have hlt' : (i : Int) < R.length := by omega
      have hlt2 : (i : Int) < R.length := by omega
      obtain ⟨g5, q, d, rfl, hq5, hcell, hel⟩ := (HR.out.below hBr).el hlt
      have hacl : ((R.take i).filter (nowB t)).length ≤ 100000 := by
        have h1 := List.length_filter_le (nowB t) (R.take i)
        rw [List.length_take] at h1
        omega
      have HSN : Hid ((R.take (i + 1)).filter (nowB t) = (R.take i).filter (nowB t) ++ (if nowB t (R.getD i []) then [R.getD i []] else [])) := Lib.hid (by
        rw [take_snocD [] hlt, List.filter_append]; congr 1; simp only [List.filter_cons, List.filter_nil])
      generalize (R.take i).filter (nowB t) = acc at hacl HO HE HSN
      have hQI : Ints wp q (R.getD i []) := by obtain ⟨q', d', e, h⟩ := hel.ints; injection e with e1 _ _; subst e1; exact h
      have HEL := Lib.hid hel
      have HWR := Lib.hid (fun W h hL => HWR0.out i hlt q d W h hL)
      generalize R.getD i [] = l at hQI HSN HEL hcell HWR
      have HQI := Lib.hid hQI
      have HCELL := Lib.hid hcell
      have HOKR : Hid (nowB t l = !decide ((astrayGo (placesL l) 0 t.turns).2.2.2 = 0)) := Lib.hid rfl
      generalize astrayGo (placesL l) 0 t.turns = ag at HWR HOKR
      obtain ⟨wa, wb, wc, wd⟩ := ag
      dsimp only at HWR HOKR
      obtain ⟨bo, hbo⟩ : ∃ bo, bo = decide (wd = 0) := ⟨_, rfl⟩
      rw [← hbo] at HWR HOKR
      clear hown hels hBr hx hel hQI hcell hbo
      go_wp2_with fail
      refine Rg.region_gen (SpG.isGr wp.heap.size) 14 [[], [], [], [1, 2], [1, 2, 3], [0, 1, 2, 3, 4], [0, 1, 2, 3, 4, 5], [0, 1, 2, 3, 4, 5, 6], [0, 1, 2, 3, 4, 5, 6], [0, 1, 2, 3, 4, 5, 6], [], [0, 1, 2, 3, 4, 5, 6, 7, 10], [0, 1, 2, 3, 4, 5, 6, 7, 8, 10, 11], [0, 1, 2, 3, 4, 5, 6, 7, 8, 9, 10, 11, 12]] [some 17, some 18, some 19, some 20, some 21, some 22, some 16, some 23, some 24, some 25, some 8, some 7, none, some 9] (spRsu t pw pt cw ct g5 R.length cR i wp.heap.size (.slice q l.length d) wa wb wc bo) (by kernel_rfl) (by kernel_rfl) rfl (spRsu_stable _ _ _ _ _ _ _ _ _ _ _ _ _ _ _) ?_ ?_
      · refine ⟨fun V w' hG hs => ?_, fun V w' hG hs => ?_, fun V w' hG hs => ?_, fun V w' hG hs => ?_, fun V w' hG hs => ?_, fun V w' hG hs => ?_, fun V w' hG hs => ?_, fun V w' hG hs => ?_, fun V w' hG hs => ?_, fun V w' hG hs => ?_, fun V w' hG hs => ?_, fun V w' hG hs => ?_, fun V w' hG hs => ?_, fun V w' hG hs => ?_, trivial⟩
        all_goals
          obtain ⟨k0, k1, k2⟩ := blk3 ((hG.low.block w.heap.size HZ0).trans HXr.out)
          have hcell := (hG.low.cell (p := ⟨g5, i, none⟩) hq5).trans HCELL.out
        · rw [if_pos (by rfl)]
          exact Rg.GrowL.value (v := .agg #[.slice pw t.words.length cw, .slice pt t.turns.length ct, .int .i64 t.breath]) (w' := w') (by simp [go_sem, Rs.look, k0, k1, k2]) ((SpG.isGr wp.heap.size).refl _) rfl
        · rw [if_pos (by rfl)]
          exact Rg.GrowL.value (v := .slice (some ⟨g5, 0, none⟩) R.length cR) (w' := w') (by simp [go_sem, Rs.look]) ((SpG.isGr wp.heap.size).refl _) rfl
        · rw [if_pos (by rfl)]
          exact Rg.GrowL.value (v := .int .i64 (i : Int)) (w' := w') (by simp [go_sem, Rs.look]) ((SpG.isGr wp.heap.size).refl _) rfl
        · have e1 : V 1 = .slice (some ⟨g5, 0, none⟩) R.length cR := hs 1 (by simp)
          have e2 : V 2 = .int .i64 (i : Int) := hs 2 (by simp)
          rw [if_pos (by rfl)]
          exact Rg.GrowL.value (v := .pointer (some ⟨g5, i, none⟩)) (w' := w') (by simp [go_sem, Rs.look, e1, e2, hlt2]) ((SpG.isGr wp.heap.size).refl _) rfl
        · have e1 : V 1 = .slice (some ⟨g5, 0, none⟩) R.length cR := hs 1 (by simp)
          have e2 : V 2 = .int .i64 (i : Int) := hs 2 (by simp)
          have e3 : V 3 = .pointer (some ⟨g5, i, none⟩) := hs 3 (by simp)
          rw [if_pos (by rfl)]
          exact Rg.GrowL.value (v := (.slice q l.length d)) (w' := w') (by simp [go_sem, Rs.look, e1, e2, e3, hcell]) ((SpG.isGr wp.heap.size).refl _) rfl
        · have e0 : V 0 = .agg #[.slice pw t.words.length cw, .slice pt t.turns.length ct, .int .i64 t.breath] := hs 0 (by simp)
          have e1 : V 1 = .slice (some ⟨g5, 0, none⟩) R.length cR := hs 1 (by simp)
          have e2 : V 2 = .int .i64 (i : Int) := hs 2 (by simp)
          have e3 : V 3 = .pointer (some ⟨g5, i, none⟩) := hs 3 (by simp)
          have e4 : V 4 = (.slice q l.length d) := hs 4 (by simp)
          rw [if_pos (by rfl)]
          refine Rg.GrowL.call (SpG.isGr wp.heap.size) (f := 47) (args := #[.agg #[.slice pw t.words.length cw, .slice pt t.turns.length ct, .int .i64 t.breath], .slice q l.length d]) (by simp [go_sem, Rs.look, e0, e4]) ?_
          refine (HWR.out w' (join HBr.out hG.low) (HQI.out.below hG.low)).mono ?_
          rintro e w2 ⟨rfl, hB2⟩
          exact ⟨_, rfl, SpG.of hG.low.size hB2, rfl⟩
        · have e0 : V 0 = .agg #[.slice pw t.words.length cw, .slice pt t.turns.length ct, .int .i64 t.breath] := hs 0 (by simp)
          have e1 : V 1 = .slice (some ⟨g5, 0, none⟩) R.length cR := hs 1 (by simp)
          have e2 : V 2 = .int .i64 (i : Int) := hs 2 (by simp)
          have e3 : V 3 = .pointer (some ⟨g5, i, none⟩) := hs 3 (by simp)
          have e4 : V 4 = (.slice q l.length d) := hs 4 (by simp)
          have e5 : V 5 = .tuple #[.int .i64 wa, .agg #[.int .i64 wb, .int .i64 wc], .bool bo] := hs 5 (by simp)
          rw [if_pos (by rfl)]
          exact Rg.GrowL.value (v := .tuple #[.int .i64 wa, .agg #[.int .i64 wb, .int .i64 wc], .bool bo]) (w' := w') (by simp [go_sem, Rs.look, e0, e1, e2, e3, e4, e5]) ((SpG.isGr wp.heap.size).refl _) rfl
        · have e0 : V 0 = .agg #[.slice pw t.words.length cw, .slice pt t.turns.length ct, .int .i64 t.breath] := hs 0 (by simp)
          have e1 : V 1 = .slice (some ⟨g5, 0, none⟩) R.length cR := hs 1 (by simp)
          have e2 : V 2 = .int .i64 (i : Int) := hs 2 (by simp)
          have e3 : V 3 = .pointer (some ⟨g5, i, none⟩) := hs 3 (by simp)
          have e4 : V 4 = (.slice q l.length d) := hs 4 (by simp)
          have e5 : V 5 = .tuple #[.int .i64 wa, .agg #[.int .i64 wb, .int .i64 wc], .bool bo] := hs 5 (by simp)
          have e6 : V 6 = .tuple #[.int .i64 wa, .agg #[.int .i64 wb, .int .i64 wc], .bool bo] := hs 6 (by simp)
          rw [if_pos (by rfl)]
          exact Rg.GrowL.value (v := .int .i64 wa) (w' := w') (by simp [go_sem, Rs.look, e0, e1, e2, e3, e4, e5, e6]) ((SpG.isGr wp.heap.size).refl _) rfl
        · have e0 : V 0 = .agg #[.slice pw t.words.length cw, .slice pt t.turns.length ct, .int .i64 t.breath] := hs 0 (by simp)
          have e1 : V 1 = .slice (some ⟨g5, 0, none⟩) R.length cR := hs 1 (by simp)
          have e2 : V 2 = .int .i64 (i : Int) := hs 2 (by simp)
          have e3 : V 3 = .pointer (some ⟨g5, i, none⟩) := hs 3 (by simp)
          have e4 : V 4 = (.slice q l.length d) := hs 4 (by simp)
          have e5 : V 5 = .tuple #[.int .i64 wa, .agg #[.int .i64 wb, .int .i64 wc], .bool bo] := hs 5 (by simp)
          have e6 : V 6 = .tuple #[.int .i64 wa, .agg #[.int .i64 wb, .int .i64 wc], .bool bo] := hs 6 (by simp)
          rw [if_pos (by rfl)]
          exact Rg.GrowL.value (v := .agg #[.int .i64 wb, .int .i64 wc]) (w' := w') (by simp [go_sem, Rs.look, e0, e1, e2, e3, e4, e5, e6]) ((SpG.isGr wp.heap.size).refl _) rfl
        · have e0 : V 0 = .agg #[.slice pw t.words.length cw, .slice pt t.turns.length ct, .int .i64 t.breath] := hs 0 (by simp)
          have e1 : V 1 = .slice (some ⟨g5, 0, none⟩) R.length cR := hs 1 (by simp)
          have e2 : V 2 = .int .i64 (i : Int) := hs 2 (by simp)
          have e3 : V 3 = .pointer (some ⟨g5, i, none⟩) := hs 3 (by simp)
          have e4 : V 4 = (.slice q l.length d) := hs 4 (by simp)
          have e5 : V 5 = .tuple #[.int .i64 wa, .agg #[.int .i64 wb, .int .i64 wc], .bool bo] := hs 5 (by simp)
          have e6 : V 6 = .tuple #[.int .i64 wa, .agg #[.int .i64 wb, .int .i64 wc], .bool bo] := hs 6 (by simp)
          rw [if_pos (by rfl)]
          exact Rg.GrowL.value (v := .bool bo) (w' := w') (by simp [go_sem, Rs.look, e0, e1, e2, e3, e4, e5, e6]) ((SpG.isGr wp.heap.size).refl _) rfl
        · rw [if_pos (by rfl)]
          exact Rg.GrowL.value (v := .pointer (some ⟨w'.heap.size, 0, none⟩)) (w' := w'.alloc (.cells #[.int .i64 0, .int .i64 0] 58)) (by simp [go_sem, Rs.look]) (SpG.of hG.low.size (below1 _ _)) ⟨_, rfl, hG.low.size, _, _, heap_last _ _⟩
        · have e0 : V 0 = .agg #[.slice pw t.words.length cw, .slice pt t.turns.length ct, .int .i64 t.breath] := hs 0 (by simp)
          have e1 : V 1 = .slice (some ⟨g5, 0, none⟩) R.length cR := hs 1 (by simp)
          have e2 : V 2 = .int .i64 (i : Int) := hs 2 (by simp)
          have e3 : V 3 = .pointer (some ⟨g5, i, none⟩) := hs 3 (by simp)
          have e4 : V 4 = (.slice q l.length d) := hs 4 (by simp)
          have e5 : V 5 = .tuple #[.int .i64 wa, .agg #[.int .i64 wb, .int .i64 wc], .bool bo] := hs 5 (by simp)
          have e6 : V 6 = .tuple #[.int .i64 wa, .agg #[.int .i64 wb, .int .i64 wc], .bool bo] := hs 6 (by simp)
          have e7 : V 7 = .int .i64 wa := hs 7 (by simp)
          have r10 := hs 10 (by simp)
          rw [if_pos (by rfl)]
          exact Rg.GrowL.value (v := .int .i64 wa) (w' := w') (by simp [go_sem, Rs.look, e0, e1, e2, e3, e4, e5, e6, e7]) ((SpG.isGr wp.heap.size).refl _) rfl
        · have e0 : V 0 = .agg #[.slice pw t.words.length cw, .slice pt t.turns.length ct, .int .i64 t.breath] := hs 0 (by simp)
          have e1 : V 1 = .slice (some ⟨g5, 0, none⟩) R.length cR := hs 1 (by simp)
          have e2 : V 2 = .int .i64 (i : Int) := hs 2 (by simp)
          have e3 : V 3 = .pointer (some ⟨g5, i, none⟩) := hs 3 (by simp)
          have e4 : V 4 = (.slice q l.length d) := hs 4 (by simp)
          have e5 : V 5 = .tuple #[.int .i64 wa, .agg #[.int .i64 wb, .int .i64 wc], .bool bo] := hs 5 (by simp)
          have e6 : V 6 = .tuple #[.int .i64 wa, .agg #[.int .i64 wb, .int .i64 wc], .bool bo] := hs 6 (by simp)
          have e7 : V 7 = .int .i64 wa := hs 7 (by simp)
          have e8 : V 8 = .agg #[.int .i64 wb, .int .i64 wc] := hs 8 (by simp)
          have r10 := hs 10 (by simp)
          have e11 : V 11 = .int .i64 wa := hs 11 (by simp)
          rw [if_pos (by rfl)]
          obtain ⟨p, e10, hp, d0, d1, x10⟩ := r10
          have m0 := blk_cells x10 0 _ rfl
          have m1 := blk_cells x10 1 _ rfl
          have f10 : ∀ i, w'.frozen? ⟨p, i, none⟩ = false := fun i => by simp [World.frozen?, x10]
          exact Rg.GrowL.skip (w' := (w'.setCell ⟨p, 0, none⟩ (.int .i64 wb)).setCell ⟨p, 1, none⟩ (.int .i64 wc)) (by simp [go_sem, Rs.look, e10, e8, m0, m1, f10]) (SpG.fill hp x10) trivial
        · have e0 : V 0 = .agg #[.slice pw t.words.length cw, .slice pt t.turns.length ct, .int .i64 t.breath] := hs 0 (by simp)
          have e1 : V 1 = .slice (some ⟨g5, 0, none⟩) R.length cR := hs 1 (by simp)
          have e2 : V 2 = .int .i64 (i : Int) := hs 2 (by simp)
          have e3 : V 3 = .pointer (some ⟨g5, i, none⟩) := hs 3 (by simp)
          have e4 : V 4 = (.slice q l.length d) := hs 4 (by simp)
          have e5 : V 5 = .tuple #[.int .i64 wa, .agg #[.int .i64 wb, .int .i64 wc], .bool bo] := hs 5 (by simp)
          have e6 : V 6 = .tuple #[.int .i64 wa, .agg #[.int .i64 wb, .int .i64 wc], .bool bo] := hs 6 (by simp)
          have e7 : V 7 = .int .i64 wa := hs 7 (by simp)
          have e8 : V 8 = .agg #[.int .i64 wb, .int .i64 wc] := hs 8 (by simp)
          have e9 : V 9 = .bool bo := hs 9 (by simp)
          have r10 := hs 10 (by simp)
          have e11 : V 11 = .int .i64 wa := hs 11 (by simp)
          have r12 := hs 12 (by simp)
          rw [if_pos (by rfl)]
          exact Rg.GrowL.value (v := .bool bo) (w' := w') (by simp [go_sem, Rs.look, e0, e1, e2, e3, e4, e5, e6, e7, e8, e9, e11]) ((SpG.isGr wp.heap.size).refl _) rfl
      · intro V w' hG hs
        have e0 : V 0 = .agg #[.slice pw t.words.length cw, .slice pt t.turns.length ct, .int .i64 t.breath] := hs 0 (by omega)
        have e1 : V 1 = .slice (some ⟨g5, 0, none⟩) R.length cR := hs 1 (by omega)
        have e2 : V 2 = .int .i64 (i : Int) := hs 2 (by omega)
        have e3 : V 3 = .pointer (some ⟨g5, i, none⟩) := hs 3 (by omega)
        have e4 : V 4 = (.slice q l.length d) := hs 4 (by omega)
        have e5 : V 5 = .tuple #[.int .i64 wa, .agg #[.int .i64 wb, .int .i64 wc], .bool bo] := hs 5 (by omega)
        have e6 : V 6 = .tuple #[.int .i64 wa, .agg #[.int .i64 wb, .int .i64 wc], .bool bo] := hs 6 (by omega)
        have e7 : V 7 = .int .i64 wa := hs 7 (by omega)
        have e8 : V 8 = .agg #[.int .i64 wb, .int .i64 wc] := hs 8 (by omega)
        have e9 : V 9 = .bool bo := hs 9 (by omega)
        have r10 := hs 10 (by omega)
        have e11 : V 11 = .int .i64 wa := hs 11 (by omega)
        have r12 := hs 12 (by omega)
        have e13 : V 13 = .bool bo := hs 13 (by omega)
        obtain ⟨p10, e10, hp10, d0, d1, x10⟩ := r10
        simp only [Rs.canon, Rs.dstOf, List.range_succ, List.range_zero, List.nil_append, List.cons_append, List.foldl_cons, List.foldl_nil, List.drop_succ_cons, List.drop_zero, List.drop_nil, List.getElem?_toArray, List.getElem?_cons_succ, List.getElem?_cons_zero, Option.bind_some, Act.put, List.getD_cons_succ, List.getD_cons_zero, List.setIfInBounds_toArray, List.set_cons_succ, List.set_cons_zero]
        rw [e0, e1, e2, e3, e4, e5, e6, e7, e8, e9, e10, e11, e13]
        clear e0 e1 e2 e3 e4 e5 e6 e7 e8 e9 e10 e11 e13 hs
        clear x10 r12
        have HB2 := Lib.hid hG.low
        clear hG
        have HO := Lib.hid (own_below HO.out HB2.out)
        have HE := Lib.hid (HE.out.below HB2.out)
        have HEL := Lib.hid (HEL.out.below HB2.out)
        have HXr := Lib.hid ((HB2.out.block w.heap.size HZ0).trans HXr.out)
        have hzg := HB2.out.size
        have hcell := (HB2.out.cell (p := ⟨g5, i, none⟩) hq5).trans HCELL.out
        have HBr := Lib.hid (join HBr.out HB2.out)
        clear HB2 HCELL
        cases bo with
        | false =>
          rw [HOKR.out, if_pos (by rfl)] at HSN
          go_wp2_with (at_builtin; refine wpList_append_which rfl _ _ rfl (w.heap.size + 1) _ _ _ rfl (HO.out.alloc _) ⟨w'.heap.size, 0, none⟩ _ rfl (cell_one_new _ _ _ 0 _ rfl) rfl ?y1 ?y2 ?_)
          case y1 => first | omega | (simp; omega) | (simp at hzg ⊢; omega)
          case y2 => omega
          intro v' w9 hown9 hgrow9 hwhich
          have HEL9 := Lib.hid ((HEL.out.below (below1 _ _)).grown (HO.out.alloc _) hgrow9)
          have HE9 := Lib.hid ((HE.out.below (below1 _ _)).grown (HO.out.alloc _) hgrow9)
          have HO9 := Lib.hid hown9
          have HX9 := Lib.hid (blk_grown ((below1 _ _).block w.heap.size (by omega) |>.trans HXr.out) (HO.out.alloc _) hgrow9 (by omega))
          have HB9 := Lib.hid (below_grown (al2 HBr.out (by omega) _) (HO.out.alloc _) (by omega) (by first | omega | (simp; omega) | (simp at hzg ⊢; omega)) hgrow9)
          clear hgrow9 hown9 hwhich
          go_wp2
          go_roundw
          case rel => exact ⟨i + 1, _, by go_num, by omega, by rw [HSN.out, List.length_append]; exact HO9.out, by rw [HSN.out]; exact HE9.out.snoc HEL9.out, HB9.out, HX9.out⟩
          case measure => simp [intOf]; omega
        | true =>
          rw [HOKR.out, if_neg (by decide), List.append_nil] at HSN
          go_wp2
          go_roundw
          case rel => exact ⟨i + 1, xs, by go_num, by omega, by rw [HSN.out]; exact HO.out, by rw [HSN.out]; exact HE.out, HBr.out, HXr.out⟩
          case measure => simp [intOf]; omega
    · obtain rfl : i = R.length := by omega
      rw [List.take_length, ← HRR.out] at HO HE
      go_wp2
      go_ret
      exact ⟨_, xs, rfl, own_base HO.out (by omega), HE.out, HBr.out⟩
end Go.Proofs.YtadnggecnjdhiaaGreat
set_option linter.unusedSimpArgs false
set_option linter.unusedVariables false
namespace Go.Proofs.YtadnggecnjdhiaaGreat
open Go.RowKit Tx
attribute [local go_sem] Oper.semAt_some

theorem longGo_bd {t : Text} (ok : Text.Ok t) : ∀ (l : List Int) (a : Nat), 0 ≤ longGo t a l ∧ longGo t a l ≤ 1000
  | [], a => by simp [longGo]
  | x :: l, a => by
    have ih := longGo_bd ok l (a + x.toNat)
    rw [longGo]
    have hb := isum_bd ((slice t.words a (a + x.toNat)).map (·.syl)) 0 9 (fun y hy => by
      obtain ⟨z, hz, rfl⟩ := List.mem_map.1 hy
      have := ok.word z (List.mem_of_mem_drop (List.mem_of_mem_take hz)); omega)
    have hlen : ((slice t.words a (a + x.toNat)).map (·.syl)).length ≤ 12 := by
      have := ok.n12
      simp [slice]; omega
    unfold Text.syl
    omega
/-- one breath more of a reading that is looked through -/
theorem longGo_one {t : Text} {l : List Int} (h : Parts t.words.length l) {k : Nat} (hk : k < l.length) (m : Int) :
    max m (longGo t (isum (l.take k)).toNat (l.drop k)) = max (max m (t.syl (isum (l.take k)).toNat (isum (l.take (k + 1))).toNat)) (longGo t (isum (l.take (k + 1))).toNat (l.drop (k + 1))) := by
  have hx := h.1 _ (getD_mem 0 hk)
  have hs : isum (l.take (k + 1)) = isum (l.take k) + l.getD k 0 := by rw [take_snocD 0 hk, isum_snoc]
  have h0 := isum_ge (l := l.take k) (fun x hx => h.1 x (List.mem_of_mem_take hx))
  have e : (isum (l.take k)).toNat + (l.getD k 0).toNat = (isum (l.take (k + 1))).toNat := by omega
  have hd : l.drop k = l.getD k 0 :: l.drop (k + 1) := by rw [List.drop_eq_getElem_cons hk]; simp [hk]
  rw [hd, longGo, e]
  omega
set_option maxHeartbeats 4000000 in
set_option maxRecDepth 100000 in
theorem rLongest_any (t : Text) (ok : Text.Ok t) (l : List Int) (hp : Parts t.words.length l) (pw pl : Option Addr) (cw cl : Nat) (v1 v2 : Value) (w : World) (hW : Wds w pw t.words) (hL : Ints w pl l) :
    Calls Tryz.prog 17 #[.agg #[.slice pw t.words.length cw, v1, v2], .slice pl l.length cl] w fun e w' => e = .returned (.int .i64 (longGo t 0 l)) ∧ Below w.heap.size w w' := by
  have HB := Lib.hid (below1 w (.cells #[.slice pw t.words.length cw, v1, v2] 32))
  have HX := Lib.hid (heap_last w (.cells #[.slice pw t.words.length cw, v1, v2] 32))
  have HW := Lib.hid hW
  have HL := Lib.hid hL
  have HOK := Lib.hid ok
  have HP := Lib.hid hp
  have hn12 := ok.n12
  have hll : l.length ≤ 12 := by have := isum_ge hp.1; have := hp.2; omega
  have HPRE := Lib.hid (fun k => isum_take_le (fun x h => by have := hp.1 x h; omega) hp.2 k)
  obtain ⟨lo, hlo⟩ : ∃ lo, lo = longGo t 0 l := ⟨_, rfl⟩
  have HLO := Lib.hid hlo
  rw [← hlo]
  clear hW hL ok hp hlo
  go_enter Tryz.func17, Tryz.ntmps17
  go_wp2_with fail
  generalize w.alloc (.cells #[.slice pw t.words.length cw, v1, v2] 32) = W1 at HB HX ⊢
  go_loopw [5, 6, 7, 8, 9] (fun mv av iv _ _ wr => ∃ (k a : Nat) (m : Int), k ≤ l.length ∧ iv = .int .i64 k ∧ av = .int .i64 (a : Int) ∧ mv = .int .i64 m ∧ (a : Int) = isum (l.take k) ∧ 0 ≤ m ∧ m ≤ 1000 ∧ max m (longGo t a (l.drop k)) = lo ∧ W1 = wr) (fun _ _ iv _ _ _ => l.length - (intOf iv).toNat)
  case atStart => exact ⟨0, 0, 0, Nat.zero_le _, rfl, rfl, rfl, rfl, by omega, by omega, by have := (longGo_bd HOK.out l 0).1; rw [HLO.out, List.drop_zero]; omega, rfl⟩
  case round =>
    obtain ⟨k, a, m, hk, rfl, rfl, rfl, ha, hm0, hm1, hmx, rfl⟩ := hrel
    have HA := Lib.hid ha
    have HM := Lib.hid hmx
    clear ha hmx
    obtain ⟨k0, k1, k2⟩ := blk3 HX.out
    by_cases hlt : k < l.length
    · have hlt' : (k : Int) < l.length := by omega
      obtain ⟨g, o, x, rfl, hg, hxx, c1⟩ := (HL.out.below HB.out).at hlt
      have hsn : isum (l.take (k + 1)) = (a : Int) + x := by rw [take_snocD 0 hlt, isum_snoc, hxx, HA.out]
      have hx1 : 1 ≤ x := by rw [hxx]; exact HP.out.1 _ (getD_mem 0 hlt)
      have hpr := HPRE.out (k + 1)
      rw [hsn] at hpr
      obtain ⟨xn, rfl⟩ : ∃ n : Nat, x = (n : Int) := ⟨x.toNat, by omega⟩
      have hST : max m (longGo t a (l.drop k)) = max (max m (t.syl a (a + xn))) (longGo t (a + xn) (l.drop (k + 1))) := by
        have h := longGo_one HP.out hlt m
        rw [← HA.out, hsn] at h
        rw [show ((a : Int)).toNat = a by omega, show ((a : Int) + (xn : Int)).toNat = a + xn by omega] at h
        exact h
      rw [HM.out] at hST
      have HST := Lib.hid hST
      have HSN := Lib.hid hsn
      have hax : a + xn ≤ t.words.length := by omega
      clear hST hsn hxx HM
      go_wp2_with fail
      go_loopw [8, 9] (fun nv wv wr => ∃ q : Nat, q ≤ xn ∧ wv = .int .i64 ((a + q : Nat) : Int) ∧ nv = .int .i64 (t.syl a (a + q)) ∧ W1 = wr) (fun _ wv _ => a + xn - (intOf wv).toNat)
      case atStart => exact ⟨0, by omega, by simp, by rw [syl_none], rfl⟩
      case round =>
        obtain ⟨q, hq, rfl, rfl, rfl⟩ := hrel
        by_cases hql : q < xn
        · have hql' : ((a + q : Nat) : Int) < (a : Int) + (xn : Int) := by omega
          have hlt2 : a + q < t.words.length := by omega
          have hlt3 : ((a + q : Nat) : Int) < t.words.length := by omega
          obtain ⟨bb, ow, y, rfl, hbl, hyy, d1, d2, d3⟩ := (HW.out.below HB.out).at hlt2
          have hsy := syl_snoc t a q hlt2
          rw [← hyy] at hsy
          have h1 := syl_bd HOK.out a (a + q)
          have h2 := syl_bd HOK.out a (a + (q + 1))
          have HSY := Lib.hid hsy
          rw [hsy] at h2
          generalize t.syl a (a + q) = sy at h1 h2 HSY
          obtain ⟨ya, yb, yc⟩ := y
          dsimp only at d1 d2 d3 h2 HSY
          have e3 : ((a + q : Nat) : Int) + 1 = ((a + (q + 1) : Nat) : Int) := by omega
          have E3 := Lib.hid e3
          generalize hr : a + q = r at hql' hlt2 hlt3 d1 d2 d3 E3
          clear hyy hsy e3
          go_wp2
          go_roundw
          case rel => exact ⟨q + 1, by omega, by rw [E3.out], by rw [HSY.out], by first | trivial | rfl⟩
          case measure => simp [intOf]; omega
        · obtain rfl : q = xn := by omega
          have hql' : ¬ ((a + q : Nat) : Int) < (a : Int) + (q : Int) := by omega
          have hb := syl_bd HOK.out a (a + q)
          generalize t.syl a (a + q) = sy at hb HST
          have e3 : (a : Int) + (q : Int) = ((a + q : Nat) : Int) := by omega
          have E3 := Lib.hid e3
          clear e3
          go_wp2
          go_roundw
          case rel => exact ⟨k + 1, a + q, max m sy, by omega, by go_num, by first | rfl | rw [E3.out], by first | rfl | (congr 1; omega), by rw [HSN.out, E3.out], by omega, by omega, HST.out.symm, by first | trivial | rfl⟩
          case measure => simp [intOf]; omega
    · obtain rfl : k = l.length := by omega
      have hfin : m = lo := by
        have := HM.out
        rw [List.drop_length, longGo] at this
        omega
      subst hfin
      clear HM
      go_wp2
      go_ret
      exact ⟨rfl, HB.out⟩
end Go.Proofs.YtadnggecnjdhiaaGreat
set_option linter.unusedSimpArgs false
set_option linter.unusedVariables false
namespace Go.Proofs.YtadnggecnjdhiaaGreat
open Go.RowKit Tx
attribute [local go_sem] Oper.semAt_some

theorem evS_none {f : List Int → Int} {R : List (List Int)} (h : evS f R = none) : R = [] := by
  apply Classical.byContradiction
  intro hne
  obtain ⟨l, _, h1, _⟩ := evS_spec f R hne
  rw [h] at h1
  cases h1
theorem evP_step (f : List Int → Int) (R : List (List Int)) (i : Nat) (hi : i < R.length) (l : List Int) (hl : R.getD i [] = l) (mm : Nat) (mo : Int) (h : evP (evS f (R.take i)) = (mm, mo)) :
    evP (evS f (R.take (i + 1))) = if i = 0 ∨ f l < mo ∨ (f l = mo ∧ l.length < mm) then (l.length, f l) else (mm, mo) := by
  rw [take_snocD [] hi, evS_snoc, hl]
  cases he : evS f (R.take i) with
  | none =>
    have h0 := evS_none he
    have h1 : i = 0 := by
      have h2 : min i R.length = 0 := by rw [← List.length_take, h0]; rfl
      omega
    rw [if_pos (.inl h1)]
    rfl
  | some p =>
    obtain ⟨a, b⟩ := p
    rw [he] at h
    injection h with h1 h2
    subst h1; subst h2
    have h0 : i ≠ 0 := by
      rintro rfl
      rw [List.take_zero] at he
      cases he
    unfold evStep
    dsimp only
    by_cases hc : f l < b ∨ (f l = b ∧ l.length < a)
    · rw [if_pos hc, if_pos (.inr hc)]; rfl
    · rw [if_neg hc, if_neg (by rintro (h | h); exact h0 h; exact hc h)]; rfl
def spRev (t : Text) (pw pt : Option Addr) (cw ct g m c j : Nat) (x : Value) (lo : Int) : Nat → List Value → Value → World → Prop
  | 0, _, v, _ => v = .agg #[.slice pw t.words.length cw, .slice pt t.turns.length ct, .int .i64 t.breath]
  | 1, _, v, _ => v = .slice (some ⟨g, 0, none⟩) m c
  | 2, _, v, _ => v = .int .i64 (j : Int)
  | 3, _, v, _ => v = .pointer (some ⟨g, j, none⟩)
  | 4, _, v, _ => v = x
  | 5, _, v, _ => v = .int .i64 lo
  | _, _, _, _ => False
theorem spRev_stable (t : Text) (pw pt : Option Addr) (cw ct g m c j : Nat) (x : Value) (lo : Int) : ∀ i L v w w', spRev t pw pt cw ct g m c j x lo i L v w → Rs.Gr w w' → spRev t pw pt cw ct g m c j x lo i L v w' := by
  intro i L v w w' h hg
  match i with
  | 0 => exact h
  | 1 => exact h
  | 2 => exact h
  | 3 => exact h
  | 4 => exact h
  | 5 => exact h

set_option maxHeartbeats 6000000 in
set_option maxRecDepth 100000 in
theorem rEven_any (t : Text) (ok : Text.Ok t) (R : List (List Int)) (hRl : R.length ≤ 100000) (hRp : ∀ l ∈ R, Parts t.words.length l) (pw pt pR : Option Addr) (cw ct cR : Nat) (w : World) (hW : TxAt w t pw pt) (hR : LLs w pR R) :
    Calls Tryz.prog 15 #[.agg #[.slice pw t.words.length cw, .slice pt t.turns.length ct, .int .i64 t.breath], .slice pR R.length cR] w fun e w' => e = .returned (.tuple #[.int .i64 ((evP (evS (longGo t 0) R)).1 : Nat), .int .i64 (evP (evS (longGo t 0) R)).2]) ∧ Below w.heap.size w w' := by
  obtain ⟨em, hem⟩ : ∃ em, em = evP (evS (longGo t 0) R) := ⟨_, rfl⟩
  have HEM := Lib.hid hem
  rw [← hem]
  clear hem
  have hn12 := ok.n12
  have HWR0 := Lib.hid (fun (i : Nat) (hi : i < R.length) q d W (h : Below w.heap.size w W) (hL : Ints W q (R.getD i [])) => rLongest_any t ok (R.getD i []) (hRp _ (by simp [hi])) pw q cw d (.slice pt t.turns.length ct) (.int .i64 t.breath) W ((hW.below h).words) hL)
  have HLB := Lib.hid (fun (i : Nat) (hi : i < R.length) => And.intro (longGo_bd ok (R.getD i []) 0) (show (R.getD i []).length ≤ 12 by have h1 := hRp (R.getD i []) (by simp [hi]); have := isum_ge h1.1; have := h1.2; omega))
  have HEV := Lib.hid (fun (i : Nat) (hi : i < R.length) l hl mm mo h => evP_step (longGo t 0) R i hi l hl mm mo h)
  have HB := Lib.hid (below1 w (.cells #[.slice pw t.words.length cw, .slice pt t.turns.length ct, .int .i64 t.breath] 32))
  have HX := Lib.hid (heap_last w (.cells #[.slice pw t.words.length cw, .slice pt t.turns.length ct, .int .i64 t.breath] 32))
  have HR := Lib.hid hR
  obtain ⟨k0, k1, k2⟩ := blk3 HX.out
  clear hW hR hRp ok
  go_enter Tryz.func15, Tryz.ntmps15
  go_wp2_with fail
  generalize w.alloc (.cells #[.slice pw t.words.length cw, .slice pt t.turns.length ct, .int .i64 t.breath] 32) = W1 at HB HX ⊢
  go_loopw [6, 7, 8, 9] (fun v6 v7 v8 _ wr => ∃ (i mm : Nat) (mo : Int), v8 = .int .i64 i ∧ i ≤ R.length ∧ v6 = .int .i64 mm ∧ v7 = .int .i64 mo ∧ evP (evS (longGo t 0) (R.take i)) = (mm, mo) ∧ 0 ≤ mo ∧ mo ≤ 1000 ∧ mm ≤ 12 ∧ Below w.heap.size w wr ∧ wr.heap[w.heap.size]? = some (.cells #[.slice pw t.words.length cw, .slice pt t.turns.length ct, .int .i64 t.breath] 32 (0, 0))) (fun _ _ v8 _ _ => R.length - (intOf v8).toNat)
  case atStart => exact ⟨0, 0, 0, rfl, Nat.zero_le _, rfl, rfl, rfl, by omega, by omega, by omega, HB.out, HX.out⟩
  case round =>
    clear HB HX k0 k1 k2
    obtain ⟨wp, rfl⟩ : ∃ wp : World, wp = wr := ⟨_, rfl⟩
    obtain ⟨i, mm, mo, rfl, hi, rfl, rfl, hev, hm0, hm1, hmm, hBr, hx⟩ := hrel
    have HBr := Lib.hid hBr
    have HXr := Lib.hid hx
    have hz7 := hBr.size
    have HZ0 : w.heap.size < wp.heap.size := (Array.getElem?_eq_some_iff.1 hx).1
    by_cases hlt : i < R.length
    · have hlt' : (i : Int) < R.length := by omega
      have hlt2 : (i : Int) < R.length := by omega
      obtain ⟨g5, q, d, rfl, hq5, hcell, hQI⟩ := (HR.out.below hBr).at hlt
      have HWR := Lib.hid (fun W h hL => HWR0.out i hlt q d W h hL)
      obtain ⟨⟨hl0, hl1⟩, hll⟩ := HLB.out i hlt
      have HSN := Lib.hid (HEV.out i hlt _ rfl mm mo hev)
      generalize R.getD i [] = l at hQI hcell HWR hl0 hl1 hll HSN
      generalize longGo t 0 l = lo at HWR hl0 hl1 HSN
      have HQI := Lib.hid hQI
      have HCELL := Lib.hid hcell
      clear hBr hx hQI hcell hev
      go_wp2_with fail
      refine Rs.region_gen 6 [[], [], [], [1, 2], [1, 2, 3], [0, 1, 2, 3, 4]] [some 16, some 17, some 18, some 19, some 20, some 21] (spRev t pw pt cw ct g5 R.length cR i (.slice q l.length d) lo) (by kernel_rfl) (by kernel_rfl) rfl (spRev_stable _ _ _ _ _ _ _ _ _ _ _) ?_ ?_
      · refine ⟨fun V w' hG hs => ?_, fun V w' hG hs => ?_, fun V w' hG hs => ?_, fun V w' hG hs => ?_, fun V w' hG hs => ?_, fun V w' hG hs => ?_, trivial⟩
        all_goals
          obtain ⟨k0, k1, k2⟩ := blk3 ((hG.block w.heap.size HZ0).trans HXr.out)
          have hcell := (hG.cell (p := ⟨g5, i, none⟩) hq5).trans HCELL.out
        · rw [if_pos (by rfl)]
          exact Rs.GrowL.value (v := .agg #[.slice pw t.words.length cw, .slice pt t.turns.length ct, .int .i64 t.breath]) (w' := w') (by simp [go_sem, Rs.look, k0, k1, k2]) (Rs.Gr.refl _) rfl
        · rw [if_pos (by rfl)]
          exact Rs.GrowL.value (v := .slice (some ⟨g5, 0, none⟩) R.length cR) (w' := w') (by simp [go_sem, Rs.look]) (Rs.Gr.refl _) rfl
        · rw [if_pos (by rfl)]
          exact Rs.GrowL.value (v := .int .i64 (i : Int)) (w' := w') (by simp [go_sem, Rs.look]) (Rs.Gr.refl _) rfl
        · have e1 : V 1 = .slice (some ⟨g5, 0, none⟩) R.length cR := hs 1 (by simp)
          have e2 : V 2 = .int .i64 (i : Int) := hs 2 (by simp)
          rw [if_pos (by rfl)]
          exact Rs.GrowL.value (v := .pointer (some ⟨g5, i, none⟩)) (w' := w') (by simp [go_sem, Rs.look, e1, e2, hlt2]) (Rs.Gr.refl _) rfl
        · have e1 : V 1 = .slice (some ⟨g5, 0, none⟩) R.length cR := hs 1 (by simp)
          have e2 : V 2 = .int .i64 (i : Int) := hs 2 (by simp)
          have e3 : V 3 = .pointer (some ⟨g5, i, none⟩) := hs 3 (by simp)
          rw [if_pos (by rfl)]
          exact Rs.GrowL.value (v := (.slice q l.length d)) (w' := w') (by simp [go_sem, Rs.look, e1, e2, e3, hcell]) (Rs.Gr.refl _) rfl
        · have e0 : V 0 = .agg #[.slice pw t.words.length cw, .slice pt t.turns.length ct, .int .i64 t.breath] := hs 0 (by simp)
          have e1 : V 1 = .slice (some ⟨g5, 0, none⟩) R.length cR := hs 1 (by simp)
          have e2 : V 2 = .int .i64 (i : Int) := hs 2 (by simp)
          have e3 : V 3 = .pointer (some ⟨g5, i, none⟩) := hs 3 (by simp)
          have e4 : V 4 = (.slice q l.length d) := hs 4 (by simp)
          rw [if_pos (by rfl)]
          refine Rs.GrowL.call (f := 17) (args := #[.agg #[.slice pw t.words.length cw, .slice pt t.turns.length ct, .int .i64 t.breath], .slice q l.length d]) (by simp [go_sem, Rs.look, e0, e4]) ?_
          refine (HWR.out w' (join HBr.out hG) (HQI.out.below hG)).mono ?_
          rintro e w2 ⟨rfl, hB2⟩
          exact ⟨_, rfl, hB2, rfl⟩
      · intro V w' hG hs
        have e0 : V 0 = .agg #[.slice pw t.words.length cw, .slice pt t.turns.length ct, .int .i64 t.breath] := hs 0 (by omega)
        have e1 : V 1 = .slice (some ⟨g5, 0, none⟩) R.length cR := hs 1 (by omega)
        have e2 : V 2 = .int .i64 (i : Int) := hs 2 (by omega)
        have e3 : V 3 = .pointer (some ⟨g5, i, none⟩) := hs 3 (by omega)
        have e4 : V 4 = (.slice q l.length d) := hs 4 (by omega)
        have e5 : V 5 = .int .i64 lo := hs 5 (by omega)
        simp only [Rs.canon, Rs.dstOf, List.range_succ, List.range_zero, List.nil_append, List.cons_append, List.foldl_cons, List.foldl_nil, List.drop_succ_cons, List.drop_zero, List.drop_nil, List.getElem?_toArray, List.getElem?_cons_succ, List.getElem?_cons_zero, Option.bind_some, Act.put, List.getD_cons_succ, List.getD_cons_zero, List.setIfInBounds_toArray, List.set_cons_succ, List.set_cons_zero]
        rw [e0, e1, e2, e3, e4, e5]
        clear e0 e1 e2 e3 e4 e5 hs
        have HXr := Lib.hid ((hG.block w.heap.size HZ0).trans HXr.out)
        have hcell := (hG.cell (p := ⟨g5, i, none⟩) hq5).trans HCELL.out
        have HBr := Lib.hid (join HBr.out hG)
        clear HCELL hG
        by_cases h0 : i = 0
        · subst h0
          rw [if_pos (.inl rfl)] at HSN
          go_wp2
          go_roundw
          case rel => exact ⟨1, l.length, lo, rfl, by omega, rfl, rfl, HSN.out, by omega, by omega, by omega, HBr.out, HXr.out⟩
          case measure => simp [intOf]; omega
        · have h0' : ((i : Int) == 0) = false := by rw [beq_eq_false_iff_ne]; omega
          by_cases h1 : lo < mo
          · rw [if_pos (.inr (.inl h1))] at HSN
            clear h0
            go_wp2
            go_roundw
            case rel => exact ⟨i + 1, l.length, lo, by go_num, by omega, rfl, rfl, HSN.out, by omega, by omega, by omega, HBr.out, HXr.out⟩
            case measure => simp [intOf]; omega
          · by_cases h2 : lo = mo
            · subst h2
              by_cases h3 : l.length < mm
              · have h3' : (l.length : Int) < mm := by omega
                rw [if_pos (.inr (.inr ⟨rfl, h3⟩))] at HSN
                clear h0 h3
                go_wp2
                go_roundw
                case rel => exact ⟨i + 1, l.length, lo, by go_num, by omega, rfl, rfl, HSN.out, by omega, by omega, by omega, HBr.out, HXr.out⟩
                case measure => simp [intOf]; omega
              · have h3' : ¬ (l.length : Int) < mm := by omega
                rw [if_neg (by rintro (h | h | h); exact h0 h; exact h1 h; exact h3 h.2)] at HSN
                clear h0 h3
                go_wp2
                go_roundw
                case rel => exact ⟨i + 1, mm, lo, by go_num, by omega, rfl, rfl, HSN.out, by omega, by omega, by omega, HBr.out, HXr.out⟩
                case measure => simp [intOf]; omega
            · have h2' : (lo == mo) = false := by simpa using h2
              rw [if_neg (by rintro (h | h | h); exact h0 h; exact h1 h; exact h2 h.1)] at HSN
              clear h0 h2
              go_wp2
              go_roundw
              case rel => exact ⟨i + 1, mm, mo, by go_num, by omega, rfl, rfl, HSN.out, by omega, by omega, by omega, HBr.out, HXr.out⟩
              case measure => simp [intOf]; omega
    · obtain rfl : i = R.length := by omega
      rw [List.take_length, ← HEM.out] at hev
      subst hev
      clear HEM
      go_wp2
      go_ret2
      exact ⟨rfl, HBr.out⟩
end Go.Proofs.YtadnggecnjdhiaaGreat
set_option linter.unusedSimpArgs false
set_option linter.unusedVariables false
namespace Go.Proofs.YtadnggecnjdhiaaGreat
open Go.RowKit Tx

theorem even1_any (k s : List Int) (hk : k.length ≤ 1000000) (hs : s.length ≤ 1000000) (B : Nat) (pk ps : Option Addr) (ck cs : Nat) (w : World) (hB : w.heap[B]? = some (.cells #[.slice ps s.length cs] 34 (0, 0))) (hK : Ints w pk k) (hS : Ints w ps s) :
    Calls Tryz.prog 19 #[.slice pk k.length ck, .pointer (some ⟨B, 0, none⟩)] w fun e w' => e = .returned (.bool (decide (k = s))) ∧ Below w.heap.size w w' := by
  have c0 := blk_cells hB 0 _ rfl
  have HL := Lib.hid (fun W (h : Below w.heap.size w W) => Like_ints pk ps ck cs k s _ rfl W hk hs (hK.below h) (hS.below h))
  clear hB hK hS
  generalize decide (k = s) = b at HL ⊢
  go_enter Tryz.func19, Tryz.ntmps19
  go_wp2_with fail
  refine (HL.out _ (Below.refl _ _)).mono ?_
  rintro e w2 ⟨rfl, hB2⟩
  go_wp2
  go_ret
  exact ⟨rfl, hB2⟩
theorem entered_even1 : Entered 19 := fun args W => by kernel_rfl
def idxL (p : List Int → Bool) (ts : List (List Int)) (z : Int) : Prop := (z = -1 ∧ ts.any p = false) ∨ (0 ≤ z ∧ ts.any p = true)
set_option maxHeartbeats 1000000 in
set_option maxRecDepth 100000 in
theorem indexFuncL (F : FuncId) (hF : Entered F) (E : Value) (q : List Int → Bool) (ts : List (List Int)) (p : Option Addr) (c : Nat) (w : World) (hl : ts.length ≤ 1000000) (hi : LLs w p ts) (hq : ∀ W, Below w.heap.size w W → ∀ u ∈ ts, ∀ pu cu, Ints W pu u → Calls Tryz.prog F #[.slice pu u.length cu, E] W fun e w' => e = .returned (.bool (q u)) ∧ Below W.heap.size W w') :
    Calls Tryz.prog 50 #[.slice p ts.length c, .func (.func F) #[] #[E]] w fun e w' => ∃ z : Int, e = .returned (.int .i64 z) ∧ idxL q ts z ∧ Below w.heap.size w w' := by
  have HI := Lib.hid hi
  have HQ := Lib.hid hq
  have HF := Lib.hid hF
  clear hi hq hF
  go_enter Tryz.func50, Tryz.ntmps50
  go_wp2_with fail
  go_loopw [5, 8] (fun u5 i wr => ∃ k : Nat, k ≤ ts.length ∧ i = .int .i64 k ∧ (ts.take k).any q = false ∧ Below w.heap.size w wr) (fun _ i _ => ts.length - (intOf i).toNat)
  case atStart => exact ⟨0, Nat.zero_le _, rfl, rfl, Below.refl _ _⟩
  case round =>
    obtain ⟨k, hk, rfl, hA, hB⟩ := hrel
    have HA := Lib.hid hA
    clear hA
    by_cases hlt : k < ts.length
    · have hlt' : (k : Int) < ts.length := by omega
      obtain ⟨b, qa, d, rfl, hb, c1, hI⟩ := (HI.out.below hB).at hlt
      have HB := Lib.hid hB
      have HASK := Lib.hid (HQ.out _ hB _ (getD_mem [] hlt) qa d hI)
      obtain ⟨x, hx⟩ : ∃ x, x = ts.getD k [] := ⟨_, rfl⟩
      have HX := Lib.hid hx
      rw [← hx] at HASK c1
      clear hB hI hx
      go_wp2_with fail
      rw [HF.out, Oper.upon_enter]
      refine HASK.out.mono ?_
      rintro e w5 ⟨rfl, hB5⟩
      have HB5 := Lib.hid (join HB.out hB5)
      clear HASK hB5
      cases hbad : q x with
      | true =>
        have HBAD := Lib.hid hbad
        clear hbad
        go_wp2
        go_ret
        exact ⟨_, rfl, .inr ⟨by omega, any_hit [] hlt _ (by rw [← HX.out]; exact HBAD.out)⟩, HB5.out⟩
      | false =>
        have HBAD := Lib.hid hbad
        clear hbad
        go_wp2
        go_roundw
        case rel => exact ⟨k + 1, by omega, by go_num, any_snoc [] hlt _ HA.out (by rw [← HX.out]; exact HBAD.out), HB5.out⟩
        case measure => simp [intOf]; omega
    · obtain rfl : k = ts.length := by omega
      have HB := Lib.hid hB
      clear hB
      go_wp2
      go_ret
      exact ⟨_, rfl, .inl ⟨rfl, by have := HA.out; rwa [List.take_length] at this⟩, HB.out⟩
set_option maxHeartbeats 1000000 in
set_option maxRecDepth 100000 in
theorem containsFuncL (F : FuncId) (hF : Entered F) (E : Value) (q : List Int → Bool) (ts : List (List Int)) (p : Option Addr) (c : Nat) (w : World) (hl : ts.length ≤ 1000000) (hi : LLs w p ts) (hq : ∀ W, Below w.heap.size w W → ∀ u ∈ ts, ∀ pu cu, Ints W pu u → Calls Tryz.prog F #[.slice pu u.length cu, E] W fun e w' => e = .returned (.bool (q u)) ∧ Below W.heap.size W w') :
    Calls Tryz.prog 18 #[.slice p ts.length c, .func (.func F) #[] #[E]] w fun e w' => e = .returned (.bool (ts.any q)) ∧ Below w.heap.size w w' := by
  have HI := Lib.hid (indexFuncL F hF E q ts p c w hl hi hq)
  clear hi hq
  go_enter Tryz.func18, Tryz.ntmps18
  go_wp2_with fail
  refine HI.out.mono ?_
  rintro e w5 ⟨z, rfl, hz, hB5⟩
  rcases hz with ⟨rfl, ha⟩ | ⟨h0, ha⟩
  · have HA := Lib.hid ha
    clear ha
    go_wp2
    go_ret
    exact ⟨by rw [HA.out]; rfl, hB5⟩
  · have HA := Lib.hid ha
    have hz0 : decide (0 ≤ z) = true := by simpa using h0
    clear ha
    go_wp2
    go_ret
    exact ⟨by rw [HA.out]; rfl, hB5⟩
end Go.Proofs.YtadnggecnjdhiaaGreat
