/- Contracts of the code and of the reference, part 5. -/
import Derived.Test.YtadnggecnjdhiaaMd
import Derived.Laws.MakeOwn
import Derived.DeepKeys
import Derived.Laws.StructEq
import Derived.Laws.CopyOwn
import Derived.Laws.CopyRow
set_option linter.unusedSimpArgs false
set_option linter.unusedVariables false
namespace Go.Proofs.Ytadnggecnjdhiaa
open Go.RowKit Tx
attribute [local go_sem] Oper.semAt_some

theorem read_ok {t : Text} {l : List Int} (he : readErr t l = 0) : t.err = 0 ∧ (∀ x ∈ l, 1 ≤ x ∧ x ≤ 12) ∧ isum l = t.words.length := by
  have h0 : t.err = 0 := by
    by_cases h : t.err = 0
    · exact h
    · unfold readErr at he; rw [if_pos h] at he; exact absurd he h
  unfold readErr at he
  rw [if_neg (by simp [h0])] at he
  have h1 : ¬ l.any (fun k => !btw k 1 12) = true := by intro h; rw [if_pos h] at he; omega
  rw [if_neg h1] at he
  have h2 : isum l = t.words.length := by
    by_cases h : isum l = t.words.length
    · exact h
    · rw [if_pos h] at he; omega
  exact ⟨h0, fun x hx => by
    have := any_false h1 x hx
    simp only [Bool.not_eq_false'] at this
    exact btw_true this, h2⟩
set_option maxHeartbeats 800000 in
set_option maxRecDepth 100000 in
theorem Wrong_ok (t : Text) (l : List Int) (he : readErr t l = 0) (hll : l.length ≤ 1000000) (pw pt pl : Option Addr) (cw ct cl : Nat) (hcw : t.words.length ≤ cw ∧ cw ≤ maxLen) (w : World) (hW : TxAt w t pw pt) (hL : Ints w pl l) :
    Calls Try.prog 27 #[.agg #[.slice pw t.words.length cw, .slice pt t.turns.length ct, .int .i64 t.breath], .slice pl l.length cl] w fun e w' =>
      e = .returned (.tuple #[.int .i64 (wrongGo t 0 0 l).1, .int .i64 (wrongGo t 0 0 l).2.1, .int .i64 (wrongGo t 0 0 l).2.2]) ∧ Below w.heap.size w w' := by
  obtain ⟨h0, hx, hs⟩ := read_ok he
  have ok := err_ok h0
  have HS := Lib.hid (fun W (h : Below w.heap.size w W) => openReading_ok t l he hll pw pt pl cw ct cl W (hW.below h) (hL.below h))
  have HF := Lib.hid (fun W (h : Below w.heap.size w W) => firstWrong_any t l hx hs pw pt pl cw ct cl (.func (.func 138) #[.agg #[.slice pw t.words.length cw, .slice pt t.turns.length ct, .int .i64 t.breath, .nilFunc]] #[]) W ⟨ok, hW.below h, hcw⟩ (hL.below h) hll)
  clear hW hL he h0 hx hs ok
  go_enter Try.func27, Try.ntmps27
  go_wp2_with fail
  refine (HS.out _ (below1 _ _)).mono ?_
  rintro e w5 ⟨rfl, hB5⟩
  have HB5 := Lib.hid (join (below1 _ _) hB5)
  clear hB5
  go_wp2_with fail
  refine (HF.out _ (join HB5.out (below1 _ _))).mono ?_
  rintro e w6 ⟨rfl, hB6⟩
  have HB6 := Lib.hid hB6
  clear hB6
  go_wp2
  go_ret3
  exact ⟨rfl, join (join HB5.out (below1 _ _)) HB6.out⟩
def spWo (t : Text) (l P : List Int) (pw pt pl : Option Addr) (cw ct cl : Nat) (mv : Value) (a b c d : Int) : Nat → List Value → Value → World → Prop
  | 0, _, v, _ => v = .agg #[.slice pw t.words.length cw, .slice pt t.turns.length ct, .int .i64 t.breath, mv]
  | 1, _, v, _ => v = .slice pl l.length cl
  | 2, L, v, w => ∃ p c, v = .slice p P.length c ∧ Ints w p P
  | 3, _, v, _ => v = .tuple #[.int .i64 a, .agg #[.int .i64 b, .int .i64 c], .int .i64 d]
  | 4, _, v, _ => v = .int .i64 a
  | 5, _, v, _ => v = .agg #[.int .i64 b, .int .i64 c]
  | 6, _, v, _ => v = .int .i64 d
  | _, _, _, _ => False
theorem spWo_stable (t : Text) (l P : List Int) (pw pt pl : Option Addr) (cw ct cl : Nat) (mv : Value) (a b c d : Int) : ∀ i L v w w', spWo t l P pw pt pl cw ct cl mv a b c d i L v w → Rs.Gr w w' → spWo t l P pw pt pl cw ct cl mv a b c d i L v w' := by
  intro i L v w w' h hg
  match i with
  | 0 => exact h
  | 1 => exact h
  | 2 => obtain ⟨p, c, h1, h2⟩ := h; exact ⟨p, c, h1, h2.below hg⟩
  | 3 => exact h
  | 4 => exact h
  | 5 => exact h
  | 6 => exact h
set_option maxHeartbeats 1600000 in
set_option maxRecDepth 100000 in
theorem Astray_in (t : Text) (l : List Int) (he : readErr t l = 0) (hr : (wrongGo t 0 0 l).2.2 = 6) (hll : l.length ≤ 100000) (pw pt pl : Option Addr) (cw ct cl : Nat) (hcw : t.words.length ≤ cw ∧ cw ≤ maxLen) (w : World) (hW : TxAt w t pw pt) (hL : Ints w pl l) :
    Calls Try.prog 41 #[.agg #[.slice pw t.words.length cw, .slice pt t.turns.length ct, .int .i64 t.breath], .slice pl l.length cl] w fun e w' =>
      e = .returned (.tuple #[.int .i64 (astrayGo (placesL l) 0 t.turns).1, .agg #[.int .i64 (astrayGo (placesL l) 0 t.turns).2.1, .int .i64 (astrayGo (placesL l) 0 t.turns).2.2.1], .int .i64 (astrayGo (placesL l) 0 t.turns).2.2.2]) ∧ Below w.heap.size w w' := by
  obtain ⟨h0, hx, hs⟩ := read_ok he
  have ok := err_ok h0
  have hn12 := ok.n12
  have hpre := fun k => isum_take_le (fun x h => by have := hx x h; omega) hs k
  have hplen : (placesL l).length = l.length + 1 := by simp [placesL]
  have hm6 := ok.m6
  have HS := Lib.hid (fun W (h : Below w.heap.size w W) => openReading_ok t l he (by omega) pw pt pl cw ct cl W (hW.below h) (hL.below h))
  have HF := Lib.hid (fun W (h : Below w.heap.size w W) => firstWrong_any t l hx hs pw pt pl cw ct cl (.func (.func 138) #[.agg #[.slice pw t.words.length cw, .slice pt t.turns.length ct, .int .i64 t.breath, .nilFunc]] #[]) W ⟨ok, hW.below h, hcw⟩ (hL.below h) (by omega))
  have HPL0 : Hid (∀ W, Below w.heap.size w W → Calls Try.prog 115 #[.slice pl l.length cl] W fun e w' => ∃ p c, e = .returned (.slice p (placesL l).length c) ∧ Ints w' p (placesL l) ∧ Below W.heap.size W w') := Lib.hid (fun W h => by
    refine (placesOf_any l (fun k => by have := hpre k; omega) pl cl W (hL.below h) hll).mono ?_
    rintro e w' ⟨v, rfl, hown, hb⟩
    obtain ⟨p, c, rfl, hI, -⟩ := own_rd hown rfl
    exact ⟨p, c, rfl, hI, hb⟩)
  have HFA0 : Hid (∀ mv p c W, Below w.heap.size w W → Ints W p (placesL l) → Calls Try.prog 114 #[.agg #[.slice pw t.words.length cw, .slice pt t.turns.length ct, .int .i64 t.breath, mv], .slice p (placesL l).length c] W fun e w' =>
      e = .returned (.tuple #[.int .i64 (astrayGo (placesL l) 0 t.turns).1, .agg #[.int .i64 (astrayGo (placesL l) 0 t.turns).2.1, .int .i64 (astrayGo (placesL l) 0 t.turns).2.2.1], .int .i64 (astrayGo (placesL l) 0 t.turns).2.2.2]) ∧ Below W.heap.size W w') := Lib.hid (fun mv p c W h hI =>
    firstAstray_any t (by omega) (placesL l) (by omega) (by omega) (fun k hk => by
      have e : (placesL l).getD k 0 = isum (l.take k) := by
        unfold placesL; rw [List.getD_eq_getElem?_getD, List.getElem?_map, List.getElem?_range (by omega)]; rfl
      have := hpre k; rw [e]; omega) pt p ct c _ _ mv W (hW.turns.below h) hI)
  have hr' := hr
  generalize wrongGo t 0 0 l = rw0 at HF hr
  obtain ⟨r1, r2, r3⟩ := rw0
  simp only at HF hr
  subst hr
  clear hW hL he h0 hx hs ok hpre hr' hn12 hm6 hplen
  generalize placesL l = P at HPL0 HFA0 ⊢
  generalize astrayGo P 0 t.turns = ag at HFA0 ⊢
  obtain ⟨a, b, c, d⟩ := ag
  simp only at HFA0 ⊢
  go_enter Try.func41, Try.ntmps41
  go_wp2_with fail
  refine (HS.out _ ((below1 _ _).alloc (by simp) _)).mono ?_
  rintro e w5 ⟨rfl, hB5⟩
  have hz5 := hB5.size
  simp only [World.size_alloc] at hz5
  have hsp0 := heap_last (w.alloc (.cells #[.slice pw t.words.length cw, .slice pt t.turns.length ct, .int .i64 t.breath] 25)) (.cells #[.int .i64 0, .int .i64 0] 27)
  rw [World.size_alloc] at hsp0
  have hsp := (hB5.block (w.heap.size + 1) (by simp)).trans hsp0
  clear hsp0
  have HSP := Lib.hid hsp
  have HB5 := Lib.hid (join ((below1 _ _).alloc (by simp) _) hB5)
  clear hB5 hsp
  go_wp2_with fail
  refine (HF.out _ (join HB5.out (below1 _ _))).mono ?_
  rintro e w6 ⟨rfl, hB6⟩
  have hz6 := hB6.size
  simp only [World.size_alloc] at hz6
  have hbx := (hB6.block w5.heap.size (by simp)).trans (heap_last w5 (.cells #[.slice pw t.words.length cw, .slice pt t.turns.length ct, .int .i64 t.breath, .func (.func 138) #[.agg #[.slice pw t.words.length cw, .slice pt t.turns.length ct, .int .i64 t.breath, .nilFunc]] #[]] 125))
  have hsp6 := (hB6.block (w.heap.size + 1) (by simp; omega)).trans ((Below.heap_alloc _ _ _ (by omega)).trans HSP.out)
  have HBX0 := Lib.hid hbx
  have HSP6 := Lib.hid hsp6
  have HB6 := Lib.hid (join (join HB5.out (below1 _ _)) hB6)
  clear hB6 hbx hsp6
  obtain ⟨Bx, hBx⟩ : ∃ Bx, Bx = w5.heap.size := ⟨_, rfl⟩
  have hbx6 : Bx < w6.heap.size := by omega
  have hsz6 : w.heap.size + 1 < w6.heap.size := by omega
  have HBX : Hid (w6.heap[Bx]? = some (.cells #[.slice pw t.words.length cw, .slice pt t.turns.length ct, .int .i64 t.breath, .func (.func 138) #[.agg #[.slice pw t.words.length cw, .slice pt t.turns.length ct, .int .i64 t.breath, .nilFunc]] #[]] 125 (0, 0))) := Lib.hid (by rw [hBx]; exact HBX0.out)
  have HPL := Lib.hid (fun W (h : Below w6.heap.size w6 W) => HPL0.out W (join HB6.out h))
  have HFA := Lib.hid (fun p c W (h : Below w6.heap.size w6 W) hI => HFA0.out (.func (.func 138) #[.agg #[.slice pw t.words.length cw, .slice pt t.turns.length ct, .int .i64 t.breath, .nilFunc]] #[]) p c W (join HB6.out h) hI)
  go_wp2_with fail
  · rw [← hBx]
    clear hBx
    refine Rs.region_gen 7 [[], [], [1], [0, 1, 2], [0, 1, 2, 3], [0, 1, 2, 3], [0, 1, 2, 3]] [some 32, some 33, some 34, some 35, some 36, some 37, some 38] (spWo t l P pw pt pl cw ct cl (.func (.func 138) #[.agg #[.slice pw t.words.length cw, .slice pt t.turns.length ct, .int .i64 t.breath, .nilFunc]] #[]) a b c d) (by kernel_rfl) (by kernel_rfl) rfl (spWo_stable _ _ _ _ _ _ _ _ _ _ _ _ _ _) ?_ ?_
    · refine ⟨fun V w' hG hs => ?_, fun V w' hG hs => ?_, fun V w' hG hs => ?_, fun V w' hG hs => ?_, fun V w' hG hs => ?_, fun V w' hG hs => ?_, fun V w' hG hs => ?_, trivial⟩
      all_goals
        have k0 := blk_cells ((hG.block Bx (by omega)).trans HBX.out) 0 _ rfl
        have k1 := blk_cells ((hG.block Bx (by omega)).trans HBX.out) 1 _ rfl
        have k2 := blk_cells ((hG.block Bx (by omega)).trans HBX.out) 2 _ rfl
        have k3 := blk_cells ((hG.block Bx (by omega)).trans HBX.out) 3 _ rfl
      · rw [if_pos (by rfl)]
        exact Rs.GrowL.value (v := .agg #[.slice pw t.words.length cw, .slice pt t.turns.length ct, .int .i64 t.breath, (.func (.func 138) #[.agg #[.slice pw t.words.length cw, .slice pt t.turns.length ct, .int .i64 t.breath, .nilFunc]] #[])]) (w' := w') (by simp [go_sem, Rs.look, k0, k1, k2, k3]) (Rs.Gr.refl _) rfl
      · rw [if_pos (by rfl)]
        exact Rs.GrowL.value (v := .slice pl l.length cl) (w' := w') (by simp [go_sem, Rs.look]) (Rs.Gr.refl _) rfl
      · have e1 : V 1 = .slice pl l.length cl := hs 1 (by simp)
        rw [if_pos (by rfl)]
        refine Rs.GrowL.call (f := 115) (args := #[.slice pl l.length cl]) (by simp [go_sem, Rs.look, e1]) ?_
        refine (HPL.out w' hG).mono ?_
        rintro e w2 ⟨p, c, rfl, hI2, hB2⟩
        exact ⟨_, rfl, hB2, p, c, rfl, hI2⟩
      · have e0 : V 0 = .agg #[.slice pw t.words.length cw, .slice pt t.turns.length ct, .int .i64 t.breath, (.func (.func 138) #[.agg #[.slice pw t.words.length cw, .slice pt t.turns.length ct, .int .i64 t.breath, .nilFunc]] #[])] := hs 0 (by simp)
        have e1 : V 1 = .slice pl l.length cl := hs 1 (by simp)
        have r2 := hs 2 (by simp)
        rw [if_pos (by rfl)]
        obtain ⟨p, c, e2, hI⟩ := r2
        refine Rs.GrowL.call (f := 114) (args := #[.agg #[.slice pw t.words.length cw, .slice pt t.turns.length ct, .int .i64 t.breath, .func (.func 138) #[.agg #[.slice pw t.words.length cw, .slice pt t.turns.length ct, .int .i64 t.breath, .nilFunc]] #[]], .slice p P.length c]) (by simp [go_sem, Rs.look, e0, e2]) ?_
        refine (HFA.out p c w' hG hI).mono ?_
        rintro e w2 ⟨rfl, hB2⟩
        exact ⟨_, rfl, hB2, rfl⟩
      · have e0 : V 0 = .agg #[.slice pw t.words.length cw, .slice pt t.turns.length ct, .int .i64 t.breath, (.func (.func 138) #[.agg #[.slice pw t.words.length cw, .slice pt t.turns.length ct, .int .i64 t.breath, .nilFunc]] #[])] := hs 0 (by simp)
        have e1 : V 1 = .slice pl l.length cl := hs 1 (by simp)
        have r2 := hs 2 (by simp)
        have e3 : V 3 = .tuple #[.int .i64 a, .agg #[.int .i64 b, .int .i64 c], .int .i64 d] := hs 3 (by simp)
        rw [if_pos (by rfl)]
        exact Rs.GrowL.value (v := .int .i64 a) (w' := w') (by simp [go_sem, Rs.look, e0, e1, e3]) (Rs.Gr.refl _) rfl
      · have e0 : V 0 = .agg #[.slice pw t.words.length cw, .slice pt t.turns.length ct, .int .i64 t.breath, (.func (.func 138) #[.agg #[.slice pw t.words.length cw, .slice pt t.turns.length ct, .int .i64 t.breath, .nilFunc]] #[])] := hs 0 (by simp)
        have e1 : V 1 = .slice pl l.length cl := hs 1 (by simp)
        have r2 := hs 2 (by simp)
        have e3 : V 3 = .tuple #[.int .i64 a, .agg #[.int .i64 b, .int .i64 c], .int .i64 d] := hs 3 (by simp)
        rw [if_pos (by rfl)]
        exact Rs.GrowL.value (v := .agg #[.int .i64 b, .int .i64 c]) (w' := w') (by simp [go_sem, Rs.look, e0, e1, e3]) (Rs.Gr.refl _) rfl
      · have e0 : V 0 = .agg #[.slice pw t.words.length cw, .slice pt t.turns.length ct, .int .i64 t.breath, (.func (.func 138) #[.agg #[.slice pw t.words.length cw, .slice pt t.turns.length ct, .int .i64 t.breath, .nilFunc]] #[])] := hs 0 (by simp)
        have e1 : V 1 = .slice pl l.length cl := hs 1 (by simp)
        have r2 := hs 2 (by simp)
        have e3 : V 3 = .tuple #[.int .i64 a, .agg #[.int .i64 b, .int .i64 c], .int .i64 d] := hs 3 (by simp)
        rw [if_pos (by rfl)]
        exact Rs.GrowL.value (v := .int .i64 d) (w' := w') (by simp [go_sem, Rs.look, e0, e1, e3]) (Rs.Gr.refl _) rfl
    · intro V w' hG hs
      have e0 : V 0 = .agg #[.slice pw t.words.length cw, .slice pt t.turns.length ct, .int .i64 t.breath, (.func (.func 138) #[.agg #[.slice pw t.words.length cw, .slice pt t.turns.length ct, .int .i64 t.breath, .nilFunc]] #[])] := hs 0 (by omega)
      have e1 : V 1 = .slice pl l.length cl := hs 1 (by omega)
      have r2 := hs 2 (by omega)
      have e3 : V 3 = .tuple #[.int .i64 a, .agg #[.int .i64 b, .int .i64 c], .int .i64 d] := hs 3 (by omega)
      have e4 : V 4 = .int .i64 a := hs 4 (by omega)
      have e5 : V 5 = .agg #[.int .i64 b, .int .i64 c] := hs 5 (by omega)
      have e6 : V 6 = .int .i64 d := hs 6 (by omega)
      obtain ⟨p2, c2, e2, hI2⟩ := r2
      simp only [Rs.canon, Rs.dstOf, List.range_succ, List.range_zero, List.nil_append, List.cons_append, List.foldl_cons, List.foldl_nil, List.drop_succ_cons, List.drop_zero, List.drop_nil, List.getElem?_toArray, List.getElem?_cons_succ, List.getElem?_cons_zero, Option.bind_some, Act.put, List.getD_cons_succ, List.getD_cons_zero, List.setIfInBounds_toArray, List.set_cons_succ, List.set_cons_zero]
      rw [e0, e1, e3, e4, e5, e6, e2]
      clear e0 e1 e3 e4 e5 e6 e2 hs
      have hsp9 := (hG.block (w.heap.size + 1) (by omega)).trans HSP6.out
      have y0 := blk_cells hsp9 0 _ rfl
      have y1 := blk_cells hsp9 1 _ rfl
      have z : ∀ i, w'.frozen? ⟨w.heap.size + 1, i, none⟩ = false := fun i => by simp [World.frozen?, hsp9]
      have HSP9 := Lib.hid hsp9
      have HG := Lib.hid hG
      clear hsp9 hG
      go_wp2
      have hx9 : ((w'.setCell ⟨w.heap.size + 1, 0, none⟩ (.int .i64 b)).setCell ⟨w.heap.size + 1, 1, none⟩ (.int .i64 c)).heap[w.heap.size + 1]? = some (.cells #[.int .i64 b, .int .i64 c] 27 (0, 0)) := heap_set_same _ (heap_set_same _ HSP9.out)
      have r0 := blk_cells hx9 0 _ rfl
      have r1 := blk_cells hx9 1 _ rfl
      refine bodyPost_ret (v := .tuple #[.int .i64 a, .agg #[.int .i64 b, .int .i64 c], .int .i64 d]) (by simp [results, Try.results41, go_sem, r0, r1]) rfl ⟨rfl, ?_⟩
      exact ((join HB6.out HG.out).setCell (p := ⟨w.heap.size + 1, 0, none⟩) (by simp) _).setCell (p := ⟨w.heap.size + 1, 1, none⟩) (by simp) _
end Go.Proofs.Ytadnggecnjdhiaa
set_option linter.unusedSimpArgs false
set_option linter.unusedVariables false
namespace Go.Proofs.Ytadnggecnjdhiaa
open Go.RowKit Tx
attribute [local go_sem] Oper.semAt_some

set_option maxHeartbeats 2000000 in
set_option maxRecDepth 100000 in
theorem Reading_any (t : Text) (l : List Int) (hl1 : t.words.length ≤ 1000000) (hl2 : t.turns.length ≤ 1000000) (hll : l.length ≤ 1000000) (pw pt pl : Option Addr) (cw ct cl : Nat) (w : World) (hW : TxAt w t pw pt) (hL : Ints w pl l) :
    Calls Try.prog 42 #[.agg #[.slice pw t.words.length cw, .slice pt t.turns.length ct, .int .i64 t.breath], .slice pl l.length cl] w fun e w' => e = .returned (.int .i64 (readErr t l)) ∧ Below w.heap.size w w' := by
  have HC := Lib.hid (fun W (h : Below w.heap.size w W) => rCheck_any t hl1 hl2 pw pt cw ct W (hW.below h))
  have HB := Lib.hid (below1 w (.cells #[.slice pw t.words.length cw, .slice pt t.turns.length ct, .int .i64 t.breath] 35))
  have HX := Lib.hid (heap_last w (.cells #[.slice pw t.words.length cw, .slice pt t.turns.length ct, .int .i64 t.breath] 35))
  have HL := Lib.hid hL
  obtain ⟨k0, k1, k2⟩ := blk3 HX.out
  clear hW hL
  by_cases he : t.err = 0
  · have hn12 := (err_ok he).n12
    have HR : Hid (readErr t l = if l.any (fun k => !btw k 1 12) then 3 else if isum l ≠ t.words.length then 2 else 0) := Lib.hid (by unfold readErr; rw [if_neg (by simp [he])])
    rw [he] at HC
    generalize readErr t l = er at HR ⊢
    clear he
    go_enter Try.func42, Try.ntmps42
    go_wp2_with fail
    refine (HC.out _ HB.out).mono ?_
    rintro e w5 ⟨rfl, hB5⟩
    have HX5 := Lib.hid ((hB5.block w.heap.size (Array.getElem?_eq_some_iff.1 HX.out).1).trans HX.out)
    have HB5 := Lib.hid (join HB.out hB5)
    clear hB5 k0 k1 k2
    obtain ⟨k0, k1, k2⟩ := blk3 HX5.out
    go_wp2_with fail
    go_loop [6, 7] (fun n i => ∃ k : Nat, ∃ q : Int, k ≤ l.length ∧ i = .int .i64 k ∧ n = .int .i64 q ∧ q = min (isum (l.take k)) 100 ∧ (l.take k).any (fun k => !btw k 1 12) = false ∧ 0 ≤ isum (l.take k)) (fun _ i => l.length - (intOf i).toNat)
    case atStart => exact ⟨0, 0, Nat.zero_le _, rfl, rfl, by rw [List.take_zero]; rfl, rfl, by simp [isum]⟩
    case round =>
      obtain ⟨k, q, hk, rfl, rfl, hq, hA, hs⟩ := hrel
      have HA := Lib.hid hA
      have hq0 : 0 ≤ q ∧ q ≤ 100 := by omega
      have HQ := Lib.hid hq
      clear hA hq
      by_cases hlt : k < l.length
      · have hlt' : (k : Int) < l.length := by omega
        obtain ⟨b, o, x, rfl, hbl, hxx, c1⟩ := (HL.out.below HB5.out).at hlt
        have hsn : isum (l.take (k + 1)) = isum (l.take k) + x := by rw [take_snocD 0 hlt, isum_snoc, hxx]
        have HSN := Lib.hid hsn
        have HS := Lib.hid hs
        have HXX := Lib.hid hxx
        clear hsn hs hxx
        cases hx : btw x 1 12 with
        | false =>
          have HX1 := Lib.hid (not_btw hx)
          have HF : Hid (er = 3) := Lib.hid (by rw [HR.out, if_pos (any_hit 0 hlt _ (by rw [← HXX.out, hx]; rfl))])
          clear hx HR
          go_wp2_with fail
          refine (off_b _ _ _ _ HX1.out _).mono ?_
          rintro e w' ⟨rfl, rfl⟩
          go_wp2
          go_ret
          exact ⟨ret_int HF.out.symm, HB5.out⟩
        | true =>
          have HX1 := Lib.hid (not_btw hx)
          have hxb := btw_true hx
          have HXB := Lib.hid hx
          clear hx
          go_wp2_with fail
          refine (off_b _ _ _ _ HX1.out _).mono ?_
          rintro e w' ⟨rfl, rfl⟩
          go_wp2
          go_round
          case rel => exact ⟨k + 1, min (q + x) 100, by omega, by go_num, by first | rfl | (congr 1; omega), by rw [HSN.out]; have := HQ.out; have := HS.out; omega, any_snoc 0 hlt _ HA.out (by rw [← HXX.out, HXB.out]; rfl), by rw [HSN.out]; have := HS.out; omega⟩
          case measure => simp [intOf]; omega
      · obtain rfl : k = l.length := by omega
        have hany := HA.out
        have hQ := HQ.out
        rw [List.take_length] at hany hQ hs
        have HR2 := Lib.hid (HR.out.trans (if_neg (by rw [hany]; decide)))
        clear hany HA HR HQ
        by_cases hne : q = (t.words.length : Int)
        · have HF : Hid (er = 0) := Lib.hid (by rw [HR2.out, if_neg]; omega)
          clear HR2 hQ hs
          subst hne
          go_wp2
          go_ret
          exact ⟨ret_int HF.out.symm, HB5.out⟩
        · have HF : Hid (er = 2) := Lib.hid (by rw [HR2.out, if_pos]; omega)
          have hne' : (q != (t.words.length : Int)) = true := by simpa using hne
          clear HR2 hQ hs hne
          go_wp2
          go_ret
          exact ⟨ret_int HF.out.symm, HB5.out⟩
  · have HE : (t.err != 0) = true := by simpa using he
    have HR : Hid (readErr t l = t.err) := Lib.hid (by unfold readErr; rw [if_pos he])
    rw [HR.out]
    generalize t.err = er at HC HE ⊢
    clear he HR
    go_enter Try.func42, Try.ntmps42
    go_wp2_with fail
    refine (HC.out _ HB.out).mono ?_
    rintro e w5 ⟨rfl, hB5⟩
    have HB5 := Lib.hid (join HB.out hB5)
    clear hB5
    go_wp2
    go_ret
    exact ⟨rfl, HB5.out⟩
end Go.Proofs.Ytadnggecnjdhiaa
set_option linter.unusedSimpArgs false
set_option linter.unusedVariables false
namespace Go.Proofs.Ytadnggecnjdhiaa
open Go.RowKit Tx

def wtTo (t : Text) (l : List Int) (k : Nat) : List Int := (l.take k).map (fun i => (t.words.getD i.toNat default).wt) ++ List.replicate (l.length - k) 0
theorem wtTo_zero (t : Text) (l : List Int) : wtTo t l 0 = List.replicate l.length 0 := by simp [wtTo]
theorem wtTo_len (t : Text) (l : List Int) {k : Nat} (hk : k ≤ l.length) : (wtTo t l k).length = l.length := by simp [wtTo]; omega
theorem wtTo_full (t : Text) (l : List Int) : wtTo t l l.length = l.map (fun i => (t.words.getD i.toNat default).wt) := by simp [wtTo]
theorem wtTo_succ (t : Text) (l : List Int) {k : Nat} (hk : k < l.length) : (wtTo t l k).set k (t.words.getD (l.getD k 0).toNat default).wt = wtTo t l (k + 1) := by
  unfold wtTo
  rw [take_snocD 0 hk, List.map_append, List.map_cons, List.map_nil]
  rw [show l.length - k = (l.length - (k + 1)) + 1 by omega, List.replicate_succ]
  rw [List.set_append_right _ _ (by simp; omega)]
  rw [show k - (List.map (fun i : Int => (t.words.getD i.toNat default).wt) (l.take k)).length = 0 by simp; omega]
  simp
theorem made_int (n : Nat) : madeCells #[.int .i64 0] n = arrOf (List.replicate n 0) := by
  unfold madeCells arrOf
  apply Array.ext_getElem?
  intro i
  by_cases hi : i < n <;> simp [Nat.mod_one, hi, Array.getElem?_range]
theorem make_ints (n : Nat) (hn : n ≤ 1000000) (W : World) : (Instr.makeSlice 28 (.int .i64 (n : Int)) (.int .i64 (n : Int))).run Try.prog W = .ok (.slice (some ⟨W.heap.size, 0, none⟩) n n) (W.alloc (.cells (arrOf (List.replicate n 0)) 3)) := by
  have h := run_make_row' (P := Try.prog) 28 3 (.int .i64 0) 8 A_undI A_infoI rfl .i64 .i64 n (by omega) (by omega) W
  rw [made_int] at h
  exact h
set_option maxHeartbeats 1000000 in
set_option maxRecDepth 100000 in
theorem weight_any (t : Text) (ok : Text.Ok t) (l : List Int) (hll : l.length ≤ 100000) (hx : ∀ x ∈ l, 0 ≤ x ∧ x < t.words.length) (pw pl : Option Addr) (cw cl : Nat) (v1 v2 v3 : Value) (w : World) (hW : Wds w pw t.words) (hL : Ints w pl l) :
    Calls Try.prog 119 #[.agg #[.slice pw t.words.length cw, v1, v2, v3], .slice pl l.length cl] w fun e w' => e = .returned (.int .i64 (t.wtOf l)) ∧ Below w.heap.size w w' := by
  have hmk := make_ints l.length (by omega)
  have HW := Lib.hid hW
  have HL := Lib.hid hL
  have HX := Lib.hid hx
  have HOK := Lib.hid ok
  have hn12 := ok.n12
  have HX0 := Lib.hid (heap_last w (.cells #[.slice pw t.words.length cw, v1, v2, v3] 125))
  have HB1 := Lib.hid (below1 w (.cells #[.slice pw t.words.length cw, v1, v2, v3] 125))
  have hz1 : (w.alloc (.cells #[.slice pw t.words.length cw, v1, v2, v3] 125)).heap.size = w.heap.size + 1 := by simp
  clear hW hL hx ok
  go_enter Try.func119, Try.ntmps119
  go_wp2_with fail
  have hblk := heap_last (w.alloc (.cells #[.slice pw t.words.length cw, v1, v2, v3] 125)) (.cells (arrOf (List.replicate l.length 0)) 3)
  rw [World.size_alloc] at hblk
  have hx2 := (Below.heap_alloc (w.alloc (.cells #[.slice pw t.words.length cw, v1, v2, v3] 125)) (.cells (arrOf (List.replicate l.length 0)) 3) w.heap.size (by simp)).trans HX0.out
  have hB2 := join HB1.out (below1 (w.alloc (.cells #[.slice pw t.words.length cw, v1, v2, v3] 125)) (.cells (arrOf (List.replicate l.length 0)) 3))
  rw [← wtTo_zero t l] at hblk
  go_loopw [6, 7, 13] (fun u6 u7 i wr => ∃ k : Nat, k ≤ l.length ∧ i = .int .i64 k ∧ wr.heap[w.heap.size]? = some (.cells #[.slice pw t.words.length cw, v1, v2, v3] 125 (0, 0)) ∧ wr.heap[w.heap.size + 1]? = some (.cells (arrOf (wtTo t l k)) 3 (0, 0)) ∧ Below w.heap.size w wr) (fun _ _ i _ => l.length - (intOf i).toNat)
  case atStart => exact ⟨0, Nat.zero_le _, rfl, hx2, by simpa [wtTo_zero] using hblk, hB2⟩
  case round =>
    obtain ⟨k, hk, rfl, h0, h1, hB⟩ := hrel
    have H0 := Lib.hid h0
    have H1 := Lib.hid h1
    have HB := Lib.hid hB
    have hs1 := (Array.getElem?_eq_some_iff.1 h1).1
    have hs0 : w.heap.size < wr.heap.size := by omega
    have k0 := blk_cells h0 0 _ rfl
    clear hblk hx2 hB2 h0 h1 hB hmk
    by_cases hlt : k < l.length
    · have hlt' : (k : Int) < l.length := by omega
      obtain ⟨lb, lo, x, rfl, hlb, hxx, c1⟩ := (HL.out.below HB.out).at hlt
      have hxb := HX.out x (by rw [hxx]; exact getD_mem 0 hlt)
      obtain ⟨y, rfl⟩ := Int.eq_ofNat_of_zero_le hxb.1
      have hyn : y < t.words.length := by omega
      have hyn' : (y : Int) < t.words.length := by omega
      obtain ⟨bb, bo, z, rfl, hbb, hzz, d1, d2, d3⟩ := (HW.out.below HB.out).at hyn
      have hcell := blk_cells H1.out k _ (arrOf_get (by rw [wtTo_len t l hk]; exact hlt))
      have hfz : wr.frozen? ⟨w.heap.size + 1, k, none⟩ = false := by simp [World.frozen?, H1.out]
      have HSUC : Hid ((wtTo t l k).set k z.wt = wtTo t l (k + 1)) := Lib.hid (by rw [← wtTo_succ t l hlt, ← hxx]; rw [show ((y : Int)).toNat = y from rfl, ← hzz])
      generalize (wtTo t l k).getD k 0 = old at hcell
      clear hxx hzz
      go_wp2
      go_roundw
      case rel =>
        refine ⟨k + 1, by omega, by go_num, (Below.heap_setCell _ _ _ _ (by show w.heap.size ≠ w.heap.size + 1; omega)).trans H0.out, ?_, belS HB.out (by omega)⟩
        rw [heap_set_same _ H1.out, arrOf_set, HSUC.out]
      case measure => simp [intOf]; omega
    · obtain rfl : k = l.length := by omega
      have hfull := wtTo_full t l
      have HF := Lib.hid hfull
      have hints : Ints wr (some ⟨w.heap.size + 1, 0, none⟩) (l.map (fun i => (t.words.getD i.toNat default).wt)) := by
        refine .inr ⟨_, _, rfl, hs1, fun i hi => ?_⟩
        rw [Nat.zero_add]
        have := blk_cells H1.out i _ (arrOf_get (by rw [HF.out]; exact hi))
        rw [this, HF.out]
      have hbd : ∀ x ∈ l.map (fun i => (t.words.getD i.toNat default).wt), -1000000 ≤ x ∧ x ≤ 1000000 := fun x hxm => by
        obtain ⟨i, hi, rfl⟩ := List.mem_map.1 hxm
        have := HX.out i hi
        have h2 := HOK.out.word (t.words.getD i.toNat default) (getD_mem default (by omega))
        omega
      have hsum := sum_any (l.map (fun i => (t.words.getD i.toNat default).wt)) (some ⟨w.heap.size + 1, 0, none⟩) l.length wr (by rw [List.length_map]; omega) hbd hints
      rw [List.length_map] at hsum
      have HSUM := Lib.hid hsum
      clear hfull hints hbd hsum k0
      go_wp2_with fail
      refine HSUM.out.mono ?_
      rintro e w7 ⟨rfl, rfl⟩
      go_wp2
      go_ret
      exact ⟨rfl, HB.out⟩

/-- Contains of ints, in any list -/
theorem contains_any (l : List Int) (hll : l.length ≤ 1000000) (p : Option Addr) (c : Nat) (x : Int) (w : World) (hL : Ints w p l) :
    Calls Try.prog 64 #[.slice p l.length c, .int .i64 x] w fun e w' => e = .returned (.bool (l.contains x)) ∧ w' = w := by
  rcases hL with rfl | ⟨b, o, rfl, hb, hc⟩
  · exact (Try.slices_Contains_int_empty p c x w).mono fun e w' ⟨h1, h2⟩ => ⟨by rw [h1]; rfl, h2⟩
  · have h := Try.slices_Contains_int b o l.length c l x w (Nat.le_refl _) (by omega) hc
    rw [List.take_length] at h
    exact h
theorem coreTo_snoc (u : Turn) (l : List Int) {k : Nat} : ((List.range (k + 1)).all fun j => l.contains (u.lo + (j : Int))) = ((List.range k).all (fun j => l.contains (u.lo + (j : Int))) && l.contains (u.lo + (k : Int))) := by
  rw [List.range_succ, List.all_append]; simp
set_option maxHeartbeats 1000000 in
theorem coreKept_any (u : Turn) (hu : 0 ≤ u.lo ∧ u.lo ≤ u.hi ∧ u.hi ≤ 1000) (l : List Int) (hll : l.length ≤ 1000000) (p : Option Addr) (c : Nat) (w : World) (hL : Ints w p l) :
    Calls Try.prog 156 #[.agg #[.int .i64 u.word, .int .i64 u.lo, .int .i64 u.hi], .slice p l.length c] w fun e w' => e = .returned (.bool (coreIn u l)) ∧ Below w.heap.size w w' := by
  obtain ⟨uw, ul, uh⟩ := u
  dsimp only at hu ⊢
  have HL := Lib.hid hL
  have hB := below1 w (.cells #[.int .i64 uw, .int .i64 ul, .int .i64 uh] 80)
  have hx0 := heap_last w (.cells #[.int .i64 uw, .int .i64 ul, .int .i64 uh] 80)
  have HB := Lib.hid hB
  have HX0 := Lib.hid hx0
  clear hL hB hx0
  go_enter Try.func156, Try.ntmps156
  go_wp2_with fail
  generalize hW1 : w.alloc (.cells #[.int .i64 uw, .int .i64 ul, .int .i64 uh] 80) = W1 at HB HX0 ⊢
  clear hW1
  have f0 := blk_cells HX0.out 0 _ rfl
  have f1 := blk_cells HX0.out 1 _ rfl
  have f2 := blk_cells HX0.out 2 _ rfl
  go_loopw [5] (fun i wr => ∃ k : Nat, ul + (k : Int) ≤ uh + 1 ∧ i = .int .i64 (ul + (k : Int)) ∧ ((List.range k).all fun j => l.contains (ul + (j : Int))) = true ∧ W1 = wr) (fun i _ => (uh + 1 - intOf i).toNat)
  case atStart => exact ⟨0, by omega, by simp, rfl, rfl⟩
  case round =>
    obtain ⟨k, hk, rfl, hall, rfl⟩ := hrel
    have HALL := Lib.hid hall
    clear hall
    by_cases hle : ul + (k : Int) ≤ uh
    · have HSN := Lib.hid (coreTo_snoc ⟨uw, ul, uh⟩ l (k := k))
      cases hc : l.contains (ul + (k : Int)) with
      | true =>
        have HC := Lib.hid hc
        clear hc
        go_wp2_with fail
        refine (contains_any l hll p c _ _ (HL.out.below HB.out)).mono ?_
        rintro e w' ⟨rfl, rfl⟩
        rw [HC.out]
        go_wp2
        go_roundw
        case rel => exact ⟨k + 1, by omega, by rw [show ((k + 1 : Nat) : Int) = (k : Int) + 1 by omega, ← Int.add_assoc], by rw [HSN.out, HALL.out]; exact HC.out, trivial⟩
        case measure => simp [intOf]; omega
      | false =>
        have HC := Lib.hid hc
        clear hc
        go_wp2_with fail
        refine (contains_any l hll p c _ _ (HL.out.below HB.out)).mono ?_
        rintro e w' ⟨rfl, rfl⟩
        rw [HC.out]
        go_wp2
        go_ret
        refine ⟨ret_bool ?_, HB.out⟩
        symm
        unfold coreIn
        rw [List.all_eq_false]
        exact ⟨k, List.mem_range.2 (by show k < (uh + 1 - ul).toNat; omega), by rw [HC.out]; decide⟩
    · have hkk : k = (uh + 1 - ul).toNat := by omega
      have HKK := Lib.hid hkk
      clear hkk
      go_wp2
      go_ret
      exact ⟨ret_bool (by unfold coreIn; rw [← HKK.out]; exact HALL.out.symm), HB.out⟩
end Go.Proofs.Ytadnggecnjdhiaa
set_option linter.unusedSimpArgs false
set_option linter.unusedVariables false
namespace Go.Proofs.Ytadnggecnjdhiaa
open Go.RowKit Tx
attribute [local go_sem] Oper.semAt_some

set_option maxHeartbeats 1000000 in
theorem otherwise_any (u : Turn) (hu : 0 ≤ u.lo ∧ u.lo ≤ u.hi ∧ u.hi ≤ 1000) (l : List Int) (hll : l.length ≤ 1000000) (p : Option Addr) (c : Nat) (w : World) (hL : Ints w p l) :
    Calls Try.prog 116 #[.agg #[.int .i64 u.word, .int .i64 u.lo, .int .i64 u.hi], .slice p l.length c] w fun e w' => e = .returned (.bool (coreIn u l && !l.contains u.word)) ∧ Below w.heap.size w w' := by
  obtain ⟨uw, ul, uh⟩ := u
  dsimp only at hu ⊢
  have HL := Lib.hid hL
  have hB := below1 w (.cells #[.int .i64 uw, .int .i64 ul, .int .i64 uh] 81)
  have hx0 := heap_last w (.cells #[.int .i64 uw, .int .i64 ul, .int .i64 uh] 81)
  have HB := Lib.hid hB
  have HX0 := Lib.hid hx0
  have HZ0 : Hid (w.heap.size < (w.alloc (.cells #[.int .i64 uw, .int .i64 ul, .int .i64 uh] 81)).heap.size) := Lib.hid (by simp)
  clear hL hB hx0
  go_enter Try.func116, Try.ntmps116
  go_wp2_with fail
  generalize hW1 : w.alloc (.cells #[.int .i64 uw, .int .i64 ul, .int .i64 uh] 81) = W1 at HB HX0 HZ0 ⊢
  clear hW1
  have f0 := blk_cells HX0.out 0 _ rfl
  have f1 := blk_cells HX0.out 1 _ rfl
  have f2 := blk_cells HX0.out 2 _ rfl
  go_loopw [5] (fun i wr => ∃ k : Nat, ul + (k : Int) ≤ uh + 1 ∧ i = .int .i64 (ul + (k : Int)) ∧ ((List.range k).all fun j => l.contains (ul + (j : Int))) = true ∧ Below W1.heap.size W1 wr) (fun i _ => (uh + 1 - intOf i).toNat)
  case atStart => exact ⟨0, by omega, by simp, rfl, Below.refl _ _⟩
  case round =>
    obtain ⟨k, hk, rfl, hall, hBr⟩ := hrel
    have HALL := Lib.hid hall
    have HBr := Lib.hid hBr
    have hx := (hBr.block w.heap.size HZ0.out).trans HX0.out
    have g0 := blk_cells hx 0 _ rfl
    have g1 := blk_cells hx 1 _ rfl
    have g2 := blk_cells hx 2 _ rfl
    clear hall hBr hx f0 f1 f2
    by_cases hle : ul + (k : Int) ≤ uh
    · have HSN := Lib.hid (coreTo_snoc ⟨uw, ul, uh⟩ l (k := k))
      cases hc : l.contains (ul + (k : Int)) with
      | true =>
        have HC := Lib.hid hc
        clear hc
        go_wp2_with fail
        refine (has_any l _ hll p c _ ((HL.out.below HB.out).below HBr.out)).mono ?_
        rintro e w' ⟨rfl, hB5⟩
        rw [HC.out]
        have HB5 := Lib.hid (join HBr.out hB5)
        clear hB5
        go_wp2
        go_roundw
        case rel => exact ⟨k + 1, by omega, by rw [show ((k + 1 : Nat) : Int) = (k : Int) + 1 by omega, ← Int.add_assoc], by rw [HSN.out, HALL.out]; exact HC.out, HB5.out⟩
        case measure => simp [intOf]; omega
      | false =>
        have HC := Lib.hid hc
        clear hc
        go_wp2_with fail
        refine (has_any l _ hll p c _ ((HL.out.below HB.out).below HBr.out)).mono ?_
        rintro e w' ⟨rfl, hB5⟩
        rw [HC.out]
        have HB5 := Lib.hid (join HB.out (join HBr.out hB5))
        clear hB5
        go_wp2
        go_ret
        refine ⟨ret_bool ?_, HB5.out⟩
        symm
        have : coreIn ⟨uw, ul, uh⟩ l = false := by
          unfold coreIn
          rw [List.all_eq_false]
          exact ⟨k, List.mem_range.2 (by show k < (uh + 1 - ul).toNat; omega), by rw [HC.out]; decide⟩
        rw [this]; rfl
    · have hkk : k = (uh + 1 - ul).toNat := by omega
      have HCO : Hid (coreIn ⟨uw, ul, uh⟩ l = true) := Lib.hid (by unfold coreIn; rw [← hkk]; exact HALL.out)
      clear hkk
      cases hc : l.contains uw with
      | true =>
        have HC := Lib.hid hc
        clear hc
        go_wp2_with fail
        refine (has_any l _ hll p c _ ((HL.out.below HB.out).below HBr.out)).mono ?_
        rintro e w' ⟨rfl, hB5⟩
        rw [HC.out]
        have HB5 := Lib.hid (join HB.out (join HBr.out hB5))
        clear hB5
        go_wp2
        go_ret
        exact ⟨ret_bool (by show _ = (coreIn ⟨uw, ul, uh⟩ l && !l.contains uw); rw [HCO.out, HC.out]; rfl), HB5.out⟩
      | false =>
        have HC := Lib.hid hc
        clear hc
        go_wp2_with fail
        refine (has_any l _ hll p c _ ((HL.out.below HB.out).below HBr.out)).mono ?_
        rintro e w' ⟨rfl, hB5⟩
        rw [HC.out]
        have HB5 := Lib.hid (join HB.out (join HBr.out hB5))
        clear hB5
        go_wp2
        go_ret
        exact ⟨ret_bool (by show _ = (coreIn ⟨uw, ul, uh⟩ l && !l.contains uw); rw [HCO.out, HC.out]; rfl), HB5.out⟩
end Go.Proofs.Ytadnggecnjdhiaa
set_option linter.unusedSimpArgs false
set_option linter.unusedVariables false
namespace Go.Proofs.Ytadnggecnjdhiaa
open Go.RowKit Tx
attribute [local go_sem] Oper.semAt_some

def rsaid (t : Text) (l : List Int) : List Int := idx (fun u => coreIn u l && !l.contains u.word) 0 t.turns
set_option maxHeartbeats 1600000 in
theorem Said_any (t : Text) (hm : t.turns.length ≤ 1000000) (hu : ∀ u ∈ t.turns, 0 ≤ u.lo ∧ u.lo ≤ u.hi ∧ u.hi ≤ 1000) (l : List Int) (hll : l.length ≤ 1000000) (pt pl : Option Addr) (ct cl : Nat) (v0 v2 : Value) (w : World) (hT : Tns w pt t.turns) (hL : Ints w pl l) :
    Calls Try.prog 92 #[.agg #[v0, .slice pt t.turns.length ct, v2], .slice pl l.length cl] w (RowPost (rsaid t l) w) := by
  obtain ⟨i0, hi0, hz0, hz1, hz2⟩ := info_parts A_infoI
  have HT := Lib.hid hT
  have HL := Lib.hid hL
  have HU := Lib.hid hu
  clear hT hL hu
  have HB2 := Lib.hid (below1 w (.cells #[v0, .slice pt t.turns.length ct, v2] 35))
  have HX1 := Lib.hid (heap_last w (.cells #[v0, .slice pt t.turns.length ct, v2] 35))
  have HSZ : Hid ((w.alloc (.cells #[v0, .slice pt t.turns.length ct, v2] 35)).heap.size = w.heap.size + 1) := Lib.hid (by simp)
  go_enter Try.func92, Try.ntmps92
  go_wp2_with fail
  generalize w.alloc (.cells #[v0, .slice pt t.turns.length ct, v2] 35) = W1 at *
  have hw1 : w.heap.size + 1 ≤ W1.heap.size := by have := HSZ.out; omega
  go_loopw [5, 6] (fun v i wr => ∃ k : Nat, k ≤ t.turns.length ∧ i = .int .i64 k ∧ wr.ownsRow W1.heap.size 3 1 v (idx (fun u => coreIn u l && !l.contains u.word) 0 (t.turns.take k)).length ((idx (fun u => coreIn u l && !l.contains u.word) 0 (t.turns.take k)).map (Value.int .i64)) ∧ Below W1.heap.size W1 wr) (fun _ i _ => t.turns.length - (intOf i).toNat)
  case atStart => exact ⟨0, Nat.zero_le _, rfl, own_none _ _ _ _, Below.refl _ _⟩
  case round =>
    obtain ⟨k, hk, rfl, hown, hBr⟩ := hrel
    have HO := Lib.hid hown
    have HBr := Lib.hid hBr
    have hlen : (idx (fun u => coreIn u l && !l.contains u.word) 0 (t.turns.take k)).length ≤ 1000000 := by rw [idx_length]; exact Nat.le_trans List.countP_le_length (by simp; omega)
    have hz7 := hBr.size
    have hx := (hBr.block w.heap.size (by omega)).trans HX1.out
    have g0 := blk_cells hx 0 _ rfl
    have g1 := blk_cells hx 1 _ rfl
    have g2 := blk_cells hx 2 _ rfl
    clear hx
    by_cases hlt : k < t.turns.length
    · obtain ⟨b, o, x, rfl, hb, hxx, d1, d2, d3⟩ := ((HT.out.below HB2.out).below hBr).at hlt
      have HX := Lib.hid hxx
      have hxu := HU.out x (by rw [hxx, List.getD_eq_getElem?_getD, List.getElem?_eq_getElem hlt]; exact List.getElem_mem hlt)
      have hk' : (k : Int) < t.turns.length := by omega
      have HOT := Lib.hid (otherwise_any x hxu l hll pl cl wr ((HL.out.below HB2.out).below hBr))
      clear hxx hown hBr hxu
      cases hbad : (coreIn x l && !l.contains x.word) with
      | true =>
        have HBAD := Lib.hid hbad
        rw [hbad] at HOT
        clear hbad
        go_wp2_with fail
        refine HOT.out.mono ?_
        rintro e w5 ⟨rfl, hB5⟩
        have HB5 := Lib.hid (join HBr.out hB5)
        have hz5 : wr.heap.size ≤ w5.heap.size := hB5.size
        have HO5 := Lib.hid (own_below HO.out hB5)
        clear hB5
        go_wp2_with (at_builtin; refine wpList_append_own _ rfl _ _ 28 rfl W1.heap.size 3 i0 (.int .i64 0) 1 8 A_undI hi0 hz0 hz1 hz2 rfl (by decide) _ _ _ rfl (HO5.out.alloc _) ⟨w5.heap.size, 0, none⟩ 1 1 [.int .i64 (k : Int)] rfl rfl ?d1 ?d2 ?d3 ?d4 ?d5 ?_)
        case d1 => exact cell_one_new _ _ _
        case d2 => first | rfl | (intro u hu; simp at hu; subst hu; rfl)
        case d3 => unfold maxLen; omega
        case d4 => omega
        case d5 => first | omega | (simp; omega)
        intro v' w8 hown8 hgrow _
        have hB8 := below_grown (al2 HB5.out (by omega) _) (HO5.out.alloc _) (Nat.le_refl _) (by simp; omega) hgrow
        have hsnoc : idx (fun u => coreIn u l && !l.contains u.word) 0 (t.turns.take (k + 1)) = idx (fun u => coreIn u l && !l.contains u.word) 0 (t.turns.take k) ++ [(k : Int)] := by
          rw [take_snocD default hlt, idx_snoc, ← HX.out, if_pos HBAD.out]; simp; omega
        have HSN := Lib.hid hsnoc
        have HO8 := Lib.hid hown8
        have HB8 := Lib.hid hB8
        clear hgrow hown8 hB8 hsnoc
        go_wp2
        go_roundw
        case rel => exact ⟨k + 1, by omega, by simp, by rw [HSN.out]; simpa using HO8.out, HB8.out⟩
        case measure => simp [intOf]; omega
      | false =>
        have hsnoc : idx (fun u => coreIn u l && !l.contains u.word) 0 (t.turns.take (k + 1)) = idx (fun u => coreIn u l && !l.contains u.word) 0 (t.turns.take k) := by
          rw [take_snocD default hlt, idx_snoc, ← HX.out, if_neg (by rw [hbad]; decide), List.append_nil]
        have HSN := Lib.hid hsnoc
        rw [hbad] at HOT
        clear hsnoc hbad
        go_wp2_with fail
        refine HOT.out.mono ?_
        rintro e w5 ⟨rfl, hB5⟩
        have HB5 := Lib.hid (join HBr.out hB5)
        have HO5 := Lib.hid (own_below HO.out hB5)
        clear hB5
        go_wp2
        go_roundw
        case rel => exact ⟨k + 1, by omega, by simp, by rw [HSN.out]; exact HO5.out, HB5.out⟩
        case measure => simp [intOf]; omega
    · obtain rfl : k = t.turns.length := by omega
      have hfull : t.turns.take t.turns.length = t.turns := List.take_length
      have HF := Lib.hid hfull
      clear hfull hown hBr
      go_wp2
      go_ret
      exact ⟨_, rfl, by have := own_base HO.out (base' := w.heap.size) (by omega); rw [HF.out] at this; exact this, join HB2.out HBr.out⟩
end Go.Proofs.Ytadnggecnjdhiaa
set_option linter.unusedSimpArgs false
set_option linter.unusedVariables false
namespace Go.Proofs.Ytadnggecnjdhiaa
open Tx

theorem mem_wordsL {a x : Int} {n : Nat} : x ∈ wordsL a n ↔ a ≤ x ∧ x < a + (n : Int) := by
  unfold wordsL
  rw [List.mem_map]
  constructor
  · rintro ⟨i, hi, rfl⟩
    have := List.mem_range.1 hi
    omega
  · rintro ⟨h1, h2⟩
    exact ⟨(x - a).toNat, List.mem_range.2 (by omega), by omega⟩
theorem contains_wordsL (a x : Int) (n : Nat) : (wordsL a n).contains x = btw x a (a + (n : Int) - 1) := by
  rw [Bool.eq_iff_iff, List.contains_iff_mem, mem_wordsL]
  unfold btw
  simp only [Bool.and_eq_true, decide_eq_true_eq]
  omega
theorem core_wordsL (u : Turn) (a : Int) (n : Nat) (hu : u.lo ≤ u.hi) : coreIn u (wordsL a n) = (decide (a ≤ u.lo) && decide (u.hi ≤ a + (n : Int) - 1)) := by
  rw [Bool.eq_iff_iff]
  unfold coreIn
  rw [List.all_eq_true]
  simp only [Bool.and_eq_true, decide_eq_true_eq, List.contains_iff_mem, mem_wordsL, List.mem_range]
  constructor
  · intro h
    have h1 := h 0 (by omega)
    have h2 := h (u.hi - u.lo).toNat (by omega)
    omega
  · rintro ⟨h1, h2⟩ k hk
    omega
theorem idx_congr {α : Type} {p q : α → Bool} : ∀ (l : List α) (i : Nat), (∀ x ∈ l, p x = q x) → idx p i l = idx q i l
  | [], _, _ => rfl
  | x :: l, i, h => by
    have e := idx_congr l (i + 1) (fun y hy => h y (List.mem_cons_of_mem _ hy))
    have hx := h x (List.mem_cons_self ..)
    simp only [idx, hx, e]
theorem rsaid_words (t : Text) (hu : ∀ u ∈ t.turns, u.lo ≤ u.hi) (a : Int) (n : Nat) : rsaid t (wordsL a n) = t.said a (a + (n : Int) - 1) := by
  unfold rsaid Text.said
  refine idx_congr _ _ (fun u h => ?_)
  rw [core_wordsL u a n (hu u h), contains_wordsL]
  rfl
end Go.Proofs.Ytadnggecnjdhiaa
set_option linter.unusedSimpArgs false
set_option linter.unusedVariables false
namespace Go.Proofs.Ytadnggecnjdhiaa
open Go.RowKit Tx
attribute [local go_sem] Oper.semAt_some

def rstop (t : Text) (p : Nat) : Bool := decide (p = 0) || (decide (p = t.words.length) || (t.words.getD (p - 1) default).stop)
set_option maxHeartbeats 800000 in
theorem stop_any (t : Text) (p : Nat) (hl : t.words.length ≤ 1000000) (hp : p ≤ t.words.length) (pw : Option Addr) (cw : Nat) (v1 v2 : Value) (w : World) (hW : Wds w pw t.words) :
    Calls Try.prog 143 #[.agg #[.slice pw t.words.length cw, v1, v2], .int .i64 p] w fun e w' => e = .returned (.bool (rstop t p)) ∧ Below w.heap.size w w' := by
  by_cases h0 : p = 0
  · have HF : Hid (rstop t p = true) := Lib.hid (by unfold rstop; rw [decide_eq_true h0]; rfl)
    generalize rstop t p = b at HF ⊢
    subst h0
    clear hW
    go_enter Try.func143, Try.ntmps143
    go_wp2
    go_ret
    exact ⟨ret_bool (by rw [HF.out]), below1 _ _⟩
  · have h0' : ((p : Int) == 0) = false := by simpa using h0
    by_cases h1 : p = t.words.length
    · have HF : Hid (rstop t p = true) := Lib.hid (by unfold rstop; rw [decide_eq_true h1]; simp)
      have h1' : ((p : Int) == (t.words.length : Int)) = true := by simp [h1]
      generalize rstop t p = b at HF ⊢
      generalize t.words.length = n at h1' hl hp ⊢
      clear hW h1 h0
      go_enter Try.func143, Try.ntmps143
      go_wp2
      go_ret
      exact ⟨ret_bool (by rw [HF.out]), below1 _ _⟩
    · have hlt : p - 1 < t.words.length := by omega
      have h1' : ((p : Int) == (t.words.length : Int)) = false := by simp; omega
      obtain ⟨bb, o, x, rfl, hbl, hx, d1, d2, d3⟩ := (hW.below (below1 w (.cells #[.slice pw t.words.length cw, v1, v2] 35))).at hlt
      have HF : Hid (rstop t p = x.stop) := Lib.hid (by unfold rstop; rw [decide_eq_false h0, decide_eq_false h1, hx]; rfl)
      obtain ⟨q, hq⟩ : ∃ q, q = p - 1 := ⟨_, rfl⟩
      obtain ⟨pi, hpi⟩ : ∃ pi : Int, pi = (p : Int) := ⟨_, rfl⟩
      have hwr : IntKind.i64.wrap (pi - 1) = (q : Int) := by rw [IntWalk.i64_in _ (by omega)]; omega
      rw [← hq] at hlt d1 d2 d3
      rw [← hpi] at h0' h1' ⊢
      have hlt' : (q : Int) < t.words.length := by omega
      clear hW hx hq hpi h0 h1 hp
      generalize rstop t p = b at HF ⊢
      generalize x.stop = xs at HF d3
      generalize x.syl = xa at d1
      generalize x.wt = xb at d2
      go_enter Try.func143, Try.ntmps143
      go_wp2
      go_ret
      exact ⟨ret_bool (by rw [HF.out]), below1 _ _⟩
end Go.Proofs.Ytadnggecnjdhiaa
set_option linter.unusedSimpArgs false
set_option linter.unusedVariables false
namespace Go.Proofs.Ytadnggecnjdhiaa
open Tx

def kindI (t : Text) (a b : Nat) : Int := (kindOf t a b).getD (-1)
theorem rstop_allow (t : Text) (p : Nat) : rstop t p = t.allow p := by
  rw [Bool.eq_iff_iff]; simp [rstop, Text.allow, Text.len, or_assoc]
theorem kindI_eq (t : Text) (hu : ∀ u ∈ t.turns, u.lo ≤ u.hi) (a b : Nat) (hab : a ≤ b) :
    kindI t a b = if t.breath < t.syl a b then 0 else if rstop t a = false then 1 else if rstop t b = false then 1 else if 0 < (rsaid t (wordsL a (b - a))).length then 2 else -1 := by
  have e1 : t.isK 0 a b = decide (t.breath < t.syl a b) := rfl
  have e2 : t.isK 1 a b = (!rstop t a || !rstop t b) := by rw [rstop_allow, rstop_allow]; rfl
  have e3 : t.isK 2 a b = decide (0 < (rsaid t (wordsL a (b - a))).length) := by
    rw [rsaid_words t hu, show (a : Int) + ((b - a : Nat) : Int) - 1 = (b : Int) - 1 by omega]
    exact (idx_any _ _ _).symm
  unfold kindI kindOf
  rw [e1, e2, e3]
  by_cases h1 : t.breath < t.syl a b
  · simp [h1]
  · by_cases h3 : 0 < (rsaid t (wordsL a (b - a))).length <;> cases rstop t a <;> cases rstop t b <;> simp [h1, h3]
theorem kindI_some {t : Text} {a b : Nat} {k : Int} (h : kindI t a b = k) (hk : 0 ≤ k) : kindOf t a b = some k := by
  unfold kindI at h
  cases e : kindOf t a b with
  | none => rw [e] at h; simp at h; omega
  | some q => rw [e] at h; simp at h; rw [h]
theorem kindI_none {t : Text} {a b : Nat} (h : kindI t a b < 0) : kindOf t a b = none := by
  unfold kindI at h
  unfold kindOf at *
  split at h
  · simp at h
  · split at h
    · simp at h
    · split at h
      · simp at h
      · rename_i h1 h2 h3; rw [if_neg h1, if_neg h2, if_neg h3]
theorem syl_snoc (t : Text) (a k : Nat) (h : a + k < t.words.length) : t.syl a (a + (k + 1)) = t.syl a (a + k) + (t.words.getD (a + k) default).syl := by
  unfold Text.syl slice
  rw [show a + (k + 1) - a = k + 1 by omega, show a + k - a = k by omega]
  rw [take_snocD default (by simp; omega), List.map_append, List.map_cons, List.map_nil, isum_snoc]
  congr 2
  simp [List.getD_eq_getElem?_getD, List.getElem?_drop]
theorem syl_none (t : Text) (a : Nat) : t.syl a (a + 0) = 0 := by unfold Text.syl slice; simp [isum]
theorem syl_bd {t : Text} (ok : Text.Ok t) (a b : Nat) : 0 ≤ t.syl a b ∧ t.syl a b ≤ 200 := by
  have hl : (((slice t.words a b).map (·.syl)).length : Int) ≤ 12 := by
    have := ok.n12; unfold slice; simp; omega
  have h := isum_bd ((slice t.words a b).map (·.syl)) 1 9 (fun x hx => by
    obtain ⟨y, hy, rfl⟩ := List.mem_map.1 hx
    have := ok.word y (List.mem_of_mem_drop (List.mem_of_mem_take hy))
    exact ⟨this.1, this.2.1⟩)
  unfold Text.syl
  omega
theorem otherwise_says (u : Turn) (hu : u.lo ≤ u.hi) (a : Int) (n : Nat) : (coreIn u (wordsL a n) && !(wordsL a n).contains u.word) = u.says a (a + (n : Int) - 1) := by
  rw [core_wordsL u a n hu, contains_wordsL]; rfl
end Go.Proofs.Ytadnggecnjdhiaa
set_option linter.unusedSimpArgs false
set_option linter.unusedVariables false
namespace Go.Proofs.Ytadnggecnjdhiaa
open Go.RowKit Tx

theorem cells_marks : Try.prog.cellsOf 143 = 13 := by kernel_rfl
theorem cells_int : Try.prog.cellsOf 3 = 1 := by kernel_rfl
theorem und_int : Try.prog.underlying 3 = some (.int .i64) := by kernel_rfl
theorem keyLits_one {a : Int} (h : (Lit.int .i64 a).wf = true) : Try.prog.keyLits 1 3 [.int .i64 a] = some [.int .i64 a] := by
  unfold Program.keyLits; rw [und_int]; simp [h]
theorem keyLits_marks {a0 a1 a2 a3 a4 a5 a6 a7 a8 a9 a10 a11 a12 : Int} (h : ∀ x ∈ [a0, a1, a2, a3, a4, a5, a6, a7, a8, a9, a10, a11, a12], (Lit.int .i64 x).wf = true) : Try.prog.keyLits 2 143 [.int .i64 a0, .int .i64 a1, .int .i64 a2, .int .i64 a3, .int .i64 a4, .int .i64 a5, .int .i64 a6, .int .i64 a7, .int .i64 a8, .int .i64 a9, .int .i64 a10, .int .i64 a11, .int .i64 a12] = some [.int .i64 a0, .int .i64 a1, .int .i64 a2, .int .i64 a3, .int .i64 a4, .int .i64 a5, .int .i64 a6, .int .i64 a7, .int .i64 a8, .int .i64 a9, .int .i64 a10, .int .i64 a11, .int .i64 a12] := by
  unfold Program.keyLits
  rw [und_marks]
  simp only [cells_marks, cells_int, List.length_cons, List.length_nil, if_true]
  simp [List.range_succ, keyLits_one (h a0 (by simp)), keyLits_one (h a1 (by simp)), keyLits_one (h a2 (by simp)), keyLits_one (h a3 (by simp)), keyLits_one (h a4 (by simp)), keyLits_one (h a5 (by simp)), keyLits_one (h a6 (by simp)), keyLits_one (h a7 (by simp)), keyLits_one (h a8 (by simp)), keyLits_one (h a9 (by simp)), keyLits_one (h a10 (by simp)), keyLits_one (h a11 (by simp)), keyLits_one (h a12 (by simp))]
theorem eql_arr {M N : Marks} (hM : M.length = 13) (hN : N.length = 13) (h1 : ∀ x ∈ M, (Lit.int .i64 x).wf = true) (h2 : ∀ x ∈ N, (Lit.int .i64 x).wf = true) (w : World) : (Op.equalIn 10000 143 (.agg (arrOf M)) (.agg (arrOf N))).run Try.prog w = .ok (decide (M = N)) w := by
  match M, N, hM, hN with
  | [a0, a1, a2, a3, a4, a5, a6, a7, a8, a9, a10, a11, a12], [b0, b1, b2, b3, b4, b5, b6, b7, b8, b9, b10, b11, b12], _, _ =>
    have hk : Try.prog.keyTypeAt 2 143 = true := by kernel_rfl
    obtain ⟨r, hr, hiff⟩ := run_equalIn_deep 9998 2 143 hk w 2 2 (.agg #[.int .i64 a0, .int .i64 a1, .int .i64 a2, .int .i64 a3, .int .i64 a4, .int .i64 a5, .int .i64 a6, .int .i64 a7, .int .i64 a8, .int .i64 a9, .int .i64 a10, .int .i64 a11, .int .i64 a12]) (.agg #[.int .i64 b0, .int .i64 b1, .int .i64 b2, .int .i64 b3, .int .i64 b4, .int .i64 b5, .int .i64 b6, .int .i64 b7, .int .i64 b8, .int .i64 b9, .int .i64 b10, .int .i64 b11, .int .i64 b12]) [.int .i64 a0, .int .i64 a1, .int .i64 a2, .int .i64 a3, .int .i64 a4, .int .i64 a5, .int .i64 a6, .int .i64 a7, .int .i64 a8, .int .i64 a9, .int .i64 a10, .int .i64 a11, .int .i64 a12] [.int .i64 b0, .int .i64 b1, .int .i64 b2, .int .i64 b3, .int .i64 b4, .int .i64 b5, .int .i64 b6, .int .i64 b7, .int .i64 b8, .int .i64 b9, .int .i64 b10, .int .i64 b11, .int .i64 b12] (by kernel_rfl) (by kernel_rfl) (keyLits_marks h1) (keyLits_marks h2)
    have hrd : r = decide ([a0, a1, a2, a3, a4, a5, a6, a7, a8, a9, a10, a11, a12] = [b0, b1, b2, b3, b4, b5, b6, b7, b8, b9, b10, b11, b12]) := by
      rw [Bool.eq_iff_iff, hiff]; simp
    simp only [arrOf, List.map_cons, List.map_nil]
    rw [← hrd]
    exact hr
def holdB (may : Nat → Nat → Bool) (n : Nat) (M : Marks) : Bool := (M.getD 0 0 == 0) && decide (Tx.lowered may n M = M)
theorem small_wf {M : Marks} (h : Small M) : ∀ x ∈ M, (Lit.int .i64 x).wf = true := fun x hx => by
  obtain ⟨i, hi, rfl⟩ := List.mem_iff_getElem.1 hx
  have hb := h.2 i (by rw [← h.1]; exact hi)
  rw [show M.getD i 0 = M[i] from by simp [hi]] at hb
  simp only [Lit.wf, Bool.and_eq_true, decide_eq_true_eq]
  have h1 : IntKind.i64.min = -9223372036854775808 := by rfl
  have h2 : IntKind.i64.max = 9223372036854775807 := by rfl
  omega
def spHd1 (pw : Option Addr) (n cw : Nat) (v1 v2 mv : Value) (BA : Array Value) (m0 : Int) (LA : Array Value) (g : Bool) (Mb : Nat) : Nat → List Value → Value → World → Prop
  | 0, _, v, _ => v = .pointer (some ⟨Mb, 0, none⟩)
  | 1, _, v, _ => v = .int .i64 m0
  | 2, _, v, _ => v = .bool true
  | 3, _, v, _ => v = .bool true
  | 4, _, v, _ => v = .agg #[.slice pw n cw, v1, v2, mv]
  | 5, _, v, _ => v = .agg BA
  | 6, _, v, _ => v = .agg LA
  | 7, _, v, _ => v = .agg BA
  | 8, _, v, _ => v = .bool g
  | 9, _, v, _ => v = .bool g
  | _, _, _, _ => False
theorem spHd1_stable (pw : Option Addr) (n cw : Nat) (v1 v2 mv : Value) (BA : Array Value) (m0 : Int) (LA : Array Value) (g : Bool) (Mb : Nat) : ∀ i L v w w', spHd1 pw n cw v1 v2 mv BA m0 LA g Mb i L v w → Rs.Gr w w' → spHd1 pw n cw v1 v2 mv BA m0 LA g Mb i L v w' := by
  intro i L v w w' h hg
  match i with
  | 0 => exact h
  | 1 => exact h
  | 2 => exact h
  | 3 => exact h
  | 4 => exact h
  | 5 => exact h
  | 6 => exact h
  | 7 => exact h
  | 8 => exact h
  | 9 => exact h
def spHd0 (pw : Option Addr) (n cw : Nat) (v1 v2 mv : Value) (BA : Array Value) (m0 : Int) (LA : Array Value) (g : Bool) (Mb : Nat) : Nat → List Value → Value → World → Prop
  | 0, _, v, _ => v = .pointer (some ⟨Mb, 0, none⟩)
  | 1, _, v, _ => v = .int .i64 m0
  | 2, _, v, _ => v = .bool false
  | 3, _, v, _ => v = .bool false
  | 4, _, v, _ => v = undef
  | 5, _, v, _ => v = undef
  | 6, _, v, _ => v = undef
  | 7, _, v, _ => v = undef
  | 8, _, v, _ => v = undef
  | 9, _, v, _ => v = .bool false
  | _, _, _, _ => False
theorem spHd0_stable (pw : Option Addr) (n cw : Nat) (v1 v2 mv : Value) (BA : Array Value) (m0 : Int) (LA : Array Value) (g : Bool) (Mb : Nat) : ∀ i L v w w', spHd0 pw n cw v1 v2 mv BA m0 LA g Mb i L v w → Rs.Gr w w' → spHd0 pw n cw v1 v2 mv BA m0 LA g Mb i L v w' := by
  intro i L v w w' h hg
  match i with
  | 0 => exact h
  | 1 => exact h
  | 2 => exact h
  | 3 => exact h
  | 4 => exact h
  | 5 => exact h
  | 6 => exact h
  | 7 => exact h
  | 8 => exact h
  | 9 => exact h

set_option maxHeartbeats 1000000 in
set_option maxRecDepth 100000 in
theorem hold_any (may : Nat → Nat → Bool) (n cw : Nat) (hn : n ≤ 12) (pw : Option Addr) (v1 v2 mv : Value) (M : Marks) (hM : Small M) (w : World) (hMay : MayAt mv may n (fun k => k < w.heap.size) w) :
    Calls Try.prog 107 #[.agg #[.slice pw n cw, v1, v2, mv], .agg (arrOf M)] w fun e w' => e = .returned (.bool (holdB may n M)) ∧ Below w.heap.size w w' := by
  have HMAY := Lib.hid hMay
  have HEQ := Lib.hid (fun W => eql_arr (Small.rows (may := may) (n := n) (by omega) (List.range n) M hM (fun a ha => by have := List.mem_range.1 ha; omega)).1 hM.1 (small_wf (Small.rows (may := may) (n := n) (by omega) (List.range n) M hM (fun a ha => by have := List.mem_range.1 ha; omega))) (small_wf hM) W)
  change Hid (∀ W, (Op.equalIn 10000 143 (.agg (arrOf (Tx.lowered may n M))) (.agg (arrOf M))).run Try.prog W = .ok (decide (Tx.lowered may n M = M)) W) at HEQ
  have HI := Lib.hid (size_marks (by rw [arrOf_size]; exact hM.1 : (arrOf M).size = 13))
  have HM0 := Lib.hid (arrOf_get (M := M) (k := 0) (by rw [hM.1]; omega))
  have HHB := Lib.hid (show holdB may n M = ((M.getD 0 0 == 0) && decide (Tx.lowered may n M = M)) from rfl)
  generalize M.getD 0 0 = m0 at HM0 HHB
  have hxm := heap_last (w.alloc (.cells #[.slice pw n cw, v1, v2, mv] 125)) (.cells (arrOf M) 143)
  rw [World.size_alloc] at hxm
  have hx0 : ((w.alloc (.cells #[.slice pw n cw, v1, v2, mv] 125)).alloc (.cells (arrOf M) 143)).heap[w.heap.size]? = some (.cells #[.slice pw n cw, v1, v2, mv] 125 (0, 0)) := by
    rw [Below.heap_alloc _ _ _ (by simp)]; exact heap_last _ _
  have HX := Lib.hid hx0
  have HBW := Lib.hid (show Below w.heap.size w ((w.alloc (.cells #[.slice pw n cw, v1, v2, mv] 125)).alloc (.cells (arrOf M) 143)) from (below1 _ _).alloc (by simp) _)
  have hsz : ((w.alloc (.cells #[.slice pw n cw, v1, v2, mv] 125)).alloc (.cells (arrOf M) 143)).heap.size = w.heap.size + 2 := by simp
  have HM := Lib.hid hxm
  clear hx0 hxm hMay
  obtain ⟨BA, hBA⟩ : ∃ BA, BA = arrOf M := ⟨_, rfl⟩
  rw [← hBA] at HI HM0 HM HX HBW HEQ hsz ⊢
  have HBA := Lib.hid hBA
  clear hBA
  go_enter Try.func107, Try.ntmps107
  go_wp2_with fail
  generalize (w.alloc (.cells #[.slice pw n cw, v1, v2, mv] 125)).alloc (.cells BA 143) = W1 at HM HX HBW hsz ⊢
  by_cases heq : (m0 == 0) = true
  · have HEQ1 := Lib.hid heq
    have HLO := Lib.hid (fun W (h : Below W1.heap.size W1 W) => lowered_any may n cw hn pw v1 v2 mv M hM W ((HMAY.out.hold (.of_below (HBW.out.trans (h.mono (by omega))) (fun _ h _ => h))).mono (fun j hj _ => by have := h.size; omega)))
    rw [← HBA.out] at HLO
    refine Rs.region_gen 10 [[], [0], [0, 1], [0, 1, 2], [0, 1, 2, 3], [0, 1, 2, 3], [0, 1, 2, 3, 4, 5], [0, 1, 2, 3], [0, 1, 2, 3, 4, 5, 6, 7], [0, 1, 2, 3, 4, 5, 6, 7, 8]] [some 5, some 6, some 7, some 8, some 9, some 10, some 11, some 12, some 13, some 14] (spHd1 pw n cw v1 v2 mv BA m0 (arrOf (Tx.lowered may n M)) (decide (Tx.lowered may n M = M)) (w.heap.size + 1)) (by kernel_rfl) (by kernel_rfl) rfl (spHd1_stable _ _ _ _ _ _ _ _ _ _ _) ?_ ?_
    · refine ⟨fun V w' hG hs => ?_, fun V w' hG hs => ?_, fun V w' hG hs => ?_, fun V w' hG hs => ?_, fun V w' hG hs => ?_, fun V w' hG hs => ?_, fun V w' hG hs => ?_, fun V w' hG hs => ?_, fun V w' hG hs => ?_, fun V w' hG hs => ?_, trivial⟩
      all_goals
        have hm := (hG.block (w.heap.size + 1) (by omega)).trans HM.out
        have hx := (hG.block w.heap.size (by omega)).trans HX.out
        have k0 := blk_cells hx 0 _ rfl
        have k1 := blk_cells hx 1 _ rfl
        have k2 := blk_cells hx 2 _ rfl
        have k3 := blk_cells hx 3 _ rfl
        have hm0 := blk_cells hm 0 _ HM0.out
      · rw [if_pos (by rfl)]
        exact Rs.GrowL.value (v := .pointer (some ⟨(w.heap.size + 1), 0, none⟩)) (w' := w') (by simp [go_sem, Rs.look]) (Rs.Gr.refl _) rfl
      · have e0 : V 0 = .pointer (some ⟨(w.heap.size + 1), 0, none⟩) := hs 0 (by simp)
        rw [if_pos (by rfl)]
        exact Rs.GrowL.value (v := .int .i64 m0) (w' := w') (by simp [go_sem, Rs.look, e0, hm0]) (Rs.Gr.refl _) rfl
      · have e0 : V 0 = .pointer (some ⟨(w.heap.size + 1), 0, none⟩) := hs 0 (by simp)
        have e1 : V 1 = .int .i64 m0 := hs 1 (by simp)
        rw [if_pos (by rfl)]
        exact Rs.GrowL.value (v := .bool true) (w' := w') (by simp [go_sem, Rs.look, e0, e1, heq]) (Rs.Gr.refl _) rfl
      · have e0 : V 0 = .pointer (some ⟨(w.heap.size + 1), 0, none⟩) := hs 0 (by simp)
        have e1 : V 1 = .int .i64 m0 := hs 1 (by simp)
        have e2 : V 2 = .bool true := hs 2 (by simp)
        rw [if_pos (by rfl)]
        exact Rs.GrowL.value (v := .bool true) (w' := w') (by simp [go_sem, Rs.look, e0, e1, e2]) (Rs.Gr.refl _) rfl
      · have e0 : V 0 = .pointer (some ⟨(w.heap.size + 1), 0, none⟩) := hs 0 (by simp)
        have e1 : V 1 = .int .i64 m0 := hs 1 (by simp)
        have e2 : V 2 = .bool true := hs 2 (by simp)
        have e3 : V 3 = .bool true := hs 3 (by simp)
        rw [if_pos (by simp [Rs.wantB, e3])]
        exact Rs.GrowL.value (v := .agg #[.slice pw n cw, v1, v2, mv]) (w' := w') (by simp [go_sem, Rs.look, e0, e1, e2, e3, k0, k1, k2, k3]) (Rs.Gr.refl _) rfl
      · have e0 : V 0 = .pointer (some ⟨(w.heap.size + 1), 0, none⟩) := hs 0 (by simp)
        have e1 : V 1 = .int .i64 m0 := hs 1 (by simp)
        have e2 : V 2 = .bool true := hs 2 (by simp)
        have e3 : V 3 = .bool true := hs 3 (by simp)
        rw [if_pos (by simp [Rs.wantB, e3])]
        exact Rs.GrowL.value (v := .agg BA) (w' := w') (exec_load_row 143 _ rfl (w.heap.size + 1) rfl 143 BA (0, 0) _ hm und_marks rfl HI.out) (Rs.Gr.refl _) rfl
      · have e0 : V 0 = .pointer (some ⟨(w.heap.size + 1), 0, none⟩) := hs 0 (by simp)
        have e1 : V 1 = .int .i64 m0 := hs 1 (by simp)
        have e2 : V 2 = .bool true := hs 2 (by simp)
        have e3 : V 3 = .bool true := hs 3 (by simp)
        have e4 : V 4 = .agg #[.slice pw n cw, v1, v2, mv] := hs 4 (by simp)
        have e5 : V 5 = .agg BA := hs 5 (by simp)
        rw [if_pos (by simp [Rs.wantB, e3])]
        refine Rs.GrowL.call (f := 149) (args := #[.agg #[.slice pw n cw, v1, v2, mv], .agg BA]) (by simp [go_sem, Rs.look, e4, e5]) ?_
        refine (HLO.out w' hG).mono ?_
        rintro e w2 ⟨rfl, hB2⟩
        exact ⟨_, rfl, hB2, rfl⟩
      · have e0 : V 0 = .pointer (some ⟨(w.heap.size + 1), 0, none⟩) := hs 0 (by simp)
        have e1 : V 1 = .int .i64 m0 := hs 1 (by simp)
        have e2 : V 2 = .bool true := hs 2 (by simp)
        have e3 : V 3 = .bool true := hs 3 (by simp)
        rw [if_pos (by simp [Rs.wantB, e3])]
        exact Rs.GrowL.value (v := .agg BA) (w' := w') (exec_load_row 143 _ rfl (w.heap.size + 1) rfl 143 BA (0, 0) _ hm und_marks rfl HI.out) (Rs.Gr.refl _) rfl
      · have e0 : V 0 = .pointer (some ⟨(w.heap.size + 1), 0, none⟩) := hs 0 (by simp)
        have e1 : V 1 = .int .i64 m0 := hs 1 (by simp)
        have e2 : V 2 = .bool true := hs 2 (by simp)
        have e3 : V 3 = .bool true := hs 3 (by simp)
        have e4 : V 4 = .agg #[.slice pw n cw, v1, v2, mv] := hs 4 (by simp)
        have e5 : V 5 = .agg BA := hs 5 (by simp)
        have e6 : V 6 = .agg (arrOf (Tx.lowered may n M)) := hs 6 (by simp)
        have e7 : V 7 = .agg BA := hs 7 (by simp)
        rw [if_pos (by simp [Rs.wantB, e3])]
        exact Rs.GrowL.value (v := .bool (decide (Tx.lowered may n M = M))) (w' := w') (by have hq := HEQ.out w'; simp [go_sem, Rs.look, e6, e7, hq]) (Rs.Gr.refl _) rfl
      · have e0 : V 0 = .pointer (some ⟨(w.heap.size + 1), 0, none⟩) := hs 0 (by simp)
        have e1 : V 1 = .int .i64 m0 := hs 1 (by simp)
        have e2 : V 2 = .bool true := hs 2 (by simp)
        have e3 : V 3 = .bool true := hs 3 (by simp)
        have e4 : V 4 = .agg #[.slice pw n cw, v1, v2, mv] := hs 4 (by simp)
        have e5 : V 5 = .agg BA := hs 5 (by simp)
        have e6 : V 6 = .agg (arrOf (Tx.lowered may n M)) := hs 6 (by simp)
        have e7 : V 7 = .agg BA := hs 7 (by simp)
        have e8 : V 8 = .bool (decide (Tx.lowered may n M = M)) := hs 8 (by simp)
        rw [if_pos (by rfl)]
        exact Rs.GrowL.value (v := .bool (decide (Tx.lowered may n M = M))) (w' := w') (by simp [go_sem, Rs.look, e0, e1, e2, e3, e4, e5, e6, e7, e8]) (Rs.Gr.refl _) rfl
    · intro V w' hG hs
      have e0 : V 0 = .pointer (some ⟨(w.heap.size + 1), 0, none⟩) := hs 0 (by omega)
      have e1 : V 1 = .int .i64 m0 := hs 1 (by omega)
      have e2 : V 2 = .bool true := hs 2 (by omega)
      have e3 : V 3 = .bool true := hs 3 (by omega)
      have e4 : V 4 = .agg #[.slice pw n cw, v1, v2, mv] := hs 4 (by omega)
      have e5 : V 5 = .agg BA := hs 5 (by omega)
      have e6 : V 6 = .agg (arrOf (Tx.lowered may n M)) := hs 6 (by omega)
      have e7 : V 7 = .agg BA := hs 7 (by omega)
      have e8 : V 8 = .bool (decide (Tx.lowered may n M = M)) := hs 8 (by omega)
      have e9 : V 9 = .bool (decide (Tx.lowered may n M = M)) := hs 9 (by omega)
      simp only [Rs.canon, Rs.dstOf, List.range_succ, List.range_zero, List.nil_append, List.cons_append, List.foldl_cons, List.foldl_nil, List.drop_succ_cons, List.drop_zero, List.drop_nil, List.getElem?_toArray, List.getElem?_cons_succ, List.getElem?_cons_zero, Option.bind_some, Act.put, List.getD_cons_succ, List.getD_cons_zero, List.setIfInBounds_toArray, List.set_cons_succ, List.set_cons_zero]
      rw [e0, e1, e2, e3, e4, e5, e6, e7, e8, e9]
      clear e0 e1 e2 e3 e4 e5 e6 e7 e8 e9 hs
      clear heq
      go_wp2
      go_ret
      exact ⟨by rw [HHB.out, HEQ1.out]; rfl, HBW.out.trans (hG.mono (by omega))⟩
  · have heq : (m0 == 0) = false := by simpa using heq
    have HEQ0 := Lib.hid heq
    refine Rs.region_gen 10 [[], [0], [0, 1], [0, 1, 2], [0, 1, 2, 3], [0, 1, 2, 3], [0, 1, 2, 3, 4, 5], [0, 1, 2, 3], [0, 1, 2, 3, 4, 5, 6, 7], [0, 1, 2, 3, 4, 5, 6, 7, 8]] [some 5, some 6, some 7, some 8, some 9, some 10, some 11, some 12, some 13, some 14] (spHd0 pw n cw v1 v2 mv BA m0 (arrOf (Tx.lowered may n M)) (decide (Tx.lowered may n M = M)) (w.heap.size + 1)) (by kernel_rfl) (by kernel_rfl) rfl (spHd0_stable _ _ _ _ _ _ _ _ _ _ _) ?_ ?_
    · refine ⟨fun V w' hG hs => ?_, fun V w' hG hs => ?_, fun V w' hG hs => ?_, fun V w' hG hs => ?_, fun V w' hG hs => ?_, fun V w' hG hs => ?_, fun V w' hG hs => ?_, fun V w' hG hs => ?_, fun V w' hG hs => ?_, fun V w' hG hs => ?_, trivial⟩
      all_goals
        have hm := (hG.block (w.heap.size + 1) (by omega)).trans HM.out
        have hx := (hG.block w.heap.size (by omega)).trans HX.out
        have k0 := blk_cells hx 0 _ rfl
        have k1 := blk_cells hx 1 _ rfl
        have k2 := blk_cells hx 2 _ rfl
        have k3 := blk_cells hx 3 _ rfl
        have hm0 := blk_cells hm 0 _ HM0.out
      · rw [if_pos (by rfl)]
        exact Rs.GrowL.value (v := .pointer (some ⟨(w.heap.size + 1), 0, none⟩)) (w' := w') (by simp [go_sem, Rs.look]) (Rs.Gr.refl _) rfl
      · have e0 : V 0 = .pointer (some ⟨(w.heap.size + 1), 0, none⟩) := hs 0 (by simp)
        rw [if_pos (by rfl)]
        exact Rs.GrowL.value (v := .int .i64 m0) (w' := w') (by simp [go_sem, Rs.look, e0, hm0]) (Rs.Gr.refl _) rfl
      · have e0 : V 0 = .pointer (some ⟨(w.heap.size + 1), 0, none⟩) := hs 0 (by simp)
        have e1 : V 1 = .int .i64 m0 := hs 1 (by simp)
        rw [if_pos (by rfl)]
        exact Rs.GrowL.value (v := .bool false) (w' := w') (by simp [go_sem, Rs.look, e0, e1, heq]) (Rs.Gr.refl _) rfl
      · have e0 : V 0 = .pointer (some ⟨(w.heap.size + 1), 0, none⟩) := hs 0 (by simp)
        have e1 : V 1 = .int .i64 m0 := hs 1 (by simp)
        have e2 : V 2 = .bool false := hs 2 (by simp)
        rw [if_pos (by rfl)]
        exact Rs.GrowL.value (v := .bool false) (w' := w') (by simp [go_sem, Rs.look, e0, e1, e2]) (Rs.Gr.refl _) rfl
      · have e0 : V 0 = .pointer (some ⟨(w.heap.size + 1), 0, none⟩) := hs 0 (by simp)
        have e1 : V 1 = .int .i64 m0 := hs 1 (by simp)
        have e2 : V 2 = .bool false := hs 2 (by simp)
        have e3 : V 3 = .bool false := hs 3 (by simp)
        rw [if_neg (by simp [Rs.wantB, e3])]
        rfl
      · have e0 : V 0 = .pointer (some ⟨(w.heap.size + 1), 0, none⟩) := hs 0 (by simp)
        have e1 : V 1 = .int .i64 m0 := hs 1 (by simp)
        have e2 : V 2 = .bool false := hs 2 (by simp)
        have e3 : V 3 = .bool false := hs 3 (by simp)
        rw [if_neg (by simp [Rs.wantB, e3])]
        rfl
      · have e0 : V 0 = .pointer (some ⟨(w.heap.size + 1), 0, none⟩) := hs 0 (by simp)
        have e1 : V 1 = .int .i64 m0 := hs 1 (by simp)
        have e2 : V 2 = .bool false := hs 2 (by simp)
        have e3 : V 3 = .bool false := hs 3 (by simp)
        have e4 : V 4 = undef := hs 4 (by simp)
        have e5 : V 5 = undef := hs 5 (by simp)
        rw [if_neg (by simp [Rs.wantB, e3])]
        rfl
      · have e0 : V 0 = .pointer (some ⟨(w.heap.size + 1), 0, none⟩) := hs 0 (by simp)
        have e1 : V 1 = .int .i64 m0 := hs 1 (by simp)
        have e2 : V 2 = .bool false := hs 2 (by simp)
        have e3 : V 3 = .bool false := hs 3 (by simp)
        rw [if_neg (by simp [Rs.wantB, e3])]
        rfl
      · have e0 : V 0 = .pointer (some ⟨(w.heap.size + 1), 0, none⟩) := hs 0 (by simp)
        have e1 : V 1 = .int .i64 m0 := hs 1 (by simp)
        have e2 : V 2 = .bool false := hs 2 (by simp)
        have e3 : V 3 = .bool false := hs 3 (by simp)
        have e4 : V 4 = undef := hs 4 (by simp)
        have e5 : V 5 = undef := hs 5 (by simp)
        have e6 : V 6 = undef := hs 6 (by simp)
        have e7 : V 7 = undef := hs 7 (by simp)
        rw [if_neg (by simp [Rs.wantB, e3])]
        rfl
      · have e0 : V 0 = .pointer (some ⟨(w.heap.size + 1), 0, none⟩) := hs 0 (by simp)
        have e1 : V 1 = .int .i64 m0 := hs 1 (by simp)
        have e2 : V 2 = .bool false := hs 2 (by simp)
        have e3 : V 3 = .bool false := hs 3 (by simp)
        have e4 : V 4 = undef := hs 4 (by simp)
        have e5 : V 5 = undef := hs 5 (by simp)
        have e6 : V 6 = undef := hs 6 (by simp)
        have e7 : V 7 = undef := hs 7 (by simp)
        have e8 : V 8 = undef := hs 8 (by simp)
        rw [if_pos (by rfl)]
        exact Rs.GrowL.value (v := .bool false) (w' := w') (by simp [go_sem, Rs.look, e0, e1, e2, e3, e4, e5, e6, e7, e8]) (Rs.Gr.refl _) rfl
    · intro V w' hG hs
      have e0 : V 0 = .pointer (some ⟨(w.heap.size + 1), 0, none⟩) := hs 0 (by omega)
      have e1 : V 1 = .int .i64 m0 := hs 1 (by omega)
      have e2 : V 2 = .bool false := hs 2 (by omega)
      have e3 : V 3 = .bool false := hs 3 (by omega)
      have e4 : V 4 = undef := hs 4 (by omega)
      have e5 : V 5 = undef := hs 5 (by omega)
      have e6 : V 6 = undef := hs 6 (by omega)
      have e7 : V 7 = undef := hs 7 (by omega)
      have e8 : V 8 = undef := hs 8 (by omega)
      have e9 : V 9 = .bool false := hs 9 (by omega)
      simp only [Rs.canon, Rs.dstOf, List.range_succ, List.range_zero, List.nil_append, List.cons_append, List.foldl_cons, List.foldl_nil, List.drop_succ_cons, List.drop_zero, List.drop_nil, List.getElem?_toArray, List.getElem?_cons_succ, List.getElem?_cons_zero, Option.bind_some, Act.put, List.getD_cons_succ, List.getD_cons_zero, List.setIfInBounds_toArray, List.set_cons_succ, List.set_cons_zero]
      rw [e0, e1, e2, e3, e4, e5, e6, e7, e8, e9]
      clear e0 e1 e2 e3 e4 e5 e6 e7 e8 e9 hs
      clear heq
      go_wp2
      go_ret
      exact ⟨by rw [HHB.out, HEQ0.out]; rfl, HBW.out.trans (hG.mono (by omega))⟩
end Go.Proofs.Ytadnggecnjdhiaa
set_option linter.unusedSimpArgs false
set_option linter.unusedVariables false
namespace Go.Proofs.Ytadnggecnjdhiaa
open Go.RowKit Tx

def padM (l : List Int) : Marks := l ++ List.replicate (13 - l.length) 0
def shows (t : Text) (l : List Int) : Int × Int :=
  if t.err ≠ 0 then (0, t.err) else if l.length ≠ t.words.length + 1 then (0, 2) else if l.any (fun k => !btw k 0 99) then (0, 3) else if holdB t.right t.words.length (padM l) = false then (0, 8) else (l.getD t.words.length 0, 0)
theorem padM_small {l : List Int} (hl : l.length ≤ 13) (h : ¬ l.any (fun k => !btw k 0 99) = true) : Small (padM l) := by
  refine ⟨by simp [padM]; omega, fun k hk => ?_⟩
  unfold padM
  by_cases hkl : k < l.length
  · have := any_false h (l.getD k 0) (getD_mem 0 hkl)
    simp only [Bool.not_eq_false'] at this
    have := btw_true this
    rw [show List.getD (l ++ List.replicate (13 - l.length) (0 : Int)) k 0 = List.getD l k 0 from by simp [List.getElem?_append, hkl]]
    omega
  · rw [show (l ++ List.replicate (13 - l.length) (0 : Int)).getD k 0 = 0 from by
      simp [List.getElem?_append, hkl, List.getElem?_replicate]
      split <;> rfl]
    omega
theorem entered_shows1' : Entered 106 := entered_shows1
theorem siz_int : (Try.prog.info? 3).map (·.size) = some 1 := by kernel_rfl

def z13 : List Value := List.replicate 13 (Value.int .i64 0)
set_option maxRecDepth 100000 in
theorem copy_marks (l : List Int) (hl : l.length ≤ 13) (g lb lo cl : Nat) (w : World) (hg : w.heap[g]? = some (.cells z13.toArray 143 (0, 0))) (hc : ∀ i, i < l.length → w.cell? ⟨lb, lo + i, none⟩ = some (.int .i64 (l.getD i 0))) :
    (Builtin.copy_ #[28, 28] 3 #[.slice (some ⟨g, 0, none⟩) 13 13, .slice (some ⟨lb, lo, none⟩) l.length cl]).run Try.prog w = .ok (goInt l.length) (w.setRow g (arrOf (padM l))) := by
  have h := run_copy_row (P := Try.prog) w 28 28 3 3 g 0 13 13 ⟨lb, lo, none⟩ l.length cl z13.toArray 143 (l.map (Value.int .i64)) A_undI siz_int hg (by rw [List.length_map]; exact (Nat.min_eq_left hl).symm)
    (fun j v hv => by
      have hj : j < l.length := by have := (List.getElem?_eq_some_iff.1 hv).1; simpa using this
      have hadd : (⟨lb, lo, none⟩ : Addr).add j = ⟨lb, lo + j, none⟩ := by unfold Addr.add; split <;> simp_all
      rw [hadd, hc j hj]
      simp [hj] at hv ⊢; exact hv)
    (by unfold z13; simp; omega) (fun v hv => by obtain ⟨x, _, rfl⟩ := List.mem_map.1 hv; rfl)
  rw [h, List.length_map]
  congr 2
  unfold arrOf padM z13
  congr 1
  simp only [List.take_zero, List.nil_append, Nat.zero_add, List.length_map, List.map_append, List.map_replicate, List.drop_replicate]
set_option maxHeartbeats 2000000 in
set_option maxRecDepth 100000 in
theorem Shows_in (t : Text) (l : List Int) (he : t.err = 0) (hlen : l.length = t.words.length + 1) (hany : ¬ l.any (fun k => !btw k 0 99) = true) (pw pt pl : Option Addr) (cw ct cl : Nat) (hcw : t.words.length ≤ cw ∧ cw ≤ maxLen) (w : World) (hW : TxAt w t pw pt) (hL : Ints w pl l) :
    Calls Try.prog 36 #[.agg #[.slice pw t.words.length cw, .slice pt t.turns.length ct, .int .i64 t.breath], .slice pl l.length cl] w fun e w' =>
      e = .returned (.tuple #[.int .i64 (shows t l).1, .int .i64 (shows t l).2]) ∧ Below w.heap.size w w' := by
  have ok := err_ok he
  have hn12 := ok.n12
  have hLL := hL
  rcases hLL with h0 | ⟨lb, lo, rfl, hlb, hlc⟩
  · rw [h0] at hlen; simp at hlen
  have HLC := Lib.hid hlc
  have hsh : shows t l = if holdB t.right t.words.length (padM l) = false then (0, 8) else (l.getD t.words.length 0, 0) := by
    unfold shows; rw [if_neg (by simp [he]), if_neg (by omega), if_neg hany]
  have hsm := padM_small (by omega) hany
  have HSH := Lib.hid hsh
  have HS := Lib.hid (fun W (h : Below w.heap.size w W) => open_ok t he pw pt cw ct W (hW.below h))
  have h3 : errIf (fun k => !btw k 0 99) l 3 = 0 := by rw [errIf, if_neg hany]
  have H3 := Lib.hid h3
  have HI := Lib.hid (fun W (h : Below w.heap.size w W) => errIfI_any 106 entered_shows1 (fun k => !btw k 0 99) l (some ⟨lb, lo, none⟩) cl 3 W (by omega) (hL.below h) (fun W' _ u => (shows1_any u W').mono fun e w' ⟨h1, h2⟩ => ⟨h1, h2 ▸ Below.refl _ _⟩))
  have HM := Lib.hid (fun W (h : Below w.heap.size w W) => right_may t pw pt cw ct .nilFunc W ⟨ok, hW.below h, hcw⟩)
  have HL := Lib.hid (fun W (h : Below w.heap.size w W) => hL.below h)
  have HSM := Lib.hid hsm
  have HLEN := Lib.hid hlen
  have hlq : ((l.length : Int) != (t.words.length : Int) + 1) = false := by rw [hlen]; simp
  have hl13 : l.length ≤ 13 := by omega
  clear hsh hsm h3 hany hW hL he hlen
  go_enter Try.func36, Try.ntmps36
  go_wp2_with fail
  refine (HS.out _ (below1 _ _)).mono ?_
  rintro e w5 ⟨rfl, hB5⟩
  have HB5 := Lib.hid (join (below1 _ _) hB5)
  clear hB5
  go_wp2_with fail
  refine (end_any _ _ _ _ _ _ _).mono ?_
  rintro e w6 ⟨rfl, hw6⟩
  have hB6 : Below w.heap.size w w6 := by rw [← hw6]; exact join (join HB5.out (below1 _ _)) (below1 _ _)
  have hz6 : w5.heap.size < w6.heap.size := by rw [← hw6]; simp; omega
  have hx6 : w6.heap[w5.heap.size]? = some (.cells #[.slice pw t.words.length cw, .slice pt t.turns.length ct, .int .i64 t.breath, .func (.func 138) #[.agg #[.slice pw t.words.length cw, .slice pt t.turns.length ct, .int .i64 t.breath, .nilFunc]] #[]] 125 (0, 0)) := by
    rw [← hw6, Below.heap_alloc _ _ _ (by simp)]; exact heap_last _ _
  have HX6 := Lib.hid hx6
  have HB6 := Lib.hid hB6
  clear hw6 hx6 hB6
  go_wp2_with fail
  refine (HI.out _ HB6.out).mono ?_
  rintro e w7 ⟨rfl, hB7⟩
  rw [H3.out]
  have hz7 := hB7.size
  have HX7 := Lib.hid ((hB7.block _ hz6).trans HX6.out)
  have HB7 := Lib.hid (join HB6.out hB7)
  clear hB7
  have hcp0 : ∀ W, W = w7.alloc (.cells #[Value.int IntKind.i64 0, Value.int IntKind.i64 0, Value.int IntKind.i64 0, Value.int IntKind.i64 0, Value.int IntKind.i64 0, Value.int IntKind.i64 0, Value.int IntKind.i64 0, Value.int IntKind.i64 0, Value.int IntKind.i64 0, Value.int IntKind.i64 0, Value.int IntKind.i64 0, Value.int IntKind.i64 0, Value.int IntKind.i64 0] 143) → (Builtin.copy_ #[28, 28] 3 #[.slice (some ⟨w7.heap.size, 0, none⟩) 13 13, .slice (some ⟨lb, lo, none⟩) l.length cl]).run Try.prog W = .ok (goInt l.length) (W.setRow w7.heap.size (arrOf (padM l))) := fun W hW =>
    copy_marks l hl13 w7.heap.size lb lo cl W (by rw [hW]; exact heap_last _ _) (fun i hi => by rw [hW, (join HB7.out (below1 _ _)).cell (p := ⟨lb, lo + i, none⟩) hlb]; exact HLC.out i hi)
  have hcp := hcp0 _ rfl
  clear hcp0
  have hmk := setRow_heap (w7.alloc (.cells #[Value.int IntKind.i64 0, Value.int IntKind.i64 0, Value.int IntKind.i64 0, Value.int IntKind.i64 0, Value.int IntKind.i64 0, Value.int IntKind.i64 0, Value.int IntKind.i64 0, Value.int IntKind.i64 0, Value.int IntKind.i64 0, Value.int IntKind.i64 0, Value.int IntKind.i64 0, Value.int IntKind.i64 0, Value.int IntKind.i64 0] 143)) w7.heap.size #[Value.int IntKind.i64 0, Value.int IntKind.i64 0, Value.int IntKind.i64 0, Value.int IntKind.i64 0, Value.int IntKind.i64 0, Value.int IntKind.i64 0, Value.int IntKind.i64 0, Value.int IntKind.i64 0, Value.int IntKind.i64 0, Value.int IntKind.i64 0, Value.int IntKind.i64 0, Value.int IntKind.i64 0, Value.int IntKind.i64 0] (arrOf (padM l)) 143 (0, 0) (heap_last _ _)
  have hB8 : Below w7.heap.size w7 ((w7.alloc (.cells #[Value.int IntKind.i64 0, Value.int IntKind.i64 0, Value.int IntKind.i64 0, Value.int IntKind.i64 0, Value.int IntKind.i64 0, Value.int IntKind.i64 0, Value.int IntKind.i64 0, Value.int IntKind.i64 0, Value.int IntKind.i64 0, Value.int IntKind.i64 0, Value.int IntKind.i64 0, Value.int IntKind.i64 0, Value.int IntKind.i64 0] 143)).setRow w7.heap.size (arrOf (padM l))) := below_setRow (below1 _ _) (Nat.le_refl _) _
  have hz8 : ((w7.alloc (.cells #[Value.int IntKind.i64 0, Value.int IntKind.i64 0, Value.int IntKind.i64 0, Value.int IntKind.i64 0, Value.int IntKind.i64 0, Value.int IntKind.i64 0, Value.int IntKind.i64 0, Value.int IntKind.i64 0, Value.int IntKind.i64 0, Value.int IntKind.i64 0, Value.int IntKind.i64 0, Value.int IntKind.i64 0, Value.int IntKind.i64 0] 143)).setRow w7.heap.size (arrOf (padM l))).heap.size = w7.heap.size + 1 := by simp
  have HMK := Lib.hid hmk
  have HB8 := Lib.hid hB8
  have HZ8 := Lib.hid hz8
  clear hmk hB8 hz8 hlc
  obtain ⟨BA, hBA⟩ : ∃ BA, BA = arrOf (padM l) := ⟨_, rfl⟩
  rw [← hBA] at hcp HMK HB8 HZ8
  have HBA := Lib.hid hBA
  clear hBA
  have hsm := HSM.out
  have HI8 := Lib.hid (size_marks (by rw [HBA.out, arrOf_size]; exact hsm.1 : BA.size = 13))
  have hx8 := (HB8.out.block w5.heap.size (by omega)).trans HX7.out
  have k0 := blk_cells hx8 0 _ rfl
  have k1 := blk_cells hx8 1 _ rfl
  have k2 := blk_cells hx8 2 _ rfl
  have k3 := blk_cells hx8 3 _ rfl
  have HX8 := Lib.hid hx8
  have HHD := Lib.hid (fun W (h : Below w.heap.size w W) => hold_any t.right t.words.length cw hn12 pw (.slice pt t.turns.length ct) (.int .i64 t.breath) _ (padM l) hsm W (HM.out W h))
  rw [← HBA.out] at HHD
  have HBW8 := Lib.hid (join HB7.out HB8.out)
  clear hx8 hsm
  go_wp2_with (with_reducible refine wpList_load_row rfl 143 _ rfl w7.heap.size rfl 143 BA (0, 0) _ HMK.out und_marks rfl HI8.out ?_)
  refine (HHD.out _ HBW8.out).mono ?_
  rintro e w9 ⟨rfl, hB9⟩
  have HMK9 := Lib.hid ((hB9.block w7.heap.size (by have := HZ8.out; omega)).trans HMK.out)
  have HX9 := Lib.hid ((hB9.block w5.heap.size (by have := HZ8.out; omega)).trans HX8.out)
  have hz9 : w7.heap.size + 1 ≤ w9.heap.size := by have := hB9.size; have := HZ8.out; omega
  have HB9 := Lib.hid (join HBW8.out hB9)
  clear hB9 k0 k1 k2 k3 hcp
  cases hh : holdB t.right t.words.length (padM l) with
  | false =>
    have HH := Lib.hid hh
    clear hh
    go_wp2
    go_ret2
    exact ⟨by rw [HSH.out, if_pos HH.out]; rfl, HB9.out⟩
  | true =>
    have HH := Lib.hid hh
    have k0 := blk_cells HX9.out 0 _ rfl
    have k1 := blk_cells HX9.out 1 _ rfl
    have k2 := blk_cells HX9.out 2 _ rfl
    have k3 := blk_cells HX9.out 3 _ rfl
    have hs5 : w5.heap.size < w9.heap.size := by omega
    clear hh
    go_wp2_with fail
    refine (end_any _ _ _ _ _ _ _).mono ?_
    rintro e w10 ⟨rfl, rfl⟩
    have hpl : t.words.length < (padM l).length := by rw [HSM.out.1]; omega
    have hcell := blk_cells HMK9.out t.words.length _ (by rw [HBA.out]; exact arrOf_get hpl)
    have hval : (padM l).getD t.words.length 0 = l.getD t.words.length 0 := by
      have hlt : t.words.length < l.length := by have := HLEN.out; omega
      unfold padM; simp [List.getElem?_append, hlt]
    rw [hval] at hcell
    obtain ⟨x, hx⟩ : ∃ x, x = l.getD t.words.length 0 := ⟨_, rfl⟩
    rw [← hx] at hcell
    have HXV := Lib.hid hx
    have hn13 : (t.words.length : Int) < 13 := by omega
    have hs7 : w7.heap.size < w9.heap.size := by omega
    clear hval hx k0 k1 k2 k3
    go_wp2
    go_ret2
    exact ⟨by rw [HSH.out, if_neg (by rw [HH.out]; decide), HXV.out]; rfl, join HB9.out (below1 _ _)⟩
end Go.Proofs.Ytadnggecnjdhiaa
set_option linter.unusedSimpArgs false
set_option linter.unusedVariables false
namespace Go.Proofs.Ytadnggecnjdhiaa
open Go.RowKit Tx
attribute [local go_sem] Oper.semAt_some

theorem copy_none (g c : Nat) (p : Option Addr) (W : World) : (Builtin.copy_ #[28, 28] 3 #[.slice (some ⟨g, 0, none⟩) 0 0, .slice p 0 c]).run Try.prog W = .ok (goInt 0) W := by
  cases p <;> simp [go_sem, Builtin.copy_, A_undI, siz_int]
set_option maxRecDepth 100000 in
theorem copy_ints (l : List Int) (g lb lo cl : Nat) (w : World) (hg : w.heap[g]? = some (.cells (arrOf (List.replicate l.length 0)) 3 (0, 0))) (hc : ∀ i, i < l.length → w.cell? ⟨lb, lo + i, none⟩ = some (.int .i64 (l.getD i 0))) :
    (Builtin.copy_ #[28, 28] 3 #[.slice (some ⟨g, 0, none⟩) l.length l.length, .slice (some ⟨lb, lo, none⟩) l.length cl]).run Try.prog w = .ok (goInt l.length) (w.setRow g (arrOf l)) := by
  have h := run_copy_row (P := Try.prog) w 28 28 3 3 g 0 l.length l.length ⟨lb, lo, none⟩ l.length cl (arrOf (List.replicate l.length 0)) 3 (l.map (Value.int .i64)) A_undI siz_int hg (by rw [List.length_map]; exact (Nat.min_eq_left (Nat.le_refl _)).symm)
    (fun j v hv => by
      have hj : j < l.length := by have := (List.getElem?_eq_some_iff.1 hv).1; simpa using this
      have hadd : (⟨lb, lo, none⟩ : Addr).add j = ⟨lb, lo + j, none⟩ := by unfold Addr.add; split <;> simp_all
      rw [hadd, hc j hj]
      simp [hj] at hv ⊢; exact hv)
    (by simp [arrOf_size]) (fun v hv => by obtain ⟨x, _, rfl⟩ := List.mem_map.1 hv; rfl)
  rw [h, List.length_map]
  congr 2
  unfold arrOf
  congr 1
  simp
set_option maxHeartbeats 1000000 in
set_option maxRecDepth 100000 in
theorem Copy_ints (l : List Int) (hll : l.length ≤ 1000000) (p : Option Addr) (c : Nat) (w : World) (hL : Ints w p l) :
    Calls Try.prog 21 #[.slice p l.length c] w (RowPost l w) := by
  rcases hL with rfl | ⟨lb, lo, rfl, hlb, hlc⟩
  · have hmk : (Instr.makeSlice 28 (.int .i64 0) (.int .i64 0)).run Try.prog w = .ok (.slice (some ⟨w.heap.size, 0, none⟩) 0 0) (w.alloc (.cells (arrOf []) 3)) := make_ints 0 (by omega) w
    have hcp := copy_none w.heap.size c p (w.alloc (.cells (arrOf []) 3))
    have hown : (w.alloc (.cells (arrOf []) 3)).ownsRow w.heap.size 3 1 (.slice (some ⟨w.heap.size, 0, none⟩) 0 0) 0 [] := ⟨rfl, .inr ⟨_, 0, arrOf [], rfl, Nat.le_refl _, heap_last _ _, Nat.le_refl _, by decide, rfl, rfl⟩⟩
    have HO := Lib.hid hown
    clear hown
    generalize hW1 : w.alloc (.cells (arrOf []) 3) = W1 at hmk hcp HO
    have HB := Lib.hid (show Below w.heap.size w W1 from hW1 ▸ below1 _ _)
    clear hW1
    go_enter Try.func21, Try.ntmps21
    go_wp2
    go_ret
    exact ⟨_, rfl, HO.out, HB.out⟩
  · have hmk := make_ints l.length hll w
    have hcp := copy_ints l w.heap.size lb lo c (w.alloc (.cells (arrOf (List.replicate l.length 0)) 3)) (heap_last _ _) (fun i hi => by rw [(below1 w _).cell (p := ⟨lb, lo + i, none⟩) hlb]; exact hlc i hi)
    have hrow := setRow_heap (w.alloc (.cells (arrOf (List.replicate l.length 0)) 3)) w.heap.size (arrOf (List.replicate l.length 0)) (arrOf l) 3 (0, 0) (heap_last _ _)
    have hB2 : Below w.heap.size w ((w.alloc (.cells (arrOf (List.replicate l.length 0)) 3)).setRow w.heap.size (arrOf l)) := below_setRow (below1 _ _) (Nat.le_refl _) _
    have hown : ((w.alloc (.cells (arrOf (List.replicate l.length 0)) 3)).setRow w.heap.size (arrOf l)).ownsRow w.heap.size 3 1 (.slice (some ⟨w.heap.size, 0, none⟩) l.length l.length) l.length (l.map (Value.int .i64)) := ⟨by simp, .inr ⟨_, l.length, arrOf l, rfl, Nat.le_refl _, hrow, Nat.le_refl _, by unfold maxLen; omega, by simp [arrOf_size], by simp [arrOf, List.take_of_length_le]⟩⟩
    have HO := Lib.hid hown
    have HB := Lib.hid hB2
    clear hown hB2 hrow
    generalize (w.alloc (.cells (arrOf (List.replicate l.length 0)) 3)).setRow w.heap.size (arrOf l) = W2 at hcp HO HB
    generalize w.alloc (.cells (arrOf (List.replicate l.length 0)) 3) = W1 at hmk hcp
    clear hlc
    go_enter Try.func21, Try.ntmps21
    go_wp2
    go_ret
    exact ⟨_, rfl, HO.out, HB.out⟩
end Go.Proofs.Ytadnggecnjdhiaa
set_option linter.unusedSimpArgs false
set_option linter.unusedVariables false
namespace Go.Proofs.Ytadnggecnjdhiaa
open Go.RowKit Tx
attribute [local go_sem] Oper.semAt_some

theorem siz_Word : (Try.prog.info? 77).map (·.size) = some 3 := by kernel_rfl
theorem siz_Turn : (Try.prog.info? 80).map (·.size) = some 3 := by kernel_rfl
theorem A_undWs : Try.prog.underlying 22 = some (.slice 77) := by kernel_rfl
theorem A_undTs : Try.prog.underlying 23 = some (.slice 80) := by kernel_rfl
theorem A_infoWd : (Try.prog.info? 77).map (fun i => (i.zero, i.size, i.bytes)) = some (some (.agg #[.int .i64 0, .int .i64 0, .bool false]), 3, 24) := by kernel_rfl
theorem A_infoTn : (Try.prog.info? 80).map (fun i => (i.zero, i.size, i.bytes)) = some (some (.agg #[.int .i64 0, .int .i64 0, .int .i64 0]), 3, 24) := by kernel_rfl

def wcell (x : Word) : List Value := [.int .i64 x.syl, .int .i64 x.wt, .bool x.stop]
def tcell (u : Turn) : List Value := [.int .i64 u.word, .int .i64 u.lo, .int .i64 u.hi]
def wcells (ws : List Word) : List Value := ws.flatMap wcell
def tcells (ts : List Turn) : List Value := ts.flatMap tcell
theorem flat3_len {α : Type} (f : α → List Value) (hf : ∀ x, (f x).length = 3) (l : List α) : (l.flatMap f).length = l.length * 3 := by
  induction l with
  | nil => rfl
  | cons x l ih => rw [List.flatMap_cons, List.length_append, ih, hf, List.length_cons]; omega
theorem flat3_get {α : Type} (d : α) (f : α → List Value) (hf : ∀ x, (f x).length = 3) : ∀ (l : List α) (i j : Nat), i < l.length → j < 3 → (l.flatMap f)[i * 3 + j]? = (f (l.getD i d))[j]?
  | [], i, j, hi, _ => by simp at hi
  | x :: l, 0, j, _, hj => by
    rw [List.flatMap_cons, List.getElem?_append_left (by rw [hf]; omega)]; simp
  | x :: l, i + 1, j, hi, hj => by
    rw [List.flatMap_cons, List.getElem?_append_right (by rw [hf]; omega), hf, show (i + 1) * 3 + j - 3 = i * 3 + j by omega]
    rw [flat3_get d f hf l i j (by simpa using hi) hj]; simp
theorem wcells_len (ws : List Word) : (wcells ws).length = ws.length * 3 := flat3_len wcell (fun _ => rfl) ws
theorem tcells_len (ts : List Turn) : (tcells ts).length = ts.length * 3 := flat3_len tcell (fun _ => rfl) ts
theorem wcells_snoc (ws : List Word) (x : Word) : wcells (ws ++ [x]) = wcells ws ++ wcell x := by unfold wcells; simp [List.flatMap_append]
theorem tcells_snoc (ts : List Turn) (x : Turn) : tcells (ts ++ [x]) = tcells ts ++ tcell x := by unfold tcells; simp [List.flatMap_append]
theorem wcells_one {ws : List Word} : ∀ v ∈ wcells ws, v.oneCell' = true := by
  intro v hv; obtain ⟨x, _, h⟩ := List.mem_flatMap.1 hv; simp [wcell] at h; rcases h with rfl | rfl | rfl <;> rfl
theorem tcells_one {ts : List Turn} : ∀ v ∈ tcells ts, v.oneCell' = true := by
  intro v hv; obtain ⟨x, _, h⟩ := List.mem_flatMap.1 hv; simp [tcell] at h; rcases h with rfl | rfl | rfl <;> rfl
theorem wds_src {w : World} {b o : Nat} {ws : List Word} (h : ∀ i, i < ws.length → w.cell? ⟨b, o + i * 3, none⟩ = some (.int .i64 (ws.getD i default).syl) ∧ w.cell? ⟨b, o + i * 3 + 1, none⟩ = some (.int .i64 (ws.getD i default).wt) ∧ w.cell? ⟨b, o + i * 3 + 2, none⟩ = some (.bool (ws.getD i default).stop)) :
    ∀ j v, (wcells ws)[j]? = some v → w.cell? ((⟨b, o, none⟩ : Addr).add j) = some v := by
  intro j v hv
  have hadd : (⟨b, o, none⟩ : Addr).add j = ⟨b, o + j, none⟩ := by unfold Addr.add; split <;> simp_all
  have hj := (List.getElem?_eq_some_iff.1 hv).1
  rw [wcells_len] at hj
  have hi : j / 3 < ws.length := by omega
  obtain ⟨i, m, e, hi', hm⟩ : ∃ i m, j = i * 3 + m ∧ i < ws.length ∧ (m = 0 ∨ m = 1 ∨ m = 2) := ⟨j / 3, j % 3, by omega, hi, by omega⟩
  subst e
  unfold wcells at hv
  rw [flat3_get default wcell (fun _ => rfl) ws i m hi' (by omega)] at hv
  obtain ⟨h1, h2, h3⟩ := h i hi'
  rw [hadd, ← Nat.add_assoc]
  generalize ws.getD i default = x at hv h1 h2 h3
  rcases hm with rfl | rfl | rfl <;> simp [wcell] at hv <;> subst hv
  · exact h1
  · exact h2
  · exact h3
theorem tns_src {w : World} {b o : Nat} {ws : List Turn} (h : ∀ i, i < ws.length → w.cell? ⟨b, o + i * 3, none⟩ = some (.int .i64 (ws.getD i default).word) ∧ w.cell? ⟨b, o + i * 3 + 1, none⟩ = some (.int .i64 (ws.getD i default).lo) ∧ w.cell? ⟨b, o + i * 3 + 2, none⟩ = some (.int .i64 (ws.getD i default).hi)) :
    ∀ j v, (tcells ws)[j]? = some v → w.cell? ((⟨b, o, none⟩ : Addr).add j) = some v := by
  intro j v hv
  have hadd : (⟨b, o, none⟩ : Addr).add j = ⟨b, o + j, none⟩ := by unfold Addr.add; split <;> simp_all
  have hj := (List.getElem?_eq_some_iff.1 hv).1
  rw [tcells_len] at hj
  have hi : j / 3 < ws.length := by omega
  obtain ⟨i, m, e, hi', hm⟩ : ∃ i m, j = i * 3 + m ∧ i < ws.length ∧ (m = 0 ∨ m = 1 ∨ m = 2) := ⟨j / 3, j % 3, by omega, hi, by omega⟩
  subst e
  unfold tcells at hv
  rw [flat3_get default tcell (fun _ => rfl) ws i m hi' (by omega)] at hv
  obtain ⟨h1, h2, h3⟩ := h i hi'
  rw [hadd, ← Nat.add_assoc]
  generalize ws.getD i default = x at hv h1 h2 h3
  rcases hm with rfl | rfl | rfl <;> simp [tcell] at hv <;> subst hv
  · exact h1
  · exact h2
  · exact h3
/-- a row of structs that is owned, as one that is read -/
theorem own_wds {w : World} {base : Nat} {e : TypeId} {v : Value} {ws : List Word} {n : Nat} (h : w.ownsRow base e 3 v n (wcells ws)) (hn : n = ws.length) : ∃ p c, v = .slice p ws.length c ∧ Wds w p ws ∧ ws.length ≤ c ∧ c ≤ maxLen := by
  subst hn
  have hc := h
  rcases h.2 with ⟨rfl, hn⟩ | ⟨g, cap, cur, rfl, hb, hg, h1, h2, h3, h4⟩
  · exact ⟨none, 0, by rw [hn], .inl (List.length_eq_zero_iff.1 hn), by omega, by unfold maxLen; omega⟩
  · refine ⟨_, cap, rfl, .inr ⟨g, 0, rfl, (Array.getElem?_eq_some_iff.1 hg).1, fun i hi => ?_⟩, h1, h2⟩
    have hadd : ∀ k, (⟨g, 0, none⟩ : Addr).add k = ⟨g, k, none⟩ := fun k => by unfold Addr.add; split <;> simp_all
    have get := fun (j : Nat) (hj : j < 3) (u : Value) (hu : (wcell (ws.getD i default))[j]? = some u) => hc.cells (g := g) rfl (i * 3 + j) u (by unfold wcells; rw [flat3_get default wcell (fun _ => rfl) ws i j hi hj]; exact hu)
    have g0 := get 0 (by omega) _ rfl
    have g1 := get 1 (by omega) _ rfl
    have g2 := get 2 (by omega) _ rfl
    rw [hadd] at g0 g1 g2
    rw [Nat.zero_add]
    exact ⟨g0, g1, g2⟩
theorem own_tns {w : World} {base : Nat} {e : TypeId} {v : Value} {ws : List Turn} {n : Nat} (h : w.ownsRow base e 3 v n (tcells ws)) (hn : n = ws.length) : ∃ p c, v = .slice p ws.length c ∧ Tns w p ws ∧ ws.length ≤ c ∧ c ≤ maxLen := by
  subst hn
  have hc := h
  rcases h.2 with ⟨rfl, hn⟩ | ⟨g, cap, cur, rfl, hb, hg, h1, h2, h3, h4⟩
  · exact ⟨none, 0, by rw [hn], .inl (List.length_eq_zero_iff.1 hn), by omega, by unfold maxLen; omega⟩
  · refine ⟨_, cap, rfl, .inr ⟨g, 0, rfl, (Array.getElem?_eq_some_iff.1 hg).1, fun i hi => ?_⟩, h1, h2⟩
    have hadd : ∀ k, (⟨g, 0, none⟩ : Addr).add k = ⟨g, k, none⟩ := fun k => by unfold Addr.add; split <;> simp_all
    have get := fun (j : Nat) (hj : j < 3) (u : Value) (hu : (tcell (ws.getD i default))[j]? = some u) => hc.cells (g := g) rfl (i * 3 + j) u (by unfold tcells; rw [flat3_get default tcell (fun _ => rfl) ws i j hi hj]; exact hu)
    have g0 := get 0 (by omega) _ rfl
    have g1 := get 1 (by omega) _ rfl
    have g2 := get 2 (by omega) _ rfl
    rw [hadd] at g0 g1 g2
    rw [Nat.zero_add]
    exact ⟨g0, g1, g2⟩

theorem run_copy_cells3 {P : Program} (w : World) (dT sT ty elem : TypeId) (b o dLen dCap n : Nat) (a : Addr) (sLen sCap : Nat) (cs : List Value)
    (hu : P.underlying dT = some (.slice elem)) (hs : (P.info? elem).map (·.size) = some 3) (hn : n = Nat.min sLen dLen) (hcs : cs.length = n * 3)
    (hsrc : ∀ j v, cs[j]? = some v → w.cell? (a.add j) = some v) (hc : ∀ j, j < cs.length → (w.cell? ⟨b, o + j, none⟩).isSome = true) (hf : ∀ j, j < cs.length → w.frozen? ⟨b, o + j, none⟩ = false) (h1 : ∀ v ∈ cs, v.oneCell' = true) :
    (Builtin.copy_ #[dT, sT] ty #[.slice (some ⟨b, o, none⟩) dLen dCap, .slice (some a) sLen sCap]).run P w = .ok (goInt n) (w.setCells b o cs) := by
  have hl := run_loadCells_list (P := P) w a cs hsrc
  have hst := run_storeCells_cells (P := P) b o cs 0 w (by simpa using hc) (by simpa using hf) h1
  rw [hcs] at hl
  cases hq : P.info? elem with
  | none => simp [hq] at hs
  | some i =>
    have hi : i.size = 3 := by simpa [hq] using hs
    simp [Builtin.copy_, run_underlying hu, Builtin.lenOf, Builtin.firstCells, sizeOf, typeInfo, hq, hi, ← hn, hl, hst]
theorem run_copy_none3 {P : Program} (w : World) (dT sT ty elem : TypeId) (d a : Option Addr) (dLen dCap sLen sCap : Nat) (hu : P.underlying dT = some (.slice elem)) (hs : (P.info? elem).map (·.size) = some 3) (hn : Nat.min sLen dLen = 0) :
    (Builtin.copy_ #[dT, sT] ty #[.slice d dLen dCap, .slice a sLen sCap]).run P w = .ok (goInt 0) w := by
  cases hq : P.info? elem with
  | none => simp [hq] at hs
  | some i =>
    have hl : ∀ (x : Addr), (loadCells x 0).run P w = .ok #[] w := fun x => by simpa using run_loadCells_list (P := P) w x [] (by simp)
    cases d <;> cases a <;> simp [Builtin.copy_, run_underlying hu, Builtin.lenOf, Builtin.firstCells, sizeOf, typeInfo, hq, hn, storeCells, hl]

/-- what a copy of words leaves -/
def WdsPost (ws : List Word) (w : World) (e : Ending) (w' : World) : Prop := ∃ g, e = .returned (.slice (some ⟨g, 0, none⟩) ws.length ws.length) ∧ w'.ownsRow w.heap.size 77 3 (.slice (some ⟨g, 0, none⟩) ws.length ws.length) ws.length (wcells ws) ∧ Below w.heap.size w w'
def TnsPost (ts : List Turn) (w : World) (e : Ending) (w' : World) : Prop := ∃ g, e = .returned (.slice (some ⟨g, 0, none⟩) ts.length ts.length) ∧ w'.ownsRow w.heap.size 80 3 (.slice (some ⟨g, 0, none⟩) ts.length ts.length) ts.length (tcells ts) ∧ Below w.heap.size w w'
set_option maxHeartbeats 1000000 in
set_option maxRecDepth 100000 in
theorem Copy_words (ws : List Word) (hll : ws.length ≤ 1000000) (p : Option Addr) (c : Nat) (w : World) (hW : Wds w p ws) :
    Calls Try.prog 78 #[.slice p ws.length c] w (WdsPost ws w) := by
  obtain ⟨i0, hi0, hz0, hz1, hz2⟩ := info_parts A_infoWd
  have hmk := run_make (P := Try.prog) w 22 77 i0 (.agg #[.int .i64 0, .int .i64 0, .bool false]) A_undWs hi0 hz0 .i64 .i64 ws.length ws.length (by omega) (by omega) (by rw [hz2]; omega) (by omega)
  rw [hz1, Int.toNat_natCast] at hmk
  obtain ⟨mc, hmc⟩ : ∃ mc, mc = madeCells (Value.agg #[.int .i64 0, .int .i64 0, .bool false]).cells (ws.length * 3) := ⟨_, rfl⟩
  have hms : mc.size = ws.length * 3 := by rw [hmc, size_madeCells]
  rw [← hmc] at hmk
  clear hmc
  have hx := heap_last w (.cells mc 77)
  have hB1 := below1 w (.cells mc 77)
  generalize w.alloc (.cells mc 77) = W1 at hmk hx hB1
  have hcp : ∃ W2, (Builtin.copy_ #[22, 22] 3 #[.slice (some ⟨w.heap.size, 0, none⟩) ws.length ws.length, .slice p ws.length c]).run Try.prog W1 = .ok (goInt ws.length) W2 ∧ W2.ownsRow w.heap.size 77 3 (.slice (some ⟨w.heap.size, 0, none⟩) ws.length ws.length) ws.length (wcells ws) ∧ Below w.heap.size w W2 := by
    rcases hW with rfl | ⟨b, o, rfl, hb, hcs⟩
    · refine ⟨_, run_copy_none3 _ _ _ _ 77 _ _ _ _ _ _ A_undWs siz_Word (by simp), ?_, hB1⟩
      exact ⟨rfl, .inr ⟨_, 0, mc, rfl, Nat.le_refl _, hx, Nat.le_refl _, by unfold maxLen; omega, by rw [hms]; rfl, by simp [wcells]⟩⟩
    · refine ⟨_, run_copy_cells3 _ _ _ _ 77 _ _ _ _ ws.length _ _ _ (wcells ws) A_undWs siz_Word (Nat.min_self _).symm (wcells_len ws) ?_ ?_ ?_ wcells_one, ?_, ?_⟩
      · intro j v hv
        have := wds_src hcs j v hv
        have hadd : (⟨b, o, none⟩ : Addr).add j = ⟨b, o + j, none⟩ := by unfold Addr.add; split <;> simp_all
        rw [hadd] at this ⊢
        rw [hB1.cell (p := ⟨b, o + j, none⟩) hb]; exact this
      · intro j hj; rw [wcells_len] at hj
        have : (mc[0 + j]?).isSome = true := by rw [Array.getElem?_eq_getElem (by omega)]; rfl
        simpa [World.cell?, hx] using this
      · intro j hj; simp [World.frozen?, hx]
      · have := heap_setCells w.heap.size (wcells ws) 0 _ _ _ _ hx
        rw [setFrom_all _ _ (by rw [hms, wcells_len])] at this
        exact ⟨by rw [wcells_len], .inr ⟨_, ws.length, _, rfl, Nat.le_refl _, this, Nat.le_refl _, by unfold maxLen; omega, by simp [wcells_len], by simp [wcells_len, List.take_of_length_le]⟩⟩
      · exact below_setCells' (Nat.le_refl _) _ _ _ hB1
  obtain ⟨W2, hcp, hown, hB2⟩ := hcp
  have HO := Lib.hid hown
  have HB := Lib.hid hB2
  clear hown hB2 hx hB1 hW
  go_enter Try.func78, Try.ntmps78
  go_wp2
  go_ret
  exact ⟨_, rfl, HO.out, HB.out⟩
set_option maxHeartbeats 1000000 in
set_option maxRecDepth 100000 in
theorem Copy_turns (ws : List Turn) (hll : ws.length ≤ 1000000) (p : Option Addr) (c : Nat) (w : World) (hW : Tns w p ws) :
    Calls Try.prog 79 #[.slice p ws.length c] w (TnsPost ws w) := by
  obtain ⟨i0, hi0, hz0, hz1, hz2⟩ := info_parts A_infoTn
  have hmk := run_make (P := Try.prog) w 23 80 i0 (.agg #[.int .i64 0, .int .i64 0, .int .i64 0]) A_undTs hi0 hz0 .i64 .i64 ws.length ws.length (by omega) (by omega) (by rw [hz2]; omega) (by omega)
  rw [hz1, Int.toNat_natCast] at hmk
  obtain ⟨mc, hmc⟩ : ∃ mc, mc = madeCells (Value.agg #[.int .i64 0, .int .i64 0, .int .i64 0]).cells (ws.length * 3) := ⟨_, rfl⟩
  have hms : mc.size = ws.length * 3 := by rw [hmc, size_madeCells]
  rw [← hmc] at hmk
  clear hmc
  have hx := heap_last w (.cells mc 80)
  have hB1 := below1 w (.cells mc 80)
  generalize w.alloc (.cells mc 80) = W1 at hmk hx hB1
  have hcp : ∃ W2, (Builtin.copy_ #[23, 23] 3 #[.slice (some ⟨w.heap.size, 0, none⟩) ws.length ws.length, .slice p ws.length c]).run Try.prog W1 = .ok (goInt ws.length) W2 ∧ W2.ownsRow w.heap.size 80 3 (.slice (some ⟨w.heap.size, 0, none⟩) ws.length ws.length) ws.length (tcells ws) ∧ Below w.heap.size w W2 := by
    rcases hW with rfl | ⟨b, o, rfl, hb, hcs⟩
    · refine ⟨_, run_copy_none3 _ _ _ _ 80 _ _ _ _ _ _ A_undTs siz_Turn (by simp), ?_, hB1⟩
      exact ⟨rfl, .inr ⟨_, 0, mc, rfl, Nat.le_refl _, hx, Nat.le_refl _, by unfold maxLen; omega, by rw [hms]; rfl, by simp [tcells]⟩⟩
    · refine ⟨_, run_copy_cells3 _ _ _ _ 80 _ _ _ _ ws.length _ _ _ (tcells ws) A_undTs siz_Turn (Nat.min_self _).symm (tcells_len ws) ?_ ?_ ?_ tcells_one, ?_, ?_⟩
      · intro j v hv
        have := tns_src hcs j v hv
        have hadd : (⟨b, o, none⟩ : Addr).add j = ⟨b, o + j, none⟩ := by unfold Addr.add; split <;> simp_all
        rw [hadd] at this ⊢
        rw [hB1.cell (p := ⟨b, o + j, none⟩) hb]; exact this
      · intro j hj; rw [tcells_len] at hj
        have : (mc[0 + j]?).isSome = true := by rw [Array.getElem?_eq_getElem (by omega)]; rfl
        simpa [World.cell?, hx] using this
      · intro j hj; simp [World.frozen?, hx]
      · have := heap_setCells w.heap.size (tcells ws) 0 _ _ _ _ hx
        rw [setFrom_all _ _ (by rw [hms, tcells_len])] at this
        exact ⟨by rw [tcells_len], .inr ⟨_, ws.length, _, rfl, Nat.le_refl _, this, Nat.le_refl _, by unfold maxLen; omega, by simp [tcells_len], by simp [tcells_len, List.take_of_length_le]⟩⟩
      · exact below_setCells' (Nat.le_refl _) _ _ _ hB1
  obtain ⟨W2, hcp, hown, hB2⟩ := hcp
  have HO := Lib.hid hown
  have HB := Lib.hid hB2
  clear hown hB2 hx hB1 hW
  go_enter Try.func79, Try.ntmps79
  go_wp2
  go_ret
  exact ⟨_, rfl, HO.out, HB.out⟩
end Go.Proofs.Ytadnggecnjdhiaa
