/- Contracts of the code and of the reference, part 6. -/
import Derived.Test.YtadnggecnjdhiaaGreatZe
import Derived.Deep.RegionLaw
set_option linter.unusedSimpArgs false
set_option linter.unusedVariables false
namespace Go.Proofs.YtadnggecnjdhiaaGreat
open Go.RowKit Tx
attribute [local go_sem] Oper.semAt_some

set_option maxHeartbeats 1600000 in
theorem openReading_bad1 (t : Text) (l : List Int) (he : t.err ≠ 0) (hl1 : t.words.length ≤ 1000000) (hl2 : t.turns.length ≤ 1000000) (pw pt pl : Option Addr) (cw ct cl : Nat) (w : World) (hW : TxAt w t pw pt) :
    Calls Tryz.prog 84 #[.agg #[.slice pw t.words.length cw, .slice pt t.turns.length ct, .int .i64 t.breath], .slice pl l.length cl] w fun e w' =>
      e = .returned (.tuple #[.agg #[.slice none 0 0, .slice none 0 0, .int .i64 0, .nilFunc], .int .i64 t.err]) ∧ Below w.heap.size w w' := by
  have HS := Lib.hid (fun W (h : Below w.heap.size w W) => open_bad t he hl1 hl2 pw pt cw ct W (hW.below h))
  have HE : (t.err != 0) = true := by simpa using he
  clear hW he
  generalize t.err = er at HE HS ⊢
  go_enter Tryz.func84, Tryz.ntmps84
  go_wp2_with fail
  refine (HS.out _ ((below1 _ _).alloc (by simp) _)).mono ?_
  rintro e w5 ⟨rfl, hB5⟩
  have hz5 : w.heap.size + 1 < w5.heap.size := by have := hB5.size; simp at this; omega
  have hy5 : w.heap.size < w5.heap.size := by omega
  have hblk : w5.heap[w.heap.size + 1]? = some (.cells #[.slice none 0 0, .slice none 0 0, .int .i64 0, .nilFunc] 84 (0, 0)) := by
    rw [hB5.block _ (by simp)]
    have := heap_last (w.alloc (.cells #[.slice pw t.words.length cw, .slice pt t.turns.length ct, .int .i64 t.breath] 25)) (.cells #[.slice none 0 0, .slice none 0 0, .int .i64 0, .nilFunc] 84)
    rwa [World.size_alloc] at this
  have htx : w5.heap[w.heap.size]? = some (.cells #[.slice pw t.words.length cw, .slice pt t.turns.length ct, .int .i64 t.breath] 25 (0, 0)) := by
    rw [hB5.block _ (by simp; omega), Below.heap_alloc _ _ _ (by simp)]; exact heap_last _ _
  have HTX := Lib.hid htx
  have HB5 := Lib.hid (join ((below1 _ _).alloc (by simp) _) hB5)
  have HBLK := Lib.hid hblk
  clear hB5 htx
  have r0 := blk_cells hblk 0 _ rfl
  have r1 := blk_cells hblk 1 _ rfl
  have r2 := blk_cells hblk 2 _ rfl
  have r3 := blk_cells hblk 3 _ rfl
  have z : ∀ i, w5.frozen? ⟨w.heap.size + 1, i, none⟩ = false := fun i => by simp [World.frozen?, hblk]
  clear hblk
  go_wp2
  refine bodyPost_ret (v := .tuple #[.agg #[.slice none 0 0, .slice none 0 0, .int .i64 0, .nilFunc], .int .i64 er]) (by simp [results, Tryz.results84, go_sem, hz5, hy5, r0, r1, r2, r3]) rfl ⟨rfl, ?_⟩
  have hz9 := HB5.out.size
  repeat' (first | exact HB5.out | apply belS | apply belA | apply belD)
  all_goals first | omega | (simp; done) | (simp; omega)

set_option maxHeartbeats 1600000 in
theorem openReading_bad2 (t : Text) (l : List Int) (h0 : t.err = 0) (h1 : l.any (fun k => !btw k 1 12) = true) (hll : l.length ≤ 1000000) (pw pt pl : Option Addr) (cw ct cl : Nat) (w : World) (hW : TxAt w t pw pt) (hL : Ints w pl l) :
    Calls Tryz.prog 84 #[.agg #[.slice pw t.words.length cw, .slice pt t.turns.length ct, .int .i64 t.breath], .slice pl l.length cl] w fun e w' =>
      e = .returned (.tuple #[.agg #[.slice none 0 0, .slice none 0 0, .int .i64 0, .nilFunc], .int .i64 3]) ∧ Below w.heap.size w w' := by
  have h3 : errIf (fun k => !btw k 1 12) l 3 = 3 := by rw [errIf, if_pos h1]
  have HS := Lib.hid (fun W (h : Below w.heap.size w W) => open_ok t h0 pw pt cw ct W (hW.below h))
  have HI := Lib.hid (fun W (h : Below w.heap.size w W) => errIfI_any 124 entered_openReading1 (fun k => !btw k 1 12) l pl cl 3 W hll (hL.below h) (fun W' _ u => (openReading1_any u W').mono fun e w' ⟨h1, h2⟩ => ⟨h1, h2 ▸ Below.refl _ _⟩))
  have H3 := Lib.hid h3
  clear hW hL h1 h3 h0
  go_enter Tryz.func84, Tryz.ntmps84
  go_wp2_with fail
  refine (HS.out _ ((below1 _ _).alloc (by simp) _)).mono ?_
  rintro e w5 ⟨rfl, hB5⟩
  have hz5 : w.heap.size + 1 < w5.heap.size := by have := hB5.size; simp at this; omega
  have hy5 : w.heap.size < w5.heap.size := by omega
  have hblk : w5.heap[w.heap.size + 1]? = some (.cells #[.slice none 0 0, .slice none 0 0, .int .i64 0, .nilFunc] 84 (0, 0)) := by
    rw [hB5.block _ (by simp)]
    have := heap_last (w.alloc (.cells #[.slice pw t.words.length cw, .slice pt t.turns.length ct, .int .i64 t.breath] 25)) (.cells #[.slice none 0 0, .slice none 0 0, .int .i64 0, .nilFunc] 84)
    rwa [World.size_alloc] at this
  have htx : w5.heap[w.heap.size]? = some (.cells #[.slice pw t.words.length cw, .slice pt t.turns.length ct, .int .i64 t.breath] 25 (0, 0)) := by
    rw [hB5.block _ (by simp; omega), Below.heap_alloc _ _ _ (by simp)]; exact heap_last _ _
  have HTX := Lib.hid htx
  have HB5 := Lib.hid (join ((below1 _ _).alloc (by simp) _) hB5)
  have HBLK := Lib.hid hblk
  clear hB5 htx
  go_wp2_with fail
  refine (HI.out _ (join HB5.out (below1 _ _))).mono ?_
  rintro e w6 ⟨rfl, hB6⟩
  rw [H3.out]
  have hz6 : w5.heap.size < w6.heap.size := by have := hB6.size; simp at this; omega
  have HB6 := Lib.hid (join (join HB5.out (below1 _ _)) hB6)
  have hblk6 := (hB6.block (w.heap.size + 1) (by simp; omega)).trans ((Below.heap_alloc _ _ _ hz5).trans HBLK.out)
  have r0 := blk_cells hblk6 0 _ rfl
  have r1 := blk_cells hblk6 1 _ rfl
  have r2 := blk_cells hblk6 2 _ rfl
  have r3 := blk_cells hblk6 3 _ rfl
  have z : ∀ i, w6.frozen? ⟨w.heap.size + 1, i, none⟩ = false := fun i => by simp [World.frozen?, hblk6]
  clear hB6 hblk6 hblk
  have hq6 : w.heap.size < w6.heap.size ∧ w.heap.size + 1 < w6.heap.size := by omega
  obtain ⟨hq6, hq7⟩ := hq6
  go_wp2
  refine bodyPost_ret (v := .tuple #[.agg #[.slice none 0 0, .slice none 0 0, .int .i64 0, .nilFunc], .int .i64 3]) (by simp [results, Tryz.results84, go_sem, hq6, hq7, r0, r1, r2, r3]) rfl ⟨rfl, ?_⟩
  have hz9 := HB6.out.size
  repeat' (first | exact HB6.out | apply belS | apply belA | apply belD)
  all_goals first | omega | (simp; done) | (simp; omega)

set_option maxHeartbeats 1600000 in
theorem openReading_bad3 (t : Text) (l : List Int) (h0 : t.err = 0) (h1 : ¬ l.any (fun k => !btw k 1 12) = true) (h2 : isum l ≠ t.words.length) (hll : l.length ≤ 1000000) (pw pt pl : Option Addr) (cw ct cl : Nat) (w : World) (hW : TxAt w t pw pt) (hL : Ints w pl l) :
    Calls Tryz.prog 84 #[.agg #[.slice pw t.words.length cw, .slice pt t.turns.length ct, .int .i64 t.breath], .slice pl l.length cl] w fun e w' =>
      e = .returned (.tuple #[.agg #[.slice none 0 0, .slice none 0 0, .int .i64 0, .nilFunc], .int .i64 2]) ∧ Below w.heap.size w w' := by
  have hx : ∀ x ∈ l, -1000000 ≤ x ∧ x ≤ 1000000 := fun x hx => by
    have := any_false h1 x hx
    simp only [Bool.not_eq_false'] at this
    have := btw_true this; omega
  have h3 : errIf (fun k => !btw k 1 12) l 3 = 0 := by rw [errIf, if_neg h1]
  have HS := Lib.hid (fun W (h : Below w.heap.size w W) => open_ok t h0 pw pt cw ct W (hW.below h))
  have HI := Lib.hid (fun W (h : Below w.heap.size w W) => errIfI_any 124 entered_openReading1 (fun k => !btw k 1 12) l pl cl 3 W hll (hL.below h) (fun W' _ u => (openReading1_any u W').mono fun e w' ⟨h1, h2⟩ => ⟨h1, h2 ▸ Below.refl _ _⟩))
  have HM := Lib.hid (fun W (h : Below w.heap.size w W) => sum_any l pl cl W hll hx (hL.below h))
  have H3 := Lib.hid h3
  have h2' : (isum l != (t.words.length : Int)) = true := by simpa using h2
  clear hW hL h1 h2 h3 h0 hx
  go_enter Tryz.func84, Tryz.ntmps84
  go_wp2_with fail
  refine (HS.out _ ((below1 _ _).alloc (by simp) _)).mono ?_
  rintro e w5 ⟨rfl, hB5⟩
  have hz5 : w.heap.size + 1 < w5.heap.size := by have := hB5.size; simp at this; omega
  have hy5 : w.heap.size < w5.heap.size := by omega
  have hblk : w5.heap[w.heap.size + 1]? = some (.cells #[.slice none 0 0, .slice none 0 0, .int .i64 0, .nilFunc] 84 (0, 0)) := by
    rw [hB5.block _ (by simp)]
    have := heap_last (w.alloc (.cells #[.slice pw t.words.length cw, .slice pt t.turns.length ct, .int .i64 t.breath] 25)) (.cells #[.slice none 0 0, .slice none 0 0, .int .i64 0, .nilFunc] 84)
    rwa [World.size_alloc] at this
  have htx : w5.heap[w.heap.size]? = some (.cells #[.slice pw t.words.length cw, .slice pt t.turns.length ct, .int .i64 t.breath] 25 (0, 0)) := by
    rw [hB5.block _ (by simp; omega), Below.heap_alloc _ _ _ (by simp)]; exact heap_last _ _
  have HTX := Lib.hid htx
  have HB5 := Lib.hid (join ((below1 _ _).alloc (by simp) _) hB5)
  have HBLK := Lib.hid hblk
  clear hB5 htx
  go_wp2_with fail
  refine (HI.out _ (join HB5.out (below1 _ _))).mono ?_
  rintro e w6 ⟨rfl, hB6⟩
  rw [H3.out]
  have hz6 : w5.heap.size < w6.heap.size := by have := hB6.size; simp at this; omega
  have HB6 := Lib.hid (join (join HB5.out (below1 _ _)) hB6)
  have hblk6 := (hB6.block (w.heap.size + 1) (by simp; omega)).trans ((Below.heap_alloc _ _ _ hz5).trans HBLK.out)
  have htx6 := (hB6.block w.heap.size (by simp; omega)).trans ((Below.heap_alloc _ _ _ hy5).trans HTX.out)
  have t0 := blk_cells htx6 0 _ rfl
  have r0 := blk_cells hblk6 0 _ rfl
  have r1 := blk_cells hblk6 1 _ rfl
  have r2 := blk_cells hblk6 2 _ rfl
  have r3 := blk_cells hblk6 3 _ rfl
  have z : ∀ i, w6.frozen? ⟨w.heap.size + 1, i, none⟩ = false := fun i => by simp [World.frozen?, hblk6]
  clear hB6 hblk6 hblk htx6
  have hq6 : w.heap.size < w6.heap.size ∧ w.heap.size + 1 < w6.heap.size := by omega
  obtain ⟨hq6, hq7⟩ := hq6
  go_wp2_with fail
  go_region_with (go_at_call 125; refine (HM.out _ (by first | exact HB6.out.drew | exact HB6.out)).mono ?_; rintro e w7 ⟨rfl, rfl⟩)
  all_goals go_wp2
  all_goals refine bodyPost_ret (v := .tuple #[.agg #[.slice none 0 0, .slice none 0 0, .int .i64 0, .nilFunc], .int .i64 2]) (by simp [results, Tryz.results84, go_sem, hq6, hq7, r0, r1, r2, r3]) rfl ⟨rfl, ?_⟩
  all_goals have hz9 := HB6.out.size
  all_goals repeat' (first | exact HB6.out | apply belS | apply belA | apply belD)
  all_goals first | omega | (simp; done) | (simp; omega)
theorem openReading_bad (t : Text) (l : List Int) (he : readErr t l ≠ 0) (hl1 : t.words.length ≤ 1000000) (hl2 : t.turns.length ≤ 1000000) (hll : l.length ≤ 1000000) (pw pt pl : Option Addr) (cw ct cl : Nat) (w : World) (hW : TxAt w t pw pt) (hL : Ints w pl l) :
    Calls Tryz.prog 84 #[.agg #[.slice pw t.words.length cw, .slice pt t.turns.length ct, .int .i64 t.breath], .slice pl l.length cl] w fun e w' =>
      e = .returned (.tuple #[.agg #[.slice none 0 0, .slice none 0 0, .int .i64 0, .nilFunc], .int .i64 (readErr t l)]) ∧ Below w.heap.size w w' := by
  by_cases h0 : t.err = 0
  · by_cases h1 : l.any (fun k => !btw k 1 12) = true
    · have e : readErr t l = 3 := by unfold readErr; rw [if_neg (by simp [h0]), if_pos h1]
      rw [e]; exact openReading_bad2 t l h0 h1 hll pw pt pl cw ct cl w hW hL
    · by_cases h2 : isum l = t.words.length
      · exact absurd (by unfold readErr; rw [if_neg (by simp [h0]), if_neg h1, if_neg (by simp [h2])]) he
      · have e : readErr t l = 2 := by unfold readErr; rw [if_neg (by simp [h0]), if_neg h1, if_pos h2]
        rw [e]; exact openReading_bad3 t l h0 h1 h2 hll pw pt pl cw ct cl w hW hL
  · have e : readErr t l = t.err := by unfold readErr; rw [if_pos h0]
    rw [e]; exact openReading_bad1 t l h0 hl1 hl2 pw pt pl cw ct cl w hW
end Go.Proofs.YtadnggecnjdhiaaGreat
set_option linter.unusedSimpArgs false
set_option linter.unusedVariables false
namespace Go.Proofs.YtadnggecnjdhiaaGreat
open Go.RowKit Tx
attribute [local go_sem] Oper.semAt_some

/-- what Wrong tells -/
def wrongR (t : Text) (l : List Int) : Int × Int × Int := if readErr t l = 0 then wrongGo t 0 0 l else (0, 0, readErr t l)
set_option maxHeartbeats 800000 in
theorem Wrong_any (t : Text) (l : List Int) (hl1 : t.words.length ≤ 1000000) (hl2 : t.turns.length ≤ 1000000) (hll : l.length ≤ 1000000) (pw pt pl : Option Addr) (cw ct cl : Nat) (hcw : t.words.length ≤ cw ∧ cw ≤ maxLen) (w : World) (hW : TxAt w t pw pt) (hL : Ints w pl l) :
    Calls Tryz.prog 36 #[.agg #[.slice pw t.words.length cw, .slice pt t.turns.length ct, .int .i64 t.breath], .slice pl l.length cl] w fun e w' =>
      e = .returned (.tuple #[.int .i64 (wrongR t l).1, .int .i64 (wrongR t l).2.1, .int .i64 (wrongR t l).2.2]) ∧ Below w.heap.size w w' := by
  by_cases he : readErr t l = 0
  · have e : wrongR t l = wrongGo t 0 0 l := if_pos he
    rw [e]
    exact Wrong_ok t l he hll pw pt pl cw ct cl hcw w hW hL
  · have e : wrongR t l = (0, 0, readErr t l) := if_neg he
    rw [e]
    have HS := Lib.hid (fun W (h : Below w.heap.size w W) => openReading_bad t l he hl1 hl2 hll pw pt pl cw ct cl W (hW.below h) (hL.below h))
    have HE : (readErr t l != 0) = true := by simpa using he
    clear hW hL he e
    generalize readErr t l = er at HE HS ⊢
    go_enter Tryz.func36, Tryz.ntmps36
    go_wp2_with fail
    refine (HS.out _ (below1 _ _)).mono ?_
    rintro e w5 ⟨rfl, hB5⟩
    have HB5 := Lib.hid (join (below1 _ _) hB5)
    clear hB5
    go_wp2
    go_ret3
    exact ⟨rfl, join HB5.out (below1 _ _)⟩

/-- what Astray tells -/
def astrayR (t : Text) (l : List Int) : Int × Int × Int × Int :=
  if readErr t l = 0 then (if (wrongGo t 0 0 l).2.2 = 6 then astrayGo (placesL l) 0 t.turns else (0, 0, 0, 8)) else (0, 0, 0, readErr t l)
set_option maxHeartbeats 800000 in
set_option maxRecDepth 100000 in
theorem Astray_any (t : Text) (l : List Int) (hl1 : t.words.length ≤ 1000000) (hl2 : t.turns.length ≤ 1000000) (hll : l.length ≤ 100000) (pw pt pl : Option Addr) (cw ct cl : Nat) (hcw : t.words.length ≤ cw ∧ cw ≤ maxLen) (w : World) (hW : TxAt w t pw pt) (hL : Ints w pl l) :
    Calls Tryz.prog 37 #[.agg #[.slice pw t.words.length cw, .slice pt t.turns.length ct, .int .i64 t.breath], .slice pl l.length cl] w fun e w' =>
      e = .returned (.tuple #[.int .i64 (astrayR t l).1, .agg #[.int .i64 (astrayR t l).2.1, .int .i64 (astrayR t l).2.2.1], .int .i64 (astrayR t l).2.2.2]) ∧ Below w.heap.size w w' := by
  by_cases he : readErr t l = 0
  · by_cases hr : (wrongGo t 0 0 l).2.2 = 6
    · have e : astrayR t l = astrayGo (placesL l) 0 t.turns := by unfold astrayR; rw [if_pos he, if_pos hr]
      rw [e]
      exact Astray_in t l he hr hll pw pt pl cw ct cl hcw w hW hL
    · have e : astrayR t l = (0, 0, 0, 8) := by unfold astrayR; rw [if_pos he, if_neg hr]
      rw [e]
      obtain ⟨h0, hx, hs⟩ := read_ok he
      have ok := err_ok h0
      have HS := Lib.hid (fun W (h : Below w.heap.size w W) => openReading_ok t l he (by omega) pw pt pl cw ct cl W (hW.below h) (hL.below h))
      have HF := Lib.hid (fun W (h : Below w.heap.size w W) => firstWrong_any t l hx hs pw pt pl cw ct cl (.func (.func 91) #[.agg #[.slice pw t.words.length cw, .slice pt t.turns.length ct, .int .i64 t.breath, .nilFunc]] #[]) W ⟨ok, hW.below h, hcw⟩ (hL.below h) (by omega))
      generalize wrongGo t 0 0 l = rw0 at HF hr
      obtain ⟨r1, r2, r3⟩ := rw0
      simp only at HF hr
      have HE : (r3 != 6) = true := by simpa using hr
      clear hW hL he h0 hx hs ok e hr
      go_enter Tryz.func37, Tryz.ntmps37
      go_wp2_with fail
      refine (HS.out _ ((below1 _ _).alloc (by simp) _)).mono ?_
      rintro e w5 ⟨rfl, hB5⟩
      have hz5 := hB5.size
      simp only [World.size_alloc] at hz5
      have hsp0 := heap_last (w.alloc (.cells #[.slice pw t.words.length cw, .slice pt t.turns.length ct, .int .i64 t.breath] 25)) (.cells #[.int .i64 0, .int .i64 0] 58)
      rw [World.size_alloc] at hsp0
      have hsp := (hB5.block (w.heap.size + 1) (by simp)).trans hsp0
      clear hsp0
      have HSP := Lib.hid hsp
      have HB5 := Lib.hid (join ((below1 _ _).alloc (by simp) _) hB5)
      clear hB5 hsp
      go_wp2_with fail
      refine (HF.out _ (join HB5.out (below1 _ _))).mono ?_
      rintro e w6 ⟨rfl, hB6⟩
      have hz6 := hB6.size
      simp only [World.size_alloc] at hz6
      have hsp6 := (hB6.block (w.heap.size + 1) (by simp; omega)).trans ((Below.heap_alloc _ _ _ (by omega)).trans HSP.out)
      have y0 := blk_cells hsp6 0 _ rfl
      have y1 := blk_cells hsp6 1 _ rfl
      have z : ∀ i, w6.frozen? ⟨w.heap.size + 1, i, none⟩ = false := fun i => by simp [World.frozen?, hsp6]
      have HSP6 := Lib.hid hsp6
      have HB6 := Lib.hid (join (join HB5.out (below1 _ _)) hB6)
      clear hB6 hsp6
      go_wp2
      have hx9 : ((w6.setCell ⟨w.heap.size + 1, 0, none⟩ (.int .i64 0)).setCell ⟨w.heap.size + 1, 1, none⟩ (.int .i64 0)).heap[w.heap.size + 1]? = some (.cells #[.int .i64 0, .int .i64 0] 58 (0, 0)) := heap_set_same _ (heap_set_same _ HSP6.out)
      have r0 := blk_cells hx9 0 _ rfl
      have r1 := blk_cells hx9 1 _ rfl
      refine bodyPost_ret (v := .tuple #[.int .i64 0, .agg #[.int .i64 0, .int .i64 0], .int .i64 8]) (by simp [results, Tryz.results37, go_sem, r0, r1]) rfl ⟨rfl, ?_⟩
      exact (HB6.out.setCell (p := ⟨w.heap.size + 1, 0, none⟩) (by simp) _).setCell (p := ⟨w.heap.size + 1, 1, none⟩) (by simp) _
  · have e : astrayR t l = (0, 0, 0, readErr t l) := if_neg he
    rw [e]
    have HS := Lib.hid (fun W (h : Below w.heap.size w W) => openReading_bad t l he hl1 hl2 (by omega) pw pt pl cw ct cl W (hW.below h) (hL.below h))
    have HE : (readErr t l != 0) = true := by simpa using he
    clear hW hL he e
    generalize readErr t l = er at HE HS ⊢
    go_enter Tryz.func37, Tryz.ntmps37
    go_wp2_with fail
    refine (HS.out _ ((below1 _ _).alloc (by simp) _)).mono ?_
    rintro e w5 ⟨rfl, hB5⟩
    have hz5 := hB5.size
    simp only [World.size_alloc] at hz5
    have hsp0 := heap_last (w.alloc (.cells #[.slice pw t.words.length cw, .slice pt t.turns.length ct, .int .i64 t.breath] 25)) (.cells #[.int .i64 0, .int .i64 0] 58)
    rw [World.size_alloc] at hsp0
    have hsp := (hB5.block (w.heap.size + 1) (by simp)).trans hsp0
    clear hsp0
    have y0 := blk_cells hsp 0 _ rfl
    have y1 := blk_cells hsp 1 _ rfl
    have z : ∀ i, w5.frozen? ⟨w.heap.size + 1, i, none⟩ = false := fun i => by simp [World.frozen?, hsp]
    have hlt : w.heap.size + 1 < w5.heap.size := by omega
    have HSP := Lib.hid hsp
    have HB5 := Lib.hid (join ((below1 _ _).alloc (by simp) _) hB5)
    clear hB5 hsp
    go_wp2
    have hx9 : (((w5.setCell ⟨w.heap.size + 1, 0, none⟩ (.int .i64 0)).setCell ⟨w.heap.size + 1, 1, none⟩ (.int .i64 0)).alloc (.cells #[.slice none 0 0, .slice none 0 0, .int .i64 0, .nilFunc] 84)).heap[w.heap.size + 1]? = some (.cells #[.int .i64 0, .int .i64 0] 58 (0, 0)) :=
      (Below.heap_alloc _ _ _ (by simp; omega)).trans (heap_set_same _ (heap_set_same _ HSP.out))
    have r0 := blk_cells hx9 0 _ rfl
    have r1 := blk_cells hx9 1 _ rfl
    refine bodyPost_ret (v := .tuple #[.int .i64 0, .agg #[.int .i64 0, .int .i64 0], .int .i64 er]) (by simp [results, Tryz.results37, go_sem, r0, r1]) rfl ⟨rfl, ?_⟩
    exact ((HB5.out.setCell (p := ⟨w.heap.size + 1, 0, none⟩) (by simp) _).setCell (p := ⟨w.heap.size + 1, 1, none⟩) (by simp) _).alloc (by simp; omega) _
end Go.Proofs.YtadnggecnjdhiaaGreat
set_option linter.unusedSimpArgs false
set_option linter.unusedVariables false
namespace Go.Proofs.YtadnggecnjdhiaaGreat
open Go.RowKit Tx
attribute [local go_sem] Oper.semAt_some

/-- what Says tells -/
def sayE (t : Text) (lo hi : Int) : Int := if t.err ≠ 0 then t.err else if absent t.words.length lo || absent t.words.length hi then 1 else if hi < lo then 4 else 0
def sayL (t : Text) (lo hi : Int) : List Int := if sayE t lo hi = 0 then t.said lo hi else []
set_option maxHeartbeats 1600000 in
set_option maxRecDepth 100000 in
theorem Says_any (t : Text) (lo hi : Int) (hl1 : t.words.length ≤ 1000000) (hl2 : t.turns.length ≤ 1000000) (pw pt : Option Addr) (cw ct : Nat) (w : World) (hW : TxAt w t pw pt) :
    Calls Tryz.prog 55 #[.agg #[.slice pw t.words.length cw, .slice pt t.turns.length ct, .int .i64 t.breath], .agg #[.int .i64 lo, .int .i64 hi]] w (ListPost (sayL t lo hi) (sayE t lo hi) w) := by
  by_cases he : t.err = 0
  · have HS := Lib.hid (fun W (h : Below w.heap.size w W) => open_ok t he pw pt cw ct W (hW.below h))
    have HA := Lib.hid (fun k W => absent_any t.words.length cw pw (.slice pt t.turns.length ct) (.int .i64 t.breath) (.func (.func 91) #[.agg #[.slice pw t.words.length cw, .slice pt t.turns.length ct, .int .i64 t.breath, .nilFunc]] #[]) k W (by omega))
    have HT := Lib.hid (fun W (h : Below w.heap.size w W) => turnsOther_any t hl2 pt ct (.slice pw t.words.length cw) (.int .i64 t.breath) (.func (.func 91) #[.agg #[.slice pw t.words.length cw, .slice pt t.turns.length ct, .int .i64 t.breath, .nilFunc]] #[]) lo hi W (hW.turns.below h))
    cases h1 : absent t.words.length lo with
    | true =>
      have e1 : sayE t lo hi = 1 := by unfold sayE; rw [if_neg (by simp [he]), if_pos (by simp [h1])]
      have e2 : sayL t lo hi = [] := by unfold sayL; rw [if_neg (by rw [e1]; omega)]
      have HA1 := Lib.hid (fun W => h1 ▸ HA.out lo W)
      rw [e1, e2]
      clear hW he h1 e1 e2
      go_enter Tryz.func55, Tryz.ntmps55
      go_wp2_with fail
      refine (HS.out _ ((below1 _ _).alloc (by simp) _)).mono ?_
      rintro e w5 ⟨rfl, hB5⟩
      have hz5 : w.heap.size + 1 < w5.heap.size := by have := hB5.size; simp at this; omega
      have hz6 : w.heap.size + 1 < w5.heap.size + 1 := by omega
      have hz7 : w.heap.size + 1 < w5.heap.size + 1 + 1 := by omega
      have hsp0 := heap_last (w.alloc (.cells #[.slice pw t.words.length cw, .slice pt t.turns.length ct, .int .i64 t.breath] 25)) (.cells #[.int .i64 lo, .int .i64 hi] 58)
      rw [World.size_alloc] at hsp0
      have hsp := (hB5.block (w.heap.size + 1) (by simp)).trans hsp0
      clear hsp0
      have y0 := blk_cells hsp 0 _ rfl
      have y1 := blk_cells hsp 1 _ rfl
      have HB5 := Lib.hid (join ((below1 _ _).alloc (by simp) _) hB5)
      clear hB5 hsp
      go_wp2_with fail
      refine (HA1.out _).mono ?_
      rintro e w6 ⟨rfl, rfl⟩
      go_wp2
      go_ret2
      exact ⟨_, rfl, own_none _ _ _ _, ((HB5.out.alloc (by omega) _).alloc (by simp; omega) _)⟩
    | false =>
      have HA1 := Lib.hid (fun W => h1 ▸ HA.out lo W)
      cases h2 : absent t.words.length hi with
      | true =>
        have e1 : sayE t lo hi = 1 := by unfold sayE; rw [if_neg (by simp [he]), if_pos (by simp [h1, h2])]
        have e2 : sayL t lo hi = [] := by unfold sayL; rw [if_neg (by rw [e1]; omega)]
        have HA2 := Lib.hid (fun W => h2 ▸ HA.out hi W)
        rw [e1, e2]
        clear hW he h1 h2 e1 e2
        go_enter Tryz.func55, Tryz.ntmps55
        go_wp2_with fail
        refine (HS.out _ ((below1 _ _).alloc (by simp) _)).mono ?_
        rintro e w5 ⟨rfl, hB5⟩
        have hz5 : w.heap.size + 1 < w5.heap.size := by have := hB5.size; simp at this; omega
        have hz6 : w.heap.size + 1 < w5.heap.size + 1 := by omega
        have hz7 : w.heap.size + 1 < w5.heap.size + 1 + 1 := by omega
        have hsp0 := heap_last (w.alloc (.cells #[.slice pw t.words.length cw, .slice pt t.turns.length ct, .int .i64 t.breath] 25)) (.cells #[.int .i64 lo, .int .i64 hi] 58)
        rw [World.size_alloc] at hsp0
        have hsp := (hB5.block (w.heap.size + 1) (by simp)).trans hsp0
        clear hsp0
        have y0 := blk_cells hsp 0 _ rfl
        have y1 := blk_cells hsp 1 _ rfl
        have HB5 := Lib.hid (join ((below1 _ _).alloc (by simp) _) hB5)
        clear hB5 hsp
        go_wp2_with fail
        refine (HA1.out _).mono ?_
        rintro e w6 ⟨rfl, rfl⟩
        go_wp2_with fail
        refine (HA2.out _).mono ?_
        rintro e w6 ⟨rfl, rfl⟩
        go_wp2
        go_ret2
        exact ⟨_, rfl, own_none _ _ _ _, (((HB5.out.alloc (by omega) _).alloc (by simp; omega) _).alloc (by simp; omega) _)⟩
      | false =>
        have HA2 := Lib.hid (fun W => h2 ▸ HA.out hi W)
        by_cases h3 : hi < lo
        · have e1 : sayE t lo hi = 4 := by unfold sayE; rw [if_neg (by simp [he]), if_neg (by simp [h1, h2]), if_pos h3]
          have e2 : sayL t lo hi = [] := by unfold sayL; rw [if_neg (by rw [e1]; omega)]
          rw [e1, e2]
          clear hW he h1 h2 e1 e2
          go_enter Tryz.func55, Tryz.ntmps55
          go_wp2_with fail
          refine (HS.out _ ((below1 _ _).alloc (by simp) _)).mono ?_
          rintro e w5 ⟨rfl, hB5⟩
          have hz5 : w.heap.size + 1 < w5.heap.size := by have := hB5.size; simp at this; omega
          have hz6 : w.heap.size + 1 < w5.heap.size + 1 := by omega
          have hz7 : w.heap.size + 1 < w5.heap.size + 1 + 1 := by omega
          have hsp0 := heap_last (w.alloc (.cells #[.slice pw t.words.length cw, .slice pt t.turns.length ct, .int .i64 t.breath] 25)) (.cells #[.int .i64 lo, .int .i64 hi] 58)
          rw [World.size_alloc] at hsp0
          have hsp := (hB5.block (w.heap.size + 1) (by simp)).trans hsp0
          clear hsp0
          have y0 := blk_cells hsp 0 _ rfl
          have y1 := blk_cells hsp 1 _ rfl
          have HB5 := Lib.hid (join ((below1 _ _).alloc (by simp) _) hB5)
          clear hB5 hsp
          go_wp2_with fail
          refine (HA1.out _).mono ?_
          rintro e w6 ⟨rfl, rfl⟩
          go_wp2_with fail
          refine (HA2.out _).mono ?_
          rintro e w6 ⟨rfl, rfl⟩
          go_wp2
          go_ret2
          exact ⟨_, rfl, own_none _ _ _ _, (((HB5.out.alloc (by omega) _).alloc (by simp; omega) _).alloc (by simp; omega) _)⟩
        · have e1 : sayE t lo hi = 0 := by unfold sayE; rw [if_neg (by simp [he]), if_neg (by simp [h1, h2]), if_neg h3]
          have e2 : sayL t lo hi = t.said lo hi := by unfold sayL; rw [if_pos e1]
          rw [e1, e2]
          clear hW he h1 h2 e1 e2
          go_enter Tryz.func55, Tryz.ntmps55
          go_wp2_with fail
          refine (HS.out _ ((below1 _ _).alloc (by simp) _)).mono ?_
          rintro e w5 ⟨rfl, hB5⟩
          have hz5 : w.heap.size + 1 < w5.heap.size := by have := hB5.size; simp at this; omega
          have hz6 : w.heap.size + 1 < w5.heap.size + 1 := by omega
          have hz7 : w.heap.size + 1 < w5.heap.size + 1 + 1 := by omega
          have hsp0 := heap_last (w.alloc (.cells #[.slice pw t.words.length cw, .slice pt t.turns.length ct, .int .i64 t.breath] 25)) (.cells #[.int .i64 lo, .int .i64 hi] 58)
          rw [World.size_alloc] at hsp0
          have hsp := (hB5.block (w.heap.size + 1) (by simp)).trans hsp0
          clear hsp0
          have y0 := blk_cells hsp 0 _ rfl
          have y1 := blk_cells hsp 1 _ rfl
          have HB5 := Lib.hid (join ((below1 _ _).alloc (by simp) _) hB5)
          clear hB5 hsp
          go_wp2_with fail
          refine (HA1.out _).mono ?_
          rintro e w6 ⟨rfl, rfl⟩
          go_wp2_with fail
          refine (HA2.out _).mono ?_
          rintro e w6 ⟨rfl, rfl⟩
          go_wp2_with fail
          refine (HT.out _ (((HB5.out.alloc (by omega) _).alloc (by simp; omega) _).alloc (by simp; omega) _)).mono ?_
          rintro e w7 ⟨v, rfl, hown, hB7⟩
          have HO := Lib.hid hown
          have HB7 := Lib.hid (join (((HB5.out.alloc (by omega) _).alloc (by simp; omega) _).alloc (by simp; omega) _) hB7)
          clear hown hB7
          go_wp2
          go_ret2
          exact ⟨_, rfl, own_base HO.out (by simp; omega), HB7.out⟩
  · have e1 : sayE t lo hi = t.err := by unfold sayE; rw [if_pos he]
    have e2 : sayL t lo hi = [] := by unfold sayL; rw [if_neg (by rw [e1]; exact he)]
    rw [e1, e2]
    have HS := Lib.hid (fun W (h : Below w.heap.size w W) => open_bad t he hl1 hl2 pw pt cw ct W (hW.below h))
    have HE : (t.err != 0) = true := by simpa using he
    clear hW he e1 e2
    generalize t.err = er at HE HS ⊢
    go_enter Tryz.func55, Tryz.ntmps55
    go_wp2_with fail
    refine (HS.out _ ((below1 _ _).alloc (by simp) _)).mono ?_
    rintro e w5 ⟨rfl, hB5⟩
    have hz5 : w.heap.size + 1 < w5.heap.size := by have := hB5.size; simp at this; omega
    have hz6 : w.heap.size + 1 < w5.heap.size + 1 := by omega
    have hz7 : w.heap.size + 1 < w5.heap.size + 1 + 1 := by omega
    have hsp0 := heap_last (w.alloc (.cells #[.slice pw t.words.length cw, .slice pt t.turns.length ct, .int .i64 t.breath] 25)) (.cells #[.int .i64 lo, .int .i64 hi] 58)
    rw [World.size_alloc] at hsp0
    have hsp := (hB5.block (w.heap.size + 1) (by simp)).trans hsp0
    clear hsp0
    have y0 := blk_cells hsp 0 _ rfl
    have y1 := blk_cells hsp 1 _ rfl
    have HB5 := Lib.hid (join ((below1 _ _).alloc (by simp) _) hB5)
    clear hB5 hsp
    go_wp2
    go_ret2
    exact ⟨_, rfl, own_none _ _ _ _, HB5.out.alloc (by omega) _⟩
end Go.Proofs.YtadnggecnjdhiaaGreat
set_option linter.unusedSimpArgs false
set_option linter.unusedVariables false
namespace Go.Proofs.YtadnggecnjdhiaaGreat
open Go.RowKit Tx
attribute [local go_sem] Oper.semAt_some
def spRw (t : Text) (pw pt : Option Addr) (cw ct a k n cl x B O : Nat) (ki : Int) : Nat → List Value → Value → World → Prop
  | 0, _, v, _ => v = .agg #[.slice pw t.words.length cw, .slice pt t.turns.length ct, .int .i64 t.breath]
  | 1, _, v, _ => v = .int .i64 (a : Int)
  | 2, _, v, _ => v = .int .i64 (a : Int)
  | 3, _, v, _ => v = .slice (some ⟨B, O, none⟩) n cl
  | 4, _, v, _ => v = .int .i64 (k : Int)
  | 5, _, v, _ => v = .pointer (some ⟨B, O + k, none⟩)
  | 6, _, v, _ => v = .int .i64 (x : Int)
  | 7, _, v, _ => v = .int .i64 ((a + x : Nat) : Int)
  | 8, _, v, _ => v = .int .i64 ki
  | 9, _, v, _ => v = .int .i64 ki
  | _, _, _, _ => False
theorem spRw_stable (t : Text) (pw pt : Option Addr) (cw ct a k n cl x B O : Nat) (ki : Int) : ∀ i L v w w', spRw t pw pt cw ct a k n cl x B O ki i L v w → Rs.Gr w w' → spRw t pw pt cw ct a k n cl x B O ki i L v w' := by
  intro i L v w w' h hg
  match i with
  | 0 => exact h
  | 1 => exact h
  | 2 => exact h
  | 3 => exact h
  | 4 => exact h
  | 5 => exact h
  | 6 => exact h
  | 7 => exact h
  | 8 => exact h
  | 9 => exact h

set_option maxHeartbeats 4000000 in
set_option maxRecDepth 100000 in
theorem rWrong_any (t : Text) (l : List Int) (hl1 : t.words.length ≤ 1000000) (hl2 : t.turns.length ≤ 1000000) (hll : l.length ≤ 1000000) (pw pt pl : Option Addr) (cw ct cl : Nat) (w : World) (hW : TxAt w t pw pt) (hL : Ints w pl l) :
    Calls Tryz.prog 16 #[.agg #[.slice pw t.words.length cw, .slice pt t.turns.length ct, .int .i64 t.breath], .slice pl l.length cl] w fun e w' =>
      e = .returned (.tuple #[.int .i64 (wrongR t l).1, .int .i64 (wrongR t l).2.1, .int .i64 (wrongR t l).2.2]) ∧ Below w.heap.size w w' := by
  have HC := Lib.hid (fun W (h : Below w.heap.size w W) => Reading_any t l hl1 hl2 hll pw pt pl cw ct cl W (hW.below h) (hL.below h))
  have HB := Lib.hid (below1 w (.cells #[.slice pw t.words.length cw, .slice pt t.turns.length ct, .int .i64 t.breath] 32))
  have HX := Lib.hid (heap_last w (.cells #[.slice pw t.words.length cw, .slice pt t.turns.length ct, .int .i64 t.breath] 32))
  have HL := Lib.hid hL
  have HW := Lib.hid hW
  obtain ⟨k0, k1, k2⟩ := blk3 HX.out
  clear hW hL
  by_cases he : readErr t l = 0
  · obtain ⟨h0, hx, hs⟩ := read_ok he
    have ok := err_ok h0
    have HR : Hid (wrongR t l = wrongGo t 0 0 l) := Lib.hid (if_pos he)
    rw [HR.out]
    rw [he] at HC
    have hn12 := ok.n12
    have HXS := Lib.hid hx
    have HPRE := Lib.hid (fun k => isum_take_le (fun x h => by have := hx x h; omega) hs k)
    have HOK := Lib.hid ok
    clear he HR hx hs ok h0
    go_enter Tryz.func16, Tryz.ntmps16
    go_wp2_with fail
    refine (HC.out _ HB.out).mono ?_
    rintro e w5 ⟨rfl, hB5⟩
    have HX5 := Lib.hid ((hB5.block w.heap.size (Array.getElem?_eq_some_iff.1 HX.out).1).trans HX.out)
    have HB5 := Lib.hid (join HB.out hB5)
    clear hB5 k0 k1 k2
    obtain ⟨k0, k1, k2⟩ := blk3 HX5.out
    go_wp2_with fail
    go_loopw [8, 9, 10] (fun n i _ wr => ∃ k a : Nat, k ≤ l.length ∧ i = .int .i64 k ∧ n = .int .i64 a ∧ (a : Int) = isum (l.take k) ∧ wrongGo t k a (l.drop k) = wrongGo t 0 0 l ∧ Below w5.heap.size w5 wr) (fun _ i _ _ => l.length - (intOf i).toNat)
    case atStart => exact ⟨0, 0, Nat.zero_le _, rfl, rfl, rfl, rfl, Below.refl _ _⟩
    case round =>
      obtain ⟨k, a, hk, rfl, rfl, ha, hgo, hBr⟩ := hrel
      have HGO := Lib.hid hgo
      have HAA := Lib.hid ha
      have HXr := Lib.hid ((hBr.block w.heap.size (Array.getElem?_eq_some_iff.1 HX5.out).1).trans HX5.out)
      have HBr0 := Lib.hid hBr
      have HBr := Lib.hid (join HB5.out hBr)
      clear hgo hBr k0 k1 k2
      obtain ⟨wo, rfl⟩ : ∃ wo : World, wo = wr := ⟨_, rfl⟩
      obtain ⟨k0, k1, k2⟩ := blk3 HXr.out
      by_cases hlt : k < l.length
      · have hlt' : (k : Int) < l.length := by omega
        have hkn : (k : Int) < l.length := hlt'
        obtain ⟨b, o, x, rfl, hbl, hxx, c1⟩ := (HL.out.below HBr.out).at hlt
        have hxm := HXS.out x (by rw [hxx]; exact getD_mem 0 hlt)
        obtain ⟨x, rfl⟩ : ∃ n : Nat, x = (n : Int) := ⟨x.toNat, by omega⟩
        have hsn : isum (l.take (k + 1)) = ((a + x : Nat) : Int) := by rw [take_snocD 0 hlt, isum_snoc, ← hxx, ← ha]; push_cast; rfl
        have hle := HPRE.out (k + 1)
        rw [hsn] at hle
        have hgo := wrongGo_at t l k a hlt
        rw [← hxx, Int.toNat_natCast, HGO.out] at hgo
        have hsum : IntKind.i64.wrap ((a : Int) + (x : Int)) = ((a + x : Nat) : Int) := by rw [IntWalk.i64_in _ (by omega)]; push_cast; rfl
        have hsum2 : IntKind.i64.wrap ((a : Int) + (x : Int)) = (a : Int) + (x : Int) := IntWalk.i64_in _ (by omega)
        have HFA := Lib.hid (fun W (h : Below w.heap.size w W) => Fault_any t HOK.out a (a + x) (by omega) (by omega) pw pt cw ct W (HW.out.below h))
        have HSN := Lib.hid hsn
        have HG := Lib.hid hgo
        have HKS := Lib.hid (fun k h0 (h : kindI t a (a + x) = k) => kindI_some h h0)
        have HKN := Lib.hid (fun (h : kindI t a (a + x) < 0) => kindI_none h)
        generalize kindI t a (a + x) = ki at HFA HKS HKN
        have HC1 := Lib.hid c1
        have hsU : w.heap.size < wo.heap.size := (Array.getElem?_eq_some_iff.1 HXr.out).1
        have hsb : b < wo.heap.size := hbl
        clear hxx hsn hgo c1 HC ha
        go_wp2_with fail
        refine Rs.region_gen 10 [[], [], [], [], [], [3, 4], [3, 4, 5], [2, 3, 4, 5, 6], [0, 1, 2, 3, 4, 5, 6, 7], [0, 1, 2, 3, 4, 5, 6, 7, 8]] [some 23, some 24, some 25, some 26, some 27, some 28, some 29, some 30, some 31, some 10] (spRw t pw pt cw ct a k l.length cl x b o ki) (by kernel_rfl) (by kernel_rfl) rfl (spRw_stable _ _ _ _ _ _ _ _ _ _ _ _ _) ?_ ?_
        · refine ⟨fun V w' hG hs => ?_, fun V w' hG hs => ?_, fun V w' hG hs => ?_, fun V w' hG hs => ?_, fun V w' hG hs => ?_, fun V w' hG hs => ?_, fun V w' hG hs => ?_, fun V w' hG hs => ?_, fun V w' hG hs => ?_, fun V w' hG hs => ?_, trivial⟩
          all_goals
            obtain ⟨bc, _⟩ := bcell hG
            obtain ⟨k0, k1, k2⟩ := blk3 ((hG.block w.heap.size hsU).trans HXr.out)
            have hc := (bc b (o + k) hsb).trans HC1.out
            clear bc
          · rw [if_pos (by rfl)]
            exact Rs.GrowL.value (v := .agg #[.slice pw t.words.length cw, .slice pt t.turns.length ct, .int .i64 t.breath]) (w' := w') (by simp [go_sem, Rs.look, k0, k1, k2]) (Rs.Gr.refl _) rfl
          · rw [if_pos (by rfl)]
            exact Rs.GrowL.value (v := .int .i64 (a : Int)) (w' := w') (by simp [go_sem, Rs.look]) (Rs.Gr.refl _) rfl
          · rw [if_pos (by rfl)]
            exact Rs.GrowL.value (v := .int .i64 (a : Int)) (w' := w') (by simp [go_sem, Rs.look]) (Rs.Gr.refl _) rfl
          · rw [if_pos (by rfl)]
            exact Rs.GrowL.value (v := .slice (some ⟨b, o, none⟩) l.length cl) (w' := w') (by simp [go_sem, Rs.look]) (Rs.Gr.refl _) rfl
          · rw [if_pos (by rfl)]
            exact Rs.GrowL.value (v := .int .i64 (k : Int)) (w' := w') (by simp [go_sem, Rs.look]) (Rs.Gr.refl _) rfl
          · have e3 : V 3 = .slice (some ⟨b, o, none⟩) l.length cl := hs 3 (by simp)
            have e4 : V 4 = .int .i64 (k : Int) := hs 4 (by simp)
            rw [if_pos (by rfl)]
            exact Rs.GrowL.value (v := .pointer (some ⟨b, o + k, none⟩)) (w' := w') (by simp [go_sem, Rs.look, e3, e4, hkn]) (Rs.Gr.refl _) rfl
          · have e3 : V 3 = .slice (some ⟨b, o, none⟩) l.length cl := hs 3 (by simp)
            have e4 : V 4 = .int .i64 (k : Int) := hs 4 (by simp)
            have e5 : V 5 = .pointer (some ⟨b, o + k, none⟩) := hs 5 (by simp)
            rw [if_pos (by rfl)]
            exact Rs.GrowL.value (v := .int .i64 (x : Int)) (w' := w') (by simp [go_sem, Rs.look, e3, e4, e5, hc]) (Rs.Gr.refl _) rfl
          · have e2 : V 2 = .int .i64 (a : Int) := hs 2 (by simp)
            have e3 : V 3 = .slice (some ⟨b, o, none⟩) l.length cl := hs 3 (by simp)
            have e4 : V 4 = .int .i64 (k : Int) := hs 4 (by simp)
            have e5 : V 5 = .pointer (some ⟨b, o + k, none⟩) := hs 5 (by simp)
            have e6 : V 6 = .int .i64 (x : Int) := hs 6 (by simp)
            rw [if_pos (by rfl)]
            exact Rs.GrowL.value (v := .int .i64 ((a + x : Nat) : Int)) (w' := w') (by simp [go_sem, Rs.look, e2, e3, e4, e5, e6, hsum]) (Rs.Gr.refl _) rfl
          · have e0 : V 0 = .agg #[.slice pw t.words.length cw, .slice pt t.turns.length ct, .int .i64 t.breath] := hs 0 (by simp)
            have e1 : V 1 = .int .i64 (a : Int) := hs 1 (by simp)
            have e2 : V 2 = .int .i64 (a : Int) := hs 2 (by simp)
            have e3 : V 3 = .slice (some ⟨b, o, none⟩) l.length cl := hs 3 (by simp)
            have e4 : V 4 = .int .i64 (k : Int) := hs 4 (by simp)
            have e5 : V 5 = .pointer (some ⟨b, o + k, none⟩) := hs 5 (by simp)
            have e6 : V 6 = .int .i64 (x : Int) := hs 6 (by simp)
            have e7 : V 7 = .int .i64 ((a + x : Nat) : Int) := hs 7 (by simp)
            rw [if_pos (by rfl)]
            refine Rs.GrowL.call (f := 49) (args := #[.agg #[.slice pw t.words.length cw, .slice pt t.turns.length ct, .int .i64 t.breath], .int .i64 (a : Int), .int .i64 ((a + x : Nat) : Int)]) (by simp [go_sem, Rs.look, e0, e1, e7]) ?_
            refine (HFA.out w' (join HBr.out hG)).mono ?_
            rintro e w2 ⟨rfl, hB2⟩
            exact ⟨_, rfl, hB2, rfl⟩
          · have e0 : V 0 = .agg #[.slice pw t.words.length cw, .slice pt t.turns.length ct, .int .i64 t.breath] := hs 0 (by simp)
            have e1 : V 1 = .int .i64 (a : Int) := hs 1 (by simp)
            have e2 : V 2 = .int .i64 (a : Int) := hs 2 (by simp)
            have e3 : V 3 = .slice (some ⟨b, o, none⟩) l.length cl := hs 3 (by simp)
            have e4 : V 4 = .int .i64 (k : Int) := hs 4 (by simp)
            have e5 : V 5 = .pointer (some ⟨b, o + k, none⟩) := hs 5 (by simp)
            have e6 : V 6 = .int .i64 (x : Int) := hs 6 (by simp)
            have e7 : V 7 = .int .i64 ((a + x : Nat) : Int) := hs 7 (by simp)
            have e8 : V 8 = .int .i64 ki := hs 8 (by simp)
            rw [if_pos (by rfl)]
            exact Rs.GrowL.value (v := .int .i64 ki) (w' := w') (by simp [go_sem, Rs.look, e0, e1, e2, e3, e4, e5, e6, e7, e8]) (Rs.Gr.refl _) rfl
        · intro V w' hG hs
          have e0 : V 0 = .agg #[.slice pw t.words.length cw, .slice pt t.turns.length ct, .int .i64 t.breath] := hs 0 (by omega)
          have e1 : V 1 = .int .i64 (a : Int) := hs 1 (by omega)
          have e2 : V 2 = .int .i64 (a : Int) := hs 2 (by omega)
          have e3 : V 3 = .slice (some ⟨b, o, none⟩) l.length cl := hs 3 (by omega)
          have e4 : V 4 = .int .i64 (k : Int) := hs 4 (by omega)
          have e5 : V 5 = .pointer (some ⟨b, o + k, none⟩) := hs 5 (by omega)
          have e6 : V 6 = .int .i64 (x : Int) := hs 6 (by omega)
          have e7 : V 7 = .int .i64 ((a + x : Nat) : Int) := hs 7 (by omega)
          have e8 : V 8 = .int .i64 ki := hs 8 (by omega)
          have e9 : V 9 = .int .i64 ki := hs 9 (by omega)
          simp only [Rs.canon, Rs.dstOf, List.range_succ, List.range_zero, List.nil_append, List.cons_append, List.foldl_cons, List.foldl_nil, List.drop_succ_cons, List.drop_zero, List.drop_nil, List.getElem?_toArray, List.getElem?_cons_succ, List.getElem?_cons_zero, Option.bind_some, Act.put, List.getD_cons_succ, List.getD_cons_zero, List.setIfInBounds_toArray, List.set_cons_succ, List.set_cons_zero]
          rw [e0, e1, e2, e3, e4, e5, e6, e7, e8, e9]
          clear e0 e1 e2 e3 e4 e5 e6 e7 e8 e9 hs
          by_cases hneg : ki < 0
          · have hneg' : ¬ (0 ≤ ki) := by omega
            have HFX : Hid (wrongGo t (k + 1) (a + x) (l.drop (k + 1)) = wrongGo t 0 0 l) := Lib.hid (by rw [HG.out, HKN.out hneg])
            clear HKS HKN HG
            have hcb := (hG.cell (p := ⟨b, o + k, none⟩) hbl).trans HC1.out
            have HBG := Lib.hid hG
            clear hG hneg
            go_wp2
            go_roundw
            case rel => exact ⟨k + 1, a + x, by omega, by go_num, by first | rfl | (congr 1; done) | (congr 1; push_cast; done) | (congr 1; push_cast; rfl) | (congr 1; push_cast; omega), HSN.out.symm, HFX.out, join HBr0.out HBG.out⟩
            case measure => simp [intOf]; omega
          · have hneg' : 0 ≤ ki := by omega
            have HFX : Hid (wrongGo t 0 0 l = ((k : Int), ki, 0)) := Lib.hid (by rw [HG.out, HKS.out ki hneg' rfl])
            have HBG := Lib.hid hG
            clear HKS HKN HG hG hneg
            go_wp2
            go_ret3
            exact ⟨by rw [HFX.out]; rfl, join HBr.out HBG.out⟩
      · obtain rfl : k = l.length := by omega
        have HFX : Hid (wrongGo t 0 0 l = (0, 0, 6)) := Lib.hid (by rw [← HGO.out, List.drop_length]; rfl)
        go_wp2
        go_ret3
        exact ⟨by rw [HFX.out]; rfl, HBr.out⟩
  · have HE : (readErr t l != 0) = true := by simpa using he
    have HR : Hid (wrongR t l = (0, 0, readErr t l)) := Lib.hid (if_neg he)
    rw [HR.out]
    generalize readErr t l = er at HC HE ⊢
    clear he HR
    go_enter Tryz.func16, Tryz.ntmps16
    go_wp2_with fail
    refine (HC.out _ HB.out).mono ?_
    rintro e w5 ⟨rfl, hB5⟩
    have HB5 := Lib.hid (join HB.out hB5)
    clear hB5
    go_wp2
    go_ret3
    exact ⟨rfl, HB5.out⟩
def spRy (t : Text) (pw pt : Option Addr) (cw ct A : Nat) (lo hi : Int) (n : Nat) : Nat → List Value → Value → World → Prop
  | 0, _, v, _ => v = .agg #[.slice pw t.words.length cw, .slice pt t.turns.length ct, .int .i64 t.breath]
  | 1, _, v, _ => v = .pointer (some ⟨A, 0, none⟩)
  | 2, _, v, _ => v = .int .i64 lo
  | 3, _, v, _ => v = .pointer (some ⟨A, 1, none⟩)
  | 4, _, v, _ => v = .int .i64 hi
  | 5, _, v, _ => v = .int .i64 (hi + 1)
  | 6, L, v, w => ∃ p c, v = .slice p (wordsL lo n).length c ∧ Ints w p (wordsL lo n)
  | 7, L, v, w => w.ownsRow A 3 1 v (rsaid t (wordsL lo n)).length ((rsaid t (wordsL lo n)).map (Value.int .i64))
  | _, _, _, _ => False
theorem spRy_stable (t : Text) (pw pt : Option Addr) (cw ct A : Nat) (lo hi : Int) (n : Nat) : ∀ i L v w w', spRy t pw pt cw ct A lo hi n i L v w → Rs.Gr w w' → spRy t pw pt cw ct A lo hi n i L v w' := by
  intro i L v w w' h hg
  match i with
  | 0 => exact h
  | 1 => exact h
  | 2 => exact h
  | 3 => exact h
  | 4 => exact h
  | 5 => exact h
  | 6 => obtain ⟨p, c, h1, h2⟩ := h; exact ⟨p, c, h1, h2.below hg⟩
  | 7 => exact own_below h hg

theorem absent_off {n : Nat} {k : Int} {b : Bool} (h : absent n k = b) : (!btw k 0 ((n : Int) - 1)) = b := h
set_option maxHeartbeats 4000000 in
set_option maxRecDepth 100000 in
theorem rSays_any (t : Text) (lo hi : Int) (hl1 : t.words.length ≤ 1000000) (hl2 : t.turns.length ≤ 1000000) (pw pt : Option Addr) (cw ct : Nat) (w : World) (hW : TxAt w t pw pt) :
    Calls Tryz.prog 56 #[.agg #[.slice pw t.words.length cw, .slice pt t.turns.length ct, .int .i64 t.breath], .agg #[.int .i64 lo, .int .i64 hi]] w (ListPost (sayL t lo hi) (sayE t lo hi) w) := by
  have HC := Lib.hid (fun W (h : Below w.heap.size w W) => rCheck_any t hl1 hl2 pw pt cw ct W (hW.below h))
  have HB1 := below1 w (.cells #[.slice pw t.words.length cw, .slice pt t.turns.length ct, .int .i64 t.breath] 32)
  have HX := Lib.hid (((below1 (w.alloc (.cells #[.slice pw t.words.length cw, .slice pt t.turns.length ct, .int .i64 t.breath] 32)) (.cells #[.int .i64 lo, .int .i64 hi] 58)).block w.heap.size (by simp)).trans (heap_last w _))
  have hy := heap_last (w.alloc (.cells #[.slice pw t.words.length cw, .slice pt t.turns.length ct, .int .i64 t.breath] 32)) (.cells #[.int .i64 lo, .int .i64 hi] 58)
  rw [World.size_alloc] at hy
  have HY := Lib.hid hy
  have HB := Lib.hid (join HB1 (below1 _ (.cells #[.int .i64 lo, .int .i64 hi] 58)))
  have HW := Lib.hid hW
  clear hW HB1 hy
  by_cases he : t.err = 0
  · have ok := err_ok he
    have hn12 := ok.n12
    have hm6 := ok.m6
    rw [he] at HC
    cases h1 : absent t.words.length lo with
    | true =>
      have e1 : sayE t lo hi = 1 := by unfold sayE; rw [if_neg (by simp [he]), if_pos (by simp [h1])]
      have e2 : sayL t lo hi = [] := by unfold sayL; rw [if_neg (by rw [e1]; omega)]
      have H1 := Lib.hid (absent_off h1)
      rw [e1, e2]
      clear he h1 e1 e2 ok
      go_enter Tryz.func56, Tryz.ntmps56
      go_wp2_with fail
      refine (HC.out _ HB.out).mono ?_
      rintro e w5 ⟨rfl, hB5⟩
      have HX5 := Lib.hid ((hB5.block w.heap.size (Array.getElem?_eq_some_iff.1 HX.out).1).trans HX.out)
      have HY5 := Lib.hid ((hB5.block (w.heap.size + 1) (Array.getElem?_eq_some_iff.1 HY.out).1).trans HY.out)
      have HB5 := Lib.hid (join HB.out hB5)
      clear hB5
      obtain ⟨k0, k1, k2⟩ := blk3 HX5.out
      have y0 := blk_cells HY5.out 0 _ rfl
      have y1 := blk_cells HY5.out 1 _ rfl
      go_wp2_with fail
      refine (off_b _ _ _ _ H1.out _).mono ?_
      rintro e w6 ⟨rfl, rfl⟩
      go_wp2
      go_ret2
      exact ⟨_, rfl, own_none _ _ _ _, HB5.out⟩
    | false =>
    have H1 := Lib.hid (absent_off h1)
    cases h2 : absent t.words.length hi with
    | true =>
      have e1 : sayE t lo hi = 1 := by unfold sayE; rw [if_neg (by simp [he]), if_pos (by simp [h1, h2])]
      have e2 : sayL t lo hi = [] := by unfold sayL; rw [if_neg (by rw [e1]; omega)]
      have H2 := Lib.hid (absent_off h2)
      rw [e1, e2]
      clear he h1 h2 e1 e2 ok
      go_enter Tryz.func56, Tryz.ntmps56
      go_wp2_with fail
      refine (HC.out _ HB.out).mono ?_
      rintro e w5 ⟨rfl, hB5⟩
      have HX5 := Lib.hid ((hB5.block w.heap.size (Array.getElem?_eq_some_iff.1 HX.out).1).trans HX.out)
      have HY5 := Lib.hid ((hB5.block (w.heap.size + 1) (Array.getElem?_eq_some_iff.1 HY.out).1).trans HY.out)
      have HB5 := Lib.hid (join HB.out hB5)
      clear hB5
      obtain ⟨k0, k1, k2⟩ := blk3 HX5.out
      have y0 := blk_cells HY5.out 0 _ rfl
      have y1 := blk_cells HY5.out 1 _ rfl
      go_wp2_with fail
      refine (off_b _ _ _ _ H1.out _).mono ?_
      rintro e w6 ⟨rfl, rfl⟩
      go_wp2_with fail
      refine (off_b _ _ _ _ H2.out _).mono ?_
      rintro e w6 ⟨rfl, rfl⟩
      go_wp2
      go_ret2
      exact ⟨_, rfl, own_none _ _ _ _, HB5.out⟩
    | false =>
    have H2 := Lib.hid (absent_off h2)
    by_cases h3 : hi < lo
    · have e1 : sayE t lo hi = 4 := by unfold sayE; rw [if_neg (by simp [he]), if_neg (by simp [h1, h2]), if_pos h3]
      have e2 : sayL t lo hi = [] := by unfold sayL; rw [if_neg (by rw [e1]; omega)]
      rw [e1, e2]
      clear he h1 h2 e1 e2 ok
      go_enter Tryz.func56, Tryz.ntmps56
      go_wp2_with fail
      refine (HC.out _ HB.out).mono ?_
      rintro e w5 ⟨rfl, hB5⟩
      have HX5 := Lib.hid ((hB5.block w.heap.size (Array.getElem?_eq_some_iff.1 HX.out).1).trans HX.out)
      have HY5 := Lib.hid ((hB5.block (w.heap.size + 1) (Array.getElem?_eq_some_iff.1 HY.out).1).trans HY.out)
      have HB5 := Lib.hid (join HB.out hB5)
      clear hB5
      obtain ⟨k0, k1, k2⟩ := blk3 HX5.out
      have y0 := blk_cells HY5.out 0 _ rfl
      have y1 := blk_cells HY5.out 1 _ rfl
      go_wp2_with fail
      refine (off_b _ _ _ _ H1.out _).mono ?_
      rintro e w6 ⟨rfl, rfl⟩
      go_wp2_with fail
      refine (off_b _ _ _ _ H2.out _).mono ?_
      rintro e w6 ⟨rfl, rfl⟩
      go_wp2
      go_ret2
      exact ⟨_, rfl, own_none _ _ _ _, HB5.out⟩
    · have e1 : sayE t lo hi = 0 := by unfold sayE; rw [if_neg (by simp [he]), if_neg (by simp [h1, h2]), if_neg h3]
      have b1 : 0 ≤ lo ∧ lo ≤ (t.words.length : Int) - 1 := by simp [absent] at h1; exact btw_true h1
      have b2 : 0 ≤ hi ∧ hi ≤ (t.words.length : Int) - 1 := by simp [absent] at h2; exact btw_true h2
      obtain ⟨n, hn⟩ : ∃ n : Nat, n = (hi + 1 - lo).toNat := ⟨_, rfl⟩
      have e2 : sayL t lo hi = rsaid t (wordsL lo n) := by
        unfold sayL; rw [if_pos e1, rsaid_words t (fun u hu => (ok.turn u hu).2.2.2.1), show lo + (n : Int) - 1 = hi by omega]
      have HWO : Hid (∀ W, Calls Tryz.prog 98 #[.int .i64 lo, .int .i64 (hi + 1)] W (RowPost (wordsL lo n) W)) := Lib.hid (fun W => by
        have := words_any lo (hi + 1) (by omega) (by omega) W
        rwa [← hn] at this)
      have hwl : (wordsL lo n).length ≤ 1000000 := by rw [wordsL_length]; omega
      have HSA := Lib.hid (fun p c W (h : Below w.heap.size w W) hL => Said_any t (by omega) (fun u hu => by have := ok.turn u hu; omega) (wordsL lo n) hwl pt p ct c (.slice pw t.words.length cw) (.int .i64 t.breath) W (HW.out.turns.below h) hL)
      have hsum : IntKind.i64.wrap (hi + 1) = hi + 1 := IntWalk.i64_in _ (by omega)
      rw [e1, e2]
      clear he h1 h2 e1 e2 ok hn hwl
      go_enter Tryz.func56, Tryz.ntmps56
      go_wp2_with fail
      refine (HC.out _ HB.out).mono ?_
      rintro e w5 ⟨rfl, hB5⟩
      have HX5 := Lib.hid ((hB5.block w.heap.size (Array.getElem?_eq_some_iff.1 HX.out).1).trans HX.out)
      have HY5 := Lib.hid ((hB5.block (w.heap.size + 1) (Array.getElem?_eq_some_iff.1 HY.out).1).trans HY.out)
      have HB5 := Lib.hid (join HB.out hB5)
      clear hB5
      obtain ⟨k0, k1, k2⟩ := blk3 HX5.out
      have y0 := blk_cells HY5.out 0 _ rfl
      have y1 := blk_cells HY5.out 1 _ rfl
      have HZ0 : w.heap.size < w5.heap.size := (Array.getElem?_eq_some_iff.1 HX5.out).1
      have HZ1 : w.heap.size + 1 < w5.heap.size := (Array.getElem?_eq_some_iff.1 HY5.out).1
      go_wp2_with fail
      refine (off_b _ _ _ _ H1.out _).mono ?_
      rintro e w6 ⟨rfl, rfl⟩
      go_wp2_with fail
      refine (off_b _ _ _ _ H2.out _).mono ?_
      rintro e w6 ⟨rfl, rfl⟩
      go_wp2_with fail
      refine Rs.region_gen 8 [[], [], [1], [], [3], [3, 4], [1, 2, 3, 4, 5], [0, 1, 2, 3, 4, 5, 6]] [some 33, some 34, some 35, some 36, some 37, some 38, some 39, some 40] (spRy t pw pt cw ct (w.heap.size + 1) lo hi n) (by kernel_rfl) (by kernel_rfl) rfl (spRy_stable _ _ _ _ _ _ _ _ _) ?_ ?_
      · refine ⟨fun V w' hG hs => ?_, fun V w' hG hs => ?_, fun V w' hG hs => ?_, fun V w' hG hs => ?_, fun V w' hG hs => ?_, fun V w' hG hs => ?_, fun V w' hG hs => ?_, fun V w' hG hs => ?_, trivial⟩
        all_goals
          obtain ⟨k0, k1, k2⟩ := blk3 ((hG.block w.heap.size HZ0).trans HX5.out)
          have y0 := blk_cells ((hG.block (w.heap.size + 1) HZ1).trans HY5.out) 0 _ rfl
          have y1 := blk_cells ((hG.block (w.heap.size + 1) HZ1).trans HY5.out) 1 _ rfl
        · rw [if_pos (by rfl)]
          exact Rs.GrowL.value (v := .agg #[.slice pw t.words.length cw, .slice pt t.turns.length ct, .int .i64 t.breath]) (w' := w') (by simp [go_sem, Rs.look, k0, k1, k2]) (Rs.Gr.refl _) rfl
        · rw [if_pos (by rfl)]
          exact Rs.GrowL.value (v := .pointer (some ⟨(w.heap.size + 1), 0, none⟩)) (w' := w') (by simp [go_sem, Rs.look]) (Rs.Gr.refl _) rfl
        · have e1 : V 1 = .pointer (some ⟨(w.heap.size + 1), 0, none⟩) := hs 1 (by simp)
          rw [if_pos (by rfl)]
          exact Rs.GrowL.value (v := .int .i64 lo) (w' := w') (by simp [go_sem, Rs.look, e1, y0]) (Rs.Gr.refl _) rfl
        · rw [if_pos (by rfl)]
          exact Rs.GrowL.value (v := .pointer (some ⟨(w.heap.size + 1), 1, none⟩)) (w' := w') (by simp [go_sem, Rs.look]) (Rs.Gr.refl _) rfl
        · have e3 : V 3 = .pointer (some ⟨(w.heap.size + 1), 1, none⟩) := hs 3 (by simp)
          rw [if_pos (by rfl)]
          exact Rs.GrowL.value (v := .int .i64 hi) (w' := w') (by simp [go_sem, Rs.look, e3, y1]) (Rs.Gr.refl _) rfl
        · have e3 : V 3 = .pointer (some ⟨(w.heap.size + 1), 1, none⟩) := hs 3 (by simp)
          have e4 : V 4 = .int .i64 hi := hs 4 (by simp)
          rw [if_pos (by rfl)]
          exact Rs.GrowL.value (v := .int .i64 (hi + 1)) (w' := w') (by simp [go_sem, Rs.look, e3, e4, hsum]) (Rs.Gr.refl _) rfl
        · have e1 : V 1 = .pointer (some ⟨(w.heap.size + 1), 0, none⟩) := hs 1 (by simp)
          have e2 : V 2 = .int .i64 lo := hs 2 (by simp)
          have e3 : V 3 = .pointer (some ⟨(w.heap.size + 1), 1, none⟩) := hs 3 (by simp)
          have e4 : V 4 = .int .i64 hi := hs 4 (by simp)
          have e5 : V 5 = .int .i64 (hi + 1) := hs 5 (by simp)
          rw [if_pos (by rfl)]
          refine Rs.GrowL.call (f := 98) (args := #[.int .i64 lo, .int .i64 (hi + 1)]) (by simp [go_sem, Rs.look, e2, e5]) ?_
          refine (HWO.out w').mono ?_
          rintro e w2 ⟨v, rfl, ho, hB2⟩
          obtain ⟨p, c, rfl, hI, -⟩ := own_rd ho rfl
          exact ⟨_, rfl, hB2, p, c, rfl, hI⟩
        · have e0 : V 0 = .agg #[.slice pw t.words.length cw, .slice pt t.turns.length ct, .int .i64 t.breath] := hs 0 (by simp)
          have e1 : V 1 = .pointer (some ⟨(w.heap.size + 1), 0, none⟩) := hs 1 (by simp)
          have e2 : V 2 = .int .i64 lo := hs 2 (by simp)
          have e3 : V 3 = .pointer (some ⟨(w.heap.size + 1), 1, none⟩) := hs 3 (by simp)
          have e4 : V 4 = .int .i64 hi := hs 4 (by simp)
          have e5 : V 5 = .int .i64 (hi + 1) := hs 5 (by simp)
          have r6 := hs 6 (by simp)
          rw [if_pos (by rfl)]
          obtain ⟨p, c, e6, hI⟩ := r6
          refine Rs.GrowL.call (f := 100) (args := #[.agg #[.slice pw t.words.length cw, .slice pt t.turns.length ct, .int .i64 t.breath], .slice p (wordsL lo n).length c]) (by simp [go_sem, Rs.look, e0, e6]) ?_
          refine (HSA.out p c w' (join HB5.out hG) hI).mono ?_
          rintro e w2 ⟨v, rfl, ho, hB2⟩
          exact ⟨_, rfl, hB2, own_base ho (by have := hG.size; omega)⟩
      · intro V w' hG hs
        have e0 : V 0 = .agg #[.slice pw t.words.length cw, .slice pt t.turns.length ct, .int .i64 t.breath] := hs 0 (by omega)
        have e1 : V 1 = .pointer (some ⟨(w.heap.size + 1), 0, none⟩) := hs 1 (by omega)
        have e2 : V 2 = .int .i64 lo := hs 2 (by omega)
        have e3 : V 3 = .pointer (some ⟨(w.heap.size + 1), 1, none⟩) := hs 3 (by omega)
        have e4 : V 4 = .int .i64 hi := hs 4 (by omega)
        have e5 : V 5 = .int .i64 (hi + 1) := hs 5 (by omega)
        have r6 := hs 6 (by omega)
        have r7 := hs 7 (by omega)
        simp only [Rs.canon, Rs.dstOf, List.range_succ, List.range_zero, List.nil_append, List.cons_append, List.foldl_cons, List.foldl_nil, List.drop_succ_cons, List.drop_zero, List.drop_nil, List.getElem?_toArray, List.getElem?_cons_succ, List.getElem?_cons_zero, Option.bind_some, Act.put, List.getD_cons_succ, List.getD_cons_zero, List.setIfInBounds_toArray, List.set_cons_succ, List.set_cons_zero]
        rw [e0, e1, e2, e3, e4, e5]
        clear e0 e1 e2 e3 e4 e5 hs
        have HO := Lib.hid r7
        obtain ⟨p, c, e7⟩ := own_val r7
        have HBG := Lib.hid hG
        rw [e7] at HO
        clear r6 r7 hG
        rw [e7]
        go_wp2
        go_ret2
        exact ⟨_, rfl, own_base HO.out (by omega), join HB5.out HBG.out⟩
  · have e1 : sayE t lo hi = t.err := by unfold sayE; rw [if_pos he]
    have e2 : sayL t lo hi = [] := by unfold sayL; rw [if_neg (by rw [e1]; exact he)]
    rw [e1, e2]
    have HE : (t.err != 0) = true := by simpa using he
    clear he e1 e2
    generalize t.err = er at HC HE ⊢
    go_enter Tryz.func56, Tryz.ntmps56
    go_wp2_with fail
    refine (HC.out _ HB.out).mono ?_
    rintro e w5 ⟨rfl, hB5⟩
    have HX5 := Lib.hid ((hB5.block w.heap.size (Array.getElem?_eq_some_iff.1 HX.out).1).trans HX.out)
    have HY5 := Lib.hid ((hB5.block (w.heap.size + 1) (Array.getElem?_eq_some_iff.1 HY.out).1).trans HY.out)
    have HB5 := Lib.hid (join HB.out hB5)
    clear hB5
    obtain ⟨k0, k1, k2⟩ := blk3 HX5.out
    have y0 := blk_cells HY5.out 0 _ rfl
    have y1 := blk_cells HY5.out 1 _ rfl
    go_wp2
    go_ret2
    exact ⟨_, rfl, own_none _ _ _ _, HB5.out⟩
end Go.Proofs.YtadnggecnjdhiaaGreat
set_option linter.unusedSimpArgs false
set_option linter.unusedVariables false
namespace Go.Proofs.YtadnggecnjdhiaaGreat
open Go.RowKit Tx
attribute [local go_sem] Oper.semAt_some

theorem places_get (l : List Int) {k : Nat} (h : k ≤ l.length) : (placesL l).getD k 0 = isum (l.take k) := by
  unfold placesL
  rw [List.getD_eq_getElem?_getD, List.getElem?_map, List.getElem?_range (by omega)]; rfl
def spRa (ct A k B O m : Nat) (pt : Option Addr) (uw ul uh fa : Int) (tz : Int) (n : Nat) (r : Bool) : Nat → List Value → Value → World → Prop
  | 0, _, v, _ => v = .pointer (some ⟨A, 1, none⟩)
  | 1, _, v, _ => v = .slice (some ⟨B, O, none⟩) m ct
  | 2, _, v, _ => v = .int .i64 (k : Int)
  | 3, _, v, _ => v = .pointer (some ⟨B, O + k * 3, none⟩)
  | 4, _, v, _ => v = .agg #[.int .i64 uw, .int .i64 ul, .int .i64 uh]
  | 5, _, v, _ => v = .int .i64 fa
  | 6, _, v, _ => v = .int .i64 tz
  | 7, L, v, w => ∃ p c, v = .slice p (wordsL fa n).length c ∧ Ints w p (wordsL fa n)
  | 8, _, v, _ => v = .bool r
  | _, _, _, _ => False
theorem spRa_stable (ct A k B O m : Nat) (pt : Option Addr) (uw ul uh fa : Int) (tz : Int) (n : Nat) (r : Bool) : ∀ i L v w w', spRa ct A k B O m pt uw ul uh fa tz n r i L v w → Rs.Gr w w' → spRa ct A k B O m pt uw ul uh fa tz n r i L v w' := by
  intro i L v w w' h hg
  match i with
  | 0 => exact h
  | 1 => exact h
  | 2 => exact h
  | 3 => exact h
  | 4 => exact h
  | 5 => exact h
  | 6 => exact h
  | 7 => obtain ⟨p, c, h1, h2⟩ := h; exact ⟨p, c, h1, h2.below hg⟩
  | 8 => exact h

set_option maxHeartbeats 6000000 in
set_option maxRecDepth 100000 in
theorem rAstray_any (t : Text) (l : List Int) (he : readErr t l = 0) (hll : l.length ≤ 100000) (pw pt pl : Option Addr) (cw ct cl : Nat) (w : World) (hW : TxAt w t pw pt) (hL : Ints w pl l) :
    Calls Tryz.prog 47 #[.agg #[.slice pw t.words.length cw, .slice pt t.turns.length ct, .int .i64 t.breath], .slice pl l.length cl] w fun e w' =>
      e = .returned (.tuple #[.int .i64 (astrayGo (placesL l) 0 t.turns).1, .agg #[.int .i64 (astrayGo (placesL l) 0 t.turns).2.1, .int .i64 (astrayGo (placesL l) 0 t.turns).2.2.1], .bool (decide ((astrayGo (placesL l) 0 t.turns).2.2.2 = 0))]) ∧ Below w.heap.size w w' := by
  obtain ⟨h0, hx, hs⟩ := read_ok he
  have ok := err_ok h0
  have hn12 := ok.n12
  have hm6 := ok.m6
  have HPRE := Lib.hid (fun k => isum_take_le (fun x h => by have := hx x h; omega) hs k)
  have HXS := Lib.hid hx
  have HU := Lib.hid ok.turn
  have HPL : Hid ((placesL l).length - 1 = l.length) := Lib.hid (by simp [placesL])
  have HPG := Lib.hid (fun k h => places_get l (k := k) h)
  obtain ⟨P, hP⟩ : ∃ P, P = placesL l := ⟨_, rfl⟩
  rw [← hP] at HPL HPG ⊢
  have HT := Lib.hid hW.turns
  have HL := Lib.hid hL
  have HB1 := below1 w (.cells #[.slice pw t.words.length cw, .slice pt t.turns.length ct, .int .i64 t.breath] 32)
  have HX := Lib.hid (((below1 (w.alloc (.cells #[.slice pw t.words.length cw, .slice pt t.turns.length ct, .int .i64 t.breath] 32)) (.cells #[.int .i64 0, .int .i64 0] 58)).block w.heap.size (by simp)).trans (heap_last w _))
  have hy := heap_last (w.alloc (.cells #[.slice pw t.words.length cw, .slice pt t.turns.length ct, .int .i64 t.breath] 32)) (.cells #[.int .i64 0, .int .i64 0] 58)
  rw [World.size_alloc] at hy
  have HY := Lib.hid hy
  have HB := Lib.hid (join HB1 (below1 _ (.cells #[.int .i64 0, .int .i64 0] 58)))
  have hsz : ((w.alloc (.cells #[.slice pw t.words.length cw, .slice pt t.turns.length ct, .int .i64 t.breath] 32)).alloc (.cells #[.int .i64 0, .int .i64 0] 58)).heap.size = w.heap.size + 2 := by simp
  clear hW hL hP hx hs ok h0 he HB1 hy
  go_enter Tryz.func47, Tryz.ntmps47
  go_wp2_with fail
  generalize (w.alloc (.cells #[.slice pw t.words.length cw, .slice pt t.turns.length ct, .int .i64 t.breath] 32)).alloc (.cells #[.int .i64 0, .int .i64 0] 58) = W1 at HB HX HY hsz ⊢
  go_loopw [7, 8, 9, 10, 11] (fun i _ _ _ _ wr => ∃ k : Nat, k ≤ t.turns.length ∧ i = .int .i64 k ∧ astrayGo P k (t.turns.drop k) = astrayGo P 0 t.turns ∧ Below W1.heap.size W1 wr) (fun i _ _ _ _ _ => t.turns.length - (intOf i).toNat)
  case atStart => exact ⟨0, Nat.zero_le _, rfl, rfl, Below.refl _ _⟩
  case round =>
    obtain ⟨w3, rfl⟩ : ∃ w3 : World, w3 = wr := ⟨_, rfl⟩
    obtain ⟨k, hk, rfl, hag, hB3⟩ := hrel
    have HAG := Lib.hid hag
    have HB3 := Lib.hid hB3
    have HX3 := Lib.hid ((hB3.block w.heap.size (by omega)).trans HX.out)
    have HY3 := Lib.hid ((hB3.block (w.heap.size + 1) (by omega)).trans HY.out)
    obtain ⟨k0, k1, k2⟩ := blk3 HX3.out
    have hz3 := hB3.size
    clear hag hB3
    by_cases hlt : k < t.turns.length
    · have hlt' : (k : Int) < t.turns.length := by omega
      have HAT := Lib.hid (astrayGo_at P t.turns k hlt)
      have hu := HU.out (t.turns.getD k default) (getD_mem default hlt)
      rw [HPL.out] at HAT
      go_wp2_with fail
      go_loopw [8, 9, 10, 11] (fun f j _ _ w5 => ∃ a : Nat, a ≤ l.length ∧ j = .int .i64 a ∧ f = .int .i64 (isum (l.take a)) ∧ (∀ a' b', a' < a → a' ≤ b' → b' < l.length → runSays P (t.turns.getD k default) a' b' = false) ∧ Below w3.heap.size w3 w5) (fun _ j _ _ _ => l.length - (intOf j).toNat)
      case atStart => exact ⟨0, Nat.zero_le _, rfl, by simp [isum], fun _ _ h => absurd h (Nat.not_lt_zero _), Below.refl _ _⟩
      case round =>
        obtain ⟨w5, rfl⟩ : ∃ w5 : World, w5 = wr := ⟨_, rfl⟩
        obtain ⟨a, ha, rfl, rfl, hA, hB5⟩ := hrel
        have HA := Lib.hid hA
        have HB5 := Lib.hid hB5
        have hz5 := hB5.size
        clear hA
        by_cases hal : a < l.length
        · have hal' : (a : Int) < l.length := by omega
          have hfb := HPRE.out a
          have HFA : Hid (P.getD a 0 = isum (l.take a)) := Lib.hid (HPG.out a (by omega))
          obtain ⟨fa, hfa⟩ : ∃ fa, fa = isum (l.take a) := ⟨_, rfl⟩
          have HFE := Lib.hid hfa
          rw [← hfa] at hfb HFA ⊢
          clear hfa hB5
          go_wp2_with fail
          go_loopw [10, 11] (fun tv j w6 => ∃ b : Nat, a ≤ b ∧ b ≤ l.length ∧ j = .int .i64 b ∧ tv = .int .i64 (isum (l.take b)) ∧ (∀ b', a ≤ b' → b' < b → runSays P (t.turns.getD k default) a b' = false) ∧ Below w3.heap.size w3 w6) (fun _ j _ => l.length - (intOf j).toNat)
          case atStart => exact ⟨a, Nat.le_refl _, by omega, rfl, by rw [HFE.out], fun b' h1 h2 => by omega, HB5.out⟩
          case round =>
            obtain ⟨w6, rfl⟩ : ∃ w6 : World, w6 = wr := ⟨_, rfl⟩
            obtain ⟨bb, hab, hbl, rfl, rfl, hR, hB6⟩ := hrel
            have HR := Lib.hid hR
            have HB6 := Lib.hid hB6
            have hz6 := hB6.size
            have HBw := Lib.hid (HB.out.trans ((HB3.out.trans (hB6.mono (by omega))).mono (by omega)))
            have HXr := Lib.hid ((hB6.block w.heap.size (by omega)).trans HX3.out)
            have HYr := Lib.hid ((hB6.block (w.heap.size + 1) (by omega)).trans HY3.out)
            clear hR hB6
            by_cases hbm : bb < l.length
            · have hbm' : (bb : Int) < l.length := by omega
              obtain ⟨lb, lo, x, rfl, hlb, hxx, d1⟩ := (HL.out.below HBw.out).at hbm
              have hsn : isum (l.take (bb + 1)) = isum (l.take bb) + x := by rw [take_snocD 0 hbm, isum_snoc, hxx]
              have hp1 := HPRE.out bb
              have hp2 := HPRE.out (bb + 1)
              have hpg := HPG.out (bb + 1) (by omega)
              have hmono : fa ≤ isum (l.take (bb + 1)) := by
                rw [HFE.out, show bb + 1 = a + (bb + 1 - a) by omega, List.take_add, isum_append]
                have := (isum_take_le (l := (l.drop a).take (bb + 1 - a)) (fun y hy => by have := HXS.out y (List.mem_of_mem_drop (List.mem_of_mem_take hy)); omega) rfl ((bb + 1 - a)))
                rw [List.take_take, Nat.min_self] at this
                omega
              rw [hsn] at hp2 hpg hmono
              have HSN := Lib.hid hsn
              have HPB := Lib.hid hpg
              generalize isum (l.take bb) = sb at hp1 hp2 HSN HPB hmono ⊢
              clear hsn hpg hxx
              go_wp2_with fail
              obtain ⟨tz, hto⟩ : ∃ tz, tz = sb + x := ⟨_, rfl⟩
              have HTO := Lib.hid hto
              rw [← hto] at hp2 hmono HSN HPB ⊢
              clear hto
              obtain ⟨b, o, u, rfl, hsb0, huu, c1, c2, c3⟩ := (HT.out.below HBw.out).at hlt
              rw [← huu] at hu HAT HR HA
              have HUU := Lib.hid huu
              obtain ⟨uw, ul, uh⟩ := u
              dsimp only at c1 c2 c3 hu
              obtain ⟨n, hn⟩ : ∃ n : Nat, n = (tz - fa).toNat := ⟨_, rfl⟩
              have HRS : Hid (runSays P ⟨uw, ul, uh⟩ a bb = (coreIn ⟨uw, ul, uh⟩ (wordsL fa n) && !(wordsL fa n).contains uw)) := Lib.hid (by
                rw [otherwise_says ⟨uw, ul, uh⟩ (by dsimp only; omega), runSays, HFA.out, HPB.out, show fa + (n : Int) - 1 = tz - 1 by omega])
              have HWO : Hid (∀ W, Calls Tryz.prog 98 #[.int .i64 fa, .int .i64 tz] W (RowPost (wordsL fa n) W)) := Lib.hid (fun W => by
                have := words_any fa tz (by omega) (by omega) W
                rwa [← hn] at this)
              have hwl : (wordsL fa n).length ≤ 1000000 := by rw [wordsL_length]; omega
              have HOT := Lib.hid (fun p c W hL => otherwise_any ⟨uw, ul, uh⟩ (by dsimp only; omega) (wordsL fa n) hwl p c W hL)
              generalize (coreIn ⟨uw, ul, uh⟩ (wordsL fa n) && !(wordsL fa n).contains uw) = r at HRS HOT
              have hsU : w.heap.size < w6.heap.size := by omega
              have hsb : b < w6.heap.size := hsb0
              have hkn : (k : Int) < t.turns.length := hlt'
              have HC1 := Lib.hid c1
              have HC2 := Lib.hid c2
              have HC3 := Lib.hid c3
              have HHU := Lib.hid hu
              have HD1 := Lib.hid d1
              clear c1 c2 c3 huu hn hwl d1 k0 k1 k2 hu
              refine Rs.region_gen 9 [[], [0], [], [0, 1, 2], [0, 1, 2, 3], [], [], [5, 6], [0, 1, 2, 3, 4, 5, 6, 7]] [some 39, some 40, some 41, some 42, some 43, some 44, some 45, some 46, some 47] (spRa ct w.heap.size k b o t.turns.length (some ⟨b, o, none⟩) uw ul uh fa tz n r) (by kernel_rfl) (by kernel_rfl) rfl (spRa_stable _ _ _ _ _ _ _ _ _ _ _ _ _ _) ?_ ?_
              · refine ⟨fun V w' hG hs => ?_, fun V w' hG hs => ?_, fun V w' hG hs => ?_, fun V w' hG hs => ?_, fun V w' hG hs => ?_, fun V w' hG hs => ?_, fun V w' hG hs => ?_, fun V w' hG hs => ?_, fun V w' hG hs => ?_, trivial⟩
                all_goals
                  obtain ⟨bc, _⟩ := bcell hG
                  obtain ⟨k0, k1, k2⟩ := blk3 ((hG.block w.heap.size hsU).trans HXr.out)
                  have c1 := (bc b (o + k * 3) hsb).trans HC1.out
                  have c2 := (bc b (o + k * 3 + 1) hsb).trans HC2.out
                  have c3 := (bc b (o + k * 3 + 2) hsb).trans HC3.out
                  clear bc
                · rw [if_pos (by rfl)]
                  exact Rs.GrowL.value (v := .pointer (some ⟨w.heap.size, 1, none⟩)) (w' := w') (by simp [go_sem, Rs.look]) (Rs.Gr.refl _) rfl
                · have e0 : V 0 = .pointer (some ⟨w.heap.size, 1, none⟩) := hs 0 (by simp)
                  rw [if_pos (by rfl)]
                  exact Rs.GrowL.value (v := .slice (some ⟨b, o, none⟩) t.turns.length ct) (w' := w') (by simp [go_sem, Rs.look, e0, k1]) (Rs.Gr.refl _) rfl
                · rw [if_pos (by rfl)]
                  exact Rs.GrowL.value (v := .int .i64 (k : Int)) (w' := w') (by simp [go_sem, Rs.look]) (Rs.Gr.refl _) rfl
                · have e0 : V 0 = .pointer (some ⟨w.heap.size, 1, none⟩) := hs 0 (by simp)
                  have e1 : V 1 = .slice (some ⟨b, o, none⟩) t.turns.length ct := hs 1 (by simp)
                  have e2 : V 2 = .int .i64 (k : Int) := hs 2 (by simp)
                  rw [if_pos (by rfl)]
                  exact Rs.GrowL.value (v := .pointer (some ⟨b, o + k * 3, none⟩)) (w' := w') (by simp [go_sem, Rs.look, e0, e1, e2, hkn]) (Rs.Gr.refl _) rfl
                · have e0 : V 0 = .pointer (some ⟨w.heap.size, 1, none⟩) := hs 0 (by simp)
                  have e1 : V 1 = .slice (some ⟨b, o, none⟩) t.turns.length ct := hs 1 (by simp)
                  have e2 : V 2 = .int .i64 (k : Int) := hs 2 (by simp)
                  have e3 : V 3 = .pointer (some ⟨b, o + k * 3, none⟩) := hs 3 (by simp)
                  rw [if_pos (by rfl)]
                  exact Rs.GrowL.value (v := .agg #[.int .i64 uw, .int .i64 ul, .int .i64 uh]) (w' := w') (by simp [go_sem, Rs.look, e0, e1, e2, e3, c1, c2, c3]) (Rs.Gr.refl _) rfl
                · rw [if_pos (by rfl)]
                  exact Rs.GrowL.value (v := .int .i64 fa) (w' := w') (by simp [go_sem, Rs.look]) (Rs.Gr.refl _) rfl
                · rw [if_pos (by rfl)]
                  exact Rs.GrowL.value (v := .int .i64 tz) (w' := w') (by simp [go_sem, Rs.look]) (Rs.Gr.refl _) rfl
                · have e5 : V 5 = .int .i64 fa := hs 5 (by simp)
                  have e6 : V 6 = .int .i64 tz := hs 6 (by simp)
                  rw [if_pos (by rfl)]
                  refine Rs.GrowL.call (f := 98) (args := #[.int .i64 fa, .int .i64 tz]) (by simp [go_sem, Rs.look, e5, e6]) ?_
                  refine (HWO.out w').mono ?_
                  rintro e w2 ⟨v, rfl, ho, hB2⟩
                  obtain ⟨p, c, rfl, hI, -⟩ := own_rd ho rfl
                  exact ⟨_, rfl, hB2, p, c, rfl, hI⟩
                · have e0 : V 0 = .pointer (some ⟨w.heap.size, 1, none⟩) := hs 0 (by simp)
                  have e1 : V 1 = .slice (some ⟨b, o, none⟩) t.turns.length ct := hs 1 (by simp)
                  have e2 : V 2 = .int .i64 (k : Int) := hs 2 (by simp)
                  have e3 : V 3 = .pointer (some ⟨b, o + k * 3, none⟩) := hs 3 (by simp)
                  have e4 : V 4 = .agg #[.int .i64 uw, .int .i64 ul, .int .i64 uh] := hs 4 (by simp)
                  have e5 : V 5 = .int .i64 fa := hs 5 (by simp)
                  have e6 : V 6 = .int .i64 tz := hs 6 (by simp)
                  have r7 := hs 7 (by simp)
                  rw [if_pos (by rfl)]
                  obtain ⟨p, c, e7, hI⟩ := r7
                  refine Rs.GrowL.call (f := 97) (args := #[.agg #[.int .i64 uw, .int .i64 ul, .int .i64 uh], .slice p (wordsL fa n).length c]) (by simp [go_sem, Rs.look, e4, e7]) ?_
                  refine (HOT.out p c w' hI).mono ?_
                  rintro e w2 ⟨rfl, hB2⟩
                  exact ⟨_, rfl, hB2, rfl⟩
              · intro V w' hG hs
                have e0 : V 0 = .pointer (some ⟨w.heap.size, 1, none⟩) := hs 0 (by omega)
                have e1 : V 1 = .slice (some ⟨b, o, none⟩) t.turns.length ct := hs 1 (by omega)
                have e2 : V 2 = .int .i64 (k : Int) := hs 2 (by omega)
                have e3 : V 3 = .pointer (some ⟨b, o + k * 3, none⟩) := hs 3 (by omega)
                have e4 : V 4 = .agg #[.int .i64 uw, .int .i64 ul, .int .i64 uh] := hs 4 (by omega)
                have e5 : V 5 = .int .i64 fa := hs 5 (by omega)
                have e6 : V 6 = .int .i64 tz := hs 6 (by omega)
                have r7 := hs 7 (by omega)
                have e8 : V 8 = .bool r := hs 8 (by omega)
                simp only [Rs.canon, Rs.dstOf, List.range_succ, List.range_zero, List.nil_append, List.cons_append, List.foldl_cons, List.foldl_nil, List.drop_succ_cons, List.drop_zero, List.drop_nil, List.getElem?_toArray, List.getElem?_cons_succ, List.getElem?_cons_zero, Option.bind_some, Act.put, List.getD_cons_succ, List.getD_cons_zero, List.setIfInBounds_toArray, List.set_cons_succ, List.set_cons_zero]
                rw [e0, e1, e2, e3, e4, e5, e6, e8]
                clear e0 e1 e2 e3 e4 e5 e6 e8 hs
                clear r7
                have HBG := Lib.hid hG
                have hrb := (hG.block (w.heap.size + 1) (by omega)).trans HYr.out
                have hzg := hG.size
                clear hG
                cases r with
                | true =>
                  have hfd := runs_find (p := fun a b => runSays P ⟨uw, ul, uh⟩ a b) hab hbm HA.out HR.out HRS.out
                  have hfin : astrayGo P 0 t.turns = ((k : Int), (a : Int), (bb : Int), 0) := by rw [← HAG.out, HAT.out, hfd]
                  have HFIN := Lib.hid hfin
                  have r0 := blk_cells hrb 0 _ rfl
                  have r1 := blk_cells hrb 1 _ rfl
                  have z0 : w'.frozen? ⟨w.heap.size + 1, 0, none⟩ = false := by simp [World.frozen?, hrb]
                  have z1 : w'.frozen? ⟨w.heap.size + 1, 1, none⟩ = false := by simp [World.frozen?, hrb]
                  have hs1 : w.heap.size + 1 < w'.heap.size := by omega
                  have HBW := Lib.hid (join HBw.out HBG.out)
                  clear hfd hfin hrb
                  go_wp2
                  refine bodyPost_ret (v := .tuple #[.int .i64 k, .agg #[.int .i64 a, .int .i64 bb], .bool true]) (by simp [results, Tryz.results47, go_sem, r0, r1]) rfl ⟨by rw [HFIN.out]; rfl, ?_⟩
                  repeat' (first | exact HBW.out | apply belS | apply belA | apply belD)
                  all_goals first | omega | (simp; done) | (simp; omega)
                | false =>
                  clear hrb
                  go_wp2
                  go_roundw
                  case rel =>
                    refine ⟨bb + 1, by omega, by omega, by go_num, by rw [HSN.out], fun b' h1 h2 => ?_, join HB6.out HBG.out⟩
                    rw [← HUU.out]
                    by_cases hb' : b' = bb
                    · subst hb'; exact HRS.out
                    · exact HR.out b' h1 (by omega)
                  case measure => simp [intOf]; omega
            · obtain rfl : bb = l.length := by omega
              obtain ⟨lb, lo, x, rfl, hlb, hxx, d1⟩ := (HL.out.below HBw.out).at hal
              have hsn : isum (l.take (a + 1)) = fa + x := by rw [take_snocD 0 hal, isum_snoc, hxx, HFE.out]
              have hp2 := HPRE.out (a + 1)
              rw [hsn] at hp2
              have HSN := Lib.hid hsn
              clear hsn hxx
              go_wp2
              go_roundw
              case rel =>
                refine ⟨a + 1, by omega, by go_num, by rw [HSN.out], fun a' b' h1 h2 h3 => ?_, HB6.out⟩
                by_cases ha' : a' = a
                · subst ha'; exact HR.out b' h2 h3
                · exact HA.out a' b' (by omega) h2 h3
              case measure => simp [intOf]; omega
        · obtain rfl : a = l.length := by omega
          have hnone := runs_none (p := fun a b => runSays P (t.turns.getD k default) a b) HA.out
          have HN := Lib.hid hnone
          clear hnone
          go_wp2
          go_roundw
          case rel => exact ⟨k + 1, by omega, by go_num, by have := HAT.out; rw [HN.out, HAG.out] at this; exact this.symm, join HB3.out HB5.out⟩
          case measure => simp [intOf]; omega
    · obtain rfl : k = t.turns.length := by omega
      have hfin : astrayGo P 0 t.turns = (0, 0, 0, 6) := by rw [← HAG.out, List.drop_length]; rfl
      have HFIN := Lib.hid hfin
      have r0 := blk_cells HY3.out 0 _ rfl
      have r1 := blk_cells HY3.out 1 _ rfl
      have z0 : w3.frozen? ⟨w.heap.size + 1, 0, none⟩ = false := by simp [World.frozen?, HY3.out]
      have z1 : w3.frozen? ⟨w.heap.size + 1, 1, none⟩ = false := by simp [World.frozen?, HY3.out]
      have hs1 : w.heap.size + 1 < w3.heap.size := by omega
      have HBW := Lib.hid (join HB.out HB3.out)
      clear hfin
      go_wp2
      refine bodyPost_ret (v := .tuple #[.int .i64 0, .agg #[.int .i64 0, .int .i64 0], .bool false]) (by simp [results, Tryz.results47, go_sem, r0, r1]) rfl ⟨by rw [HFIN.out]; rfl, ?_⟩
      repeat' (first | exact HBW.out | apply belS | apply belA | apply belD)
      all_goals first | omega | (simp; done) | (simp; omega)
end Go.Proofs.YtadnggecnjdhiaaGreat
set_option linter.unusedSimpArgs false
set_option linter.unusedVariables false
namespace Go.Proofs.YtadnggecnjdhiaaGreat
open Go.RowKit Tx
attribute [local go_sem] Oper.semAt_some

def greatB (t : Text) (n : Int) : Bool := decide (20 < t.words.length) || (decide (20 < t.turns.length) || (decide (n < (t.words.length : Int)) && decide (t.words.length ≤ 12)))
set_option maxHeartbeats 800000 in
theorem great_any (t : Text) (n : Int) (hl1 : t.words.length ≤ 9223372036854775807) (hl2 : t.turns.length ≤ 9223372036854775807) (pw pt : Option Addr) (cw ct : Nat) (w : World) :
    Calls Tryz.prog 5 #[.agg #[.slice pw t.words.length cw, .slice pt t.turns.length ct, .int .i64 t.breath], .int .i64 n] w fun e w' => e = .returned (.bool (greatB t n)) ∧ Below w.heap.size w w' := by
  have HG := Lib.hid (show greatB t n = (decide (20 < t.words.length) || (decide (20 < t.turns.length) || (decide (n < (t.words.length : Int)) && decide (t.words.length ≤ 12)))) from rfl)
  generalize greatB t n = gb at HG ⊢
  generalize t.words.length = a at HG hl1 ⊢
  generalize t.turns.length = b at HG hl2 ⊢
  by_cases h1 : 20 < a
  · have h1' : (20 : Int) < a := by omega
    have HF : Hid (gb = true) := Lib.hid (by rw [HG.out]; simp [h1])
    clear h1
    go_enter Tryz.func5, Tryz.ntmps5
    go_wp2
    go_ret
    exact ⟨by rw [HF.out]; rfl, below1 _ _⟩
  · have h1' : ¬ (20 : Int) < a := by omega
    by_cases h2 : 20 < b
    · have h2' : (20 : Int) < b := by omega
      have HF : Hid (gb = true) := Lib.hid (by rw [HG.out]; simp [h2])
      clear h1 h2
      go_enter Tryz.func5, Tryz.ntmps5
      go_wp2
      go_ret
      exact ⟨by rw [HF.out]; rfl, below1 _ _⟩
    · have h2' : ¬ (20 : Int) < b := by omega
      by_cases h3 : n < (a : Int)
      · by_cases h4 : a ≤ 12
        · have h4' : (a : Int) ≤ 12 := by omega
          have HF : Hid (gb = true) := Lib.hid (by rw [HG.out]; simp [h3, h4])
          clear h1 h2 h4
          go_enter Tryz.func5, Tryz.ntmps5
          go_wp2
          go_ret
          exact ⟨by rw [HF.out]; rfl, below1 _ _⟩
        · have h4' : ¬ (a : Int) ≤ 12 := by omega
          have HF : Hid (gb = false) := Lib.hid (by rw [HG.out]; simp [h1, h2, h4])
          clear h1 h2 h4
          go_enter Tryz.func5, Tryz.ntmps5
          go_wp2
          go_ret
          exact ⟨by rw [HF.out]; rfl, below1 _ _⟩
      · have HF : Hid (gb = false) := Lib.hid (by rw [HG.out]; simp [h1, h2, h3])
        clear h1 h2
        go_enter Tryz.func5, Tryz.ntmps5
        go_wp2
        go_ret
        exact ⟨by rw [HF.out]; rfl, below1 _ _⟩
end Go.Proofs.YtadnggecnjdhiaaGreat
set_option linter.unusedSimpArgs false
set_option linter.unusedVariables false
namespace Go.Proofs.YtadnggecnjdhiaaGreat
open Go.RowKit Tx

theorem keepSense1_any (u : Turn) (hu : 0 ≤ u.lo ∧ u.lo ≤ u.hi ∧ u.hi ≤ 1000) (l : List Int) (hll : l.length ≤ 1000000) (p : Option Addr) (c A : Nat) (w : World) (hA : w.heap[A]? = some (.cells #[.slice p l.length c] 34 (0, 0))) (hL : Ints w p l) :
    Calls Tryz.prog 134 #[.agg #[.int .i64 u.word, .int .i64 u.lo, .int .i64 u.hi], .pointer (some ⟨A, 0, none⟩)] w fun e w' => e = .returned (.bool (coreIn u l && !l.contains u.word)) ∧ Below w.heap.size w w' := by
  have hAl := (Array.getElem?_eq_some_iff.1 hA).1
  have c0 := blk_cells hA 0 _ rfl
  have HCK := Lib.hid (fun W (h : Below w.heap.size w W) => coreKept_any u hu l hll p c W (hL.below h))
  have HCO := Lib.hid (fun W (h : Below w.heap.size w W) => contains_any l hll p c u.word W (hL.below h))
  obtain ⟨cv, hcv⟩ : ∃ cv, cv = l.contains u.word := ⟨_, rfl⟩
  rw [← hcv] at HCO ⊢
  clear hcv
  obtain ⟨uw, ul, uh⟩ := u
  dsimp only at HCK HCO ⊢
  clear hA hL hu
  cases hc : coreIn ⟨uw, ul, uh⟩ l with
  | true =>
    have HC := Lib.hid hc
    clear hc
    go_enter Tryz.func134, Tryz.ntmps134
    go_wp2_with fail
    refine (HCK.out _ (below1 _ _)).mono ?_
    rintro e w5 ⟨rfl, hB5⟩
    obtain ⟨hc5, hf5⟩ := bcell hB5
    have hz5 : w.heap.size < w5.heap.size ∧ A < w5.heap.size := by have := hB5.size; simp at this; omega
    obtain ⟨hz5, hz6⟩ := hz5
    have HB5 := Lib.hid (join (below1 _ _) hB5)
    rw [HC.out]
    clear hB5
    go_wp2_with fail
    refine (HCO.out _ HB5.out).mono ?_
    rintro e w6 ⟨rfl, rfl⟩
    go_wp2
    go_ret
    exact ⟨by rw [Bool.true_and]; rfl, HB5.out⟩
  | false =>
    have HC := Lib.hid hc
    clear hc
    go_enter Tryz.func134, Tryz.ntmps134
    go_wp2_with fail
    refine (HCK.out _ (below1 _ _)).mono ?_
    rintro e w5 ⟨rfl, hB5⟩
    rw [HC.out]
    go_wp2
    go_ret
    exact ⟨rfl, join (below1 _ _) hB5⟩
theorem entered_keepSense1 : Entered 134 := fun args W => by kernel_rfl

/-- where the first turn is that has a property -/
def idxT (p : Turn → Bool) (ts : List Turn) (z : Int) : Prop := (z = -1 ∧ ts.any p = false) ∨ (0 ≤ z ∧ ts.any p = true)
set_option maxHeartbeats 1000000 in
set_option maxRecDepth 100000 in
theorem indexFuncT (F : FuncId) (hF : Entered F) (E : Value) (q : Turn → Bool) (ts : List Turn) (p : Option Addr) (c : Nat) (w : World) (hl : ts.length ≤ 1000000) (hi : Tns w p ts) (hq : ∀ W, Below w.heap.size w W → ∀ u ∈ ts, Calls Tryz.prog F #[.agg #[.int .i64 u.word, .int .i64 u.lo, .int .i64 u.hi], E] W fun e w' => e = .returned (.bool (q u)) ∧ Below W.heap.size W w') :
    Calls Tryz.prog 145 #[.slice p ts.length c, .func (.func F) #[] #[E]] w fun e w' => ∃ z : Int, e = .returned (.int .i64 z) ∧ idxT q ts z ∧ Below w.heap.size w w' := by
  have HI := Lib.hid hi
  have HQ := Lib.hid hq
  have HF := Lib.hid hF
  clear hi hq hF
  go_enter Tryz.func145, Tryz.ntmps145
  go_wp2_with fail
  go_loopw [5, 8] (fun u5 i wr => ∃ k : Nat, k ≤ ts.length ∧ i = .int .i64 k ∧ (ts.take k).any q = false ∧ Below w.heap.size w wr) (fun _ i _ => ts.length - (intOf i).toNat)
  case atStart => exact ⟨0, Nat.zero_le _, rfl, rfl, Below.refl _ _⟩
  case round =>
    obtain ⟨k, hk, rfl, hA, hB⟩ := hrel
    have HA := Lib.hid hA
    clear hA
    by_cases hlt : k < ts.length
    · have hlt' : (k : Int) < ts.length := by omega
      obtain ⟨b, o, x, rfl, hb, hxx, c1, c2, c3⟩ := (HI.out.below hB).at hlt
      have HX := Lib.hid hxx
      have HB := Lib.hid hB
      have HASK := Lib.hid (HQ.out _ hB x (by rw [hxx]; exact getD_mem default hlt))
      clear hxx hB
      go_wp2_with fail
      rw [HF.out, Oper.upon_enter]
      refine HASK.out.mono ?_
      rintro e w5 ⟨rfl, hB5⟩
      have HB5 := Lib.hid (join HB.out hB5)
      clear HASK hB5
      cases hbad : q x with
      | true =>
        have HBAD := Lib.hid hbad
        clear hbad
        go_wp2
        go_ret
        exact ⟨_, rfl, .inr ⟨by omega, any_hit default hlt _ (by rw [← HX.out]; exact HBAD.out)⟩, HB5.out⟩
      | false =>
        have HBAD := Lib.hid hbad
        clear hbad
        go_wp2
        go_roundw
        case rel => exact ⟨k + 1, by omega, by go_num, any_snoc default hlt _ HA.out (by rw [← HX.out]; exact HBAD.out), HB5.out⟩
        case measure => simp [intOf]; omega
    · obtain rfl : k = ts.length := by omega
      have HB := Lib.hid hB
      clear hB
      go_wp2
      go_ret
      exact ⟨_, rfl, .inl ⟨rfl, by have := HA.out; rwa [List.take_length] at this⟩, HB.out⟩

set_option maxHeartbeats 1000000 in
set_option maxRecDepth 100000 in
theorem containsFuncT (F : FuncId) (hF : Entered F) (E : Value) (q : Turn → Bool) (ts : List Turn) (p : Option Addr) (c : Nat) (w : World) (hl : ts.length ≤ 1000000) (hi : Tns w p ts) (hq : ∀ W, Below w.heap.size w W → ∀ u ∈ ts, Calls Tryz.prog F #[.agg #[.int .i64 u.word, .int .i64 u.lo, .int .i64 u.hi], E] W fun e w' => e = .returned (.bool (q u)) ∧ Below W.heap.size W w') :
    Calls Tryz.prog 129 #[.slice p ts.length c, .func (.func F) #[] #[E]] w fun e w' => e = .returned (.bool (ts.any q)) ∧ Below w.heap.size w w' := by
  have HI := Lib.hid (indexFuncT F hF E q ts p c w hl hi hq)
  clear hi hq
  go_enter Tryz.func129, Tryz.ntmps129
  go_wp2_with fail
  refine HI.out.mono ?_
  rintro e w5 ⟨z, rfl, hz, hB5⟩
  rcases hz with ⟨rfl, ha⟩ | ⟨h0, ha⟩
  · have HA := Lib.hid ha
    clear ha
    go_wp2
    go_ret
    exact ⟨by rw [HA.out]; rfl, hB5⟩
  · have HA := Lib.hid ha
    have hz0 : decide (0 ≤ z) = true := by simpa using h0
    clear ha
    go_wp2
    go_ret
    exact ⟨by rw [HA.out]; rfl, hB5⟩

set_option maxHeartbeats 1000000 in
theorem keepSense_any (t : Text) (ok : Text.Ok t) (l : List Int) (hll : l.length ≤ 1000000) (pt pl : Option Addr) (ct cl : Nat) (v0 v2 v3 : Value) (w : World) (hT : Tns w pt t.turns) (hL : Ints w pl l) :
    Calls Tryz.prog 110 #[.agg #[v0, .slice pt t.turns.length ct, v2, v3], .slice pl l.length cl] w fun e w' => e = .returned (.bool (t.keeps l)) ∧ Below w.heap.size w w' := by
  have hmf := mf
  have hB2 : Below w.heap.size w ((w.alloc (.cells #[v0, .slice pt t.turns.length ct, v2, v3] 84)).alloc (.cells #[.slice pl l.length cl] 34)) := (below1 _ _).alloc (by simp) _
  have hx : ((w.alloc (.cells #[v0, .slice pt t.turns.length ct, v2, v3] 84)).alloc (.cells #[.slice pl l.length cl] 34)).heap[w.heap.size + 1]? = some (.cells #[.slice pl l.length cl] 34 (0, 0)) := by
    have := heap_last (w.alloc (.cells #[v0, .slice pt t.turns.length ct, v2, v3] 84)) (.cells #[.slice pl l.length cl] 34)
    rwa [World.size_alloc] at this
  have hcf := containsFuncT 134 entered_keepSense1 (.pointer (some ⟨w.heap.size + 1, 0, none⟩)) (fun u => coreIn u l && !l.contains u.word) t.turns pt ct _ (by have := ok.m6; omega) (hT.below hB2) (fun W h u hu => by
    have := ok.turn u hu
    have := ok.n12
    exact keepSense1_any u ⟨by omega, by omega, by omega⟩ l hll pl cl (w.heap.size + 1) W ((h.block _ (by simp)).trans hx) ((hL.below hB2).below h))
  obtain ⟨kv, hkv⟩ : ∃ kv, kv = t.turns.any (fun u => coreIn u l && !l.contains u.word) := ⟨_, rfl⟩
  rw [← hkv] at hcf
  have HCF := Lib.hid hcf
  have HB2 := Lib.hid hB2
  have HKV := Lib.hid (show t.keeps l = !kv by rw [hkv]; rfl)
  clear hcf hx hB2 hT hL hkv
  go_enter Tryz.func110, Tryz.ntmps110
  go_wp2_with fail
  refine HCF.out.mono ?_
  rintro e w5 ⟨rfl, hB5⟩
  go_wp2
  go_ret
  exact ⟨by rw [HKV.out]; rfl, join HB2.out hB5⟩
end Go.Proofs.YtadnggecnjdhiaaGreat
set_option linter.unusedSimpArgs false
set_option linter.unusedVariables false
namespace Go.Proofs.YtadnggecnjdhiaaGreat
open Go.RowKit Tx
attribute [local go_sem] Oper.semAt_some

/-- what the iterator and its closure have captured, and the row -/
structure ExC (w : World) (n cw : Nat) (pw : Option Addr) (v1 v2 mv : Value) (many A1 Yb A2 Xb g l : Nat) (L : List Int) : Prop where
  mk_ : w.heap[A1]? = some (.cells #[.int .i64 many] 3 (0, 0))
  yl : w.heap[Yb]? = some (.cells #[.func (.yield l) #[] #[]] 53 (0, 0))
  wk : w.heap[A2]? = some (.cells #[.slice pw n cw, v1, v2, mv] 84 (0, 0))
  ex : w.heap[Xb]? = some (.cells #[.func (.func 142) #[] #[.pointer (some ⟨A1, 0, none⟩), .pointer (some ⟨Yb, 0, none⟩), .pointer (some ⟨A2, 0, none⟩), .pointer (some ⟨Xb, 0, none⟩)]] 149 (0, 0))
  row : ∃ R : List Int, w.heap[g]? = some (.cells (arrOf R) 3 (0, 0)) ∧ R.length = many ∧ R.take L.length = L
theorem ExC.hold {w w' : World} {n cw : Nat} {pw : Option Addr} {v1 v2 mv : Value} {many A1 Yb A2 Xb g l : Nat} {L : List Int} (h : ExC w n cw pw v1 v2 mv many A1 Yb A2 Xb g l L) {Kp : Nat → Prop} (hh : Hold Kp w w') (hk : Kp A1 ∧ Kp Yb ∧ Kp A2 ∧ Kp Xb ∧ Kp g) : ExC w' n cw pw v1 v2 mv many A1 Yb A2 Xb g l L := by
  obtain ⟨R, hr, h1, h2⟩ := h.row
  exact ⟨(hh.same A1 hk.1 (Array.getElem?_eq_some_iff.1 h.mk_).1).trans h.mk_, (hh.same Yb hk.2.1 (Array.getElem?_eq_some_iff.1 h.yl).1).trans h.yl, (hh.same A2 hk.2.2.1 (Array.getElem?_eq_some_iff.1 h.wk).1).trans h.wk,
    (hh.same Xb hk.2.2.2.1 (Array.getElem?_eq_some_iff.1 h.ex).1).trans h.ex, R, (hh.same g hk.2.2.2.2 (Array.getElem?_eq_some_iff.1 hr).1).trans hr, h1, h2⟩
theorem ExC.below {w w' : World} {n cw : Nat} {pw : Option Addr} {v1 v2 mv : Value} {many A1 Yb A2 Xb g l : Nat} {L : List Int} (h : ExC w n cw pw v1 v2 mv many A1 Yb A2 Xb g l L) (hb : Below w.heap.size w w') : ExC w' n cw pw v1 v2 mv many A1 Yb A2 Xb g l L :=
  h.hold (Kp := fun _ => True) (.below hb) ⟨trivial, trivial, trivial, trivial, trivial⟩
/-- a shorter list is there, too -/
theorem ExC.shorter {w : World} {n cw : Nat} {pw : Option Addr} {v1 v2 mv : Value} {many A1 Yb A2 Xb g l : Nat} {L : List Int} {x : Int} (h : ExC w n cw pw v1 v2 mv many A1 Yb A2 Xb g l (L ++ [x])) : ExC w n cw pw v1 v2 mv many A1 Yb A2 Xb g l L := by
  obtain ⟨R, hr, h1, h2⟩ := h.row
  refine ⟨h.mk_, h.yl, h.wk, h.ex, R, hr, h1, ?_⟩
  have := congrArg (List.take L.length) h2
  rw [List.take_take, List.take_left] at this
  rwa [Nat.min_eq_left (by simp)] at this
theorem ExC.ints {w : World} {n cw : Nat} {pw : Option Addr} {v1 v2 mv : Value} {many A1 Yb A2 Xb g l : Nat} {L : List Int} (h : ExC w n cw pw v1 v2 mv many A1 Yb A2 Xb g l L) : Ints w (some ⟨g, 0, none⟩) L := by
  obtain ⟨R, hr, h1, h2⟩ := h.row
  refine .inr ⟨_, _, rfl, (Array.getElem?_eq_some_iff.1 hr).1, fun i hi => ?_⟩
  have hR : L.length ≤ R.length := by rw [← h2, List.length_take]; omega
  rw [Nat.zero_add, blk_cells hr i _ (arrOf_get (by omega))]
  conv => rhs; rw [← h2]
  simp [hi]
/-- a word more in the row -/
theorem ExC.push {w : World} {n cw : Nat} {pw : Option Addr} {v1 v2 mv : Value} {many A1 Yb A2 Xb g l : Nat} {L : List Int} (h : ExC w n cw pw v1 v2 mv many A1 Yb A2 Xb g l L) (x : Int) (hL : L.length < many) (hne : A1 ≠ g ∧ Yb ≠ g ∧ A2 ≠ g ∧ Xb ≠ g) : ExC (w.setCell ⟨g, L.length, none⟩ (.int .i64 x)) n cw pw v1 v2 mv many A1 Yb A2 Xb g l (L ++ [x]) := by
  obtain ⟨R, hr, h1, h2⟩ := h.row
  have hh : Hold (fun k => k ≠ g) w (w.setCell ⟨g, L.length, none⟩ (.int .i64 x)) := Hold.setCell _ _ _ (fun h => h rfl)
  refine ⟨(hh.same A1 hne.1 (Array.getElem?_eq_some_iff.1 h.mk_).1).trans h.mk_, (hh.same Yb hne.2.1 (Array.getElem?_eq_some_iff.1 h.yl).1).trans h.yl, (hh.same A2 hne.2.2.1 (Array.getElem?_eq_some_iff.1 h.wk).1).trans h.wk,
    (hh.same Xb hne.2.2.2 (Array.getElem?_eq_some_iff.1 h.ex).1).trans h.ex, R.set L.length x, by rw [heap_set_same _ hr, arrOf_set], by simp [h1], ?_⟩
  rw [List.length_append, List.length_cons, List.length_nil]
  apply List.ext_getElem?
  intro i
  rw [List.getElem?_take, List.getElem?_set]
  by_cases hi : i < L.length
  · rw [if_pos (by omega), if_neg (by omega), List.getElem?_append_left hi]
    conv => rhs; rw [← h2]
    rw [List.getElem?_take, if_pos hi]
  · by_cases hi2 : i = L.length
    · subst hi2; rw [if_pos (by omega), if_pos rfl, if_pos (by omega)]; simp
    · rw [if_neg (by omega), List.getElem?_eq_none (by simp; omega)]

/-- the lists that begin with a word before k -/
def listsTo (n r a k : Nat) : List (List Int) := (List.range' a (k - a)).flatMap fun x => (Tx.lists n r (x + 1)).map fun l => (x : Int) :: l
theorem listsTo_all (n r a : Nat) : listsTo n r a n = Tx.lists n (r + 1) a := rfl
theorem listsTo_none (n r a : Nat) : listsTo n r a a = [] := by unfold listsTo; rw [Nat.sub_self]; rfl
theorem listsTo_succ (n r a k : Nat) (h : a ≤ k) : listsTo n r a (k + 1) = listsTo n r a k ++ (Tx.lists n r (k + 1)).map fun l => (k : Int) :: l := by
  unfold listsTo
  rw [show k + 1 - a = (k - a) + 1 by omega, List.range'_concat, List.flatMap_append, show a + 1 * (k - a) = k by omega]
  simp
theorem listsTo_split (n r a k : Nat) (h : a ≤ k) (hk : k < n) : ∃ post, Tx.lists n (r + 1) a = listsTo n r a k ++ ((Tx.lists n r (k + 1)).map fun l => (k : Int) :: l) ++ post := by
  refine ⟨(List.range' (k + 1) (n - k - 1)).flatMap fun x => (Tx.lists n r (x + 1)).map fun l => (x : Int) :: l, ?_⟩
  rw [← listsTo_succ n r a k h, ← listsTo_all]
  unfold listsTo
  rw [← List.flatMap_append]
  congr 1
  have := List.range'_append (s := a) (m := k + 1 - a) (n := n - k - 1) (step := 1)
  rw [show a + 1 * (k + 1 - a) = k + 1 by omega, show (k + 1 - a) + (n - k - 1) = n - a by omega] at this
  exact this.symm

/-- a list is in the row that a round is handed -/
def SeeL (g many : Nat) (L : List Int) (vs : Array Value) (w : World) : Prop := vs = #[.slice (some ⟨g, 0, none⟩) many many] ∧ L.length = many ∧ Ints w (some ⟨g, 0, none⟩) L

/-- how worlds go on while a word is laid into the row -/
def GEx (B0 : Nat) (n cw : Nat) (pw : Option Addr) (v1 v2 mv : Value) (many A1 Yb A2 Xb g l : Nat) (L : List Int) (k : Nat) (w w' : World) : Prop :=
  Hold (fun j => j ≠ g) w w' ∧ Below B0 w w' ∧ (ExC w n cw pw v1 v2 mv many A1 Yb A2 Xb g l L → ExC w' n cw pw v1 v2 mv many A1 Yb A2 Xb g l L) ∧ (ExC w n cw pw v1 v2 mv many A1 Yb A2 Xb g l (L ++ [(k : Int)]) → ExC w' n cw pw v1 v2 mv many A1 Yb A2 Xb g l (L ++ [(k : Int)]))
theorem gEx (B0 : Nat) (n cw : Nat) (pw : Option Addr) (v1 v2 mv : Value) (many A1 Yb A2 Xb g l : Nat) (L : List Int) (k : Nat) : Rg.IsGr (GEx B0 n cw pw v1 v2 mv many A1 Yb A2 Xb g l L k) :=
  ⟨fun w => ⟨.refl _ _, .refl _ _, id, id⟩, fun h h' => ⟨h.1.trans h'.1, h.2.1.trans h'.2.1, fun x => h'.2.2.1 (h.2.2.1 x), fun x => h'.2.2.2 (h.2.2.2 x)⟩,
    fun w => ⟨⟨rfl, rfl, rfl, Nat.le_refl _, fun _ _ _ => rfl⟩, ⟨rfl, rfl, rfl, Nat.le_refl _, fun _ _ => rfl⟩, fun x => ⟨x.mk_, x.yl, x.wk, x.ex, x.row⟩, fun x => ⟨x.mk_, x.yl, x.wk, x.ex, x.row⟩⟩⟩
def spLs (n cw : Nat) (pw : Option Addr) (v1 v2 mv : Value) (many A1 Yb A2 Xb g l : Nat) (Lx : List Int) (k : Nat) : Nat → List Value → Value → World → Prop
  | 0, _, v, _ => v = .func (.func 142) #[] #[.pointer (some ⟨A1, 0, none⟩), .pointer (some ⟨Yb, 0, none⟩), .pointer (some ⟨A2, 0, none⟩), .pointer (some ⟨Xb, 0, none⟩)]
  | 1, _, v, _ => v = .slice (some ⟨g, 0, none⟩) Lx.length many
  | 2, _, v, _ => v = .int .i64 k
  | 3, L, v, w => ∃ p, v = .slice (some ⟨p, 0, none⟩) 1 1 ∧ p ≠ g ∧ w.heap[p]? = some (.cells #[.int .i64 k] 3 (0, 0))
  | 4, L, v, w => v = .slice (some ⟨g, 0, none⟩) (Lx.length + 1) many ∧ ExC w n cw pw v1 v2 mv many A1 Yb A2 Xb g l (Lx ++ [(k : Int)])
  | 5, _, v, _ => v = .int .i64 k
  | 6, _, v, _ => v = .int .i64 ((k : Int) + 1)
  | _, _, _, _ => False
theorem spLs_stable (B0 : Nat) (n cw : Nat) (pw : Option Addr) (v1 v2 mv : Value) (many A1 Yb A2 Xb g l : Nat) (Lx : List Int) (k : Nat) : ∀ i L v w w', spLs n cw pw v1 v2 mv many A1 Yb A2 Xb g l Lx k i L v w → GEx B0 n cw pw v1 v2 mv many A1 Yb A2 Xb g l Lx k w w' → spLs n cw pw v1 v2 mv many A1 Yb A2 Xb g l Lx k i L v w' := by
  intro i L v w w' h hg
  match i with
  | 0 => exact h
  | 1 => exact h
  | 2 => exact h
  | 3 => obtain ⟨p, h1, h2, h3⟩ := h; exact ⟨p, h1, h2, (hg.1.same p h2 (Array.getElem?_eq_some_iff.1 h3).1).trans h3⟩
  | 4 => exact ⟨h.1, hg.2.2.2 h.2⟩
  | 5 => exact h
  | 6 => exact h
set_option maxHeartbeats 2000000 in
set_option maxRecDepth 100000 in
theorem extend_in (n cw : Nat) (pw : Option Addr) (v1 v2 mv : Value) (many A1 Yb A2 Xb g l : Nat) (hn : n ≤ 12) (hmany : many ≤ 12) (Kp : Nat → Prop) (hK : Kp A1 ∧ Kp Yb ∧ Kp A2 ∧ Kp Xb ∧ Kp g) (hne : A1 ≠ g ∧ Yb ≠ g ∧ A2 ≠ g ∧ Xb ≠ g) (B0 : Nat) (hB0 : B0 ≤ g) (LL : List (List Int))
    (J Jx : List (List Int) → World → Prop) (hJ : Low B0 J)
    (hY : ∀ m' pre x post vs W, LL = pre ++ x :: post → SeeL g many x vs W → J pre W → YieldAt Fence.wide m' Tryz.prog l vs W fun e W' =>
      (e = .returned (.bool true) ∧ J (pre ++ [x]) W' ∧ Hold Kp W W') ∨ (e = .returned (.bool false) ∧ Jx (pre ++ [x]) W' ∧ Hold Kp W W')) :
    ∀ (r m a : Nat) (L : List Int) (pre post : List (List Int)) (W : World), L.length + r = many → a ≤ n → B0 ≤ W.heap.size → ExC W n cw pw v1 v2 mv many A1 Yb A2 Xb g l L → J pre W → LL = pre ++ (Tx.lists n r a).map (L ++ ·) ++ post →
      CallsIn Fence.wide m Tryz.prog 142 #[.slice (some ⟨g, 0, none⟩) L.length many, .int .i64 a, .pointer (some ⟨A1, 0, none⟩), .pointer (some ⟨Yb, 0, none⟩), .pointer (some ⟨A2, 0, none⟩), .pointer (some ⟨Xb, 0, none⟩)] W fun e W' =>
        (e = .returned (.bool true) ∧ J (pre ++ (Tx.lists n r a).map (L ++ ·)) W' ∧ ExC W' n cw pw v1 v2 mv many A1 Yb A2 Xb g l L ∧ W.heap.size ≤ W'.heap.size) ∨ (e = .returned (.bool false) ∧ ∃ q, Jx q W') := by
  intro r
  induction r with
  | zero =>
    intro m a L pre post W hLr han hBW hC hJp hLL
    have hll : (Tx.lists n 0 a).map (L ++ ·) = [L] := by simp [Tx.lists]
    rw [hll] at hLL ⊢
    have hLm : L.length = many := by omega
    obtain ⟨fn, tmps, assign, body, hy, hR⟩ := hY (m - 1) pre L post #[.slice (some ⟨g, 0, none⟩) many many] W (by rw [hLL]; simp) ⟨rfl, hLm, hC.ints⟩ hJp
    have c1 := blk_cells hC.mk_ 0 _ rfl
    have c2 := blk_cells hC.yl 0 _ rfl
    have hs1 := (Array.getElem?_eq_some_iff.1 hC.mk_).1
    have hs2 := (Array.getElem?_eq_some_iff.1 hC.yl).1
    have HC := Lib.hid hC
    have HLL := Lib.hid hLL
    rw [hLm]
    clear hC hLL hll hLr hLm
    refine callsIn_of_wp Tryz.func142 rfl trivial ?_ rfl
    simp only [Tryz.ntmps142, List.size_toArray, List.length_cons, List.length_nil, Nat.reduceAdd, Nat.reduceSub, Array.replicate_succ, Array.replicate_zero, List.push_toArray, List.append_toArray, List.nil_append, List.cons_append]
    gi_wp2
    refine ⟨(fun h => by cases h), hR.mono ?_⟩
    rintro e W3 (⟨rfl, hJ3, hk3⟩ | ⟨rfl, hJx3, hk3⟩)
    · gi_wp2
      go_ret
      exact .inl ⟨rfl, hJ3, HC.out.hold hk3 hK, hk3.size⟩
    · gi_wp2
      go_ret
      exact .inr ⟨rfl, _, hJx3⟩
  | succ r ih =>
    intro m a L pre post W hLr han hBW hC hJp hLL
    have hLm : L.length < many := by omega
    have hLm' : ((L.length : Int) == (many : Int)) = false := by rw [beq_eq_false_iff_ne]; omega
    have HY := Lib.hid hY
    have HIH := Lib.hid ih
    have HLL := Lib.hid hLL
    have HC := Lib.hid hC
    have HJ := Lib.hid hJ
    have HJp := Lib.hid hJp
    have c1 := blk_cells hC.mk_ 0 _ rfl
    have hs1 := (Array.getElem?_eq_some_iff.1 hC.mk_).1
    clear hY ih hLL hC hJ hJp
    refine callsIn_of_wp Tryz.func142 rfl trivial ?_ rfl
    simp only [Tryz.ntmps142, List.size_toArray, List.length_cons, List.length_nil, Nat.reduceAdd, Nat.reduceSub, Array.replicate_succ, Array.replicate_zero, List.push_toArray, List.append_toArray, List.nil_append, List.cons_append]
    gi_wp2_with fail
    gi_loopw [9] (fun u wr => ∃ k : Nat, u = .int .i64 k ∧ a ≤ k ∧ k ≤ n ∧ J (pre ++ (listsTo n r a k).map (L ++ ·)) wr ∧ ExC wr n cw pw v1 v2 mv many A1 Yb A2 Xb g l L ∧ W.heap.size ≤ wr.heap.size) (fun u _ => n - (intOf u).toNat)
    case atStart => exact ⟨a, rfl, Nat.le_refl _, han, by rw [listsTo_none]; simpa using HJp.out, HC.out, Nat.le_refl _⟩
    case round =>
      obtain ⟨k, rfl, hak, hkn, hJr, hCr, hsz⟩ := hrel
      have HJr := Lib.hid hJr
      have HCr := Lib.hid hCr
      have k0 := blk_cells hCr.wk 0 _ rfl
      have hs2 := (Array.getElem?_eq_some_iff.1 hCr.wk).1
      clear hJr hCr c1 hs1
      by_cases hlt : k < n
      · have hlt' : (k : Int) < n := by omega
        gi_wp2_with fail
        refine wpIn_wide.2 ?_
        obtain ⟨i0, hi0, hz0, hz1, hz2⟩ := info_parts A_infoI
        have hsum : IntKind.i64.wrap ((k : Int) + 1) = (k : Int) + 1 := IntWalk.i64_in _ (by omega)
        have hkB : B0 ≤ wr.heap.size := by omega
        refine Rg.region_gen (gEx B0 n cw pw v1 v2 mv many A1 Yb A2 Xb g l L k) 7 [[], [], [], [2], [1, 2, 3], [], [5]] [some 26, some 27, some 28, some 29, some 30, some 31, some 32] (spLs n cw pw v1 v2 mv many A1 Yb A2 Xb g l L k) (by kernel_rfl) (by kernel_rfl) rfl (spLs_stable _ _ _ _ _ _ _ _ _ _ _ _ _ _ _ _) ?_ ?_
        · refine ⟨fun V w' hG hs => ?_, fun V w' hG hs => ?_, fun V w' hG hs => ?_, fun V w' hG hs => ?_, fun V w' hG hs => ?_, fun V w' hG hs => ?_, fun V w' hG hs => ?_, trivial⟩
          all_goals
            have hCw := hG.2.2.1 HCr.out
            have cx := blk_cells hCw.ex 0 _ rfl
          · rw [if_pos (by rfl)]
            exact Rg.GrowL.value (v := .func (.func 142) #[] #[.pointer (some ⟨A1, 0, none⟩), .pointer (some ⟨Yb, 0, none⟩), .pointer (some ⟨A2, 0, none⟩), .pointer (some ⟨Xb, 0, none⟩)]) (w' := w') (by simp [go_sem, Rs.look, cx]) ((gEx _ _ _ _ _ _ _ _ _ _ _ _ _ _ _ _).refl _) rfl
          · rw [if_pos (by rfl)]
            exact Rg.GrowL.value (v := .slice (some ⟨g, 0, none⟩) L.length many) (w' := w') (by simp [go_sem, Rs.look]) ((gEx _ _ _ _ _ _ _ _ _ _ _ _ _ _ _ _).refl _) rfl
          · rw [if_pos (by rfl)]
            exact Rg.GrowL.value (v := .int .i64 k) (w' := w') (by simp [go_sem, Rs.look]) ((gEx _ _ _ _ _ _ _ _ _ _ _ _ _ _ _ _).refl _) rfl
          · have e2 : V 2 = .int .i64 k := hs 2 (by simp)
            rw [if_pos (by rfl)]
            refine Rg.GrowL.value (v := .slice (some ⟨w'.heap.size, 0, none⟩) 1 1) (w' := w'.alloc (.cells #[.int .i64 k] 3)) (by simp [go_sem, Rs.look, e2]) ⟨.below (below1 _ _), belA (Below.refl _ _) (by have := hG.2.1.size; omega), fun h => h.below (below1 _ _), fun h => h.below (below1 _ _)⟩ ⟨_, rfl, ?_, heap_last _ _⟩
            obtain ⟨R, hr, _⟩ := (hG.2.2.1 HCr.out).row
            have := (Array.getElem?_eq_some_iff.1 hr).1
            omega
          · have e1 : V 1 = .slice (some ⟨g, 0, none⟩) L.length many := hs 1 (by simp)
            have e2 : V 2 = .int .i64 k := hs 2 (by simp)
            have r3 := hs 3 (by simp)
            rw [if_pos (by rfl)]
            obtain ⟨p3, e3, hp3, x3⟩ := r3
            have hCn := hG.2.2.1 HCr.out
            obtain ⟨R, hr, hR1, hR2⟩ := hCn.row
            have hcell := blk_cells hr L.length _ (arrOf_get (by omega))
            have hrun := run_append_room_cells (P := Tryz.prog) w' 34 34 3 i0 A_undI hi0 g 0 L.length many ⟨p3, 0, none⟩ 1 1 [.int .i64 k] (by rw [hz1]; rfl) (fun j u hj => by match j, hj with | 0, hj => (simp at hj; subst hj; exact blk_cells x3 0 _ rfl)) (by intro u hu; simp at hu; subst hu; rfl) (by omega) (fun j hj => by simp at hj; subst hj; rw [hz1]; simp [hcell]) (fun j hj => by simp at hj; subst hj; rw [hz1]; simp [World.frozen?, hr])
            rw [hz1] at hrun
            refine Rg.GrowL.value (v := .slice (some ⟨g, 0, none⟩) (L.length + 1) many) (w' := w'.setCell ⟨g, L.length, none⟩ (.int .i64 k)) ?_ ⟨Hold.setCell _ _ _ (fun h => h rfl), belS (Below.refl _ _) hB0, fun h => (h.push (k : Int) hLm hne).shorter, fun h => h.shorter.push (k : Int) hLm hne⟩ ⟨rfl, hCn.push (k : Int) hLm hne⟩
            simp [execOp, Rs.look, e1, e3, resolve, invoke, builtin, hrun, Result.andThen]
            rfl
          · rw [if_pos (by rfl)]
            exact Rg.GrowL.value (v := .int .i64 k) (w' := w') (by simp [go_sem, Rs.look]) ((gEx _ _ _ _ _ _ _ _ _ _ _ _ _ _ _ _).refl _) rfl
          · have e5 : V 5 = .int .i64 k := hs 5 (by simp)
            rw [if_pos (by rfl)]
            exact Rg.GrowL.value (v := .int .i64 ((k : Int) + 1)) (w' := w') (by simp [go_sem, Rs.look, e5, hsum]) ((gEx _ _ _ _ _ _ _ _ _ _ _ _ _ _ _ _).refl _) rfl
        · intro V w' hG hs
          have e0 : V 0 = .func (.func 142) #[] #[.pointer (some ⟨A1, 0, none⟩), .pointer (some ⟨Yb, 0, none⟩), .pointer (some ⟨A2, 0, none⟩), .pointer (some ⟨Xb, 0, none⟩)] := hs 0 (by omega)
          have e1 : V 1 = .slice (some ⟨g, 0, none⟩) L.length many := hs 1 (by omega)
          have e2 : V 2 = .int .i64 k := hs 2 (by omega)
          have r3 := hs 3 (by omega)
          have r4 := hs 4 (by omega)
          have e5 : V 5 = .int .i64 k := hs 5 (by omega)
          have e6 : V 6 = .int .i64 ((k : Int) + 1) := hs 6 (by omega)
          obtain ⟨p3, e3, hp3, x3⟩ := r3
          obtain ⟨e4, hC4⟩ := r4
          simp only [Rs.canon, Rs.dstOf, List.range_succ, List.range_zero, List.nil_append, List.cons_append, List.foldl_cons, List.foldl_nil, List.drop_succ_cons, List.drop_zero, List.drop_nil, List.getElem?_toArray, List.getElem?_cons_succ, List.getElem?_cons_zero, Option.bind_some, Act.put, List.getD_cons_succ, List.getD_cons_zero, List.setIfInBounds_toArray, List.set_cons_succ, List.set_cons_zero]
          rw [e0, e1, e2, e5, e6, e3, e4]
          clear e0 e1 e2 e5 e6 e3 e4 hs
          obtain ⟨post1, hsp⟩ := listsTo_split n r a k hak hlt
          have hLL' : LL = (pre ++ (listsTo n r a k).map (L ++ ·)) ++ (Tx.lists n r (k + 1)).map ((L ++ [(k : Int)]) ++ ·) ++ (post1.map (L ++ ·) ++ post) := by
            rw [HLL.out, hsp]
            simp [List.map_append, List.map_map, Function.comp_def]
          have hcall := callsIn_wide.1 (HIH.out 0 (k + 1) (L ++ [(k : Int)]) (pre ++ (listsTo n r a k).map (L ++ ·)) (post1.map (L ++ ·) ++ post) w' (by simp; omega) (by omega) (by have := hG.2.1.size; omega) hC4 (HJ.out _ _ _ HJr.out hG.2.1) hLL')
          rw [List.length_append, List.length_cons, List.length_nil, Nat.zero_add, show ((k + 1 : Nat) : Int) = (k : Int) + 1 from by omega] at hcall
          have HCALL := Lib.hid hcall
          have HG := Lib.hid hG
          have hg1 := hG.1.size
          have HSP := Lib.hid (listsTo_succ n r a k hak)
          clear hLL' hsp hcall hG hC4 x3 k0
          go_wp2_with fail
          refine HCALL.out.mono ?_
          rintro e w9 (⟨rfl, hJ9, hC9, hs9⟩ | ⟨rfl, q, hx⟩)
          · have HJ9 := Lib.hid hJ9
            have HC9 := Lib.hid hC9
            clear hJ9 hC9
            go_wp2_with fail
            gi_wp2
            go_roundw
            case rel =>
              refine ⟨k + 1, by go_num, by omega, by omega, ?_, HC9.out.shorter, by omega⟩
              have h9 := HJ9.out
              rw [HSP.out, List.map_append, ← List.append_assoc]
              have hmm : ((Tx.lists n r (k + 1)).map fun l => (k : Int) :: l).map (L ++ ·) = (Tx.lists n r (k + 1)).map ((L ++ [(k : Int)]) ++ ·) := by
                simp [List.map_map, Function.comp_def]
              rw [hmm]; exact h9
            case measure => simp [intOf]; omega
          · have HXX := Lib.hid hx
            clear hx
            go_wp2_with fail
            gi_wp2
            go_ret
            exact .inr ⟨rfl, _, HXX.out⟩
      · obtain rfl : k = n := by omega
        gi_wp2
        go_ret
        exact .inl ⟨rfl, by rw [← listsTo_all]; exact HJr.out, HCr.out, hsz⟩

theorem yieldAt_any {m m' : Nat} {P : Program} {l : Nat} {args : Array Value} {W : World} {R : Ending → World → Prop} (h : YieldAt Fence.wide m P l args W R) : YieldAt Fence.wide m' P l args W R := by
  obtain ⟨fn, tmps, assign, body, hy, hR⟩ := h
  exact ⟨fn, tmps, assign, body, hy, hR.1, fun c cs _ => hR.2 c cs (room_wide _)⟩
theorem make_cap (n : Nat) (hn : n ≤ 1000000) (W : World) : (Instr.makeSlice 34 (.int .i64 0) (.int .i64 (n : Int))).run Tryz.prog W = .ok (.slice (some ⟨W.heap.size, 0, none⟩) 0 n) (W.alloc (.cells (arrOf (List.replicate n 0)) 3)) := by
  obtain ⟨i0, hi, hz0, hz1, hz2⟩ := info_parts A_infoI
  have hr := run_make (P := Tryz.prog) W 34 3 i0 (.int .i64 0) A_undI hi hz0 .i64 .i64 0 n (by omega) (by omega) (by rw [hz2]; omega) (by omega)
  simp only [Int.toNat_natCast, hz1, Nat.mul_one] at hr
  rw [show (Value.int IntKind.i64 0).cells = #[.int .i64 0] from rfl, made_int] at hr
  exact hr
/-- a list in a row of the iterator's own -/
def SeeLs (many : Nat) (L : List Int) (vs : Array Value) (w : World) : Prop := ∃ g, SeeL g many L vs w

def spLt (A1 Yb A2 Xb many B : Nat) : Nat → List Value → Value → World → Prop
  | 0, _, v, _ => v = .func (.func 142) #[] #[.pointer (some ⟨A1, 0, none⟩), .pointer (some ⟨Yb, 0, none⟩), .pointer (some ⟨A2, 0, none⟩), .pointer (some ⟨Xb, 0, none⟩)]
  | 1, _, v, _ => v = .int .i64 many
  | 2, L, v, w => ∃ p, v = .slice (some ⟨p, 0, none⟩) 0 many ∧ B ≤ p ∧ w.heap[p]? = some (.cells (arrOf (List.replicate many 0)) 3 (0, 0))
  | _, _, _, _ => False
theorem spLt_stable (A1 Yb A2 Xb many B : Nat) : ∀ i L v w w', spLt A1 Yb A2 Xb many B i L v w → Rs.Gr w w' → spLt A1 Yb A2 Xb many B i L v w' := by
  intro i L v w w' h hg
  match i with
  | 0 => exact h
  | 1 => exact h
  | 2 => obtain ⟨p, h1, h2, h3⟩ := h; exact ⟨p, h1, h2, (hg.block p (Array.getElem?_eq_some_iff.1 h3).1).trans h3⟩
set_option maxHeartbeats 1000000 in
set_option maxRecDepth 100000 in
theorem lists1_seq (m n cw many : Nat) (hn : n ≤ 12) (hmany : many ≤ 12) (pw : Option Addr) (v1 v2 mv : Value) (A1 A2 : Nat) (w : World) (Kp0 : Nat → Prop) (hA : Kp0 A1 ∧ Kp0 A2)
    (h1 : w.heap[A1]? = some (.cells #[.int .i64 many] 3 (0, 0))) (h2 : w.heap[A2]? = some (.cells #[.slice pw n cw, v1, v2, mv] 84 (0, 0))) :
    SeqOf m Tryz.prog 141 #[.pointer (some ⟨A1, 0, none⟩), .pointer (some ⟨A2, 0, none⟩)] (SeeLs many) Kp0 (Tx.lists n many 0) w := by
  intro l J Jx W hb hJ hY h0
  have hl1 := (Array.getElem?_eq_some_iff.1 h1).1
  have hl2 := (Array.getElem?_eq_some_iff.1 h2).1
  have g1 := (hb.block A1 hl1).trans h1
  have g2 := (hb.block A2 hl2).trans h2
  have hbs := hb.size
  have c1 := blk_cells g1 0 _ rfl
  have hW1 : A1 < W.heap.size := by omega
  have HMK := Lib.hid (make_cap many (by omega))
  have hmf := mf
  refine callsIn_of_wp Tryz.func141 rfl trivial ?_ rfl
  simp only [Tryz.ntmps141, List.size_toArray, List.length_cons, List.length_nil, Nat.reduceAdd, Nat.reduceSub, Array.replicate_succ, Array.replicate_zero, List.push_toArray, List.append_toArray, List.nil_append, List.cons_append]
  gi_wp2_with fail
  refine wpIn_wide.2 ?_
  have hy2 : ((W.alloc (.cells #[.func (.yield l) #[] #[]] 53)).alloc (.cells #[.func (.func 142) #[] #[.pointer (some ⟨A1, 0, none⟩), .pointer (some ⟨W.heap.size, 0, none⟩), .pointer (some ⟨A2, 0, none⟩), .pointer (some ⟨W.heap.size + 1, 0, none⟩)]] 149)).heap[W.heap.size]? = some (.cells #[.func (.yield l) #[] #[]] 53 (0, 0)) := by
    rw [Below.heap_alloc _ _ _ (by simp)]; exact heap_last _ _
  have hx2 := heap_last (W.alloc (.cells #[.func (.yield l) #[] #[]] 53)) (.cells #[.func (.func 142) #[] #[.pointer (some ⟨A1, 0, none⟩), .pointer (some ⟨W.heap.size, 0, none⟩), .pointer (some ⟨A2, 0, none⟩), .pointer (some ⟨W.heap.size + 1, 0, none⟩)]] 149)
  rw [World.size_alloc] at hx2
  have hb2 : Below W.heap.size W ((W.alloc (.cells #[.func (.yield l) #[] #[]] 53)).alloc (.cells #[.func (.func 142) #[] #[.pointer (some ⟨A1, 0, none⟩), .pointer (some ⟨W.heap.size, 0, none⟩), .pointer (some ⟨A2, 0, none⟩), .pointer (some ⟨W.heap.size + 1, 0, none⟩)]] 149)) := (below1 _ _).alloc (by simp) _
  have hz2 : ((W.alloc (.cells #[.func (.yield l) #[] #[]] 53)).alloc (.cells #[.func (.func 142) #[] #[.pointer (some ⟨A1, 0, none⟩), .pointer (some ⟨W.heap.size, 0, none⟩), .pointer (some ⟨A2, 0, none⟩), .pointer (some ⟨W.heap.size + 1, 0, none⟩)]] 149)).heap.size = W.heap.size + 2 := by simp
  generalize (W.alloc (.cells #[.func (.yield l) #[] #[]] 53)).alloc (.cells #[.func (.func 142) #[] #[.pointer (some ⟨A1, 0, none⟩), .pointer (some ⟨W.heap.size, 0, none⟩), .pointer (some ⟨A2, 0, none⟩), .pointer (some ⟨W.heap.size + 1, 0, none⟩)]] 149) = W2 at hy2 hx2 hb2 hz2 ⊢
  have HY2 := Lib.hid hy2
  have HX2 := Lib.hid hx2
  have HB2 := Lib.hid hb2
  have HG1 := Lib.hid g1
  have HG2 := Lib.hid g2
  clear hy2 hx2 hb2 c1 g1 g2
  refine Rs.region_gen 3 [[], [], [1]] [some 6, some 7, some 8] (spLt A1 W.heap.size A2 (W.heap.size + 1) many W2.heap.size) (by kernel_rfl) (by kernel_rfl) rfl (spLt_stable _ _ _ _ _ _) ?_ ?_
  · refine ⟨fun V w' hG hs => ?_, fun V w' hG hs => ?_, fun V w' hG hs => ?_, trivial⟩
    all_goals
      have cx := blk_cells ((hG.block (W.heap.size + 1) (by omega)).trans HX2.out) 0 _ rfl
      have cm := blk_cells ((hG.block A1 (by omega)).trans ((HB2.out.block A1 hW1).trans HG1.out)) 0 _ rfl
    · rw [if_pos (by rfl)]
      exact Rs.GrowL.value (v := .func (.func 142) #[] #[.pointer (some ⟨A1, 0, none⟩), .pointer (some ⟨W.heap.size, 0, none⟩), .pointer (some ⟨A2, 0, none⟩), .pointer (some ⟨(W.heap.size + 1), 0, none⟩)]) (w' := w') (by simp [go_sem, Rs.look, cx]) (Rs.Gr.refl _) rfl
    · rw [if_pos (by rfl)]
      exact Rs.GrowL.value (v := .int .i64 many) (w' := w') (by simp [go_sem, Rs.look, cm]) (Rs.Gr.refl _) rfl
    · have e1 : V 1 = .int .i64 many := hs 1 (by simp)
      rw [if_pos (by rfl)]
      have hmk := HMK.out w'
      exact Rs.GrowL.value (v := .slice (some ⟨w'.heap.size, 0, none⟩) 0 many) (w' := w'.alloc (.cells (arrOf (List.replicate many 0)) 3)) (by simp [go_sem, Rs.look, e1, hmk]) (below1 _ _) ⟨_, rfl, hG.size, heap_last _ _⟩
  · intro V w' hG hs
    have e0 : V 0 = .func (.func 142) #[] #[.pointer (some ⟨A1, 0, none⟩), .pointer (some ⟨W.heap.size, 0, none⟩), .pointer (some ⟨A2, 0, none⟩), .pointer (some ⟨(W.heap.size + 1), 0, none⟩)] := hs 0 (by omega)
    have e1 : V 1 = .int .i64 many := hs 1 (by omega)
    have r2 := hs 2 (by omega)
    obtain ⟨p2, e2, hpB, hp2⟩ := r2
    simp only [Rs.canon, Rs.dstOf, List.range_succ, List.range_zero, List.nil_append, List.cons_append, List.foldl_cons, List.foldl_nil, List.drop_succ_cons, List.drop_zero, List.drop_nil, List.getElem?_toArray, List.getElem?_cons_succ, List.getElem?_cons_zero, Option.bind_some, Act.put, List.getD_cons_succ, List.getD_cons_zero, List.setIfInBounds_toArray, List.set_cons_succ, List.set_cons_zero]
    rw [e0, e1, e2]
    clear e0 e1 e2 hs
    have hgz := hG.size
    have hex : ExC w' n cw pw v1 v2 mv many A1 W.heap.size A2 (W.heap.size + 1) p2 l [] :=
      ⟨(hG.block A1 (by omega)).trans ((HB2.out.block A1 hW1).trans HG1.out), (hG.block W.heap.size (by omega)).trans HY2.out, (hG.block A2 (by omega)).trans ((HB2.out.block A2 (by omega)).trans HG2.out), (hG.block (W.heap.size + 1) (by omega)).trans HX2.out, _, hp2, by simp, rfl⟩
    have hJ0 := hJ _ _ _ h0 (HB2.out.trans (hG.mono (by omega)))
    have hcall := callsIn_wide.1 (extend_in n cw pw v1 v2 mv many A1 W.heap.size A2 (W.heap.size + 1) p2 l hn hmany (fun k => (Kp0 k ∧ k < w.heap.size) ∨ W.heap.size ≤ k) ⟨.inl ⟨hA.1, hl1⟩, .inr (Nat.le_refl _), .inl ⟨hA.2, hl2⟩, .inr (by omega), .inr (by omega)⟩
      ⟨by omega, by omega, by omega, by omega⟩ W.heap.size (by omega) (Tx.lists n many 0) J Jx hJ (fun m' pre x post vs W1 hLL hS hJ1 => yieldAt_any (hY pre x post vs W1 hLL ⟨p2, hS⟩ hJ1)) many 0 0 [] [] [] w' (by simp) (by omega) (by omega) hex hJ0 (by simp))
    have HCALL := Lib.hid hcall
    clear hcall hex hJ0 hp2 h0 hJ hY
    go_wp2_with fail
    refine HCALL.out.mono ?_
    rintro e w9 (⟨rfl, hJ9, hC9, hs9⟩ | ⟨rfl, q, hx⟩)
    · have HJ9 := Lib.hid hJ9
      clear hJ9 hC9
      go_wp2
      go_end0
      exact ⟨⟨_, rfl⟩, .inl (by simpa using HJ9.out)⟩
    · have HXX := Lib.hid hx
      clear hx
      go_wp2
      go_end0
      exact ⟨⟨_, rfl⟩, .inr ⟨_, HXX.out⟩⟩

/-- lists: a closure over two boxes -/
theorem lists_any (v0 v1 v2 mv : Value) (a : Int) (w : World) :
    Calls Tryz.prog 120 #[.agg #[v0, v1, v2, mv], .int .i64 a] w fun e w' =>
      e = .returned (.func (.func 141) #[] #[.pointer (some ⟨w.heap.size + 1, 0, none⟩), .pointer (some ⟨w.heap.size, 0, none⟩)]) ∧ (w.alloc (.cells #[v0, v1, v2, mv] 84)).alloc (.cells #[.int .i64 a] 3) = w' := by
  have hmf := mf
  go_enter Tryz.func120, Tryz.ntmps120
  go_wp2
  go_ret
  exact ⟨rfl, rfl⟩
end Go.Proofs.YtadnggecnjdhiaaGreat
