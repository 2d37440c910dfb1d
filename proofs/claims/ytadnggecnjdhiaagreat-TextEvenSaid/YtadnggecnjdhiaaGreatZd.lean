/- Contracts of the code and of the reference, part 4. -/
import Derived.Test.YtadnggecnjdhiaaGreatZc
import Derived.Deep.CutRange
import Derived.Deep.LoopGhost
import Derived.IntWalk
import Derived.Laws.MakeOwn
set_option linter.unusedSimpArgs false
set_option linter.unusedVariables false
namespace Go.Proofs.YtadnggecnjdhiaaGreat
open Go.RowKit Tx
attribute [local go_sem] Oper.semAt_some

theorem off_b (n lo hi : Int) (b : Bool) (h : (!btw n lo hi) = b) (w : World) : Calls Tryz.prog 45 #[.int .i64 n, .int .i64 lo, .int .i64 hi] w fun e w' => e = .returned (.bool b) ∧ w = w' := by
  rw [← h]; exact off_any n lo hi w
theorem off_q (n lo hi : Int) (b : Bool) (h : (!btw n lo hi) = b) (w : World) : Calls Tryz.prog 45 #[.int .i64 n, .int .i64 lo, .int .i64 hi] w fun e w' => e = .returned (.bool b) ∧ w' = w :=
  (off_b n lo hi b h w).mono fun _ _ ⟨he, hw⟩ => ⟨he, hw.symm⟩
theorem not_btw {n lo hi : Int} {b : Bool} (h : btw n lo hi = b) : (!btw n lo hi) = !b := by rw [h]
theorem badWord_def (x : Word) : badWord x = (!btw x.syl 1 9 || !btw x.wt 0 20) := rfl
theorem names_def (n : Nat) (u : Turn) : namesNo n u = (!btw u.word 0 ((n : Int) - 1) || !btw u.lo 0 ((n : Int) - 1) || !btw u.hi 0 ((n : Int) - 1)) := rfl
theorem err_c {t : Text} (h : btw (t.words.length : Int) 1 12 = false ∨ 6 < t.turns.length) : t.err = 2 := by
  unfold Text.err Text.len; rw [if_pos]
  rcases h with h | h
  · simp [btw] at h; omega
  · omega
theorem err_r {t : Text} (h1 : btw (t.words.length : Int) 1 12 = true) (h2 : t.turns.length ≤ 6) (h : btw t.breath 1 40 = false ∨ t.words.any badWord = true) : t.err = 3 := by
  unfold Text.err Text.len
  have a := btw_true h1
  rw [if_neg (by omega)]
  by_cases hb : t.breath < 1 ∨ 40 < t.breath
  · rw [if_pos hb]
  · rw [if_neg hb]
    rcases h with h | h
    · simp [btw] at h; omega
    · rw [if_pos h]
theorem err_n {t : Text} (h1 : btw (t.words.length : Int) 1 12 = true) (h2 : t.turns.length ≤ 6) (h3 : btw t.breath 1 40 = true) (h4 : t.words.any badWord = false) :
    t.err = if t.turns.any (namesNo t.words.length) then 1 else if t.turns.any endsB then 4 else if t.turns.any itself then 7 else 0 := by
  unfold Text.err Text.len
  have a := btw_true h1
  have b := btw_true h3
  rw [if_neg (by omega), if_neg (by omega), if_neg (by rw [h4]; decide)]
set_option maxHeartbeats 6000000 in
set_option maxRecDepth 100000 in
theorem rCheck_any (t : Text) (hl1 : t.words.length ≤ 1000000) (hl2 : t.turns.length ≤ 1000000) (pw pt : Option Addr) (cw ct : Nat) (w : World) (hW : TxAt w t pw pt) :
    Calls Tryz.prog 11 #[.agg #[.slice pw t.words.length cw, .slice pt t.turns.length ct, .int .i64 t.breath]] w fun e w' => e = .returned (.int .i64 t.err) ∧ Below w.heap.size w w' := by
  have HB := Lib.hid (below1 w (.cells #[.slice pw t.words.length cw, .slice pt t.turns.length ct, .int .i64 t.breath] 32))
  have HX := Lib.hid (heap_last w (.cells #[.slice pw t.words.length cw, .slice pt t.turns.length ct, .int .i64 t.breath] 32))
  have HW := Lib.hid (hW.below HB.out)
  clear hW
  cases hn : btw (t.words.length : Int) 1 12 with
  | false =>
    have HE := Lib.hid (err_c (.inl hn))
    have HN := Lib.hid (not_btw hn)
    obtain ⟨k0, k1, k2⟩ := blk3 HX.out
    clear hn
    go_enter Tryz.func11, Tryz.ntmps11
    go_wp2_with fail
    refine (off_b _ _ _ _ HN.out _).mono ?_
    rintro e w' ⟨rfl, rfl⟩
    go_wp2
    go_ret
    exact ⟨ret_int HE.out.symm, HB.out⟩
  | true =>
  have HN := Lib.hid (not_btw hn)
  have HN' := Lib.hid hn
  clear hn
  by_cases hm : 6 < t.turns.length
  · have HE := Lib.hid (err_c (.inr hm))
    have hm' : (6 : Int) < t.turns.length := by omega
    obtain ⟨k0, k1, k2⟩ := blk3 HX.out
    go_enter Tryz.func11, Tryz.ntmps11
    go_wp2_with fail
    refine (off_b _ _ _ _ HN.out _).mono ?_
    rintro e w' ⟨rfl, rfl⟩
    go_wp2
    go_ret
    exact ⟨ret_int HE.out.symm, HB.out⟩
  have hm' : ¬ (6 : Int) < t.turns.length := by omega
  have HM := Lib.hid (show t.turns.length ≤ 6 by omega)
  cases hb : btw t.breath 1 40 with
  | false =>
    have HE := Lib.hid (err_r HN'.out HM.out (.inl hb))
    have HBR := Lib.hid (not_btw hb)
    obtain ⟨k0, k1, k2⟩ := blk3 HX.out
    clear hm hb
    go_enter Tryz.func11, Tryz.ntmps11
    go_wp2_with fail
    refine (off_b _ _ _ _ HN.out _).mono ?_
    rintro e w' ⟨rfl, rfl⟩
    go_wp2_with fail
    refine (off_b _ _ _ _ HBR.out _).mono ?_
    rintro e w' ⟨rfl, rfl⟩
    go_wp2
    go_ret
    exact ⟨ret_int HE.out.symm, HB.out⟩
  | true =>
  have HBR := Lib.hid (not_btw hb)
  have HBR' := Lib.hid hb
  obtain ⟨k0, k1, k2⟩ := blk3 HX.out
  have HEW := Lib.hid (fun h => err_r HN'.out HM.out (.inr h))
  have HEN := Lib.hid (err_n HN'.out HM.out HBR'.out)
  have hn12 := btw_true HN'.out
  generalize hER : t.err = er at HEW HEN ⊢
  clear hm hb hER HN' HBR'
  go_enter Tryz.func11, Tryz.ntmps11
  go_wp2_with fail
  refine (off_b _ _ _ _ HN.out _).mono ?_
  rintro e w' ⟨rfl, rfl⟩
  go_wp2_with fail
  refine (off_b _ _ _ _ HBR.out _).mono ?_
  rintro e w' ⟨rfl, rfl⟩
  go_wp2_with fail
  generalize hW1 : w.alloc (.cells #[.slice pw t.words.length cw, .slice pt t.turns.length ct, .int .i64 t.breath] 32) = W1 at HB HX HW k0 k1 k2 ⊢
  clear hW1
  go_loop [4] (fun i => ∃ k : Nat, k ≤ t.words.length ∧ i = .int .i64 k ∧ (t.words.take k).any badWord = false) (fun i => t.words.length - (intOf i).toNat)
  case atStart => exact ⟨0, Nat.zero_le _, rfl, rfl⟩
  case round =>
    obtain ⟨k, hk, rfl, hA⟩ := hrel
    have HA := Lib.hid hA
    clear hA
    by_cases hlt : k < t.words.length
    · have hlt' : (k : Int) < t.words.length := by omega
      obtain ⟨b, o, x, rfl, hbl, hxx, c1, c2, c3⟩ := HW.out.words.at hlt
      have HXX := Lib.hid hxx
      have HBD := Lib.hid (badWord_def x)
      clear hxx
      obtain ⟨xs, xw, xb⟩ := x
      dsimp only at c1 c2 c3 HBD
      cases h1 : btw xs 1 9 with
      | false =>
        have H1 := Lib.hid (not_btw h1)
        have HH : Hid (badWord ⟨xs, xw, xb⟩ = true) := Lib.hid (by rw [HBD.out, h1]; rfl)
        clear h1 HBD
        go_wp2_with fail
        refine (off_b _ _ _ _ H1.out _).mono ?_
        rintro e w' ⟨rfl, rfl⟩
        go_wp2
        go_ret
        exact ⟨ret_int (HEW.out (any_hit default hlt _ (by rw [← HXX.out]; exact HH.out))).symm, HB.out⟩
      | true =>
        cases h2 : btw xw 0 20 with
        | false =>
          have H1 := Lib.hid (not_btw h1)
          have H2 := Lib.hid (not_btw h2)
          have HH : Hid (badWord ⟨xs, xw, xb⟩ = true) := Lib.hid (by rw [HBD.out, h1, h2]; rfl)
          clear h1 h2 HBD
          go_wp2_with fail
          refine (off_b _ _ _ _ H1.out _).mono ?_
          rintro e w' ⟨rfl, rfl⟩
          go_wp2_with fail
          refine (off_b _ _ _ _ H2.out _).mono ?_
          rintro e w' ⟨rfl, rfl⟩
          go_wp2
          go_ret
          exact ⟨ret_int (HEW.out (any_hit default hlt _ (by rw [← HXX.out]; exact HH.out))).symm, HB.out⟩
        | true =>
          have H1 := Lib.hid (not_btw h1)
          have H2 := Lib.hid (not_btw h2)
          have HH : Hid (badWord ⟨xs, xw, xb⟩ = false) := Lib.hid (by rw [HBD.out, h1, h2]; rfl)
          clear h1 h2 HBD
          go_wp2_with fail
          refine (off_b _ _ _ _ H1.out _).mono ?_
          rintro e w' ⟨rfl, rfl⟩
          go_wp2_with fail
          refine (off_b _ _ _ _ H2.out _).mono ?_
          rintro e w' ⟨rfl, rfl⟩
          go_wp2
          go_round
          case rel => exact ⟨k + 1, by omega, by go_num, any_snoc default hlt _ HA.out (by rw [← HXX.out]; exact HH.out)⟩
          case measure => simp [intOf]; omega
    · obtain rfl : k = t.words.length := by omega
      have HEN := Lib.hid (HEN.out (by have := HA.out; rwa [List.take_length] at this))
      clear HEW HA hlt
      go_wp2_with fail
      go_loop [5] (fun i => ∃ k : Nat, k ≤ t.turns.length ∧ i = .int .i64 k ∧ (t.turns.take k).any (namesNo t.words.length) = false) (fun i => t.turns.length - (intOf i).toNat)
      case atStart => exact ⟨0, Nat.zero_le _, rfl, rfl⟩
      case round =>
        obtain ⟨k, hk, rfl, hA⟩ := hrel
        have HA := Lib.hid hA
        clear hA
        by_cases hlt : k < t.turns.length
        · have hlt' : (k : Int) < t.turns.length := by omega
          obtain ⟨b, o, x, rfl, hbl, hxx, c1, c2, c3⟩ := HW.out.turns.at hlt
          have HXX := Lib.hid hxx
          have HBD := Lib.hid (names_def t.words.length x)
          clear hxx
          obtain ⟨uw, ul, uh⟩ := x
          dsimp only at c1 c2 c3 HBD
          cases h1 : btw uw 0 ((t.words.length : Int) - 1) with
          | false =>
            have H1 := Lib.hid (not_btw h1)
            have HH : Hid (namesNo t.words.length ⟨uw, ul, uh⟩ = true) := Lib.hid (by rw [HBD.out, h1]; rfl)
            clear h1 HBD
            go_wp2_with fail
            refine (off_b _ _ _ _ H1.out _).mono ?_
            rintro e w' ⟨rfl, rfl⟩
            go_wp2
            go_ret
            exact ⟨ret_int (by rw [HEN.out, if_pos (any_hit default hlt _ (by rw [← HXX.out]; exact HH.out))]), HB.out⟩
          | true =>
            cases h2 : btw ul 0 ((t.words.length : Int) - 1) with
            | false =>
              have H1 := Lib.hid (not_btw h1)
              have H2 := Lib.hid (not_btw h2)
              have HH : Hid (namesNo t.words.length ⟨uw, ul, uh⟩ = true) := Lib.hid (by rw [HBD.out, h1, h2]; rfl)
              clear h1 h2 HBD
              go_wp2_with fail
              refine (off_b _ _ _ _ H1.out _).mono ?_
              rintro e w' ⟨rfl, rfl⟩
              go_wp2_with fail
              refine (off_b _ _ _ _ H2.out _).mono ?_
              rintro e w' ⟨rfl, rfl⟩
              go_wp2
              go_ret
              exact ⟨ret_int (by rw [HEN.out, if_pos (any_hit default hlt _ (by rw [← HXX.out]; exact HH.out))]), HB.out⟩
            | true =>
              cases h3 : btw uh 0 ((t.words.length : Int) - 1) with
              | false =>
                have H1 := Lib.hid (not_btw h1)
                have H2 := Lib.hid (not_btw h2)
                have H3 := Lib.hid (not_btw h3)
                have HH : Hid (namesNo t.words.length ⟨uw, ul, uh⟩ = true) := Lib.hid (by rw [HBD.out, h1, h2, h3]; rfl)
                clear h1 h2 h3 HBD
                go_wp2_with fail
                refine (off_b _ _ _ _ H1.out _).mono ?_
                rintro e w' ⟨rfl, rfl⟩
                go_wp2_with fail
                refine (off_b _ _ _ _ H2.out _).mono ?_
                rintro e w' ⟨rfl, rfl⟩
                go_wp2_with fail
                refine (off_b _ _ _ _ H3.out _).mono ?_
                rintro e w' ⟨rfl, rfl⟩
                go_wp2
                go_ret
                exact ⟨ret_int (by rw [HEN.out, if_pos (any_hit default hlt _ (by rw [← HXX.out]; exact HH.out))]), HB.out⟩
              | true =>
                have H1 := Lib.hid (not_btw h1)
                have H2 := Lib.hid (not_btw h2)
                have H3 := Lib.hid (not_btw h3)
                have HH : Hid (namesNo t.words.length ⟨uw, ul, uh⟩ = false) := Lib.hid (by rw [HBD.out, h1, h2, h3]; rfl)
                clear h1 h2 h3 HBD
                go_wp2_with fail
                refine (off_b _ _ _ _ H1.out _).mono ?_
                rintro e w' ⟨rfl, rfl⟩
                go_wp2_with fail
                refine (off_b _ _ _ _ H2.out _).mono ?_
                rintro e w' ⟨rfl, rfl⟩
                go_wp2_with fail
                refine (off_b _ _ _ _ H3.out _).mono ?_
                rintro e w' ⟨rfl, rfl⟩
                go_wp2
                go_round
                case rel => exact ⟨k + 1, by omega, by go_num, any_snoc default hlt _ HA.out (by rw [← HXX.out]; exact HH.out)⟩
                case measure => simp [intOf]; omega
        · obtain rfl : k = t.turns.length := by omega
          have HEN : Hid (er = if t.turns.any endsB then 4 else if t.turns.any itself then 7 else 0) := Lib.hid (by rw [HEN.out, if_neg]; have := HA.out; rw [List.take_length] at this; rw [this]; decide)
          clear HA hlt
          go_wp2_with fail
          go_loopw [6] (fun i wr => ∃ k : Nat, k ≤ t.turns.length ∧ i = .int .i64 k ∧ (t.turns.take k).any endsB = false ∧ Below W1.heap.size W1 wr) (fun i _ => t.turns.length - (intOf i).toNat)
          case atStart => exact ⟨0, Nat.zero_le _, rfl, rfl, Below.refl _ _⟩
          case round =>
            obtain ⟨k, hk, rfl, hA, hBr⟩ := hrel
            have HA := Lib.hid hA
            have HBr := Lib.hid hBr
            obtain ⟨k0, k1, k2⟩ := blk3 ((hBr.block w.heap.size (Array.getElem?_eq_some_iff.1 HX.out).1).trans HX.out)
            clear hA hBr
            by_cases hlt : k < t.turns.length
            · have hlt' : (k : Int) < t.turns.length := by omega
              obtain ⟨b, o, x, rfl, hbl, hxx, c1, c2, c3⟩ := (HW.out.below HBr.out).turns.at hlt
              have HXX := Lib.hid hxx
              clear hxx
              obtain ⟨uw, ul, uh⟩ := x
              dsimp only at c1 c2 c3
              by_cases hgt : uh < ul
              · have HH : Hid (endsB ⟨uw, ul, uh⟩ = true) := Lib.hid (by simp [endsB, hgt])
                go_wp2
                go_quiet (fail)
                go_wp2
                go_ret
                exact ⟨ret_int (by rw [HEN.out, if_pos (any_hit default hlt _ (by rw [← HXX.out]; exact HH.out))]), join HB.out (below_drewN' HBr.out _)⟩
              · have HH : Hid (endsB ⟨uw, ul, uh⟩ = false) := Lib.hid (by simp [endsB, hgt])
                go_wp2
                go_quiet (fail)
                go_wp2
                go_roundw
                case rel => exact ⟨k + 1, by omega, by go_num, any_snoc default hlt _ HA.out (by rw [← HXX.out]; exact HH.out), below_drewN' HBr.out _⟩
                case measure => simp [intOf]; omega
            · obtain rfl : k = t.turns.length := by omega
              have HEN : Hid (er = if t.turns.any itself then 7 else 0) := Lib.hid (by rw [HEN.out, if_neg]; have := HA.out; rw [List.take_length] at this; rw [this]; decide)
              clear HA hlt
              go_wp2_with fail
              go_loopw [7] (fun i wr => ∃ k : Nat, k ≤ t.turns.length ∧ i = .int .i64 k ∧ (t.turns.take k).any itself = false ∧ Below W1.heap.size W1 wr) (fun i _ => t.turns.length - (intOf i).toNat)
              case atStart => exact ⟨0, Nat.zero_le _, rfl, rfl, HBr.out⟩
              case round =>
                rename_i wr0 _ _ _
                obtain ⟨k, hk, rfl, hA, hBr⟩ := hrel
                have HA := Lib.hid hA
                clear HBr
                have HBr := Lib.hid hBr
                obtain ⟨k0, k1, k2⟩ := blk3 ((hBr.block w.heap.size (Array.getElem?_eq_some_iff.1 HX.out).1).trans HX.out)
                clear hA hBr
                by_cases hlt : k < t.turns.length
                · have hlt' : (k : Int) < t.turns.length := by omega
                  obtain ⟨b, o, x, rfl, hbl, hxx, c1, c2, c3⟩ := (HW.out.below HBr.out).turns.at hlt
                  have HXX := Lib.hid hxx
                  clear hxx
                  obtain ⟨uw, ul, uh⟩ := x
                  dsimp only at c1 c2 c3
                  cases h1 : btw uw ul uh with
                  | true =>
                    have HH : Hid (itself ⟨uw, ul, uh⟩ = true) := Lib.hid h1
                    have H1 := Lib.hid (not_btw h1)
                    clear h1
                    go_wp2
                    go_quiet ((go_at_call 45; exact Calls.quiet_of_same (off_q _ _ _ _ H1.out _)))
                    go_wp2
                    go_ret
                    exact ⟨ret_int (by rw [HEN.out, if_pos (any_hit default hlt _ (by rw [← HXX.out]; exact HH.out))]), join HB.out (below_drewN' HBr.out _)⟩
                  | false =>
                    have HH : Hid (itself ⟨uw, ul, uh⟩ = false) := Lib.hid h1
                    have H1 := Lib.hid (not_btw h1)
                    clear h1
                    go_wp2
                    go_quiet ((go_at_call 45; exact Calls.quiet_of_same (off_q _ _ _ _ H1.out _)))
                    go_wp2
                    go_roundw
                    case rel => exact ⟨k + 1, by omega, by go_num, any_snoc default hlt _ HA.out (by rw [← HXX.out]; exact HH.out), below_drewN' HBr.out _⟩
                    case measure => simp [intOf]; omega
                · obtain rfl : k = t.turns.length := by omega
                  have HEN : Hid (er = 0) := Lib.hid (by rw [HEN.out, if_neg]; have := HA.out; rw [List.take_length] at this; rw [this]; decide)
                  clear HA hlt
                  go_wp2
                  go_ret
                  exact ⟨ret_int HEN.out.symm, join HB.out HBr.out⟩
end Go.Proofs.YtadnggecnjdhiaaGreat
set_option linter.unusedSimpArgs false
set_option linter.unusedVariables false
namespace Go.Proofs.YtadnggecnjdhiaaGreat
open Go.RowKit Tx

/-- the kind of what is wrong with a breath -/
def kindOf (t : Text) (a b : Nat) : Option Int := if t.isK 0 a b then some 0 else if t.isK 1 a b then some 1 else if t.isK 2 a b then some 2 else none
/-- the first breath of a reading that is not right, from its breath i at the place a on -/
def wrongGo (t : Text) : Nat → Nat → List Int → Int × Int × Int
  | _, _, [] => (0, 0, 6)
  | i, a, x :: l => match kindOf t a (a + x.toNat) with
    | some k => (i, k, 0)
    | none => wrongGo t (i + 1) (a + x.toNat) l
theorem isum_take_le {l : List Int} {n : Int} (h : ∀ x ∈ l, 0 ≤ x) (hs : isum l = n) (k : Nat) : 0 ≤ isum (l.take k) ∧ isum (l.take k) ≤ n := by
  have h1 : isum l = isum (l.take k) + isum (l.drop k) := by rw [← isum_append, List.take_append_drop]
  have pos : ∀ m : List Int, (∀ x ∈ m, 0 ≤ x) → 0 ≤ isum m := by
    intro m
    induction m with
    | nil => intro _; simp [isum]
    | cons x m ih => intro hm; rw [isum_cons]; have := hm x (by simp); have := ih (fun y hy => hm y (by simp [hy])); omega
  have h2 := pos (l.take k) (fun x hx => h x (List.mem_of_mem_take hx))
  have h3 := pos (l.drop k) (fun x hx => h x (List.mem_of_mem_drop hx))
  omega
theorem wrongGo_at (t : Text) (l : List Int) (k a : Nat) (h : k < l.length) : wrongGo t k a (l.drop k) = match kindOf t a (a + (l.getD k 0).toNat) with | some q => ((k : Int), q, 0) | none => wrongGo t (k + 1) (a + (l.getD k 0).toNat) (l.drop (k + 1)) := by
  rw [List.drop_eq_getElem_cons h, wrongGo]
  rw [show l[k] = l.getD k 0 from by simp [h]]

set_option maxHeartbeats 2000000 in
set_option maxRecDepth 100000 in
theorem firstWrong_any (t : Text) (l : List Int) (hx : ∀ x ∈ l, 1 ≤ x ∧ x ≤ 12) (hs : isum l = t.words.length) (pw pt pl : Option Addr) (cw ct cl : Nat) (mv : Value) (w : World) (hW : WkAt w t pw pt cw) (hL : Ints w pl l) (hll : l.length ≤ 1000000) :
    Calls Tryz.prog 85 #[.agg #[.slice pw t.words.length cw, .slice pt t.turns.length ct, .int .i64 t.breath, mv], .slice pl l.length cl] w fun e w' =>
      e = .returned (.tuple #[.int .i64 (wrongGo t 0 0 l).1, .int .i64 (wrongGo t 0 0 l).2.1, .int .i64 (wrongGo t 0 0 l).2.2]) ∧ Below w.heap.size w w' := by
  have HIS := Lib.hid (fun W (h : Below w.heap.size w W) (k : Nat) (hk : k ≤ 2) (a b : Nat) (hab : a ≤ b) (hb : b ≤ t.words.length) => isK_any t pw pt cw ct mv k hk a b hab hb W (hW.below h))
  have HL := Lib.hid hL
  have HX := Lib.hid hx
  have hn12 := hW.ok.n12
  have HPRE := Lib.hid (fun k => isum_take_le (fun x h => by have := hx x h; omega) hs k)
  have HS := Lib.hid hs
  have HX0 := Lib.hid (heap_last w (.cells #[.slice pw t.words.length cw, .slice pt t.turns.length ct, .int .i64 t.breath, mv] 84))
  have HB1 := Lib.hid (below1 w (.cells #[.slice pw t.words.length cw, .slice pt t.turns.length ct, .int .i64 t.breath, mv] 84))
  have hz1 : (w.alloc (.cells #[.slice pw t.words.length cw, .slice pt t.turns.length ct, .int .i64 t.breath, mv] 84)).heap.size = w.heap.size + 1 := by simp
  clear hW hL hx hs
  go_enter Tryz.func85, Tryz.ntmps85
  go_wp2_with fail
  go_step3
  go_wp2_with fail
  go_step3
  go_wp2_with fail
  generalize hW1 : w.alloc (.cells #[.slice pw t.words.length cw, .slice pt t.turns.length ct, .int .i64 t.breath, mv] 84) = W1 at HX0 HB1 hz1 ⊢
  clear hW1
  go_loopg [7, 8, 9, 10, 11, 12, 13, 16] l.length (fun gk u7 u8 u9 u10 u11 u12 u13 i wr => ∃ k a : Nat, gk + k = l.length ∧ i = .int .i64 k ∧ u7 = .int .i64 0 ∧ u8 = .int .i64 0 ∧ u9 = .int .i64 6 ∧ (a : Int) = isum (l.take k) ∧ u10 = .int .i64 a ∧ wrongGo t k a (l.drop k) = wrongGo t 0 0 l ∧ Below W1.heap.size W1 wr)
  case atStart => exact ⟨0, 0, by omega, rfl, rfl, rfl, rfl, rfl, rfl, rfl, Below.refl _ _⟩
  case round =>
    obtain ⟨wo, rfl⟩ : ∃ wo : World, wo = wr := ⟨_, rfl⟩
    obtain ⟨go, rfl⟩ : ∃ x : Nat, x = gk := ⟨_, rfl⟩
    obtain ⟨k, a, hk, rfl, rfl, rfl, rfl, ha, rfl, hwg, hB⟩ := hrel
    have hzo := hB.size
    have HWG := Lib.hid hwg
    have HB := Lib.hid hB
    have HA := Lib.hid ha
    have hapre := HPRE.out k
    rw [← ha] at hapre
    clear hwg hB ha
    by_cases hlt : k < l.length
    · have hlt' : (k : Int) < l.length := by omega
      obtain ⟨b, o, x, rfl, hb, hxx, c1⟩ := ((HL.out.below HB1.out).below HB.out).at hlt
      have hx1 := HX.out x (by rw [hxx]; exact getD_mem 0 hlt)
      obtain ⟨y, rfl⟩ := Int.eq_ofNat_of_zero_le (show 0 ≤ x by omega)
      have hsnoc : isum (l.take (k + 1)) = (a : Int) + y := by rw [take_snocD 0 hlt, isum_snoc, ← HA.out, ← hxx]
      have hpre2 := HPRE.out (k + 1)
      rw [hsnoc] at hpre2
      have HSN := Lib.hid hsnoc
      have hay : a + y ≤ t.words.length := by omega
      have hfin : wrongGo t 0 0 l = match kindOf t a (a + y) with | some q => ((k : Int), q, 0) | none => wrongGo t (k + 1) (a + y) (l.drop (k + 1)) := by
        rw [← HWG.out, wrongGo_at t l k a hlt, ← hxx]; rfl
      have HFIN := Lib.hid hfin
      have HFIN' := Lib.hid hfin
      have hx0 := (HB.out.block w.heap.size (by omega)).trans HX0.out
      have k0 := blk_cells hx0 0 _ rfl
      have k1 := blk_cells hx0 1 _ rfl
      have k2 := blk_cells hx0 2 _ rfl
      have k3 := blk_cells hx0 3 _ rfl
      have hsum : IntKind.i64.wrap ((a : Int) + (y : Int)) = ((a + y : Nat) : Int) := by rw [IntWalk.i64_in _ (by omega)]; omega
      have hs0 : w.heap.size < wo.heap.size := by omega
      have HX0o := Lib.hid hx0
      have HBo := Lib.hid (HB1.out.trans (HB.out.mono (by omega)))
      clear hsnoc hfin hxx hx0 hpre2
      go_wp2_with fail
      have h0 : ∀ W, Below w.heap.size w W → Calls Tryz.prog 126 #[.agg #[.slice pw t.words.length cw, .slice pt t.turns.length ct, .int .i64 t.breath, mv], .int .i64 0, .int .i64 a, .int .i64 ((a : Int) + (y : Int))] W fun e w' => e = .returned (.bool (t.isK 0 a (a + y))) ∧ Below W.heap.size W w' := fun W h => HIS.out W h 0 (by omega) a (a + y) (by omega) hay
      have h1 : ∀ W, Below w.heap.size w W → Calls Tryz.prog 126 #[.agg #[.slice pw t.words.length cw, .slice pt t.turns.length ct, .int .i64 t.breath, mv], .int .i64 1, .int .i64 a, .int .i64 ((a : Int) + (y : Int))] W fun e w' => e = .returned (.bool (t.isK 1 a (a + y))) ∧ Below W.heap.size W w' := fun W h => HIS.out W h 1 (by omega) a (a + y) (by omega) hay
      have h2 : ∀ W, Below w.heap.size w W → Calls Tryz.prog 126 #[.agg #[.slice pw t.words.length cw, .slice pt t.turns.length ct, .int .i64 t.breath, mv], .int .i64 2, .int .i64 a, .int .i64 ((a : Int) + (y : Int))] W fun e w' => e = .returned (.bool (t.isK 2 a (a + y))) ∧ Below W.heap.size W w' := fun W h => HIS.out W h 2 (by omega) a (a + y) (by omega) hay
      have G0 := Lib.hid h0
      have G1 := Lib.hid h1
      have G2 := Lib.hid h2
      clear h0 h1 h2
      refine wp_loop_rounds 4 ?_
      rw [rounds_succ]
      go_wp2_with fail
      refine (G0.out _ HBo.out).mono ?_
      rintro e w5 ⟨rfl, hB0⟩
      have HN0 := Lib.hid (join HBo.out hB0)
      have hx0 := (hB0.block w.heap.size (by omega)).trans HX0o.out
      have HXq0 := Lib.hid hx0
      have hsq0 : w.heap.size < w5.heap.size := by have := hB0.size; omega
      have HBq0 := Lib.hid (HB.out.trans (hB0.mono (by omega)))
      clear k0 k1 k2 k3
      have k0 := blk_cells hx0 0 _ rfl
      have k1 := blk_cells hx0 1 _ rfl
      have k2 := blk_cells hx0 2 _ rfl
      have k3 := blk_cells hx0 3 _ rfl
      clear hx0 hB0
      cases hk0 : t.isK 0 a (a + y) with
      | true =>
        have HK0 := Lib.hid hk0
        clear hk0
        have hko : kindOf t a (a + y) = some 0 := by unfold kindOf; simp [HK0.out]
        have HKO := Lib.hid hko
        clear hko
        go_wp2
        rw [Exit.noGoto_ret]
        go_ret3
        exact ⟨by rw [HFIN.out, HKO.out]; rfl, HN0.out⟩
      | false =>
        have HK0 := Lib.hid hk0
        clear hk0
        go_wp2_with fail
        rw [rounds_succ]
        go_wp2_with fail
        refine (G1.out _ HN0.out).mono ?_
        rintro e w6 ⟨rfl, hB1⟩
        have HN1 := Lib.hid (join HN0.out hB1)
        have hx1 := (hB1.block w.heap.size (by omega)).trans HXq0.out
        have HXq1 := Lib.hid hx1
        have hsq1 : w.heap.size < w6.heap.size := by have := hB1.size; omega
        have HBq1 := Lib.hid (HBq0.out.trans (hB1.mono (by have := HBq0.out.size; omega)))
        clear k0 k1 k2 k3
        have k0 := blk_cells hx1 0 _ rfl
        have k1 := blk_cells hx1 1 _ rfl
        have k2 := blk_cells hx1 2 _ rfl
        have k3 := blk_cells hx1 3 _ rfl
        clear hx1 hB1
        cases hk1 : t.isK 1 a (a + y) with
        | true =>
          have HK1 := Lib.hid hk1
          clear hk1
          have hko : kindOf t a (a + y) = some 1 := by unfold kindOf; simp [HK0.out, HK1.out]
          have HKO := Lib.hid hko
          clear hko
          go_wp2
          rw [Exit.noGoto_ret]
          go_ret3
          exact ⟨by rw [HFIN.out, HKO.out]; rfl, HN1.out⟩
        | false =>
          have HK1 := Lib.hid hk1
          clear hk1
          go_wp2_with fail
          rw [rounds_succ]
          go_wp2_with fail
          refine (G2.out _ HN1.out).mono ?_
          rintro e w7 ⟨rfl, hB2⟩
          have HN2 := Lib.hid (join HN1.out hB2)
          have hx2 := (hB2.block w.heap.size (by omega)).trans HXq1.out
          have HXq2 := Lib.hid hx2
          have hsq2 : w.heap.size < w7.heap.size := by have := hB2.size; omega
          have HBq2 := Lib.hid (HBq1.out.trans (hB2.mono (by have := HBq1.out.size; omega)))
          clear k0 k1 k2 k3
          have k0 := blk_cells hx2 0 _ rfl
          have k1 := blk_cells hx2 1 _ rfl
          have k2 := blk_cells hx2 2 _ rfl
          have k3 := blk_cells hx2 3 _ rfl
          clear hx2 hB2
          cases hk2 : t.isK 2 a (a + y) with
          | true =>
            have HK2 := Lib.hid hk2
            clear hk2
            have hko : kindOf t a (a + y) = some 2 := by unfold kindOf; simp [HK0.out, HK1.out, HK2.out]
            have HKO := Lib.hid hko
            clear hko
            go_wp2
            rw [Exit.noGoto_ret]
            go_ret3
            exact ⟨by rw [HFIN.out, HKO.out]; rfl, HN2.out⟩
          | false =>
            have HK2 := Lib.hid hk2
            clear hk2
            go_wp2_with fail
            have hko : kindOf t a (a + y) = none := by unfold kindOf; simp [HK0.out, HK1.out, HK2.out]
            have HKO := Lib.hid hko
            clear hko
            rw [rounds_succ]
            go_wp2
            go_roundg (go - 1)
            case rel => exact ⟨k + 1, a + y, by omega, by go_num, rfl, rfl, rfl, by rw [HSN.out]; omega, by go_num, by have := HFIN'.out; rw [HKO.out] at this; exact this.symm, HBq2.out⟩
            case measure => omega
    · obtain rfl : k = l.length := by omega
      have hfin : wrongGo t 0 0 l = (0, 0, 6) := by rw [← HWG.out, List.drop_length]; rfl
      have HFIN := Lib.hid hfin
      clear hfin
      go_wp2
      rw [Exit.noGoto_ret]
      go_ret3
      exact ⟨by rw [HFIN.out]; rfl, HB1.out.trans (HB.out.mono (by omega))⟩
end Go.Proofs.YtadnggecnjdhiaaGreat
set_option linter.unusedSimpArgs false
set_option linter.unusedVariables false
namespace Go.Proofs.YtadnggecnjdhiaaGreat
open Go.RowKit Tx

/-- the places of a reading -/
def placesL (l : List Int) : List Int := (List.range (l.length + 1)).map fun k => isum (l.take k)
def placesTo (l : List Int) (k : Nat) : List Int := (List.range (k + 1)).map fun k => isum (l.take k)
theorem placesTo_succ (l : List Int) (k : Nat) : placesTo l (k + 1) = placesTo l k ++ [isum (l.take (k + 1))] := by
  unfold placesTo; rw [List.range_succ, List.map_append]; rfl
theorem placesTo_len (l : List Int) (k : Nat) : (placesTo l k).length = k + 1 := by simp [placesTo]
theorem placesTo_last (l : List Int) (k : Nat) : (placesTo l k).getD k 0 = isum (l.take k) := by simp [placesTo]
set_option maxHeartbeats 1000000 in
theorem placesOf_any (l : List Int) (hp : ∀ k, -1000000 ≤ isum (l.take k) ∧ isum (l.take k) ≤ 1000000) (pl : Option Addr) (cl : Nat) (w : World) (hL : Ints w pl l) (hll : l.length ≤ 100000) :
    Calls Tryz.prog 87 #[.slice pl l.length cl] w (RowPost (placesL l) w) := by
  obtain ⟨i0, hi0, hz0, hz1, hz2⟩ := info_parts A_infoI
  have HL := Lib.hid hL
  have HP := Lib.hid hp
  clear hL hp
  go_enter Tryz.func87, Tryz.ntmps87
  go_wp2_with fail
  have hown1 : (w.alloc (.cells #[.int .i64 0] 3)).ownsRow w.heap.size 3 1 (.slice (some ⟨w.heap.size, 0, none⟩) 1 1) 1 [.int .i64 0] :=
    ⟨by simp, .inr ⟨w.heap.size, 1, _, rfl, Nat.le_refl _, heap_last _ _, by omega, by unfold maxLen; omega, by simp, by simp⟩⟩
  have HB1 := below1 w (.cells #[.int .i64 0] 3)
  go_loopw [3, 9] (fun v i wr => ∃ k : Nat, k ≤ l.length ∧ i = .int .i64 k ∧ wr.ownsRow w.heap.size 3 1 v (placesTo l k).length ((placesTo l k).map (Value.int .i64)) ∧ Below w.heap.size w wr ∧ w.heap.size + 1 ≤ wr.heap.size) (fun _ i _ => l.length - (intOf i).toNat)
  case atStart => exact ⟨0, Nat.zero_le _, rfl, hown1, HB1, by simp⟩
  case round =>
    obtain ⟨k, hk, rfl, hown, hBr, hsz⟩ := hrel
    have HO := Lib.hid hown
    have HBr := Lib.hid hBr
    clear hown1 HB1
    have hlen := placesTo_len l k
    have HLEN := Lib.hid hlen
    by_cases hlt : k < l.length
    · have hlt' : (k : Int) < l.length := by omega
      obtain ⟨b, o, x, rfl, hb, hxx, c1⟩ := (HL.out.below hBr).at hlt
      obtain ⟨p, c, rfl, hints, hfr, hcl, hcc⟩ := own_rd hown rfl
      rcases hints with h0 | ⟨g, og, rfl, hgl, hcells⟩
      · rw [h0] at hlen; simp at hlen
      have hck := hcells k (by omega)
      rw [placesTo_last] at hck
      have hsn : isum (l.take (k + 1)) = isum (l.take k) + x := by rw [take_snocD 0 hlt, isum_snoc, hxx]
      have h1 := HP.out k
      have h2 := HP.out (k + 1)
      have hps := placesTo_succ l k
      rw [hsn] at h2 hps
      have HPS := Lib.hid hps
      generalize isum (l.take k) = a at hck hsn h1 h2 HPS
      have hkl : (k : Int) < (placesTo l k).length := by rw [hlen]; omega
      clear hsn hps hxx hown hBr hfr hcells hlen
      generalize hPL : placesTo l k = PL at *
      have hPLn : PL.length ≤ 1000000 := by have := HLEN.out; omega
      clear hPL
      go_wp2_with (at_builtin; refine wpList_append_own _ rfl _ _ 34 rfl w.heap.size 3 i0 (.int .i64 0) 1 8 A_undI hi0 hz0 hz1 hz2 rfl (by decide) _ _ _ rfl (HO.out.alloc _) ⟨wr.heap.size, 0, none⟩ 1 1 [.int .i64 (a + x)] rfl rfl ?d1 ?d2 ?d3 ?d4 ?d5 ?_)
      case d1 => exact cell_one_new _ _ _
      case d2 => first | rfl | (intro u hu; simp at hu; subst hu; rfl)
      case d3 => unfold maxLen; omega
      case d4 => omega
      case d5 => first | omega | (simp; omega)
      intro v' w8 hown8 hgrow _
      have hB8 := below_grown (al2 HBr.out (by omega) _) (HO.out.alloc _) (Nat.le_refl _) (by simp; omega) hgrow
      have hs8 : w.heap.size + 1 ≤ w8.heap.size := by have := hgrow.size; simp at this; omega
      have HO8 := Lib.hid hown8
      have HB8 := Lib.hid hB8
      clear hgrow hown8 hB8
      go_wp2
      go_roundw
      case rel => exact ⟨k + 1, by omega, by go_num, by rw [HPS.out]; simpa using HO8.out, HB8.out, hs8⟩
      case measure => simp [intOf]; omega
    · obtain rfl : k = l.length := by omega
      clear hown hBr
      go_wp2
      go_ret
      exact ⟨_, rfl, HO.out, HBr.out⟩
end Go.Proofs.YtadnggecnjdhiaaGreat
set_option linter.unusedSimpArgs false
set_option linter.unusedVariables false
namespace Go.Proofs.YtadnggecnjdhiaaGreat
open Go.RowKit Tx

/-- the runs of m breaths, in order -/
def runs (m : Nat) : List (Nat × Nat) := (List.range m).flatMap fun a => (List.range' a (m - a)).map fun b => (a, b)
def runSays (P : List Int) (u : Turn) (a b : Nat) : Bool := u.says (P.getD a 0) (P.getD (b + 1) 0 - 1)
def astrayGo (P : List Int) : Nat → List Turn → Int × Int × Int × Int
  | _, [] => (0, 0, 0, 6)
  | i, u :: us => match (runs (P.length - 1)).find? (fun q => runSays P u q.1 q.2) with
    | some q => ((i : Int), (q.1 : Int), (q.2 : Int), 0)
    | none => astrayGo P (i + 1) us
theorem runs_find {p : Nat → Nat → Bool} {m a b : Nat} (hab : a ≤ b) (hb : b < m) (h1 : ∀ a' b', a' < a → a' ≤ b' → b' < m → p a' b' = false) (h2 : ∀ b', a ≤ b' → b' < b → p a b' = false) (h : p a b = true) :
    (runs m).find? (fun q => p q.1 q.2) = some (a, b) := by
  unfold runs
  rw [show m = a + (m - a - 1 + 1) by omega, List.range_add, List.flatMap_append, List.find?_append]
  rw [show ((List.range a).flatMap fun x => (List.range' x (a + (m - a - 1 + 1) - x)).map fun b => (x, b)).find? (fun q => p q.1 q.2) = none from by
    rw [List.find?_eq_none]
    intro q hq
    obtain ⟨x, hx, hq⟩ := List.mem_flatMap.1 hq
    obtain ⟨y, hy, rfl⟩ := List.mem_map.1 hq
    rw [List.mem_range'_1] at hy
    rw [h1 x y (List.mem_range.1 hx) hy.1 (by omega)]; decide]
  rw [Option.none_or, List.range_succ_eq_map, List.map_cons, List.flatMap_cons, List.find?_append]
  have hrow : ((List.range' (a + 0) (a + (m - a - 1 + 1) - (a + 0))).map fun b => (a + 0, b)).find? (fun q => p q.1 q.2) = some (a, b) := by
    rw [Nat.add_zero, show a + (m - a - 1 + 1) - a = (b - a) + (m - b) by omega, ← List.range'_append, List.map_append, List.find?_append]
    rw [show ((List.range' a (b - a)).map fun b => (a, b)).find? (fun q => p q.1 q.2) = none from by
      rw [List.find?_eq_none]
      intro q hq
      obtain ⟨y, hy, rfl⟩ := List.mem_map.1 hq
      rw [List.mem_range'_1] at hy
      rw [h2 y hy.1 (by omega)]; decide]
    rw [Option.none_or, show a + 1 * (b - a) = b by omega, show m - b = (m - b - 1) + 1 by omega, List.range'_succ, List.map_cons, List.find?_cons_of_pos (by exact h)]
  rw [hrow]; rfl
theorem runs_none {p : Nat → Nat → Bool} {m : Nat} (h1 : ∀ a' b', a' < m → a' ≤ b' → b' < m → p a' b' = false) : (runs m).find? (fun q => p q.1 q.2) = none := by
  rw [List.find?_eq_none]
  intro q hq
  unfold runs at hq
  obtain ⟨x, hx, hq⟩ := List.mem_flatMap.1 hq
  obtain ⟨y, hy, rfl⟩ := List.mem_map.1 hq
  rw [List.mem_range'_1] at hy
  have := List.mem_range.1 hx
  rw [h1 x y this hy.1 (by omega)]; decide
theorem astrayGo_at (P : List Int) (ts : List Turn) (k : Nat) (h : k < ts.length) : astrayGo P k (ts.drop k) = match (runs (P.length - 1)).find? (fun q => runSays P (ts.getD k default) q.1 q.2) with
    | some q => ((k : Int), (q.1 : Int), (q.2 : Int), 0) | none => astrayGo P (k + 1) (ts.drop (k + 1)) := by
  rw [List.drop_eq_getElem_cons h, astrayGo]
  rw [show ts[k] = ts.getD k default from by simp [h]]
def spAs (uw ul uh pa pb : Int) (gp : Nat) (og n cl a b : Nat) (r : Bool) : Nat → List Value → Value → World → Prop
  | 0, _, v, _ => v = .agg #[.int .i64 uw, .int .i64 ul, .int .i64 uh]
  | 1, _, v, _ => v = .slice (some ⟨gp, og, none⟩) n cl
  | 2, _, v, _ => v = .int .i64 a
  | 3, _, v, _ => v = .pointer (some ⟨gp, og + a, none⟩)
  | 4, _, v, _ => v = .int .i64 pa
  | 5, _, v, _ => v = .slice (some ⟨gp, og, none⟩) n cl
  | 6, _, v, _ => v = .int .i64 b
  | 7, _, v, _ => v = .int .i64 ((b : Int) + 1)
  | 8, _, v, _ => v = .pointer (some ⟨gp, og + (b + 1), none⟩)
  | 9, _, v, _ => v = .int .i64 pb
  | 10, _, v, _ => v = .agg #[.int .i64 pa, .int .i64 (pb - 1)]
  | 11, _, v, _ => v = .bool r
  | _, _, _, _ => False
theorem spAs_stable (uw ul uh pa pb : Int) (gp : Nat) (og n cl a b : Nat) (r : Bool) : ∀ i L v w w', spAs uw ul uh pa pb gp og n cl a b r i L v w → Rs.Gr w w' → spAs uw ul uh pa pb gp og n cl a b r i L v w' := by
  intro i L v w w' h hg
  match i with
  | 0 => exact h
  | 1 => exact h
  | 2 => exact h
  | 3 => exact h
  | 4 => exact h
  | 5 => exact h
  | 6 => exact h
  | 7 => exact h
  | 8 => exact h
  | 9 => exact h
  | 10 => exact h
  | 11 => exact h

set_option maxHeartbeats 2000000 in
set_option maxRecDepth 100000 in
theorem firstAstray_any (t : Text) (hm : t.turns.length ≤ 1000000) (P : List Int) (hP1 : 1 ≤ P.length) (hPl : P.length ≤ 1000000) (hPb : ∀ k, k < P.length → -1000000 ≤ P.getD k 0 ∧ P.getD k 0 ≤ 1000000) (pt pp : Option Addr) (ct cl : Nat) (v0 v2 v3 : Value) (w : World) (hT : Tns w pt t.turns) (hL : Ints w pp P) :
    Calls Tryz.prog 86 #[.agg #[v0, .slice pt t.turns.length ct, v2, v3], .slice pp P.length cl] w fun e w' =>
      e = .returned (.tuple #[.int .i64 (astrayGo P 0 t.turns).1, .agg #[.int .i64 (astrayGo P 0 t.turns).2.1, .int .i64 (astrayGo P 0 t.turns).2.2.1], .int .i64 (astrayGo P 0 t.turns).2.2.2]) ∧ Below w.heap.size w w' := by
  rcases hL with h0 | ⟨gp, og, rfl, hgp, hcP⟩
  · rw [h0] at hP1; simp at hP1
  have HT := Lib.hid hT
  have HCP := Lib.hid hcP
  have HPB := Lib.hid hPb
  have hB2 : Below w.heap.size w ((w.alloc (.cells #[v0, .slice pt t.turns.length ct, v2, v3] 84)).alloc (.cells #[.int .i64 0, .int .i64 0] 58)) := (below1 _ _).alloc (by simp) _
  have hres : ((w.alloc (.cells #[v0, .slice pt t.turns.length ct, v2, v3] 84)).alloc (.cells #[.int .i64 0, .int .i64 0] 58)).heap[w.heap.size + 1]? = some (.cells #[.int .i64 0, .int .i64 0] 58 (0, 0)) := by
    have := heap_last (w.alloc (.cells #[v0, .slice pt t.turns.length ct, v2, v3] 84)) (.cells #[.int .i64 0, .int .i64 0] 58)
    rwa [World.size_alloc] at this
  have hsz : ((w.alloc (.cells #[v0, .slice pt t.turns.length ct, v2, v3] 84)).alloc (.cells #[.int .i64 0, .int .i64 0] 58)).heap.size = w.heap.size + 2 := by simp
  have HB2 := Lib.hid hB2
  have HRES := Lib.hid hres
  clear hT hcP hPb hB2 hres
  go_enter Tryz.func86, Tryz.ntmps86
  go_wp2_with fail
  generalize (w.alloc (.cells #[v0, .slice pt t.turns.length ct, v2, v3] 84)).alloc (.cells #[.int .i64 0, .int .i64 0] 58) = W1 at HB2 HRES hsz ⊢
  go_loopw [7, 8, 9, 10, 15] (fun u7 u8 u9 u10 i wr => ∃ k : Nat, k ≤ t.turns.length ∧ i = .int .i64 k ∧ astrayGo P k (t.turns.drop k) = astrayGo P 0 t.turns ∧ Below W1.heap.size W1 wr) (fun _ _ _ _ i _ => t.turns.length - (intOf i).toNat)
  case atStart => exact ⟨0, Nat.zero_le _, rfl, rfl, Below.refl _ _⟩
  case round =>
    obtain ⟨w3, rfl⟩ : ∃ w3 : World, w3 = wr := ⟨_, rfl⟩
    obtain ⟨k, hk, rfl, hag, hB⟩ := hrel
    have HAG := Lib.hid hag
    have HB := Lib.hid hB
    have hz3 := hB.size
    clear hag hB
    by_cases hlt : k < t.turns.length
    · have hlt' : (k : Int) < t.turns.length := by omega
      obtain ⟨bt, ot, x, rfl, hbt, hxx, c1, c2, c3⟩ := ((HT.out.below HB2.out).below HB.out).at hlt
      obtain ⟨uw, ul, uh⟩ := x
      dsimp only at c1 c2 c3
      have HXX := Lib.hid hxx
      have HAT := Lib.hid (astrayGo_at P t.turns k hlt)
      rw [← hxx] at HAT
      have HU := Lib.hid (heap_last w3 (.cells #[.int .i64 uw, .int .i64 ul, .int .i64 uh] 63))
      have HB4 := Lib.hid (join HB.out (below1 w3 (.cells #[.int .i64 uw, .int .i64 ul, .int .i64 uh] 63)))
      have hz4 : (w3.alloc (.cells #[.int .i64 uw, .int .i64 ul, .int .i64 uh] 63)).heap.size = w3.heap.size + 1 := by simp
      obtain ⟨U, hU⟩ : ∃ U, U = w3.heap.size := ⟨_, rfl⟩
      have hUW : W1.heap.size ≤ U := by omega
      rw [← hU] at HU hz4
      clear hxx
      go_wp2_with fail
      generalize hW4 : w3.alloc (.cells #[.int .i64 uw, .int .i64 ul, .int .i64 uh] 63) = W4 at HU HB4 hz4 ⊢
      rw [← hU]
      clear hW4
      go_loopw [9, 10, 23] (fun u9 u10 j w5 => ∃ a : Nat, a ≤ P.length - 1 ∧ j = .int .i64 a ∧ (∀ a' b', a' < a → a' ≤ b' → b' < P.length - 1 → runSays P ⟨uw, ul, uh⟩ a' b' = false) ∧ Below W4.heap.size W4 w5) (fun _ _ j _ => P.length - 1 - (intOf j).toNat)
      case atStart => exact ⟨0, Nat.zero_le _, rfl, fun _ _ h => absurd h (Nat.not_lt_zero _), Below.refl _ _⟩
      case round =>
        obtain ⟨w5, rfl⟩ : ∃ w5 : World, w5 = wr := ⟨_, rfl⟩
        obtain ⟨a, ha, rfl, hA, hB5⟩ := hrel
        have HA := Lib.hid hA
        have HB5 := Lib.hid hB5
        have hz5 := hB5.size
        clear hA hB5
        by_cases hal : a < P.length - 1
        · have hal' : (a : Int) < (P.length : Int) - 1 := by omega
          go_wp2_with fail
          go_loopw [10] (fun u10 w6 => ∃ b : Nat, a ≤ b ∧ b ≤ P.length - 1 ∧ u10 = .int .i64 b ∧ (∀ b', a ≤ b' → b' < b → runSays P ⟨uw, ul, uh⟩ a b' = false) ∧ Below W4.heap.size W4 w6) (fun u _ => P.length - 1 - (intOf u).toNat)
          case atStart => exact ⟨a, Nat.le_refl _, by omega, rfl, fun b' h1 h2 => by omega, HB5.out⟩
          case round =>
            obtain ⟨w6, rfl⟩ : ∃ w6 : World, w6 = wr := ⟨_, rfl⟩
            obtain ⟨b, hab, hbl, rfl, hR, hB6⟩ := hrel
            have HR := Lib.hid hR
            have HB6 := Lib.hid hB6
            have hz6 := hB6.size
            clear hR hB6
            by_cases hbm : b < P.length - 1
            · have hbm' : (b : Int) < (P.length : Int) - 1 := by omega
              have han : (a : Int) < P.length := by omega
              have hbn : (b : Int) + 1 < P.length := by omega
              have hbn2 : 0 ≤ (b : Int) + 1 := by omega
              have hbn3 : ((b : Int) + 1).toNat = b + 1 := by omega
              have hsum : IntKind.i64.wrap ((b : Int) + 1) = (b : Int) + 1 := IntWalk.i64_in _ (by omega)
              have HBw := Lib.hid (HB2.out.trans ((HB4.out.trans (HB6.out.mono (by omega))).mono (by omega)))
              have hca := (HBw.out.cell (p := ⟨gp, og + a, none⟩) hgp).trans (HCP.out a (by omega))
              have hcb := (HBw.out.cell (p := ⟨gp, og + (b + 1), none⟩) hgp).trans (HCP.out (b + 1) (by omega))
              have hpb := HPB.out (b + 1) (by omega)
              have HRS := Lib.hid (show runSays P ⟨uw, ul, uh⟩ a b = (Turn.mk uw ul uh).says (P.getD a 0) (P.getD (b + 1) 0 - 1) from rfl)
              generalize P.getD a 0 = pa at hca HRS
              generalize P.getD (b + 1) 0 = pb at hcb hpb HRS
              have hUb := (HB6.out.block U (by omega)).trans HU.out
              have F0 := Lib.hid (blk_cells hUb 0 _ rfl)
              have F1 := Lib.hid (blk_cells hUb 1 _ rfl)
              have F2 := Lib.hid (blk_cells hUb 2 _ rfl)
              have HCA := Lib.hid hca
              have HCB := Lib.hid hcb
              have hsU : U < w6.heap.size := by omega
              have hsg : gp < w6.heap.size := by have := HBw.out.size; omega
              clear hca hcb hUb
              go_wp2_with fail
              refine Rs.region_gen 12 [[], [], [], [1, 2], [1, 2, 3], [], [], [6], [5, 6, 7], [5, 6, 7, 8], [1, 2, 3, 4, 5, 6, 7, 8, 9], [0, 1, 2, 3, 4, 5, 6, 7, 8, 9, 10]] [some 34, some 35, some 36, some 37, some 38, some 39, some 40, some 41, some 42, some 43, some 44, some 45] (spAs uw ul uh pa pb gp og P.length cl a b ((Turn.mk uw ul uh).says pa (pb - 1))) (by kernel_rfl) (by kernel_rfl) rfl (spAs_stable _ _ _ _ _ _ _ _ _ _ _ _) ?_ ?_
              · refine ⟨fun V w' hG hs => ?_, fun V w' hG hs => ?_, fun V w' hG hs => ?_, fun V w' hG hs => ?_, fun V w' hG hs => ?_, fun V w' hG hs => ?_, fun V w' hG hs => ?_, fun V w' hG hs => ?_, fun V w' hG hs => ?_, fun V w' hG hs => ?_, fun V w' hG hs => ?_, fun V w' hG hs => ?_, trivial⟩
                all_goals
                  obtain ⟨bc, _⟩ := bcell hG
                  have f0 := (bc U 0 hsU).trans F0.out
                  have f1 := (bc U 1 hsU).trans F1.out
                  have f2 := (bc U 2 hsU).trans F2.out
                  have hca := (bc gp (og + a) hsg).trans HCA.out
                  have hcb := (bc gp (og + (b + 1)) hsg).trans HCB.out
                  clear bc
                · rw [if_pos (by rfl)]
                  exact Rs.GrowL.value (v := .agg #[.int .i64 uw, .int .i64 ul, .int .i64 uh]) (w' := w') (by simp [go_sem, Rs.look, f0, f1, f2]) (Rs.Gr.refl _) rfl
                · rw [if_pos (by rfl)]
                  exact Rs.GrowL.value (v := .slice (some ⟨gp, og, none⟩) P.length cl) (w' := w') (by simp [go_sem, Rs.look]) (Rs.Gr.refl _) rfl
                · rw [if_pos (by rfl)]
                  exact Rs.GrowL.value (v := .int .i64 a) (w' := w') (by simp [go_sem, Rs.look]) (Rs.Gr.refl _) rfl
                · have e1 : V 1 = .slice (some ⟨gp, og, none⟩) P.length cl := hs 1 (by simp)
                  have e2 : V 2 = .int .i64 a := hs 2 (by simp)
                  rw [if_pos (by rfl)]
                  exact Rs.GrowL.value (v := .pointer (some ⟨gp, og + a, none⟩)) (w' := w') (by simp [go_sem, Rs.look, e1, e2, han]) (Rs.Gr.refl _) rfl
                · have e1 : V 1 = .slice (some ⟨gp, og, none⟩) P.length cl := hs 1 (by simp)
                  have e2 : V 2 = .int .i64 a := hs 2 (by simp)
                  have e3 : V 3 = .pointer (some ⟨gp, og + a, none⟩) := hs 3 (by simp)
                  rw [if_pos (by rfl)]
                  exact Rs.GrowL.value (v := .int .i64 pa) (w' := w') (by simp [go_sem, Rs.look, e1, e2, e3, hca]) (Rs.Gr.refl _) rfl
                · rw [if_pos (by rfl)]
                  exact Rs.GrowL.value (v := .slice (some ⟨gp, og, none⟩) P.length cl) (w' := w') (by simp [go_sem, Rs.look]) (Rs.Gr.refl _) rfl
                · rw [if_pos (by rfl)]
                  exact Rs.GrowL.value (v := .int .i64 b) (w' := w') (by simp [go_sem, Rs.look]) (Rs.Gr.refl _) rfl
                · have e6 : V 6 = .int .i64 b := hs 6 (by simp)
                  rw [if_pos (by rfl)]
                  exact Rs.GrowL.value (v := .int .i64 ((b : Int) + 1)) (w' := w') (by simp [go_sem, Rs.look, e6, hsum]) (Rs.Gr.refl _) rfl
                · have e5 : V 5 = .slice (some ⟨gp, og, none⟩) P.length cl := hs 5 (by simp)
                  have e6 : V 6 = .int .i64 b := hs 6 (by simp)
                  have e7 : V 7 = .int .i64 ((b : Int) + 1) := hs 7 (by simp)
                  rw [if_pos (by rfl)]
                  exact Rs.GrowL.value (v := .pointer (some ⟨gp, og + (b + 1), none⟩)) (w' := w') (by simp [go_sem, Rs.look, e5, e6, e7, hbn, hbn2, hbn3]) (Rs.Gr.refl _) rfl
                · have e5 : V 5 = .slice (some ⟨gp, og, none⟩) P.length cl := hs 5 (by simp)
                  have e6 : V 6 = .int .i64 b := hs 6 (by simp)
                  have e7 : V 7 = .int .i64 ((b : Int) + 1) := hs 7 (by simp)
                  have e8 : V 8 = .pointer (some ⟨gp, og + (b + 1), none⟩) := hs 8 (by simp)
                  rw [if_pos (by rfl)]
                  exact Rs.GrowL.value (v := .int .i64 pb) (w' := w') (by simp [go_sem, Rs.look, e5, e6, e7, e8, hcb]) (Rs.Gr.refl _) rfl
                · have e1 : V 1 = .slice (some ⟨gp, og, none⟩) P.length cl := hs 1 (by simp)
                  have e2 : V 2 = .int .i64 a := hs 2 (by simp)
                  have e3 : V 3 = .pointer (some ⟨gp, og + a, none⟩) := hs 3 (by simp)
                  have e4 : V 4 = .int .i64 pa := hs 4 (by simp)
                  have e5 : V 5 = .slice (some ⟨gp, og, none⟩) P.length cl := hs 5 (by simp)
                  have e6 : V 6 = .int .i64 b := hs 6 (by simp)
                  have e7 : V 7 = .int .i64 ((b : Int) + 1) := hs 7 (by simp)
                  have e8 : V 8 = .pointer (some ⟨gp, og + (b + 1), none⟩) := hs 8 (by simp)
                  have e9 : V 9 = .int .i64 pb := hs 9 (by simp)
                  rw [if_pos (by rfl)]
                  refine Rs.GrowL.call (f := 128) (args := #[.int .i64 pa, .int .i64 pb]) (by simp [go_sem, Rs.look, e4, e9]) ?_
                  refine (wordsBetween_any _ _ _ (by omega) (by omega)).mono ?_
                  rintro e w2 ⟨rfl, rfl⟩
                  exact ⟨_, rfl, below1 _ _, rfl⟩
                · have e0 : V 0 = .agg #[.int .i64 uw, .int .i64 ul, .int .i64 uh] := hs 0 (by simp)
                  have e1 : V 1 = .slice (some ⟨gp, og, none⟩) P.length cl := hs 1 (by simp)
                  have e2 : V 2 = .int .i64 a := hs 2 (by simp)
                  have e3 : V 3 = .pointer (some ⟨gp, og + a, none⟩) := hs 3 (by simp)
                  have e4 : V 4 = .int .i64 pa := hs 4 (by simp)
                  have e5 : V 5 = .slice (some ⟨gp, og, none⟩) P.length cl := hs 5 (by simp)
                  have e6 : V 6 = .int .i64 b := hs 6 (by simp)
                  have e7 : V 7 = .int .i64 ((b : Int) + 1) := hs 7 (by simp)
                  have e8 : V 8 = .pointer (some ⟨gp, og + (b + 1), none⟩) := hs 8 (by simp)
                  have e9 : V 9 = .int .i64 pb := hs 9 (by simp)
                  have e10 : V 10 = .agg #[.int .i64 pa, .int .i64 (pb - 1)] := hs 10 (by simp)
                  rw [if_pos (by rfl)]
                  refine Rs.GrowL.call (f := 127) (args := #[.agg #[.int .i64 uw, .int .i64 ul, .int .i64 uh], .agg #[.int .i64 pa, .int .i64 (pb - 1)]]) (by simp [go_sem, Rs.look, e0, e10]) ?_
                  refine (says_any (Turn.mk uw ul uh) _ _ _).mono ?_
                  rintro e w2 ⟨rfl, hB2⟩
                  exact ⟨_, rfl, hB2, rfl⟩
              · intro V w' hG hs
                have e0 : V 0 = .agg #[.int .i64 uw, .int .i64 ul, .int .i64 uh] := hs 0 (by omega)
                have e1 : V 1 = .slice (some ⟨gp, og, none⟩) P.length cl := hs 1 (by omega)
                have e2 : V 2 = .int .i64 a := hs 2 (by omega)
                have e3 : V 3 = .pointer (some ⟨gp, og + a, none⟩) := hs 3 (by omega)
                have e4 : V 4 = .int .i64 pa := hs 4 (by omega)
                have e5 : V 5 = .slice (some ⟨gp, og, none⟩) P.length cl := hs 5 (by omega)
                have e6 : V 6 = .int .i64 b := hs 6 (by omega)
                have e7 : V 7 = .int .i64 ((b : Int) + 1) := hs 7 (by omega)
                have e8 : V 8 = .pointer (some ⟨gp, og + (b + 1), none⟩) := hs 8 (by omega)
                have e9 : V 9 = .int .i64 pb := hs 9 (by omega)
                have e10 : V 10 = .agg #[.int .i64 pa, .int .i64 (pb - 1)] := hs 10 (by omega)
                have e11 : V 11 = .bool ((Turn.mk uw ul uh).says pa (pb - 1)) := hs 11 (by omega)
                simp only [Rs.canon, Rs.dstOf, List.range_succ, List.range_zero, List.nil_append, List.cons_append, List.foldl_cons, List.foldl_nil, List.drop_succ_cons, List.drop_zero, List.drop_nil, List.getElem?_toArray, List.getElem?_cons_succ, List.getElem?_cons_zero, Option.bind_some, Act.put, List.getD_cons_succ, List.getD_cons_zero, List.setIfInBounds_toArray, List.set_cons_succ, List.set_cons_zero]
                rw [e0, e1, e2, e3, e4, e5, e6, e7, e8, e9, e10, e11]
                clear e0 e1 e2 e3 e4 e5 e6 e7 e8 e9 e10 e11 hs
                have HG := Lib.hid hG
                clear hG
                cases hr : (Turn.mk uw ul uh).says pa (pb - 1) with
                | true =>
                  have hfd := runs_find (p := fun a b => runSays P ⟨uw, ul, uh⟩ a b) hab hbm HA.out HR.out (by show runSays P ⟨uw, ul, uh⟩ a b = true; rw [HRS.out]; exact hr)
                  have hfin : astrayGo P 0 t.turns = ((k : Int), (a : Int), (b : Int), 0) := by rw [← HAG.out, HAT.out, hfd]
                  have HFIN := Lib.hid hfin
                  have HR1 := Lib.hid hr
                  have hrb := (HG.out.block (w.heap.size + 1) (by have := HB2.out.size; omega)).trans ((HB6.out.block (w.heap.size + 1) (by omega)).trans ((HB4.out.block (w.heap.size + 1) (by omega)).trans HRES.out))
                  have r0 := blk_cells hrb 0 _ rfl
                  have r1 := blk_cells hrb 1 _ rfl
                  have z0 : w'.frozen? ⟨w.heap.size + 1, 0, none⟩ = false := by simp [World.frozen?, hrb]
                  have z1 : w'.frozen? ⟨w.heap.size + 1, 1, none⟩ = false := by simp [World.frozen?, hrb]
                  have hs1 : w.heap.size + 1 < w'.heap.size := by have := HG.out.size; omega
                  have HBW := Lib.hid (join HBw.out HG.out)
                  clear hfd hfin hr hrb
                  go_wp2
                  refine bodyPost_ret (v := .tuple #[.int .i64 k, .agg #[.int .i64 a, .int .i64 b], .int .i64 0]) (by simp [results, Tryz.results86, go_sem, r0, r1]) rfl ⟨by rw [HFIN.out], ?_⟩
                  repeat' (first | exact HBW.out | apply belS | apply belA | apply belD)
                  all_goals first | omega | (simp; done) | (simp; omega)
                | false =>
                  have HR1 := Lib.hid hr
                  clear hr
                  go_wp2
                  go_roundw
                  case rel =>
                    refine ⟨b + 1, by omega, by omega, by go_num, fun b' h1 h2 => ?_, join HB6.out HG.out⟩
                    by_cases hb' : b' = b
                    · subst hb'; rw [HRS.out, HR1.out]
                    · exact HR.out b' h1 (by omega)
                  case measure => simp [intOf]; omega
            · obtain rfl : b = P.length - 1 := by omega
              have hbl2 : ¬ (((P.length - 1 : Nat) : Int) < (P.length : Int) - 1) := by omega
              go_wp2
              go_roundw
              case rel =>
                refine ⟨a + 1, by omega, by go_num, fun a' b' h1 h2 h3 => ?_, HB6.out⟩
                by_cases ha' : a' = a
                · subst ha'; exact HR.out b' h2 h3
                · exact HA.out a' b' (by omega) h2 h3
              case measure => simp [intOf]; omega
        · obtain rfl : a = P.length - 1 := by omega
          have hnone := runs_none (p := fun a b => runSays P ⟨uw, ul, uh⟩ a b) HA.out
          have HN := Lib.hid hnone
          have hal' : ((P.length - 1 : Nat) : Int) = (P.length : Int) - 1 := by omega
          have hal2 : ¬ (((P.length - 1 : Nat) : Int) < (P.length : Int) - 1) := by omega
          clear hnone
          go_wp2
          go_roundw
          case rel => exact ⟨k + 1, by omega, by go_num, by have := HAT.out; rw [HN.out, HAG.out] at this; exact this.symm, HB4.out.trans (HB5.out.mono (by omega))⟩
          case measure => simp [intOf]; omega
    · obtain rfl : k = t.turns.length := by omega
      have hfin : astrayGo P 0 t.turns = (0, 0, 0, 6) := by rw [← HAG.out, List.drop_length]; rfl
      have HFIN := Lib.hid hfin
      have r0 := blk_cells ((HB.out.block (w.heap.size + 1) (by omega)).trans HRES.out) 0 _ rfl
      have r1 := blk_cells ((HB.out.block (w.heap.size + 1) (by omega)).trans HRES.out) 1 _ rfl
      have z0 : w3.frozen? ⟨w.heap.size + 1, 0, none⟩ = false := by simp [World.frozen?, (HB.out.block (w.heap.size + 1) (by omega)).trans HRES.out]
      have z1 : w3.frozen? ⟨w.heap.size + 1, 1, none⟩ = false := by simp [World.frozen?, (HB.out.block (w.heap.size + 1) (by omega)).trans HRES.out]
      have hs1 : w.heap.size + 1 < w3.heap.size := by omega
      have HBW := Lib.hid (HB2.out.trans (HB.out.mono (by omega)))
      clear hfin
      go_wp2
      refine bodyPost_ret (v := .tuple #[.int .i64 0, .agg #[.int .i64 0, .int .i64 0], .int .i64 6]) (by simp [results, Tryz.results86, go_sem, r0, r1]) rfl ⟨by rw [HFIN.out], ?_⟩
      repeat' (first | exact HBW.out | apply belS | apply belA | apply belD)
      all_goals first | omega | (simp; done) | (simp; omega)
end Go.Proofs.YtadnggecnjdhiaaGreat
set_option linter.unusedSimpArgs false
set_option linter.unusedVariables false
namespace Go.Proofs.YtadnggecnjdhiaaGreat
open Go.RowKit Tx
attribute [local go_sem] Oper.semAt_some

theorem read_ok {t : Text} {l : List Int} (he : readErr t l = 0) : t.err = 0 ∧ (∀ x ∈ l, 1 ≤ x ∧ x ≤ 12) ∧ isum l = t.words.length := by
  have h0 : t.err = 0 := by
    by_cases h : t.err = 0
    · exact h
    · unfold readErr at he; rw [if_pos h] at he; exact absurd he h
  unfold readErr at he
  rw [if_neg (by simp [h0])] at he
  have h1 : ¬ l.any (fun k => !btw k 1 12) = true := by intro h; rw [if_pos h] at he; omega
  rw [if_neg h1] at he
  have h2 : isum l = t.words.length := by
    by_cases h : isum l = t.words.length
    · exact h
    · rw [if_pos h] at he; omega
  exact ⟨h0, fun x hx => by
    have := any_false h1 x hx
    simp only [Bool.not_eq_false'] at this
    exact btw_true this, h2⟩
set_option maxHeartbeats 800000 in
set_option maxRecDepth 100000 in
theorem Wrong_ok (t : Text) (l : List Int) (he : readErr t l = 0) (hll : l.length ≤ 1000000) (pw pt pl : Option Addr) (cw ct cl : Nat) (hcw : t.words.length ≤ cw ∧ cw ≤ maxLen) (w : World) (hW : TxAt w t pw pt) (hL : Ints w pl l) :
    Calls Tryz.prog 36 #[.agg #[.slice pw t.words.length cw, .slice pt t.turns.length ct, .int .i64 t.breath], .slice pl l.length cl] w fun e w' =>
      e = .returned (.tuple #[.int .i64 (wrongGo t 0 0 l).1, .int .i64 (wrongGo t 0 0 l).2.1, .int .i64 (wrongGo t 0 0 l).2.2]) ∧ Below w.heap.size w w' := by
  obtain ⟨h0, hx, hs⟩ := read_ok he
  have ok := err_ok h0
  have HS := Lib.hid (fun W (h : Below w.heap.size w W) => openReading_ok t l he hll pw pt pl cw ct cl W (hW.below h) (hL.below h))
  have HF := Lib.hid (fun W (h : Below w.heap.size w W) => firstWrong_any t l hx hs pw pt pl cw ct cl (.func (.func 91) #[.agg #[.slice pw t.words.length cw, .slice pt t.turns.length ct, .int .i64 t.breath, .nilFunc]] #[]) W ⟨ok, hW.below h, hcw⟩ (hL.below h) hll)
  clear hW hL he h0 hx hs ok
  go_enter Tryz.func36, Tryz.ntmps36
  go_wp2_with fail
  refine (HS.out _ (below1 _ _)).mono ?_
  rintro e w5 ⟨rfl, hB5⟩
  have HB5 := Lib.hid (join (below1 _ _) hB5)
  clear hB5
  go_wp2_with fail
  refine (HF.out _ (join HB5.out (below1 _ _))).mono ?_
  rintro e w6 ⟨rfl, hB6⟩
  have HB6 := Lib.hid hB6
  clear hB6
  go_wp2
  go_ret3
  exact ⟨rfl, join (join HB5.out (below1 _ _)) HB6.out⟩
def spWo (t : Text) (l P : List Int) (pw pt pl : Option Addr) (cw ct cl : Nat) (mv : Value) (a b c d : Int) : Nat → List Value → Value → World → Prop
  | 0, _, v, _ => v = .agg #[.slice pw t.words.length cw, .slice pt t.turns.length ct, .int .i64 t.breath, mv]
  | 1, _, v, _ => v = .slice pl l.length cl
  | 2, L, v, w => ∃ p c, v = .slice p P.length c ∧ Ints w p P
  | 3, _, v, _ => v = .tuple #[.int .i64 a, .agg #[.int .i64 b, .int .i64 c], .int .i64 d]
  | 4, _, v, _ => v = .int .i64 a
  | 5, _, v, _ => v = .agg #[.int .i64 b, .int .i64 c]
  | 6, _, v, _ => v = .int .i64 d
  | _, _, _, _ => False
theorem spWo_stable (t : Text) (l P : List Int) (pw pt pl : Option Addr) (cw ct cl : Nat) (mv : Value) (a b c d : Int) : ∀ i L v w w', spWo t l P pw pt pl cw ct cl mv a b c d i L v w → Rs.Gr w w' → spWo t l P pw pt pl cw ct cl mv a b c d i L v w' := by
  intro i L v w w' h hg
  match i with
  | 0 => exact h
  | 1 => exact h
  | 2 => obtain ⟨p, c, h1, h2⟩ := h; exact ⟨p, c, h1, h2.below hg⟩
  | 3 => exact h
  | 4 => exact h
  | 5 => exact h
  | 6 => exact h
set_option maxHeartbeats 1600000 in
set_option maxRecDepth 100000 in
theorem Astray_in (t : Text) (l : List Int) (he : readErr t l = 0) (hr : (wrongGo t 0 0 l).2.2 = 6) (hll : l.length ≤ 100000) (pw pt pl : Option Addr) (cw ct cl : Nat) (hcw : t.words.length ≤ cw ∧ cw ≤ maxLen) (w : World) (hW : TxAt w t pw pt) (hL : Ints w pl l) :
    Calls Tryz.prog 37 #[.agg #[.slice pw t.words.length cw, .slice pt t.turns.length ct, .int .i64 t.breath], .slice pl l.length cl] w fun e w' =>
      e = .returned (.tuple #[.int .i64 (astrayGo (placesL l) 0 t.turns).1, .agg #[.int .i64 (astrayGo (placesL l) 0 t.turns).2.1, .int .i64 (astrayGo (placesL l) 0 t.turns).2.2.1], .int .i64 (astrayGo (placesL l) 0 t.turns).2.2.2]) ∧ Below w.heap.size w w' := by
  obtain ⟨h0, hx, hs⟩ := read_ok he
  have ok := err_ok h0
  have hn12 := ok.n12
  have hpre := fun k => isum_take_le (fun x h => by have := hx x h; omega) hs k
  have hplen : (placesL l).length = l.length + 1 := by simp [placesL]
  have hm6 := ok.m6
  have HS := Lib.hid (fun W (h : Below w.heap.size w W) => openReading_ok t l he (by omega) pw pt pl cw ct cl W (hW.below h) (hL.below h))
  have HF := Lib.hid (fun W (h : Below w.heap.size w W) => firstWrong_any t l hx hs pw pt pl cw ct cl (.func (.func 91) #[.agg #[.slice pw t.words.length cw, .slice pt t.turns.length ct, .int .i64 t.breath, .nilFunc]] #[]) W ⟨ok, hW.below h, hcw⟩ (hL.below h) (by omega))
  have HPL0 : Hid (∀ W, Below w.heap.size w W → Calls Tryz.prog 87 #[.slice pl l.length cl] W fun e w' => ∃ p c, e = .returned (.slice p (placesL l).length c) ∧ Ints w' p (placesL l) ∧ Below W.heap.size W w') := Lib.hid (fun W h => by
    refine (placesOf_any l (fun k => by have := hpre k; omega) pl cl W (hL.below h) hll).mono ?_
    rintro e w' ⟨v, rfl, hown, hb⟩
    obtain ⟨p, c, rfl, hI, -⟩ := own_rd hown rfl
    exact ⟨p, c, rfl, hI, hb⟩)
  have HFA0 : Hid (∀ mv p c W, Below w.heap.size w W → Ints W p (placesL l) → Calls Tryz.prog 86 #[.agg #[.slice pw t.words.length cw, .slice pt t.turns.length ct, .int .i64 t.breath, mv], .slice p (placesL l).length c] W fun e w' =>
      e = .returned (.tuple #[.int .i64 (astrayGo (placesL l) 0 t.turns).1, .agg #[.int .i64 (astrayGo (placesL l) 0 t.turns).2.1, .int .i64 (astrayGo (placesL l) 0 t.turns).2.2.1], .int .i64 (astrayGo (placesL l) 0 t.turns).2.2.2]) ∧ Below W.heap.size W w') := Lib.hid (fun mv p c W h hI =>
    firstAstray_any t (by omega) (placesL l) (by omega) (by omega) (fun k hk => by
      have e : (placesL l).getD k 0 = isum (l.take k) := by
        unfold placesL; rw [List.getD_eq_getElem?_getD, List.getElem?_map, List.getElem?_range (by omega)]; rfl
      have := hpre k; rw [e]; omega) pt p ct c _ _ mv W (hW.turns.below h) hI)
  have hr' := hr
  generalize wrongGo t 0 0 l = rw0 at HF hr
  obtain ⟨r1, r2, r3⟩ := rw0
  simp only at HF hr
  subst hr
  clear hW hL he h0 hx hs ok hpre hr' hn12 hm6 hplen
  generalize placesL l = P at HPL0 HFA0 ⊢
  generalize astrayGo P 0 t.turns = ag at HFA0 ⊢
  obtain ⟨a, b, c, d⟩ := ag
  simp only at HFA0 ⊢
  go_enter Tryz.func37, Tryz.ntmps37
  go_wp2_with fail
  refine (HS.out _ ((below1 _ _).alloc (by simp) _)).mono ?_
  rintro e w5 ⟨rfl, hB5⟩
  have hz5 := hB5.size
  simp only [World.size_alloc] at hz5
  have hsp0 := heap_last (w.alloc (.cells #[.slice pw t.words.length cw, .slice pt t.turns.length ct, .int .i64 t.breath] 25)) (.cells #[.int .i64 0, .int .i64 0] 58)
  rw [World.size_alloc] at hsp0
  have hsp := (hB5.block (w.heap.size + 1) (by simp)).trans hsp0
  clear hsp0
  have HSP := Lib.hid hsp
  have HB5 := Lib.hid (join ((below1 _ _).alloc (by simp) _) hB5)
  clear hB5 hsp
  go_wp2_with fail
  refine (HF.out _ (join HB5.out (below1 _ _))).mono ?_
  rintro e w6 ⟨rfl, hB6⟩
  have hz6 := hB6.size
  simp only [World.size_alloc] at hz6
  have hbx := (hB6.block w5.heap.size (by simp)).trans (heap_last w5 (.cells #[.slice pw t.words.length cw, .slice pt t.turns.length ct, .int .i64 t.breath, .func (.func 91) #[.agg #[.slice pw t.words.length cw, .slice pt t.turns.length ct, .int .i64 t.breath, .nilFunc]] #[]] 84))
  have hsp6 := (hB6.block (w.heap.size + 1) (by simp; omega)).trans ((Below.heap_alloc _ _ _ (by omega)).trans HSP.out)
  have HBX0 := Lib.hid hbx
  have HSP6 := Lib.hid hsp6
  have HB6 := Lib.hid (join (join HB5.out (below1 _ _)) hB6)
  clear hB6 hbx hsp6
  obtain ⟨Bx, hBx⟩ : ∃ Bx, Bx = w5.heap.size := ⟨_, rfl⟩
  have hbx6 : Bx < w6.heap.size := by omega
  have hsz6 : w.heap.size + 1 < w6.heap.size := by omega
  have HBX : Hid (w6.heap[Bx]? = some (.cells #[.slice pw t.words.length cw, .slice pt t.turns.length ct, .int .i64 t.breath, .func (.func 91) #[.agg #[.slice pw t.words.length cw, .slice pt t.turns.length ct, .int .i64 t.breath, .nilFunc]] #[]] 84 (0, 0))) := Lib.hid (by rw [hBx]; exact HBX0.out)
  have HPL := Lib.hid (fun W (h : Below w6.heap.size w6 W) => HPL0.out W (join HB6.out h))
  have HFA := Lib.hid (fun p c W (h : Below w6.heap.size w6 W) hI => HFA0.out (.func (.func 91) #[.agg #[.slice pw t.words.length cw, .slice pt t.turns.length ct, .int .i64 t.breath, .nilFunc]] #[]) p c W (join HB6.out h) hI)
  go_wp2_with fail
  · rw [← hBx]
    clear hBx
    refine Rs.region_gen 7 [[], [], [1], [0, 1, 2], [0, 1, 2, 3], [0, 1, 2, 3], [0, 1, 2, 3]] [some 32, some 33, some 34, some 35, some 36, some 37, some 38] (spWo t l P pw pt pl cw ct cl (.func (.func 91) #[.agg #[.slice pw t.words.length cw, .slice pt t.turns.length ct, .int .i64 t.breath, .nilFunc]] #[]) a b c d) (by kernel_rfl) (by kernel_rfl) rfl (spWo_stable _ _ _ _ _ _ _ _ _ _ _ _ _ _) ?_ ?_
    · refine ⟨fun V w' hG hs => ?_, fun V w' hG hs => ?_, fun V w' hG hs => ?_, fun V w' hG hs => ?_, fun V w' hG hs => ?_, fun V w' hG hs => ?_, fun V w' hG hs => ?_, trivial⟩
      all_goals
        have k0 := blk_cells ((hG.block Bx (by omega)).trans HBX.out) 0 _ rfl
        have k1 := blk_cells ((hG.block Bx (by omega)).trans HBX.out) 1 _ rfl
        have k2 := blk_cells ((hG.block Bx (by omega)).trans HBX.out) 2 _ rfl
        have k3 := blk_cells ((hG.block Bx (by omega)).trans HBX.out) 3 _ rfl
      · rw [if_pos (by rfl)]
        exact Rs.GrowL.value (v := .agg #[.slice pw t.words.length cw, .slice pt t.turns.length ct, .int .i64 t.breath, (.func (.func 91) #[.agg #[.slice pw t.words.length cw, .slice pt t.turns.length ct, .int .i64 t.breath, .nilFunc]] #[])]) (w' := w') (by simp [go_sem, Rs.look, k0, k1, k2, k3]) (Rs.Gr.refl _) rfl
      · rw [if_pos (by rfl)]
        exact Rs.GrowL.value (v := .slice pl l.length cl) (w' := w') (by simp [go_sem, Rs.look]) (Rs.Gr.refl _) rfl
      · have e1 : V 1 = .slice pl l.length cl := hs 1 (by simp)
        rw [if_pos (by rfl)]
        refine Rs.GrowL.call (f := 87) (args := #[.slice pl l.length cl]) (by simp [go_sem, Rs.look, e1]) ?_
        refine (HPL.out w' hG).mono ?_
        rintro e w2 ⟨p, c, rfl, hI2, hB2⟩
        exact ⟨_, rfl, hB2, p, c, rfl, hI2⟩
      · have e0 : V 0 = .agg #[.slice pw t.words.length cw, .slice pt t.turns.length ct, .int .i64 t.breath, (.func (.func 91) #[.agg #[.slice pw t.words.length cw, .slice pt t.turns.length ct, .int .i64 t.breath, .nilFunc]] #[])] := hs 0 (by simp)
        have e1 : V 1 = .slice pl l.length cl := hs 1 (by simp)
        have r2 := hs 2 (by simp)
        rw [if_pos (by rfl)]
        obtain ⟨p, c, e2, hI⟩ := r2
        refine Rs.GrowL.call (f := 86) (args := #[.agg #[.slice pw t.words.length cw, .slice pt t.turns.length ct, .int .i64 t.breath, .func (.func 91) #[.agg #[.slice pw t.words.length cw, .slice pt t.turns.length ct, .int .i64 t.breath, .nilFunc]] #[]], .slice p P.length c]) (by simp [go_sem, Rs.look, e0, e2]) ?_
        refine (HFA.out p c w' hG hI).mono ?_
        rintro e w2 ⟨rfl, hB2⟩
        exact ⟨_, rfl, hB2, rfl⟩
      · have e0 : V 0 = .agg #[.slice pw t.words.length cw, .slice pt t.turns.length ct, .int .i64 t.breath, (.func (.func 91) #[.agg #[.slice pw t.words.length cw, .slice pt t.turns.length ct, .int .i64 t.breath, .nilFunc]] #[])] := hs 0 (by simp)
        have e1 : V 1 = .slice pl l.length cl := hs 1 (by simp)
        have r2 := hs 2 (by simp)
        have e3 : V 3 = .tuple #[.int .i64 a, .agg #[.int .i64 b, .int .i64 c], .int .i64 d] := hs 3 (by simp)
        rw [if_pos (by rfl)]
        exact Rs.GrowL.value (v := .int .i64 a) (w' := w') (by simp [go_sem, Rs.look, e0, e1, e3]) (Rs.Gr.refl _) rfl
      · have e0 : V 0 = .agg #[.slice pw t.words.length cw, .slice pt t.turns.length ct, .int .i64 t.breath, (.func (.func 91) #[.agg #[.slice pw t.words.length cw, .slice pt t.turns.length ct, .int .i64 t.breath, .nilFunc]] #[])] := hs 0 (by simp)
        have e1 : V 1 = .slice pl l.length cl := hs 1 (by simp)
        have r2 := hs 2 (by simp)
        have e3 : V 3 = .tuple #[.int .i64 a, .agg #[.int .i64 b, .int .i64 c], .int .i64 d] := hs 3 (by simp)
        rw [if_pos (by rfl)]
        exact Rs.GrowL.value (v := .agg #[.int .i64 b, .int .i64 c]) (w' := w') (by simp [go_sem, Rs.look, e0, e1, e3]) (Rs.Gr.refl _) rfl
      · have e0 : V 0 = .agg #[.slice pw t.words.length cw, .slice pt t.turns.length ct, .int .i64 t.breath, (.func (.func 91) #[.agg #[.slice pw t.words.length cw, .slice pt t.turns.length ct, .int .i64 t.breath, .nilFunc]] #[])] := hs 0 (by simp)
        have e1 : V 1 = .slice pl l.length cl := hs 1 (by simp)
        have r2 := hs 2 (by simp)
        have e3 : V 3 = .tuple #[.int .i64 a, .agg #[.int .i64 b, .int .i64 c], .int .i64 d] := hs 3 (by simp)
        rw [if_pos (by rfl)]
        exact Rs.GrowL.value (v := .int .i64 d) (w' := w') (by simp [go_sem, Rs.look, e0, e1, e3]) (Rs.Gr.refl _) rfl
    · intro V w' hG hs
      have e0 : V 0 = .agg #[.slice pw t.words.length cw, .slice pt t.turns.length ct, .int .i64 t.breath, (.func (.func 91) #[.agg #[.slice pw t.words.length cw, .slice pt t.turns.length ct, .int .i64 t.breath, .nilFunc]] #[])] := hs 0 (by omega)
      have e1 : V 1 = .slice pl l.length cl := hs 1 (by omega)
      have r2 := hs 2 (by omega)
      have e3 : V 3 = .tuple #[.int .i64 a, .agg #[.int .i64 b, .int .i64 c], .int .i64 d] := hs 3 (by omega)
      have e4 : V 4 = .int .i64 a := hs 4 (by omega)
      have e5 : V 5 = .agg #[.int .i64 b, .int .i64 c] := hs 5 (by omega)
      have e6 : V 6 = .int .i64 d := hs 6 (by omega)
      obtain ⟨p2, c2, e2, hI2⟩ := r2
      simp only [Rs.canon, Rs.dstOf, List.range_succ, List.range_zero, List.nil_append, List.cons_append, List.foldl_cons, List.foldl_nil, List.drop_succ_cons, List.drop_zero, List.drop_nil, List.getElem?_toArray, List.getElem?_cons_succ, List.getElem?_cons_zero, Option.bind_some, Act.put, List.getD_cons_succ, List.getD_cons_zero, List.setIfInBounds_toArray, List.set_cons_succ, List.set_cons_zero]
      rw [e0, e1, e3, e4, e5, e6, e2]
      clear e0 e1 e3 e4 e5 e6 e2 hs
      have hsp9 := (hG.block (w.heap.size + 1) (by omega)).trans HSP6.out
      have y0 := blk_cells hsp9 0 _ rfl
      have y1 := blk_cells hsp9 1 _ rfl
      have z : ∀ i, w'.frozen? ⟨w.heap.size + 1, i, none⟩ = false := fun i => by simp [World.frozen?, hsp9]
      have HSP9 := Lib.hid hsp9
      have HG := Lib.hid hG
      clear hsp9 hG
      go_wp2
      have hx9 : ((w'.setCell ⟨w.heap.size + 1, 0, none⟩ (.int .i64 b)).setCell ⟨w.heap.size + 1, 1, none⟩ (.int .i64 c)).heap[w.heap.size + 1]? = some (.cells #[.int .i64 b, .int .i64 c] 58 (0, 0)) := heap_set_same _ (heap_set_same _ HSP9.out)
      have r0 := blk_cells hx9 0 _ rfl
      have r1 := blk_cells hx9 1 _ rfl
      refine bodyPost_ret (v := .tuple #[.int .i64 a, .agg #[.int .i64 b, .int .i64 c], .int .i64 d]) (by simp [results, Tryz.results37, go_sem, r0, r1]) rfl ⟨rfl, ?_⟩
      exact ((join HB6.out HG.out).setCell (p := ⟨w.heap.size + 1, 0, none⟩) (by simp) _).setCell (p := ⟨w.heap.size + 1, 1, none⟩) (by simp) _
end Go.Proofs.YtadnggecnjdhiaaGreat
set_option linter.unusedSimpArgs false
set_option linter.unusedVariables false
namespace Go.Proofs.YtadnggecnjdhiaaGreat
open Go.RowKit Tx
attribute [local go_sem] Oper.semAt_some

set_option maxHeartbeats 2000000 in
set_option maxRecDepth 100000 in
theorem Reading_any (t : Text) (l : List Int) (hl1 : t.words.length ≤ 1000000) (hl2 : t.turns.length ≤ 1000000) (hll : l.length ≤ 1000000) (pw pt pl : Option Addr) (cw ct cl : Nat) (w : World) (hW : TxAt w t pw pt) (hL : Ints w pl l) :
    Calls Tryz.prog 48 #[.agg #[.slice pw t.words.length cw, .slice pt t.turns.length ct, .int .i64 t.breath], .slice pl l.length cl] w fun e w' => e = .returned (.int .i64 (readErr t l)) ∧ Below w.heap.size w w' := by
  have HC := Lib.hid (fun W (h : Below w.heap.size w W) => rCheck_any t hl1 hl2 pw pt cw ct W (hW.below h))
  have HB := Lib.hid (below1 w (.cells #[.slice pw t.words.length cw, .slice pt t.turns.length ct, .int .i64 t.breath] 32))
  have HX := Lib.hid (heap_last w (.cells #[.slice pw t.words.length cw, .slice pt t.turns.length ct, .int .i64 t.breath] 32))
  have HL := Lib.hid hL
  obtain ⟨k0, k1, k2⟩ := blk3 HX.out
  clear hW hL
  by_cases he : t.err = 0
  · have hn12 := (err_ok he).n12
    have HR : Hid (readErr t l = if l.any (fun k => !btw k 1 12) then 3 else if isum l ≠ t.words.length then 2 else 0) := Lib.hid (by unfold readErr; rw [if_neg (by simp [he])])
    rw [he] at HC
    generalize readErr t l = er at HR ⊢
    clear he
    go_enter Tryz.func48, Tryz.ntmps48
    go_wp2_with fail
    refine (HC.out _ HB.out).mono ?_
    rintro e w5 ⟨rfl, hB5⟩
    have HX5 := Lib.hid ((hB5.block w.heap.size (Array.getElem?_eq_some_iff.1 HX.out).1).trans HX.out)
    have HB5 := Lib.hid (join HB.out hB5)
    clear hB5 k0 k1 k2
    obtain ⟨k0, k1, k2⟩ := blk3 HX5.out
    go_wp2_with fail
    go_loop [6, 7] (fun n i => ∃ k : Nat, ∃ q : Int, k ≤ l.length ∧ i = .int .i64 k ∧ n = .int .i64 q ∧ q = min (isum (l.take k)) 100 ∧ (l.take k).any (fun k => !btw k 1 12) = false ∧ 0 ≤ isum (l.take k)) (fun _ i => l.length - (intOf i).toNat)
    case atStart => exact ⟨0, 0, Nat.zero_le _, rfl, rfl, by rw [List.take_zero]; rfl, rfl, by simp [isum]⟩
    case round =>
      obtain ⟨k, q, hk, rfl, rfl, hq, hA, hs⟩ := hrel
      have HA := Lib.hid hA
      have hq0 : 0 ≤ q ∧ q ≤ 100 := by omega
      have HQ := Lib.hid hq
      clear hA hq
      by_cases hlt : k < l.length
      · have hlt' : (k : Int) < l.length := by omega
        obtain ⟨b, o, x, rfl, hbl, hxx, c1⟩ := (HL.out.below HB5.out).at hlt
        have hsn : isum (l.take (k + 1)) = isum (l.take k) + x := by rw [take_snocD 0 hlt, isum_snoc, hxx]
        have HSN := Lib.hid hsn
        have HS := Lib.hid hs
        have HXX := Lib.hid hxx
        clear hsn hs hxx
        cases hx : btw x 1 12 with
        | false =>
          have HX1 := Lib.hid (not_btw hx)
          have HF : Hid (er = 3) := Lib.hid (by rw [HR.out, if_pos (any_hit 0 hlt _ (by rw [← HXX.out, hx]; rfl))])
          clear hx HR
          go_wp2_with fail
          refine (off_b _ _ _ _ HX1.out _).mono ?_
          rintro e w' ⟨rfl, rfl⟩
          go_wp2
          go_ret
          exact ⟨ret_int HF.out.symm, HB5.out⟩
        | true =>
          have HX1 := Lib.hid (not_btw hx)
          have hxb := btw_true hx
          have HXB := Lib.hid hx
          clear hx
          go_wp2_with fail
          refine (off_b _ _ _ _ HX1.out _).mono ?_
          rintro e w' ⟨rfl, rfl⟩
          go_wp2
          go_round
          case rel => exact ⟨k + 1, min (q + x) 100, by omega, by go_num, by first | rfl | (congr 1; omega), by rw [HSN.out]; have := HQ.out; have := HS.out; omega, any_snoc 0 hlt _ HA.out (by rw [← HXX.out, HXB.out]; rfl), by rw [HSN.out]; have := HS.out; omega⟩
          case measure => simp [intOf]; omega
      · obtain rfl : k = l.length := by omega
        have hany := HA.out
        have hQ := HQ.out
        rw [List.take_length] at hany hQ hs
        have HR2 := Lib.hid (HR.out.trans (if_neg (by rw [hany]; decide)))
        clear hany HA HR HQ
        by_cases hne : q = (t.words.length : Int)
        · have HF : Hid (er = 0) := Lib.hid (by rw [HR2.out, if_neg]; omega)
          clear HR2 hQ hs
          subst hne
          go_wp2
          go_ret
          exact ⟨ret_int HF.out.symm, HB5.out⟩
        · have HF : Hid (er = 2) := Lib.hid (by rw [HR2.out, if_pos]; omega)
          have hne' : (q != (t.words.length : Int)) = true := by simpa using hne
          clear HR2 hQ hs hne
          go_wp2
          go_ret
          exact ⟨ret_int HF.out.symm, HB5.out⟩
  · have HE : (t.err != 0) = true := by simpa using he
    have HR : Hid (readErr t l = t.err) := Lib.hid (by unfold readErr; rw [if_pos he])
    rw [HR.out]
    generalize t.err = er at HC HE ⊢
    clear he HR
    go_enter Tryz.func48, Tryz.ntmps48
    go_wp2_with fail
    refine (HC.out _ HB.out).mono ?_
    rintro e w5 ⟨rfl, hB5⟩
    have HB5 := Lib.hid (join HB.out hB5)
    clear hB5
    go_wp2
    go_ret
    exact ⟨rfl, HB5.out⟩
end Go.Proofs.YtadnggecnjdhiaaGreat
set_option linter.unusedSimpArgs false
set_option linter.unusedVariables false
namespace Go.Proofs.YtadnggecnjdhiaaGreat
open Go.RowKit Tx

def wtTo (t : Text) (l : List Int) (k : Nat) : List Int := (l.take k).map (fun i => (t.words.getD i.toNat default).wt) ++ List.replicate (l.length - k) 0
theorem wtTo_zero (t : Text) (l : List Int) : wtTo t l 0 = List.replicate l.length 0 := by simp [wtTo]
theorem wtTo_len (t : Text) (l : List Int) {k : Nat} (hk : k ≤ l.length) : (wtTo t l k).length = l.length := by simp [wtTo]; omega
theorem wtTo_full (t : Text) (l : List Int) : wtTo t l l.length = l.map (fun i => (t.words.getD i.toNat default).wt) := by simp [wtTo]
theorem wtTo_succ (t : Text) (l : List Int) {k : Nat} (hk : k < l.length) : (wtTo t l k).set k (t.words.getD (l.getD k 0).toNat default).wt = wtTo t l (k + 1) := by
  unfold wtTo
  rw [take_snocD 0 hk, List.map_append, List.map_cons, List.map_nil]
  rw [show l.length - k = (l.length - (k + 1)) + 1 by omega, List.replicate_succ]
  rw [List.set_append_right _ _ (by simp; omega)]
  rw [show k - (List.map (fun i : Int => (t.words.getD i.toNat default).wt) (l.take k)).length = 0 by simp; omega]
  simp
theorem made_int (n : Nat) : madeCells #[.int .i64 0] n = arrOf (List.replicate n 0) := by
  unfold madeCells arrOf
  apply Array.ext_getElem?
  intro i
  by_cases hi : i < n <;> simp [Nat.mod_one, hi, Array.getElem?_range]
theorem make_ints (n : Nat) (hn : n ≤ 1000000) (W : World) : (Instr.makeSlice 34 (.int .i64 (n : Int)) (.int .i64 (n : Int))).run Tryz.prog W = .ok (.slice (some ⟨W.heap.size, 0, none⟩) n n) (W.alloc (.cells (arrOf (List.replicate n 0)) 3)) := by
  have h := run_make_row' (P := Tryz.prog) 34 3 (.int .i64 0) 8 A_undI A_infoI rfl .i64 .i64 n (by omega) (by omega) W
  rw [made_int] at h
  exact h
set_option maxHeartbeats 1000000 in
set_option maxRecDepth 100000 in
theorem weight_any (t : Text) (ok : Text.Ok t) (l : List Int) (hll : l.length ≤ 100000) (hx : ∀ x ∈ l, 0 ≤ x ∧ x < t.words.length) (pw pl : Option Addr) (cw cl : Nat) (v1 v2 v3 : Value) (w : World) (hW : Wds w pw t.words) (hL : Ints w pl l) :
    Calls Tryz.prog 111 #[.agg #[.slice pw t.words.length cw, v1, v2, v3], .slice pl l.length cl] w fun e w' => e = .returned (.int .i64 (t.wtOf l)) ∧ Below w.heap.size w w' := by
  have hmk := make_ints l.length (by omega)
  have HW := Lib.hid hW
  have HL := Lib.hid hL
  have HX := Lib.hid hx
  have HOK := Lib.hid ok
  have hn12 := ok.n12
  have HX0 := Lib.hid (heap_last w (.cells #[.slice pw t.words.length cw, v1, v2, v3] 84))
  have HB1 := Lib.hid (below1 w (.cells #[.slice pw t.words.length cw, v1, v2, v3] 84))
  have hz1 : (w.alloc (.cells #[.slice pw t.words.length cw, v1, v2, v3] 84)).heap.size = w.heap.size + 1 := by simp
  clear hW hL hx ok
  go_enter Tryz.func111, Tryz.ntmps111
  go_wp2_with fail
  have hblk := heap_last (w.alloc (.cells #[.slice pw t.words.length cw, v1, v2, v3] 84)) (.cells (arrOf (List.replicate l.length 0)) 3)
  rw [World.size_alloc] at hblk
  have hx2 := (Below.heap_alloc (w.alloc (.cells #[.slice pw t.words.length cw, v1, v2, v3] 84)) (.cells (arrOf (List.replicate l.length 0)) 3) w.heap.size (by simp)).trans HX0.out
  have hB2 := join HB1.out (below1 (w.alloc (.cells #[.slice pw t.words.length cw, v1, v2, v3] 84)) (.cells (arrOf (List.replicate l.length 0)) 3))
  rw [← wtTo_zero t l] at hblk
  go_loopw [6, 7, 13] (fun u6 u7 i wr => ∃ k : Nat, k ≤ l.length ∧ i = .int .i64 k ∧ wr.heap[w.heap.size]? = some (.cells #[.slice pw t.words.length cw, v1, v2, v3] 84 (0, 0)) ∧ wr.heap[w.heap.size + 1]? = some (.cells (arrOf (wtTo t l k)) 3 (0, 0)) ∧ Below w.heap.size w wr) (fun _ _ i _ => l.length - (intOf i).toNat)
  case atStart => exact ⟨0, Nat.zero_le _, rfl, hx2, by simpa [wtTo_zero] using hblk, hB2⟩
  case round =>
    obtain ⟨k, hk, rfl, h0, h1, hB⟩ := hrel
    have H0 := Lib.hid h0
    have H1 := Lib.hid h1
    have HB := Lib.hid hB
    have hs1 := (Array.getElem?_eq_some_iff.1 h1).1
    have hs0 : w.heap.size < wr.heap.size := by omega
    have k0 := blk_cells h0 0 _ rfl
    clear hblk hx2 hB2 h0 h1 hB hmk
    by_cases hlt : k < l.length
    · have hlt' : (k : Int) < l.length := by omega
      obtain ⟨lb, lo, x, rfl, hlb, hxx, c1⟩ := (HL.out.below HB.out).at hlt
      have hxb := HX.out x (by rw [hxx]; exact getD_mem 0 hlt)
      obtain ⟨y, rfl⟩ := Int.eq_ofNat_of_zero_le hxb.1
      have hyn : y < t.words.length := by omega
      have hyn' : (y : Int) < t.words.length := by omega
      obtain ⟨bb, bo, z, rfl, hbb, hzz, d1, d2, d3⟩ := (HW.out.below HB.out).at hyn
      have hcell := blk_cells H1.out k _ (arrOf_get (by rw [wtTo_len t l hk]; exact hlt))
      have hfz : wr.frozen? ⟨w.heap.size + 1, k, none⟩ = false := by simp [World.frozen?, H1.out]
      have HSUC : Hid ((wtTo t l k).set k z.wt = wtTo t l (k + 1)) := Lib.hid (by rw [← wtTo_succ t l hlt, ← hxx]; rw [show ((y : Int)).toNat = y from rfl, ← hzz])
      generalize (wtTo t l k).getD k 0 = old at hcell
      clear hxx hzz
      go_wp2
      go_roundw
      case rel =>
        refine ⟨k + 1, by omega, by go_num, (Below.heap_setCell _ _ _ _ (by show w.heap.size ≠ w.heap.size + 1; omega)).trans H0.out, ?_, belS HB.out (by omega)⟩
        rw [heap_set_same _ H1.out, arrOf_set, HSUC.out]
      case measure => simp [intOf]; omega
    · obtain rfl : k = l.length := by omega
      have hfull := wtTo_full t l
      have HF := Lib.hid hfull
      have hints : Ints wr (some ⟨w.heap.size + 1, 0, none⟩) (l.map (fun i => (t.words.getD i.toNat default).wt)) := by
        refine .inr ⟨_, _, rfl, hs1, fun i hi => ?_⟩
        rw [Nat.zero_add]
        have := blk_cells H1.out i _ (arrOf_get (by rw [HF.out]; exact hi))
        rw [this, HF.out]
      have hbd : ∀ x ∈ l.map (fun i => (t.words.getD i.toNat default).wt), -1000000 ≤ x ∧ x ≤ 1000000 := fun x hxm => by
        obtain ⟨i, hi, rfl⟩ := List.mem_map.1 hxm
        have := HX.out i hi
        have h2 := HOK.out.word (t.words.getD i.toNat default) (getD_mem default (by omega))
        omega
      have hsum := sum_any (l.map (fun i => (t.words.getD i.toNat default).wt)) (some ⟨w.heap.size + 1, 0, none⟩) l.length wr (by rw [List.length_map]; omega) hbd hints
      rw [List.length_map] at hsum
      have HSUM := Lib.hid hsum
      clear hfull hints hbd hsum k0
      go_wp2_with fail
      refine HSUM.out.mono ?_
      rintro e w7 ⟨rfl, rfl⟩
      go_wp2
      go_ret
      exact ⟨rfl, HB.out⟩

/-- Contains of ints, in any list -/
theorem contains_any (l : List Int) (hll : l.length ≤ 1000000) (p : Option Addr) (c : Nat) (x : Int) (w : World) (hL : Ints w p l) :
    Calls Tryz.prog 136 #[.slice p l.length c, .int .i64 x] w fun e w' => e = .returned (.bool (l.contains x)) ∧ w' = w := by
  rcases hL with rfl | ⟨b, o, rfl, hb, hc⟩
  · exact (Tryz.slices_Contains_int_empty p c x w).mono fun e w' ⟨h1, h2⟩ => ⟨by rw [h1]; rfl, h2⟩
  · have h := Tryz.slices_Contains_int b o l.length c l x w (Nat.le_refl _) (by omega) hc
    rw [List.take_length] at h
    exact h
theorem coreTo_snoc (u : Turn) (l : List Int) {k : Nat} : ((List.range (k + 1)).all fun j => l.contains (u.lo + (j : Int))) = ((List.range k).all (fun j => l.contains (u.lo + (j : Int))) && l.contains (u.lo + (k : Int))) := by
  rw [List.range_succ, List.all_append]; simp
set_option maxHeartbeats 1000000 in
theorem coreKept_any (u : Turn) (hu : 0 ≤ u.lo ∧ u.lo ≤ u.hi ∧ u.hi ≤ 1000) (l : List Int) (hll : l.length ≤ 1000000) (p : Option Addr) (c : Nat) (w : World) (hL : Ints w p l) :
    Calls Tryz.prog 135 #[.agg #[.int .i64 u.word, .int .i64 u.lo, .int .i64 u.hi], .slice p l.length c] w fun e w' => e = .returned (.bool (coreIn u l)) ∧ Below w.heap.size w w' := by
  obtain ⟨uw, ul, uh⟩ := u
  dsimp only at hu ⊢
  have HL := Lib.hid hL
  have hB := below1 w (.cells #[.int .i64 uw, .int .i64 ul, .int .i64 uh] 63)
  have hx0 := heap_last w (.cells #[.int .i64 uw, .int .i64 ul, .int .i64 uh] 63)
  have HB := Lib.hid hB
  have HX0 := Lib.hid hx0
  clear hL hB hx0
  go_enter Tryz.func135, Tryz.ntmps135
  go_wp2_with fail
  generalize hW1 : w.alloc (.cells #[.int .i64 uw, .int .i64 ul, .int .i64 uh] 63) = W1 at HB HX0 ⊢
  clear hW1
  have f0 := blk_cells HX0.out 0 _ rfl
  have f1 := blk_cells HX0.out 1 _ rfl
  have f2 := blk_cells HX0.out 2 _ rfl
  go_loopw [5] (fun i wr => ∃ k : Nat, ul + (k : Int) ≤ uh + 1 ∧ i = .int .i64 (ul + (k : Int)) ∧ ((List.range k).all fun j => l.contains (ul + (j : Int))) = true ∧ W1 = wr) (fun i _ => (uh + 1 - intOf i).toNat)
  case atStart => exact ⟨0, by omega, by simp, rfl, rfl⟩
  case round =>
    obtain ⟨k, hk, rfl, hall, rfl⟩ := hrel
    have HALL := Lib.hid hall
    clear hall
    by_cases hle : ul + (k : Int) ≤ uh
    · have HSN := Lib.hid (coreTo_snoc ⟨uw, ul, uh⟩ l (k := k))
      cases hc : l.contains (ul + (k : Int)) with
      | true =>
        have HC := Lib.hid hc
        clear hc
        go_wp2_with fail
        refine (contains_any l hll p c _ _ (HL.out.below HB.out)).mono ?_
        rintro e w' ⟨rfl, rfl⟩
        rw [HC.out]
        go_wp2
        go_roundw
        case rel => exact ⟨k + 1, by omega, by rw [show ((k + 1 : Nat) : Int) = (k : Int) + 1 by omega, ← Int.add_assoc], by rw [HSN.out, HALL.out]; exact HC.out, trivial⟩
        case measure => simp [intOf]; omega
      | false =>
        have HC := Lib.hid hc
        clear hc
        go_wp2_with fail
        refine (contains_any l hll p c _ _ (HL.out.below HB.out)).mono ?_
        rintro e w' ⟨rfl, rfl⟩
        rw [HC.out]
        go_wp2
        go_ret
        refine ⟨ret_bool ?_, HB.out⟩
        symm
        unfold coreIn
        rw [List.all_eq_false]
        exact ⟨k, List.mem_range.2 (by show k < (uh + 1 - ul).toNat; omega), by rw [HC.out]; decide⟩
    · have hkk : k = (uh + 1 - ul).toNat := by omega
      have HKK := Lib.hid hkk
      clear hkk
      go_wp2
      go_ret
      exact ⟨ret_bool (by unfold coreIn; rw [← HKK.out]; exact HALL.out.symm), HB.out⟩
end Go.Proofs.YtadnggecnjdhiaaGreat
set_option linter.unusedSimpArgs false
set_option linter.unusedVariables false
namespace Go.Proofs.YtadnggecnjdhiaaGreat
open Go.RowKit Tx
attribute [local go_sem] Oper.semAt_some

set_option maxHeartbeats 1000000 in
theorem otherwise_any (u : Turn) (hu : 0 ≤ u.lo ∧ u.lo ≤ u.hi ∧ u.hi ≤ 1000) (l : List Int) (hll : l.length ≤ 1000000) (p : Option Addr) (c : Nat) (w : World) (hL : Ints w p l) :
    Calls Tryz.prog 97 #[.agg #[.int .i64 u.word, .int .i64 u.lo, .int .i64 u.hi], .slice p l.length c] w fun e w' => e = .returned (.bool (coreIn u l && !l.contains u.word)) ∧ Below w.heap.size w w' := by
  obtain ⟨uw, ul, uh⟩ := u
  dsimp only at hu ⊢
  have HL := Lib.hid hL
  have hB := below1 w (.cells #[.int .i64 uw, .int .i64 ul, .int .i64 uh] 81)
  have hx0 := heap_last w (.cells #[.int .i64 uw, .int .i64 ul, .int .i64 uh] 81)
  have HB := Lib.hid hB
  have HX0 := Lib.hid hx0
  have HZ0 : Hid (w.heap.size < (w.alloc (.cells #[.int .i64 uw, .int .i64 ul, .int .i64 uh] 81)).heap.size) := Lib.hid (by simp)
  clear hL hB hx0
  go_enter Tryz.func97, Tryz.ntmps97
  go_wp2_with fail
  generalize hW1 : w.alloc (.cells #[.int .i64 uw, .int .i64 ul, .int .i64 uh] 81) = W1 at HB HX0 HZ0 ⊢
  clear hW1
  have f0 := blk_cells HX0.out 0 _ rfl
  have f1 := blk_cells HX0.out 1 _ rfl
  have f2 := blk_cells HX0.out 2 _ rfl
  go_loopw [5] (fun i wr => ∃ k : Nat, ul + (k : Int) ≤ uh + 1 ∧ i = .int .i64 (ul + (k : Int)) ∧ ((List.range k).all fun j => l.contains (ul + (j : Int))) = true ∧ Below W1.heap.size W1 wr) (fun i _ => (uh + 1 - intOf i).toNat)
  case atStart => exact ⟨0, by omega, by simp, rfl, Below.refl _ _⟩
  case round =>
    obtain ⟨k, hk, rfl, hall, hBr⟩ := hrel
    have HALL := Lib.hid hall
    have HBr := Lib.hid hBr
    have hx := (hBr.block w.heap.size HZ0.out).trans HX0.out
    have g0 := blk_cells hx 0 _ rfl
    have g1 := blk_cells hx 1 _ rfl
    have g2 := blk_cells hx 2 _ rfl
    clear hall hBr hx f0 f1 f2
    by_cases hle : ul + (k : Int) ≤ uh
    · have HSN := Lib.hid (coreTo_snoc ⟨uw, ul, uh⟩ l (k := k))
      cases hc : l.contains (ul + (k : Int)) with
      | true =>
        have HC := Lib.hid hc
        clear hc
        go_wp2_with fail
        refine (has_any l _ hll p c _ ((HL.out.below HB.out).below HBr.out)).mono ?_
        rintro e w' ⟨rfl, hB5⟩
        rw [HC.out]
        have HB5 := Lib.hid (join HBr.out hB5)
        clear hB5
        go_wp2
        go_roundw
        case rel => exact ⟨k + 1, by omega, by rw [show ((k + 1 : Nat) : Int) = (k : Int) + 1 by omega, ← Int.add_assoc], by rw [HSN.out, HALL.out]; exact HC.out, HB5.out⟩
        case measure => simp [intOf]; omega
      | false =>
        have HC := Lib.hid hc
        clear hc
        go_wp2_with fail
        refine (has_any l _ hll p c _ ((HL.out.below HB.out).below HBr.out)).mono ?_
        rintro e w' ⟨rfl, hB5⟩
        rw [HC.out]
        have HB5 := Lib.hid (join HB.out (join HBr.out hB5))
        clear hB5
        go_wp2
        go_ret
        refine ⟨ret_bool ?_, HB5.out⟩
        symm
        have : coreIn ⟨uw, ul, uh⟩ l = false := by
          unfold coreIn
          rw [List.all_eq_false]
          exact ⟨k, List.mem_range.2 (by show k < (uh + 1 - ul).toNat; omega), by rw [HC.out]; decide⟩
        rw [this]; rfl
    · have hkk : k = (uh + 1 - ul).toNat := by omega
      have HCO : Hid (coreIn ⟨uw, ul, uh⟩ l = true) := Lib.hid (by unfold coreIn; rw [← hkk]; exact HALL.out)
      clear hkk
      cases hc : l.contains uw with
      | true =>
        have HC := Lib.hid hc
        clear hc
        go_wp2_with fail
        refine (has_any l _ hll p c _ ((HL.out.below HB.out).below HBr.out)).mono ?_
        rintro e w' ⟨rfl, hB5⟩
        rw [HC.out]
        have HB5 := Lib.hid (join HB.out (join HBr.out hB5))
        clear hB5
        go_wp2
        go_ret
        exact ⟨ret_bool (by show _ = (coreIn ⟨uw, ul, uh⟩ l && !l.contains uw); rw [HCO.out, HC.out]; rfl), HB5.out⟩
      | false =>
        have HC := Lib.hid hc
        clear hc
        go_wp2_with fail
        refine (has_any l _ hll p c _ ((HL.out.below HB.out).below HBr.out)).mono ?_
        rintro e w' ⟨rfl, hB5⟩
        rw [HC.out]
        have HB5 := Lib.hid (join HB.out (join HBr.out hB5))
        clear hB5
        go_wp2
        go_ret
        exact ⟨ret_bool (by show _ = (coreIn ⟨uw, ul, uh⟩ l && !l.contains uw); rw [HCO.out, HC.out]; rfl), HB5.out⟩
end Go.Proofs.YtadnggecnjdhiaaGreat
set_option linter.unusedSimpArgs false
set_option linter.unusedVariables false
namespace Go.Proofs.YtadnggecnjdhiaaGreat
open Go.RowKit Tx
attribute [local go_sem] Oper.semAt_some

def rsaid (t : Text) (l : List Int) : List Int := idx (fun u => coreIn u l && !l.contains u.word) 0 t.turns
set_option maxHeartbeats 1600000 in
theorem Said_any (t : Text) (hm : t.turns.length ≤ 1000000) (hu : ∀ u ∈ t.turns, 0 ≤ u.lo ∧ u.lo ≤ u.hi ∧ u.hi ≤ 1000) (l : List Int) (hll : l.length ≤ 1000000) (pt pl : Option Addr) (ct cl : Nat) (v0 v2 : Value) (w : World) (hT : Tns w pt t.turns) (hL : Ints w pl l) :
    Calls Tryz.prog 100 #[.agg #[v0, .slice pt t.turns.length ct, v2], .slice pl l.length cl] w (RowPost (rsaid t l) w) := by
  obtain ⟨i0, hi0, hz0, hz1, hz2⟩ := info_parts A_infoI
  have HT := Lib.hid hT
  have HL := Lib.hid hL
  have HU := Lib.hid hu
  clear hT hL hu
  have HB2 := Lib.hid (below1 w (.cells #[v0, .slice pt t.turns.length ct, v2] 32))
  have HX1 := Lib.hid (heap_last w (.cells #[v0, .slice pt t.turns.length ct, v2] 32))
  have HSZ : Hid ((w.alloc (.cells #[v0, .slice pt t.turns.length ct, v2] 32)).heap.size = w.heap.size + 1) := Lib.hid (by simp)
  go_enter Tryz.func100, Tryz.ntmps100
  go_wp2_with fail
  generalize w.alloc (.cells #[v0, .slice pt t.turns.length ct, v2] 32) = W1 at *
  have hw1 : w.heap.size + 1 ≤ W1.heap.size := by have := HSZ.out; omega
  go_loopw [5, 6] (fun v i wr => ∃ k : Nat, k ≤ t.turns.length ∧ i = .int .i64 k ∧ wr.ownsRow W1.heap.size 3 1 v (idx (fun u => coreIn u l && !l.contains u.word) 0 (t.turns.take k)).length ((idx (fun u => coreIn u l && !l.contains u.word) 0 (t.turns.take k)).map (Value.int .i64)) ∧ Below W1.heap.size W1 wr) (fun _ i _ => t.turns.length - (intOf i).toNat)
  case atStart => exact ⟨0, Nat.zero_le _, rfl, own_none _ _ _ _, Below.refl _ _⟩
  case round =>
    obtain ⟨k, hk, rfl, hown, hBr⟩ := hrel
    have HO := Lib.hid hown
    have HBr := Lib.hid hBr
    have hlen : (idx (fun u => coreIn u l && !l.contains u.word) 0 (t.turns.take k)).length ≤ 1000000 := by rw [idx_length]; exact Nat.le_trans List.countP_le_length (by simp; omega)
    have hz7 := hBr.size
    have hx := (hBr.block w.heap.size (by omega)).trans HX1.out
    have g0 := blk_cells hx 0 _ rfl
    have g1 := blk_cells hx 1 _ rfl
    have g2 := blk_cells hx 2 _ rfl
    clear hx
    by_cases hlt : k < t.turns.length
    · obtain ⟨b, o, x, rfl, hb, hxx, d1, d2, d3⟩ := ((HT.out.below HB2.out).below hBr).at hlt
      have HX := Lib.hid hxx
      have hxu := HU.out x (by rw [hxx, List.getD_eq_getElem?_getD, List.getElem?_eq_getElem hlt]; exact List.getElem_mem hlt)
      have hk' : (k : Int) < t.turns.length := by omega
      have HOT := Lib.hid (otherwise_any x hxu l hll pl cl wr ((HL.out.below HB2.out).below hBr))
      clear hxx hown hBr hxu
      cases hbad : (coreIn x l && !l.contains x.word) with
      | true =>
        have HBAD := Lib.hid hbad
        rw [hbad] at HOT
        clear hbad
        go_wp2_with fail
        refine HOT.out.mono ?_
        rintro e w5 ⟨rfl, hB5⟩
        have HB5 := Lib.hid (join HBr.out hB5)
        have hz5 : wr.heap.size ≤ w5.heap.size := hB5.size
        have HO5 := Lib.hid (own_below HO.out hB5)
        clear hB5
        go_wp2_with (at_builtin; refine wpList_append_own _ rfl _ _ 34 rfl W1.heap.size 3 i0 (.int .i64 0) 1 8 A_undI hi0 hz0 hz1 hz2 rfl (by decide) _ _ _ rfl (HO5.out.alloc _) ⟨w5.heap.size, 0, none⟩ 1 1 [.int .i64 (k : Int)] rfl rfl ?d1 ?d2 ?d3 ?d4 ?d5 ?_)
        case d1 => exact cell_one_new _ _ _
        case d2 => first | rfl | (intro u hu; simp at hu; subst hu; rfl)
        case d3 => unfold maxLen; omega
        case d4 => omega
        case d5 => first | omega | (simp; omega)
        intro v' w8 hown8 hgrow _
        have hB8 := below_grown (al2 HB5.out (by omega) _) (HO5.out.alloc _) (Nat.le_refl _) (by simp; omega) hgrow
        have hsnoc : idx (fun u => coreIn u l && !l.contains u.word) 0 (t.turns.take (k + 1)) = idx (fun u => coreIn u l && !l.contains u.word) 0 (t.turns.take k) ++ [(k : Int)] := by
          rw [take_snocD default hlt, idx_snoc, ← HX.out, if_pos HBAD.out]; simp; omega
        have HSN := Lib.hid hsnoc
        have HO8 := Lib.hid hown8
        have HB8 := Lib.hid hB8
        clear hgrow hown8 hB8 hsnoc
        go_wp2
        go_roundw
        case rel => exact ⟨k + 1, by omega, by simp, by rw [HSN.out]; simpa using HO8.out, HB8.out⟩
        case measure => simp [intOf]; omega
      | false =>
        have hsnoc : idx (fun u => coreIn u l && !l.contains u.word) 0 (t.turns.take (k + 1)) = idx (fun u => coreIn u l && !l.contains u.word) 0 (t.turns.take k) := by
          rw [take_snocD default hlt, idx_snoc, ← HX.out, if_neg (by rw [hbad]; decide), List.append_nil]
        have HSN := Lib.hid hsnoc
        rw [hbad] at HOT
        clear hsnoc hbad
        go_wp2_with fail
        refine HOT.out.mono ?_
        rintro e w5 ⟨rfl, hB5⟩
        have HB5 := Lib.hid (join HBr.out hB5)
        have HO5 := Lib.hid (own_below HO.out hB5)
        clear hB5
        go_wp2
        go_roundw
        case rel => exact ⟨k + 1, by omega, by simp, by rw [HSN.out]; exact HO5.out, HB5.out⟩
        case measure => simp [intOf]; omega
    · obtain rfl : k = t.turns.length := by omega
      have hfull : t.turns.take t.turns.length = t.turns := List.take_length
      have HF := Lib.hid hfull
      clear hfull hown hBr
      go_wp2
      go_ret
      exact ⟨_, rfl, by have := own_base HO.out (base' := w.heap.size) (by omega); rw [HF.out] at this; exact this, join HB2.out HBr.out⟩
end Go.Proofs.YtadnggecnjdhiaaGreat
set_option linter.unusedSimpArgs false
set_option linter.unusedVariables false
namespace Go.Proofs.YtadnggecnjdhiaaGreat
open Tx

theorem mem_wordsL {a x : Int} {n : Nat} : x ∈ wordsL a n ↔ a ≤ x ∧ x < a + (n : Int) := by
  unfold wordsL
  rw [List.mem_map]
  constructor
  · rintro ⟨i, hi, rfl⟩
    have := List.mem_range.1 hi
    omega
  · rintro ⟨h1, h2⟩
    exact ⟨(x - a).toNat, List.mem_range.2 (by omega), by omega⟩
theorem contains_wordsL (a x : Int) (n : Nat) : (wordsL a n).contains x = btw x a (a + (n : Int) - 1) := by
  rw [Bool.eq_iff_iff, List.contains_iff_mem, mem_wordsL]
  unfold btw
  simp only [Bool.and_eq_true, decide_eq_true_eq]
  omega
theorem core_wordsL (u : Turn) (a : Int) (n : Nat) (hu : u.lo ≤ u.hi) : coreIn u (wordsL a n) = (decide (a ≤ u.lo) && decide (u.hi ≤ a + (n : Int) - 1)) := by
  rw [Bool.eq_iff_iff]
  unfold coreIn
  rw [List.all_eq_true]
  simp only [Bool.and_eq_true, decide_eq_true_eq, List.contains_iff_mem, mem_wordsL, List.mem_range]
  constructor
  · intro h
    have h1 := h 0 (by omega)
    have h2 := h (u.hi - u.lo).toNat (by omega)
    omega
  · rintro ⟨h1, h2⟩ k hk
    omega
theorem idx_congr {α : Type} {p q : α → Bool} : ∀ (l : List α) (i : Nat), (∀ x ∈ l, p x = q x) → idx p i l = idx q i l
  | [], _, _ => rfl
  | x :: l, i, h => by
    have e := idx_congr l (i + 1) (fun y hy => h y (List.mem_cons_of_mem _ hy))
    have hx := h x (List.mem_cons_self ..)
    simp only [idx, hx, e]
theorem rsaid_words (t : Text) (hu : ∀ u ∈ t.turns, u.lo ≤ u.hi) (a : Int) (n : Nat) : rsaid t (wordsL a n) = t.said a (a + (n : Int) - 1) := by
  unfold rsaid Text.said
  refine idx_congr _ _ (fun u h => ?_)
  rw [core_wordsL u a n (hu u h), contains_wordsL]
  rfl
end Go.Proofs.YtadnggecnjdhiaaGreat
set_option linter.unusedSimpArgs false
set_option linter.unusedVariables false
namespace Go.Proofs.YtadnggecnjdhiaaGreat
open Go.RowKit Tx
attribute [local go_sem] Oper.semAt_some

def rstop (t : Text) (p : Nat) : Bool := decide (p = 0) || (decide (p = t.words.length) || (t.words.getD (p - 1) default).stop)
set_option maxHeartbeats 800000 in
theorem stop_any (t : Text) (p : Nat) (hl : t.words.length ≤ 1000000) (hp : p ≤ t.words.length) (pw : Option Addr) (cw : Nat) (v1 v2 : Value) (w : World) (hW : Wds w pw t.words) :
    Calls Tryz.prog 99 #[.agg #[.slice pw t.words.length cw, v1, v2], .int .i64 p] w fun e w' => e = .returned (.bool (rstop t p)) ∧ Below w.heap.size w w' := by
  by_cases h0 : p = 0
  · have HF : Hid (rstop t p = true) := Lib.hid (by unfold rstop; rw [decide_eq_true h0]; rfl)
    generalize rstop t p = b at HF ⊢
    subst h0
    clear hW
    go_enter Tryz.func99, Tryz.ntmps99
    go_wp2
    go_ret
    exact ⟨ret_bool (by rw [HF.out]), below1 _ _⟩
  · have h0' : ((p : Int) == 0) = false := by simpa using h0
    by_cases h1 : p = t.words.length
    · have HF : Hid (rstop t p = true) := Lib.hid (by unfold rstop; rw [decide_eq_true h1]; simp)
      have h1' : ((p : Int) == (t.words.length : Int)) = true := by simp [h1]
      generalize rstop t p = b at HF ⊢
      generalize t.words.length = n at h1' hl hp ⊢
      clear hW h1 h0
      go_enter Tryz.func99, Tryz.ntmps99
      go_wp2
      go_ret
      exact ⟨ret_bool (by rw [HF.out]), below1 _ _⟩
    · have hlt : p - 1 < t.words.length := by omega
      have h1' : ((p : Int) == (t.words.length : Int)) = false := by simp; omega
      obtain ⟨bb, o, x, rfl, hbl, hx, d1, d2, d3⟩ := (hW.below (below1 w (.cells #[.slice pw t.words.length cw, v1, v2] 32))).at hlt
      have HF : Hid (rstop t p = x.stop) := Lib.hid (by unfold rstop; rw [decide_eq_false h0, decide_eq_false h1, hx]; rfl)
      obtain ⟨q, hq⟩ : ∃ q, q = p - 1 := ⟨_, rfl⟩
      obtain ⟨pi, hpi⟩ : ∃ pi : Int, pi = (p : Int) := ⟨_, rfl⟩
      have hwr : IntKind.i64.wrap (pi - 1) = (q : Int) := by rw [IntWalk.i64_in _ (by omega)]; omega
      rw [← hq] at hlt d1 d2 d3
      rw [← hpi] at h0' h1' ⊢
      have hlt' : (q : Int) < t.words.length := by omega
      clear hW hx hq hpi h0 h1 hp
      generalize rstop t p = b at HF ⊢
      generalize x.stop = xs at HF d3
      generalize x.syl = xa at d1
      generalize x.wt = xb at d2
      go_enter Tryz.func99, Tryz.ntmps99
      go_wp2
      go_ret
      exact ⟨ret_bool (by rw [HF.out]), below1 _ _⟩
end Go.Proofs.YtadnggecnjdhiaaGreat
set_option linter.unusedSimpArgs false
set_option linter.unusedVariables false
namespace Go.Proofs.YtadnggecnjdhiaaGreat
open Tx

def kindI (t : Text) (a b : Nat) : Int := (kindOf t a b).getD (-1)
theorem rstop_allow (t : Text) (p : Nat) : rstop t p = t.allow p := by
  rw [Bool.eq_iff_iff]; simp [rstop, Text.allow, Text.len, or_assoc]
theorem kindI_eq (t : Text) (hu : ∀ u ∈ t.turns, u.lo ≤ u.hi) (a b : Nat) (hab : a ≤ b) :
    kindI t a b = if t.breath < t.syl a b then 0 else if rstop t a = false then 1 else if rstop t b = false then 1 else if 0 < (rsaid t (wordsL a (b - a))).length then 2 else -1 := by
  have e1 : t.isK 0 a b = decide (t.breath < t.syl a b) := rfl
  have e2 : t.isK 1 a b = (!rstop t a || !rstop t b) := by rw [rstop_allow, rstop_allow]; rfl
  have e3 : t.isK 2 a b = decide (0 < (rsaid t (wordsL a (b - a))).length) := by
    rw [rsaid_words t hu, show (a : Int) + ((b - a : Nat) : Int) - 1 = (b : Int) - 1 by omega]
    exact (idx_any _ _ _).symm
  unfold kindI kindOf
  rw [e1, e2, e3]
  by_cases h1 : t.breath < t.syl a b
  · simp [h1]
  · by_cases h3 : 0 < (rsaid t (wordsL a (b - a))).length <;> cases rstop t a <;> cases rstop t b <;> simp [h1, h3]
theorem kindI_some {t : Text} {a b : Nat} {k : Int} (h : kindI t a b = k) (hk : 0 ≤ k) : kindOf t a b = some k := by
  unfold kindI at h
  cases e : kindOf t a b with
  | none => rw [e] at h; simp at h; omega
  | some q => rw [e] at h; simp at h; rw [h]
theorem kindI_none {t : Text} {a b : Nat} (h : kindI t a b < 0) : kindOf t a b = none := by
  unfold kindI at h
  unfold kindOf at *
  split at h
  · simp at h
  · split at h
    · simp at h
    · split at h
      · simp at h
      · rename_i h1 h2 h3; rw [if_neg h1, if_neg h2, if_neg h3]
theorem syl_snoc (t : Text) (a k : Nat) (h : a + k < t.words.length) : t.syl a (a + (k + 1)) = t.syl a (a + k) + (t.words.getD (a + k) default).syl := by
  unfold Text.syl slice
  rw [show a + (k + 1) - a = k + 1 by omega, show a + k - a = k by omega]
  rw [take_snocD default (by simp; omega), List.map_append, List.map_cons, List.map_nil, isum_snoc]
  congr 2
  simp [List.getD_eq_getElem?_getD, List.getElem?_drop]
theorem syl_none (t : Text) (a : Nat) : t.syl a (a + 0) = 0 := by unfold Text.syl slice; simp [isum]
theorem syl_bd {t : Text} (ok : Text.Ok t) (a b : Nat) : 0 ≤ t.syl a b ∧ t.syl a b ≤ 200 := by
  have hl : (((slice t.words a b).map (·.syl)).length : Int) ≤ 12 := by
    have := ok.n12; unfold slice; simp; omega
  have h := isum_bd ((slice t.words a b).map (·.syl)) 1 9 (fun x hx => by
    obtain ⟨y, hy, rfl⟩ := List.mem_map.1 hx
    have := ok.word y (List.mem_of_mem_drop (List.mem_of_mem_take hy))
    exact ⟨this.1, this.2.1⟩)
  unfold Text.syl
  omega
theorem otherwise_says (u : Turn) (hu : u.lo ≤ u.hi) (a : Int) (n : Nat) : (coreIn u (wordsL a n) && !(wordsL a n).contains u.word) = u.says a (a + (n : Int) - 1) := by
  rw [core_wordsL u a n hu, contains_wordsL]; rfl
end Go.Proofs.YtadnggecnjdhiaaGreat
