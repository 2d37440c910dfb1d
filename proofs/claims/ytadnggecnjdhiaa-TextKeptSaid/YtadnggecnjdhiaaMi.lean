/- Contracts of the code and of the reference, part 9. -/
import Derived.Test.YtadnggecnjdhiaaMh
set_option linter.unusedSimpArgs false
set_option linter.unusedVariables false
namespace Go.Proofs.Ytadnggecnjdhiaa
open Go.RowKit Tx

/-- whether a run says a turn otherwise -/
def saidIn (a b : Int) (u : Turn) : Bool := decide (a ≤ u.lo) && decide (u.hi < b) && (decide (u.word < a) || decide (b ≤ u.word))
def saysB (ts : List Turn) (a b : Int) : Bool := ts.any (saidIn a b)
theorem says1_any (u : Turn) (a b : Int) (A B : Nat) (w : World) (hA : w.heap[A]? = some (.cells #[.int .i64 a] 3 (0, 0))) (hB : w.heap[B]? = some (.cells #[.int .i64 b] 3 (0, 0))) :
    Calls Try.prog 161 #[.agg #[.int .i64 u.word, .int .i64 u.lo, .int .i64 u.hi], .pointer (some ⟨A, 0, none⟩), .pointer (some ⟨B, 0, none⟩)] w fun e w' => e = .returned (.bool (saidIn a b u)) ∧ Below w.heap.size w w' := by
  have hAl := (Array.getElem?_eq_some_iff.1 hA).1
  have hBl := (Array.getElem?_eq_some_iff.1 hB).1
  have c0 := blk_cells hA 0 _ rfl
  have d0 := blk_cells hB 0 _ rfl
  obtain ⟨uw, ul, uh⟩ := u
  unfold saidIn
  dsimp only
  clear hA hB
  by_cases h1 : a ≤ ul
  · by_cases h2 : uh < b
    · by_cases h3 : uw < a
      · go_enter Try.func161, Try.ntmps161
        go_wp2
        go_ret
        exact ⟨by simp [h1, h2, h3] <;> omega, below1 _ _⟩
      · by_cases h4 : b ≤ uw
        · go_enter Try.func161, Try.ntmps161
          go_wp2
          go_ret
          exact ⟨by simp [h1, h2, h3, h4] <;> omega, below1 _ _⟩
        · go_enter Try.func161, Try.ntmps161
          go_wp2
          go_ret
          exact ⟨by simp [h1, h2, h3, h4] <;> omega, below1 _ _⟩
    · go_enter Try.func161, Try.ntmps161
      go_wp2
      go_ret
      exact ⟨by simp [h1, h2] <;> omega, below1 _ _⟩
  · go_enter Try.func161, Try.ntmps161
    go_wp2
    go_ret
    exact ⟨by simp [h1] <;> omega, below1 _ _⟩
theorem entered_says1 : Entered 161 := fun args W => by kernel_rfl
set_option maxHeartbeats 1000000 in
set_option maxRecDepth 100000 in
theorem indexFuncT2 (F : FuncId) (hF : Entered F) (E1 E2 : Value) (q : Turn → Bool) (ts : List Turn) (p : Option Addr) (c : Nat) (w : World) (hl : ts.length ≤ 1000000) (hi : Tns w p ts) (hq : ∀ W, Below w.heap.size w W → ∀ u ∈ ts, Calls Try.prog F #[.agg #[.int .i64 u.word, .int .i64 u.lo, .int .i64 u.hi], E1, E2] W fun e w' => e = .returned (.bool (q u)) ∧ Below W.heap.size W w') :
    Calls Try.prog 134 #[.slice p ts.length c, .func (.func F) #[] #[E1, E2]] w fun e w' => ∃ z : Int, e = .returned (.int .i64 z) ∧ idxT q ts z ∧ Below w.heap.size w w' := by
  have HI := Lib.hid hi
  have HQ := Lib.hid hq
  have HF := Lib.hid hF
  clear hi hq hF
  go_enter Try.func134, Try.ntmps134
  go_wp2_with fail
  go_loopw [5, 8] (fun u5 i wr => ∃ k : Nat, k ≤ ts.length ∧ i = .int .i64 k ∧ (ts.take k).any q = false ∧ Below w.heap.size w wr) (fun _ i _ => ts.length - (intOf i).toNat)
  case atStart => exact ⟨0, Nat.zero_le _, rfl, rfl, Below.refl _ _⟩
  case round =>
    obtain ⟨k, hk, rfl, hA, hB⟩ := hrel
    have HA := Lib.hid hA
    clear hA
    by_cases hlt : k < ts.length
    · have hlt' : (k : Int) < ts.length := by omega
      obtain ⟨b, o, x, rfl, hb, hxx, c1, c2, c3⟩ := (HI.out.below hB).at hlt
      have HX := Lib.hid hxx
      have HB := Lib.hid hB
      have HASK := Lib.hid (HQ.out _ hB x (by rw [hxx]; exact getD_mem default hlt))
      clear hxx hB
      go_wp2_with fail
      rw [HF.out, Oper.upon_enter]
      refine HASK.out.mono ?_
      rintro e w5 ⟨rfl, hB5⟩
      have HB5 := Lib.hid (join HB.out hB5)
      clear HASK hB5
      cases hbad : q x with
      | true =>
        have HBAD := Lib.hid hbad
        clear hbad
        go_wp2
        go_ret
        exact ⟨_, rfl, .inr ⟨by omega, any_hit default hlt _ (by rw [← HX.out]; exact HBAD.out)⟩, HB5.out⟩
      | false =>
        have HBAD := Lib.hid hbad
        clear hbad
        go_wp2
        go_roundw
        case rel => exact ⟨k + 1, by omega, by go_num, any_snoc default hlt _ HA.out (by rw [← HX.out]; exact HBAD.out), HB5.out⟩
        case measure => simp [intOf]; omega
    · obtain rfl : k = ts.length := by omega
      have HB := Lib.hid hB
      clear hB
      go_wp2
      go_ret
      exact ⟨_, rfl, .inl ⟨rfl, by have := HA.out; rwa [List.take_length] at this⟩, HB.out⟩
set_option maxHeartbeats 1000000 in
set_option maxRecDepth 100000 in
theorem containsFuncT2 (F : FuncId) (hF : Entered F) (E1 E2 : Value) (q : Turn → Bool) (ts : List Turn) (p : Option Addr) (c : Nat) (w : World) (hl : ts.length ≤ 1000000) (hi : Tns w p ts) (hq : ∀ W, Below w.heap.size w W → ∀ u ∈ ts, Calls Try.prog F #[.agg #[.int .i64 u.word, .int .i64 u.lo, .int .i64 u.hi], E1, E2] W fun e w' => e = .returned (.bool (q u)) ∧ Below W.heap.size W w') :
    Calls Try.prog 73 #[.slice p ts.length c, .func (.func F) #[] #[E1, E2]] w fun e w' => e = .returned (.bool (ts.any q)) ∧ Below w.heap.size w w' := by
  have HI := Lib.hid (indexFuncT2 F hF E1 E2 q ts p c w hl hi hq)
  clear hi hq
  go_enter Try.func73, Try.ntmps73
  go_wp2_with fail
  refine HI.out.mono ?_
  rintro e w5 ⟨z, rfl, hz, hB5⟩
  rcases hz with ⟨rfl, ha⟩ | ⟨h0, ha⟩
  · have HA := Lib.hid ha
    clear ha
    go_wp2
    go_ret
    exact ⟨by rw [HA.out]; rfl, hB5⟩
  · have HA := Lib.hid ha
    have hz0 : decide (0 ≤ z) = true := by simpa using h0
    clear ha
    go_wp2
    go_ret
    exact ⟨by rw [HA.out]; rfl, hB5⟩
set_option maxHeartbeats 1000000 in
theorem saysB_any (ts : List Turn) (hl : ts.length ≤ 1000000) (a b : Int) (pt : Option Addr) (ct : Nat) (v0 v2 : Value) (w : World) (hT : Tns w pt ts) :
    Calls Try.prog 129 #[.agg #[v0, .slice pt ts.length ct, v2], .int .i64 a, .int .i64 b] w fun e w' => e = .returned (.bool (saysB ts a b)) ∧ Below w.heap.size w w' := by
  have hmf := mf
  have hB3 : Below w.heap.size w (((w.alloc (.cells #[v0, .slice pt ts.length ct, v2] 25)).alloc (.cells #[.int .i64 a] 3)).alloc (.cells #[.int .i64 b] 3)) := ((below1 _ _).alloc (by simp) _).alloc (by simp; omega) _
  have hx : (((w.alloc (.cells #[v0, .slice pt ts.length ct, v2] 25)).alloc (.cells #[.int .i64 a] 3)).alloc (.cells #[.int .i64 b] 3)).heap[w.heap.size + 1]? = some (.cells #[.int .i64 a] 3 (0, 0)) := by
    have := heap_last (w.alloc (.cells #[v0, .slice pt ts.length ct, v2] 25)) (.cells #[.int .i64 a] 3)
    rw [World.size_alloc] at this
    exact (Below.heap_alloc _ _ _ (by simp)).trans this
  have hy : (((w.alloc (.cells #[v0, .slice pt ts.length ct, v2] 25)).alloc (.cells #[.int .i64 a] 3)).alloc (.cells #[.int .i64 b] 3)).heap[w.heap.size + 1 + 1]? = some (.cells #[.int .i64 b] 3 (0, 0)) := by
    have := heap_last ((w.alloc (.cells #[v0, .slice pt ts.length ct, v2] 25)).alloc (.cells #[.int .i64 a] 3)) (.cells #[.int .i64 b] 3)
    rwa [World.size_alloc, World.size_alloc] at this
  have hcf := containsFuncT2 161 entered_says1 (.pointer (some ⟨w.heap.size + 1, 0, none⟩)) (.pointer (some ⟨w.heap.size + 1 + 1, 0, none⟩)) (saidIn a b) ts pt ct _ hl (hT.below hB3) (fun W h u hu => says1_any u a b (w.heap.size + 1) (w.heap.size + 1 + 1) W ((h.block _ (by simp)).trans hx) ((h.block _ (by simp)).trans hy))
  obtain ⟨kv, hkv⟩ : ∃ kv, kv = saysB ts a b := ⟨_, rfl⟩
  rw [show ts.any (saidIn a b) = kv from hkv.symm] at hcf
  rw [← hkv]
  have HCF := Lib.hid hcf
  have HB3 := Lib.hid hB3
  clear hcf hx hy hB3 hT hkv
  go_enter Try.func129, Try.ntmps129
  go_wp2_with fail
  refine HCF.out.mono ?_
  rintro e w5 ⟨rfl, hB5⟩
  go_wp2
  go_ret
  exact ⟨rfl, join HB3.out hB5⟩
end Go.Proofs.Ytadnggecnjdhiaa
set_option linter.unusedSimpArgs false
set_option linter.unusedVariables false
namespace Go.Proofs.Ytadnggecnjdhiaa
open Go.RowKit Tx

theorem saysB_other (t : Text) (a b : Nat) : saysB t.turns a b = t.isOther a b := by
  unfold saysB Text.isOther
  congr 1
  funext u
  unfold saidIn Turn.says btw
  rw [Bool.eq_iff_iff]
  simp
  omega
theorem right_fits (t : Text) (a b : Nat) (hab : a < b) (hb : b ≤ t.words.length) :
    t.right a b = (decide (t.syl a b ≤ t.breath) && (decide (a = 0) || (t.words.getD (a - 1) default).stop) && (decide (b = t.words.length) || (t.words.getD (b - 1) default).stop) && !saysB t.turns a b) := by
  rw [saysB_other]
  unfold Text.right Text.isLong Text.isCut Text.allow Text.len
  have h1 : (a == t.words.length) = false := by rw [beq_eq_false_iff_ne]; omega
  have h2 : (b == 0) = false := by rw [beq_eq_false_iff_ne]; omega
  rw [h1, h2]
  have h3 : (a == 0) = decide (a = 0) := rfl
  have h4 : (b == t.words.length) = decide (b = t.words.length) := rfl
  have h5 : decide (t.breath < t.syl a b) = !decide (t.syl a b ≤ t.breath) := by rw [Bool.eq_iff_iff]; simp
  rw [h3, h4, h5]
  cases decide (a = 0) <;> cases decide (b = t.words.length) <;> cases decide (t.syl a b ≤ t.breath) <;> cases (t.words.getD (a - 1) default).stop <;> cases (t.words.getD (b - 1) default).stop <;> cases t.isOther a b <;> rfl
set_option maxHeartbeats 4000000 in
set_option maxRecDepth 100000 in
theorem fits_any (t : Text) (ok : Text.Ok t) (pw pt : Option Addr) (cw ct : Nat) (a b : Nat) (hab : a < b) (hb : b ≤ t.words.length) (hcw : t.words.length ≤ cw ∧ cw ≤ maxLen) (w : World) (hW : TxAt w t pw pt) :
    Calls Try.prog 58 #[.agg #[.slice pw t.words.length cw, .slice pt t.turns.length ct, .int .i64 t.breath], .int .i64 a, .int .i64 b] w fun e w' => e = .returned (.bool (t.right a b)) ∧ Below w.heap.size w w' := by
  have hn := ok.n12
  have hne := ok.n1
  have hm : t.turns.length ≤ 1000000 := by have := ok.m6; omega
  have hb40 := ok.b40
  have hb1 := ok.b1
  obtain ⟨bb, o, x0, rfl, hbb, _⟩ := hW.words.at (i := 0) (by omega)
  have HW := Lib.hid hW.words
  have HT := Lib.hid hW.turns
  have HOK := Lib.hid ok
  have HLEN := Lib.hid (slice_len t.words (a := a) hb)
  obtain ⟨hcw1, hcw2⟩ := hcw
  unfold maxLen at hcw2
  clear hW ok
  go_enter Try.func58, Try.ntmps58
  go_wp2
  all_goals
    go_loopw [7, 16] (fun s i wr => ∃ k : Nat, k ≤ b - a ∧ i = .int .i64 k ∧ s = .int .i64 (isum (((slice t.words a b).take k).map (·.syl))) ∧ Below (w.heap.size + 1) (w.alloc (.cells #[.slice (some ⟨bb, o, none⟩) t.words.length cw, .slice pt t.turns.length ct, .int .i64 t.breath] 25)) wr) (fun _ i _ => (b - a) - (intOf i).toNat)
    case atStart => exact ⟨0, Nat.zero_le _, rfl, rfl, Below.refl _ _⟩
    case round =>
      obtain ⟨k, hk, rfl, rfl, hB⟩ := hrel
      have HB := Lib.hid (show Below (w.alloc (.cells #[.slice (some ⟨bb, o, none⟩) t.words.length cw, .slice pt t.turns.length ct, .int .i64 t.breath] 25)).heap.size (w.alloc (.cells #[.slice (some ⟨bb, o, none⟩) t.words.length cw, .slice pt t.turns.length ct, .int .i64 t.breath] 25)) wr by rw [World.size_alloc]; exact hB)
      by_cases hlt : k < b - a
      · obtain ⟨b', o', x, hp, hbl, hxx, c1, c2, c3⟩ := (HW.out.below (join (below1 _ _) HB.out)).at (i := a + k) (by omega)
        injection hp with hp; injection hp with hp1 hp2 _
        subst hp1; subst hp2
        have hxm : x ∈ t.words := by rw [hxx]; exact getD_mem default (by omega)
        obtain ⟨x1, x2, _, _⟩ := HOK.out.word x hxm
        have hxs : x = (slice t.words a b).getD k default := by rw [slice_getD _ _ hlt hb]; exact hxx
        have hsum : isum (((slice t.words a b).take (k + 1)).map (·.syl)) = isum (((slice t.words a b).take k).map (·.syl)) + x.syl := by
          rw [take_snocD default (by rw [HLEN.out]; exact hlt), List.map_append, List.map_cons, List.map_nil, isum_snoc, hxs]
        have HS := Lib.hid hsum
        have hbd := isum_bd (((slice t.words a b).take k).map (·.syl)) 0 9 (fun y hy => by
          obtain ⟨z, hz, rfl⟩ := List.mem_map.1 hy
          have := HOK.out.word z (List.mem_of_mem_drop (List.mem_of_mem_take (List.mem_of_mem_take hz))); omega)
        have hlk : (((slice t.words a b).take k).map (·.syl)).length = k := by rw [List.length_map, List.length_take, HLEN.out]; omega
        rw [hlk] at hbd
        generalize hsk : isum (((slice t.words a b).take k).map (·.syl)) = sk at hbd HS ⊢
        have hadd : o + (a + k) * 3 = o + a * 3 + k * 3 := by omega
        rw [hadd] at c1 c2 c3
        clear hsk hsum hxs hxx hlk hadd hB hxm
        go_wp2
        all_goals
          go_roundw
          case rel => exact ⟨k + 1, by omega, by go_num, by rw [HS.out], by have := HB.out; rw [World.size_alloc] at this; exact this.alloc (by have := HB.out.size; simp at this; omega) _⟩
          case measure => simp [intOf]; omega
      · obtain rfl : k = b - a := by omega
        have hfull : (slice t.words a b).take (b - a) = slice t.words a b := by rw [← HLEN.out, List.take_length]
        have hR := right_fits t a b hab hb
        unfold Text.syl at hR
        rw [← hfull] at hR
        obtain ⟨sy, hsy⟩ : ∃ sy, sy = isum (((slice t.words a b).take (b - a)).map (·.syl)) := ⟨_, rfl⟩
        rw [← hsy] at hR ⊢
        have HR := Lib.hid hR
        have BX := Lib.hid (show Below w.heap.size w wr from (below1 _ _).trans (hB.mono (by simp)))
        have HZ := Lib.hid (show w.heap.size ≤ wr.heap.size by have := hB.size; simp at this; omega)
        have hbx := (hB.block w.heap.size (by simp)).trans (heap_last w _)
        obtain ⟨k0, k1, k2⟩ := blk3 hbx
        clear hfull hR hsy hB hbx hk
        by_cases hs : sy ≤ t.breath
        · by_cases ha : a = 0
          · have ha1 : ((a : Int) == 0) = true := by rw [beq_iff_eq]; omega
            have HA := Lib.hid ha
            clear ha
            by_cases hbn : b = t.words.length
            · have hb1 : ((b : Int) == (t.words.length : Int)) = true := by rw [beq_iff_eq]; omega
              have HBN := Lib.hid hbn
              clear hbn
              have HSA := Lib.hid (saysB_any t.turns hm a b pt ct (.slice (some ⟨bb, o, none⟩) t.words.length cw) (.int .i64 t.breath) wr (HT.out.below (join (below1 _ _) HB.out)))
              obtain ⟨sb, hsb⟩ : ∃ sb, sb = saysB t.turns a b := ⟨_, rfl⟩
              rw [← hsb] at HSA HR
              have HSB := Lib.hid hsb
              clear hsb
              go_wp2_with fail
              refine HSA.out.mono ?_
              rintro e w5 ⟨rfl, hB5⟩
              go_wp2
              go_ret
              exact ⟨ret_bool (by rw [HR.out]; simp [hs, HA.out, HBN.out]), (BX.out).trans (hB5.mono HZ.out)⟩
            · have hb1 : ((b : Int) == (t.words.length : Int)) = false := by rw [beq_eq_false_iff_ne]; omega
              have hb2 : ¬ (b : Int) = (t.words.length : Int) := by omega
              obtain ⟨r, hr, hr2, hr3⟩ : ∃ r : Nat, r < t.words.length ∧ (b : Int) - 1 = (r : Int) ∧ b - 1 = r := ⟨b - 1, by omega, by omega, rfl⟩
              obtain ⟨b', o', y, hp, hbl, hyy, e1, e2, e3⟩ := (HW.out.below (join (below1 _ _) HB.out)).at (i := r) hr
              injection hp with hp; injection hp with hp1 hp2 _
              subst hp1; subst hp2
              have HY := Lib.hid hyy
              have HBN := Lib.hid hbn
              have HR3 := Lib.hid hr3
              rw [HR3.out, ← HY.out] at HR
              clear hyy hbn hr3
              cases hys : y.stop with
              | true =>
                rw [hys] at e3 HR
                have HSA := Lib.hid (saysB_any t.turns hm a b pt ct (.slice (some ⟨bb, o, none⟩) t.words.length cw) (.int .i64 t.breath) wr (HT.out.below (join (below1 _ _) HB.out)))
                obtain ⟨sb, hsb⟩ : ∃ sb, sb = saysB t.turns a b := ⟨_, rfl⟩
                rw [← hsb] at HSA HR
                have HSB := Lib.hid hsb
                clear hsb
                go_wp2_with fail
                refine HSA.out.mono ?_
                rintro e w5 ⟨rfl, hB5⟩
                go_wp2
                go_ret
                exact ⟨ret_bool (by rw [HR.out]; simp [hs, HA.out, HBN.out]), (BX.out).trans (hB5.mono HZ.out)⟩
              | false =>
                rw [hys] at e3 HR
                go_wp2
                go_ret
                exact ⟨ret_bool (by rw [HR.out]; simp [hs, HA.out, HBN.out]), BX.out⟩
          · have ha1 : ((a : Int) == 0) = false := by rw [beq_eq_false_iff_ne]; omega
            have ha2 : ¬ (a : Int) = 0 := by omega
            obtain ⟨q, hq, hq2, hq3⟩ : ∃ q : Nat, q < t.words.length ∧ (a : Int) - 1 = (q : Int) ∧ a - 1 = q := ⟨a - 1, by omega, by omega, rfl⟩
            obtain ⟨b', o', x, hp, hbl, hxx, c1, c2, c3⟩ := (HW.out.below (join (below1 _ _) HB.out)).at (i := q) hq
            injection hp with hp; injection hp with hp1 hp2 _
            subst hp1; subst hp2
            have HX := Lib.hid hxx
            have HA := Lib.hid ha
            have HQ3 := Lib.hid hq3
            rw [HQ3.out, ← HX.out] at HR
            clear hxx ha hq3
            cases hxs : x.stop with
            | true =>
              rw [hxs] at c3 HR
              by_cases hbn : b = t.words.length
              · have hb1 : ((b : Int) == (t.words.length : Int)) = true := by rw [beq_iff_eq]; omega
                have HBN := Lib.hid hbn
                clear hbn
                have HSA := Lib.hid (saysB_any t.turns hm a b pt ct (.slice (some ⟨bb, o, none⟩) t.words.length cw) (.int .i64 t.breath) wr (HT.out.below (join (below1 _ _) HB.out)))
                obtain ⟨sb, hsb⟩ : ∃ sb, sb = saysB t.turns a b := ⟨_, rfl⟩
                rw [← hsb] at HSA HR
                have HSB := Lib.hid hsb
                clear hsb
                go_wp2_with fail
                refine HSA.out.mono ?_
                rintro e w5 ⟨rfl, hB5⟩
                go_wp2
                go_ret
                exact ⟨ret_bool (by rw [HR.out]; simp [hs, HA.out, HBN.out]), (BX.out).trans (hB5.mono HZ.out)⟩
              · have hb1 : ((b : Int) == (t.words.length : Int)) = false := by rw [beq_eq_false_iff_ne]; omega
                have hb2 : ¬ (b : Int) = (t.words.length : Int) := by omega
                obtain ⟨r, hr, hr2, hr3⟩ : ∃ r : Nat, r < t.words.length ∧ (b : Int) - 1 = (r : Int) ∧ b - 1 = r := ⟨b - 1, by omega, by omega, rfl⟩
                obtain ⟨b', o', y, hp, hbl, hyy, e1, e2, e3⟩ := (HW.out.below (join (below1 _ _) HB.out)).at (i := r) hr
                injection hp with hp; injection hp with hp1 hp2 _
                subst hp1; subst hp2
                have HY := Lib.hid hyy
                have HBN := Lib.hid hbn
                have HR3 := Lib.hid hr3
                rw [HR3.out, ← HY.out] at HR
                clear hyy hbn hr3
                cases hys : y.stop with
                | true =>
                  rw [hys] at e3 HR
                  have HSA := Lib.hid (saysB_any t.turns hm a b pt ct (.slice (some ⟨bb, o, none⟩) t.words.length cw) (.int .i64 t.breath) wr (HT.out.below (join (below1 _ _) HB.out)))
                  obtain ⟨sb, hsb⟩ : ∃ sb, sb = saysB t.turns a b := ⟨_, rfl⟩
                  rw [← hsb] at HSA HR
                  have HSB := Lib.hid hsb
                  clear hsb
                  go_wp2_with fail
                  refine HSA.out.mono ?_
                  rintro e w5 ⟨rfl, hB5⟩
                  go_wp2
                  go_ret
                  exact ⟨ret_bool (by rw [HR.out]; simp [hs, HA.out, HBN.out]), (BX.out).trans (hB5.mono HZ.out)⟩
                | false =>
                  rw [hys] at e3 HR
                  go_wp2
                  go_ret
                  exact ⟨ret_bool (by rw [HR.out]; simp [hs, HA.out, HBN.out]), BX.out⟩
            | false =>
              rw [hxs] at c3 HR
              go_wp2
              go_ret
              exact ⟨ret_bool (by rw [HR.out]; simp [hs, HA.out]), BX.out⟩
        · have HS1 := Lib.hid (decide_eq_false hs)
          go_wp2
          go_ret
          exact ⟨ret_bool (by rw [HR.out, HS1.out]; simp), BX.out⟩

end Go.Proofs.Ytadnggecnjdhiaa
namespace Go.Proofs.Ytadnggecnjdhiaa
open Tx
set_option linter.unusedSimpArgs false
set_option linter.unusedVariables false

theorem mem_brs {may : Nat → Nat → Bool} {n a b : Nat} : b ∈ brs may n a ↔ a < b ∧ b ≤ n ∧ may a b = true := by
  unfold brs
  rw [List.mem_filter, List.mem_range'_1]
  constructor
  · rintro ⟨h1, h2⟩; exact ⟨by omega, by omega, h2⟩
  · rintro ⟨h1, h2, h3⟩; exact ⟨by omega, h3⟩
theorem low1_size (m : Marks) (a b : Nat) : (low1 m a b).length = m.length := by simp [low1]
theorem low1_get (m : Marks) (a b p : Nat) (hb : b < m.length) : (low1 m a b).getD p 0 = if p = b then min (m.getD b 0) (m.getD a 0 + 1) else m.getD p 0 := by
  unfold low1
  by_cases h : p = b
  · subst h; rw [if_pos rfl]; simp [List.getElem?_set, hb]
  · rw [if_neg h]; simp [List.getElem?_set, Ne.symm h]
theorem row_get (a : Nat) : ∀ (bs : List Nat) (m : Marks), (∀ b ∈ bs, a < b ∧ b < m.length) → (bs.foldl (fun m b => low1 m a b) m).length = m.length ∧
    ∀ p, (bs.foldl (fun m b => low1 m a b) m).getD p 0 = if p ∈ bs then min (m.getD p 0) (m.getD a 0 + 1) else m.getD p 0
  | [], m, _ => ⟨rfl, fun p => by simp⟩
  | b :: bs, m, h => by
    have hb := h b (by simp)
    obtain ⟨ih1, ih2⟩ := row_get a bs (low1 m a b) (fun x hx => by rw [low1_size]; exact h x (by simp [hx]))
    rw [List.foldl_cons]
    refine ⟨by rw [ih1, low1_size], fun p => ?_⟩
    rw [ih2 p, low1_get m a b p hb.2, low1_get m a b a hb.2, if_neg (show a ≠ b by omega)]
    by_cases h1 : p = b
    · subst h1
      by_cases h2 : p ∈ bs
      · simp [h2]
      · simp [h2]
    · by_cases h2 : p ∈ bs <;> simp [h1, h2]
structure MarkInv (may : Nat → Nat → Bool) (n a : Nat) (m : Marks) : Prop where
  len : m.length = 13
  zero : m.getD 0 0 = 0
  bd : ∀ p, 0 ≤ m.getD p 0 ∧ m.getD p 0 ≤ 99
  hold : ∀ x b, x < a → x < b → b ≤ n → may x b = true → m.getD b 0 ≤ m.getD x 0 + 1
  back : ∀ b, 1 ≤ b → b ≤ n → m.getD b 0 = 99 ∨ ∃ x, x < a ∧ x < b ∧ may x b = true ∧ m.getD x 0 + 1 = m.getD b 0
theorem MarkInv.step {may : Nat → Nat → Bool} {n a : Nat} {m : Marks} (hn : n ≤ 12) (ha : a < n) (h : MarkInv may n a m) : MarkInv may n (a + 1) (lowRow may n m a) := by
  obtain ⟨g1, g2⟩ := row_get a (brs may n a) m (fun b hb => by rw [mem_brs] at hb; rw [h.len]; omega)
  have g3 : ∀ p, p ≤ a → (lowRow may n m a).getD p 0 = m.getD p 0 := fun p hp => by
    unfold lowRow; rw [g2, if_neg (by rw [mem_brs]; omega)]
  have gle : ∀ p, (lowRow may n m a).getD p 0 ≤ m.getD p 0 := fun p => by
    unfold lowRow; rw [g2]; split <;> omega
  have ha0 := (h.bd a).1
  refine ⟨by unfold lowRow; rw [g1, h.len], by rw [g3 0 (by omega), h.zero], fun p => ?_, fun x b hx hxb hbn hm => ?_, fun b h1 hbn => ?_⟩
  · have := h.bd p
    unfold lowRow; rw [g2]; split <;> omega
  · rcases Nat.lt_succ_iff_lt_or_eq.1 hx with hx | rfl
    · rw [g3 x (by omega)]
      have := h.hold x b hx hxb hbn hm
      have := gle b
      omega
    · rw [g3 x (Nat.le_refl _)]
      unfold lowRow
      rw [g2, if_pos (by rw [mem_brs]; exact ⟨hxb, hbn, hm⟩)]
      omega
  · by_cases hb : b ∈ brs may n a
    · have hb' := mem_brs.1 hb
      have e : (lowRow may n m a).getD b 0 = min (m.getD b 0) (m.getD a 0 + 1) := by unfold lowRow; rw [g2, if_pos hb]
      by_cases hlt : m.getD a 0 + 1 < m.getD b 0
      · right
        exact ⟨a, by omega, hb'.1, hb'.2.2, by rw [e, g3 a (Nat.le_refl _)]; omega⟩
      · rw [e, show min (m.getD b 0) (m.getD a 0 + 1) = m.getD b 0 by omega]
        rcases h.back b h1 hbn with hx | ⟨x, x1, x2, x3, x4⟩
        · exact .inl hx
        · exact .inr ⟨x, by omega, x2, x3, by rw [g3 x (by omega), x4]⟩
    · have e : (lowRow may n m a).getD b 0 = m.getD b 0 := by unfold lowRow; rw [g2, if_neg hb]
      rw [e]
      rcases h.back b h1 hbn with hx | ⟨x, x1, x2, x3, x4⟩
      · exact .inl hx
      · exact .inr ⟨x, by omega, x2, x3, by rw [g3 x (by omega), x4]⟩
theorem top_get (n p : Nat) (hn : n ≤ 12) : (top n).getD p 0 = if 1 ≤ p ∧ p ≤ n then 99 else 0 := by
  unfold top
  by_cases hp : p < 13
  · simp [List.getElem?_range, hp]
  · rw [List.getD_eq_getElem?_getD, List.getElem?_eq_none (by simp; omega), if_neg (by omega)]; rfl
theorem greatest_inv (may : Nat → Nat → Bool) (n : Nat) (hn : n ≤ 12) : MarkInv may n n (greatest may n) := by
  have : ∀ k, k ≤ n → MarkInv may n k ((List.range k).foldl (lowRow may n) (top n)) := by
    intro k
    induction k with
    | zero =>
      intro _
      refine ⟨by simp [top], by simp only [List.range_zero, List.foldl_nil]; rw [top_get _ _ hn]; rfl, fun p => ?_, fun x b hx => by omega, fun b h1 h2 => ?_⟩
      · simp only [List.range_zero, List.foldl_nil]; rw [top_get _ _ hn]; split <;> omega
      · simp only [List.range_zero, List.foldl_nil]; rw [top_get _ _ hn, if_pos ⟨h1, h2⟩]; exact .inl rfl
    | succ k ih =>
      intro hk
      rw [List.range_succ, List.foldl_append, List.foldl_cons, List.foldl_nil]
      exact (ih (by omega)).step hn (by omega)
  exact this n (Nat.le_refl _)

/-- all breaths of a reading are allowed, from a place on -/
def okFrom (may : Nat → Nat → Bool) : Nat → List Int → Bool
  | _, [] => true
  | a, x :: l => may a (a + x.toNat) && okFrom may (a + x.toNat) l
/-- numbers of at least 1 that add up -/
def Parts (n : Int) (l : List Int) : Prop := (∀ x ∈ l, 1 ≤ x) ∧ isum l = n
theorem isum_ge {l : List Int} (h : ∀ x ∈ l, 1 ≤ x) : (l.length : Int) ≤ isum l := by
  induction l with
  | nil => simp [isum]
  | cons x l ih =>
    have h1 := h x (by simp)
    have h2 := ih fun y hy => h y (by simp [hy])
    rw [isum_cons, List.length_cons]; omega
theorem parts_nil {l : List Int} (h : Parts 0 l) : l = [] := by
  have h1 := isum_ge h.1
  have h2 := h.2
  exact List.length_eq_zero_iff.1 (by omega)
theorem parts_cons {n x : Int} {l : List Int} : Parts n (x :: l) ↔ 1 ≤ x ∧ Parts (n - x) l := by
  unfold Parts
  rw [isum_cons]
  constructor
  · rintro ⟨h1, h2⟩; exact ⟨h1 x (by simp), fun y hy => h1 y (by simp [hy]), by omega⟩
  · rintro ⟨h1, h2, h3⟩; exact ⟨fun y hy => (List.mem_cons.1 hy).elim (fun e => e ▸ h1) (h2 y), by omega⟩
theorem parts_pos {n : Int} {l : List Int} (h : Parts n l) : 0 ≤ n := by have := isum_ge h.1; have := h.2; omega
theorem parts_append {m n : Int} {k l : List Int} (h1 : Parts m k) (h2 : Parts n l) : Parts (m + n) (k ++ l) :=
  ⟨fun x hx => (List.mem_append.1 hx).elim (h1.1 x) (h2.1 x), by rw [isum_append, h1.2, h2.2]⟩
theorem okFrom_append (may : Nat → Nat → Bool) : ∀ (k l : List Int) (a : Nat), (∀ x ∈ k, 0 ≤ x) → okFrom may a (k ++ l) = (okFrom may a k && okFrom may (a + (isum k).toNat) l)
  | [], l, a, _ => by simp [okFrom, isum]
  | x :: k, l, a, h => by
    have hx := h x (by simp)
    have hk : 0 ≤ isum k := by
      have : ∀ (q : List Int), (∀ y ∈ q, 0 ≤ y) → 0 ≤ isum q := by
        intro q
        induction q with
        | nil => intro _; simp [isum]
        | cons y q ih => intro hq; rw [isum_cons]; have := hq y (by simp); have := ih (fun z hz => hq z (by simp [hz])); omega
      exact this k fun y hy => h y (by simp [hy])
    rw [List.cons_append, okFrom, okFrom, okFrom_append may k l _ (fun y hy => h y (by simp [hy])), isum_cons, Bool.and_assoc]
    congr 3
    omega
/-- no reading from a place to another one has fewer breaths than their marks say -/
theorem marks_low {may : Nat → Nat → Bool} {n : Nat} {m : Marks} (h : MarkInv may n n m) : ∀ (l : List Int) (a b : Nat), Parts ((b : Int) - a) l → b ≤ n → okFrom may a l = true → m.getD b 0 ≤ m.getD a 0 + l.length
  | [], a, b, hp, _, _ => by
    have := hp.2; simp [isum] at this
    have : a = b := by omega
    subst this; simp
  | x :: l, a, b, hp, hb, hok => by
    rw [parts_cons] at hp
    obtain ⟨h1, h2⟩ := hp
    have h3 := parts_pos h2
    rw [okFrom, Bool.and_eq_true] at hok
    have e : (b : Int) - ((a + x.toNat : Nat) : Int) = (b : Int) - a - x := by omega
    have ih := marks_low h l (a + x.toNat) b (by rw [e]; exact h2) hb hok.2
    have hh := h.hold a (a + x.toNat) (by omega) (by omega) (by omega) hok.1
    rw [List.length_cons]; push_cast; omega
theorem before_spec {may : Nat → Nat → Bool} {n : Nat} {m : Marks} (h : MarkInv may n n m) {b : Nat} (h1 : 1 ≤ b) (hb : b ≤ n) (hm : m.getD b 0 < 99) : Tx.before may m b < b ∧ may (Tx.before may m b) b = true ∧ m.getD (Tx.before may m b) 0 + 1 = m.getD b 0 := by
  unfold Tx.before
  cases hf : (List.range b).find? (befP may m b) with
  | some x =>
    have h2 := List.find?_some hf
    have h3 := List.mem_of_find?_eq_some hf
    simp only [Option.getD_some]
    unfold befP at h2
    rw [Bool.and_eq_true, beq_iff_eq] at h2
    exact ⟨List.mem_range.1 h3, h2.2, h2.1⟩
  | none =>
    exfalso
    rcases h.back b h1 hb with e | ⟨x, x1, x2, x3, x4⟩
    · omega
    · have := List.find?_eq_none.1 hf x (List.mem_range.2 x2)
      apply this
      unfold befP; rw [Bool.and_eq_true, beq_iff_eq]; exact ⟨x4, x3⟩
theorem walk_spec {may : Nat → Nat → Bool} {n : Nat} {m : Marks} (h : MarkInv may n n m) : ∀ (f b : Nat), b ≤ f → b ≤ n → m.getD b 0 < 99 → Parts b (walkBack may m f b).reverse ∧ okFrom may 0 (walkBack may m f b).reverse = true ∧ ((walkBack may m f b).length : Int) = m.getD b 0
  | 0, b, hf, _, _ => by
    have : b = 0 := by omega
    subst this
    refine ⟨⟨by simp [walkBack], by simp [walkBack, isum]⟩, by simp [walkBack, okFrom], ?_⟩
    rw [h.zero]; simp [walkBack]
  | f + 1, b, hf, hb, hm => by
    by_cases h0 : b = 0
    · subst h0
      refine ⟨⟨by simp [walkBack], by simp [walkBack, isum]⟩, by simp [walkBack, okFrom], ?_⟩
      rw [h.zero]; simp [walkBack]
    · obtain ⟨g1, g2, g3⟩ := before_spec h (by omega) hb hm
      rw [walkBack, if_neg h0]
      generalize Tx.before may m b = a at g1 g2 g3
      obtain ⟨i1, i2, i3⟩ := walk_spec h f a (by omega) (by omega) (by have := (h.bd a).2; omega)
      rw [List.reverse_cons]
      have hp : Parts ((b : Int) - a) [(b : Int) - (a : Int)] := ⟨fun x hx => by rw [List.mem_singleton.1 hx]; omega, by simp [isum]⟩
      refine ⟨?_, ?_, ?_⟩
      · have := parts_append i1 hp
        rwa [show (a : Int) + ((b : Int) - a) = b by omega] at this
      · rw [okFrom_append _ _ _ _ (fun x hx => by have := i1.1 x hx; omega), i2, i1.2, Bool.true_and, okFrom, okFrom, Bool.and_true]
        rw [show 0 + ((a : Int)).toNat = a by omega, show a + ((b : Int) - (a : Int)).toNat = b by omega]; exact g2
      · rw [List.length_cons]; push_cast; omega

/-- all readings of so many words, in order -/
def compF : Nat → Nat → List (List Int)
  | 0, n => if n = 0 then [[]] else []
  | f + 1, n => if n = 0 then [[]] else (List.range' 1 n).flatMap fun k => (compF f (n - k)).map fun l => (k : Int) :: l
theorem compF_mem : ∀ (f n : Nat) (l : List Int), n ≤ f → (l ∈ compF f n ↔ Parts n l)
  | 0, n, l, hf => by
    have : n = 0 := by omega
    subst this
    simp only [compF, if_true, List.mem_singleton]
    exact ⟨fun h => by subst h; exact ⟨by simp, rfl⟩, fun h => parts_nil h⟩
  | f + 1, n, l, hf => by
    rw [compF]
    by_cases h0 : n = 0
    · subst h0
      rw [if_pos rfl, List.mem_singleton]
      exact ⟨fun h => by subst h; exact ⟨by simp, rfl⟩, fun h => parts_nil h⟩
    · rw [if_neg h0, List.mem_flatMap]
      constructor
      · rintro ⟨k, hk, hl⟩
        obtain ⟨m, hm, rfl⟩ := List.mem_map.1 hl
        rw [List.mem_range'_1] at hk
        have := (compF_mem f (n - k) m (by omega)).1 hm
        rw [parts_cons]
        exact ⟨by omega, by rwa [show (n : Int) - (k : Int) = ((n - k : Nat) : Int) by omega]⟩
      · intro h
        cases l with
        | nil => have := h.2; simp [isum] at this; omega
        | cons x m =>
          rw [parts_cons] at h
          have h3 := parts_pos h.2
          refine ⟨x.toNat, by rw [List.mem_range'_1]; omega, List.mem_map.2 ⟨m, (compF_mem f _ m (by omega)).2 ?_, ?_⟩⟩
          · rw [show ((n - x.toNat : Nat) : Int) = (n : Int) - x by omega]; exact h.2
          · rw [show ((x.toNat : Nat) : Int) = x by omega]
theorem compF_eq : ∀ (f g n : Nat), n ≤ f → n ≤ g → compF f n = compF g n
  | 0, g, n, hf, _ => by
    have : n = 0 := by omega
    subst this
    cases g <;> simp [compF]
  | f + 1, 0, n, _, hg => by
    have : n = 0 := by omega
    subst this; simp [compF]
  | f + 1, g + 1, n, hf, hg => by
    rw [compF, compF]
    by_cases h0 : n = 0
    · rw [if_pos h0, if_pos h0]
    · rw [if_neg h0, if_neg h0]
      have e : ∀ k ∈ List.range' 1 n, ((compF f (n - k)).map fun l => (k : Int) :: l) = ((compF g (n - k)).map fun l => (k : Int) :: l) := fun k hk => by
        rw [List.mem_range'_1] at hk
        rw [compF_eq f g (n - k) (by omega) (by omega)]
      rw [List.flatMap_def, List.flatMap_def, List.map_congr_left e]
/-- all right readings, in order -/
def rights (may : Nat → Nat → Bool) (n : Nat) : List (List Int) := (compF n n).filter (okFrom may 0)
theorem mem_rights {may : Nat → Nat → Bool} {n : Nat} {l : List Int} : l ∈ rights may n ↔ Parts n l ∧ okFrom may 0 l = true := by
  unfold rights; rw [List.mem_filter, compF_mem n n l (Nat.le_refl _)]
theorem many_count (may : Nat → Nat → Bool) (n : Nat) : ∀ (f a : Nat), a ≤ n → n + 1 - a ≤ f → many may n f a = (compF (n - a) (n - a)).countP (okFrom may a)
  | 0, a, h1, h2 => by omega
  | f + 1, a, h1, h2 => by
    rw [many]
    by_cases h0 : a = n
    · subst h0
      rw [if_pos rfl, Nat.sub_self]; rfl
    · rw [if_neg h0]
      obtain ⟨q, hq⟩ : ∃ q, n - a = q + 1 := ⟨n - a - 1, by omega⟩
      rw [hq, compF, if_neg (by omega), List.countP_flatMap]
      unfold brs
      rw [hq]
      have : (List.range' (a + 1) (q + 1)) = (List.range' 1 (q + 1)).map (a + ·) := by
        rw [List.map_add_range']
      rw [this, List.filter_map, List.map_map]
      have key : ∀ (ks : List Nat), (∀ k ∈ ks, 1 ≤ k ∧ a + k ≤ n) → ((ks.filter (may a ∘ (a + ·))).map (many may n f ∘ (a + ·))).sum = (ks.map (List.countP (okFrom may a) ∘ fun k => (compF q (q + 1 - k)).map fun l => (k : Int) :: l)).sum := by
        intro ks
        induction ks with
        | nil => intro _; rfl
        | cons k ks ih =>
          intro hks
          have hk := hks k (by simp)
          have ih := ih fun x hx => hks x (by simp [hx])
          rw [List.map_cons, List.sum_cons, ← ih]
          have e : (List.countP (okFrom may a) ∘ fun k => (compF q (q + 1 - k)).map fun l => (k : Int) :: l) k = if may a (a + k) then many may n f (a + k) else 0 := by
            simp only [Function.comp_apply, List.countP_map]
            have e2 : (okFrom may a ∘ fun l => (k : Int) :: l) = fun l => may a (a + k) && okFrom may (a + k) l := by
              funext l; simp [okFrom]
            rw [e2]
            cases hm : may a (a + k) with
            | true =>
              simp only [Bool.true_and, if_true]
              rw [many_count may n f (a + k) (by omega) (by omega), compF_eq q (n - (a + k)) (q + 1 - k) (by omega) (by omega), show q + 1 - k = n - (a + k) by omega]
            | false => simp
          rw [e]
          cases hm : may a (a + k) with
          | true => rw [List.filter_cons_of_pos (by simpa using hm)]; simp
          | false => rw [List.filter_cons_of_neg (by simp [hm])]; simp
      exact key _ fun k hk => by rw [List.mem_range'_1] at hk; omega
theorem count_rights (may : Nat → Nat → Bool) (n : Nat) : count may n 0 = (rights may n).length := by
  unfold count rights
  rw [many_count may n _ 0 (by omega) (by omega), Nat.sub_zero, List.countP_eq_length_filter]
/-- the places at which a reading breaks -/
def breaksAt (l : List Int) (p : Nat) : Bool := (List.range l.length).any fun k => isum (l.take (k + 1)) == (p : Int)
theorem unbr_rights {may : Nat → Nat → Bool} {n p : Nat} (hn : n ≤ 12) (h1 : 1 ≤ p) (hp : p < n) : unbrP may n p = !(rights may n).any fun l => breaksAt l p := by
  have h := greatest_inv may n hn
  unfold unbrP
  rw [Bool.eq_iff_iff]
  simp only [Bool.or_eq_true, decide_eq_true_eq, beq_iff_eq, Bool.not_eq_true', List.any_eq_false]
  have hc : count may n p = (compF (n - p) (n - p)).countP (okFrom may p) := by
    unfold count; exact many_count may n _ p (by omega) (by omega)
  constructor
  · rintro hh l hl hb
    obtain ⟨g1, g2⟩ := mem_rights.1 hl
    unfold breaksAt at hb
    obtain ⟨k, hk, he⟩ := List.any_eq_true.1 hb
    rw [beq_iff_eq] at he
    have hs : l = l.take (k + 1) ++ l.drop (k + 1) := (List.take_append_drop _ _).symm
    have hp1 : Parts p (l.take (k + 1)) := ⟨fun x hx => g1.1 x (List.mem_of_mem_take hx), he⟩
    have hp2 : Parts (n - p : Nat) (l.drop (k + 1)) := ⟨fun x hx => g1.1 x (List.mem_of_mem_drop hx), by have := g1.2; rw [hs, isum_append, he] at this; omega⟩
    rw [hs, okFrom_append _ _ _ _ (fun x hx => by have := hp1.1 x hx; omega), Bool.and_eq_true, he, Int.toNat_natCast, Nat.zero_add] at g2
    rcases hh with hh | hh
    · have := marks_low h (l.take (k + 1)) 0 p (by simpa using hp1) (by omega) g2.1
      have h4 := isum_ge hp1.1
      rw [h.zero] at this
      have := hp1.2
      omega
    · rw [hc, List.countP_eq_zero] at hh
      exact hh _ ((compF_mem _ _ _ (Nat.le_refl _)).2 hp2) g2.2
  · intro hh
    by_cases h99 : 99 ≤ (greatest may n).getD p 0
    · exact .inl h99
    · right
      rw [hc, List.countP_eq_zero]
      intro l2 hl2 hok
      have hp2 := (compF_mem _ _ _ (Nat.le_refl _)).1 hl2
      obtain ⟨w1, w2, w3⟩ := walk_spec h p p (Nat.le_refl _) (by omega) (by omega)
      generalize (walkBack may (greatest may n) p p).reverse = l1 at w1 w2
      have hmem : l1 ++ l2 ∈ rights may n := mem_rights.2 ⟨by
        have := parts_append w1 hp2
        rwa [show (p : Int) + ((n - p : Nat) : Int) = n by omega] at this, by
        rw [okFrom_append _ _ _ _ (fun x hx => by have := w1.1 x hx; omega), w2, w1.2, Int.toNat_natCast, Nat.zero_add, hok]; rfl⟩
      apply hh _ hmem
      unfold breaksAt
      have hne : l1 ≠ [] := fun e => by subst e; have := w1.2; simp [isum] at this; omega
      have hlen : 0 < l1.length := List.length_pos_iff.2 hne
      refine List.any_eq_true.2 ⟨l1.length - 1, List.mem_range.2 (by rw [List.length_append]; omega), ?_⟩
      rw [show l1.length - 1 + 1 = l1.length by omega, List.take_left', beq_iff_eq]
      · exact w1.2
      · rfl
/-- the fewest breaths, in the reference's words -/
def bestLen : List (List Int) → Nat → Nat
  | [], b => b
  | l :: ls, b => bestLen ls (if b = 0 ∨ l.length < b then l.length else b)
theorem bestLen_zero : ∀ (ls : List (List Int)) (b : Nat), (∀ l ∈ ls, l ≠ []) → (bestLen ls b = 0 ↔ b = 0 ∧ ls = [])
  | [], b, _ => by simp [bestLen]
  | l :: ls, b, h => by
    rw [bestLen, bestLen_zero ls _ (fun x hx => h x (by simp [hx]))]
    have hl : 0 < l.length := List.length_pos_iff.2 (h l (by simp))
    constructor
    · rintro ⟨h1, h2⟩; split at h1 <;> omega
    · rintro ⟨_, h2⟩; cases h2
theorem bestLen_spec : ∀ (ls : List (List Int)) (b : Nat), (∀ l ∈ ls, l ≠ []) → (0 < b → bestLen ls b ≤ b) ∧ (∀ l ∈ ls, bestLen ls b ≤ l.length) ∧ (bestLen ls b = b ∨ ∃ l ∈ ls, bestLen ls b = l.length)
  | [], b, _ => ⟨fun _ => Nat.le_refl _, fun l hl => by simp at hl, .inl rfl⟩
  | l :: ls, b, h => by
    have hl : 0 < l.length := List.length_pos_iff.2 (h l (by simp))
    rw [bestLen]
    by_cases hc : b = 0 ∨ l.length < b
    · rw [if_pos hc]
      obtain ⟨i1, i2, i3⟩ := bestLen_spec ls l.length (fun x hx => h x (by simp [hx]))
      have := i1 hl
      refine ⟨fun hb => by omega, fun x hx => ?_, .inr ?_⟩
      · rcases List.mem_cons.1 hx with rfl | hx
        · exact this
        · exact i2 x hx
      · rcases i3 with e | ⟨x, hx, e⟩
        · exact ⟨l, by simp, e⟩
        · exact ⟨x, by simp [hx], e⟩
    · rw [if_neg hc]
      obtain ⟨i1, i2, i3⟩ := bestLen_spec ls b (fun x hx => h x (by simp [hx]))
      have := i1 (by omega)
      refine ⟨fun _ => this, fun x hx => ?_, ?_⟩
      · rcases List.mem_cons.1 hx with rfl | hx
        · omega
        · exact i2 x hx
      · rcases i3 with e | ⟨x, hx, e⟩
        · exact .inl e
        · exact .inr ⟨x, by simp [hx], e⟩
theorem rights_ne {may : Nat → Nat → Bool} {n : Nat} (hn1 : 1 ≤ n) : ∀ l ∈ rights may n, l ≠ [] := fun l hl e => by
  have := (mem_rights.1 hl).1.2
  subst e; simp [isum] at this; omega
/-- Fewest tells a right reading with the fewest breaths, or there is none -/
theorem fewest_rights {may : Nat → Nat → Bool} {n : Nat} (hn1 : 1 ≤ n) (hn : n ≤ 12) : ((fewest may n).1.length = bestLen (rights may n) 0) ∧ ((fewest may n).2 = if bestLen (rights may n) 0 = 0 then 6 else 0) ∧ ((fewest may n).2 = 0 → (fewest may n).1 ∈ rights may n) ∧ ((fewest may n).2 = 0 ↔ rights may n ≠ []) := by
  have h := greatest_inv may n hn
  have hne := rights_ne (may := may) hn1
  obtain ⟨b1, b2, b3⟩ := bestLen_spec (rights may n) 0 hne
  have b0 := bestLen_zero (rights may n) 0 hne
  have low : ∀ l ∈ rights may n, (greatest may n).getD n 0 ≤ l.length := fun l hl => by
    obtain ⟨g1, g2⟩ := mem_rights.1 hl
    have := marks_low h l 0 n (by simpa using g1) (Nat.le_refl _) g2
    rw [h.zero] at this; omega
  unfold fewest
  by_cases hm : (greatest may n).getD n 0 < 99
  · rw [if_pos hm]
    obtain ⟨w1, w2, w3⟩ := walk_spec h n n (Nat.le_refl _) (Nat.le_refl _) hm
    have hin : (walkBack may (greatest may n) n n).reverse ∈ rights may n := mem_rights.2 ⟨w1, w2⟩
    have hz : bestLen (rights may n) 0 ≠ 0 := fun e => by have := (b0.1 e).2; rw [this] at hin; simp at hin
    dsimp only
    refine ⟨?_, by rw [if_neg hz], fun _ => hin, ⟨fun _ e => by rw [e] at hin; simp at hin, fun _ => rfl⟩⟩
    rcases b3 with e | ⟨l, hl, e⟩
    · exact absurd e hz
    · have h1 := low l hl
      have h2 := b2 _ hin
      rw [List.length_reverse] at h2 ⊢
      omega
  · rw [if_neg hm]
    have hnil : rights may n = [] := by
      cases hr : rights may n with
      | nil => rfl
      | cons l ls =>
        exfalso
        have hl : l ∈ rights may n := by rw [hr]; simp
        have h1 := low l hl
        have h2 := isum_ge (mem_rights.1 hl).1.1
        have h3 := (mem_rights.1 hl).1.2
        omega
    have hz : bestLen (rights may n) 0 = 0 := b0.2 ⟨rfl, hnil⟩
    dsimp only
    exact ⟨by rw [hz]; rfl, by rw [if_pos hz], fun e => by omega, ⟨fun e => by omega, fun e => absurd hnil e⟩⟩
end Go.Proofs.Ytadnggecnjdhiaa
set_option linter.unusedSimpArgs false
set_option linter.unusedVariables false
namespace Go.Proofs.Ytadnggecnjdhiaa
open Go.RowKit Tx

/-- numbers of at least 1 that add up -/
def partsB (L : Int) (l : List Int) : Bool := l.all (fun x => decide (1 ≤ x)) && decide (isum l = L)
def plcL (L : Int) (l : List Int) : List Int := if partsB L l then placesL l else []
theorem partsB_iff (L : Int) (l : List Int) : partsB L l = true ↔ Parts L l := by
  unfold partsB Parts
  simp [List.all_eq_true]
theorem parts_take {L : Int} {l : List Int} (h : Parts L l) (j : Nat) : isum (l.take j) ≤ L := by
  have h1 : isum (l.take j) + isum (l.drop j) = L := by rw [← isum_append, List.take_append_drop]; exact h.2
  have h2 := isum_ge (l := l.drop j) (fun x hx => h.1 x (List.mem_of_mem_drop hx))
  omega
theorem plcL_small {L : Int} {l : List Int} {k : Nat} (hk : k < l.length) (h : l.getD k 0 < 1) : plcL L l = [] := by
  unfold plcL
  rw [if_neg]
  intro hp
  have := ((partsB_iff L l).1 hp).1 _ (getD_mem 0 hk)
  omega
theorem plcL_great {L : Int} {l : List Int} {k : Nat} (hk : k < l.length) (h : isum (l.take k) + l.getD k 0 > L) : plcL L l = [] := by
  unfold plcL
  rw [if_neg]
  intro hp
  have := parts_take ((partsB_iff L l).1 hp) (k + 1)
  rw [take_snocD 0 hk, isum_snoc] at this
  omega
theorem plcL_end {L : Int} {l : List Int} (h1 : ∀ x ∈ l, 1 ≤ x) : plcL L l = if isum l = L then placesL l else [] := by
  unfold plcL partsB
  rw [show l.all (fun x => decide (1 ≤ x)) = true from List.all_eq_true.2 (fun x hx => by simpa using h1 x hx)]
  simp
set_option maxHeartbeats 4000000 in
set_option maxRecDepth 100000 in
theorem places_any (L : Nat) (hL12 : L ≤ 1000000) (pw : Option Addr) (cw : Nat) (v1 v2 : Value) (l : List Int) (pl : Option Addr) (cl : Nat) (w : World) (hL : Ints w pl l) (hll : l.length ≤ 100000) :
    Calls Try.prog 61 #[.agg #[.slice pw L cw, v1, v2], .slice pl l.length cl] w (RowPost (plcL L l) w) := by
  obtain ⟨i0, hi0, hz0, hz1, hz2⟩ := info_parts A_infoI
  have HL := Lib.hid hL
  clear hL
  have hmf := mf
  have hown1 : ((w.alloc (.cells #[.slice pw L cw, v1, v2] 25)).alloc (.cells #[.int .i64 0] 3)).ownsRow (w.heap.size + 1) 3 1 (.slice (some ⟨w.heap.size + 1, 0, none⟩) 1 1) 1 [.int .i64 0] := by
    have h := heap_last (w.alloc (.cells #[.slice pw L cw, v1, v2] 25)) (.cells #[.int .i64 0] 3)
    rw [World.size_alloc] at h
    exact ⟨by simp, .inr ⟨w.heap.size + 1, 1, _, rfl, Nat.le_refl _, h, by omega, by unfold maxLen; omega, by simp, by simp⟩⟩
  obtain ⟨W1, hW1⟩ : ∃ W1, W1 = w.alloc (.cells #[.slice pw L cw, v1, v2] 25) := ⟨_, rfl⟩
  have hbx : W1.heap[w.heap.size]? = some (.cells #[.slice pw L cw, v1, v2] 25 (0, 0)) := by rw [hW1]; exact heap_last _ _
  have hb1 : Below w.heap.size w W1 := by rw [hW1]; exact below1 _ _
  have hz1' : W1.heap.size = w.heap.size + 1 := by rw [hW1]; simp
  have HO1 := Lib.hid (hW1 ▸ hown1)
  have HBX := Lib.hid hbx
  have HB1 := Lib.hid hb1
  have HZ1 := Lib.hid hz1'
  have HW1 := Lib.hid hW1
  clear hbx hb1 hz1' hown1 hW1
  go_enter Try.func61, Try.ntmps61
  go_wp2_with fail
  go_loopw [5, 12] (fun v i wr => ∃ k : Nat, k ≤ l.length ∧ i = .int .i64 k ∧ Hid (wr.ownsRow (w.heap.size + 1) 3 1 v (placesTo l k).length ((placesTo l k).map (Value.int .i64))) ∧ Hid (Below (w.heap.size + 1) W1 wr) ∧ w.heap.size + 2 ≤ wr.heap.size ∧ Hid (∀ x ∈ l.take k, 1 ≤ x) ∧ Hid (isum (l.take k) ≤ L)) (fun _ i _ => l.length - (intOf i).toNat)
  case atStart => exact ⟨0, Nat.zero_le _, rfl, Lib.hid (HW1.out ▸ HO1.out), Lib.hid (by rw [← HW1.out]; exact (Below.refl _ _).alloc (by rw [HZ1.out]; exact Nat.le_refl _) _), by simp, Lib.hid (fun x hx => by simp at hx), Lib.hid (by simp [isum])⟩
  case round =>
    obtain ⟨k, hk, rfl, HO, HBr, hsz, HG, HS⟩ := hrel
    have hbxr := ((HBr.out).block w.heap.size (by omega)).trans HBX.out
    obtain ⟨k0, k1, k2⟩ := blk3 hbxr
    have HBW := Lib.hid (HB1.out.trans (HBr.out.mono (by omega)))
    have hlen := placesTo_len l k
    have HLEN := Lib.hid hlen
    obtain ⟨p, c, rfl, hints, hfr, hcl, hcc⟩ := own_rd HO.out rfl
    rcases hints with h0 | ⟨g, og, rfl, hgl, hcells⟩
    · rw [h0] at hlen; simp at hlen
    have hck := hcells k (by omega)
    rw [placesTo_last] at hck
    have ha0 := isum_ge HG.out
    have haL := HS.out
    have hkl : ((placesTo l k).length : Int) - 1 = (k : Int) := by rw [hlen]; omega
    have hkl2 : (k : Int) < (placesTo l k).length := by rw [hlen]; omega
    have hPLn : (placesTo l k).length ≤ 1000000 := by rw [hlen]; omega
    clear hbxr hfr hcells HO1
    by_cases hlt : k < l.length
    · have hlt' : (k : Int) < l.length := by omega
      obtain ⟨b, o, x, rfl, hb, hxx, c1⟩ := (HL.out.below HBW.out).at hlt
      have HXX := Lib.hid hxx
      have HPS := Lib.hid (show placesTo l (k + 1) = placesTo l k ++ [isum (l.take k) + x] by rw [placesTo_succ, take_snocD 0 hlt, isum_snoc, hxx])
      have HTS := Lib.hid (show isum (l.take (k + 1)) = isum (l.take k) + x by rw [take_snocD 0 hlt, isum_snoc, hxx])
      have HTK := Lib.hid (take_snocD (xs := l) 0 hlt)
      rw [← hxx] at HTK
      have HSM := Lib.hid (fun h : x < 1 => plcL_small (L := (L : Int)) hlt (by rw [← hxx]; exact h))
      have HGR := Lib.hid (fun h : isum (l.take k) + x > L => plcL_great (L := (L : Int)) hlt (by rw [← hxx]; exact h))
      generalize isum (l.take k) = a at hck ha0 haL HPS HTS HGR HS
      generalize hPL : placesTo l k = PL at *
      clear hPL hxx hlen
      by_cases hx1 : x < 1
      · go_wp2
        go_ret
        exact ⟨_, rfl, by rw [HSM.out hx1]; exact own_none _ _ _ _, HBW.out⟩
      · by_cases hx2 : x > L - a
        · go_wp2
          go_ret
          exact ⟨_, rfl, by rw [HGR.out (by omega)]; exact own_none _ _ _ _, HBW.out⟩
        · go_wp2_with (at_builtin; refine wpList_append_own _ rfl _ _ 28 rfl (w.heap.size + 1) 3 i0 (.int .i64 0) 1 8 A_undI hi0 hz0 hz1 hz2 rfl (by decide) _ _ _ rfl (HO.out.alloc _) ⟨wr.heap.size, 0, none⟩ 1 1 [.int .i64 (a + x)] rfl rfl ?d1 ?d2 ?d3 ?d4 ?d5 ?_)
          case d2 => first | rfl | (intro u hu; simp at hu; subst hu; rfl)
          case d3 => unfold maxLen; omega
          case d4 => omega
          case d5 => first | omega | (simp; omega)
          intro v' w8 hown8 hgrow _
          have hB8 := below_grown (al2 HBr.out (by omega) _) (HO.out.alloc _) (Nat.le_refl _) (by simp; omega) hgrow
          have hs8 : w.heap.size + 2 ≤ w8.heap.size := by have := hgrow.size; simp at this; omega
          have HO8 := Lib.hid hown8
          have HB8 := Lib.hid hB8
          clear hgrow hown8 hB8
          go_wp2
          go_roundw
          case rel => exact ⟨k + 1, by omega, by go_num, Lib.hid (by rw [HPS.out]; simpa using HO8.out), HB8, hs8, Lib.hid (by rw [HTK.out]; intro y hy; rcases List.mem_append.1 hy with h | h; exact HG.out y h; rw [List.mem_singleton.1 h]; omega), Lib.hid (by rw [HTS.out]; omega)⟩
          case measure => simp [intOf]; omega
    · obtain rfl : k = l.length := by omega
      have hPE := plcL_end (L := (L : Int)) (l := l) (by have := HG.out; rwa [List.take_length] at this)
      rw [List.take_length] at hck
      by_cases hLL : isum l = L
      · have hq1 : (isum l != (L : Int)) = false := by simp [hLL]
        have HLL := Lib.hid hLL
        clear hLL
        go_wp2_with fail
        go_quiet (fail)
        go_wp2
        go_ret
        exact ⟨_, rfl, by rw [hPE, if_pos HLL.out]; exact own_base HO.out (by omega), HBW.out.trans ⟨rfl, rfl, rfl, Nat.le_refl _, fun _ _ => rfl⟩⟩
      · have hq1 : (isum l != (L : Int)) = true := by simpa using hLL
        have HLL := Lib.hid hLL
        clear hLL
        go_wp2_with fail
        go_quiet (fail)
        go_wp2
        go_ret
        exact ⟨_, rfl, by rw [hPE, if_neg HLL.out]; exact own_none _ _ _ _, HBW.out.trans ⟨rfl, rfl, rfl, Nat.le_refl _, fun _ _ => rfl⟩⟩
end Go.Proofs.Ytadnggecnjdhiaa
set_option linter.unusedSimpArgs false
set_option linter.unusedVariables false
namespace Go.Proofs.Ytadnggecnjdhiaa
open Go.RowKit Tx

/-- a reading is right -/
def soundB (t : Text) (l : List Int) : Bool := partsB t.words.length l && okFrom t.right 0 l
theorem plcL_cases (L : Nat) (hL : 1 ≤ L) (l : List Int) : (plcL L l = [] ∧ partsB L l = false) ∨ (plcL L l = placesL l ∧ partsB L l = true ∧ Parts L l ∧ 1 ≤ l.length) := by
  unfold plcL
  cases h : partsB L l with
  | false => exact .inl ⟨by simp, rfl⟩
  | true =>
    have hp := (partsB_iff _ _).1 h
    refine .inr ⟨by simp, rfl, hp, ?_⟩
    cases l with
    | nil => have := hp.2; simp [isum] at this; omega
    | cons x l => simp
theorem ok_step {may : Nat → Nat → Bool} {L : Int} {l : List Int} (h : Parts L l) {k : Nat} (hk : k < l.length) :
    (okFrom may 0 (l.take (k + 1)) = (okFrom may 0 (l.take k) && may (isum (l.take k)).toNat (isum (l.take (k + 1))).toNat)) ∧ (may (isum (l.take k)).toNat (isum (l.take (k + 1))).toNat = false → okFrom may 0 l = false) ∧ 0 ≤ isum (l.take k) ∧ isum (l.take k) < isum (l.take (k + 1)) ∧ isum (l.take (k + 1)) ≤ L := by
  have hx := h.1 _ (getD_mem 0 hk)
  have hs : isum (l.take (k + 1)) = isum (l.take k) + l.getD k 0 := by rw [take_snocD 0 hk, isum_snoc]
  have h0 := isum_ge (l := l.take k) (fun x hx => h.1 x (List.mem_of_mem_take hx))
  have hn : ∀ x ∈ l.take k, 0 ≤ x := fun x hx => by have := h.1 x (List.mem_of_mem_take hx); omega
  have e : 0 + (isum (l.take k)).toNat + (l.getD k 0).toNat = (isum (l.take (k + 1))).toNat := by omega
  refine ⟨?_, fun hf => ?_, by omega, by omega, parts_take h (k + 1)⟩
  · rw [take_snocD 0 hk, okFrom_append _ _ _ _ hn, okFrom, okFrom, Bool.and_true, e, Nat.zero_add, ← take_snocD 0 hk]
  · have hd : l = l.take k ++ (l.getD k 0 :: l.drop (k + 1)) := by
      conv => lhs; rw [← List.take_append_drop k l, List.drop_eq_getElem_cons hk]
      simp [hk]
    rw [hd, okFrom_append _ _ _ _ hn, okFrom, e, Nat.zero_add, hf]
    simp
theorem placesL_get (l : List Int) (k : Nat) (hk : k ≤ l.length) : (placesL l).getD k 0 = isum (l.take k) := by
  unfold placesL
  rw [List.getD_eq_getElem?_getD, List.getElem?_map, List.getElem?_range (by omega)]
  rfl
theorem placesL_len (l : List Int) : (placesL l).length = l.length + 1 := by simp [placesL]
def spSo (tv : Value) (gp : Nat) (og n cl k a b : Nat) (r : Bool) : Nat → List Value → Value → World → Prop
  | 0, _, v, _ => v = tv
  | 1, _, v, _ => v = .slice (some ⟨gp, og, none⟩) n cl
  | 2, _, v, _ => v = .int .i64 k
  | 3, _, v, _ => v = .pointer (some ⟨gp, og + k, none⟩)
  | 4, _, v, _ => v = .int .i64 a
  | 5, _, v, _ => v = .slice (some ⟨gp, og, none⟩) n cl
  | 6, _, v, _ => v = .int .i64 k
  | 7, _, v, _ => v = .int .i64 ((k : Int) + 1)
  | 8, _, v, _ => v = .pointer (some ⟨gp, og + (k + 1), none⟩)
  | 9, _, v, _ => v = .int .i64 b
  | 10, _, v, _ => v = .bool r
  | 11, _, v, _ => v = .bool (!r)
  | _, _, _, _ => False
theorem spSo_stable (tv : Value) (gp : Nat) (og n cl k a b : Nat) (r : Bool) : ∀ i L v w w', spSo tv gp og n cl k a b r i L v w → Rs.Gr w w' → spSo tv gp og n cl k a b r i L v w' := by
  intro i L v w w' h hg
  match i with
  | 0 => exact h
  | 1 => exact h
  | 2 => exact h
  | 3 => exact h
  | 4 => exact h
  | 5 => exact h
  | 6 => exact h
  | 7 => exact h
  | 8 => exact h
  | 9 => exact h
  | 10 => exact h
  | 11 => exact h

set_option maxHeartbeats 4000000 in
set_option maxRecDepth 100000 in
theorem sound_any (t : Text) (ok : Text.Ok t) (pw pt : Option Addr) (cw ct : Nat) (hcw : t.words.length ≤ cw ∧ cw ≤ maxLen) (l : List Int) (hll : l.length ≤ 100000) (pl : Option Addr) (cl : Nat) (w : World) (hW : TxAt w t pw pt) (hL : Ints w pl l) :
    Calls Try.prog 57 #[.agg #[.slice pw t.words.length cw, .slice pt t.turns.length ct, .int .i64 t.breath], .slice pl l.length cl] w fun e w' => e = .returned (.bool (soundB t l)) ∧ Below w.heap.size w w' := by
  have hn := ok.n12
  have hne := ok.n1
  obtain ⟨bw, ow, x0, rfl, hbb, _⟩ := hW.words.at (i := 0) (by omega)
  have HW := Lib.hid hW
  have HOK := Lib.hid ok
  have HCW := Lib.hid hcw
  have HPC := Lib.hid (fun W (h : Below w.heap.size w W) => places_any t.words.length (by omega) (some ⟨bw, ow, none⟩) cw (.slice pt t.turns.length ct) (.int .i64 t.breath) l pl cl W (hL.below h) hll)
  have hcs := plcL_cases t.words.length hne l
  have hpl : (plcL (t.words.length : Int) l).length ≤ 100001 := by
    rcases hcs with ⟨h, _⟩ | ⟨h, _⟩
    · rw [h]; simp
    · rw [h, placesL_len]; omega
  obtain ⟨P, hP⟩ : ∃ P, P = plcL (t.words.length : Int) l := ⟨_, rfl⟩
  rw [← hP] at HPC hcs hpl
  have HCS := Lib.hid hcs
  have hbx := heap_last w (.cells #[.slice (some ⟨bw, ow, none⟩) t.words.length cw, .slice pt t.turns.length ct, .int .i64 t.breath] 25)
  have hb1 := below1 w (.cells #[.slice (some ⟨bw, ow, none⟩) t.words.length cw, .slice pt t.turns.length ct, .int .i64 t.breath] 25)
  have hz1 : (w.alloc (.cells #[.slice (some ⟨bw, ow, none⟩) t.words.length cw, .slice pt t.turns.length ct, .int .i64 t.breath] 25)).heap.size = w.heap.size + 1 := by simp
  have HBX := Lib.hid hbx
  have HB1 := Lib.hid hb1
  have HZ1 := Lib.hid hz1
  clear hW hL hP hcs hcw ok hbx hb1 hz1
  go_enter Try.func57, Try.ntmps57
  go_wp2_with fail
  refine (HPC.out _ HB1.out).mono ?_
  generalize w.alloc (.cells #[.slice (some ⟨bw, ow, none⟩) t.words.length cw, .slice pt t.turns.length ct, .int .i64 t.breath] 25) = W1 at HBX HB1 HZ1 ⊢
  rintro e W2 ⟨v, rfl, hown, hB2⟩
  have HBX2 := Lib.hid ((hB2.block w.heap.size (by have := HZ1.out; omega)).trans HBX.out)
  have HB2 := Lib.hid (join HB1.out hB2)
  have hz2 : w.heap.size + 1 ≤ W2.heap.size := by have := hB2.size; have := HZ1.out; omega
  obtain ⟨p, c, rfl, hints, -, hcm, hcl⟩ := own_rd hown rfl
  have hcm2 := hcm
  unfold maxLen at hcm2
  have hsub : IntKind.i64.wrap ((P.length : Int) - 1) = (P.length : Int) - 1 := IntWalk.i64_in _ (by omega)
  have hmax : max 0 ((P.length : Int) - 1) = ((P.length - 1 : Nat) : Int) := by omega
  have hmax2 : (((P.length - 1 : Nat) : Int)) ≤ (c : Int) := by omega
  clear HPC HBX HB1 HZ1 hB2
  rcases hints with h0 | ⟨gp, og, rfl, hgp, hcP⟩
  · have hsb : soundB t l = false := by
      rcases HCS.out with ⟨_, h⟩ | ⟨h, _⟩
      · unfold soundB; rw [h]; rfl
      · rw [h0] at h; have := congrArg List.length h; rw [placesL_len] at this; simp at this
    have HSB := Lib.hid hsb
    subst h0
    rcases hown.2 with ⟨hv, _⟩ | ⟨g, cap, cur, hv, _⟩
    all_goals
      injection hv with hv1 hv2 hv3
      subst hv1
      clear hown hsb hv2 hv3
      go_wp2_with fail
      go_loopw [17] (fun i wr => i = .int .i64 0 ∧ Below w.heap.size w wr) (fun _ _ => 0)
      case atStart => exact ⟨rfl, HB2.out⟩
      case round =>
        obtain ⟨rfl, hB⟩ := hrel
        go_wp2
        go_ret
        exact ⟨ret_bool (by first | rw [HSB.out] | (rw [HSB.out]; rfl)), hB⟩
  · have HCP := Lib.hid hcP
    clear hown hcP
    go_wp2_with fail
    go_loopw [6, 17] (fun u6 i wr => ∃ k : Nat, k ≤ P.length - 1 ∧ i = .int .i64 k ∧ Hid (partsB t.words.length l = true → okFrom t.right 0 (l.take k) = true) ∧ Hid (Below W2.heap.size W2 wr)) (fun _ i _ => P.length - 1 - (intOf i).toNat)
    case atStart => exact ⟨0, Nat.zero_le _, rfl, Lib.hid (fun _ => rfl), Lib.hid (Below.refl _ _)⟩
    case round =>
      obtain ⟨w3, rfl⟩ : ∃ w3 : World, w3 = wr := ⟨_, rfl⟩
      obtain ⟨k, hk, rfl, HOKF, HB3⟩ := hrel
      have hz3 := HB3.out.size
      have HB3w := Lib.hid (join HB2.out HB3.out)
      by_cases hlt : k < P.length - 1
      · have hlt' : (k : Int) < ((P.length - 1 : Nat) : Int) := by omega
        have han : (k : Int) < P.length := by omega
        have hbn : (k : Int) + 1 < P.length := by omega
        have hbn2 : 0 ≤ (k : Int) + 1 := by omega
        have hbn3 : ((k : Int) + 1).toNat = k + 1 := by omega
        have hsum : IntKind.i64.wrap ((k : Int) + 1) = (k : Int) + 1 := IntWalk.i64_in _ (by omega)
        obtain ⟨hPP, hpB, hPt, hl1⟩ : P = placesL l ∧ partsB (t.words.length : Int) l = true ∧ Parts t.words.length l ∧ 1 ≤ l.length := by
          rcases HCS.out with ⟨h, _⟩ | h
          · rw [h] at hlt; simp at hlt
          · exact h
        have hPl : P.length = l.length + 1 := by rw [hPP, placesL_len]
        have hkl : k < l.length := by omega
        obtain ⟨s1, s2, s3, s4, s5⟩ := ok_step (may := t.right) hPt hkl
        have hpa : P.getD k 0 = isum (l.take k) := by rw [hPP]; exact placesL_get l k (by omega)
        have hpb : P.getD (k + 1) 0 = isum (l.take (k + 1)) := by rw [hPP]; exact placesL_get l (k + 1) (by omega)
        have hca := (HB3.out.cell (p := ⟨gp, og + k, none⟩) hgp).trans (HCP.out k (by omega))
        have hcb := (HB3.out.cell (p := ⟨gp, og + (k + 1), none⟩) hgp).trans (HCP.out (k + 1) (by omega))
        rw [hpa] at hca
        rw [hpb] at hcb
        obtain ⟨a, ha⟩ : ∃ a : Nat, isum (l.take k) = (a : Int) := ⟨(isum (l.take k)).toNat, by omega⟩
        obtain ⟨b, hb⟩ : ∃ b : Nat, isum (l.take (k + 1)) = (b : Int) := ⟨(isum (l.take (k + 1))).toNat, by omega⟩
        rw [ha, hb, Int.toNat_natCast, Int.toNat_natCast] at s1 s2
        rw [ha] at hca s4
        rw [hb] at hcb s4 s5
        have hab : a < b := by omega
        have hbL : b ≤ t.words.length := by omega
        have HS1 := Lib.hid s1
        have HS2 := Lib.hid s2
        have HPB := Lib.hid hpB
        have hUb := (HB3.out.block w.heap.size (by omega)).trans HBX2.out
        have F0 := Lib.hid (blk_cells hUb 0 _ rfl)
        have F1 := Lib.hid (blk_cells hUb 1 _ rfl)
        have F2 := Lib.hid (blk_cells hUb 2 _ rfl)
        have HCA := Lib.hid hca
        have HCB := Lib.hid hcb
        have hsU : w.heap.size < w3.heap.size := by omega
        have hsg : gp < w3.heap.size := by omega
        have HTX := Lib.hid (HW.out.below HB3w.out)
        clear s1 s2 s3 s4 s5 hPP hpB hPt hl1 hPl hpa hpb ha hb hUb hca hcb hkl
        go_wp2_with fail
        refine Rs.region_gen 12 [[], [], [], [1, 2], [1, 2, 3], [], [], [6], [5, 6, 7], [5, 6, 7, 8], [0, 1, 2, 3, 4, 5, 6, 7, 8, 9], [0, 1, 2, 3, 4, 5, 6, 7, 8, 9, 10]] [some 20, some 21, some 22, some 23, some 24, some 25, some 26, some 27, some 28, some 29, some 30, some 31] (spSo (.agg #[.slice (some ⟨bw, ow, none⟩) t.words.length cw, .slice pt t.turns.length ct, .int .i64 t.breath]) gp og P.length c k a b (t.right a b)) (by kernel_rfl) (by kernel_rfl) rfl (spSo_stable _ _ _ _ _ _ _ _ _) ?_ ?_
        · refine ⟨fun V w' hG hs => ?_, fun V w' hG hs => ?_, fun V w' hG hs => ?_, fun V w' hG hs => ?_, fun V w' hG hs => ?_, fun V w' hG hs => ?_, fun V w' hG hs => ?_, fun V w' hG hs => ?_, fun V w' hG hs => ?_, fun V w' hG hs => ?_, fun V w' hG hs => ?_, fun V w' hG hs => ?_, trivial⟩
          all_goals
            obtain ⟨bc, _⟩ := bcell hG
            have f0 := (bc w.heap.size 0 hsU).trans F0.out
            have f1 := (bc w.heap.size 1 hsU).trans F1.out
            have f2 := (bc w.heap.size 2 hsU).trans F2.out
            have hca := (bc gp (og + k) hsg).trans HCA.out
            have hcb := (bc gp (og + (k + 1)) hsg).trans HCB.out
            clear bc
          · rw [if_pos (by rfl)]
            exact Rs.GrowL.value (v := (.agg #[.slice (some ⟨bw, ow, none⟩) t.words.length cw, .slice pt t.turns.length ct, .int .i64 t.breath])) (w' := w') (by simp [go_sem, Rs.look, f0, f1, f2]) (Rs.Gr.refl _) rfl
          · rw [if_pos (by rfl)]
            exact Rs.GrowL.value (v := .slice (some ⟨gp, og, none⟩) P.length c) (w' := w') (by simp [go_sem, Rs.look]) (Rs.Gr.refl _) rfl
          · rw [if_pos (by rfl)]
            exact Rs.GrowL.value (v := .int .i64 k) (w' := w') (by simp [go_sem, Rs.look]) (Rs.Gr.refl _) rfl
          · have e1 : V 1 = .slice (some ⟨gp, og, none⟩) P.length c := hs 1 (by simp)
            have e2 : V 2 = .int .i64 k := hs 2 (by simp)
            rw [if_pos (by rfl)]
            exact Rs.GrowL.value (v := .pointer (some ⟨gp, og + k, none⟩)) (w' := w') (by simp [go_sem, Rs.look, e1, e2, han]) (Rs.Gr.refl _) rfl
          · have e1 : V 1 = .slice (some ⟨gp, og, none⟩) P.length c := hs 1 (by simp)
            have e2 : V 2 = .int .i64 k := hs 2 (by simp)
            have e3 : V 3 = .pointer (some ⟨gp, og + k, none⟩) := hs 3 (by simp)
            rw [if_pos (by rfl)]
            exact Rs.GrowL.value (v := .int .i64 a) (w' := w') (by simp [go_sem, Rs.look, e1, e2, e3, hca]) (Rs.Gr.refl _) rfl
          · rw [if_pos (by rfl)]
            exact Rs.GrowL.value (v := .slice (some ⟨gp, og, none⟩) P.length c) (w' := w') (by simp [go_sem, Rs.look]) (Rs.Gr.refl _) rfl
          · rw [if_pos (by rfl)]
            exact Rs.GrowL.value (v := .int .i64 k) (w' := w') (by simp [go_sem, Rs.look]) (Rs.Gr.refl _) rfl
          · have e6 : V 6 = .int .i64 k := hs 6 (by simp)
            rw [if_pos (by rfl)]
            exact Rs.GrowL.value (v := .int .i64 ((k : Int) + 1)) (w' := w') (by simp [go_sem, Rs.look, e6, hsum]) (Rs.Gr.refl _) rfl
          · have e5 : V 5 = .slice (some ⟨gp, og, none⟩) P.length c := hs 5 (by simp)
            have e6 : V 6 = .int .i64 k := hs 6 (by simp)
            have e7 : V 7 = .int .i64 ((k : Int) + 1) := hs 7 (by simp)
            rw [if_pos (by rfl)]
            exact Rs.GrowL.value (v := .pointer (some ⟨gp, og + (k + 1), none⟩)) (w' := w') (by simp [go_sem, Rs.look, e5, e6, e7, hbn, hbn2, hbn3]) (Rs.Gr.refl _) rfl
          · have e5 : V 5 = .slice (some ⟨gp, og, none⟩) P.length c := hs 5 (by simp)
            have e6 : V 6 = .int .i64 k := hs 6 (by simp)
            have e7 : V 7 = .int .i64 ((k : Int) + 1) := hs 7 (by simp)
            have e8 : V 8 = .pointer (some ⟨gp, og + (k + 1), none⟩) := hs 8 (by simp)
            rw [if_pos (by rfl)]
            exact Rs.GrowL.value (v := .int .i64 b) (w' := w') (by simp [go_sem, Rs.look, e5, e6, e7, e8, hcb]) (Rs.Gr.refl _) rfl
          · have e0 : V 0 = (.agg #[.slice (some ⟨bw, ow, none⟩) t.words.length cw, .slice pt t.turns.length ct, .int .i64 t.breath]) := hs 0 (by simp)
            have e1 : V 1 = .slice (some ⟨gp, og, none⟩) P.length c := hs 1 (by simp)
            have e2 : V 2 = .int .i64 k := hs 2 (by simp)
            have e3 : V 3 = .pointer (some ⟨gp, og + k, none⟩) := hs 3 (by simp)
            have e4 : V 4 = .int .i64 a := hs 4 (by simp)
            have e5 : V 5 = .slice (some ⟨gp, og, none⟩) P.length c := hs 5 (by simp)
            have e6 : V 6 = .int .i64 k := hs 6 (by simp)
            have e7 : V 7 = .int .i64 ((k : Int) + 1) := hs 7 (by simp)
            have e8 : V 8 = .pointer (some ⟨gp, og + (k + 1), none⟩) := hs 8 (by simp)
            have e9 : V 9 = .int .i64 b := hs 9 (by simp)
            rw [if_pos (by rfl)]
            refine Rs.GrowL.call (f := 58) (args := #[(.agg #[.slice (some ⟨bw, ow, none⟩) t.words.length cw, .slice pt t.turns.length ct, .int .i64 t.breath]), .int .i64 a, .int .i64 b]) (by simp [go_sem, Rs.look, e0, e4, e9]) ?_
            refine (fits_any t HOK.out _ pt cw ct a b hab hbL HCW.out w' (HTX.out.below hG)).mono ?_
            rintro e w2 ⟨rfl, hB2⟩
            exact ⟨_, rfl, hB2, rfl⟩
          · have e0 : V 0 = (.agg #[.slice (some ⟨bw, ow, none⟩) t.words.length cw, .slice pt t.turns.length ct, .int .i64 t.breath]) := hs 0 (by simp)
            have e1 : V 1 = .slice (some ⟨gp, og, none⟩) P.length c := hs 1 (by simp)
            have e2 : V 2 = .int .i64 k := hs 2 (by simp)
            have e3 : V 3 = .pointer (some ⟨gp, og + k, none⟩) := hs 3 (by simp)
            have e4 : V 4 = .int .i64 a := hs 4 (by simp)
            have e5 : V 5 = .slice (some ⟨gp, og, none⟩) P.length c := hs 5 (by simp)
            have e6 : V 6 = .int .i64 k := hs 6 (by simp)
            have e7 : V 7 = .int .i64 ((k : Int) + 1) := hs 7 (by simp)
            have e8 : V 8 = .pointer (some ⟨gp, og + (k + 1), none⟩) := hs 8 (by simp)
            have e9 : V 9 = .int .i64 b := hs 9 (by simp)
            have e10 : V 10 = .bool (t.right a b) := hs 10 (by simp)
            rw [if_pos (by rfl)]
            exact Rs.GrowL.value (v := .bool (!(t.right a b))) (w' := w') (by simp [go_sem, Rs.look, e0, e1, e2, e3, e4, e5, e6, e7, e8, e9, e10]) (Rs.Gr.refl _) rfl
        · intro V w' hG hs
          have e0 : V 0 = (.agg #[.slice (some ⟨bw, ow, none⟩) t.words.length cw, .slice pt t.turns.length ct, .int .i64 t.breath]) := hs 0 (by omega)
          have e1 : V 1 = .slice (some ⟨gp, og, none⟩) P.length c := hs 1 (by omega)
          have e2 : V 2 = .int .i64 k := hs 2 (by omega)
          have e3 : V 3 = .pointer (some ⟨gp, og + k, none⟩) := hs 3 (by omega)
          have e4 : V 4 = .int .i64 a := hs 4 (by omega)
          have e5 : V 5 = .slice (some ⟨gp, og, none⟩) P.length c := hs 5 (by omega)
          have e6 : V 6 = .int .i64 k := hs 6 (by omega)
          have e7 : V 7 = .int .i64 ((k : Int) + 1) := hs 7 (by omega)
          have e8 : V 8 = .pointer (some ⟨gp, og + (k + 1), none⟩) := hs 8 (by omega)
          have e9 : V 9 = .int .i64 b := hs 9 (by omega)
          have e10 : V 10 = .bool (t.right a b) := hs 10 (by omega)
          have e11 : V 11 = .bool (!(t.right a b)) := hs 11 (by omega)
          simp only [Rs.canon, Rs.dstOf, List.range_succ, List.range_zero, List.nil_append, List.cons_append, List.foldl_cons, List.foldl_nil, List.drop_succ_cons, List.drop_zero, List.drop_nil, List.getElem?_toArray, List.getElem?_cons_succ, List.getElem?_cons_zero, Option.bind_some, Act.put, List.getD_cons_succ, List.getD_cons_zero, List.setIfInBounds_toArray, List.set_cons_succ, List.set_cons_zero]
          rw [e0, e1, e2, e3, e4, e5, e6, e7, e8, e9, e10, e11]
          clear e0 e1 e2 e3 e4 e5 e6 e7 e8 e9 e10 e11 hs
          have HG := Lib.hid hG
          clear hG
          cases hr : t.right a b with
          | true =>
            have HR1 := Lib.hid hr
            have HOK2 := Lib.hid (fun h : partsB (t.words.length : Int) l = true => (show okFrom t.right 0 (l.take (k + 1)) = true by rw [HS1.out, HOKF.out h, hr]; rfl))
            clear hr
            go_wp2
            go_roundw
            case rel => exact ⟨k + 1, by omega, by go_num, HOK2, Lib.hid (join HB3.out HG.out)⟩
            case measure => simp [intOf]; omega
          | false =>
            have HSB := Lib.hid (show soundB t l = false by unfold soundB; rw [HS2.out hr, Bool.and_false])
            clear hr
            go_wp2
            go_ret
            exact ⟨ret_bool (by first | rw [HSB.out] | (rw [HSB.out]; rfl)), join HB3w.out HG.out⟩
      · obtain rfl : k = P.length - 1 := by omega
        rcases HCS.out with ⟨h, hf⟩ | ⟨h, hpB, hPt, hl1⟩
        · have HSB := Lib.hid (show soundB t l = false by unfold soundB; rw [hf]; rfl)
          subst h
          clear hf
          go_wp2
          go_ret
          exact ⟨ret_bool (by first | rw [HSB.out] | (rw [HSB.out]; rfl)), HB3w.out⟩
        · have hPl : P.length = l.length + 1 := by rw [h, placesL_len]
          have HSB := Lib.hid (show soundB t l = true by
            have := HOKF.out hpB
            rw [hPl, Nat.add_sub_cancel, List.take_length] at this
            unfold soundB; rw [hpB, this]; rfl)
          have hP1 : (P.length : Int) > 1 := by omega
          clear h hpB hPt hl1 hPl
          go_wp2
          go_ret
          exact ⟨ret_bool (by first | rw [HSB.out] | (rw [HSB.out]; rfl)), HB3w.out⟩
end Go.Proofs.Ytadnggecnjdhiaa
set_option linter.unusedSimpArgs false
set_option linter.unusedVariables false
namespace Go.Proofs.Ytadnggecnjdhiaa
open Go.RowKit Tx

/-- a run from one place to another says a turn otherwise -/
def runB (ts : List Turn) (P : List Int) (i j : Nat) : Bool := saysB ts (P.getD i 0) (P.getD (j + 1) 0)
def sureP (ts : List Turn) (P : List Int) : Bool := !(runs (P.length - 1)).any (fun q => runB ts P q.1 q.2) && decide (1 < P.length)
theorem runs_any {p : Nat → Nat → Bool} {m a b : Nat} (hab : a ≤ b) (hb : b < m) (h : p a b = true) : (runs m).any (fun q => p q.1 q.2) = true := by
  refine List.any_eq_true.2 ⟨(a, b), ?_, h⟩
  unfold runs
  exact List.mem_flatMap.2 ⟨a, List.mem_range.2 (by omega), List.mem_map.2 ⟨b, List.mem_range'_1.2 ⟨hab, by omega⟩, rfl⟩⟩
theorem runs_nany {p : Nat → Nat → Bool} {m : Nat} (h1 : ∀ a' b', a' < m → a' ≤ b' → b' < m → p a' b' = false) : (runs m).any (fun q => p q.1 q.2) = false := by
  rw [Bool.eq_false_iff]
  intro h
  obtain ⟨q, hq, hp⟩ := List.any_eq_true.1 h
  unfold runs at hq
  obtain ⟨x, hx, hq⟩ := List.mem_flatMap.1 hq
  obtain ⟨y, hy, rfl⟩ := List.mem_map.1 hq
  rw [List.mem_range'_1] at hy
  have := List.mem_range.1 hx
  have h2 := h1 x y this hy.1 (by omega)
  dsimp only at hp
  rw [h2] at hp; cases hp
set_option maxHeartbeats 4000000 in
set_option maxRecDepth 100000 in
theorem sure_any (t : Text) (ok : Text.Ok t) (pw pt : Option Addr) (cw ct : Nat) (l : List Int) (hll : l.length ≤ 100000) (pl : Option Addr) (cl : Nat) (w : World) (hW : TxAt w t pw pt) (hL : Ints w pl l) :
    Calls Try.prog 59 #[.agg #[.slice pw t.words.length cw, .slice pt t.turns.length ct, .int .i64 t.breath], .slice pl l.length cl] w fun e w' => e = .returned (.bool (sureP t.turns (plcL t.words.length l))) ∧ Below w.heap.size w w' := by
  have hn := ok.n12
  have hne := ok.n1
  have hm : t.turns.length ≤ 1000000 := by have := ok.m6; omega
  have HT := Lib.hid hW.turns
  have HPC := Lib.hid (fun W (h : Below w.heap.size w W) => places_any t.words.length (by omega) pw cw (.slice pt t.turns.length ct) (.int .i64 t.breath) l pl cl W (hL.below h) hll)
  have hpl : (plcL (t.words.length : Int) l).length ≤ 100001 := by
    rcases plcL_cases t.words.length hne l with ⟨h, _⟩ | ⟨h, _⟩
    · rw [h]; simp
    · rw [h, placesL_len]; omega
  generalize plcL (t.words.length : Int) l = P at HPC hpl ⊢
  have hbx := heap_last w (.cells #[.slice pw t.words.length cw, .slice pt t.turns.length ct, .int .i64 t.breath] 25)
  have hb1 := below1 w (.cells #[.slice pw t.words.length cw, .slice pt t.turns.length ct, .int .i64 t.breath] 25)
  have hz1 : (w.alloc (.cells #[.slice pw t.words.length cw, .slice pt t.turns.length ct, .int .i64 t.breath] 25)).heap.size = w.heap.size + 1 := by simp
  have HBX := Lib.hid hbx
  have HB1 := Lib.hid hb1
  have HZ1 := Lib.hid hz1
  clear hW hL ok hbx hb1 hz1
  go_enter Try.func59, Try.ntmps59
  go_wp2_with fail
  refine (HPC.out _ HB1.out).mono ?_
  generalize w.alloc (.cells #[.slice pw t.words.length cw, .slice pt t.turns.length ct, .int .i64 t.breath] 25) = W1 at HBX HB1 HZ1 ⊢
  rintro e W2 ⟨v, rfl, hown, hB2⟩
  have HBX2 := Lib.hid ((hB2.block w.heap.size (by have := HZ1.out; omega)).trans HBX.out)
  have HB2 := Lib.hid (join HB1.out hB2)
  have hz2 : w.heap.size + 1 ≤ W2.heap.size := by have := hB2.size; have := HZ1.out; omega
  obtain ⟨p, c, rfl, hints, -, hcm, hcl⟩ := own_rd hown rfl
  have hcm2 := hcm
  unfold maxLen at hcm2
  clear HPC HBX HB1 HZ1 hB2 hown
  go_wp2_with fail
  go_loopw [6, 7, 15] (fun u6 u7 i wr => ∃ k : Nat, k ≤ P.length ∧ i = .int .i64 k ∧ Hid (∀ a' b', a' < k → a' ≤ b' → b' < P.length - 1 → runB t.turns P a' b' = false) ∧ Hid (Below W2.heap.size W2 wr)) (fun _ _ i _ => P.length - (intOf i).toNat)
  case atStart => exact ⟨0, Nat.zero_le _, rfl, Lib.hid (fun _ _ h => absurd h (Nat.not_lt_zero _)), Lib.hid (Below.refl _ _)⟩
  case round =>
    obtain ⟨w3, rfl⟩ : ∃ w3 : World, w3 = wr := ⟨_, rfl⟩
    obtain ⟨k, hk, rfl, HA, HB3⟩ := hrel
    have HB3w := Lib.hid (join HB2.out HB3.out)
    by_cases hlt : k < P.length
    · have hlt' : (k : Int) < P.length := by omega
      rcases hints with h0 | ⟨gp, og, rfl, hgp, hcP⟩
      · rw [h0] at hlt; simp at hlt
      have HCP := Lib.hid hcP
      have hca := (HB3.out.cell (p := ⟨gp, og + k, none⟩) hgp).trans (hcP k hlt)
      obtain ⟨pa, hpa⟩ : ∃ pa, pa = P.getD k 0 := ⟨_, rfl⟩
      rw [← hpa] at hca
      have HPA := Lib.hid hpa
      have hsum : IntKind.i64.wrap ((k : Int) + 1) = ((k + 1 : Nat) : Int) := IntWalk.i64_in _ (by omega)
      clear hcP hpa
      go_wp2
      all_goals
        go_loopw [9, 25] (fun u9 j wr => ∃ m : Nat, k + 1 + m ≤ P.length ∧ j = .int .i64 m ∧ Hid (∀ b', k ≤ b' → b' < k + m → runB t.turns P k b' = false) ∧ Hid (Below W2.heap.size W2 wr)) (fun _ j _ => P.length - (intOf j).toNat)
        case atStart => exact ⟨0, by omega, rfl, Lib.hid (fun b' h1 h2 => by omega), HB3⟩
        case round =>
          obtain ⟨w4, rfl⟩ : ∃ w4 : World, w4 = wr := ⟨_, rfl⟩
          obtain ⟨m, hm2, rfl, HR, HB4⟩ := hrel
          have HB4w := Lib.hid (join HB2.out HB4.out)
          by_cases hml : k + 1 + m < P.length
          · have hml' : (m : Int) < ((P.length - (k + 1) : Nat) : Int) := by omega
            have hcb := (HB4.out.cell (p := ⟨gp, og + (k + 1 + m), none⟩) hgp).trans (HCP.out (k + 1 + m) hml)
            obtain ⟨pb, hpb⟩ : ∃ pb, pb = P.getD (k + m + 1) 0 := ⟨_, rfl⟩
            rw [show k + 1 + m = k + m + 1 by omega, ← hpb, show og + (k + m + 1) = og + (k + 1) + m by omega] at hcb
            have hUb := (HB4.out.block w.heap.size (by omega)).trans HBX2.out
            obtain ⟨f0, f1, f2⟩ := blk3 hUb
            have HSA := Lib.hid (saysB_any t.turns hm pa pb pt ct (.slice pw t.words.length cw) (.int .i64 t.breath) w4 (HT.out.below HB4w.out))
            have HRB := Lib.hid (show runB t.turns P k (k + m) = saysB t.turns pa pb by unfold runB; rw [hpb, ← HPA.out])
            clear hpb hUb
            go_wp2_with fail
            all_goals
              refine HSA.out.mono ?_
              rintro e w5 ⟨rfl, hB5⟩
              have HB5 := Lib.hid hB5
              clear hB5 HSA
              cases hr : saysB t.turns pa pb with
              | true =>
                have HF := Lib.hid (show sureP t.turns P = false by
                  unfold sureP
                  rw [runs_any (p := runB t.turns P) (a := k) (b := k + m) (m := P.length - 1) (by omega) (by omega) (by rw [HRB.out]; exact hr)]
                  rfl)
                clear hr
                go_wp2
                go_ret
                exact ⟨ret_bool (by rw [HF.out]), join HB4w.out HB5.out⟩
              | false =>
                have HRF := Lib.hid hr
                clear hr
                go_wp2
                go_roundw
                case rel =>
                  refine ⟨m + 1, by omega, by go_num, Lib.hid (fun b' h1 h2 => ?_), Lib.hid (join HB4.out HB5.out)⟩
                  by_cases hb' : b' = k + m
                  · subst hb'; rw [HRB.out, HRF.out]
                  · exact HR.out b' h1 (by omega)
                case measure => simp [intOf]; omega
          · have hml2 : ¬ ((m : Int) < ((P.length - (k + 1) : Nat) : Int)) := by omega
            go_wp2
            go_roundw
            case rel =>
              have hr1 : ∀ a' b', a' < k + 1 → a' ≤ b' → b' < P.length - 1 → runB t.turns P a' b' = false := fun a' b' h1 h2 h3 => by
                by_cases ha' : a' = k
                · subst ha'; exact HR.out b' h2 (by omega)
                · exact HA.out a' b' (by omega) h2 h3
              first
                | exact ⟨k + 1, by omega, by go_num, Lib.hid hr1, HB4⟩
                | exact ⟨_, _, _, _, _, ⟨k + 1, by omega, by go_num, Lib.hid hr1⟩, rfl, rfl, rfl, rfl, rfl⟩
            case measure => simp [intOf]; omega
    · obtain rfl : k = P.length := by omega
      have HF := Lib.hid (show sureP t.turns P = decide (1 < P.length) by
        unfold sureP
        rw [runs_nany (p := runB t.turns P) (m := P.length - 1) (fun a' b' h1 h2 h3 => HA.out a' b' (by omega) h2 h3)]
        rfl)
      by_cases h1 : 1 < P.length
      · have h1' : (P.length : Int) > 1 := by omega
        have HF2 := Lib.hid (show sureP t.turns P = true by rw [HF.out]; exact decide_eq_true h1)
        clear h1
        go_wp2
        go_ret
        exact ⟨ret_bool (by rw [HF2.out]), HB3w.out⟩
      · have h1' : ¬ (P.length : Int) > 1 := by omega
        have HF2 := Lib.hid (show sureP t.turns P = false by rw [HF.out]; exact decide_eq_false h1)
        clear h1
        go_wp2
        go_ret
        exact ⟨ret_bool (by rw [HF2.out]), HB3w.out⟩
end Go.Proofs.Ytadnggecnjdhiaa
set_option linter.unusedSimpArgs false
set_option linter.unusedVariables false
namespace Go.Proofs.Ytadnggecnjdhiaa
open Go.RowKit Tx

def TurnOk (L : Int) (u : Turn) : Prop := 0 ≤ u.word ∧ u.word < L ∧ 0 ≤ u.lo ∧ u.lo ≤ u.hi ∧ u.hi < L ∧ (u.word < u.lo ∨ u.hi < u.word)
/-- the places inside a reading -/
def innerP (P : List Int) : List Int := (P.take (P.length - 1)).drop 1
def apartIn (P : List Int) (u : Turn) : Bool := (innerP P).any fun p => u.parts p
theorem says_iff (u : Turn) (a b : Int) : u.says a b = true ↔ a ≤ u.lo ∧ u.hi ≤ b ∧ ¬ (a ≤ u.word ∧ u.word ≤ b) := by
  unfold Turn.says btw
  simp
  omega
theorem parts_iff (u : Turn) (p : Int) : u.parts p = true ↔ (u.word < p ∧ p ≤ u.lo) ∨ (u.hi < p ∧ p ≤ u.word) := by
  unfold Turn.parts
  simp
theorem mem_inner (l : List Int) (x : Int) : x ∈ innerP (placesL l) ↔ ∃ j, 1 ≤ j ∧ j < l.length ∧ x = isum (l.take j) := by
  unfold innerP
  rw [placesL_len, Nat.add_sub_cancel]
  constructor
  · intro h
    obtain ⟨i, hi, he⟩ := List.mem_iff_getElem.1 h
    have hi2 : i + 1 < l.length := by simp [placesL_len] at hi; omega
    refine ⟨i + 1, by omega, hi2, ?_⟩
    rw [← he, List.getElem_drop, List.getElem_take, ← placesL_get l (i + 1) (by omega)]
    have hl : i + 1 < (placesL l).length := by rw [placesL_len]; omega
    simp only [Nat.add_comm 1 i]
    simp [hl]
  · rintro ⟨j, h1, h2, rfl⟩
    rw [← placesL_get l j (by omega)]
    refine List.mem_iff_getElem.2 ⟨j - 1, by simp [placesL_len]; omega, ?_⟩
    rw [List.getElem_drop, List.getElem_take]
    have e : 1 + (j - 1) = j := by omega
    have hl : j < (placesL l).length := by rw [placesL_len]; omega
    simp only [e]
    simp [hl]
theorem isum_take_mono {L : Int} {l : List Int} (h : Parts L l) {i j : Nat} (hij : i ≤ j) : isum (l.take i) ≤ isum (l.take j) := by
  have e : l.take i = (l.take j).take i := by rw [List.take_take, Nat.min_eq_left hij]
  have h1 : isum ((l.take j).take i) + isum ((l.take j).drop i) = isum (l.take j) := by rw [← isum_append, List.take_append_drop]
  have h2 := isum_ge (l := (l.take j).drop i) (fun x hx => h.1 x (List.mem_of_mem_take (List.mem_of_mem_drop hx)))
  rw [e]; omega
theorem runSays_places {l : List Int} {a b : Nat} (hb : b < l.length) (hab : a ≤ b) (u : Turn) : runSays (placesL l) u a b = u.says (isum (l.take a)) (isum (l.take (b + 1)) - 1) := by
  unfold runSays
  rw [placesL_get l a (by omega), placesL_get l (b + 1) (by omega)]
theorem mem_runs {m : Nat} {q : Nat × Nat} : q ∈ runs m ↔ q.1 ≤ q.2 ∧ q.2 < m := by
  unfold runs
  constructor
  · intro h
    obtain ⟨x, hx, hq⟩ := List.mem_flatMap.1 h
    obtain ⟨y, hy, rfl⟩ := List.mem_map.1 hq
    rw [List.mem_range'_1] at hy
    have := List.mem_range.1 hx
    exact ⟨hy.1, by show y < m; omega⟩
  · rintro ⟨h1, h2⟩
    exact List.mem_flatMap.2 ⟨q.1, List.mem_range.2 (by omega), List.mem_map.2 ⟨q.2, List.mem_range'_1.2 ⟨h1, by omega⟩, rfl⟩⟩
theorem runs_apart {L : Int} {l : List Int} (h : Parts L l) {u : Turn} (hu : TurnOk L u) : (runs l.length).any (fun q => runSays (placesL l) u q.1 q.2) = apartIn (placesL l) u := by
  obtain ⟨u0, u1, u2, u3, u4, u5⟩ := hu
  have hL : isum (l.take l.length) = L := by rw [List.take_length]; exact h.2
  have h0 : isum (l.take 0) = 0 := by simp [isum]
  rw [Bool.eq_iff_iff]
  unfold apartIn
  rw [List.any_eq_true, List.any_eq_true]
  constructor
  · rintro ⟨q, hq, hs⟩
    obtain ⟨q1, q2⟩ := mem_runs.1 hq
    rw [runSays_places q2 q1, says_iff] at hs
    obtain ⟨s1, s2, s3⟩ := hs
    by_cases hw : u.word < isum (l.take q.1)
    · refine ⟨_, (mem_inner l _).2 ⟨q.1, ?_, by omega, rfl⟩, (parts_iff _ _).2 (.inl ⟨hw, s1⟩)⟩
      by_cases hz : q.1 = 0
      · rw [hz, h0] at hw; omega
      · omega
    · refine ⟨_, (mem_inner l _).2 ⟨q.2 + 1, by omega, ?_, rfl⟩, (parts_iff _ _).2 (.inr ⟨by omega, by omega⟩)⟩
      by_cases hz : q.2 + 1 = l.length
      · rw [hz, hL] at s3; omega
      · omega
  · rintro ⟨x, hx, hp⟩
    obtain ⟨j, j1, j2, rfl⟩ := (mem_inner l _).1 hx
    rcases (parts_iff _ _).1 hp with ⟨p1, p2⟩ | ⟨p1, p2⟩
    · refine ⟨(j, l.length - 1), mem_runs.2 ⟨by show j ≤ l.length - 1; omega, by show l.length - 1 < l.length; omega⟩, ?_⟩
      show runSays (placesL l) u j (l.length - 1) = true
      rw [runSays_places (by omega) (by omega), says_iff, show l.length - 1 + 1 = l.length by omega, hL]
      exact ⟨p2, by omega, by omega⟩
    · refine ⟨(0, j - 1), mem_runs.2 ⟨Nat.zero_le _, by show j - 1 < l.length; omega⟩, ?_⟩
      show runSays (placesL l) u 0 (j - 1) = true
      rw [runSays_places (by omega) (Nat.zero_le _), says_iff, show j - 1 + 1 = j by omega, h0]
      exact ⟨by omega, by omega, by omega⟩
/-- a right reading is sure just if it breaks nowhere between -/
theorem sureP_apart {L : Nat} {l : List Int} (h : Parts L l) (hl : 1 ≤ l.length) {ts : List Turn} (hu : ∀ u ∈ ts, TurnOk L u) : sureP ts (placesL l) = !(ts.any (apartIn (placesL l))) := by
  unfold sureP
  rw [placesL_len, Nat.add_sub_cancel, decide_eq_true (show 1 < l.length + 1 by omega), Bool.and_true]
  congr 1
  rw [Bool.eq_iff_iff, List.any_eq_true, List.any_eq_true]
  have hsaid : ∀ (u : Turn) (a b : Nat), saidIn ((placesL l).getD a 0) ((placesL l).getD (b + 1) 0) u = runSays (placesL l) u a b := fun u a b => by
    unfold saidIn runSays Turn.says btw
    rw [Bool.eq_iff_iff]; simp; omega
  constructor
  · rintro ⟨q, hq, hs⟩
    unfold runB saysB at hs
    obtain ⟨u, hu1, hu2⟩ := List.any_eq_true.1 hs
    rw [hsaid] at hu2
    exact ⟨u, hu1, by rw [← runs_apart h (hu u hu1)]; exact List.any_eq_true.2 ⟨q, hq, hu2⟩⟩
  · rintro ⟨u, hu1, hu2⟩
    rw [← runs_apart h (hu u hu1)] at hu2
    obtain ⟨q, hq, hs⟩ := List.any_eq_true.1 hu2
    exact ⟨q, hq, by unfold runB saysB; exact List.any_eq_true.2 ⟨u, hu1, by rw [hsaid]; exact hs⟩⟩
/-- which turn is told, and its run -/
theorem astrayGo_spec (P : List Int) : ∀ (ts : List Turn) (i : Nat), (astrayGo P i ts = (0, 0, 0, 6) ∧ ∀ u ∈ ts, (runs (P.length - 1)).any (fun q => runSays P u q.1 q.2) = false) ∨
    (∃ k a b : Nat, k < ts.length ∧ astrayGo P i ts = (((i + k : Nat) : Int), (a : Int), (b : Int), 0) ∧ (∀ j, j < k → (runs (P.length - 1)).any (fun q => runSays P (ts.getD j default) q.1 q.2) = false) ∧ a ≤ b ∧ b < P.length - 1 ∧ runSays P (ts.getD k default) a b = true)
  | [], i => .inl ⟨rfl, fun u hu => by cases hu⟩
  | u :: ts, i => by
    cases hf : (runs (P.length - 1)).find? (fun q => runSays P u q.1 q.2) with
    | some q =>
      have hq := List.mem_of_find?_eq_some hf
      have hs := List.find?_some hf
      obtain ⟨q1, q2⟩ := mem_runs.1 hq
      refine .inr ⟨0, q.1, q.2, by simp, ?_, fun j hj => absurd hj (Nat.not_lt_zero _), q1, q2, hs⟩
      unfold astrayGo; rw [hf]; rfl
    | none =>
      have hn : (runs (P.length - 1)).any (fun q => runSays P u q.1 q.2) = false := by
        rw [Bool.eq_false_iff]; intro h
        obtain ⟨q, hq, hs⟩ := List.any_eq_true.1 h
        exact List.find?_eq_none.1 hf q hq hs
      have he : astrayGo P i (u :: ts) = astrayGo P (i + 1) ts := by rw [astrayGo, hf]
      rw [he]
      rcases astrayGo_spec P ts (i + 1) with ⟨h1, h2⟩ | ⟨k, a, b, h1, h2, h3, h4⟩
      · exact .inl ⟨h1, fun v hv => by rcases List.mem_cons.1 hv with rfl | hv; exact hn; exact h2 v hv⟩
      · refine .inr ⟨k + 1, a, b, by simp; omega, by rw [h2]; congr 2; omega, fun j hj => ?_, by simpa using h4⟩
        cases j with
        | zero => simpa using hn
        | succ j => simpa using h3 j (by omega)
end Go.Proofs.Ytadnggecnjdhiaa
namespace Go.Proofs.Ytadnggecnjdhiaa
open Tx
set_option linter.unusedSimpArgs false
set_option linter.unusedVariables false

theorem even_odd (n : Nat) : ∃ k, n = 2 * k ∨ n = 2 * k + 1 := ⟨n / 2, by omega⟩
/-- strictly increasing, from lo up to less than hi -/
def Incr : Int → Int → List Int → Prop
  | _, _, [] => True
  | lo, hi, x :: l => lo ≤ x ∧ x < hi ∧ Incr (x + 1) hi l
theorem Incr.low {lo lo' hi : Int} (h : lo' ≤ lo) : ∀ {l : List Int}, Incr lo hi l → Incr lo' hi l
  | [], _ => trivial
  | _ :: _, ⟨h1, h2, h3⟩ => ⟨by omega, h2, h3⟩
theorem Incr.bd {hi : Int} : ∀ {lo : Int} {l : List Int}, Incr lo hi l → ∀ x ∈ l, lo ≤ x ∧ x < hi
  | _, [], _, x, hx => by simp at hx
  | lo, y :: l, ⟨h1, h2, h3⟩, x, hx => by
    rcases List.mem_cons.1 hx with rfl | hx
    · exact ⟨h1, h2⟩
    · have := Incr.bd h3 x hx; omega
theorem Incr.len {hi : Int} : ∀ {lo : Int} {l : List Int}, Incr lo hi l → (l.length : Int) ≤ hi - lo ∨ l = []
  | _, [], _ => .inr rfl
  | lo, y :: l, ⟨h1, h2, h3⟩ => by
    left
    rcases Incr.len h3 with h | rfl
    · simp only [List.length_cons]; omega
    · simp; omega
/-- the words that a number says, from the word w on -/
def bits (w n : Nat) : List Int := if h : n = 0 then [] else (if n % 2 = 1 then [(w : Int)] else []) ++ bits (w + 1) (n / 2)
termination_by n
decreasing_by omega
theorem bits_zero (w : Nat) : bits w 0 = [] := by rw [bits]; simp
theorem bits_step (w n : Nat) (h : n ≠ 0) : bits w n = (if n % 2 = 1 then [(w : Int)] else []) ++ bits (w + 1) (n / 2) := by rw [bits]; simp [h]
theorem bits_odd (w n : Nat) : bits w (2 * n + 1) = (w : Int) :: bits (w + 1) n := by
  rw [bits_step _ _ (by omega), if_pos (by omega), show (2 * n + 1) / 2 = n by omega]; rfl
theorem bits_even (w n : Nat) : bits w (2 * n) = bits (w + 1) n := by
  rcases Nat.eq_zero_or_pos n with rfl | h
  · rw [Nat.mul_zero, bits_zero, bits_zero]
  · rw [bits_step _ _ (by omega), if_neg (by omega), show (2 * n) / 2 = n by omega]; rfl
theorem bits_incr : ∀ (N w n : Nat), n < 2 ^ N → Incr w (w + N : Nat) (bits w n)
  | 0, w, n, h => by
    have : n = 0 := by simp at h; exact h
    subst this; rw [bits_zero]; trivial
  | N + 1, w, n, h => by
    rw [Nat.pow_succ] at h
    have ih := bits_incr N (w + 1) (n / 2) (by omega)
    rw [show w + 1 + N = w + (N + 1) by omega] at ih
    rcases even_odd n with ⟨k, rfl | rfl⟩
    · rw [bits_even]; rw [show 2 * k / 2 = k by omega] at ih
      exact ih.low (by omega)
    · rw [bits_odd]; rw [show (2 * k + 1) / 2 = k by omega] at ih
      exact ⟨by omega, by push_cast; omega, by rwa [show ((w : Int) + 1) = ((w + 1 : Nat) : Int) by omega]⟩
theorem bits_all : ∀ (N w : Nat) (l : List Int), Incr w (w + N : Nat) l → ∃ n, n < 2 ^ N ∧ bits w n = l
  | 0, w, l, h => by
    cases l with
    | nil => exact ⟨0, by simp, bits_zero _⟩
    | cons x l => obtain ⟨h1, h2, _⟩ := h; simp at h2; omega
  | N + 1, w, l, h => by
    rw [show w + (N + 1) = w + 1 + N by omega] at h
    cases l with
    | nil => exact ⟨0, by rw [Nat.pow_succ]; have := Nat.two_pow_pos N; omega, bits_zero _⟩
    | cons x l =>
      obtain ⟨h1, h2, h3⟩ := h
      by_cases hx : x = (w : Int)
      · subst hx
        obtain ⟨n, hn, e⟩ := bits_all N (w + 1) l (by rwa [show ((w + 1 : Nat) : Int) = (w : Int) + 1 by omega])
        exact ⟨2 * n + 1, by rw [Nat.pow_succ]; omega, by rw [bits_odd, e]⟩
      · obtain ⟨n, hn, e⟩ := bits_all N (w + 1) (x :: l) ⟨by omega, h2, h3⟩
        exact ⟨2 * n, by rw [Nat.pow_succ]; omega, by rw [bits_even, e]⟩
theorem bits_ne {w n : Nat} (h : n ≠ 0) : bits w n ≠ [] := by
  induction n using Nat.strongRecOn generalizing w with
  | _ n ih =>
    rcases even_odd n with ⟨k, rfl | rfl⟩
    · rw [bits_even]; exact ih k (by omega) (by omega)
    · rw [bits_odd]; simp
theorem lists_mem (N : Nat) : ∀ (k a : Nat) (l : List Int), l ∈ Tx.lists N k a ↔ l.length = k ∧ Incr a N l
  | 0, a, l => by
    simp only [Tx.lists, List.mem_singleton]
    constructor
    · rintro rfl; exact ⟨rfl, trivial⟩
    · rintro ⟨h, _⟩; exact List.length_eq_zero_iff.1 h
  | k + 1, a, l => by
    simp only [Tx.lists, List.mem_flatMap, List.mem_range'_1, List.mem_map]
    constructor
    · rintro ⟨x, hx, m, hm, rfl⟩
      obtain ⟨h1, h2⟩ := (lists_mem N k (x + 1) m).1 hm
      exact ⟨by simp [h1], by omega, by omega, by rwa [show ((x : Int) + 1) = ((x + 1 : Nat) : Int) by omega]⟩
    · rintro ⟨hl, h⟩
      cases l with
      | nil => simp at hl
      | cons y m =>
        obtain ⟨h1, h2, h3⟩ := h
        refine ⟨y.toNat, by omega, m, (lists_mem N k (y.toNat + 1) m).2 ⟨by simpa using hl, ?_⟩, ?_⟩
        · rwa [show ((y.toNat + 1 : Nat) : Int) = y + 1 by omega]
        · rw [show ((y.toNat : Nat) : Int) = y by omega]
/-- a list comes before another one of as many numbers -/
def lexB : List Int → List Int → Bool
  | x :: a, y :: b => if x ≠ y then decide (x < y) else lexB a b
  | _, _ => false
theorem lexB_irr : ∀ a : List Int, lexB a a = false
  | [] => rfl
  | x :: a => by rw [lexB, if_neg (by simp)]; exact lexB_irr a
theorem lexB_trans : ∀ {a b c : List Int}, a.length = b.length → b.length = c.length → lexB a b = true → lexB b c = true → lexB a c = true
  | [], b, c, _, _, h, _ => by simp [lexB] at h
  | x :: a, [], c, _, _, h, _ => by simp [lexB] at h
  | x :: a, y :: b, [], _, _, _, h => by simp [lexB] at h
  | x :: a, y :: b, z :: c, e1, e2, h1, h2 => by
    rw [lexB] at h1 h2 ⊢
    by_cases hxy : x = y
    · subst hxy
      rw [if_neg (by simp)] at h1
      by_cases hyz : x = z
      · subst hyz
        rw [if_neg (by simp)] at h2 ⊢
        exact lexB_trans (by simpa using e1) (by simpa using e2) h1 h2
      · rw [if_pos hyz] at h2 ⊢; exact h2
    · rw [if_pos hxy] at h1
      have h1' := of_decide_eq_true h1
      by_cases hyz : y = z
      · subst hyz; rw [if_pos hxy]; exact h1
      · rw [if_pos hyz] at h2
        have h2' := of_decide_eq_true h2
        rw [if_pos (by omega)]; exact decide_eq_true (by omega)
theorem lexB_total : ∀ {a b : List Int}, a.length = b.length → a = b ∨ lexB a b = true ∨ lexB b a = true
  | [], [], _ => .inl rfl
  | [], _ :: _, h => by simp at h
  | _ :: _, [], h => by simp at h
  | x :: a, y :: b, h => by
    by_cases hxy : x = y
    · subst hxy
      rcases lexB_total (a := a) (b := b) (by simpa using h) with rfl | h | h
      · exact .inl rfl
      · right; left; rw [lexB, if_neg (by simp)]; exact h
      · right; right; rw [lexB, if_neg (by simp)]; exact h
    · right
      rw [lexB, lexB, if_pos hxy, if_pos (Ne.symm hxy)]
      simp only [decide_eq_true_eq]; omega
theorem lists_sorted (N : Nat) : ∀ (k a : Nat), (Tx.lists N k a).Pairwise fun l m => lexB l m = true
  | 0, a => by simp [Tx.lists]
  | k + 1, a => by
    simp only [Tx.lists]
    rw [List.pairwise_flatMap]
    refine ⟨fun x hx => ?_, ?_⟩
    · rw [List.pairwise_map]
      refine (lists_sorted N k (x + 1)).imp fun h => ?_
      rw [lexB, if_neg (by simp)]; exact h
    · have : (List.range' a (N - a)).Pairwise (· < ·) := List.pairwise_lt_range'
      refine this.imp fun {x y} hxy l hl m hm => ?_
      obtain ⟨l', _, rfl⟩ := List.mem_map.1 hl
      obtain ⟨m', _, rfl⟩ := List.mem_map.1 hm
      rw [lexB, if_pos (by omega)]; exact decide_eq_true (by omega)
/-- a list is better than another one -/
def better (a b : List Int) : Prop := a.length < b.length ∨ (a.length = b.length ∧ lexB a b = true)
theorem better_trans {a b c : List Int} (h1 : better a b) (h2 : better b c) : better a c := by
  rcases h1 with h1 | ⟨h1, h1'⟩ <;> rcases h2 with h2 | ⟨h2, h2'⟩
  · exact .inl (by omega)
  · exact .inl (by omega)
  · exact .inl (by omega)
  · exact .inr ⟨by omega, lexB_trans h1 h2 h1' h2'⟩
theorem better_irr {a : List Int} (h : better a a) : False := by
  rcases h with h | ⟨_, h⟩
  · omega
  · rw [lexB_irr] at h; cases h
theorem better_total {a b : List Int} (h : ¬ better a b) : a = b ∨ better b a := by
  by_cases hl : a.length = b.length
  · rcases lexB_total hl with e | e | e
    · exact .inl e
    · exact absurd (.inr ⟨hl, e⟩) h
    · exact .inr (.inr ⟨hl.symm, e⟩)
  · have : ¬ a.length < b.length := fun e => h (.inl e)
    exact .inr (.inl (by omega))
theorem find_first {p : List Int → Bool} : ∀ {L : List (List Int)} {l : List Int}, L.Pairwise (fun l m => lexB l m = true) → L.find? p = some l → l ∈ L ∧ p l = true ∧ ∀ m ∈ L, p m = true → m = l ∨ lexB l m = true
  | [], _, _, h => by simp at h
  | x :: L, l, hs, h => by
    rw [List.pairwise_cons] at hs
    by_cases hp : p x = true
    · rw [List.find?_cons_of_pos hp] at h
      injection h with h; subst h
      exact ⟨List.mem_cons_self .., hp, fun m hm _ => by
        rcases List.mem_cons.1 hm with rfl | hm
        · exact .inl rfl
        · exact .inr (hs.1 m hm)⟩
    · rw [List.find?_cons_of_neg hp] at h
      obtain ⟨h1, h2, h3⟩ := find_first hs.2 h
      exact ⟨List.mem_cons_of_mem _ h1, h2, fun m hm hpm => by
        rcases List.mem_cons.1 hm with rfl | hm
        · exact absurd hpm hp
        · exact h3 m hm hpm⟩
/-- what least tells -/
theorem leastGo_spec (t : Text) (wt : Int) : ∀ (ks : List Nat), ks.Pairwise (· < ·) → (∀ l, t.leastGo wt ks = some l → (l.length ∈ ks ∧ Incr 0 t.len l ∧ t.leastP wt l = true ∧ ∀ m, m.length ∈ ks → Incr 0 t.len m → t.leastP wt m = true → m = l ∨ better l m)) ∧
    (t.leastGo wt ks = none → ∀ m, m.length ∈ ks → Incr 0 t.len m → t.leastP wt m = false)
  | [], _ => ⟨fun l h => by simp [Text.leastGo] at h, fun _ m hm => by simp at hm⟩
  | k :: ks, hs => by
    rw [List.pairwise_cons] at hs
    obtain ⟨ih1, ih2⟩ := leastGo_spec t wt ks hs.2
    rw [Text.leastGo]
    cases hf : (Tx.lists t.len k 0).find? (t.leastP wt) with
    | some l0 =>
      obtain ⟨h1, h2, h3⟩ := find_first (lists_sorted _ _ _) hf
      obtain ⟨g1, g2⟩ := (lists_mem _ _ _ _).1 h1
      refine ⟨fun l h => ?_, fun h => by simp at h⟩
      simp only [Option.some.injEq] at h
      subst h
      refine ⟨by rw [g1]; exact List.mem_cons_self .., g2, h2, fun m hm hi hp => ?_⟩
      rcases List.mem_cons.1 hm with hm | hm
      · rcases h3 m ((lists_mem _ _ _ _).2 ⟨hm, hi⟩) hp with e | e
        · exact .inl e
        · exact .inr (.inr ⟨by omega, e⟩)
      · exact .inr (.inl (by rw [g1]; exact hs.1 _ hm))
    | none =>
      have hno : ∀ m, m.length = k → Incr 0 t.len m → t.leastP wt m = false := fun m hm hi => by
        have := List.find?_eq_none.1 hf m ((lists_mem _ _ _ _).2 ⟨hm, hi⟩)
        simpa using this
      refine ⟨fun l h => ?_, fun h m hm hi => ?_⟩
      · obtain ⟨a1, a2, a3, a4⟩ := ih1 l h
        refine ⟨List.mem_cons_of_mem _ a1, a2, a3, fun m hm hi hp => ?_⟩
        rcases List.mem_cons.1 hm with hm | hm
        · rw [hno m hm hi] at hp; cases hp
        · exact a4 m hm hi hp
      · rcases List.mem_cons.1 hm with hm | hm
        · exact hno m hm hi
        · exact ih2 h m hm hi
/-- the best of the lists that the numbers from 1 to less than n say -/
def BestOf (p : List Int → Bool) (n : Nat) (b : List Int) : Prop :=
  (b = [] ∧ ∀ j, 1 ≤ j → j < n → p (bits 0 j) = false) ∨ (∃ j, 1 ≤ j ∧ j < n ∧ b = bits 0 j ∧ p b = true ∧ ∀ i, 1 ≤ i → i < n → p (bits 0 i) = true → bits 0 i = b ∨ better b (bits 0 i))
theorem BestOf.zero (p : List Int → Bool) : BestOf p 1 [] := .inl ⟨rfl, fun j h1 h2 => by omega⟩
theorem BestOf.skip {p : List Int → Bool} {n : Nat} {b : List Int} (h : BestOf p n b) (hp : p (bits 0 n) = false) : BestOf p (n + 1) b := by
  rcases h with ⟨rfl, h⟩ | ⟨j, h1, h2, rfl, h3, h4⟩
  · refine .inl ⟨rfl, fun j h1 h2 => ?_⟩
    rcases Nat.lt_succ_iff_lt_or_eq.1 h2 with h2 | rfl
    · exact h j h1 h2
    · exact hp
  · refine .inr ⟨j, h1, by omega, rfl, h3, fun i i1 i2 hi => ?_⟩
    rcases Nat.lt_succ_iff_lt_or_eq.1 i2 with i2 | rfl
    · exact h4 i i1 i2 hi
    · rw [hp] at hi; cases hi
theorem BestOf.take {p : List Int → Bool} {n : Nat} {b : List Int} (h : BestOf p n b) (hn : 1 ≤ n) (hp : p (bits 0 n) = true) (hb : b = [] ∨ better (bits 0 n) b) : BestOf p (n + 1) (bits 0 n) := by
  refine .inr ⟨n, hn, by omega, rfl, hp, fun i i1 i2 hi => ?_⟩
  rcases Nat.lt_succ_iff_lt_or_eq.1 i2 with i2 | rfl
  · rcases h with ⟨rfl, h⟩ | ⟨j, h1, h2, rfl, h3, h4⟩
    · rw [h i i1 i2] at hi; cases hi
    · have hb : better (bits 0 n) (bits 0 j) := by
        rcases hb with hb | hb
        · exact absurd hb (bits_ne (by omega))
        · exact hb
      rcases h4 i i1 i2 hi with e | e
      · rw [e]; exact .inr hb
      · exact .inr (better_trans hb e)
  · exact .inl rfl
theorem BestOf.keep {p : List Int → Bool} {n : Nat} {b : List Int} (h : BestOf p n b) (hb : b ≠ []) (hw : ¬ better (bits 0 n) b) : BestOf p (n + 1) b := by
  rcases h with ⟨rfl, h⟩ | ⟨j, h1, h2, rfl, h3, h4⟩
  · exact absurd rfl hb
  · refine .inr ⟨j, h1, by omega, rfl, h3, fun i i1 i2 hi => ?_⟩
    rcases Nat.lt_succ_iff_lt_or_eq.1 i2 with i2 | rfl
    · exact h4 i i1 i2 hi
    · exact better_total hw
theorem best_least {t : Text} {wt : Int} {b : List Int} (h : BestOf (t.leastP wt) (2 ^ t.len) b) : t.least wt = (b, if b = [] then 6 else 0) := by
  have hks : (List.range' 1 t.len).Pairwise (· < ·) := List.pairwise_lt_range'
  obtain ⟨s1, s2⟩ := leastGo_spec t wt (List.range' 1 t.len) hks
  have hin : ∀ {m : List Int}, Incr 0 t.len m → m ≠ [] → m.length ∈ List.range' 1 t.len := fun {m} hm hne => by
    rw [List.mem_range'_1]
    have : m.length ≠ 0 := fun e => hne (List.length_eq_zero_iff.1 e)
    rcases Incr.len hm with h | h
    · omega
    · exact absurd h hne
  have hbi : ∀ j, j < 2 ^ t.len → Incr 0 t.len (bits 0 j) := fun j hj => by
    have := bits_incr t.len 0 j hj
    simpa using this
  unfold Text.least
  cases hg : t.leastGo wt (List.range' 1 t.len) with
  | none =>
    rcases h with ⟨rfl, h⟩ | ⟨j, h1, h2, rfl, h3, h4⟩
    · rfl
    · have := s2 hg _ (hin (hbi j h2) (bits_ne (by omega))) (hbi j h2)
      rw [this] at h3; cases h3
  | some l =>
    obtain ⟨a1, a2, a3, a4⟩ := s1 l hg
    have hl : l ≠ [] := fun e => by rw [e, List.mem_range'_1] at a1; simp at a1
    obtain ⟨n, hn, e⟩ := bits_all t.len 0 l (by simpa using a2)
    have hn1 : 1 ≤ n := by
      rcases Nat.eq_zero_or_pos n with h0 | h0
      · rw [h0, bits_zero] at e; exact absurd e.symm hl
      · exact h0
    rcases h with ⟨rfl, h⟩ | ⟨j, h1, h2, rfl, h3, h4⟩
    · have := h n hn1 hn; rw [e, a3] at this; cases this
    · have e1 := h4 n hn1 hn (by rw [e]; exact a3)
      rw [e] at e1
      have e2 := a4 (bits 0 j) (hin (hbi j h2) (bits_ne (by omega))) (hbi j h2) h3
      have : l = bits 0 j := by
        rcases e1 with e1 | e1
        · exact e1
        · rcases e2 with e2 | e2
          · exact e2.symm
          · exact absurd (better_trans e1 e2) (fun h => better_irr h)
      rw [this, if_neg (bits_ne (by omega))]
end Go.Proofs.Ytadnggecnjdhiaa
