import Derived.Test.YtimedmkpenbmkaaUn
import Derived.Test.YtimedmkpenbmkaaT4
namespace Go.Proofs.Ytimedmkpenbmkaa
open Go.RowKit Go.Shelf
set_option linter.unusedSimpArgs false
set_option linter.unusedVariables false

/-- the error of a town, an air and a plot of some kind -/
def atE (wd : Int) (xs : List Int) (wind voice p k : Int) : Int := if openErr wd xs wind voice ≠ 0 then openErr wd xs wind voice else plotErr xs p k
theorem atE_ok {wd : Int} {xs : List Int} {wind voice p k : Int} (h : atE wd xs wind voice p k = 0) : checkErr wd xs = 0 ∧ airErr wind voice = 0 ∧ plotErr xs p k = 0 := by
  unfold atE openErr at h
  by_cases h1 : checkErr wd xs = 0
  · by_cases h2 : airErr wind voice = 0
    · simp [h1, h2] at h; exact ⟨h1, h2, h⟩
    · simp [h1, h2] at h
  · simp [h1] at h
theorem openAt_bad (wd wind voice p k : Int) (a : Option Addr) (cap : Nat) (xs : List Int) (hl : xs.length ≤ 1000000) (w : World) (hR : RdI w (.slice a xs.length cap) xs) (h : atE wd xs wind voice p k ≠ 0) :
    Calls Try.prog 89 #[.agg #[.int .i64 wd, .slice a xs.length cap], .agg #[.int .i64 wind, .int .i64 voice], .int .i64 p, .int .i64 k] w fun e w' => e = .returned (.tuple #[zeroWork, .int .i64 (atE wd xs wind voice p k)]) ∧ Below w.heap.size w w' := by
  unfold atE at *
  by_cases h1 : openErr wd xs wind voice = 0
  · rw [if_neg (by rw [h1]; simp)] at h ⊢
    obtain ⟨h2, h3⟩ := openErr_ok h1
    have hne : xs ≠ [] := by rintro rfl; have := (check_len h2).2; simp at this
    obtain ⟨b, o, rfl, _, hI⟩ := rd_ints hR hne
    exact openAt_plot wd wind voice p k b o cap xs w (rd_plots hR hl) hI (by have := (check_len h2).1; omega) h2 h3 h
  · rw [if_pos h1]
    exact openAt_err wd wind voice p k a cap xs w (rd_plots hR hl) h1

/-- the houses that hear a stand -/
def housesTo (t : Hr.Town) (wind voice : Int) (s k : Nat) : List Int := ((List.range k).filter fun p => t.at p == 1 && hearB t wind voice p s).map fun (p : Nat) => (p : Int)
def housesOf (t : Hr.Town) (wind voice : Int) (s : Nat) : List Int := housesTo t wind voice s t.len
theorem housesTo_yes {t : Hr.Town} {wind voice : Int} {s k : Nat} (h : (t.at k == 1 && hearB t wind voice k s) = true) : housesTo t wind voice s (k + 1) = housesTo t wind voice s k ++ [(k : Int)] := by
  unfold housesTo; rw [List.range_succ, List.filter_append]; simp [h]
theorem housesTo_no {t : Hr.Town} {wind voice : Int} {s k : Nat} (h : (t.at k == 1 && hearB t wind voice k s) = false) : housesTo t wind voice s (k + 1) = housesTo t wind voice s k := by
  unfold housesTo; rw [List.range_succ, List.filter_append]; simp [h]
theorem housesTo_len (t : Hr.Town) (wind voice : Int) (s k : Nat) : (housesTo t wind voice s k).length ≤ k := by
  unfold housesTo
  have := List.length_filter_le (fun p => t.at p == 1 && hearB t wind voice p s) (List.range k)
  simp at this ⊢; omega
/-- a box with a town at work, whole -/
def WkB (W : World) (c : Nat) (wd : Int) (pl : Value) (wind voice : Int) (m cf : Value) : Prop := W.heap[c]? = some (.cells #[.int .i64 wd, pl, .int .i64 wind, .int .i64 voice, m, cf] 119 (0, 0))

set_option maxHeartbeats 1000000 in
set_option maxRecDepth 100000 in
theorem Houses_no (wd wind voice s : Int) (a : Option Addr) (cap : Nat) (xs : List Int) (hl : xs.length ≤ 1000000) (w : World) (hR : RdI w (.slice a xs.length cap) xs) (h : atE wd xs wind voice s 0 ≠ 0) :
    Calls Try.prog 39 #[.agg #[.int .i64 wd, .slice a xs.length cap], .agg #[.int .i64 wind, .int .i64 voice], .int .i64 s] w fun e w' => e = .returned (.tuple #[.slice none 0 0, .int .i64 (atE wd xs wind voice s 0)]) ∧ Below w.heap.size w w' := by
  have HB := Lib.hid (al (below1 w (.cells #[.int .i64 wd, .slice a xs.length cap] 24)) (.cells #[.int .i64 wind, .int .i64 voice] 27))
  have HP := Lib.hid (openAt_bad wd wind voice s 0 a cap xs hl _ (hR.below HB.out) h)
  unfold zeroWork at HP
  generalize atE wd xs wind voice s 0 = E at h HP ⊢
  have h1 : (E != 0) = true := by simpa using h
  clear h hR
  go_enter Try.func39, Try.ntmps39
  go_wp2_with fail
  refine HP.out.mono ?_
  rintro e w1 ⟨rfl, hB⟩
  have HB1 := Lib.hid (join HB.out hB)
  clear hB HP
  go_wp2
  go_ret2
  exact ⟨rfl, by first | (with_reducible exact al HB1.out _) | (with_reducible refine setc6 HB1.out ?_; omega)⟩

set_option maxHeartbeats 2000000 in
set_option maxRecDepth 100000 in
theorem Houses_yes (t : Hr.Town) (ok : t.Ok) (wind voice : Int) (s : Nat) (h : atE t.wide t.plots wind voice s 0 = 0) (b o cap : Nat) (w : World) (hI : Ints w b o t.plots) :
    Calls Try.prog 39 #[.agg #[.int .i64 t.wide, .slice (some ⟨b, o, none⟩) t.plots.length cap], .agg #[.int .i64 wind, .int .i64 voice], .int .i64 s] w fun e w' => ∃ v, e = .returned (.tuple #[v, .int .i64 0]) ∧ w'.ownsRow w.heap.size 3 1 v (housesOf t wind voice s).length ((housesOf t wind voice s).map (Value.int .i64)) ∧ Below w.heap.size w w' := by
  obtain ⟨i0, hi, hz0, hz1, hz2⟩ := info_parts A_info3
  obtain ⟨hc, ha, hp⟩ := atE_ok h
  obtain ⟨w0, w4, v1, v40⟩ := wind_ok ha
  obtain ⟨s', hs', hs, hst⟩ := plot_ok hp
  obtain rfl : s = s' := by omega
  have h30 : t.plots.length ≤ 30 := ok.n30
  have HB := Lib.hid (al (below1 w (.cells #[.int .i64 t.wide, .slice (some ⟨b, o, none⟩) t.plots.length cap] 24)) (.cells #[.int .i64 wind, .int .i64 voice] 27))
  have hIb := hI.below HB.out hI.1
  have HP := Lib.hid (openAt_ok t.wide wind voice s 0 b o cap t.plots _ ⟨fun _ => ⟨b, o, rfl, hIb⟩, by omega⟩ hIb (by omega) hc ha hp)
  have HI := Lib.hid hI
  have hx0 : ((w.alloc (.cells #[.int .i64 t.wide, .slice (some ⟨b, o, none⟩) t.plots.length cap] 24)).alloc (.cells #[.int .i64 wind, .int .i64 voice] 27)).heap[w.heap.size]? = some (.cells #[.int .i64 t.wide, .slice (some ⟨b, o, none⟩) t.plots.length cap] 24 (0, 0)) := (Below.heap_alloc _ _ _ (by simp)).trans (heap_alloc_last _ _)
  have HX := Lib.hid hx0
  have HST := Lib.hid (show t.at s = 0 from hst)
  clear h hc ha hp hI hx0 hIb hst hs'
  go_enter Try.func39, Try.ntmps39
  go_wp2_with fail
  refine HP.out.mono ?_
  rintro e w1 ⟨r, rfl, hD, hr, hB⟩
  have hx1 := (hB.block w.heap.size (by simp; omega)).trans HX.out
  have HX1 := Lib.hid hx1
  have hlt : w.heap.size < w1.heap.size := (Array.getElem?_eq_some_iff.1 hx1).1
  have HB1 := Lib.hid (join HB.out hB)
  have hrl : r < w1.heap.size := dir_lt hD
  have HD := Lib.hid hD
  clear hB hD HP HB HX hx1 hr
  obtain ⟨T, hTN⟩ : ∃ T, T = t.needs wind s := ⟨_, rfl⟩
  have hTl : T.length = t.len := by rw [hTN]; exact needs_len ok wind hs
  have HTN := Lib.hid hTN
  have HTL := Lib.hid hTl
  have hs2 : s < t.len := hs
  clear hTN hTl
  go_wp2_with fail
  refine (needs_callT t ok wind voice w0 w4 b o cap r _ _ _ s hs T HTN.out w _ (al HB1.out _) HI.out (dir_al HD.out hrl _)).mono ?_
  rintro e w6 ⟨tb, rfl, HTB, htb, HB6⟩
  have hbx : w6.heap[w1.heap.size]? = some (.cells #[.int .i64 t.wide, .slice (some ⟨b, o, none⟩) t.plots.length cap, .int .i64 wind, .int .i64 voice, .map (some r), .func (.func 128) #[] #[]] 119 (0, 0)) := (HB6.out.block _ (by simp)).trans (heap_alloc_last _ _)
  have hbt : w6.heap[w.heap.size]? = some (.cells #[.int .i64 t.wide, .slice (some ⟨b, o, none⟩) t.plots.length cap] 24 (0, 0)) := (HB6.out.block _ (by simp; omega)).trans ((Below.heap_alloc _ _ _ hlt).trans HX1.out)
  have HB2 := Lib.hid (join (al HB1.out _) HB6.out)
  have HBX := Lib.hid hbx
  have HBT := Lib.hid hbt
  have HI6 := Lib.hid (HI.out.below HB2.out HI.out.1)
  obtain ⟨k0, k1⟩ := blk_cells2 hbt
  clear HB6 htb hbx hbt HI HB1 HX1 HD hrl
  go_wp2
  go_loopw [11, 12, 29] (fun v u i wr => ∃ k : Nat, k ≤ t.len ∧ i = .int .i64 k ∧ wr.ownsRow w6.heap.size 3 1 v (housesTo t wind voice s k).length ((housesTo t wind voice s k).map (Value.int .i64)) ∧ Below w6.heap.size w6 wr) (fun _ _ i _ => t.len - (intOf i).toNat)
  case atStart => exact ⟨0, Nat.zero_le _, rfl, own_none _ _ _ _, Below.refl _ _⟩
  case round =>
    obtain ⟨k, hk, rfl, hown, hBr⟩ := hrel
    have HO := Lib.hid hown
    have hlen := housesTo_len t wind voice s k
    by_cases hlt : k < t.len
    · have hcr := Nat.lt_of_lt_of_le (Array.getElem?_eq_some_iff.1 HBX.out).1 hBr.size
      have hlr := Nat.lt_of_lt_of_le (Array.getElem?_eq_some_iff.1 HBT.out).1 hBr.size
      have hbr := Nat.lt_of_lt_of_le HI6.out.1 hBr.size
      have htr := Nat.lt_of_lt_of_le HTB.out.lt hBr.size
      obtain ⟨c0, c1, c2, c3, c4, c5⟩ := voice_cells ((hBr.block _ (Array.getElem?_eq_some_iff.1 HBX.out).1).trans HBX.out)
      obtain ⟨k0, k1⟩ := blk_cells2 ((hBr.block _ (Array.getElem?_eq_some_iff.1 HBT.out).1).trans HBT.out)
      have cp := (HI6.out.below hBr HI6.out.1).2 k hlt
      have ct := (HTB.out.below hBr HTB.out.lt).cell (i := k) (by have := HTL.out; omega)
      obtain ⟨x, hx⟩ : ∃ x, t.plots.getD k 0 = x := ⟨_, rfl⟩
      obtain ⟨y, hy⟩ : ∃ y, T.getD k 0 = y := ⟨_, rfl⟩
      rw [hx] at cp
      rw [hy] at ct
      have hxx : t.at k = x := hx
      have hhb : hearB t wind voice k s = (y != -1 && decide (y ≤ voice)) := by
        unfold hearB; rw [← HTN.out, hy]; simp [hs2, HST.out]
      have hk' : (k : Int) < t.plots.length := by have : t.plots.length = t.len := rfl; omega
      have hkT : (k : Int) < T.length := by have := HTL.out; omega
      have HXX := Lib.hid hxx
      have HHB := Lib.hid hhb
      have HBr := Lib.hid hBr
      clear hx hy hxx hhb hown
      by_cases hx1 : x = 1
      · subst hx1
        go_wp2_with fail
        refine Rs.region_det 14 [[], [0], [], [0, 1, 2], [0, 1, 2, 3], [0, 1, 2, 3, 4], [0, 1, 2, 3, 4, 5], [0, 1, 2, 3, 4, 5, 6], [0, 1, 2, 3, 4, 5, 6], [0, 1, 2, 3, 4, 5, 6], [0, 1, 2, 3, 4, 5, 6, 8, 9], [0, 1, 2, 3, 4, 5, 6, 8, 9, 10], [0, 1, 2, 3, 4, 5, 6, 7, 8, 9, 10, 11], [0, 1, 2, 3, 4, 5, 6, 7, 8, 9, 10, 11, 12]] [some 32, some 33, some 34, some 35, some 36, some 37, some 38, some 39, some 40, some 41, some 42, some 43, some 44, some 45]
          (fun i => [.pointer (some ⟨w.heap.size, 1, none⟩), .slice (some ⟨b, o, none⟩) t.plots.length cap, .int .i64 k, .pointer (some ⟨b, o + k, none⟩), .int .i64 1, .bool true, .bool true, .agg #[.int .i64 t.wide, .slice (some ⟨b, o, none⟩) t.plots.length cap, .int .i64 wind, .int .i64 voice, .map (some r), .func (.func 128) #[] #[]], .slice (some ⟨tb, 0, none⟩) T.length T.length, .int .i64 k, .pointer (some ⟨tb, k, none⟩), .int .i64 y, .bool (y != -1 && decide (y ≤ voice)), .bool (y != -1 && decide (y ≤ voice))].getD i undef) (by kernel_rfl) (by kernel_rfl) rfl ?_ ?_
        · refine ⟨.plain rfl ?_, .plain rfl ?_, .plain rfl ?_, .plain rfl ?_, .plain rfl ?_, .plain rfl ?_, .plain rfl ?_, .plain rfl ?_, .plain rfl ?_, .plain rfl ?_, .plain rfl ?_, .plain rfl ?_, .on rfl (fun w' hG => Rs.GrowR.call (f := 99) (args := #[.agg #[.int .i64 t.wide, .slice (some ⟨b, o, none⟩) t.plots.length cap, .int .i64 wind, .int .i64 voice, .map (some r), .func (.func 128) #[] #[]], .int .i64 y]) ?_ (enough_any _ _ _ _ _ _ _ _)), .plain rfl ?_, trivial⟩
          case refine_13 => simp [go_sem, Rs.look]
          all_goals
            intro w' hG
            obtain ⟨hcG, hfG⟩ := kept hG
            simp [go_sem, Rs.look, hcG, hfG, k1, c0, c1, c2, c3, c4, c5, hlr, hcr, hbr, htr, hk', hkT, cp, ct]
        · intro w7 hG
          have hB7 := hBr.trans (hG.mono hBr.size)
          have HB7 := Lib.hid hB7
          have HO7 := Lib.hid (own_below HO.out hG)
          clear hG hB7
          simp only [Rs.canon, Rs.dstOf, List.range_succ, List.range_zero, List.nil_append, List.cons_append, List.foldl_cons, List.foldl_nil, List.drop_succ_cons, List.drop_zero, List.drop_nil, List.getElem?_toArray, List.getElem?_cons_succ, List.getElem?_cons_zero, Option.bind_some, Act.put, List.getD_cons_succ, List.getD_cons_zero, List.setIfInBounds_toArray, List.set_cons_succ, List.set_cons_zero]
          generalize hen : (y != -1 && decide (y ≤ voice)) = en at HHB ⊢
          clear hen c0 c1 c2 c3 c4 c5 k0 k1 cp ct hBr hcr hlr hbr htr HO
          cases en with
          | false =>
            have HNO : Hid ((t.at k == 1 && hearB t wind voice k s) = false) := Lib.hid (by rw [HXX.out, HHB.out]; rfl)
            go_wp2
            go_roundw
            case rel => exact ⟨k + 1, by omega, by simp, by rw [housesTo_no HNO.out]; exact HO7.out, HB7.out⟩
            case measure => simp [intOf]; omega
          | true =>
            have HYES : Hid ((t.at k == 1 && hearB t wind voice k s) = true) := Lib.hid (by rw [HXX.out, HHB.out]; rfl)
            have hz7 := HB7.out.size
            go_wp2_with (at_builtin; refine wpList_append_own _ rfl _ _ 31 rfl w6.heap.size 3 i0 (.int .i64 0) 1 8 A_und31 hi hz0 hz1 hz2 rfl (by decide) _ _ _ rfl (HO7.out.alloc _) ⟨w7.heap.size, 0, none⟩ 1 1 [.int .i64 (k : Int)] rfl rfl ?d1 ?d2 ?d3 ?d4 ?d5 ?_)
            case d1 =>
              intro j u hj
              match j, hj with
              | 0, hj => simp at hj; subst hj; simp [Addr.add]
            case d2 => intro u hu; simp at hu; subst hu; rfl
            case d3 => unfold maxLen; omega
            case d4 => omega
            case d5 => simp; omega
            intro v' w8 hown8 hgrow _
            have hB8 := below_grown (al2 HB7.out (by omega) _) (HO7.out.alloc _) (Nat.le_refl _) (by simp; omega) hgrow
            have HO8 := Lib.hid hown8
            have HB8 := Lib.hid hB8
            clear hgrow hown8 hB8
            go_wp2
            go_roundw
            case rel => exact ⟨k + 1, by omega, by simp, by rw [housesTo_yes HYES.out]; simpa using HO8.out, HB8.out⟩
            case measure => simp [intOf]; omega
      · have hx1' : (x == 1) = false := by simpa using hx1
        have HNO : Hid ((t.at k == 1 && hearB t wind voice k s) = false) := Lib.hid (by rw [HXX.out, hx1']; rfl)
        go_wp2_with fail
        refine Rs.region_det 14 [[], [0], [], [0, 1, 2], [0, 1, 2, 3], [0, 1, 2, 3, 4], [0, 1, 2, 3, 4, 5], [0, 1, 2, 3, 4, 5, 6], [0, 1, 2, 3, 4, 5, 6], [0, 1, 2, 3, 4, 5, 6], [0, 1, 2, 3, 4, 5, 6, 8, 9], [0, 1, 2, 3, 4, 5, 6, 8, 9, 10], [0, 1, 2, 3, 4, 5, 6, 7, 8, 9, 10, 11], [0, 1, 2, 3, 4, 5, 6, 7, 8, 9, 10, 11, 12]] [some 32, some 33, some 34, some 35, some 36, some 37, some 38, some 39, some 40, some 41, some 42, some 43, some 44, some 45]
          (fun i => [.pointer (some ⟨w.heap.size, 1, none⟩), .slice (some ⟨b, o, none⟩) t.plots.length cap, .int .i64 k, .pointer (some ⟨b, o + k, none⟩), .int .i64 x, .bool false, .bool false, undef, undef, undef, undef, undef, undef, .bool false].getD i undef) (by kernel_rfl) (by kernel_rfl) rfl ?_ ?_
        · refine ⟨.plain rfl ?_, .plain rfl ?_, .plain rfl ?_, .plain rfl ?_, .plain rfl ?_, .plain rfl ?_, .plain rfl ?_, .off rfl rfl, .off rfl rfl, .off rfl rfl, .off rfl rfl, .off rfl rfl, .off rfl rfl, .plain rfl ?_, trivial⟩
          all_goals
            intro w' hG
            obtain ⟨hcG, hfG⟩ := kept hG
            simp [go_sem, Rs.look, hcG, hfG, k1, c0, c1, c2, c3, c4, c5, hlr, hcr, hbr, htr, hk', hkT, cp, ct, hx1, hx1']
        · intro w7 hG
          have hB7 := hBr.trans (hG.mono hBr.size)
          have HB7 := Lib.hid hB7
          have HO7 := Lib.hid (own_below HO.out hG)
          clear hG hB7
          simp only [Rs.canon, Rs.dstOf, List.range_succ, List.range_zero, List.nil_append, List.cons_append, List.foldl_cons, List.foldl_nil, List.drop_succ_cons, List.drop_zero, List.drop_nil, List.getElem?_toArray, List.getElem?_cons_succ, List.getElem?_cons_zero, Option.bind_some, Act.put, List.getD_cons_succ, List.getD_cons_zero, List.setIfInBounds_toArray, List.set_cons_succ, List.set_cons_zero]
          clear c0 c1 c2 c3 c4 c5 k0 k1 cp ct hBr hcr hlr hbr htr HO hx1
          go_wp2
          go_roundw
          case rel => exact ⟨k + 1, by omega, by simp, by rw [housesTo_no HNO.out]; exact HO7.out, HB7.out⟩
          case measure => simp [intOf]; omega
    · have hkk : k = t.len := by omega
      subst hkk
      have hpl : ¬ ((t.len : Int) < t.plots.length) := by have : t.plots.length = t.len := rfl; omega
      have HBr := Lib.hid hBr
      clear hBr hown hlen
      go_wp2
      go_ret2
      exact ⟨_, rfl, own_base HO.out HB2.out.size, join HB2.out HBr.out⟩
/-- what Houses tells -/
def housesL (wd : Int) (xs : List Int) (wind voice s : Int) : List Int := if atE wd xs wind voice s 0 = 0 then housesOf (townOf wd xs) wind voice s.toNat else []
theorem Houses_any (wd wind voice s : Int) (a : Option Addr) (cap : Nat) (xs : List Int) (hl : xs.length ≤ 1000000) (w : World) (hR : RdI w (.slice a xs.length cap) xs) :
    Calls Try.prog 39 #[.agg #[.int .i64 wd, .slice a xs.length cap], .agg #[.int .i64 wind, .int .i64 voice], .int .i64 s] w fun e w' => ∃ v, e = .returned (.tuple #[v, .int .i64 (atE wd xs wind voice s 0)]) ∧ w'.ownsRow w.heap.size 3 1 v (housesL wd xs wind voice s).length ((housesL wd xs wind voice s).map (Value.int .i64)) ∧ Below w.heap.size w w' := by
  by_cases h : atE wd xs wind voice s 0 = 0
  · obtain ⟨h1, h2, h3⟩ := atE_ok h
    have hne : xs ≠ [] := by rintro rfl; have := (check_len h1).2; simp at this
    obtain ⟨b, o, rfl, _, hI⟩ := rd_ints hR hne
    obtain ⟨t, -, hw', hx, ok⟩ := town_name h1
    subst hw' hx
    obtain ⟨p, rfl, hp, _⟩ := plot_ok h3
    have e1 : housesL t.wide t.plots wind voice p = housesOf t wind voice p := by unfold housesL; rw [if_pos h, townOf_self]; simp
    rw [e1, h]
    exact Houses_yes t ok wind voice p h b o cap w hI
  · have e1 : housesL wd xs wind voice s = [] := if_neg h
    rw [e1]
    refine (Houses_no wd wind voice s a cap xs hl w hR h).mono ?_
    rintro e w' ⟨rfl, hB⟩
    exact ⟨_, rfl, own_none _ _ _ _, hB⟩
end Go.Proofs.Ytimedmkpenbmkaa
