import Derived.Test.YtimedmkpenbmkaaTk3
namespace Go.Proofs.Ytimedmkpenbmkaa
open Go.RowKit Go.Shelf
set_option linter.unusedSimpArgs false
set_option linter.unusedVariables false

set_option maxHeartbeats 2000000 in
set_option maxRecDepth 100000 in
theorem refTakes_plot (t : Hr.Town) (ok : t.Ok) (wind : Int) (w0 : 0 ≤ wind) (w4 : wind ≤ 4) (hc : checkErr t.wide t.plots = 0) (b o cap wb wo wc : Nat) (q : Int) (L : List Int) (hL : L.length ≤ 1000) (hp : plotErr t.plots q 0 ≠ 0) (w : World) (hI : Ints w b o t.plots) (hH : Ints w wb wo (q :: L)) :
    Calls Try.prog 35 #[.agg #[.int .i64 t.wide, .slice (some ⟨b, o, none⟩) t.plots.length cap], .int .i64 wind, .slice (some ⟨wb, wo, none⟩) (L.length + 1) wc] w fun e w' => e = .returned (.tuple #[.int .i64 0, .int .i64 8]) ∧ Below w.heap.size w w' := by
  have h30 := ok.n30
  have HB := Lib.hid (below1 w (.cells #[.int .i64 t.wide, .slice (some ⟨b, o, none⟩) t.plots.length cap] 33))
  have hH : RhI t b o cap w wb wo (q :: L) (w.alloc (.cells #[.int .i64 t.wide, .slice (some ⟨b, o, none⟩) t.plots.length cap] 33)) := ⟨heap_alloc_last _ _, hI.below HB.out hI.1, hH.below HB.out hH.1, HB.out⟩
  have HH := Lib.hid hH
  have hplen : t.plots.length = t.len := rfl
  have HSD := Lib.hid (fun W (hB : Below w.heap.size w W) => refCheck_any t.wide (some ⟨b, o, none⟩) cap t.plots (by omega) W (RdI.mk' (hI.below hB hI.1) (by omega)))
  rw [hc] at HSD
  have HPL0 := Lib.hid (fun W (hB : Below w.heap.size w W) => refIs_any t.wide (some ⟨b, o, none⟩) cap t.plots q 0 (by omega) W (RdI.mk' (hI.below hB hI.1) (by omega)))
  generalize plotErr t.plots q 0 = E at hp HPL0
  have hE : (E != 0) = true := by simpa using hp
  clear hp
  have hn0 : (0 : Int) < L.length + 1 := by omega
  have hn1 : ((L.length : Int) + 1 == 0) = false := by simp; omega
  clear hI hH hc hplen
  go_enter Try.func35, Try.ntmps35
  go_wp2_with fail
  refine (HSD.out _ HB.out).mono ?_
  rintro e w1 ⟨rfl, hB⟩
  have hH1 := HH.out.below hB
  have HH1 := Lib.hid hH1
  clear hB HB HH HSD hH1
  go_wp2_with fail
  refine (off_any _ _ _ _ false (offB_no w0 w4)).mono ?_
  rintro e w' ⟨rfl, rfl⟩
  obtain ⟨k0, k1⟩ := HH1.out.cs
  have hq0 := HH1.out.tab.2 0 (by simp)
  rw [show (q :: L).getD 0 0 = q from rfl, Nat.add_zero] at hq0
  have hlw : w.heap.size < w1.heap.size := (Array.getElem?_eq_some_iff.1 HH1.out.box).1
  have hwb : wb < w1.heap.size := HH1.out.tab.1
  have HPL := Lib.hid (fun W (hB2 : Below w1.heap.size w1 W) => HPL0.out W (join HH1.out.bel hB2))
  clear HPL0
  go_wp2_with fail
  refine Rs.region_det 6 [[], [], [1], [1, 2], [0, 1, 2, 3], [0, 1, 2, 3, 4]] [some 22, some 23, some 24, some 25, some 26, some 27]
    (fun i => [.agg #[.int .i64 t.wide, .slice (some ⟨b, o, none⟩) t.plots.length cap], .slice (some ⟨wb, wo, none⟩) (L.length + 1) wc, .pointer (some ⟨wb, wo, none⟩), .int .i64 q, .int .i64 E, .bool true].getD i undef) (by kernel_rfl) (by kernel_rfl) rfl ?_ ?_
  · refine ⟨.plain rfl ?_, .plain rfl ?_, .plain rfl ?_, .plain rfl ?_, .on rfl (fun w' hG => Rs.GrowR.call (f := 37) (args := #[.agg #[.int .i64 t.wide, .slice (some ⟨b, o, none⟩) t.plots.length cap], .int .i64 q, .int .i64 0]) ?_ (HPL.out w' hG)), .plain rfl ?_, trivial⟩
    case refine_5 => simp [go_sem, Rs.look]
    all_goals
      intro w' hG
      obtain ⟨hcG, hfG⟩ := kept hG
      simp [go_sem, Rs.look, hcG, hfG, k0, k1, hlw, hwb, hq0, hn0, hE]
  · intro w2 hG
    have HH2 := Lib.hid (HH1.out.below hG)
    clear hG
    simp only [Rs.canon, Rs.dstOf, List.range_succ, List.range_zero, List.nil_append, List.cons_append, List.foldl_cons, List.foldl_nil, List.drop_succ_cons, List.drop_zero, List.drop_nil, List.getElem?_toArray, List.getElem?_cons_succ, List.getElem?_cons_zero, Option.bind_some, Act.put, List.getD_cons_succ, List.getD_cons_zero, List.setIfInBounds_toArray, List.set_cons_succ, List.set_cons_zero]
    clear k0 k1 hq0 HPL
    go_wp2
    go_ret2
    exact ⟨rfl, HH2.out.bel⟩

def takesAns (R : Int × Int) : Value := .tuple #[.int .i64 (if R.1 = 0 then R.2 else 0), .int .i64 R.1]
set_option maxHeartbeats 2000000 in
set_option maxRecDepth 100000 in
theorem refTakes_loop (t : Hr.Town) (ok : t.Ok) (wind : Int) (w0 : 0 ≤ wind) (w4 : wind ≤ 4) (hc : checkErr t.wide t.plots = 0) (b o cap wb wo wc : Nat) (p : Nat) (hpl : p < t.len) (L : List Int) (hL : L.length ≤ 1000) (hp : plotErr t.plots p 0 = 0) (w : World) (hI : Ints w b o t.plots) (hH : Ints w wb wo ((p : Int) :: L)) :
    Calls Try.prog 35 #[.agg #[.int .i64 t.wide, .slice (some ⟨b, o, none⟩) t.plots.length cap], .int .i64 wind, .slice (some ⟨wb, wo, none⟩) (L.length + 1) wc] w fun e w' =>
      e = .returned (takesAns (tkAll t wind p 0 L)) ∧ Below w.heap.size w w' := by
  obtain ⟨R, hR⟩ : ∃ R, R = tkAll t wind p 0 L := ⟨_, rfl⟩
  rw [← hR]
  have HR := Lib.hid hR
  clear hR
  obtain ⟨q, hqp⟩ : ∃ q : Int, q = p := ⟨_, rfl⟩
  rw [← hqp] at hH hp
  have h30 := ok.n30
  have HB := Lib.hid (below1 w (.cells #[.int .i64 t.wide, .slice (some ⟨b, o, none⟩) t.plots.length cap] 33))
  have hH : RhI t b o cap w wb wo (q :: L) (w.alloc (.cells #[.int .i64 t.wide, .slice (some ⟨b, o, none⟩) t.plots.length cap] 33)) := ⟨heap_alloc_last _ _, hI.below HB.out hI.1, hH.below HB.out hH.1, HB.out⟩
  have HH := Lib.hid hH
  have hplen : t.plots.length = t.len := rfl
  have HSD := Lib.hid (fun W (hB : Below w.heap.size w W) => refCheck_any t.wide (some ⟨b, o, none⟩) cap t.plots (by omega) W (RdI.mk' (hI.below hB hI.1) (by omega)))
  rw [hc] at HSD
  have HPL0 := Lib.hid (fun W (hB : Below w.heap.size w W) => refIs_any t.wide (some ⟨b, o, none⟩) cap t.plots q 0 (by omega) W (RdI.mk' (hI.below hB hI.1) (by omega)))
  rw [hp] at HPL0
  clear hp
  have hn0 : (0 : Int) < L.length + 1 := by omega
  have hn1 : ((L.length : Int) + 1 == 0) = false := by simp; omega
  clear hI hH hc hplen
  go_enter Try.func35, Try.ntmps35
  go_wp2_with fail
  refine (HSD.out _ HB.out).mono ?_
  rintro e w1 ⟨rfl, hB⟩
  have hH1 := HH.out.below hB
  have HH1 := Lib.hid hH1
  clear hB HB HH HSD hH1
  go_wp2_with fail
  refine (off_any _ _ _ _ false (offB_no w0 w4)).mono ?_
  rintro e w' ⟨rfl, rfl⟩
  obtain ⟨k0, k1⟩ := HH1.out.cs
  have hq0 := HH1.out.tab.2 0 (by simp)
  rw [show (q :: L).getD 0 0 = q from rfl, Nat.add_zero] at hq0
  have hlw : w.heap.size < w1.heap.size := (Array.getElem?_eq_some_iff.1 HH1.out.box).1
  have hwb : wb < w1.heap.size := HH1.out.tab.1
  have HPL := Lib.hid (fun W (hB2 : Below w1.heap.size w1 W) => HPL0.out W (join HH1.out.bel hB2))
  clear HPL0
  go_wp2_with fail
  refine Rs.region_det 6 [[], [], [1], [1, 2], [0, 1, 2, 3], [0, 1, 2, 3, 4]] [some 22, some 23, some 24, some 25, some 26, some 27]
    (fun i => [.agg #[.int .i64 t.wide, .slice (some ⟨b, o, none⟩) t.plots.length cap], .slice (some ⟨wb, wo, none⟩) (L.length + 1) wc, .pointer (some ⟨wb, wo, none⟩), .int .i64 q, .int .i64 0, .bool false].getD i undef) (by kernel_rfl) (by kernel_rfl) rfl ?_ ?_
  · refine ⟨.plain rfl ?_, .plain rfl ?_, .plain rfl ?_, .plain rfl ?_, .on rfl (fun w' hG => Rs.GrowR.call (f := 37) (args := #[.agg #[.int .i64 t.wide, .slice (some ⟨b, o, none⟩) t.plots.length cap], .int .i64 q, .int .i64 0]) ?_ (HPL.out w' hG)), .plain rfl ?_, trivial⟩
    case refine_5 => simp [go_sem, Rs.look]
    all_goals
      intro w' hG
      obtain ⟨hcG, hfG⟩ := kept hG
      simp [go_sem, Rs.look, hcG, hfG, k0, k1, hlw, hwb, hq0, hn0]
  · intro w2 hG
    have HH2 := Lib.hid (HH1.out.below hG)
    clear hG
    simp only [Rs.canon, Rs.dstOf, List.range_succ, List.range_zero, List.nil_append, List.cons_append, List.foldl_cons, List.foldl_nil, List.drop_succ_cons, List.drop_zero, List.drop_nil, List.getElem?_toArray, List.getElem?_cons_succ, List.getElem?_cons_zero, Option.bind_some, Act.put, List.getD_cons_succ, List.getD_cons_zero, List.setIfInBounds_toArray, List.set_cons_succ, List.set_cons_zero]
    clear k0 k1 hq0 HPL
    subst hqp
    go_wp2
    go_loopw [9, 10] (fun sm i wr => ∃ (k p' : Nat) (s' : Int), k ≤ L.length ∧ i = .int .i64 ((k + 1 : Nat) : Int) ∧ sm = .int .i64 s' ∧ ((p : Int) :: L).getD k 0 = p' ∧ p' < t.len ∧ 0 ≤ s' ∧ s' ≤ 5 * k ∧ tkAll t wind p 0 L = tkAll t wind p' s' (L.drop k) ∧ RhI t b o cap w wb wo ((p : Int) :: L) wr) (fun _ i _ => L.length + 1 - (intOf i).toNat)
    case atStart => exact ⟨0, p, 0, Nat.zero_le _, rfl, rfl, rfl, hpl, by omega, by omega, rfl, HH2.out⟩
    case round =>
      obtain ⟨k, p', s', hk, rfl, rfl, hat, hp', hs0, hs1, hf, hW⟩ := hrel
      clear HH1 HH2
      have HF := Lib.hid hf
      have HW := Lib.hid hW
      have HAT := Lib.hid hat
      by_cases hlt : k < L.length
      · obtain ⟨x, hx⟩ : ∃ x, L.getD k 0 = x := ⟨_, rfl⟩
        have c1 := HW.out.tab.2 k (by simp; omega)
        have c2 := HW.out.tab.2 (k + 1) (by simp; omega)
        rw [hat] at c1
        rw [show ((p : Int) :: L).getD (k + 1) 0 = x from hx] at c2
        have hdrop : L.drop k = x :: L.drop (k + 1) := by
          rw [List.drop_eq_getElem_cons hlt, ← hx]; simp [List.getElem?_eq_getElem hlt]
        have HDR := Lib.hid hdrop
        have hlt' : (k : Int) + 1 < L.length + 1 := by omega
        have hwb' : wb < wr.heap.size := HW.out.tab.1
        have hlw' : w.heap.size < wr.heap.size := (Array.getElem?_eq_some_iff.1 HW.out.box).1
        have HST := Lib.hid (fun W (hB : Below wr.heap.size wr W) => refStep_any t ok wind p' x b o cap W (HW.out.below hB).ints)
        have hbd := stepZ_bd ok (wind := wind) hp' (q := x)
        have HBD := Lib.hid hbd
        have HX := Lib.hid hx
        obtain ⟨k0, k1⟩ := HW.out.cs
        have hkk : ((k + 1 : Nat) : Int) = (k : Int) + 1 := by push_cast; rfl
        rw [hkk]
        have hsub : (k : Int) + 1 - 1 = k := by omega
        have hk0 : (0 : Int) ≤ (k : Int) + 1 := by omega
        have hkt : ((k : Int) + 1).toNat = k + 1 := by omega
        have hkl : (k : Int) < L.length + 1 := by omega
        have hwr : IntKind.i64.wrap ((k : Int) + 1 - 1) = k := by rw [hsub]; exact IntWalk.i64_in _ (by omega)
        have hwk : IntKind.i64.wrap (k : Int) = k := IntWalk.i64_in _ (by omega)
        clear hx hf hW hat hdrop hbd hkk
        go_wp2_with fail
        refine Rs.region_det 12 [[], [], [], [], [3], [2, 3, 4], [2, 3, 4, 5], [], [], [7, 8], [7, 8, 9], [0, 1, 2, 3, 4, 5, 6, 7, 8, 9, 10]] [some 34, some 35, some 36, some 37, some 38, some 39, some 40, some 41, some 42, some 43, some 44, some 45]
          (fun i => [.agg #[.int .i64 t.wide, .slice (some ⟨b, o, none⟩) t.plots.length cap], .int .i64 wind, .slice (some ⟨wb, wo, none⟩) (L.length + 1) wc, .int .i64 (k + 1), .int .i64 k, .pointer (some ⟨wb, wo + k, none⟩), .int .i64 p', .slice (some ⟨wb, wo, none⟩) (L.length + 1) wc, .int .i64 (k + 1), .pointer (some ⟨wb, wo + (k + 1), none⟩), .int .i64 x, .int .i64 (stepZ t wind p' x)].getD i undef) (by kernel_rfl) (by kernel_rfl) rfl ?_ ?_
        · refine ⟨.plain rfl ?_, .plain rfl ?_, .plain rfl ?_, .plain rfl ?_, .plain rfl ?_, .plain rfl ?_, .plain rfl ?_, .plain rfl ?_, .plain rfl ?_, .plain rfl ?_, .plain rfl ?_, .on rfl (fun w' hG => Rs.GrowR.call (f := 93) (args := #[.agg #[.int .i64 t.wide, .slice (some ⟨b, o, none⟩) t.plots.length cap], .int .i64 wind, .int .i64 p', .int .i64 x]) ?_ (HST.out w' hG)), trivial⟩
          case refine_12 => simp [go_sem, Rs.look]
          all_goals
            intro w' hG
            obtain ⟨hcG, hfG⟩ := kept hG
            simp [go_sem, Rs.look, hcG, hfG, k0, k1, hlw', hwb', c1, c2, hlt', hkl, hk0, hkt, hwr, hsub, hwk]
        · intro w5 hG
          have HW5 := Lib.hid (HW.out.below hG)
          clear hG
          simp only [Rs.canon, Rs.dstOf, List.range_succ, List.range_zero, List.nil_append, List.cons_append, List.foldl_cons, List.foldl_nil, List.drop_succ_cons, List.drop_zero, List.drop_nil, List.getElem?_toArray, List.getElem?_cons_succ, List.getElem?_cons_zero, Option.bind_some, Act.put, List.getD_cons_succ, List.getD_cons_zero, List.setIfInBounds_toArray, List.set_cons_succ, List.set_cons_zero]
          generalize hn : stepZ t wind p' x = n at HBD ⊢
          have HN := Lib.hid hn
          clear hn k0 k1 c1 c2 hwr hsub hkt hwk HST
          by_cases h0 : n = 0
          · subst h0
            have hq : R = (8, s') := by rw [HR.out, HF.out, HDR.out, tkAll, if_pos HN.out]
            have HQ := Lib.hid hq
            clear hq
            go_wp2
            go_ret2
            exact ⟨by rw [HQ.out]; rfl, HW5.out.bel⟩
          · have hq : tkAll t wind p 0 L = tkAll t wind x.toNat (s' + n) (L.drop (k + 1)) := by rw [HF.out, HDR.out, tkAll, HN.out, if_neg h0]
            obtain ⟨b1, b2, b3, b4⟩ := HBD.out h0
            have h0' : (n == 0) = false := by simpa using h0
            have HQ := Lib.hid hq
            clear hq h0
            go_wp2
            go_roundw
            case rel => exact ⟨k + 1, x.toNat, s' + n, by omega, by push_cast; rfl, rfl, by rw [show ((p : Int) :: L).getD (k + 1) 0 = x from HX.out]; omega, b2, by omega, by push_cast; omega, HQ.out, HW5.out⟩
            case measure => simp [intOf]; omega
      · have hkk : k = L.length := by omega
        clear hf hW hat
        subst hkk
        have hq : R = (0, s') := by rw [HR.out, HF.out, List.drop_length]; rfl
        have HQ := Lib.hid hq
        have hlen1 : (((L.length + 1 : Nat)) : Int) = (L.length : Int) + 1 := by push_cast; rfl
        rw [hlen1]
        clear hq hlen1
        go_wp2
        go_ret2
        exact ⟨by rw [HQ.out]; rfl, HW.out.bel⟩

set_option maxHeartbeats 2000000 in
set_option maxRecDepth 100000 in
theorem refTakes_err (wd wind : Int) (a : Option Addr) (cap : Nat) (xs : List Int) (tv : Value) (hl : xs.length ≤ 1000000) (w : World) (hR : RdI w (.slice a xs.length cap) xs) (hc : openErr wd xs wind 40 ≠ 0) :
    Calls Try.prog 35 #[.agg #[.int .i64 wd, .slice a xs.length cap], .int .i64 wind, tv] w fun e w' => e = .returned (.tuple #[.int .i64 0, .int .i64 (openErr wd xs wind 40)]) ∧ Below w.heap.size w w' := by
  have HB := Lib.hid (below1 w (.cells #[.int .i64 wd, .slice a xs.length cap] 33))
  have HSD := Lib.hid (refCheck_any wd a cap xs hl _ (hR.below HB.out))
  unfold openErr at *
  rw [air40] at *
  by_cases h1 : checkErr wd xs = 0
  · rw [if_neg (by rw [h1]; simp)] at hc ⊢
    rw [h1] at HSD
    have hw : wind < 0 ∨ 4 < wind := by
      unfold windE at hc
      by_cases h : wind < 0 ∨ 4 < wind
      · exact h
      · rw [if_neg h] at hc; exact absurd rfl hc
    have hr : windE wind = 3 := by unfold windE; rw [if_pos hw]
    rw [hr]
    clear hr hc h1 hR
    go_enter Try.func35, Try.ntmps35
    go_wp2_with fail
    refine HSD.out.mono ?_
    rintro e w1 ⟨rfl, hB⟩
    have HB1 := Lib.hid (join HB.out hB)
    clear hB HB HSD
    go_wp2_with fail
    refine (off_any _ _ _ _ true (offB_yes hw)).mono ?_
    rintro e w' ⟨rfl, rfl⟩
    go_wp2
    go_ret2
    exact ⟨rfl, HB1.out⟩
  · rw [if_pos h1]
    generalize checkErr wd xs = E at h1 HSD ⊢
    have h2 : (E != 0) = true := by simpa using h1
    clear h1 hc hR
    go_enter Try.func35, Try.ntmps35
    go_wp2_with fail
    refine HSD.out.mono ?_
    rintro e w1 ⟨rfl, hB⟩
    have HB1 := Lib.hid (join HB.out hB)
    clear hB HB HSD
    go_wp2
    go_ret2
    exact ⟨rfl, HB1.out⟩
set_option maxHeartbeats 2000000 in
set_option maxRecDepth 100000 in
theorem refTakes_none (wd wind : Int) (a a2 : Option Addr) (cap cap2 : Nat) (xs : List Int) (hl : xs.length ≤ 1000000) (w : World) (hR : RdI w (.slice a xs.length cap) xs) (hc : checkErr wd xs = 0) (w0 : 0 ≤ wind) (w4 : wind ≤ 4) :
    Calls Try.prog 35 #[.agg #[.int .i64 wd, .slice a xs.length cap], .int .i64 wind, .slice a2 0 cap2] w fun e w' => e = .returned (.tuple #[.int .i64 0, .int .i64 2]) ∧ Below w.heap.size w w' := by
  have HB := Lib.hid (below1 w (.cells #[.int .i64 wd, .slice a xs.length cap] 33))
  have HSD := Lib.hid (refCheck_any wd a cap xs hl _ (hR.below HB.out))
  rw [hc] at HSD
  clear hc hR
  go_enter Try.func35, Try.ntmps35
  go_wp2_with fail
  refine HSD.out.mono ?_
  rintro e w1 ⟨rfl, hB⟩
  have HB1 := Lib.hid (join HB.out hB)
  clear hB HB HSD
  go_wp2_with fail
  refine (off_any _ _ _ _ false (offB_no w0 w4)).mono ?_
  rintro e w' ⟨rfl, rfl⟩
  go_wp2
  go_ret2
  exact ⟨rfl, HB1.out⟩
/-- the reference's Takes, whatever comes in -/
theorem refTakes_any (wd wind : Int) (a a2 : Option Addr) (cap cap2 : Nat) (xs ws : List Int) (hl : xs.length ≤ 1000000) (hw : ws.length ≤ 1001) (w : World) (hR : RdI w (.slice a xs.length cap) xs) (hT : RdI w (.slice a2 ws.length cap2) ws) :
    Calls Try.prog 35 #[.agg #[.int .i64 wd, .slice a xs.length cap], .int .i64 wind, .slice a2 ws.length cap2] w fun e w' => e = .returned (.tuple #[.int .i64 (takesV wd xs wind ws), .int .i64 (takesE wd xs wind ws)]) ∧ Below w.heap.size w w' := by
  by_cases h : openErr wd xs wind 40 = 0
  · obtain ⟨h1, h2⟩ := openErr_ok h
    have hne : xs ≠ [] := by rintro rfl; have := (check_len h1).2; simp at this
    obtain ⟨w0, w4, _, _⟩ := wind_ok h2
    cases ws with
    | nil =>
      have e1 : takesE wd xs wind [] = 2 := by unfold takesE; rw [if_neg (by rw [h]; simp)]
      have e2 : takesV wd xs wind [] = 0 := by unfold takesV; rw [e1]; rfl
      rw [e1, e2]
      exact refTakes_none wd wind a a2 cap cap2 xs hl w hR h1 w0 w4
    | cons q L =>
      obtain ⟨b, o, rfl, _, hI⟩ := rd_ints hR hne
      obtain ⟨t, -, hw', hx, ok⟩ := town_name h1
      subst hw' hx
      obtain ⟨wb, wo, rfl, _, hI2⟩ := rd_ints hT (by simp)
      simp only [List.length_cons] at hw ⊢
      by_cases hp : plotErr t.plots q 0 = 0
      · have e1 : takesE t.wide t.plots wind (q :: L) = (tkAll t wind q.toNat 0 L).1 := by unfold takesE; simp [h, hp, townOf_self]
        have e2 : takesV t.wide t.plots wind (q :: L) = if (tkAll t wind q.toNat 0 L).1 = 0 then (tkAll t wind q.toNat 0 L).2 else 0 := by unfold takesV; rw [e1, townOf_self]
        rw [e1, e2]
        obtain ⟨p, rfl, hp2, _⟩ := plot_ok hp
        rw [Int.toNat_natCast]
        exact refTakes_loop t ok wind w0 w4 h1 b o cap wb wo cap2 p hp2 L (by omega) hp w hI hI2
      · have e1 : takesE t.wide t.plots wind (q :: L) = 8 := by unfold takesE; simp [h, hp]
        have e2 : takesV t.wide t.plots wind (q :: L) = 0 := by unfold takesV; rw [e1]; rfl
        rw [e1, e2]
        exact refTakes_plot t ok wind w0 w4 h1 b o cap wb wo cap2 q L (by omega) hp w hI hI2
  · have e1 : takesE wd xs wind ws = openErr wd xs wind 40 := by unfold takesE; rw [if_pos h]
    have e2 : takesV wd xs wind ws = 0 := by unfold takesV; rw [e1, if_neg h]
    rw [e1, e2]
    exact refTakes_err wd wind a cap xs _ hl w hR h
end Go.Proofs.Ytimedmkpenbmkaa
