/- HearLouder holds: for any numbers, tries and loudness the law returns true, and what was passed in reads as before. No conditions. -/
import Derived.Test.YtimedmkpenbmkaaFz
import Derived.Deep.CutRange
import Derived.Deep.DeepCutAuto
namespace Go.Proofs.Ytimedmkpenbmkaa
open Go.RowKit Go.Shelf
set_option linter.unusedSimpArgs false
set_option linter.unusedVariables false

/-! some stands of a town, drawn and sorted -/
def mxU (A : List Int) (out : List Nat) (k : Nat) : List Int := (out.take k).map fun i => A.getD i 0
theorem mxU_len {A : List Int} {out : List Nat} {k : Nat} (h : k ≤ out.length) : (mxU A out k).length = k := by unfold mxU; rw [List.length_map, List.length_take]; omega
theorem mxU_next {A : List Int} {out : List Nat} {k : Nat} (h : k < out.length) : mxU A out (k + 1) = mxU A out k ++ [A.getD (out.getD k 0) 0] := by
  unfold mxU
  rw [List.take_succ_eq_append_getElem h, List.map_append, List.getD_eq_getElem?_getD (l := out), List.getElem?_eq_getElem h]
  rfl
theorem mxU_sub {A : List Int} {out : List Nat} (h : out.Perm (List.range A.length)) (k : Nat) (hn : A.Nodup) : (mxU A out k).Nodup ∧ ∀ x ∈ mxU A out k, x ∈ A := by
  have hl : out.length = A.length := by have := h.length_eq; simpa using this
  have e : (List.range A.length).map (fun i => A.getD i 0) = A := by
    apply List.ext_getElem (by simp)
    intro i h1 h2
    rw [List.getElem_map, List.getElem_range, List.getD_eq_getElem?_getD, List.getElem?_eq_getElem h2]; rfl
  have hp := h.map fun i => A.getD i 0
  rw [e] at hp
  have hs : (mxU A out k).Sublist (out.map fun i => A.getD i 0) := by unfold mxU; exact (List.take_sublist k out).map _
  exact ⟨hs.nodup (hp.nodup_iff.2 hn), fun x hx => hp.mem_iff.1 (hs.subset hx)⟩
theorem sort_spec {t : Hr.Town} {l : List Int} (hn : l.Nodup) (hm : ∀ x ∈ l, x ∈ kindIdx t.plots 0) : ∃ O : List Nat, (l.mergeSort fun x y => decide (x ≤ y)) = natI O ∧ O.Pairwise (· < ·) ∧ (∀ s ∈ O, s < t.len ∧ t.at s = 0) ∧ O.length = l.length := by
  have hp := List.mergeSort_perm l fun x y => decide (x ≤ y)
  have hs : (l.mergeSort fun x y => decide (x ≤ y)).Pairwise (fun x y => decide (x ≤ y) = true) := List.pairwise_mergeSort (by intro a b c; simp; omega) (by intro a b; simp; omega) l
  have hn2 : (l.mergeSort fun x y => decide (x ≤ y)).Nodup := hp.nodup_iff.2 hn
  generalize (l.mergeSort fun x y => decide (x ≤ y)) = ys at hp hs hn2
  have hc : ∀ x ∈ ys, ∃ p : Nat, x = p ∧ p < t.len ∧ t.at p = 0 := fun x hx => by
    obtain ⟨p, e, h1, h2⟩ := mem_kindIdx.1 (hm x (hp.mem_iff.1 hx))
    exact ⟨p, e, h1, h2⟩
  have hy : natI (ys.map Int.toNat) = ys := by
    unfold natI
    rw [List.map_map]
    conv => rhs; rw [← List.map_id ys]
    apply List.map_congr_left
    intro x hx
    obtain ⟨p, rfl, _⟩ := hc x hx
    rfl
  refine ⟨ys.map Int.toNat, hy.symm, ?_, fun s hs => ?_, by rw [List.length_map]; exact hp.length_eq⟩
  · rw [List.pairwise_map]
    unfold List.Nodup at hn2
    refine List.Pairwise.imp_of_mem (fun {a b} ha hb h => ?_) (hs.and hn2)
    obtain ⟨p, rfl, _⟩ := hc a ha
    obtain ⟨q, rfl, _⟩ := hc b hb
    have h1 : (p : Int) ≤ (q : Int) := by simpa using h.1
    have h2 := h.2
    omega
  · obtain ⟨x, hx, rfl⟩ := List.mem_map.1 hs
    obtain ⟨p, rfl, h1, h2⟩ := hc x hx
    exact ⟨h1, h2⟩

set_option maxHeartbeats 4000000 in
set_option maxRecDepth 100000 in
theorem some_any (bl : Nat) (ma : Option Addr) (n mc : Nat) (t : Hr.Town) (ok : t.Ok) (b o pc : Nat) (most : Nat) (hm : most ≤ 30) (w : World) (hb : BellOk w bl ma n mc) (hma : n ≠ 0 → ∀ mb mo, ma = some ⟨mb, mo, none⟩ → mb < w.heap.size) (hR : RdI w (.slice (some ⟨b, o, none⟩) t.plots.length pc) t.plots) :
    Calls Try.prog 69 #[.pointer (some ⟨bl, 0, none⟩), .agg #[.int .i64 t.wide, .slice (some ⟨b, o, none⟩) t.plots.length pc], .int .i64 most] w fun e w' => ∃ v O, e = .returned v ∧ RdI w' v (natI O) ∧ O.Pairwise (· < ·) ∧ (∀ s ∈ O, s < t.len ∧ t.at s = 0) ∧ O.length ≤ most ∧ BellOk w' bl ma n mc ∧ Aft bl w w' := by
  obtain ⟨i0, hi, hz0, hz1, hz2⟩ := info_parts A_info3
  have hl30 : t.plots.length ≤ 30 := ok.n30
  have HBL := Lib.hid hb
  have HMA := Lib.hid hma
  have hbl := hb.lt
  obtain ⟨w1, hw1⟩ : ∃ w1 : World, w1 = w.alloc (.cells #[.int .i64 t.wide, .slice (some ⟨b, o, none⟩) t.plots.length pc] 24) := ⟨_, rfl⟩
  have hB1 : Below w.heap.size w w1 := by rw [hw1]; exact below1 _ _
  have hb4 : w1.heap[w.heap.size]? = some (.cells #[.int .i64 t.wide, .slice (some ⟨b, o, none⟩) t.plots.length pc] 24 (0, 0)) := by rw [hw1]; exact heap_alloc_last _ _
  have HR1 := Lib.hid (hR.below hB1)
  have HB1 := Lib.hid hB1
  have HW1 := Lib.hid hw1
  obtain ⟨k0, k1⟩ := blk_cells2 hb4
  have k2 : w.heap.size < w1.heap.size := (Array.getElem?_eq_some_iff.1 hb4).1
  have hL30 : (kindIdx t.plots 0).length ≤ 30 := by have := kindTo_len t.plots 0 t.plots.length; unfold kindIdx; omega
  have HND := Lib.hid (kind_nodup t.plots 0)
  obtain ⟨L, hL⟩ : ∃ L, L = kindIdx t.plots 0 := ⟨_, rfl⟩
  have HST := Lib.hid (streets_any t.wide (some ⟨b, o, none⟩) pc t.plots (by omega) w1 HR1.out)
  rw [← hL] at HST hL30 HND
  have HLQ := Lib.hid hL
  clear hb hma hR hB1 hb4 hw1 hL
  go_enter Try.func69, Try.ntmps69
  go_upto_region 1 with fail
  rw [← HW1.out]
  go_wp2_with fail
  refine HST.out.mono ?_
  rintro e w2 ⟨va, rfl, hoL, hB⟩
  have HOL := Lib.hid hoL
  obtain ⟨a7, p7, rfl⟩ := own_slice hoL
  have HBL2 := Lib.hid ((HBL.out.below HB1.out).below hB)
  have HA2 := Lib.hid (Aft.below (Aft.below (Aft.of (Hold.refl _ _)) HB1.out : Aft bl w w1) hB)
  have hz2' := hB.size
  clear hoL hB k0 k1 HST HR1
  go_wp2_with fail
  refine (rung_any bl ma n mc L.length hL30 w2 HBL2.out (fun hn mb mo e => by have := HMA.out hn mb mo e; omega)).mono ?_
  rintro e w3 ⟨v16, out, rfl, ho16, hperm, hbl3, hA3⟩
  have hz3 := hA3.size
  have HOL := Lib.hid (own_hold HOL.out hA3 (by omega))
  have HBL3 := Lib.hid hbl3
  have HA3 := Lib.hid (Hold.trans HA2.out hA3)
  have HO16 := Lib.hid ho16
  have HPM := Lib.hid hperm
  have hol : out.length = L.length := by have := hperm.length_eq; simpa using this
  obtain ⟨a16, p16, rfl⟩ := own_slice ho16
  clear ho16 hperm hbl3 hA3
  have hmin : ((min (most : Int) (L.length : Int))) = ((min most L.length : Nat) : Int) := by omega
  obtain ⟨q, hq⟩ : ∃ q, q = min most L.length := ⟨_, rfl⟩
  rw [← hq] at hmin
  have hq1 : q ≤ most := by omega
  have hq2 : q ≤ L.length := by omega
  clear hq
  go_wp2_with fail
  try rw [hmin]
  refine (stroke_z bl ma n mc q (by omega) (by omega) w3 HBL3.out).mono ?_
  rintro e w4 ⟨x, x0, x1, rfl, hb4, hH4⟩
  obtain ⟨x, rfl⟩ : ∃ z : Nat, x = z := ⟨x.toNat, by omega⟩
  have hz4 := hH4.size
  have HBL4 := Lib.hid hb4
  have HA4 := Lib.hid (Hold.trans HA3.out hH4)
  have HOL := Lib.hid (own_hold HOL.out hH4 (by omega))
  have HO16 := Lib.hid (own_hold HO16.out hH4 (by omega))
  have hxl : x ≤ L.length := by omega
  have hxm : x ≤ most := by omega
  have hcap : x ≤ p16 := by
    by_cases h0 : L.length = 0
    · omega
    · rcases HO16.out.2 with ⟨_, h1⟩ | ⟨g, cap', cur, h1, _, _, hn, _⟩
      · exact absurd h1 h0
      · injection h1 with _ _ h3
        omega
  have hxl' : (x : Int) ≤ L.length := by omega
  have hcap' : (x : Int) ≤ p16 := by omega
  have HRL := Lib.hid (RdI.own rfl rfl HOL.out)
  have HR16 := Lib.hid (show RdI w4 (.slice a16 L.length p16) (out.map fun (x : Nat) => (x : Int)) from RdI.own (by rw [List.length_map, hol]) (by unfold ints; rw [List.map_map]; rfl) HO16.out)
  clear hb4 hH4 x0 x1 hmin HA3 HBL3 HBL2 HA2
  go_wp2_with fail
  go_loopw [8, 25] (fun v i wr => ∃ k : Nat, k ≤ x ∧ i = .int .i64 k ∧ wr.ownsRow w4.heap.size 3 1 v (mxU L out k).length ((mxU L out k).map (Value.int .i64)) ∧ Below w4.heap.size w4 wr) (fun _ i _ => x - (intOf i).toNat)
  case atStart => exact ⟨0, Nat.zero_le _, rfl, own_none _ _ _ _, Below.refl _ _⟩
  case round =>
    obtain ⟨k, hk, rfl, hown, hB⟩ := hrel
    obtain ⟨wk, rfl⟩ : ∃ wk : World, wk = wr := ⟨_, rfl⟩
    have HO := Lib.hid hown
    have HB := Lib.hid hB
    have hzk := hB.size
    have hml := mxU_len (A := L) (out := out) (k := k) (by omega)
    by_cases hlt : k < x
    · have hlt' : (k : Int) < x := by omega
      obtain ⟨b1, o1, rfl, -, hI1⟩ := rd_ints (HRL.out.below hB) (by intro e; rw [e] at hxl; simp at hxl; omega)
      obtain ⟨b2, o2, rfl, -, hI2⟩ := rd_ints (HR16.out.below hB) (by intro e; have h0 := congrArg List.length e; rw [List.length_map, hol] at h0; exact absurd h0 (by show L.length ≠ 0; omega))
      obtain ⟨y, hy⟩ : ∃ y : Nat, out.getD k 0 = y := ⟨_, rfl⟩
      have hyl : y < L.length := by
        have h1 : out.getD k 0 ∈ out := by rw [List.getD_eq_getElem?_getD, List.getElem?_eq_getElem (by omega)]; exact List.getElem_mem _
        rw [hy, HPM.out.mem_iff, List.mem_range] at h1
        exact h1
      have hyl' : (y : Int) < L.length := by omega
      have c2 := hI2.2 k (by rw [List.length_map, hol]; omega)
      have e2 : (out.map fun (x : Nat) => (x : Int)).getD k 0 = (y : Int) := by
        rw [← hy, List.getD_eq_getElem?_getD, List.getD_eq_getElem?_getD, List.getElem?_map, List.getElem?_eq_getElem (by omega : k < out.length)]; rfl
      rw [e2] at c2
      have c1 := hI1.2 y hyl
      have hb1 := hI1.1
      have hb2 := hI2.1
      obtain ⟨z, hz⟩ : ∃ z, L.getD y 0 = z := ⟨_, rfl⟩
      rw [hz] at c1
      have HNX : Hid (mxU L out (k + 1) = mxU L out k ++ [z]) := Lib.hid (by rw [mxU_next (by omega), hy, hz])
      clear hI1 hI2 e2 hy hz hown hB
      go_wp2_with (at_builtin; refine wpList_append_own _ rfl _ _ 31 rfl w4.heap.size 3 i0 (.int .i64 0) 1 8 A_und31 hi hz0 hz1 hz2 rfl (by decide) _ _ _ rfl (HO.out.alloc _) ⟨wk.heap.size, 0, none⟩ 1 1 [.int .i64 z] rfl rfl ?d1 ?d2 ?d3 ?d4 ?d5 ?_)
      case d1 =>
        intro j u hj
        match j, hj with
        | 0, hj => simp at hj; subst hj; simp [Addr.add]
      case d2 => intro u hu; simp at hu; subst hu; rfl
      case d3 => unfold maxLen; omega
      case d4 => omega
      case d5 => first | omega | (simp; omega)
      intro v' w8 hown8 hgrow _
      have hB8 := below_grown (al2 HB.out (by omega) _) (HO.out.alloc _) (Nat.le_refl _) (by simp; omega) hgrow
      have HO8 := Lib.hid hown8
      have HB8 := Lib.hid hB8
      clear hgrow hown8 hB8
      go_wp2_with fail
      go_roundw
      case rel => exact ⟨k + 1, by omega, by simp, by rw [HNX.out, List.length_append, hml]; simpa using HO8.out, HB8.out⟩
      case measure => simp [intOf]; omega
    · obtain rfl : k = x := by omega
      obtain ⟨hnd, hsub⟩ := mxU_sub HPM.out k HND.out
      have hsub' : ∀ z ∈ mxU L out k, z ∈ kindIdx t.plots 0 := fun z hz => by rw [← HLQ.out]; exact hsub z hz
      have HSP := Lib.hid (sort_spec hnd hsub')
      have HSO := Lib.hid (sort_any w4.heap.size u8 (mxU L out k) (by omega) wk HO.out)
      have HML := Lib.hid hml
      have HA5 := Lib.hid (aft_below HA4.out (show Below w.heap.size w4 wk from ⟨HB.out.os, HB.out.tape, HB.out.output, HB.out.size, fun j hj => HB.out.block j (by omega)⟩))
      have HBL5 := Lib.hid (HBL4.out.below HB.out)
      clear hown hB hnd hsub hsub' hml
      go_wp2_with fail
      refine HSO.out.mono ?_
      rintro e w9 ⟨rfl, hrd, g, hg, hA9⟩
      have HBL9 := Lib.hid (HBL5.out.hold hA9 (show bl ≠ g by omega) (fun hn mb mo e => by have := HMA.out hn mb mo e; show mb ≠ g; omega))
      have HA9 := Lib.hid (aft_below HA5.out (Aft.low hA9 (show w.heap.size ≤ g by omega) (by omega)))
      have HRD := Lib.hid hrd
      clear hrd hA9
      go_wp2_with fail
      go_ret
      obtain ⟨O, h1, h2, h3, h4⟩ := HSP.out
      exact ⟨_, O, rfl, by rw [← h1]; exact HRD.out, h2, h3, by rw [h4, HML.out]; omega, HBL9.out, HA9.out⟩
end Go.Proofs.Ytimedmkpenbmkaa

namespace Go.Proofs.Ytimedmkpenbmkaa
open Go.RowKit Go.Shelf
set_option linter.unusedSimpArgs false
set_option linter.unusedVariables false

/-! the calls for all houses of a town -/
theorem houses_named {t : Hr.Town} (ok : t.Ok) (hc : checkErr t.wide t.plots = 0) : Named t (kindIdx t.plots 1) := ⟨ok, hc, fun _ h => h, kind_nodup _ _⟩
theorem lis_inH (t : Hr.Town) (wind voice : Int) : lis t wind voice (inL (kindIdx t.plots 1)) = lis t wind voice fun _ => true := by
  unfold lis lisTo
  congr 1
  apply List.filter_congr
  intro p hp
  have hp := List.mem_range.1 hp
  by_cases h1 : t.at p = 1
  · have : inL (kindIdx t.plots 1) p = true := by unfold inL; rw [decide_eq_true_iff]; exact mem_kindIdx.2 ⟨p, rfl, hp, h1⟩
    rw [this]
  · have : (t.at p == 1) = false := by simpa using h1
    rw [this, Bool.false_and, Bool.false_and]
theorem Few_h {t : Hr.Town} (ok : t.Ok) (hc : checkErr t.wide t.plots = 0) (wind voice : Int) (ha : airErr wind voice = 0) (b o cap : Nat) (a : Option Addr) (hcap : Nat) (w : World) (hP : RdI w (.slice (some ⟨b, o, none⟩) t.plots.length cap) t.plots)
    (hR : RdI w (.slice a (kindIdx t.plots 1).length hcap) (kindIdx t.plots 1)) :
    Calls Try.prog 46 #[.agg #[.int .i64 t.wide, .slice (some ⟨b, o, none⟩) t.plots.length cap], .agg #[.int .i64 wind, .int .i64 voice], .slice a (kindIdx t.plots 1).length hcap] w fun e w' =>
      ∃ v X, e = .returned (.tuple #[v, .int .i64 (firstE (lis t wind voice fun _ => true))]) ∧ Below w.heap.size w w' ∧ RdI w' v X ∧ (firstE (lis t wind voice fun _ => true) = 0 → X = (chooseP (lis t wind voice fun _ => true) 30).1) := by
  have h := houses_named ok hc
  obtain ⟨hI, hOQ⟩ := named_OQ h wind voice ha b o cap a hcap w hP hR
  obtain ⟨w0, w4, v1, v40⟩ := wind_ok ha
  obtain ⟨-, hnl, hl⟩ := lis_named h.ok wind voice h.all h.nd
  refine (Fewest_ok t h.ok wind voice w0 w4 b o cap _ (qN t (kindIdx t.plots 1)) hnl w hI hOQ).mono ?_
  rintro e w' ⟨v, rfl, hB, h1, h2⟩
  change lis t wind voice ((qN t (kindIdx t.plots 1)).getD · false) = _ at hl
  rw [hl, lis_inH] at h1 h2 ⊢
  by_cases h0 : firstE (lis t wind voice fun _ => true) = 0
  · exact ⟨v, _, rfl, hB, RdI.own rfl rfl (h2 h0), fun _ => rfl⟩
  · refine ⟨v, [], rfl, hB, ?_, fun e => absurd e h0⟩
    rw [h1 h0]
    exact ⟨by simp, none, 0, rfl, fun h => absurd rfl h⟩
theorem Best_h {t : Hr.Town} (ok : t.Ok) (hc : checkErr t.wide t.plots = 0) (wind voice : Int) (ha : airErr wind voice = 0) (b o cap : Nat) (a : Option Addr) (hcap : Nat) (st : Nat) (hst : st ≤ 30) (w : World) (hP : RdI w (.slice (some ⟨b, o, none⟩) t.plots.length cap) t.plots)
    (hR : RdI w (.slice a (kindIdx t.plots 1).length hcap) (kindIdx t.plots 1)) :
    Calls Try.prog 52 #[.agg #[.int .i64 t.wide, .slice (some ⟨b, o, none⟩) t.plots.length cap], .agg #[.int .i64 wind, .int .i64 voice], .slice a (kindIdx t.plots 1).length hcap, .int .i64 st] w fun e w' =>
      ∃ v, e = .returned (.tuple #[v, .int .i64 (chooseP (lis t wind voice fun _ => true) st).2, .int .i64 0]) ∧ Below w.heap.size w w' ∧ w'.ownsRow w.heap.size 3 1 v (chooseP (lis t wind voice fun _ => true) st).1.length ((chooseP (lis t wind voice fun _ => true) st).1.map (Value.int .i64)) := by
  have h := houses_named ok hc
  obtain ⟨hI, hOQ⟩ := named_OQ h wind voice ha b o cap a hcap w hP hR
  obtain ⟨w0, w4, v1, v40⟩ := wind_ok ha
  obtain ⟨-, hnl, hl⟩ := lis_named h.ok wind voice h.all h.nd
  have hh := Best_ok t h.ok wind voice w0 w4 b o cap _ (qN t (kindIdx t.plots 1)) hnl st hst w hI hOQ
  change lis t wind voice ((qN t (kindIdx t.plots 1)).getD · false) = _ at hl
  rwa [hl, lis_inH] at hh
theorem Louder_h {t : Hr.Town} (ok : t.Ok) (hc : checkErr t.wide t.plots = 0) (wind : Int) (hw0 : 0 ≤ wind) (hw4 : wind ≤ 4) (b o cap : Nat) (a : Option Addr) (hcap : Nat) (st : Nat) (hst : st ≤ 30) (w : World) (hP : RdI w (.slice (some ⟨b, o, none⟩) t.plots.length cap) t.plots)
    (hR : RdI w (.slice a (kindIdx t.plots 1).length hcap) (kindIdx t.plots 1)) :
    Calls Try.prog 53 #[.agg #[.int .i64 t.wide, .slice (some ⟨b, o, none⟩) t.plots.length cap], .int .i64 wind, .slice a (kindIdx t.plots 1).length hcap, .int .i64 st] w fun e w' => e = .returned (louderAns (leastV t wind (fun _ => true) st)) ∧ Below w.heap.size w w' := by
  have h := houses_named ok hc
  have ha : airErr wind 40 = 0 := by unfold airErr; rw [if_neg (by omega)]
  obtain ⟨hI, hOQ⟩ := named_OQ h wind 40 ha b o cap a hcap w hP hR
  obtain ⟨-, hnl, -⟩ := lis_named h.ok wind 40 h.all h.nd
  have hh := Louder_ok t ok wind hw0 hw4 b o cap _ (qN t (kindIdx t.plots 1)) hnl st hst w hI hOQ
  have e : leastV t wind ((qN t (kindIdx t.plots 1)).getD · false) st = leastV t wind (fun _ => true) st := by
    unfold leastV
    refine lvF_congr (fun v => ?_) _ _
    have hl := (lis_named h.ok wind v h.all h.nd).2.2
    change lis t wind v ((qN t (kindIdx t.plots 1)).getD · false) = _ at hl
    rw [hl, lis_inH]
  rwa [e] at hh
theorem street_at {t : Hr.Town} (hc : checkErr t.wide t.plots = 0) {wind voice : Int} (ha : airErr wind voice = 0) {s : Nat} (hs : s < t.len) (h0 : t.at s = 0) : atE t.wide t.plots wind voice s 0 = 0 := by
  unfold atE openErr plotErr
  rw [hc, ha]
  have hs' : s < t.plots.length := hs
  have h0' : t.plots.getD s 0 = 0 := h0
  rw [if_neg (by simp), if_neg (by omega), Int.toNat_natCast, if_pos h0']
theorem street_houses {t : Hr.Town} (hc : checkErr t.wide t.plots = 0) {wind voice : Int} (ha : airErr wind voice = 0) {s : Nat} (hs : s < t.len) (h0 : t.at s = 0) : housesL t.wide t.plots wind voice s = housesOf t wind voice s := by
  unfold housesL
  rw [if_pos (street_at hc ha hs h0), townOf_self, Int.toNat_natCast]
theorem housesOf_len (t : Hr.Town) (wind voice : Int) (s : Nat) : (housesOf t wind voice s).length ≤ t.len := housesTo_len _ _ _ _ _
theorem entered65 : Entered 65 := fun args W => by kernel_rfl
set_option maxHeartbeats 1000000 in
theorem ask65 (c : Nat) (v : Value) (D : List Int) (W : World) (h : W.cell? ⟨c, 0, none⟩ = some v) (hR : RdI W v D) : AskI 65 (.pointer (some ⟨c, 0, none⟩)) (fun h => !D.contains h) W := by
  intro x
  have hl : c < W.heap.size := by
    rcases Nat.lt_or_ge c W.heap.size with h' | h'
    · exact h'
    · simp [World.cell?, Array.getElem?_eq_none h'] at h
  have HC := Lib.hid (contains_rd v D x W hR)
  obtain ⟨_, a, cap, rfl, -⟩ := hR
  go_enter Try.func65, Try.ntmps65
  go_wp2_with fail
  refine HC.out.mono ?_
  rintro e w1 ⟨rfl, hB⟩
  have HB := Lib.hid hB
  clear HC hB
  go_wp2_with fail
  go_ret
  refine ⟨?_, HB.out⟩
  show Ending.returned (.bool (!decide (x ∈ D))) = Ending.returned (.bool (!D.contains x))
  congr 3; rw [Bool.eq_iff_iff]; simp
/-- served, of natural numbers -/
theorem Served_n {t : Hr.Town} (ok : t.Ok) (hc : checkErr t.wide t.plots = 0) {wind voice : Int} (ha : airErr wind voice = 0) (b o cap : Nat) (a sa : Option Addr) (hcap cs : Nat) (O : List Nat) (hO : ∀ s ∈ O, s < t.len ∧ t.at s = 0) (hl : O.length ≤ 30) (w : World)
    (hP : RdI w (.slice (some ⟨b, o, none⟩) t.plots.length cap) t.plots) (hR : RdI w (.slice a (kindIdx t.plots 1).length hcap) (kindIdx t.plots 1)) (hS : RdI w (.slice sa (natI O).length cs) (natI O)) :
    Calls Try.prog 67 #[.agg #[.int .i64 t.wide, .slice (some ⟨b, o, none⟩) t.plots.length cap], .agg #[.int .i64 wind, .int .i64 voice], .slice a (kindIdx t.plots 1).length hcap, .slice sa (natI O).length cs] w fun e w' => e = .returned (.tuple #[.int .i64 (cntS (lis t wind voice fun _ => true) O : Nat), .bool true]) ∧ Below w.heap.size w w' := by
  have hn30 : t.plots.length ≤ 30 := ok.n30
  have h := served_ok t.wide wind voice (some ⟨b, o, none⟩) cap t.plots (by omega) a sa hcap cs (kindIdx t.plots 1) (natI O) (by have := kindTo_len t.plots 1 t.plots.length; unfold kindIdx; omega) (by rw [natI_len]; omega) w hP hR hS (fun s hs => by
    obtain ⟨p, hp, rfl⟩ := List.mem_map.1 hs
    exact street_at hc ha (hO p hp).1 (hO p hp).2)
  rwa [served_cnt ok hc ha O hO] at h
theorem sorted_get {l : List Nat} (h : l.Pairwise (· < ·)) : ∀ k, k + 1 < (natI l).length → (natI l).getD k 0 ≤ (natI l).getD (k + 1) 0 := fun k hk => by
  rw [natI_len] at hk
  have h1 := List.pairwise_iff_getElem.1 h k (k + 1) (by omega) hk (by omega)
  unfold natI
  rw [List.getD_eq_getElem?_getD, List.getD_eq_getElem?_getD, List.getElem?_map, List.getElem?_map, List.getElem?_eq_getElem (by omega : k < l.length), List.getElem?_eq_getElem hk]
  show ((l[k] : Nat) : Int) ≤ ((l[k + 1] : Nat) : Int)
  omega
theorem natI_get (l : List Nat) (k : Nat) : (natI l).getD k 0 = ((l.getD k 0 : Nat) : Int) := by
  unfold natI
  rw [List.getD_eq_getElem?_getD, List.getD_eq_getElem?_getD, List.getElem?_map]
  cases l[k]? <;> rfl
theorem bef_cmp {ch O : List Nat} (h : ch = O ∨ Bef ch O) : ∀ k, k < (natI O).length → (∀ i, i < k → (natI O).getD i 0 = (natI ch).getD i 0) → (natI ch).getD k 0 ≤ (natI O).getD k 0 := by
  intro k hk he
  rcases h with rfl | ⟨p, a, b, A', B', rfl, rfl, hab⟩
  · exact Int.le_refl _
  · rw [natI_get, natI_get]
    by_cases h1 : k < p.length
    · rw [List.getD_eq_getElem?_getD, List.getD_eq_getElem?_getD, List.getElem?_append_left h1, List.getElem?_append_left h1]
      exact Int.le_refl _
    · by_cases h2 : k = p.length
      · subst h2
        rw [List.getD_eq_getElem?_getD, List.getD_eq_getElem?_getD, List.getElem?_append_right (Nat.le_refl _), List.getElem?_append_right (Nat.le_refl _), Nat.sub_self]
        show ((a : Nat) : Int) ≤ ((b : Nat) : Int)
        omega
      · have h3 := he p.length (by omega)
        rw [natI_get, natI_get, List.getD_eq_getElem?_getD, List.getD_eq_getElem?_getD, List.getElem?_append_right (Nat.le_refl _), List.getElem?_append_right (Nat.le_refl _), Nat.sub_self] at h3
        have h4 : ((b : Nat) : Int) = ((a : Nat) : Int) := h3
        omega
end Go.Proofs.Ytimedmkpenbmkaa

namespace Go.Proofs.Ytimedmkpenbmkaa
open Go.RowKit Go.Shelf
set_option linter.unusedSimpArgs false
set_option linter.unusedVariables false

/-- what stands in a law of a town and an air -/
structure Mo (t : Hr.Town) (pv : Value) (c7 c8 : Nat) (wind voice : Int) (w W : World) : Prop where
  b7 : W.heap[c7]? = some (.cells #[.int .i64 t.wide, pv] 24 (0, 0))
  b8 : W.heap[c8]? = some (.cells #[.int .i64 wind, .int .i64 voice] 27 (0, 0))
  rp : RdI W pv t.plots
  bel : Below w.heap.size w W
theorem Mo.below {t : Hr.Town} {pv : Value} {c7 c8 : Nat} {wind voice : Int} {w W W' : World} (h : Mo t pv c7 c8 wind voice w W) (hB : Below W.heap.size W W') : Mo t pv c7 c8 wind voice w W' :=
  ⟨(hB.block _ (Array.getElem?_eq_some_iff.1 h.b7).1).trans h.b7, (hB.block _ (Array.getElem?_eq_some_iff.1 h.b8).1).trans h.b8, h.rp.below hB, join h.bel hB⟩
theorem Mo.aft {t : Hr.Town} {pv : Value} {c7 c8 : Nat} {wind voice : Int} {w W W' : World} {g : Nat} (h : Mo t pv c7 c8 wind voice w W) (hA : Aft g W W') (h7 : c7 ≠ g) (h8 : c8 ≠ g) (ho : Off g pv) (hg : w.heap.size ≤ g) : Mo t pv c7 c8 wind voice w W' :=
  ⟨(hA.same _ h7 (Array.getElem?_eq_some_iff.1 h.b7).1).trans h.b7, (hA.same _ h8 (Array.getElem?_eq_some_iff.1 h.b8).1).trans h.b8, h.rp.hold hA ho, h.bel.trans (Aft.low hA hg h.bel.size)⟩
theorem Mo.cs {t : Hr.Town} {pv : Value} {c7 c8 : Nat} {wind voice : Int} {w W : World} (h : Mo t pv c7 c8 wind voice w W) :
    W.cell? ⟨c7, 0, none⟩ = some (.int .i64 t.wide) ∧ W.cell? ⟨c7, 1, none⟩ = some pv ∧ W.cell? ⟨c8, 0, none⟩ = some (.int .i64 wind) ∧ W.cell? ⟨c8, 1, none⟩ = some (.int .i64 voice) ∧ c7 < W.heap.size ∧ c8 < W.heap.size := by
  obtain ⟨a, b⟩ := blk_cells2 h.b7
  obtain ⟨c, d⟩ := blk_cells2 h.b8
  exact ⟨a, b, c, d, (Array.getElem?_eq_some_iff.1 h.b7).1, (Array.getElem?_eq_some_iff.1 h.b8).1⟩
/-- .. and of a louder air, and of houses -/
structure Lo (t : Hr.Town) (pv : Value) (c7 c8 c12 : Nat) (wind voice lv : Int) (hv : Value) (w W : World) : Prop where
  mo : Mo t pv c7 c8 wind voice w W
  b12 : W.heap[c12]? = some (.cells #[.int .i64 wind, .int .i64 lv] 27 (0, 0))
  rh : RdI W hv (kindIdx t.plots 1)
theorem Lo.below {t : Hr.Town} {pv : Value} {c7 c8 c12 : Nat} {wind voice lv : Int} {hv : Value} {w W W' : World} (h : Lo t pv c7 c8 c12 wind voice lv hv w W) (hB : Below W.heap.size W W') : Lo t pv c7 c8 c12 wind voice lv hv w W' :=
  ⟨h.mo.below hB, (hB.block _ (Array.getElem?_eq_some_iff.1 h.b12).1).trans h.b12, h.rh.below hB⟩
theorem Lo.aft {t : Hr.Town} {pv : Value} {c7 c8 c12 : Nat} {wind voice lv : Int} {hv : Value} {w W W' : World} {g : Nat} (h : Lo t pv c7 c8 c12 wind voice lv hv w W) (hA : Aft g W W') (h7 : c7 ≠ g) (h8 : c8 ≠ g) (h12 : c12 ≠ g) (ho : Off g pv) (hoh : Off g hv) (hg : w.heap.size ≤ g) : Lo t pv c7 c8 c12 wind voice lv hv w W' :=
  ⟨h.mo.aft hA h7 h8 ho hg, (hA.same _ h12 (Array.getElem?_eq_some_iff.1 h.b12).1).trans h.b12, h.rh.hold hA hoh⟩
theorem Lo.cs {t : Hr.Town} {pv : Value} {c7 c8 c12 : Nat} {wind voice lv : Int} {hv : Value} {w W : World} (h : Lo t pv c7 c8 c12 wind voice lv hv w W) :
    W.cell? ⟨c7, 0, none⟩ = some (.int .i64 t.wide) ∧ W.cell? ⟨c7, 1, none⟩ = some pv ∧ W.cell? ⟨c8, 0, none⟩ = some (.int .i64 wind) ∧ W.cell? ⟨c8, 1, none⟩ = some (.int .i64 voice) ∧ c7 < W.heap.size ∧ c8 < W.heap.size ∧ W.cell? ⟨c12, 0, none⟩ = some (.int .i64 wind) ∧ W.cell? ⟨c12, 1, none⟩ = some (.int .i64 lv) ∧ c12 < W.heap.size := by
  obtain ⟨a, b, c, d, e, f⟩ := h.mo.cs
  obtain ⟨x, y⟩ := blk_cells2 h.b12
  exact ⟨a, b, c, d, e, f, x, y, (Array.getElem?_eq_some_iff.1 h.b12).1⟩
theorem blk_ne {W : World} {c g : Nat} {cs cur : Array Value} {e : TypeId} {z z' : Nat × Nat} (h : W.heap[c]? = some (.cells cs e z)) (hg : W.heap[g]? = some (.cells cur 3 z')) (he : e ≠ 3) : c ≠ g := by
  rintro rfl
  rw [h] at hg
  injection hg with hg
  injection hg with _ hg
  exact he hg

def spA8 (t : Hr.Town) (pv : Value) (QB B : Nat) : Nat → List Value → Value → World → Prop
  | 0, _, v, _ => v = .pointer (some ⟨QB, 0, none⟩)
  | 1, _, v, _ => ∃ wind voice, AirV wind voice ∧ v = .agg #[.int .i64 wind, .int .i64 voice]
  | 2, _, v, _ => v = .agg #[.int .i64 t.wide, pv]
  | 3, _, v, w => QB < B ∧ w.ownsRow B 3 1 v (kindIdx t.plots 1).length ((kindIdx t.plots 1).map (Value.int .i64))
  | 4, _, v, w => ∃ p c0 c1, v = .pointer (some ⟨p, 0, none⟩) ∧ QB < B ∧ B ≤ p ∧ w.heap[p]? = some (.cells #[c0, c1] 27 (0, 0))
  | 5, L, v, w => ∃ p wind voice, L.getD 4 undef = .pointer (some ⟨p, 0, none⟩) ∧ AirV wind voice ∧ QB < B ∧ B ≤ p ∧ w.heap[p]? = some (.cells #[.int .i64 wind, .int .i64 voice] 27 (0, 0))
  | 6, _, v, w => QB < B ∧ w.ownsRow B 3 1 v (kindIdx t.plots 1).length ((kindIdx t.plots 1).map (Value.int .i64))
  | _, _, _, _ => False
theorem spA8_stable (t : Hr.Town) (pv : Value) (QB : Nat) (ma : Option Addr) (n mc B : Nat) : ∀ i L v w w', spA8 t pv QB B i L v w → Ax QB ma n mc B w w' → spA8 t pv QB B i L v w' := by
  intro i L v w w' h hg
  match i with
  | 0 => exact h
  | 1 => exact h
  | 2 => exact h
  | 3 => exact ⟨h.1, hg.row h.1 h.2⟩
  | 6 => exact ⟨h.1, hg.row h.1 h.2⟩
  | 4 =>
    obtain ⟨p, c0, c1, h1, hq, h2, h3⟩ := h
    rcases hg.same p (Array.getElem?_eq_some_iff.1 h3).1 (by omega) with e | ⟨_, cs, wd, vc, _, e1, e2⟩
    · exact ⟨p, c0, c1, h1, hq, h2, e.trans h3⟩
    · exact ⟨p, _, _, h1, hq, h2, e2⟩
  | 5 =>
    obtain ⟨p, c0, c1, h1, hA, hq, h2, h3⟩ := h
    rcases hg.same p (Array.getElem?_eq_some_iff.1 h3).1 (by omega) with e | ⟨_, cs, wd, vc, hA', e1, e2⟩
    · exact ⟨p, c0, c1, h1, hA, hq, h2, e.trans h3⟩
    · exact ⟨p, _, _, h1, hA', hq, h2, e2⟩

set_option maxHeartbeats 8000000 in
set_option maxRecDepth 100000 in
theorem HearLouder_any (ma : Option Addr) (n mc : Nat) (ma2 : Option Addr) (n2 mc2 : Nat) (mo : Int) (hm0 : 0 ≤ mo) (hm8 : mo < 256) (w : World) (hM : RdB w ma n) (hM2 : RdB w ma2 n2) :
    Calls Try.prog 10 #[.slice ma n mc, .slice ma2 n2 mc2, .int .u8 mo] w fun e w' => e = .returned (.bool true) ∧ Below w.heap.size w w' := by
  obtain ⟨i0, hi, hz0, hz1, hz2⟩ := info_parts A_info3
  have hB0 := below1 w (.cells #[.slice ma n mc, .int .i64 0, .int .u32 0] 150)
  have hBL := (bell_hung (mc := mc) hM).below (below1 _ (.cells #[.slice ma2 n2 mc2, .int .i64 0, .int .u32 0] 150))
  have hBQ := bell_hung (mc := mc2) (hM2.below hB0)
  rw [World.size_alloc] at hBQ
  have HBL := Lib.hid hBL
  have HBQ := Lib.hid hBQ
  have HM := Lib.hid hM
  have HM2 := Lib.hid hM2
  have HB0 := Lib.hid (al hB0 (.cells #[.slice ma2 n2 mc2, .int .i64 0, .int .u32 0] 150))
  clear hM hM2 hB0 hBL hBQ
  go_enter Try.func10, Try.ntmps10
  go_wp2_with fail
  refine (hang_any ma n mc w).mono ?_
  rintro e w1 ⟨rfl, rfl⟩
  go_wp2_with fail
  refine (hang_any ma2 n2 mc2 _).mono ?_
  rintro e w1 ⟨rfl, rfl⟩
  go_wp2_with fail
  refine (made_any w.heap.size ma n mc 20 (by omega) (by omega) _ HBL.out (fun hn mb mo e => by have := HM.out.2.1 hn mb mo e; simp; omega)).mono ?_
  rintro e w2 ⟨t, v, p, rfl, ho, hc, h24, hp, hp0, hbl, hh⟩
  have ok : t.Ok := by have := (town_ok hc).1; rwa [townOf_self] at this
  have HOK := Lib.hid ok
  have HC := Lib.hid hc
  have hsz2 := hh.size
  simp only [World.size_alloc] at hsz2 ho
  have hoffB := own_off (QB := w.heap.size) ho (by omega)
  have hoffQ := own_off (QB := w.heap.size + 1) ho (by omega)
  have hQ2 := HBQ.out.hold hh (show w.heap.size + 1 ≠ w.heap.size by omega) (fun hn mb mo e => by have := HM2.out.2.1 hn mb mo e; show mb ≠ w.heap.size; omega)
  have hB2 : Below w.heap.size w w2 := HB0.out.trans ((hh.mono (Kq := fun k => k < w.heap.size) (fun k (hk : k < w.heap.size) _ => show k ≠ w.heap.size by omega)).to_below (by simp; omega))
  obtain ⟨pa, pc, rfl⟩ := own_slice ho
  obtain ⟨W1, hW1⟩ : ∃ W1 : World, W1 = w2.alloc (.cells #[.int .i64 t.wide, .slice pa t.plots.length pc] 24) := ⟨_, rfl⟩
  have hs1 : W1.heap.size = w2.heap.size + 1 := by rw [hW1]; simp
  have hS2 : PvS t w2.heap.size (.slice pa t.plots.length pc) w.heap.size ma n mc W1 := by
    rw [hW1]; exact ⟨heap_alloc_last _ _, (RdI.own rfl rfl ho).below (below1 _ _), hbl.below (below1 _ _), by omega, hoffB⟩
  have HS2 := Lib.hid hS2
  have HQ2 := Lib.hid (show BellOk W1 (w.heap.size + 1) ma2 n2 mc2 by rw [hW1]; exact hQ2.below (below1 w2 (.cells #[.int .i64 t.wide, .slice pa t.plots.length pc] 24)))
  have HB2 := Lib.hid (show Below w.heap.size w W1 by rw [hW1]; exact al hB2 (.cells #[.int .i64 t.wide, .slice pa t.plots.length pc] 24))
  have HOQ := Lib.hid hoffQ
  have HOB : Hid (∀ g, w2.heap.size ≤ g → Off g (.slice pa t.plots.length pc)) := Lib.hid (fun g hg b o n c e => by
    have hne : t.plots ≠ [] := by intro e; have := (check_len hc).2; rw [e] at this; simp at this
    obtain ⟨b', o', e', -, hI⟩ := rd_ints (RdI.own rfl rfl ho) hne
    injection e with e1
    rw [e'] at e1
    injection e1 with e1
    injection e1 with e1
    have := hI.1
    omega)
  have HMA : Hid (n ≠ 0 → ∀ mb mo, ma = some ⟨mb, mo, none⟩ → mb < W1.heap.size) := Lib.hid (fun hn mb mo e => by have := HM.out.2.1 hn mb mo e; omega)
  have HM2L : Hid (n2 ≠ 0 → ∀ mb mo, ma2 = some ⟨mb, mo, none⟩ → mb < w.heap.size) := Lib.hid HM2.out.2.1
  have hqb : w.heap.size + 1 < w2.heap.size := by omega
  have hqb2 : w.heap.size < W1.heap.size := by omega
  have hl30 : t.plots.length ≤ 30 := HOK.out.n30
  have HW1 := Lib.hid hW1
  clear HBL HBQ ho hc hbl hh hB2 ok hp hp0 h24 HB0 hS2 hQ2 hoffB hoffQ HM HM2 hW1 hsz2
  go_wp2_with fail
  rw [← HW1.out]
  refine Rg.region_gen (Ax.isGr w.heap.size ma n mc W1.heap.size) 7 [[], [0], [], [0, 1, 2], [], [0, 1, 2, 3, 4], [0, 1, 2, 3, 4]] [some 43, some 44, some 45, some 46, some 10, none, some 11] (spA8 t (.slice pa t.plots.length pc) w.heap.size W1.heap.size) (by kernel_rfl) (by kernel_rfl) rfl (spA8_stable _ _ _ _ _ _ _) ?_ ?_
  · refine ⟨fun V w' hG hs => ?_, fun V w' hG hs => ?_, fun V w' hG hs => ?_, fun V w' hG hs => ?_, fun V w' hG hs => ?_, fun V w' hG hs => ?_, fun V w' hG hs => ?_, trivial⟩
    all_goals
      have hSr := HS2.out.ring (hG.bell HS2.out.bell) hG.aft
      obtain ⟨k0, k1⟩ := hSr.cs
    · rw [if_pos (by rfl)]
      exact Rg.GrowL.value (v := .pointer (some ⟨w.heap.size, 0, none⟩)) (w' := w') (by simp [go_sem, Rs.look]) ((Ax.isGr w.heap.size ma n mc W1.heap.size).refl _) rfl
    · have e0 : V 0 = .pointer (some ⟨w.heap.size, 0, none⟩) := hs 0 (by simp)
      rw [if_pos (by rfl)]
      refine Rg.GrowL.call (Ax.isGr w.heap.size ma n mc W1.heap.size) (f := 59) (args := #[.pointer (some ⟨w.heap.size, 0, none⟩)]) (by simp [go_sem, Rs.look, e0]) ?_
      refine (aired_any w.heap.size ma n mc trivial w' hSr.bell (fun hn mb mo e => Nat.lt_of_lt_of_le (HMA.out hn mb mo e) hG.size)).mono ?_
      rintro e w3 ⟨wind, voice, g0, g4, v1, v16, rfl, hbl, hH⟩
      exact ⟨_, rfl, .of_bell hH.out hbl.out, wind, voice, ⟨g0, g4, v1, v16⟩, rfl⟩
    · rw [if_pos (by rfl)]
      exact Rg.GrowL.value (v := .agg #[.int .i64 t.wide, .slice pa t.plots.length pc]) (w' := w') (by simp [go_sem, Rs.look, k0, k1]) ((Ax.isGr w.heap.size ma n mc W1.heap.size).refl _) rfl
    · have e2 : V 2 = .agg #[.int .i64 t.wide, .slice pa t.plots.length pc] := hs 2 (by simp)
      rw [if_pos (by rfl)]
      refine Rg.GrowL.call (Ax.isGr w.heap.size ma n mc W1.heap.size) (f := 63) (args := #[.agg #[.int .i64 t.wide, .slice pa t.plots.length pc]]) (by simp [go_sem, Rs.look, e2]) ?_
      refine (houses_any t.wide pa pc t.plots (by omega) w' hSr.rp).mono ?_
      rintro e w3 ⟨u, rfl, ho, hB⟩
      exact ⟨_, rfl, .of_gr hB, hqb2, own_base ho hG.size⟩
    · rw [if_pos (by rfl)]
      exact Rg.GrowL.value (v := .pointer (some ⟨w'.heap.size, 0, none⟩)) (w' := w'.alloc (.cells #[.int .i64 0, .int .i64 0] 27)) (by simp [go_sem, Rs.look]) (.of_gr (below1 _ _)) ⟨_, _, _, rfl, hqb2, hG.size, heap_alloc_last _ _⟩
    · have r1 := hs 1 (by simp)
      have r4 := hs 4 (by simp)
      rw [if_pos (by rfl)]
      obtain ⟨wind, voice, hA, e1⟩ : ∃ wind voice, AirV wind voice ∧ V 1 = .agg #[.int .i64 wind, .int .i64 voice] := r1
      obtain ⟨p, c0, c1, e4, hq, hpB, hb⟩ : ∃ p c0 c1, V 4 = .pointer (some ⟨p, 0, none⟩) ∧ w.heap.size < W1.heap.size ∧ W1.heap.size ≤ p ∧ w'.heap[p]? = some (.cells #[c0, c1] 27 (0, 0)) := r4
      obtain ⟨q0, q1⟩ := blk_cells2 hb
      have f0 := frozen_of_row w' p 0 _ _ hb
      have f1 := frozen_of_row w' p 1 _ _ hb
      have hf := Ax.fill (QB := w.heap.size) (ma := ma) (n := n) (mc := mc) hA hq HMA.out hpB hb
      exact Rg.GrowL.skipA (w' := (w'.setCell ⟨p, 0, none⟩ (.int .i64 wind)).setCell ⟨p, 1, none⟩ (.int .i64 voice)) (by simp [go_sem, Rs.look, e1, e4, q0, q1, f0, f1]) hf.1 ⟨p, wind, voice, e4, hA, hq, hpB, hf.2⟩
    · have r3 := hs 3 (by simp)
      rw [if_pos (by rfl)]
      exact Rg.GrowL.value (v := V 3) (w' := w') (by simp [go_sem, Rs.look]) ((Ax.isGr w.heap.size ma n mc W1.heap.size).refl _) r3
  · intro V w' hG hs
    have e0 : V 0 = .pointer (some ⟨w.heap.size, 0, none⟩) := hs 0 (by omega)
    have e2 : V 2 = .agg #[.int .i64 t.wide, .slice pa t.plots.length pc] := hs 2 (by omega)
    have r6 : _ ∧ w'.ownsRow W1.heap.size 3 1 (V 6) (kindIdx t.plots 1).length ((kindIdx t.plots 1).map (Value.int .i64)) := hs 6 (by omega)
    obtain ⟨c8, wind, voice, e4, hA, -, hc8, hb8⟩ : ∃ p wind voice, V 4 = .pointer (some ⟨p, 0, none⟩) ∧ AirV wind voice ∧ w.heap.size < W1.heap.size ∧ W1.heap.size ≤ p ∧ w'.heap[p]? = some (.cells #[.int .i64 wind, .int .i64 voice] 27 (0, 0)) := hs 5 (by omega)
    have hSr := HS2.out.ring (hG.bell HS2.out.bell) hG.aft
    have hMo : Mo t (.slice pa t.plots.length pc) w2.heap.size c8 wind voice w w' := ⟨hSr.b7, hb8, hSr.rp, HB2.out.trans (Aft.low hG.aft (Nat.le_refl _) (by omega))⟩
    have hBQ := HQ2.out.hold hG.aft (show w.heap.size + 1 ≠ w.heap.size by omega) (fun hn mb mo e => by have := HM2L.out hn mb mo e; show mb ≠ w.heap.size; omega)
    simp only [Rs.canon, Rs.dstOf, List.range_succ, List.range_zero, List.nil_append, List.cons_append, List.foldl_cons, List.foldl_nil, List.drop_succ_cons, List.drop_zero, List.drop_nil, List.getElem?_toArray, List.getElem?_cons_succ, List.getElem?_cons_zero, Option.bind_some, Act.put, List.getD_cons_succ, List.getD_cons_zero, List.setIfInBounds_toArray, List.set_cons_succ, List.set_cons_zero]
    rw [e0, e2, e4]
    generalize V 6 = v9 at r6 ⊢
    generalize V 3 = y3
    generalize V 1 = y1
    have hr9 := r6.2
    obtain ⟨a9, p9, rfl⟩ := own_slice r6.2
    have HMO := Lib.hid hMo
    have HBQ := Lib.hid hBQ
    have HR9 := Lib.hid hr9
    have HAV := Lib.hid hA
    have hsz' := hG.size
    obtain ⟨k0, k1, k2, k3, k4, k5⟩ := hMo.cs
    have ha : airErr wind voice = 0 := by unfold airErr; rw [if_neg (by unfold AirV at hA; omega)]
    have HAE := Lib.hid ha
    clear e0 e2 e4 hs r6 hr9 hb8 hSr hMo hBQ hG hA HS2 HB2 HMA HQ2 HW1 ha
    go_wp2_with fail
    have hne : t.plots ≠ [] := by intro e; have := (check_len HC.out).2; rw [e] at this; simp at this
    obtain ⟨pb, po, rfl, -, -⟩ := rd_ints HMO.out.rp hne
    obtain ⟨g0, g4, v1, v16⟩ := HAV.out
    have hr0 : 0 ≤ mo % 20 := Int.emod_nonneg _ (by omega)
    have hr1 : mo % 20 < 20 := Int.emod_lt_of_pos _ (by omega)
    have hwr : wrap64 (voice + mo % 20) = voice + mo % 20 := by unfold wrap64; omega
    obtain ⟨lv, hlv⟩ : ∃ lv, lv = min 40 (wrap64 (voice + mo % 20)) := ⟨_, rfl⟩
    rw [← hlv]
    rw [hwr] at hlv
    have hlv0 : voice ≤ lv := by omega
    have hlv1 : lv ≤ 40 := by omega
    have HAL := Lib.hid (show airErr wind lv = 0 by unfold airErr; rw [if_neg (by omega)])
    obtain ⟨W4, hW4⟩ : ∃ W4 : World, W4 = w'.alloc (.cells #[.int .i64 wind, .int .i64 lv] 27) := ⟨_, rfl⟩
    rw [← hW4]
    have h4 : Below w'.heap.size w' W4 := by rw [hW4]; exact below1 _ _
    obtain ⟨c12, hc12⟩ : ∃ c12, c12 = w'.heap.size := ⟨_, rfl⟩
    have HLO4 : Hid (Lo t (.slice (some ⟨pb, po, none⟩) t.plots.length pc) w2.heap.size c8 c12 wind voice lv (.slice a9 (kindIdx t.plots 1).length p9) w W4) := Lib.hid ⟨HMO.out.below h4, by rw [hW4, hc12]; exact heap_alloc_last _ _, (RdI.own rfl rfl HR9.out).below h4⟩
    have HBQ4 := Lib.hid (HBQ.out.below h4)
    have HOF9 : Hid (Off (w.heap.size + 1) (.slice a9 (kindIdx t.plots 1).length p9)) := Lib.hid (own_off HR9.out (by omega))
    have hz12 : W1.heap.size ≤ c12 := by omega
    have hz4 := h4.size
    have hH30 : (kindIdx t.plots 1).length ≤ 30 := by have := kindTo_len t.plots 1 t.plots.length; unfold kindIdx; omega
    have hL30 : (kindIdx t.plots 0).length ≤ 30 := by have := kindTo_len t.plots 0 t.plots.length; unfold kindIdx; omega
    rw [← hc12]
    clear hr0 hr1 hwr hlv hW4 h4 hc12 HMO HBQ HR9 hne hm0 hm8 k0 k1 k2 k3 k4 k5
    have HST := Lib.hid (streets_any t.wide (some ⟨pb, po, none⟩) pc t.plots (by omega) W4 HLO4.out.mo.rp)
    obtain ⟨L, hL⟩ : ∃ L, L = kindIdx t.plots 0 := ⟨_, rfl⟩
    rw [← hL] at HST hL30
    have HLQ := Lib.hid hL
    clear hL
    refine HST.out.mono ?_
    rintro e w5 ⟨v58, rfl, ho58, hB⟩
    have HRL := Lib.hid (RdI.own rfl rfl ho58)
    obtain ⟨a58, p58, rfl⟩ := own_slice ho58
    have HLO5 := Lib.hid (HLO4.out.below hB)
    have HBQ5 := Lib.hid (HBQ4.out.below hB)
    have hz5 := hB.size
    clear HST ho58 hB HLO4 HBQ4
    go_wp2_with fail
    go_loopw [60] (fun i wr => ∃ k : Nat, k ≤ L.length ∧ i = .int .i64 k ∧ Below w5.heap.size w5 wr) (fun i _ => L.length - (intOf i).toNat)
    case atStart => exact ⟨0, Nat.zero_le _, rfl, Below.refl _ _⟩
    case round =>
      obtain ⟨k, hk, rfl, hB⟩ := hrel
      obtain ⟨wk, rfl⟩ : ∃ wk : World, wk = wr := ⟨_, rfl⟩
      have HLOk := Lib.hid (HLO5.out.below hB)
      have HBk := Lib.hid hB
      have hzk := hB.size
      by_cases hlt : k < L.length
      · have hlt' : (k : Int) < L.length := by omega
        obtain ⟨b1, o1, rfl, -, hI1⟩ := rd_ints (HRL.out.below hB) (by intro e; rw [e] at hlt; simp at hlt)
        obtain ⟨s, hs, hsl, hs0⟩ : ∃ s : Nat, L.getD k 0 = s ∧ s < t.len ∧ t.at s = 0 := by
          have := mem_getD hlt
          rw [HLQ.out] at this
          obtain ⟨s, e, h1, h2⟩ := mem_kindIdx.1 this
          exact ⟨s, by rw [HLQ.out]; exact e, h1, h2⟩
        have c1 := hI1.2 k hlt
        rw [hs] at c1
        have hb1 := hI1.1
        have HH1 := Lib.hid (fun W hR => Houses_any t.wide wind voice s (some ⟨pb, po, none⟩) pc t.plots (by omega) W hR)
        have HH2 := Lib.hid (fun W hR => Houses_any t.wide wind lv s (some ⟨pb, po, none⟩) pc t.plots (by omega) W hR)
        rw [street_at HC.out HAE.out hsl hs0, street_houses HC.out HAE.out hsl hs0] at HH1
        rw [street_at HC.out HAL.out hsl hs0, street_houses HC.out HAL.out hsl hs0] at HH2
        have HCA := Lib.hid (any_no (housesOf_mono (t := t) (wind := wind) (s := s) hlv0))
        have hxl : (housesOf t wind voice s).length ≤ 30 := Nat.le_trans (housesOf_len t wind voice s) HOK.out.n30
        obtain ⟨X, hX⟩ : ∃ X, X = housesOf t wind voice s := ⟨_, rfl⟩
        obtain ⟨Y, hY⟩ : ∃ Y, Y = housesOf t wind lv s := ⟨_, rfl⟩
        rw [← hX] at HH1 HCA hxl
        rw [← hY] at HH2 HCA
        obtain ⟨k0, k1, k2, k3, k4, k5, k6, k7, k8⟩ := HLOk.out.cs
        clear hI1 hs hX hY hB
        go_wp2_with fail
        refine (HH1.out wk HLOk.out.mo.rp).mono ?_
        rintro e w6 ⟨v15, rfl, ho15, hB⟩
        have HX := Lib.hid (RdI.own rfl rfl ho15)
        obtain ⟨a15, p15, rfl⟩ := own_slice ho15
        have HLO6 := Lib.hid (HLOk.out.below hB)
        have HB6 := Lib.hid (join HBk.out hB)
        clear ho15 hB k0 k1 k2 k3 k4 k5 k6 k7 k8 c1 hb1
        obtain ⟨k0, k1, k2, k3, k4, k5, k6, k7, k8⟩ := HLO6.out.cs
        go_wp2_with fail
        refine (HH2.out w6 HLO6.out.mo.rp).mono ?_
        rintro e w7 ⟨v17, rfl, ho17, hB⟩
        have hY7 := RdI.own rfl rfl ho17
        obtain ⟨a17, p17, rfl⟩ := own_slice ho17
        obtain ⟨W8, hW8⟩ : ∃ W8 : World, W8 = w7.alloc (.cells #[.slice a17 Y.length p17] 31) := ⟨_, rfl⟩
        have h8 : Below w6.heap.size w6 W8 := by rw [hW8]; exact al hB _
        have HX := Lib.hid (HX.out.below h8)
        have HB8 := Lib.hid (join HB6.out h8)
        have hY8 : RdI W8 (.slice a17 Y.length p17) Y := by rw [hW8]; exact hY7.below (below1 _ _)
        have hb17 : W8.heap[w7.heap.size]? = some (.cells #[.slice a17 Y.length p17] 31 (0, 0)) := by rw [hW8]; exact heap_alloc_last _ _
        obtain ⟨c17, hc17⟩ : ∃ c17, c17 = w7.heap.size := ⟨_, rfl⟩
        rw [← hc17] at hb17
        have HCF := Lib.hid (containsFuncR 65 entered65 (.pointer (some ⟨c17, 0, none⟩)) (fun s => !Y.contains s) (.slice a15 X.length p15) X (by omega) W8 HX.out (fun W hW => ask65 c17 (.slice a17 Y.length p17) Y W (by rw [cell_of_row _ _ _ _ _ _ ((hW.block _ (Array.getElem?_eq_some_iff.1 hb17).1).trans hb17)]; rfl) (hY8.below hW)))
        rw [HCA.out] at HCF
        have HW8 := Lib.hid hW8
        have HC17 := Lib.hid hc17
        clear hW8 hc17 hY8 hb17 hY7 ho17 hB h8 k0 k1 k2 k3 k4 k5 k6 k7 k8 HH1 HH2 HCA
        go_upto_region 10 with fail
        rw [← HW8.out]
        rw [← HC17.out]
        clear HW8 HC17
        go_wp2_with fail
        refine HCF.out.mono ?_
        rintro e w9 ⟨rfl, hB⟩
        have HB9 := Lib.hid (join HB8.out hB)
        clear hB HCF
        go_wp2_with fail
        go_roundw
        case rel => exact ⟨k + 1, by omega, by simp, HB9.out⟩
        case measure => simp [intOf]; omega
      · obtain rfl : k = L.length := by omega
        have HBQk := Lib.hid (HBQ5.out.below hB)
        clear hB HBk HRL HLO5 HBQ5 hlt
        obtain ⟨k0, k1, k2, k3, k4, k5, k6, k7, k8⟩ := HLOk.out.cs
        go_wp2_with fail
        refine (Few_h HOK.out HC.out wind voice HAE.out pb po pc a9 p9 wk HLOk.out.mo.rp HLOk.out.rh).mono ?_
        rintro e w6 ⟨v19, X, rfl, hB, hx, hX⟩
        obtain ⟨_, a19, p19, rfl, -⟩ := id hx
        have HLO6 := Lib.hid (HLOk.out.below hB)
        have HBQ6 := Lib.hid (HBQk.out.below hB)
        have hz6 := hB.size
        clear hB hx k0 k1 k2 k3 k4 k5 k6 k7 k8 HLOk HBQk
        obtain ⟨k0, k1, k2, k3, k4, k5, k6, k7, k8⟩ := HLO6.out.cs
        go_wp2_with fail
        refine (Few_h HOK.out HC.out wind lv HAL.out pb po pc a9 p9 w6 HLO6.out.mo.rp HLO6.out.rh).mono ?_
        rintro e w7 ⟨v21, Y, rfl, hB, hy, hY⟩
        obtain ⟨_, a21, p21, rfl, -⟩ := id hy
        have HLO7 := Lib.hid (HLO6.out.below hB)
        have HBQ7 := Lib.hid (HBQ6.out.below hB)
        have hz7 := hB.size
        have hEF : firstE (lis t wind voice fun _ => true) = 0 → firstE (lis t wind lv fun _ => true) = 0 ∧ Y.length ≤ X.length := fun h0 => by
          obtain ⟨h1, h2⟩ := louder_few HC.out hlv0 h0
          rw [hX h0, hY h1]
          exact ⟨h1, h2⟩
        have hE := firstE_or (lis t wind voice fun _ => true)
        have hF := firstE_or (lis t wind lv fun _ => true)
        clear hB hy hX hY k0 k1 k2 k3 k4 k5 k6 k7 k8 HLO6 HBQ6
        generalize firstE (lis t wind voice fun _ => true) = E at hEF hE ⊢
        generalize firstE (lis t wind lv fun _ => true) = F at hEF hF ⊢
        go_upto_region 15 with fail
        go_cut [132] from 104 to 131 (fun s132 wx => s132 = .bool false ∧ wx = w7)
        case first =>
          rcases hE with rfl | rfl
          · obtain ⟨rfl, hle⟩ := hEF rfl
            have d1 : decide (Y.length > X.length) = false := by simp; omega
            have d1' : decide ((Y.length : Int) > (X.length : Int)) = false := by simp; omega
            go_wp2_with fail
            go_meet
            exact ⟨rfl, rfl⟩
          · rcases hF with rfl | rfl
            · go_wp2_with fail
              go_meet
              exact ⟨rfl, rfl⟩
            · go_wp2_with fail
              go_meet
              exact ⟨rfl, rfl⟩
        case rest =>
          obtain ⟨rfl, e7⟩ := hcut
          rw [e7]
          clear hE hF hEF e7
          have hq7 : w2.heap.size ≠ w.heap.size + 1 := by omega
          have hq8 : c8 ≠ w.heap.size + 1 := by omega
          have hq12 : c12 ≠ w.heap.size + 1 := by omega
          go_wp2_with fail
          refine (stroke_z (w.heap.size + 1) ma2 n2 mc2 3 (by omega) (by omega) w7 HBQ7.out).mono ?_
          rintro e w8 ⟨x, x0, x1, rfl, hb8, hH8⟩
          obtain ⟨st, rfl⟩ : ∃ z : Nat, x = z := ⟨x.toNat, by omega⟩
          have HLO8 := Lib.hid (HLO7.out.aft hH8 hq7 hq8 hq12 HOQ.out HOF9.out (by omega))
          have HBQ8 := Lib.hid hb8
          have hst : st ≤ 3 := by omega
          have hz8 := hH8.size
          clear hb8 hH8 x0 x1 HLO7 HBQ7
          obtain ⟨ch, nn, h1, h2, hch⟩ := chosen (lis t wind voice fun _ => true) (lis_ten HC.out wind voice) st
          have HBE := Lib.hid (Best_h HOK.out HC.out wind voice HAE.out pb po pc a9 p9 st (by omega) w8 HLO8.out.mo.rp HLO8.out.rh)
          rw [h1, h2] at HBE
          have HCH := Lib.hid hch
          clear h1 h2 hch
          obtain ⟨k0, k1, k2, k3, k4, k5, k6, k7, k8⟩ := HLO8.out.cs
          go_wp2_with fail
          refine HBE.out.mono ?_
          rintro e w9 ⟨v24, rfl, hB, ho24⟩
          change w9.ownsRow w8.heap.size 3 1 v24 (natI ch).length ((natI ch).map (Value.int .i64)) at ho24
          have HL9 := Lib.hid (RdI.own rfl rfl ho24)
          have HOF24 : Hid (Off (w.heap.size + 1) v24) := Lib.hid (own_off ho24 (by have := HBQ8.out.lt; omega))
          obtain ⟨a24, p24, rfl⟩ := own_slice ho24
          have HLO9 := Lib.hid (HLO8.out.below hB)
          have HBQ9 := Lib.hid (HBQ8.out.below hB)
          have hz9 := hB.size
          clear hB ho24 k0 k1 k2 k3 k4 k5 k6 k7 k8 HLO8 HBQ8 HBE
          obtain ⟨k0, k1, k2, k3, k4, k5, k6, k7, k8⟩ := HLO9.out.cs
          have hchl := HCH.out.len
          have HSV := Lib.hid (Served_n HOK.out HC.out HAE.out pb po pc a9 a24 p9 p24 ch (chosen_street HCH.out) (by omega) w9 HLO9.out.mo.rp HLO9.out.rh HL9.out)
          rw [HCH.out.cnt] at HSV
          go_wp2_with fail
          refine HSV.out.mono ?_
          rintro e w10 ⟨rfl, hB⟩
          have HLO10 := Lib.hid (HLO9.out.below hB)
          have HBQ10 := Lib.hid (HBQ9.out.below hB)
          have HL10 := Lib.hid (HL9.out.below hB)
          have hz10 := hB.size
          have hNl : (natI ch).length = ch.length := natI_len ch
          have hN3 : (natI ch).length ≤ 3 := by omega
          have HSO := Lib.hid (isSorted_any (.slice a24 (natI ch).length p24) (natI ch) (by omega) (sorted_get HCH.out.sorted) w10 HL10.out)
          have d1 : decide ((natI ch).length > st) = false := by simp; omega
          have d1' : decide (((natI ch).length : Int) > (st : Int)) = false := by simp; omega
          clear hB k0 k1 k2 k3 k4 k5 k6 k7 k8 HLO9 HBQ9 HL9 HSV
          have HNL := Lib.hid hNl
          clear hNl
          go_wp2_with fail
          refine HSO.out.mono ?_
          rintro e w11 ⟨rfl, hB⟩
          have HLO11 := Lib.hid (HLO10.out.below hB)
          have HBQ11 := Lib.hid (HBQ10.out.below hB)
          have HL11 := Lib.hid (HL10.out.below hB)
          have hz11 := hB.size
          clear hB HLO10 HBQ10 HL10 HSO d1 d1'
          go_wp2_with fail
          go_loopw [174] (fun i wr => ∃ j : Nat, j ≤ 6 ∧ i = .int .i64 j ∧ BellOk wr (w.heap.size + 1) ma2 n2 mc2 ∧ Aft (w.heap.size + 1) w11 wr) (fun i _ => 6 - (intOf i).toNat)
          case atStart => exact ⟨0, by omega, rfl, HBQ11.out, Aft.of (Hold.refl _ _)⟩
          case round =>
            obtain ⟨j, hj, rfl, hbr, hAr⟩ := hrel
            obtain ⟨wj, rfl⟩ : ∃ wj : World, wj = wr := ⟨_, rfl⟩
            have HLOj := Lib.hid (HLO11.out.aft hAr hq7 hq8 hq12 HOQ.out HOF9.out (by omega))
            have HLj := Lib.hid (HL11.out.hold hAr HOF24.out)
            have HBj := Lib.hid hbr
            have HAj := Lib.hid hAr
            have hzj := hAr.size
            clear hbr hAr
            obtain ⟨k0, k1, k2, k3, k4, k5, k6, k7, k8⟩ := HLOj.out.cs
            by_cases hlt : j < 6
            · have hlt' : (j : Int) < 6 := by omega
              go_wp2_with fail
              refine (some_any (w.heap.size + 1) ma2 n2 mc2 t HOK.out pb po pc st (by omega) wj HBj.out (fun hn mb mo e => by have := HM2L.out hn mb mo e; omega) HLOj.out.mo.rp).mono ?_
              rintro e w12 ⟨v28, O, rfl, hO, hOs, hOst, hOl, hb12, hA12⟩
              have HLO12 := Lib.hid (HLOj.out.aft hA12 hq7 hq8 hq12 HOQ.out HOF9.out (by omega))
              have HL12 := Lib.hid (HLj.out.hold hA12 HOF24.out)
              have HB12 := Lib.hid hb12
              have HA12 := Lib.hid (Hold.trans HAj.out hA12)
              have HO := Lib.hid hO
              have hBest := chosen_best HCH.out hOs (fun s hs => by have := (hOst s hs).1; have := HOK.out.n30; omega) hOl
              obtain ⟨_, a28, p28, rfl, -⟩ := id hO
              have HSV := Lib.hid (Served_n HOK.out HC.out HAE.out pb po pc a9 a28 p9 p28 O hOst (by omega) w12 HLO12.out.mo.rp HLO12.out.rh HO.out)
              generalize hkk : cntS (lis t wind voice fun _ => true) O = kk at hBest HSV
              have hNO : (natI O).length = O.length := natI_len O
              have HNO := Lib.hid hNO
              clear hO hOs hOst hb12 hA12 hNO hkk k0 k1 k2 k3 k4 k5 k6 k7 k8
              obtain ⟨k0, k1, k2, k3, k4, k5, k6, k7, k8⟩ := HLO12.out.cs
              go_wp2_with fail
              refine HSV.out.mono ?_
              rintro e w13 ⟨rfl, hB⟩
              have HB13 := Lib.hid (HB12.out.below hB)
              have HA13 := Lib.hid (Aft.below HA12.out hB)
              have HL13 := Lib.hid (HL12.out.below hB)
              have HO13 := Lib.hid (HO.out.below hB)
              obtain ⟨hle, heq⟩ := hBest
              have HEQ := Lib.hid heq
              clear hB heq HLO12 HSV k0 k1 k2 k3 k4 k5 k6 k7 k8
              by_cases hk : kk = nn
              · subst hk
                obtain ⟨hle2, hfst⟩ := HEQ.out rfl
                have d1 : decide ((natI O).length < (natI ch).length) = false := by have := HNO.out; have := HNL.out; simp; omega
                have d1' : decide (((natI O).length : Int) < ((natI ch).length : Int)) = false := by have := HNO.out; have := HNL.out; simp; omega
                by_cases hll : O.length = ch.length
                · have hCM := compare_any (.slice a28 (natI O).length p28) (.slice a24 (natI ch).length p24) (natI O) (natI ch) (by have := HNO.out; omega) (by have := HNO.out; have := HNL.out; omega) (bef_cmp (hfst hll)) w13 HO13.out HL13.out
                  have HCM := Lib.hid hCM
                  have d2 : ((natI O).length == (natI ch).length) = true := by have := HNO.out; have := HNL.out; simp; omega
                  have d2' : (((natI O).length : Int) == ((natI ch).length : Int)) = true := by have := HNO.out; have := HNL.out; simp; omega
                  clear hCM hfst hll hle2 hle
                  go_wp2_with fail
                  refine HCM.out.mono ?_
                  rintro e w14 ⟨z, rfl, hz, hB⟩
                  have HB14 := Lib.hid (HB13.out.below hB)
                  have HA14 := Lib.hid (Aft.below HA13.out hB)
                  have d3 : decide (z < 0) = false := by simp; omega
                  clear hB hz
                  go_wp2_with fail
                  go_roundw
                  case rel => exact ⟨j + 1, by omega, by simp, HB14.out, HA14.out⟩
                  case measure => simp [intOf]; omega
                · have d2 : ((natI O).length == (natI ch).length) = false := by have := HNO.out; have := HNL.out; simp; omega
                  have d2' : (((natI O).length : Int) == ((natI ch).length : Int)) = false := by have := HNO.out; have := HNL.out; simp; omega
                  clear hfst hll hle2 hle
                  go_wp2_with fail
                  go_roundw
                  case rel => exact ⟨j + 1, by omega, by simp, HB13.out, HA13.out⟩
                  case measure => simp [intOf]; omega
              · have d1 : decide (kk > nn) = false := by simp; omega
                have d1' : decide ((kk : Int) > (nn : Int)) = false := by simp; omega
                have d2 : (kk == nn) = false := by simpa using hk
                have d2' : ((kk : Int) == (nn : Int)) = false := by simp; omega
                clear hle
                go_wp2_with fail
                go_roundw
                case rel => exact ⟨j + 1, by omega, by simp, HB13.out, HA13.out⟩
                case measure => simp [intOf]; omega
            · obtain rfl : j = 6 := by omega
              clear HCH HL11 HLO11 HBQ11
              have HLD := Lib.hid (Louder_h HOK.out HC.out wind g0 g4 pb po pc a9 p9 st (by omega) wj HLOj.out.mo.rp HLOj.out.rh)
              rcases leastV_spec t wind (fun _ => true) st with ⟨e1, hno⟩ | ⟨x, e1, hx1, hx40, hyes, hno⟩
              · have e2 : louderAns (leastV t wind (fun _ => true) st) = .tuple #[.int .i64 0, .int .i64 6] := by rw [e1]; rfl
                rw [e2] at HLD
                clear e1 e2
                go_wp2_with fail
                refine HLD.out.mono ?_
                rintro e w12 ⟨rfl, hB⟩
                have HLO12 := Lib.hid (HLOj.out.below hB)
                clear hB HLD HLOj
                obtain ⟨W13, hW13⟩ : ∃ W13 : World, W13 = w12.alloc (.cells #[.int .i64 40, .int .i64 41] 3) := ⟨_, rfl⟩
                have hb13 : W13.heap[w12.heap.size]? = some (.cells #[.int .i64 40, .int .i64 41] 3 (0, 0)) := by rw [hW13]; exact heap_alloc_last _ _
                have HLO13 := Lib.hid (HLO12.out.below (show Below w12.heap.size w12 W13 by rw [hW13]; exact below1 _ _))
                have HW13 := Lib.hid hW13
                have HB13 := Lib.hid hb13
                clear hb13 hW13 k0 k1 k2 k3 k4 k5 k6 k7 k8
                go_wp2_with fail
                rw [← HW13.out]
                clear HW13
                obtain ⟨c13, hc13⟩ : ∃ c13, c13 = w12.heap.size := ⟨_, rfl⟩
                rw [← hc13] at HB13 ⊢
                clear hc13
                go_loopw [247] (fun i wr => ∃ j : Nat, j ≤ 2 ∧ i = .int .i64 j ∧ Below W13.heap.size W13 wr) (fun i _ => 2 - (intOf i).toNat)
                case atStart => exact ⟨0, by omega, rfl, Below.refl _ _⟩
                case round =>
                  obtain ⟨j, hj, rfl, hB⟩ := hrel
                  obtain ⟨wq, rfl⟩ : ∃ wq : World, wq = wr := ⟨_, rfl⟩
                  have HLOq := Lib.hid (HLO13.out.below hB)
                  have HBq := Lib.hid hB
                  have hbq := (hB.block _ (Array.getElem?_eq_some_iff.1 HB13.out).1).trans HB13.out
                  obtain ⟨q0, q1⟩ := blk_cells2 hbq
                  have q2 : c13 < wq.heap.size := (Array.getElem?_eq_some_iff.1 hbq).1
                  obtain ⟨k0, k1, k2, k3, k4, k5, k6, k7, k8⟩ := HLOq.out.cs
                  clear hB hbq
                  rcases (show j = 0 ∨ j = 1 ∨ j = 2 by omega) with rfl | rfl | rfl
                  · skip
                    have d3 : ((chooseP (lis t wind 40 fun _ => true) st).2 == ((kindIdx t.plots 1).length : Int)) = false := by
                      have h := okV_eq (t := t) HC.out wind 40 st
                      rw [hno, lis_houses_len] at h
                      exact beq_eq_false_iff_ne.2 (decide_eq_false_iff_not.1 h.symm)
                    have HB1 := Lib.hid (Best_h HOK.out HC.out wind 40 (by unfold airErr; rw [if_neg (by omega)]) pb po pc a9 p9 st (by omega) wq HLOq.out.mo.rp HLOq.out.rh)
                    generalize (chooseP (lis t wind 40 fun _ => true) st).2 = n2 at HB1 d3
                    go_wp2_with fail
                    refine HB1.out.mono ?_
                    rintro e w14 ⟨v34, rfl, hB, -⟩
                    have HB14 := Lib.hid (join HBq.out hB)
                    clear hB HB1
                    go_wp2_with fail
                    go_roundw
                    case rel => exact ⟨1, by omega, by simp, HB14.out⟩
                    case measure => simp [intOf]
                  · skip
                    go_wp2_with fail
                    go_roundw
                    case rel => exact ⟨2, by omega, by simp, HBq.out⟩
                    case measure => simp [intOf]
                  · go_wp2_with fail
                    refine (awake_any _).mono ?_
                    rintro e w15 ⟨rfl, hB⟩
                    have HBE := Lib.hid (HLOq.out.below hB).mo.bel
                    clear hB
                    go_wp2_with fail
                    go_ret
                    exact ⟨rfl, HBE.out⟩
              · have e2 : louderAns (leastV t wind (fun _ => true) st) = .tuple #[.int .i64 x, .int .i64 0] := by rw [e1]; unfold louderAns; rw [if_neg (by omega)]
                rw [e2] at HLD
                clear e1 e2
                have dx1 : decide ((x : Int) < 1) = false := by simp; omega
                have dx2 : decide ((x : Int) > 40) = false := by simp; omega
                go_wp2_with fail
                refine HLD.out.mono ?_
                rintro e w12 ⟨rfl, hB⟩
                have HLO12 := Lib.hid (HLOj.out.below hB)
                clear hB HLD HLOj
                obtain ⟨W13, hW13⟩ : ∃ W13 : World, W13 = w12.alloc (.cells #[.int .i64 ((x : Int) - 1), .int .i64 (x : Int)] 3) := ⟨_, rfl⟩
                have hb13 : W13.heap[w12.heap.size]? = some (.cells #[.int .i64 ((x : Int) - 1), .int .i64 (x : Int)] 3 (0, 0)) := by rw [hW13]; exact heap_alloc_last _ _
                have HLO13 := Lib.hid (HLO12.out.below (show Below w12.heap.size w12 W13 by rw [hW13]; exact below1 _ _))
                have HW13 := Lib.hid hW13
                have HB13 := Lib.hid hb13
                clear hb13 hW13 k0 k1 k2 k3 k4 k5 k6 k7 k8
                go_wp2_with fail
                rw [← HW13.out]
                clear HW13
                obtain ⟨c13, hc13⟩ : ∃ c13, c13 = w12.heap.size := ⟨_, rfl⟩
                rw [← hc13] at HB13 ⊢
                clear hc13
                go_loopw [247] (fun i wr => ∃ j : Nat, j ≤ 2 ∧ i = .int .i64 j ∧ Below W13.heap.size W13 wr) (fun i _ => 2 - (intOf i).toNat)
                case atStart => exact ⟨0, by omega, rfl, Below.refl _ _⟩
                case round =>
                  obtain ⟨j, hj, rfl, hB⟩ := hrel
                  obtain ⟨wq, rfl⟩ : ∃ wq : World, wq = wr := ⟨_, rfl⟩
                  have HLOq := Lib.hid (HLO13.out.below hB)
                  have HBq := Lib.hid hB
                  have hbq := (hB.block _ (Array.getElem?_eq_some_iff.1 HB13.out).1).trans HB13.out
                  obtain ⟨q0, q1⟩ := blk_cells2 hbq
                  have q2 : c13 < wq.heap.size := (Array.getElem?_eq_some_iff.1 hbq).1
                  obtain ⟨k0, k1, k2, k3, k4, k5, k6, k7, k8⟩ := HLOq.out.cs
                  clear hB hbq
                  rcases (show j = 0 ∨ j = 1 ∨ j = 2 by omega) with rfl | rfl | rfl
                  · by_cases hxe : x = 1
                    · have d1 : decide ((x : Int) - 1 < 1) = true := by simp; omega
                      go_wp2_with fail
                      go_roundw
                      case rel => exact ⟨1, by omega, by simp, HBq.out⟩
                      case measure => simp [intOf]
                    · have d1 : decide ((x : Int) - 1 < 1) = false := by simp; omega
                      have d2 : decide ((x : Int) - 1 > 40) = false := by simp; omega
                      have d3 : ((chooseP (lis t wind ((x : Int) - 1) fun _ => true) st).2 == ((kindIdx t.plots 1).length : Int)) = false := by
                        have h := okV_eq (t := t) HC.out wind ((x : Int) - 1) st
                        rw [hno (by omega), lis_houses_len] at h
                        exact beq_eq_false_iff_ne.2 (decide_eq_false_iff_not.1 h.symm)
                      have HB1 := Lib.hid (Best_h HOK.out HC.out wind ((x : Int) - 1) (by unfold airErr; rw [if_neg (by omega)]) pb po pc a9 p9 st (by omega) wq HLOq.out.mo.rp HLOq.out.rh)
                      generalize (chooseP (lis t wind ((x : Int) - 1) fun _ => true) st).2 = n2 at HB1 d3
                      go_wp2_with fail
                      refine HB1.out.mono ?_
                      rintro e w14 ⟨v34, rfl, hB, -⟩
                      have HB14 := Lib.hid (join HBq.out hB)
                      clear hB HB1
                      go_wp2_with fail
                      go_roundw
                      case rel => exact ⟨1, by omega, by simp, HB14.out⟩
                      case measure => simp [intOf]
                  · skip
                    have d3 : ((chooseP (lis t wind (x : Int) fun _ => true) st).2 == ((kindIdx t.plots 1).length : Int)) = true := by
                      have h := okV_eq (t := t) HC.out wind (x : Int) st
                      rw [hyes, lis_houses_len] at h
                      exact beq_iff_eq.2 (decide_eq_true_iff.1 h.symm)
                    have HB1 := Lib.hid (Best_h HOK.out HC.out wind (x : Int) (by unfold airErr; rw [if_neg (by omega)]) pb po pc a9 p9 st (by omega) wq HLOq.out.mo.rp HLOq.out.rh)
                    generalize (chooseP (lis t wind (x : Int) fun _ => true) st).2 = n2 at HB1 d3
                    go_wp2_with fail
                    refine HB1.out.mono ?_
                    rintro e w14 ⟨v34, rfl, hB, -⟩
                    have HB14 := Lib.hid (join HBq.out hB)
                    clear hB HB1
                    go_wp2_with fail
                    go_roundw
                    case rel => exact ⟨2, by omega, by simp, HB14.out⟩
                    case measure => simp [intOf]
                  · go_wp2_with fail
                    refine (awake_any _).mono ?_
                    rintro e w15 ⟨rfl, hB⟩
                    have HBE := Lib.hid (HLOq.out.below hB).mo.bel
                    clear hB
                    go_wp2_with fail
                    go_ret
                    exact ⟨rfl, HBE.out⟩
end Go.Proofs.Ytimedmkpenbmkaa

namespace Go.Proofs.Ytimedmkpenbmkaa
open Go.ChangeShapes Go.WideShapes Go.ChangeAt Go.RowKit Go.Joins
set_option linter.unusedVariables false
set_option linter.unusedSimpArgs false

set_option maxHeartbeats 1000000 in
set_option maxRecDepth 100000 in
theorem HearLouder_lifted (os : Os) (started : os.Started) (H : Type) (enc : TypeId × Value → H) :
    ReturnsInHanded {} Try.checked os 10 .any (Rows.hearLouderSpec.pre6 enc Try.prog Try.f10 Rows.hearLouderRow.domain false) (Rows.hearLouderSpec.post enc Try.prog Try.f10 false true false false) := by
  refine returnsInHanded_of_change (C := Try.checked) Try.own started (by kernel_rfl) Try.func10
    (ChangeSpec.witness6 (enc := enc) (C := Try.checked) false ⟨#[], #[.slice none 0 0, .slice none 0 0, .int .u8 0], []⟩ 8 (by kernel_rfl) (by kernel_rfl) (by kernel_rfl) (by kernel_rfl)) ?_
  intro W base args ds gs before hval0 hW hcnd _
  have hval : ∀ (j : Nat) t v, Try.f10.params[j]? = some t → args[j]? = some v → Value.okWide Try.prog W .any base t v := hval0
  have hW' := hW
  obtain ⟨p, q, hA0, hV, rfl, hfz, hnd⟩ := hW
  have hA : DataW.TrodAll enc Try.prog W 0 (fun _ => true) true Try.f10.params.toList args.toList ds p := hA0
  rw [Try.params10] at hA hval
  obtain ⟨v0, vs0, d0, ds0, p0, q0, hargs, rfl, rfl, h0, r0⟩ := trodAll_cons hA
  obtain ⟨v1, vs1, d1, ds1, p1, q1, rfl, rfl, rfl, h1, r1⟩ := trodAll_cons r0
  obtain ⟨v2, vs2, d2, ds2, p2, q2, rfl, rfl, rfl, h2, r2⟩ := trodAll_cons r1
  obtain ⟨rfl, rfl, rfl⟩ := trodAll_nil r2
  obtain rfl : args = #[v0, v1, v2] := by cases args; simp_all
  obtain ⟨rfl, rfl⟩ := trodVars_none hV
  have lt0 := lt_of_trod h0
  have k0 := h0
  have lt1 := lt_of_trod h1
  have k1 := h1
  obtain ⟨m0, hm0⟩ := h0
  obtain ⟨m1, hm1⟩ := h1
  obtain ⟨x0, x1, x2, rfl⟩ := okWide_slice Try.underlying84 (hval 0 84 v0 rfl rfl)
  obtain ⟨y0, y1, y2, rfl⟩ := okWide_slice Try.underlying84 (hval 1 84 v1 rfl rfl)
  obtain ⟨ma, n, mc, e0, hM⟩ := rdB_of_trod (fun _ => rfl) Try.underlying84 Try.underlying5 cells5 hm0
  obtain ⟨ma2, n2, mc2, e1, hM2⟩ := rdB_of_trod (fun _ => rfl) Try.underlying84 Try.underlying5 cells5 hm1
  obtain ⟨wh, rfl, rfl, rfl, w1⟩ := open_int Try.underlying5 (hval 2 5 v2 rfl rfl) h2
  have hwb := bounds_u8 w1
  clear hA0 hval0
  injection e0 with q1 q2 q3
  subst q1 q2 q3
  injection e1 with q1 q2 q3
  subst q1 q2 q3
  refine (HearLouder_any _ _ _ _ _ _ wh hwb.1 (by omega) W hM hM2).mono fun e W' ⟨he, bel⟩ => ?_
  subst he
  exact ⟨_, rfl, _, _, _, [], _, [], hW', trodAll_mk1 (shut_bool Try.underlying4 _), (trodAll_cons_mk (Below.trod Try.laidOut (by kernel_rfl) (of_decide_eq_true (by kernel_rfl)) k0 bel lt0) (trodAll_cons_mk (Below.trod Try.laidOut (by kernel_rfl) (of_decide_eq_true (by kernel_rfl)) k1 bel lt1) (trodAll_cons_mk (shut_int Try.underlying5 w1) trodAll_mk0))), rfl, bel.frame _, fun h => by cases h⟩

theorem HearLouder_holds : Rows.HearLouderSaid :=
  OpenClaim.holds_of_wide 10 Try.f10 rfl rfl rfl rfl rfl rfl rfl ⟨rfl, rfl, rfl, rfl, rfl⟩ rfl rfl rfl rfl rfl (by kernel_rfl) Try.func10 (by kernel_rfl)
    (of_decide_eq_true (by kernel_rfl)) (by unfold Func.isWrapper; first | (rw [if_pos (by decide +kernel)]; kernel_rfl) | (rw [if_neg (by decide +kernel)]; exact ⟨rfl, rfl⟩))
    (fun os started H enc _ => HearLouder_lifted os started H enc)
end Go.Proofs.Ytimedmkpenbmkaa
