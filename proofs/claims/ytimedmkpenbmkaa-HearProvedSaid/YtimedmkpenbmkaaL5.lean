import Derived.Test.YtimedmkpenbmkaaPh
namespace Go.Proofs.Ytimedmkpenbmkaa
open Go.RowKit Go.Shelf
set_option linter.unusedSimpArgs false
set_option linter.unusedVariables false
attribute [local go_sem] run_field27

def spP42 (wide : Int) (pv : Value) (wind : Int) (v26 : Value) (Lw : List Int) (k : Int) (B : Nat) (tv te : Int) : Nat → List Value → Value → World → Prop
  | 0, _, v, _ => v = .agg #[.int .i64 wide, pv]
  | 1, _, v, _ => v = .int .i64 wind
  | 2, _, v, _ => v = v26
  | 3, L, v, w => ∃ g, v = .slice (some ⟨g, 0, none⟩) Lw.length Lw.length ∧ B ≤ g ∧ TabAt w g Lw
  | 4, _, v, _ => v = .int .i64 k
  | 5, L, v, w => ∃ g, v = .slice (some ⟨g, 0, none⟩) 1 1 ∧ B ≤ g ∧ TabAt w g [k]
  | 6, L, v, w => w.ownsRow B 3 1 v (Lw.length + 1) ((Lw ++ [k]).map (Value.int .i64))
  | 7, _, v, _ => v = .tuple #[.int .i64 tv, .int .i64 te]
  | 8, _, v, _ => v = .tuple #[.int .i64 tv, .int .i64 te]
  | 9, _, v, _ => v = .int .i64 tv
  | 10, _, v, _ => v = .int .i64 te
  | 11, _, v, _ => v = .int .i64 tv
  | 12, _, v, _ => v = .int .i64 te
  | _, _, _, _ => False
theorem spP42_stable (wide : Int) (pv : Value) (wind : Int) (v26 : Value) (Lw : List Int) (k : Int) (B : Nat) (tv te : Int) : ∀ i L v w w', spP42 wide pv wind v26 Lw k B tv te i L v w → Rs.Gr w w' → spP42 wide pv wind v26 Lw k B tv te i L v w' := by
  intro i L v w w' h hg
  match i with
  | 0 => exact h
  | 1 => exact h
  | 2 => exact h
  | 3 => obtain ⟨g, h1, h2, h3⟩ := h; exact ⟨g, h1, h2, h3.below hg h3.lt⟩
  | 4 => exact h
  | 5 => obtain ⟨g, h1, h2, h3⟩ := h; exact ⟨g, h1, h2, h3.below hg h3.lt⟩
  | 6 => exact own_below h hg
  | 7 => exact h
  | 8 => exact h
  | 9 => exact h
  | 10 => exact h
  | 11 => exact h
  | 12 => exact h

set_option maxHeartbeats 8000000 in
set_option maxRecDepth 100000 in
theorem HearProved_any (ma : Option Addr) (n mc : Nat) (ma2 : Option Addr) (n2 mc2 : Nat) (w : World) (hM : RdB w ma n) (hM2 : RdB w ma2 n2) :
    Calls Try.prog 9 #[.slice ma n mc, .slice ma2 n2 mc2] w fun e w' => e = .returned (.bool true) ∧ Below w.heap.size w w' := by
  have hB0 := below1 w (.cells #[.slice ma n mc, .int .i64 0, .int .u32 0] 150)
  have hBL := (bell_hung (mc := mc) hM).below (below1 _ (.cells #[.slice ma2 n2 mc2, .int .i64 0, .int .u32 0] 150))
  have hBQ := bell_hung (mc := mc2) (hM2.below hB0)
  rw [World.size_alloc] at hBQ
  have HBL := Lib.hid hBL
  have HBQ := Lib.hid hBQ
  have HM := Lib.hid hM
  have HM2 := Lib.hid hM2
  have HB0 := Lib.hid (al hB0 (.cells #[.slice ma2 n2 mc2, .int .i64 0, .int .u32 0] 150))
  clear hM hM2 hB0 hBL hBQ
  go_enter Try.func9, Try.ntmps9
  go_wp2_with fail
  refine (hang_any ma n mc w).mono ?_
  rintro e w1 ⟨rfl, rfl⟩
  go_wp2_with fail
  refine (hang_any ma2 n2 mc2 _).mono ?_
  rintro e w1 ⟨rfl, rfl⟩
  go_wp2_with fail
  refine (made_any w.heap.size ma n mc 24 (by omega) (by omega) _ HBL.out (fun hn mb mo e => by have := HM.out.2.1 hn mb mo e; simp; omega)).mono ?_
  rintro e w2 ⟨t, v, p, rfl, ho, hc, h24, hp, hp0, hbl, hh⟩
  have ok : t.Ok := by have := (town_ok hc).1; rwa [townOf_self] at this
  have HOK := Lib.hid ok
  have HC := Lib.hid hc
  have hsz2 := hh.size
  simp only [World.size_alloc] at hsz2 ho
  have hoffB := own_off (QB := w.heap.size) ho (by omega)
  have hoffQ := own_off (QB := w.heap.size + 1) ho (by omega)
  have hQ2 := HBQ.out.hold hh (show w.heap.size + 1 ≠ w.heap.size by omega) (fun hn mb mo e => by have := HM2.out.2.1 hn mb mo e; show mb ≠ w.heap.size; omega)
  have hB2 : Below w.heap.size w w2 := HB0.out.trans ((hh.mono (Kq := fun k => k < w.heap.size) (fun k (hk : k < w.heap.size) _ => show k ≠ w.heap.size by omega)).to_below (by simp; omega))
  obtain ⟨pa, pc, rfl⟩ := own_slice ho
  have hS2 : PvS t w2.heap.size (.slice pa t.plots.length pc) w.heap.size ma n mc (w2.alloc (.cells #[.int .i64 t.wide, .slice pa t.plots.length pc] 24)) :=
    ⟨heap_alloc_last _ _, (RdI.own rfl rfl ho).below (below1 _ _), hbl.below (below1 _ _), by omega, hoffB⟩
  have HS2 := Lib.hid hS2
  have HQ2 := Lib.hid (hQ2.below (below1 w2 (.cells #[.int .i64 t.wide, .slice pa t.plots.length pc] 24)))
  have HB2 := Lib.hid (al hB2 (.cells #[.int .i64 t.wide, .slice pa t.plots.length pc] 24))
  have HP := Lib.hid (And.intro hp hp0)
  have H24 := Lib.hid h24
  have HOQ := Lib.hid hoffQ
  have HMA : Hid (n ≠ 0 → ∀ mb mo, ma = some ⟨mb, mo, none⟩ → mb < (w2.alloc (.cells #[.int .i64 t.wide, .slice pa t.plots.length pc] 24)).heap.size) := Lib.hid (fun hn mb mo e => by have := HM.out.2.1 hn mb mo e; simp; omega)
  have HM2L : Hid (n2 ≠ 0 → ∀ mb mo, ma2 = some ⟨mb, mo, none⟩ → mb < w.heap.size) := Lib.hid HM2.out.2.1
  have HBK : Hid (∀ W, W.heap = (w2.alloc (.cells #[.int .i64 t.wide, .slice pa t.plots.length pc] 24)).heap → BellOk W w.heap.size ma n mc) := Lib.hid (fun W e => HS2.out.bell.heap e)
  have HK3 : Hid (∀ W3, Hold (fun k => k ≠ w.heap.size) (w2.alloc (.cells #[.int .i64 t.wide, .slice pa t.plots.length pc] 24)) W3 → BellOk W3 w.heap.size ma n mc → Hid (PvS t w2.heap.size (.slice pa t.plots.length pc) w.heap.size ma n mc W3 ∧ Aft w.heap.size (w2.alloc (.cells #[.int .i64 t.wide, .slice pa t.plots.length pc] 24)) W3) ∧ W3.cell? ⟨w2.heap.size, 0, none⟩ = some (.int .i64 t.wide) ∧ W3.cell? ⟨w2.heap.size, 1, none⟩ = some (.slice pa t.plots.length pc) ∧ w2.heap.size < W3.heap.size) :=
    Lib.hid (fun W3 hh hb => have h := HS2.out.ring hb hh; ⟨Lib.hid ⟨h, hh⟩, h.cs.1, h.cs.2, h.lt⟩)
  have hl30 : t.plots.length ≤ 30 := HOK.out.n30
  obtain ⟨k0, k1⟩ := HS2.out.cs
  clear HBL HBQ ho hc hbl hh hB2 ok hp hp0 h24 HB0 hS2 hQ2 hoffB hoffQ HM HM2
  go_upto_region 3 with fail
  go_cut [8, 9] from 37 to 41 (fun s8 s9 wx => PvR3 t w2.heap.size (.slice pa t.plots.length pc) w.heap.size ma n mc (w2.alloc (.cells #[.int .i64 t.wide, .slice pa t.plots.length pc] 24)) s8 s9 wx)
  case first =>
    go_region_with (first | (go_at_call 59; refine (aired_any w.heap.size ma n mc trivial _ (by exact HBK.out _ rfl) (by exact HMA.out)).mono ?_; rintro e w3 ⟨wind, voice, g0, g4, v1, v16, rfl, HBL3, HH3⟩; obtain ⟨HS3, q0, q1, q2⟩ := HK3.out w3 ⟨HH3.out.os, HH3.out.tape, HH3.out.output, HH3.out.size, HH3.out.same⟩ HBL3.out) | (go_at_call 60; refine (streets_any t.wide pa pc t.plots (by omega) _ (by exact RdI.heap rfl HS3.out.1.rp)).mono ?_; rintro e w5 ⟨v9, rfl, ho, hB⟩; have HO5 := Lib.hid ho; have HB5 := Lib.hid hB; clear ho hB))
    all_goals go_wp2_with fail
    all_goals go_meet
    all_goals exact PvR3.mk' g0 g4 HS3.out.1 HS3.out.2 rfl HO5.out ⟨HB5.out.os, HB5.out.tape, HB5.out.output, HB5.out.size, HB5.out.block⟩ rfl ⟨rfl, rfl, rfl, Nat.le_refl _, fun _ _ => rfl⟩
  case rest =>
    obtain ⟨wind, a9, c9, L, hL, g0, g4, rfl, rfl, hr9, ho9, hS, hA⟩ := hcut
    have hLne : L ≠ [] := by
      intro e
      have : ((p : Nat) : Int) ∈ L := by rw [hL]; exact mem_kindIdx.2 ⟨p, rfl, HP.out.1, HP.out.2⟩
      rw [e] at this; cases this
    have hL0 : 0 < L.length := List.length_pos_iff.2 hLne
    have hL30 : L.length ≤ 30 := by rw [hL]; have := kindTo_len t.plots 0 t.plots.length; unfold kindIdx; omega
    obtain ⟨lb, lo, rfl, -, hI⟩ := rd_ints hr9 hLne
    have HL := Lib.hid hL
    have HS := Lib.hid hS
    have HA := Lib.hid hA
    have HI := Lib.hid hI
    have HO9 := Lib.hid ho9
    clear hL hLne hr9 ho9 hS hA hI HBK HK3 k0 k1
    go_wp2_with fail
    refine (stroke_z w.heap.size ma n mc ((L.length : Int) - 1) (by omega) (by omega) _ HS.out.bell).mono ?_
    rintro e w4 ⟨x, x0, x1, rfl, hB, hH⟩
    have hS4 := HS.out.ring hB hH
    have hA4 : Aft w.heap.size (w2.alloc (.cells #[.int .i64 t.wide, .slice pa t.plots.length pc] 24)) w4 := Hold.trans HA.out hH
    have hxL : x.toNat < L.length := by omega
    have hcs := (hH.cell (p := ⟨lb, lo + x.toNat, none⟩) (HO9.out lb lo _ _ rfl) HI.out.1).trans (HI.out.2 x.toNat hxL)
    have hlb4 : lb < w4.heap.size := Nat.lt_of_lt_of_le HI.out.1 hH.size
    obtain ⟨s, hs, hsl, hs0⟩ : ∃ s : Nat, L.getD x.toNat 0 = s ∧ s < t.len ∧ t.at s = 0 := by
      have := mem_getD hxL
      rw [HL.out] at this
      obtain ⟨s, e, h1, h2⟩ := mem_kindIdx.1 this
      exact ⟨s, by rw [HL.out]; exact e, h1, h2⟩
    rw [hs] at hcs
    have hxL2 : x < L.length := by omega
    have hQ4 : BellOk w4 (w.heap.size + 1) ma2 n2 mc2 := HQ2.out.hold hA4 (show w.heap.size + 1 ≠ w.heap.size by omega) (fun hn mb mo e => by have := HM2L.out hn mb mo e; show mb ≠ w.heap.size; omega)
    have HSQ : Hid (PvS t w2.heap.size (.slice pa t.plots.length pc) (w.heap.size + 1) ma2 n2 mc2 w4) := Lib.hid ⟨hS4.b7, hS4.rp, hQ4, by omega, HOQ.out⟩
    have HB4 := Lib.hid (HB2.out.trans (hA4.low (Nat.le_refl _) (by simp; omega)))
    have hQ4l : w.heap.size + 1 < w4.heap.size := hQ4.lt
    have HSS := Lib.hid (And.intro hsl hs0)
    have e1 := needs_err0 HC.out g0 g4 hsl hs0
    have HN := Lib.hid e1
    obtain ⟨k0, k1⟩ := HSQ.out.cs
    have hc7l := HSQ.out.lt
    obtain ⟨X, hX⟩ : ∃ X, X = t.needs wind s := ⟨_, rfl⟩
    have hXl : X.length = t.plots.length := by rw [hX]; exact needs_len HOK.out _ hsl
    have HNE := Lib.hid (fun W (hR : RdI W (.slice pa t.plots.length pc) t.plots) => Needs_yes t HOK.out wind s hsl e1 pa pc W hR)
    rw [← hX, hXl] at HNE
    have HX := Lib.hid hX
    have HXL := Lib.hid hXl
    have hNp : 0 < t.plots.length := by have := HP.out.1; show 0 < t.len; omega
    clear hB hH hS4 hA4 hs hsl hs0 hQ4 e1 hX hXl HS HA HI HO9 HQ2 HB2 HS2 HMA
    go_wp2_with fail
    refine (HNE.out _ HSQ.out.rp).mono ?_
    rintro e w5 ⟨tb, rfl, hT, htb, hB⟩
    have HTX := Lib.hid hT
    have HSQ := Lib.hid (HSQ.out.below hB)
    have HB5 := Lib.hid (join HB4.out hB)
    have hQ5l : w.heap.size + 1 < w5.heap.size := Nat.lt_of_lt_of_le hQ4l hB.size
    have htbQ : tb ≠ w.heap.size + 1 := by omega
    obtain ⟨k0, k1⟩ := HSQ.out.cs
    have hc7l := HSQ.out.lt
    have HHN : Hid (∀ W, RdI W (.slice pa t.plots.length pc) t.plots → RdI W (.slice (some ⟨tb, 0, none⟩) t.plots.length t.plots.length) X → Calls Try.prog 32 #[.agg #[.int .i64 t.wide, .slice pa t.plots.length pc], .int .i64 wind, .int .i64 s, .slice (some ⟨tb, 0, none⟩) t.plots.length t.plots.length] W fun e w' => e = .returned (.tuple #[.bool true, .int .i64 0]) ∧ Below W.heap.size W w') := Lib.hid (fun W hR hT => by
      have hb := fun i (hi : i < X.length) => (show -9223372036854775808 ≤ X.getD i 0 ∧ X.getD i 0 ≤ 9223372036854775807 by rw [HX.out]; have := needs_bd HOK.out wind HSS.out.1 i (by rw [HXL.out] at hi; exact hi); omega)
      have := Holds_any t.wide wind s pa (some ⟨tb, 0, none⟩) pc t.plots.length t.plots X (by omega) hb W hR (by rw [HXL.out]; exact hT)
      have hv := holdsV_needs HOK.out HSS.out.1 HN.out
      rw [← HX.out] at hv
      rw [hv.1, hv.2, HXL.out] at this
      exact this)
    have HTL : Hid (∀ W, TabAt W tb X → RdI W (.slice (some ⟨tb, 0, none⟩) t.plots.length t.plots.length) X) := Lib.hid (fun W h => tab_rd h HXL.out.symm (by rw [HXL.out]; omega))
    clear hT hB HNE HB4 htb hcs
    go_wp2_with fail
    refine (HHN.out _ HSQ.out.rp (HTL.out _ HTX.out)).mono ?_
    rintro e w6 ⟨rfl, hB⟩
    have HTX := Lib.hid (HTX.out.below hB HTX.out.lt)
    have HSQ := Lib.hid (HSQ.out.below hB)
    have HB6 := Lib.hid (join HB5.out hB)
    have hQ6l : w.heap.size + 1 < w6.heap.size := Nat.lt_of_lt_of_le hQ5l hB.size
    obtain ⟨k0, k1⟩ := HSQ.out.cs
    have hc7l := HSQ.out.lt
    have htbl := HTX.out.lt
    clear hB HB5
    go_wp2_with fail
    clear k0 k1 hc7l htbl
    go_loopw [85] (fun i wi => ∃ k : Nat, k ≤ t.plots.length ∧ i = .int .i64 k ∧ Below w6.heap.size w6 wi) (fun i _ => t.plots.length - (intOf i).toNat)
    case atStart => exact ⟨0, Nat.zero_le _, rfl, Below.refl _ _⟩
    case round =>
      obtain ⟨k, hk, rfl, hBi⟩ := hrel
      obtain ⟨wi, rfl⟩ : ∃ wi : World, wi = wr := ⟨_, rfl⟩
      have HBi := Lib.hid hBi
      have hszi := hBi.size
      have HSi := Lib.hid (HSQ.out.below hBi)
      have HTi := Lib.hid (HTX.out.below hBi HTX.out.lt)
      by_cases hlk : k < t.plots.length
      · have hlk' : (k : Int) < t.plots.length := by omega
        have cx := HTi.out.cell (i := k) (by rw [HXL.out]; exact hlk)
        have htl := HTi.out.lt
        obtain ⟨x, hx⟩ : ∃ x, X.getD k 0 = x := ⟨_, rfl⟩
        rw [hx] at cx
        have HXK := Lib.hid hx
        have hxr : -1 ≤ x ∧ x ≤ 150 := by rw [← hx, HX.out]; exact needs_bd HOK.out wind HSS.out.1 k hlk
        obtain ⟨hx1, hx2⟩ := hxr
        obtain ⟨k0, k1⟩ := HSi.out.cs
        have hc7l := HSi.out.lt
        obtain ⟨en, ev⟩ := need_of HC.out g0 g4 HSS.out.1 HSS.out.2 HOK.out (q := k) hlk
        rw [← HX.out, hx] at en ev
        clear hx hBi
        by_cases hxn : x = -1
        · as_aux_lemma =>
          subst hxn
          rw [if_pos rfl] at en
          have HW : Hid (∀ W, RdI W (.slice pa t.plots.length pc) t.plots → Calls Try.prog 36 #[.agg #[.int .i64 t.wide, .slice pa t.plots.length pc], .int .i64 wind, .int .i64 s, .int .i64 k] W fun e w' => ∃ v, e = .returned (.tuple #[v, .int .i64 6]) ∧ w'.ownsRow W.heap.size 3 1 v (wayL t.wide t.plots wind s k).length ((wayL t.wide t.plots wind s k).map (Value.int .i64)) ∧ Below W.heap.size W w') := Lib.hid (fun W hR => by
            have := Way_any t.wide wind s k pa pc t.plots (by omega) W hR
            rw [en] at this
            exact this)
          clear en ev
          go_wp2_with fail
          refine (HW.out _ HSi.out.rp).mono ?_
          rintro e w8 ⟨v17, rfl, ho, hB8⟩
          have HB8 := Lib.hid (HBi.out.trans (hB8.mono hszi))
          have cx8 := (hB8.cell (p := ⟨tb, k, none⟩) htl).trans cx
          clear hB8 HW cx ho k0 k1
          go_wp2_with fail
          go_roundw
          case rel => exact ⟨k + 1, by omega, by simp, HB8.out⟩
          case measure => simp [intOf]; omega
        · as_aux_lemma =>
          rw [if_neg hxn] at en ev
          have hwt := way_takes en
          obtain ⟨u1, u2, u3, u4, u5, u6⟩ := hwt
          have u4 := wayL_len HOK.out HSS.out.1 hlk HN.out (q := k) (by rw [← HX.out, HXK.out]; exact hxn)
          rw [ev] at u2
          have HW : Hid (∀ W, RdI W (.slice pa t.plots.length pc) t.plots → Calls Try.prog 36 #[.agg #[.int .i64 t.wide, .slice pa t.plots.length pc], .int .i64 wind, .int .i64 s, .int .i64 k] W fun e w' => ∃ v, e = .returned (.tuple #[v, .int .i64 0]) ∧ w'.ownsRow W.heap.size 3 1 v (wayL t.wide t.plots wind s k).length ((wayL t.wide t.plots wind s k).map (Value.int .i64)) ∧ Below W.heap.size W w') := Lib.hid (fun W hR => by
            have := Way_any t.wide wind s k pa pc t.plots (by omega) W hR
            rw [en] at this
            exact this)
          obtain ⟨wl, hwl⟩ : ∃ wl, wl = wayL t.wide t.plots wind s k := ⟨_, rfl⟩
          rw [← hwl] at HW u1 u2 u3 u4 u5 u6
          have HTK : Hid (∀ W a17 c17, wl.length ≤ c17 → RdI W (.slice pa t.plots.length pc) t.plots → RdI W (.slice a17 wl.length c17) wl → Calls Try.prog 34 #[.agg #[.int .i64 t.wide, .slice pa t.plots.length pc], .int .i64 wind, .slice a17 wl.length c17] W fun e w' => e = .returned (.tuple #[.int .i64 x, .int .i64 0]) ∧ Below W.heap.size W w') := Lib.hid (fun W a17 c17 hc hR hT => by
            have := Takes_any t.wide wind pa a17 pc c17 t.plots wl (by omega) (by omega) hc W hR hT
            rw [u1, u2] at this
            exact this)
          have hdx : (x == -1) = false := by simpa using hxn
          have U5 := Lib.hid u5
          have U6 := Lib.hid u6
          clear en ev hwl u1 u2 u5 u6 hxn
          go_wp2_with fail
          refine (HW.out _ HSi.out.rp).mono ?_
          rintro e w8 ⟨v17, rfl, ho, hB8⟩
          obtain ⟨a17, c17, rfl⟩ := own_slice ho
          have hcap := own_cap ho
          have hwne : wl ≠ [] := by rintro rfl; simp at u3
          have hR17 := RdI.own rfl rfl ho
          obtain ⟨wb, wo, rfl, -, hIW⟩ := rd_ints hR17 hwne
          have HR17 := Lib.hid hR17
          have HIW := Lib.hid hIW
          have HSi8 := Lib.hid (HSi.out.below hB8)
          have HBi8 := Lib.hid (HBi.out.trans (hB8.mono hszi))
          have cx8 := (hB8.cell (p := ⟨tb, k, none⟩) htl).trans cx
          have htl8 := Nat.lt_of_lt_of_le htl hB8.size
          obtain ⟨k0, k1⟩ := HSi8.out.cs
          have hc7l := HSi8.out.lt
          have hsz8 := Nat.le_trans hszi hB8.size
          clear hB8 HW cx ho hR17 hIW hwne
          go_wp2_with fail
          refine (HTK.out _ _ _ hcap HSi8.out.rp HR17.out).mono ?_
          rintro e w9 ⟨rfl, hB9⟩
          have hI9 := HIW.out.below hB9 HIW.out.1
          have cw0 := hI9.2 0 (by omega)
          have cw1 := hI9.2 (wl.length - 1) (by omega)
          rw [U5.out, Nat.add_zero] at cw0
          rw [U6.out] at cw1
          have hwb := hI9.1
          have cx9 := (hB9.cell (p := ⟨tb, k, none⟩) htl8).trans cx8
          have HB9 := Lib.hid (HBi8.out.trans (hB9.mono hsz8))
          have hw1 : (1 : Int) ≤ wl.length := by omega
          have hw2 : (wl.length : Int) ≤ 151 := by omega
          have hw3 : ((wl.length : Int) - 1).toNat = wl.length - 1 := by omega
          have hw4 : ((wl.length : Int) == 0) = false := beq_eq_false_iff_ne.2 (by omega)
          clear hB9 HTK cx8 hI9 k0 k1
          go_wp2_with fail
          go_roundw
          case rel => exact ⟨k + 1, by omega, by simp, HB9.out⟩
          case measure => simp [intOf]; omega
      · have hkk : k = t.plots.length := by omega
        subst hkk
        have HB7 := Lib.hid (HB6.out.trans (HBi.out.mono (show w.heap.size ≤ w6.heap.size by omega)))
        have hQ7l : w.heap.size + 1 < wi.heap.size := Nat.lt_of_lt_of_le hQ6l hszi
        clear hBi HBi HTX HSQ HB6
        go_wp2_with fail
        go_loopw [143] (fun i wr => ∃ j : Nat, j ≤ 5 ∧ i = .int .i64 j ∧ BellOk wr (w.heap.size + 1) ma2 n2 mc2 ∧ Aft (w.heap.size + 1) wi wr) (fun i _ => 5 - (intOf i).toNat)
        case atStart => exact ⟨0, Nat.zero_le _, rfl, HSi.out.bell, Hold.refl _ _⟩
        case round =>
          obtain ⟨j, hj, rfl, hBl, hA⟩ := hrel
          obtain ⟨wj, rfl⟩ : ∃ wj : World, wj = wr := ⟨_, rfl⟩
          have HSj := Lib.hid (HSi.out.ring hBl hA)
          have HAj := Lib.hid hA
          have HTj := Lib.hid (HTi.out.hold hA htbQ)
          have hgQ : wj.heap.size ≠ w.heap.size + 1 := by have := hA.size; omega
          have hwj : wi.heap.size ≤ wj.heap.size := hA.size
          clear hBl hA
          by_cases hlj : j < 5
          · have hlj' : (j : Int) < 5 := by omega
            have HCF : Hid (∀ W, RdI W (.slice (some ⟨tb, 0, none⟩) t.plots.length t.plots.length) X → Calls Try.prog 27 #[.slice (some ⟨tb, 0, none⟩) t.plots.length t.plots.length] W fun e w' => e = .returned (.slice (some ⟨W.heap.size, 0, none⟩) t.plots.length t.plots.length) ∧ TabAt w' W.heap.size X ∧ Below W.heap.size W w') := Lib.hid (fun W hR => by
              have := copy_full _ X (by rw [HXL.out]; omega) W hR
              rw [HXL.out] at this
              exact this)
            go_wp2_with fail
            refine (HCF.out _ (HTL.out _ HTj.out)).mono ?_
            rintro e wk ⟨rfl, hT, hB⟩
            have HTT := Lib.hid hT
            have HBk := Lib.hid (HSj.out.bell.below hB)
            have HAk : Hid (Hold (fun k => k ≠ w.heap.size + 1) wj wk) := Lib.hid (.of_below hB (fun _ _ hl => hl))
            have hglk : wj.heap.size < wk.heap.size := hT.lt
            clear hT hB HCF
            go_wp2_with fail
            refine (strike_any (w.heap.size + 1) ma2 n2 mc2 1 4 3 (by omega) (by omega) (by omega) (by omega) _ HBk.out).mono ?_
            rintro e wl ⟨c, c1, c4, rfl, hB, hH⟩
            have HBl := Lib.hid hB
            have HAl := Lib.hid (HAk.out.trans hH)
            have HTTl := Lib.hid (HTT.out.hold hH hgQ)
            clear hB hH HTT HBk HAk hglk
            go_wp2_with fail
            go_loopw [149] (fun i wr => ∃ (z : Nat) (T : List Int), (z : Int) ≤ c ∧ i = .int .i64 z ∧ PvTb X T z ∧ TabAt wr wj.heap.size T ∧ BellOk wr (w.heap.size + 1) ma2 n2 mc2 ∧ Hold (fun k => k ≠ w.heap.size + 1) wj wr) (fun i _ => c.toNat - (intOf i).toNat)
            case atStart => exact ⟨0, X, by omega, rfl, PvTb.start X, HTTl.out, HBl.out, HAl.out⟩
            case round =>
              obtain ⟨z, T, hz, rfl, hPT, hTT, hBl, hA⟩ := hrel
              obtain ⟨wm, rfl⟩ : ∃ wm : World, wm = wr := ⟨_, rfl⟩
              have HPT := Lib.hid hPT
              have HTT := Lib.hid hTT
              have HBm := Lib.hid hBl
              have HAm := Lib.hid hA
              have HTl : Hid (T.length = t.plots.length) := Lib.hid (hPT.1.trans HXL.out)
              have HTbd : Hid (∀ i, i < t.plots.length → -50 ≤ T.getD i 0 ∧ T.getD i 0 ≤ 200) := Lib.hid (fun i hi => by
                have a := hPT.2 i (by rw [HXL.out]; exact hi)
                have b := needs_bd HOK.out wind HSS.out.1 i hi
                rw [← HX.out] at b
                omega)
              have hglm : wj.heap.size < wm.heap.size := hTT.lt
              clear hPT hTT hBl hA HTTl HBl HAl
              by_cases hlz : (z : Int) < c
              · as_aux_lemma =>
                have HCZ : Hid (∀ (u y : Int), 0 ≤ u → u ≤ (t.plots.length : Int) - 1 → T.getD u.toNat 0 = y → ∀ W, Hold (fun k => k ≠ w.heap.size + 1) wm W → W.cell? ⟨wj.heap.size, u.toNat, none⟩ = some (.int .i64 y) ∧ W.frozen? ⟨wj.heap.size, u.toNat, none⟩ = false ∧ wj.heap.size < W.heap.size ∧ -50 ≤ y ∧ y ≤ 200) := Lib.hid (fun u y u0 u1 hy W hh => by
                  have h1 := HTT.out.hold hh hgQ
                  have hu : u.toNat < T.length := by rw [HTl.out]; omega
                  have hb := HTbd.out u.toNat (by omega)
                  rw [hy] at hb
                  exact ⟨by rw [h1.cell hu, hy], h1.free _, h1.lt, hb.1, hb.2⟩)
                have HBK : Hid (∀ W, W.heap = wm.heap → BellOk W (w.heap.size + 1) ma2 n2 mc2) := Lib.hid (fun W e => HBm.out.heap e)
                have hm1 : IntKind.i64.wrap ((t.plots.length : Int) - 1) = (t.plots.length : Int) - 1 := IntWalk.i64_in _ (by omega)
                go_wp2_with fail
                go_region_with (first
                  | (go_at_call 61; refine (stroke_z (w.heap.size + 1) ma2 n2 mc2 ((t.plots.length : Int) - 1) (by omega) (by omega) _ (by exact HBK.out _ rfl)).mono ?_; rintro e w15 ⟨u, u0, u1, rfl, hB, hH⟩; obtain ⟨y, hy⟩ : ∃ y, T.getD u.toNat 0 = y := ⟨_, rfl⟩; have hH5 : Hold (fun k => k ≠ w.heap.size + 1) wm w15 := ⟨hH.os, hH.tape, hH.output, hH.size, hH.same⟩; obtain ⟨q0, q1, q2, y1, y2⟩ := HCZ.out u y u0 u1 hy w15 hH5; have HH5 := Lib.hid hH5; have HB5 := Lib.hid hB; have HY := Lib.hid hy; have hun : u < t.plots.length := (by omega); clear hy hB hH hH5)
                  | (go_at_call 62; refine (strike_any (w.heap.size + 1) ma2 n2 mc2 (-4) 4 8 (by omega) (by omega) (by omega) (by omega) _ (by exact BellOk.heap HB5.out rfl)).mono ?_; rintro e w16 ⟨v, v0, v1, rfl, hB, hH⟩; have hH6 : Hold (fun k => k ≠ w.heap.size + 1) wm w16 := HH5.out.trans ⟨hH.os, hH.tape, hH.output, hH.size, hH.same⟩; obtain ⟨q3, q4, q5, _, _⟩ := HCZ.out u y u0 u1 HY.out w16 hH6; have HH6 := Lib.hid hH6; have HB6 := Lib.hid hB; clear hB hH hH6))
                all_goals go_wp2_with fail
                all_goals
                  go_roundw
                  case rel =>
                    have hr := rel25 (W6 := _) HPT.out HTT.out HAm.out (Nat.le_refl _) hgQ (fun hn mb mo e => by have := HM2L.out hn mb mo e; omega) (BellOk.heap HB6.out rfl) HH6.out (u := u) (by rw [HXL.out]; omega) HY.out v0 v1
                    first
                      | exact ⟨z + 1, _, by omega, by simp, hr.1, hr.2.1, hr.2.2.1, hr.2.2.2⟩
                      | exact ⟨z + 1, _, by omega, by simp, hr.1, by exact hr.2.1, by exact BellOk.heap hr.2.2.1 rfl, ⟨hr.2.2.2.os, hr.2.2.2.tape, hr.2.2.2.output, hr.2.2.2.size, hr.2.2.2.same⟩⟩
                  case measure => simp [intOf]; omega
              · have hzc : (z : Int) = c := by omega
                obtain ⟨hb, hhb⟩ : ∃ hb, hb = holdsV t.wide t.plots wind s T := ⟨_, rfl⟩
                have HHB : Hid (hb = true → ∀ q, q < t.plots.length → X.getD q 0 ≠ -1 → T.getD q 0 ≤ X.getD q 0) := Lib.hid (fun h q hq hne => by
                  rw [HX.out] at hne ⊢
                  exact holdsV_below HOK.out HSS.out.1 (fun i hi => by have := HTbd.out i hi; omega) (by rw [← hhb]; exact h) hq hne)
                have HHT : Hid (∀ W, RdI W (.slice pa t.plots.length pc) t.plots → RdI W (.slice (some ⟨wj.heap.size, 0, none⟩) t.plots.length t.plots.length) T → Calls Try.prog 32 #[.agg #[.int .i64 t.wide, .slice pa t.plots.length pc], .int .i64 wind, .int .i64 s, .slice (some ⟨wj.heap.size, 0, none⟩) t.plots.length t.plots.length] W fun e w' => e = .returned (.tuple #[.bool hb, .int .i64 0]) ∧ Below W.heap.size W w') := Lib.hid (fun W hR hT => by
                  have := Holds_any t.wide wind s pa (some ⟨wj.heap.size, 0, none⟩) pc t.plots.length t.plots T (by omega) (fun i hi => by have := HTbd.out i (by rw [HTl.out] at hi; exact hi); omega) W hR (by rw [HTl.out]; exact hT)
                  rw [← hhb, holdsE_len HN.out HTl.out, HTl.out] at this
                  exact this)
                have HSm := Lib.hid (HSj.out.ring HBm.out HAm.out)
                have HAm : Hid (Aft (w.heap.size + 1) wi wm) := Lib.hid (Hold.trans HAj.out HAm.out)
                obtain ⟨k0, k1⟩ := HSm.out.cs
                have hc7l := HSm.out.lt
                clear hhb HBm hzc
                go_wp2_with fail
                refine (HHT.out _ HSm.out.rp (tab_rd HTT.out HTl.out.symm (by rw [HTl.out]; omega))).mono ?_
                rintro e wn ⟨rfl, hB⟩
                have HSn := Lib.hid (HSm.out.below hB)
                have HAn := Lib.hid (HAm.out.below hB)
                have HTTn := Lib.hid (HTT.out.below hB HTT.out.lt)
                clear hB HHT HSm HAm HTT k0 k1 hc7l
                go_wp2_with fail
                have HTn := Lib.hid (HTi.out.hold HAn.out htbQ)
                go_loopw [176] (fun i wr => ∃ q : Nat, q ≤ t.plots.length ∧ i = .int .i64 q ∧ Below wn.heap.size wn wr) (fun i _ => t.plots.length - (intOf i).toNat)
                case atStart => exact ⟨0, Nat.zero_le _, rfl, Below.refl _ _⟩
                case round =>
                  obtain ⟨q, hq, rfl, hBi⟩ := hrel
                  obtain ⟨wo, rfl⟩ : ∃ wo : World, wo = wr := ⟨_, rfl⟩
                  have HBo := Lib.hid hBi
                  have HTTo := Lib.hid (HTTn.out.below hBi HTTn.out.lt)
                  have HTo := Lib.hid (HTn.out.below hBi HTn.out.lt)
                  by_cases hlq : q < t.plots.length
                  · as_aux_lemma =>
                    have hlq' : (q : Int) < t.plots.length := by omega
                    have cy := HTTo.out.cell (i := q) (by rw [HTl.out]; exact hlq)
                    have cx := HTo.out.cell (i := q) (by rw [HXL.out]; exact hlq)
                    have hyl := HTTo.out.lt
                    have hxl := HTo.out.lt
                    obtain ⟨x, hx⟩ : ∃ x, X.getD q 0 = x := ⟨_, rfl⟩
                    obtain ⟨y, hy⟩ : ∃ y, T.getD q 0 = y := ⟨_, rfl⟩
                    rw [hx] at cx
                    rw [hy] at cy
                    have hle := fun h => HHB.out h q hlq
                    rw [hx, hy] at hle
                    have HLE := Lib.hid hle
                    clear hx hy hle hBi HHB
                    cases hb with
                    | false =>
                      go_wp2_with fail
                      go_roundw
                      case rel => exact ⟨q + 1, by omega, by simp, HBo.out⟩
                      case measure => simp [intOf]; omega
                    | true =>
                      by_cases hxn : x = -1
                      · subst hxn
                        go_wp2_with fail
                        go_roundw
                        case rel => exact ⟨q + 1, by omega, by simp, HBo.out⟩
                        case measure => simp [intOf]; omega
                      · have hd : (x != -1) = true := by simpa using hxn
                        have hyx : decide (y > x) = false := by have := HLE.out rfl hxn; simp; omega
                        clear hxn
                        go_wp2_with fail
                        go_roundw
                        case rel => exact ⟨q + 1, by omega, by simp, HBo.out⟩
                        case measure => simp [intOf]; omega
                  · have hqq : q = t.plots.length := by omega
                    subst hqq
                    have HSo := Lib.hid (HSn.out.below hBi)
                    have HAo := Lib.hid (HAn.out.below hBi)
                    have hwo : wi.heap.size ≤ wo.heap.size := HAo.out.size
                    have hT0 : TabAt (wo.alloc (.cells #[.int .i64 s] 3)) wo.heap.size [(s : Int)] := heap_alloc_last _ _
                    have HT0 := Lib.hid hT0
                    have hwoQ : wo.heap.size ≠ w.heap.size + 1 := by omega
                    clear hBi HBo HTTn HTTo HHB HTn hT0 HSn HAn HTl HTbd HPT
                    go_wp2_with fail
                    refine (stroke_any (w.heap.size + 1) ma2 n2 mc2 8 (by omega) _ (HSo.out.bell.below (below1 _ _))).mono ?_
                    rintro e wp ⟨c8, d0, d8, rfl, hB, hH⟩
                    have HBp := Lib.hid hB
                    have HAp : Hid (Hold (fun k => k ≠ w.heap.size + 1) wo wp) := Lib.hid ((Hold.alloc _ _).trans hH)
                    have HWp := Lib.hid (HT0.out.hold hH hwoQ)
                    clear hB hH HT0
                    go_wp2_with fail
                    go_loopw [26, 202] (fun v i wr => ∃ (z : Nat) (R : List Int), (z : Int) ≤ c8 ∧ R.length ≤ z ∧ i = .int .i64 z ∧ (0 ≤ lastOf s R ∧ lastOf s R < t.plots.length) ∧ wr.ownsRow wo.heap.size 3 1 v (R.length + 1) (((s : Int) :: R).map (Value.int .i64)) ∧ BellOk wr (w.heap.size + 1) ma2 n2 mc2 ∧ Hold (fun k => k ≠ w.heap.size + 1) wo wr) (fun _ i _ => c8.toNat - (intOf i).toNat)
                    case atStart => exact ⟨0, [], by omega, Nat.le_refl _, rfl, ⟨Int.natCast_nonneg _, by have := HSS.out.1; show (s : Int) < t.plots.length; have e : t.len = t.plots.length := rfl; omega⟩, tab_own HWp.out (Nat.le_refl _) (by simp), HBp.out, HAp.out⟩
                    case round =>
                      obtain ⟨z, R, hz, hRz, rfl, hPL, hown, hBl, hA⟩ := hrel
                      obtain ⟨wq, rfl⟩ : ∃ wq : World, wq = wr := ⟨_, rfl⟩
                      obtain ⟨g, cp, rfl, hgb, hI⟩ := own_ints2 hown
                      have hgQ5 : w.heap.size + 1 < wo.heap.size := by omega
                      have clast := hI.2 R.length (by simp)
                      obtain ⟨pl, hpl⟩ : ∃ pl, lastOf s R = pl := ⟨_, rfl⟩
                      rw [show ((s : Int) :: R).getD R.length 0 = pl from hpl, Nat.zero_add] at clast
                      rw [hpl] at hPL
                      obtain ⟨hpl0, hpl1⟩ := hPL
                      have HPLq := Lib.hid hpl
                      have HOW := Lib.hid hown
                      have HBq := Lib.hid hBl
                      have HAq := Lib.hid hA
                      have hglq := hI.1
                      have hwq : wo.heap.size ≤ wq.heap.size := hA.size
                      have HSq := Lib.hid (HSo.out.ring hBl hA)
                      clear hpl hown hBl hA hI HWp HBp HAp
                      by_cases hlz : (z : Int) < c8
                      · have HRW0 : Hid (RdI wq (.slice (some ⟨g, 0, none⟩) (R.length + 1) cp) ((s : Int) :: R)) := Lib.hid (RdI.own (xs := (s : Int) :: R) rfl rfl HOW.out)
                        have hRl : R.length ≤ 8 := by omega
                        obtain ⟨k0, k1⟩ := HSq.out.cs
                        have hc7l := HSq.out.lt
                        have hw1 : (1 : Int) ≤ t.wide := by have := HOK.out.w1; omega
                        have hw6 : (t.wide : Int) ≤ 6 := by have := HOK.out.w6; omega
                        go_upto_region 40 with fail
                        clear clast
                        go_cut [28] from 210 to 221 (fun s28 wx => ∃ k : Int, -6 ≤ k ∧ k ≤ 36 ∧ s28 = .int .i64 k ∧ Hid (BellOk wx (w.heap.size + 1) ma2 n2 mc2) ∧ Hid (Hold (fun k => k ≠ w.heap.size + 1) wq wx))
                        case first =>
                          have HBK : Hid (∀ W, Below wq.heap.size wq W → BellOk W (w.heap.size + 1) ma2 n2 mc2) := Lib.hid (fun W h => HBq.out.below h)
                          have H4 : Hid (∀ x : Int, 0 ≤ x → x ≤ 3 → ∃ p : Int, -6 ≤ p ∧ p ≤ 6 ∧ ∀ (w : World), (w.alloc (.cells #[.int .i64 (-1), .int .i64 1, .int .i64 (-(t.wide : Int)), .int .i64 t.wide] 3)).cell? ⟨w.heap.size, x.toNat, none⟩ = some (.int .i64 p)) := Lib.hid (four_at t.wide hw1 hw6)
                          have HK7 : Hid (∀ W, Hold (fun k => k ≠ w.heap.size + 1) wq W → W.cell? ⟨w2.heap.size, 0, none⟩ = some (.int .i64 t.wide) ∧ w2.heap.size < W.heap.size) := Lib.hid (fun W h => ⟨(h.cell (p := ⟨w2.heap.size, 0, none⟩) HSq.out.ne7 HSq.out.lt).trans HSq.out.cs.1, Nat.lt_of_lt_of_le HSq.out.lt h.size⟩)
                          have hm0 : IntKind.i64.wrap (-(t.wide : Int)) = -(t.wide : Int) := IntWalk.i64_in _ (by omega)
                          have hwqQ : wq.heap.size ≠ w.heap.size + 1 := by omega
                          go_region_with (go_at_call 61; refine (stroke_any (w.heap.size + 1) ma2 n2 mc2 3 (by omega) _ (by exact HBK.out _ (by repeat (first | exact Below.refl _ _ | refine Below.drew ?_ | refine al ?_ _)))).mono ?_; rintro e w15 ⟨x, x0, x3, rfl, hB, hH⟩; obtain ⟨q, q6, q7, hq⟩ := H4.out x x0 x3; have hH5 : Hold (fun k => k ≠ w.heap.size + 1) wq w15 := Hold.trans (Hold.of_below (B := wq.heap.size) (by repeat (first | exact Below.refl _ _ | refine Below.drew ?_ | refine al ?_ _)) (fun _ _ h => h)) hH; obtain ⟨j0, j1⟩ := HK7.out w15 hH5; (try (have hq2 := (hH.cell (p := ⟨wq.heap.size, x.toNat, none⟩) hwqQ (by simp)).trans (hq _)));  have hqq := hq w15; have hm9 : IntKind.i64.wrap (pl + q) = pl + q := IntWalk.i64_in _ (by omega); have HB5 := Lib.hid hB; have HH5 := Lib.hid hH5; clear hq hB hH hH5)
                          all_goals go_wp2_with fail
                          all_goals go_meet
                          all_goals exact ⟨pl + q, by omega, by omega, rfl, Lib.hid (HB5.out.below (by repeat (first | exact Below.refl _ _ | refine Below.drew ?_ | refine al ?_ _))), Lib.hid (HH5.out.trans (Hold.of_below (B := w15.heap.size) (by repeat (first | exact Below.refl _ _ | refine Below.drew ?_ | refine al ?_ _)) (fun _ _ h => h)))⟩
                        case rest =>
                          obtain ⟨k, k6, k36, rfl, HBx, HHx⟩ := hcut
                          obtain ⟨wx, rfl⟩ : ∃ wx : World, wx = wc := ⟨_, rfl⟩
                          have HSx := Lib.hid (HSq.out.ring HBx.out HHx.out)
                          have HOX := Lib.hid (own_hold HOW.out HHx.out hgQ5)
                          have HAx : Hid (Hold (fun k => k ≠ w.heap.size + 1) wo wx) := Lib.hid (HAq.out.trans HHx.out)
                          have hwx : wo.heap.size ≤ wx.heap.size := HAx.out.size
                          have hglx : g < wx.heap.size := Nat.lt_of_lt_of_le hglq HHx.out.size
                          obtain ⟨k0, k1⟩ := HSx.out.cs
                          have hc7l := HSx.out.lt
                          clear HOW HBq HAq HSq HHx
                          by_cases hk : 0 ≤ k ∧ k < t.plots.length
                          · obtain ⟨hk0, hkn⟩ := hk
                            have HRW : Hid (RdI wx (.slice (some ⟨g, 0, none⟩) (R.length + 1) cp) ((s : Int) :: R)) := Lib.hid (RdI.own (xs := (s : Int) :: R) rfl rfl HOX.out)
                            obtain ⟨te, hte⟩ : ∃ te, te = takesE t.wide t.plots wind ((s : Int) :: (R ++ [k])) := ⟨_, rfl⟩
                            obtain ⟨tv, htv⟩ : ∃ tv, tv = takesV t.wide t.plots wind ((s : Int) :: (R ++ [k])) := ⟨_, rfl⟩
                            have HTR := Lib.hid (takes_tried HOK.out HSS.out.1 HN.out R k)
                            rw [← hte, ← htv] at HTR
                            have HTK : Hid (∀ W a6 c6, W.ownsRow wx.heap.size 3 1 (.slice a6 (((s : Int) :: R).length + 1) c6) (((s : Int) :: R).length + 1) ((((s : Int) :: R) ++ [k]).map (Value.int .i64)) → RdI W (.slice pa t.plots.length pc) t.plots → Calls Try.prog 34 #[.agg #[.int .i64 t.wide, .slice pa t.plots.length pc], .int .i64 wind, .slice a6 (((s : Int) :: R).length + 1) c6] W fun e w' => e = .returned (.tuple #[.int .i64 tv, .int .i64 te]) ∧ Below W.heap.size W w') := Lib.hid (fun W a6 c6 ho hR => by
                              have hl : (((s : Int) :: R) ++ [k]).length = ((s : Int) :: R).length + 1 := by simp
                              have ho2 : W.ownsRow wx.heap.size 3 1 (.slice a6 (((s : Int) :: R) ++ [k]).length c6) (((s : Int) :: R) ++ [k]).length ((((s : Int) :: R) ++ [k]).map (Value.int .i64)) := by rw [hl]; exact ho
                              have := Takes_any t.wide wind pa a6 pc c6 t.plots (((s : Int) :: R) ++ [k]) (by omega) (by rw [hl]; simp; omega) (own_cap ho2) W hR (RdI.own rfl rfl ho2)
                              rw [hl] at this
                              rw [List.cons_append] at this
                              rw [← hte, ← htv] at this
                              exact this)
                            clear hte htv HRW0
                            go_wp2_with fail
                            refine Rs.region_gen 13 [[], [], [], [2], [], [4], [2, 3, 4, 5], [0, 1, 2, 3, 4, 5, 6], [0, 1, 2, 3, 4, 5, 6, 7], [0, 1, 2, 3, 4, 5, 6, 7, 8], [0, 1, 2, 3, 4, 5, 6, 7, 8], [0, 1, 2, 3, 4, 5, 6, 7, 8, 9], [0, 1, 2, 3, 4, 5, 6, 7, 8, 9, 10, 11]] [some 232, some 233, some 234, some 235, some 236, some 237, some 238, some 239, some 231, some 240, some 241, some 29, some 30] (spP42 (t.wide : Int) (.slice pa t.plots.length pc) wind (.slice (some ⟨g, 0, none⟩) (R.length + 1) cp) ((s : Int) :: R) k wx.heap.size tv te) (by kernel_rfl) (by kernel_rfl) rfl (spP42_stable _ _ _ _ _ _ _ _ _) ?_ ?_
                            · refine ⟨fun V w' hG hs => ?_, fun V w' hG hs => ?_, fun V w' hG hs => ?_, fun V w' hG hs => ?_, fun V w' hG hs => ?_, fun V w' hG hs => ?_, fun V w' hG hs => ?_, fun V w' hG hs => ?_, fun V w' hG hs => ?_, fun V w' hG hs => ?_, fun V w' hG hs => ?_, fun V w' hG hs => ?_, fun V w' hG hs => ?_, trivial⟩
                              all_goals
                                obtain ⟨k0, k1⟩ := (HSx.out.below hG).cs
                              · rw [if_pos (by rfl)]
                                exact Rs.GrowL.value (v := .agg #[.int .i64 (t.wide : Int), (.slice pa t.plots.length pc)]) (w' := w') (by simp [go_sem, Rs.look, k0, k1]) (Rs.Gr.refl _) rfl
                              · rw [if_pos (by rfl)]
                                exact Rs.GrowL.value (v := .int .i64 wind) (w' := w') (by simp [go_sem, Rs.look]) (Rs.Gr.refl _) rfl
                              · rw [if_pos (by rfl)]
                                exact Rs.GrowL.value (v := (.slice (some ⟨g, 0, none⟩) (R.length + 1) cp)) (w' := w') (by simp [go_sem, Rs.look]) (Rs.Gr.refl _) rfl
                              · have e2 : V 2 = (.slice (some ⟨g, 0, none⟩) (R.length + 1) cp) := hs 2 (by simp)
                                rw [if_pos (by rfl)]
                                refine Rs.GrowL.call (f := 27) (args := #[.slice (some ⟨g, 0, none⟩) (R.length + 1) cp]) (by simp [go_sem, Rs.look, e2]) ?_
                                refine (copy_full _ ((s : Int) :: R) (by simp; omega) w' (HRW.out.below hG)).mono ?_
                                rintro e w2 ⟨rfl, hT, hB2⟩
                                exact ⟨_, rfl, hB2, _, rfl, hG.size, hT⟩
                              · rw [if_pos (by rfl)]
                                exact Rs.GrowL.value (v := .int .i64 k) (w' := w') (by simp [go_sem, Rs.look]) (Rs.Gr.refl _) rfl
                              · have e4 : V 4 = .int .i64 k := hs 4 (by simp)
                                rw [if_pos (by rfl)]
                                exact Rs.GrowL.value (v := .slice (some ⟨w'.heap.size, 0, none⟩) 1 1) (w' := w'.alloc (.cells #[.int .i64 k] 3)) (by simp [go_sem, Rs.look, e4]) (below1 _ _) ⟨_, rfl, hG.size, heap_alloc_last _ _⟩
                              · have e2 : V 2 = (.slice (some ⟨g, 0, none⟩) (R.length + 1) cp) := hs 2 (by simp)
                                have r3 := hs 3 (by simp)
                                have e4 : V 4 = .int .i64 k := hs 4 (by simp)
                                have r5 := hs 5 (by simp)
                                rw [if_pos (by rfl)]
                                obtain ⟨g3, e3, hg3, t3⟩ : ∃ g, V 3 = .slice (some ⟨g, 0, none⟩) ((s : Int) :: R).length ((s : Int) :: R).length ∧ wx.heap.size ≤ g ∧ TabAt w' g ((s : Int) :: R) := r3
                                obtain ⟨g5, e5, hg5, t5⟩ : ∃ g, V 5 = .slice (some ⟨g, 0, none⟩) 1 1 ∧ wx.heap.size ≤ g ∧ TabAt w' g [k] := r5
                                obtain ⟨v', w2, hrun, hown2, hgr⟩ := tab_append t3 t5 (by simp; omega)
                                exact Rs.GrowL.value (v := v') (w' := w2) (exec_append2 rfl rfl (by simp [go_sem, Rs.look, e3]) (by simp [go_sem, Rs.look, e5]) hrun) ⟨hgr.os, hgr.tape, hgr.output, hgr.size, fun k hk => hgr.block k hk (by simp)⟩ (own_base hown2 hG.size)
                              · have e0 : V 0 = .agg #[.int .i64 (t.wide : Int), (.slice pa t.plots.length pc)] := hs 0 (by simp)
                                have e1 : V 1 = .int .i64 wind := hs 1 (by simp)
                                have e2 : V 2 = (.slice (some ⟨g, 0, none⟩) (R.length + 1) cp) := hs 2 (by simp)
                                have r3 := hs 3 (by simp)
                                have e4 : V 4 = .int .i64 k := hs 4 (by simp)
                                have r5 := hs 5 (by simp)
                                have r6 := hs 6 (by simp)
                                rw [if_pos (by rfl)]
                                have o6 : w'.ownsRow wx.heap.size 3 1 (V 6) (((s : Int) :: R).length + 1) ((((s : Int) :: R) ++ [k]).map (Value.int .i64)) := r6
                                obtain ⟨a6, c6, e6⟩ := own_slice o6
                                rw [e6] at o6
                                refine Rs.GrowL.call (f := 34) (args := #[.agg #[.int .i64 t.wide, .slice pa t.plots.length pc], .int .i64 wind, .slice a6 (((s : Int) :: R).length + 1) c6]) (by simp [go_sem, Rs.look, e0, e1, e6]) ?_
                                refine (HTK.out w' a6 c6 o6 (HSx.out.rp.below hG)).mono ?_
                                rintro e w2 ⟨rfl, hB2⟩
                                exact ⟨_, rfl, hB2, rfl⟩
                              · have e0 : V 0 = .agg #[.int .i64 (t.wide : Int), (.slice pa t.plots.length pc)] := hs 0 (by simp)
                                have e1 : V 1 = .int .i64 wind := hs 1 (by simp)
                                have e2 : V 2 = (.slice (some ⟨g, 0, none⟩) (R.length + 1) cp) := hs 2 (by simp)
                                have r3 := hs 3 (by simp)
                                have e4 : V 4 = .int .i64 k := hs 4 (by simp)
                                have r5 := hs 5 (by simp)
                                have r6 := hs 6 (by simp)
                                have e7 : V 7 = .tuple #[.int .i64 tv, .int .i64 te] := hs 7 (by simp)
                                rw [if_pos (by rfl)]
                                exact Rs.GrowL.value (v := .tuple #[.int .i64 tv, .int .i64 te]) (w' := w') (by simp [go_sem, Rs.look, e0, e1, e2, e4, e7]) (Rs.Gr.refl _) rfl
                              · have e0 : V 0 = .agg #[.int .i64 (t.wide : Int), (.slice pa t.plots.length pc)] := hs 0 (by simp)
                                have e1 : V 1 = .int .i64 wind := hs 1 (by simp)
                                have e2 : V 2 = (.slice (some ⟨g, 0, none⟩) (R.length + 1) cp) := hs 2 (by simp)
                                have r3 := hs 3 (by simp)
                                have e4 : V 4 = .int .i64 k := hs 4 (by simp)
                                have r5 := hs 5 (by simp)
                                have r6 := hs 6 (by simp)
                                have e7 : V 7 = .tuple #[.int .i64 tv, .int .i64 te] := hs 7 (by simp)
                                have e8 : V 8 = .tuple #[.int .i64 tv, .int .i64 te] := hs 8 (by simp)
                                rw [if_pos (by rfl)]
                                exact Rs.GrowL.value (v := .int .i64 tv) (w' := w') (by simp [go_sem, Rs.look, e0, e1, e2, e4, e7, e8]) (Rs.Gr.refl _) rfl
                              · have e0 : V 0 = .agg #[.int .i64 (t.wide : Int), (.slice pa t.plots.length pc)] := hs 0 (by simp)
                                have e1 : V 1 = .int .i64 wind := hs 1 (by simp)
                                have e2 : V 2 = (.slice (some ⟨g, 0, none⟩) (R.length + 1) cp) := hs 2 (by simp)
                                have r3 := hs 3 (by simp)
                                have e4 : V 4 = .int .i64 k := hs 4 (by simp)
                                have r5 := hs 5 (by simp)
                                have r6 := hs 6 (by simp)
                                have e7 : V 7 = .tuple #[.int .i64 tv, .int .i64 te] := hs 7 (by simp)
                                have e8 : V 8 = .tuple #[.int .i64 tv, .int .i64 te] := hs 8 (by simp)
                                rw [if_pos (by rfl)]
                                exact Rs.GrowL.value (v := .int .i64 te) (w' := w') (by simp [go_sem, Rs.look, e0, e1, e2, e4, e7, e8]) (Rs.Gr.refl _) rfl
                              · have e0 : V 0 = .agg #[.int .i64 (t.wide : Int), (.slice pa t.plots.length pc)] := hs 0 (by simp)
                                have e1 : V 1 = .int .i64 wind := hs 1 (by simp)
                                have e2 : V 2 = (.slice (some ⟨g, 0, none⟩) (R.length + 1) cp) := hs 2 (by simp)
                                have r3 := hs 3 (by simp)
                                have e4 : V 4 = .int .i64 k := hs 4 (by simp)
                                have r5 := hs 5 (by simp)
                                have r6 := hs 6 (by simp)
                                have e7 : V 7 = .tuple #[.int .i64 tv, .int .i64 te] := hs 7 (by simp)
                                have e8 : V 8 = .tuple #[.int .i64 tv, .int .i64 te] := hs 8 (by simp)
                                have e9 : V 9 = .int .i64 tv := hs 9 (by simp)
                                rw [if_pos (by rfl)]
                                exact Rs.GrowL.value (v := .int .i64 tv) (w' := w') (by simp [go_sem, Rs.look, e0, e1, e2, e4, e7, e8, e9]) (Rs.Gr.refl _) rfl
                              · have e0 : V 0 = .agg #[.int .i64 (t.wide : Int), (.slice pa t.plots.length pc)] := hs 0 (by simp)
                                have e1 : V 1 = .int .i64 wind := hs 1 (by simp)
                                have e2 : V 2 = (.slice (some ⟨g, 0, none⟩) (R.length + 1) cp) := hs 2 (by simp)
                                have r3 := hs 3 (by simp)
                                have e4 : V 4 = .int .i64 k := hs 4 (by simp)
                                have r5 := hs 5 (by simp)
                                have r6 := hs 6 (by simp)
                                have e7 : V 7 = .tuple #[.int .i64 tv, .int .i64 te] := hs 7 (by simp)
                                have e8 : V 8 = .tuple #[.int .i64 tv, .int .i64 te] := hs 8 (by simp)
                                have e9 : V 9 = .int .i64 tv := hs 9 (by simp)
                                have e10 : V 10 = .int .i64 te := hs 10 (by simp)
                                have e11 : V 11 = .int .i64 tv := hs 11 (by simp)
                                rw [if_pos (by rfl)]
                                exact Rs.GrowL.value (v := .int .i64 te) (w' := w') (by simp [go_sem, Rs.look, e0, e1, e2, e4, e7, e8, e9, e10, e11]) (Rs.Gr.refl _) rfl
                            · intro V w' hG hs
                              have e0 : V 0 = .agg #[.int .i64 (t.wide : Int), (.slice pa t.plots.length pc)] := hs 0 (by omega)
                              have e1 : V 1 = .int .i64 wind := hs 1 (by omega)
                              have e2 : V 2 = (.slice (some ⟨g, 0, none⟩) (R.length + 1) cp) := hs 2 (by omega)
                              have r3 := hs 3 (by omega)
                              have e4 : V 4 = .int .i64 k := hs 4 (by omega)
                              have r5 := hs 5 (by omega)
                              have r6 := hs 6 (by omega)
                              have e7 : V 7 = .tuple #[.int .i64 tv, .int .i64 te] := hs 7 (by omega)
                              have e8 : V 8 = .tuple #[.int .i64 tv, .int .i64 te] := hs 8 (by omega)
                              have e9 : V 9 = .int .i64 tv := hs 9 (by omega)
                              have e10 : V 10 = .int .i64 te := hs 10 (by omega)
                              have e11 : V 11 = .int .i64 tv := hs 11 (by omega)
                              have e12 : V 12 = .int .i64 te := hs 12 (by omega)
                              obtain ⟨g3, e3, hg3, t3⟩ : ∃ g, V 3 = .slice (some ⟨g, 0, none⟩) ((s : Int) :: R).length ((s : Int) :: R).length ∧ wx.heap.size ≤ g ∧ TabAt w' g ((s : Int) :: R) := r3
                              obtain ⟨g5, e5, hg5, t5⟩ : ∃ g, V 5 = .slice (some ⟨g, 0, none⟩) 1 1 ∧ wx.heap.size ≤ g ∧ TabAt w' g [k] := r5
                              simp only [Rs.canon, Rs.dstOf, List.range_succ, List.range_zero, List.nil_append, List.cons_append, List.foldl_cons, List.foldl_nil, List.drop_succ_cons, List.drop_zero, List.drop_nil, List.getElem?_toArray, List.getElem?_cons_succ, List.getElem?_cons_zero, Option.bind_some, Act.put, List.getD_cons_succ, List.getD_cons_zero, List.setIfInBounds_toArray, List.set_cons_succ, List.set_cons_zero]
                              rw [e0, e1, e2, e4, e7, e8, e9, e10, e11, e12, e3, e5]
                              clear e0 e1 e2 e4 e7 e8 e9 e10 e11 e12 e3 e5 hs

                              have HO42 := Lib.hid (own_below HOX.out hG)
                              have HB42 := Lib.hid (HBx.out.below hG)
                              have HA42 : Hid (Hold (fun k => k ≠ w.heap.size + 1) wo w') := Lib.hid (HAx.out.trans (.of_below hG (fun _ _ hl => hl)))
                              have HS42 := Lib.hid (HSx.out.below hG)
                              have hw42 : wo.heap.size ≤ w'.heap.size := HA42.out.size
                              clear hG k0 k1 hc7l HTK HRW HOX HBx HAx HSx
                              rcases HTR.out with ⟨h0, h1, h2, h3, h4⟩ | h8
                              · as_aux_lemma =>
                                subst h0
                                obtain ⟨i0, hi, hz0, hz1, hz2⟩ := info_parts A_info3
                                obtain ⟨x, hx⟩ : ∃ x, X.getD k.toNat 0 = x := ⟨_, rfl⟩
                                rw [← HX.out, hx] at h3 h4
                                have HXK := Lib.hid hx
                                have d1 : decide (tv < x) = false := by simp; omega
                                have d2 : (x == -1) = false := by simpa using h3
                                clear hx h3 HTR
                                go_wp2_with (at_builtin; refine wpList_append_own _ rfl _ _ 31 rfl wo.heap.size 3 i0 (.int .i64 0) 1 8 A_und31 hi hz0 hz1 hz2 rfl (by decide) _ _ _ rfl (HO42.out.alloc _) ⟨w'.heap.size, 0, none⟩ 1 1 [.int .i64 k] rfl rfl ?d1 ?d2 ?d3 ?d4 ?d5 ?_)
                                case d1 =>
                                  have ht : TabAt (w'.alloc (.cells #[.int .i64 k] 3)) w'.heap.size [k] := heap_alloc_last _ _
                                  intro j0 u0 hu
                                  have hadd : ∀ g j, (⟨g, 0, none⟩ : Addr).add j = ⟨g, j, none⟩ := fun g j => by unfold Addr.add; split <;> simp_all
                                  rw [hadd]
                                  cases j0 with
                                  | zero => simp at hu; subst hu; exact ht.cell (i := 0) (by simp)
                                  | succ j0 => simp at hu
                                case d2 => first | rfl | (intro u hu; simp at hu; subst hu; rfl)
                                case d3 => unfold maxLen; omega
                                case d4 => omega
                                case d5 => first | omega | (simp; omega)
                                intro v' w8 hown8 hgrow _
                                have hb8 : Below wo.heap.size w' w8 := below_grown ((Below.refl _ _).alloc hw42 _) (HO42.out.alloc _) (Nat.le_refl _) (by simp; omega) hgrow
                                have hh8 : Hold (fun k => k ≠ w.heap.size + 1) wo w8 := HA42.out.low hb8 (Nat.le_refl _)
                                have HH8 := Lib.hid hh8
                                have HB8 := Lib.hid (HB42.out.hold (Kp := fun k => k < wo.heap.size) (.of_below hb8 (fun _ h _ => h)) hgQ5 (fun hn mb mo e => by have := HM2L.out hn mb mo e; show mb < wo.heap.size; omega))
                                have HO8 : Hid (w8.ownsRow wo.heap.size 3 1 v' ((R ++ [k]).length + 1) (((s : Int) :: (R ++ [k])).map (Value.int .i64))) := Lib.hid (by simpa using hown8)
                                have hT8 := HTo.out.hold hh8 htbQ
                                have cx := hT8.cell (i := k.toNat) (by rw [HXL.out]; omega)
                                rw [HXK.out] at cx
                                have htl8 := hT8.lt
                                clear hgrow hown8 hb8 hh8 hT8
                                go_wp2_with fail
                                go_roundw
                                case rel => exact ⟨z + 1, R ++ [k], by omega, by simp; omega, by simp, ⟨by rw [lastOf_snoc]; exact hk0, by rw [lastOf_snoc]; exact hkn⟩, HO8.out, HB8.out, HH8.out⟩
                                case measure => simp [intOf]; omega
                              · as_aux_lemma =>
                                subst h8
                                clear HTR
                                go_wp2_with fail
                                go_roundw
                                case rel => exact ⟨z + 1, R, by omega, by omega, by simp, by rw [HPLq.out]; exact ⟨hpl0, hpl1⟩, HO42.out, HB42.out, HA42.out⟩
                                case measure => simp [intOf]; omega
                          · as_aux_lemma =>
                            by_cases hk0 : k < 0
                            · clear hk
                              go_wp2_with fail
                              go_roundw
                              case rel => exact ⟨z + 1, R, by omega, by omega, by simp, by rw [HPLq.out]; exact ⟨hpl0, hpl1⟩, HOX.out, HBx.out, HAx.out⟩
                              case measure => simp [intOf]; omega
                            · have hkn : (t.plots.length : Int) ≤ k := by omega
                              clear hk
                              go_wp2_with fail
                              go_roundw
                              case rel => exact ⟨z + 1, R, by omega, by omega, by simp, by rw [HPLq.out]; exact ⟨hpl0, hpl1⟩, HOX.out, HBx.out, HAx.out⟩
                              case measure => simp [intOf]; omega
                      · as_aux_lemma =>
                        have hzz : (z : Int) = c8 := by omega
                        go_wp2_with fail
                        go_roundw
                        case rel => exact ⟨j + 1, by omega, by simp, HBq.out, Hold.trans HAo.out HAq.out⟩
                        case measure => simp [intOf]; omega
          · as_aux_lemma =>
            have hj5 : j = 5 := by omega
            subst hj5
            have HBe := Lib.hid (HB7.out.trans (HAj.out.low (B := w.heap.size) (by omega) (by omega)))
            go_wp2_with fail
            refine (awake_any wj).mono ?_
            rintro e w9 ⟨rfl, hB9⟩
            have HB9 := Lib.hid (join HBe.out hB9)
            clear hB9
            go_wp2
            go_ret
            exact ⟨rfl, HB9.out⟩
end Go.Proofs.Ytimedmkpenbmkaa
