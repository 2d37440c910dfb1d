import Derived.Test.YtimedmkpenbmkaaMd
import Derived.Test.YtimedmkpenbmkaaSi
import Derived.Test.YtimedmkpenbmkaaCd
import Derived.Test.YtimedmkpenbmkaaMathB
import Derived.Test.YtimedmkpenbmkaaAw
import Derived.Deep.CutRange
import Derived.Deep.DeepCutAuto
namespace Go.Proofs.Ytimedmkpenbmkaa
open Go.RowKit Go.Shelf
set_option linter.unusedSimpArgs false
set_option linter.unusedVariables false

theorem two_winds {t : Hr.Town} (ok : t.Ok) (wind : Int) {s q : Nat} (hs : s < t.len) (hq : q < t.len) : ((t.needs wind s).getD q 0 = -1 ∧ (t.needs 0 s).getD q 0 = -1) ∨ (0 ≤ (t.needs wind s).getD q 0 ∧ 0 ≤ (t.needs 0 s).getD q 0 ∧ (t.needs wind s).getD q 0 ≤ 2 * (t.needs 0 s).getD q 0 ∧ (t.needs 0 s).getD q 0 ≤ 2 * (t.needs wind s).getD q 0 ∧ (t.needs wind s).getD q 0 ≤ 150 ∧ (t.needs 0 s).getD q 0 ≤ 150) := by
  have h30 := ok.n30
  have a1 := (Hr.needs_fix ok wind hs).inv.nn q hq
  have a2 := (Hr.needs_fix ok wind hs).inv.mu_bd q hq
  have b1 := (Hr.needs_fix ok 0 hs).inv.nn q hq
  have b2 := (Hr.needs_fix ok 0 hs).inv.mu_bd q hq
  have c1 := Hr.needs_twice ok (w := wind) (w' := 0) (.inr rfl) hs hq
  have c2 := Hr.needs_twice ok (w := 0) (w' := wind) (.inl rfl) hs hq
  by_cases hx : (t.needs wind s).getD q 0 = -1
  · by_cases hy : (t.needs 0 s).getD q 0 = -1
    · exact .inl ⟨hx, hy⟩
    · exact absurd hx (c2 hy).1
  · have := c1 hx
    have := c2 this.1
    right
    omega
theorem RdI.heap {W W' : World} {v : Value} {xs : List Int} (hW : W.heap = W'.heap) (h : RdI W' v xs) : RdI W v xs := by
  obtain ⟨h1, a, cap, e, hI⟩ := h
  refine ⟨h1, a, cap, e, fun hn => ?_⟩
  obtain ⟨b, o, e2, h2, h3⟩ := hI hn
  exact ⟨b, o, e2, by rw [hW]; exact h2, fun i hi => by have := h3 i hi; unfold World.cell? at this ⊢; rw [hW]; exact this⟩
/-- bytes that are read -/
def RdB (W : World) (ma : Option Addr) (n : Nat) : Prop := n ≤ 9223372036854775807 ∧ (n ≠ 0 → ∀ mb mo, ma = some ⟨mb, mo, none⟩ → mb < W.heap.size) ∧ (n ≠ 0 → ∃ mb mo, ma = some ⟨mb, mo, none⟩ ∧ mb < W.heap.size ∧ ∀ i, i < n → ∃ x : Int, 0 ≤ x ∧ x ≤ 255 ∧ W.cell? ⟨mb, mo + i, none⟩ = some (.int .u8 x))
theorem RdB.below {W W' : World} {ma : Option Addr} {n : Nat} (h : RdB W ma n) (hB : Below W.heap.size W W') : RdB W' ma n := ⟨h.1, fun hn mb mo e => Nat.lt_of_lt_of_le (h.2.1 hn mb mo e) hB.size, fun hn => by
  obtain ⟨mb, mo, e, l, hc⟩ := h.2.2 hn
  exact ⟨mb, mo, e, Nat.lt_of_lt_of_le l hB.size, fun i hi => by obtain ⟨x, x0, x1, hx⟩ := hc i hi; exact ⟨x, x0, x1, (hB.cell (p := ⟨mb, mo + i, none⟩) l).trans hx⟩⟩⟩
/-- a bell that is hung -/
theorem bell_hung {w : World} {ma : Option Addr} {n mc : Nat} (h : RdB w ma n) : BellOk (w.alloc (.cells #[.slice ma n mc, .int .i64 0, .int .u32 0] 150)) w.heap.size ma n mc := by
  refine ⟨0, 0, heap_alloc_last _ _, Nat.zero_le _, h.1, by omega, by omega, fun hn => ?_⟩
  obtain ⟨mb, mo, e, l, hc⟩ := (h.below (below1 w (.cells #[.slice ma n mc, .int .i64 0, .int .u32 0] 150))).2.2 hn
  obtain ⟨mb', mo', e', l', _⟩ := h.2.2 hn
  rw [e] at e'
  injection e' with e'
  injection e' with e1 e2
  subst e1
  exact ⟨mb, mo, e, l, by omega, hc⟩

/-- what lies before a law's loops: its town and its air -/
structure TaW (t : Hr.Town) (wind voice : Int) (c4 c5 : Nat) (pv : Value) (W : World) : Prop where
  b4 : W.heap[c4]? = some (.cells #[.int .i64 t.wide, pv] 24 (0, 0))
  b5 : W.heap[c5]? = some (.cells #[.int .i64 wind, .int .i64 voice] 27 (0, 0))
  rp : RdI W pv t.plots
theorem TaW.below {t : Hr.Town} {wind voice : Int} {c4 c5 : Nat} {pv : Value} {W W' : World} (h : TaW t wind voice c4 c5 pv W) (hB : Below W.heap.size W W') : TaW t wind voice c4 c5 pv W' :=
  ⟨(hB.block _ (Array.getElem?_eq_some_iff.1 h.b4).1).trans h.b4, (hB.block _ (Array.getElem?_eq_some_iff.1 h.b5).1).trans h.b5, h.rp.below hB⟩
theorem TaW.cs {t : Hr.Town} {wind voice : Int} {c4 c5 : Nat} {pv : Value} {W : World} (h : TaW t wind voice c4 c5 pv W) :
    (W.cell? ⟨c4, 0, none⟩ = some (.int .i64 t.wide) ∧ W.cell? ⟨c4, 1, none⟩ = some pv) ∧ W.cell? ⟨c5, 0, none⟩ = some (.int .i64 wind) ∧ W.cell? ⟨c5, 1, none⟩ = some (.int .i64 voice) := ⟨blk_cells2 h.b4, blk_cells2 h.b5⟩
theorem needs_err0 {t : Hr.Town} (hc : checkErr t.wide t.plots = 0) {wind : Int} (w0 : 0 ≤ wind) (w4 : wind ≤ 4) {s : Nat} (hs : s < t.len) (h0 : t.at s = 0) : needsErr t.wide t.plots wind s = 0 := by
  have ha : airErr wind 40 = 0 := by unfold airErr; rw [if_neg (by omega)]
  have hp : plotErr t.plots s 0 = 0 := by
    unfold plotErr
    have : t.plots.length = t.len := rfl
    rw [if_neg (by omega), Int.toNat_natCast]; exact if_pos h0
  unfold needsErr openErr
  simp [hc, ha, hp]
theorem winds_err0 {t : Hr.Town} (hc : checkErr t.wide t.plots = 0) {voice : Int} (v1 : 1 ≤ voice) (v40 : voice ≤ 40) {s h : Nat} (hs : s < t.len) (h0 : t.at s = 0) (hh : h < t.len) (h1 : t.at h = 1) : windsE t.wide t.plots voice s h = 0 ∧ windsL t.wide t.plots voice s h = windsOf t voice s h := by
  have ha : airErr 0 voice = 0 := by unfold airErr; rw [if_neg (by omega)]
  have hl : t.plots.length = t.len := rfl
  have hp : plotErr t.plots s 0 = 0 := by
    unfold plotErr
    rw [if_neg (by omega), Int.toNat_natCast]; exact if_pos h0
  have hp1 : plotErr t.plots h 1 = 0 := by
    unfold plotErr
    rw [if_neg (by omega), Int.toNat_natCast]; exact if_pos h1
  have e : windsE t.wide t.plots voice s h = 0 := by unfold windsE atE openErr; simp [hc, ha, hp, hp1]
  exact ⟨e, by unfold windsL; rw [if_pos e, townOf_self]; simp⟩
theorem need_of {t : Hr.Town} (hc : checkErr t.wide t.plots = 0) {wind : Int} (w0 : 0 ≤ wind) (w4 : wind ≤ 4) {s q : Nat} (hs : s < t.len) (h0 : t.at s = 0) (ok : t.Ok) (hq : q < t.len) : needE t.wide t.plots wind s q = (if (t.needs wind s).getD q 0 = -1 then 6 else 0) ∧ needV t.wide t.plots wind s q = (if (t.needs wind s).getD q 0 = -1 then 0 else (t.needs wind s).getD q 0) := by
  have he := needs_err0 hc w0 w4 hs h0
  have hl := needs_len ok wind hs
  have e1 : needE t.wide t.plots wind s q = (if (t.needs wind s).getD q 0 = -1 then 6 else 0) := by
    unfold needE reachErr
    rw [if_neg (by rw [he]; simp), needsL_ok t he, if_neg (by omega), Int.toNat_natCast]
  refine ⟨e1, ?_⟩
  unfold needV
  rw [e1, needsL_ok t he, Int.toNat_natCast]
  split <;> simp_all
theorem mem_windsOf {t : Hr.Town} {voice : Int} {s h : Nat} {d : Int} (h0 : 0 ≤ d) (h4 : d ≤ 4) : d ∈ windsOf t voice s h ↔ hearB t d voice h s = true := by
  unfold windsOf windsTo
  rw [List.mem_map]
  constructor
  · rintro ⟨p, hp, rfl⟩
    rw [List.mem_filter] at hp
    exact hp.2
  · intro he
    refine ⟨d.toNat, ?_, by omega⟩
    rw [List.mem_filter, List.mem_range]
    have : ((d.toNat : Nat) : Int) = d := by omega
    exact ⟨by omega, by rw [this]; exact he⟩
theorem mem_winds_dec {t : Hr.Town} {voice : Int} {s h : Nat} {d x : Int} (h0 : 0 ≤ d) (h4 : d ≤ 4) (hs : s < t.len) (hs0 : t.at s = 0) (hx : (t.needs d s).getD h 0 = x) : decide (d ∈ windsOf t voice s h) = (x != -1 && decide (x ≤ voice)) := by
  have h1 := mem_windsOf (t := t) (voice := voice) (s := s) (h := h) h0 h4
  have e : hearB t d voice h s = (x != -1 && decide (x ≤ voice)) := by unfold hearB; rw [hx]; simp [hs, hs0]
  rw [e] at h1
  exact Bool.eq_iff_iff.2 (by rw [decide_eq_true_iff]; exact h1)
theorem flip_law {wind : Int} (h0 : 1 ≤ wind) (h4 : wind ≤ 4) : 1 + (wind + 1) % 4 = Hr.flip wind := by
  have : wind = 1 ∨ wind = 2 ∨ wind = 3 ∨ wind = 4 := by omega
  rcases this with rfl | rfl | rfl | rfl <;> rfl
theorem flip_bd {wind : Int} (h0 : 0 ≤ wind) (h4 : wind ≤ 4) : 0 ≤ Hr.flip wind ∧ Hr.flip wind ≤ 4 := by
  have : wind = 0 ∨ wind = 1 ∨ wind = 2 ∨ wind = 3 ∨ wind = 4 := by omega
  rcases this with rfl | rfl | rfl | rfl | rfl <;> decide

set_option maxHeartbeats 8000000 in
set_option maxRecDepth 100000 in
theorem HearBack_any (ma : Option Addr) (n mc : Nat) (w : World) (hM : RdB w ma n) :
    Calls Try.prog 11 #[.slice ma n mc] w fun e w' => e = .returned (.bool true) ∧ Below w.heap.size w w' := by
  have HBL := Lib.hid (bell_hung (mc := mc) hM)
  have HM := Lib.hid hM
  have hB0 := below1 w (.cells #[.slice ma n mc, .int .i64 0, .int .u32 0] 150)
  have HB0 := Lib.hid hB0
  clear hM hB0
  go_enter Try.func11, Try.ntmps11
  go_wp2_with fail
  refine (hang_any ma n mc w).mono ?_
  rintro e w1 ⟨rfl, rfl⟩
  go_wp2_with fail
  refine (made_any w.heap.size ma n mc 24 (by omega) (by omega) _ HBL.out (fun hn mb mo e => by have := HM.out.2.1 hn mb mo e; simp; omega)).mono ?_
  rintro e w2 ⟨t, v, p, rfl, ho, hc, h24, hp, hp0, hbl, hh⟩
  have ok : t.Ok := by have := (town_ok hc).1; rwa [townOf_self] at this
  have HOK := Lib.hid ok
  have HC := Lib.hid hc
  obtain ⟨pa, pc, rfl⟩ := own_slice ho
  have HO := Lib.hid ho
  have HBL2 := Lib.hid (hbl.below (below1 w2 (.cells #[.int .i64 t.wide, .slice pa t.plots.length pc] 24)))
  have hB2 : Below w.heap.size w w2 := HB0.out.trans ((hh.mono (Kq := fun k => k < w.heap.size) (fun k (hk : k < w.heap.size) _ => show k ≠ w.heap.size by omega)).to_below (by simp))
  have HB2 := Lib.hid (al hB2 (.cells #[.int .i64 t.wide, .slice pa t.plots.length pc] 24))
  have hsz2 := hh.size
  rw [World.size_alloc] at hsz2
  have HP := Lib.hid (And.intro hp hp0)
  have H24 := Lib.hid h24
  clear HBL ho hc hbl hh hB2 ok hp hp0 h24 HB0
  go_wp2_with fail
  refine (aired_any w.heap.size ma n mc trivial _ HBL2.out (fun hn mb mo e => by have := HM.out.2.1 hn mb mo e; simp; omega)).mono ?_
  rintro e w3 ⟨wind, voice, w0, w4, v1, v16, rfl, HBL3, HH3⟩
  have hx4 : w3.heap[w2.heap.size]? = some (.cells #[.int .i64 t.wide, .slice pa t.plots.length pc] 24 (0, 0)) := (HH3.out.same _ (show w2.heap.size ≠ w.heap.size by omega) (by simp)).trans (heap_alloc_last _ _)
  have hB3 : Below w.heap.size w w3 := HB2.out.trans ((HH3.out.mono (Kq := fun k => k < w.heap.size) (fun k (hk : k < w.heap.size) _ => show k ≠ w.heap.size by omega)).to_below (by simp; omega))
  have hrp : RdI w3 (.slice pa t.plots.length pc) t.plots := by
    have h1 := own_below HO.out (below1 w2 (.cells #[.int .i64 t.wide, .slice pa t.plots.length pc] 24))
    refine RdI.own rfl rfl (h1.kept (row := some w.heap.size) ⟨HH3.out.os, HH3.out.tape, HH3.out.output, HH3.out.size, fun k hk hne => HH3.out.same k (fun e => hne (by rw [e])) hk⟩ ?_)
    rcases h1.2 with ⟨g1, _⟩ | ⟨g, cp, cur, g1, g2, _⟩
    · exact .inl (by rw [g1]; rfl)
    · right; rw [g1]; show some g ≠ some w.heap.size; intro e; injection e with e; rw [World.size_alloc] at g2; omega
  have hTA : TaW t wind voice w2.heap.size w3.heap.size (.slice pa t.plots.length pc) (w3.alloc (.cells #[.int .i64 wind, .int .i64 voice] 27)) :=
    ⟨(Below.heap_alloc _ _ _ (Array.getElem?_eq_some_iff.1 hx4).1).trans hx4, heap_alloc_last _ _, hrp.below (below1 _ _)⟩
  have HTA := Lib.hid hTA
  have HB3 := Lib.hid (al hB3 (.cells #[.int .i64 wind, .int .i64 voice] 27))
  clear hx4 hB3 hrp hTA HO HBL2 HB2 HBL3 HH3 HM
  obtain ⟨W0, hW0⟩ : ∃ W0, W0 = w3.alloc (.cells #[.int .i64 wind, .int .i64 voice] 27) := ⟨_, rfl⟩
  rw [← hW0] at HTA HB3
  obtain ⟨⟨k0, k1⟩, k2, k3⟩ := HTA.out.cs
  rw [hW0] at k0 k1 k2 k3
  have hcl4 : w2.heap.size < W0.heap.size := (Array.getElem?_eq_some_iff.1 HTA.out.b4).1
  have hcl5 : w3.heap.size < W0.heap.size := (Array.getElem?_eq_some_iff.1 HTA.out.b5).1
  go_upto_if 26 with fail
  go_cut [6] from 27 to 31 (fun s6 wx => s6 = .int .i64 (Hr.flip wind) ∧ wx = W0)
  case first =>
    by_cases hw0 : wind = 0
    · have d : (wind != 0) = false := by simpa using hw0
      go_wp2
      go_meet
      subst hw0
      exact ⟨rfl, hW0.symm⟩
    · have d : (wind != 0) = true := by simpa using hw0
      have e := flip_law (wind := wind) (by omega) w4
      go_wp2
      go_meet
      exact ⟨by rw [← e], hW0.symm⟩
  case rest =>
    obtain ⟨rfl, rfl⟩ := hcut
    clear k0 k1 k2 k3 hW0
    obtain ⟨⟨k0, k1⟩, k2, k3⟩ := HTA.out.cs
    obtain ⟨f0, f4⟩ := flip_bd w0 w4
    generalize hfl : Hr.flip wind = bk at f0 f4 ⊢
    have HFL := Lib.hid hfl
    clear hfl
    go_wp2_with fail
    have hl30 : t.plots.length ≤ 30 := HOK.out.n30
    refine (streets_any t.wide pa pc t.plots (by omega) wc HTA.out.rp).mono ?_
    rintro e w5 ⟨v33, rfl, ho, hB⟩
    obtain ⟨L, hL⟩ : ∃ L, L = kindIdx t.plots 0 := ⟨_, rfl⟩
    rw [← hL] at ho
    have hLl : L.length ≤ 30 := by rw [hL]; have := kindTo_len t.plots 0 t.plots.length; unfold kindIdx; omega
    obtain ⟨oa, oc, rfl⟩ := own_slice ho
    have HTA := Lib.hid (HTA.out.below hB)
    have HRL := Lib.hid (RdI.own rfl rfl ho)
    have HB3 := Lib.hid (join HB3.out hB)
    have HL := Lib.hid hL
    clear ho hB k0 k1 k2 k3 hL hcl4 hcl5
    go_wp2_with fail
    go_loopw [35] (fun i wr => ∃ k : Nat, k ≤ L.length ∧ i = .int .i64 k ∧ Below w5.heap.size w5 wr) (fun i _ => L.length - (intOf i).toNat)
    case atStart => exact ⟨0, Nat.zero_le _, rfl, Below.refl _ _⟩
    case round =>
      obtain ⟨k, hk, rfl, hBr⟩ := hrel
      have HBr := Lib.hid hBr
      have hsz := hBr.size
      by_cases hlt : k < L.length
      · have hne : L ≠ [] := by rintro rfl; simp at hlt
        obtain ⟨lb, lo, rfl, -, hI⟩ := rd_ints HRL.out hne
        have hcs := (hI.below hBr hI.1).2 k hlt
        have hlb := Nat.lt_of_lt_of_le hI.1 hBr.size
        obtain ⟨s, hs, hsl, hs0⟩ : ∃ s : Nat, L.getD k 0 = s ∧ s < t.len ∧ t.at s = 0 := by
          have := mem_getD hlt
          rw [HL.out] at this
          obtain ⟨s, e, h1, h2⟩ := mem_kindIdx.1 this
          exact ⟨s, by rw [HL.out]; exact e, h1, h2⟩
        rw [hs] at hcs
        have hlt' : (k : Int) < L.length := by omega
        have hta := HTA.out.below hBr
        obtain ⟨⟨k0, k1⟩, k2, k3⟩ := hta.cs
        have h4r := (Array.getElem?_eq_some_iff.1 hta.b4).1
        have h5r := (Array.getElem?_eq_some_iff.1 hta.b5).1
        have HTR := Lib.hid hta
        have HS := Lib.hid (And.intro hsl hs0)
        clear hI hne hs hsl hs0 hta hBr
        have e1 := needs_err0 HC.out w0 w4 HS.out.1 HS.out.2
        have e2 := needs_err0 HC.out (wind := 0) (by omega) (by omega) HS.out.1 HS.out.2
        have HN1 := Lib.hid (fun W (hR : RdI W (.slice pa t.plots.length pc) t.plots) => Needs_any t.wide wind s pa pc t.plots (by omega) W hR)
        have HN2 := Lib.hid (fun W (hR : RdI W (.slice pa t.plots.length pc) t.plots) => Needs_any t.wide 0 s pa pc t.plots (by omega) W hR)
        rw [needsL_ok t e1, e1] at HN1
        rw [needsL_ok t e2, e2] at HN2
        obtain ⟨X, hX⟩ : ∃ X, X = t.needs wind s := ⟨_, rfl⟩
        obtain ⟨Y, hY⟩ : ∃ Y, Y = t.needs 0 s := ⟨_, rfl⟩
        have hXl : X.length = t.plots.length := by rw [hX]; exact needs_len HOK.out _ HS.out.1
        have hYl : Y.length = t.plots.length := by rw [hY]; exact needs_len HOK.out _ HS.out.1
        rw [← hX] at HN1
        rw [← hY] at HN2
        rw [hXl] at HN1
        rw [hYl] at HN2
        have HX := Lib.hid hX
        have HY := Lib.hid hY
        have HXL := Lib.hid hXl
        have HYL := Lib.hid hYl
        clear e1 e2 hX hY hXl hYl
        go_wp2_with fail
        refine (HN1.out _ HTR.out.rp).mono ?_
        rintro e w6 ⟨v9, rfl, ho, hB⟩
        obtain ⟨xa, xc, rfl⟩ := own_slice ho
        have HTR := Lib.hid (HTR.out.below hB)
        have HRX := Lib.hid (RdI.own (xs := X) HXL.out.symm rfl ho)
        have HBr := Lib.hid (HBr.out.trans (hB.mono hsz))
        obtain ⟨⟨k0, k1⟩, k2, k3⟩ := HTR.out.cs
        clear hB ho HN1 hcs
        go_wp2_with fail
        refine (HN2.out _ HTR.out.rp).mono ?_
        rintro e w7 ⟨v11, rfl, ho, hB⟩
        obtain ⟨ya, yc, rfl⟩ := own_slice ho
        have HTR := Lib.hid (HTR.out.below hB)
        have HRX := Lib.hid (HRX.out.below hB)
        have HRY := Lib.hid (RdI.own (xs := Y) HYL.out.symm rfl ho)
        have HBr := Lib.hid (HBr.out.trans (hB.mono HBr.out.size))
        obtain ⟨⟨k0, k1⟩, k2, k3⟩ := HTR.out.cs
        clear hB ho HN2
        go_wp2_with fail
        clear k0 k1 k2 k3
        go_loopw [77] (fun i wi => ∃ q : Nat, q ≤ t.plots.length ∧ i = .int .i64 q ∧ Below w7.heap.size w7 wi) (fun i _ => t.plots.length - (intOf i).toNat)
        case atStart => exact ⟨0, Nat.zero_le _, rfl, Below.refl _ _⟩
        case round =>
          obtain ⟨q, hq, rfl, hBi⟩ := hrel
          obtain ⟨wi, rfl⟩ : ∃ wi : World, wi = wr := ⟨_, rfl⟩
          have HBi := Lib.hid hBi
          have hszi := hBi.size
          by_cases hlq : q < t.plots.length
          · have hXne : X ≠ [] := by rintro rfl; have := HXL.out; simp at this; omega
            have hYne : Y ≠ [] := by rintro rfl; have := HYL.out; simp at this; omega
            have hPne : t.plots ≠ [] := by intro e; rw [e] at hlq; simp at hlq
            obtain ⟨xb, xo, rfl, -, hIX⟩ := rd_ints (HRX.out.below hBi) hXne
            obtain ⟨yb, yo, rfl, -, hIY⟩ := rd_ints (HRY.out.below hBi) hYne
            have hti := HTR.out.below hBi
            obtain ⟨pb, po, rfl, -, hIP⟩ := rd_ints hti.rp hPne
            have cx := hIX.2 q (by rw [HXL.out]; exact hlq)
            have cy := hIY.2 q (by rw [HYL.out]; exact hlq)
            have cp := hIP.2 q hlq
            have lx := hIX.1
            have ly := hIY.1
            have lp := hIP.1
            obtain ⟨⟨k0, k1⟩, k2, k3⟩ := hti.cs
            have h4i := (Array.getElem?_eq_some_iff.1 hti.b4).1
            have h5i := (Array.getElem?_eq_some_iff.1 hti.b5).1
            have hlq' : (q : Int) < t.plots.length := by omega
            have hql : q < t.len := hlq
            have htw := two_winds HOK.out wind HS.out.1 hql
            rw [← HX.out, ← HY.out] at htw
            have hkind := HOK.out.kinds q hql
            obtain ⟨x, hx⟩ : ∃ x, X.getD q 0 = x := ⟨_, rfl⟩
            obtain ⟨y, hy⟩ : ∃ y, Y.getD q 0 = y := ⟨_, rfl⟩
            obtain ⟨kd, hkd⟩ : ∃ kd, t.plots.getD q 0 = kd := ⟨_, rfl⟩
            have hkd2 : t.at q = kd := hkd
            rw [hx, hy] at htw
            rw [hx] at cx
            rw [hy] at cy
            rw [hkd] at cp
            rw [hkd2] at hkind
            have HXQ := Lib.hid hx
            have HYQ := Lib.hid hy
            have HKD := Lib.hid hkd2
            have HTI := Lib.hid hti
            clear hx hy hkd hkd2 hXne hYne hPne hIX hIY hIP hti hBi
            rcases htw with ⟨rfl, rfl⟩ | ⟨x0, y0, xy, yx, x150, y150⟩
            · skip
              rcases hkind with rfl | rfl | rfl
              · as_aux_lemma =>
                have hrev := Hr.needs_rev HOK.out wind HS.out.1 hql HS.out.2 HKD.out
                rw [HFL.out, ← HX.out, HXQ.out] at hrev
                obtain ⟨e1, e2⟩ := need_of HC.out f0 f4 (s := q) (q := s) hql HKD.out HOK.out HS.out.1
                rw [hrev] at e1 e2
                have HNE : Hid (∀ W, W.heap = wi.heap → Calls Try.prog 28 #[.agg #[.int .i64 t.wide, .slice (some ⟨pb, po, none⟩) t.plots.length pc], .int .i64 bk, .int .i64 q, .int .i64 s] W fun e w' => e = .returned (.tuple #[.int .i64 0, .int .i64 6]) ∧ Below W.heap.size W w') := Lib.hid (fun W hW => by
                  have := Need_any t.wide bk q s (some ⟨pb, po, none⟩) pc t.plots (by omega) W (RdI.heap hW HTI.out.rp)
                  rw [e1, e2, if_pos rfl, if_pos rfl] at this
                  exact this)
                clear hrev e1 e2
                go_wp2_with fail
                go_quiet (fail)
                go_wp2_with fail
                refine (HNE.out _ (by rfl)).mono ?_
                rintro e w8 ⟨rfl, hB8⟩
                have cx8 := (hB8.cell (p := ⟨xb, xo + q, none⟩) (show xb < wi.heap.size from lx)).trans (show (wi.drewN _).cell? ⟨xb, xo + q, none⟩ = _ from cx)
                have lx8 : xb < w8.heap.size := Nat.lt_of_lt_of_le lx hB8.size
                have HB8 := Lib.hid (HBi.out.trans (Below.mono (show Below wi.heap.size wi w8 from ⟨hB8.os, hB8.tape, hB8.output, hB8.size, hB8.block⟩) hszi))
                clear hB8 HNE cx cy cp
                go_wp2_with fail
                go_roundw
                case rel => exact ⟨q + 1, by omega, by simp, HB8.out⟩
                case measure => simp [intOf]; omega
              · as_aux_lemma =>
                obtain ⟨e1, e2⟩ := winds_err0 HC.out v1 (show voice ≤ 40 by omega) HS.out.1 HS.out.2 hql HKD.out
                have HWD := Lib.hid (fun W (hW : W.heap = wi.heap) => Winds_any t.wide voice s q (some ⟨pb, po, none⟩) pc t.plots (by omega) W (RdI.heap hW HTI.out.rp))
                rw [e1, e2] at HWD
                have hwl : (windsOf t voice s q).length ≤ 5 := windsTo_len t voice s q 5
                have hc1 : decide (wind ∈ windsOf t voice s q) = false := by
                  rw [mem_winds_dec (x := -1) w0 w4 HS.out.1 HS.out.2 (by rw [← HX.out]; exact HXQ.out)]
                  simp
                have hc2 : decide ((0 : Int) ∈ windsOf t voice s q) = false := by
                  rw [mem_winds_dec (x := -1) (by omega) (by omega) HS.out.1 HS.out.2 (by rw [← HY.out]; exact HYQ.out)]
                  simp
                have HC1 := Lib.hid hc1
                have HC2 := Lib.hid hc2
                obtain ⟨WL, hWL⟩ : ∃ WL, WL = windsOf t voice s q := ⟨_, rfl⟩
                rw [← hWL] at HWD HC1 HC2 hwl
                clear e1 e2 hc1 hc2 hWL
                go_wp2_with fail
                go_quiet (fail)
                go_wp2_with fail
                refine (HWD.out _ (by rfl)).mono ?_
                rintro e w8 ⟨v16, rfl, ho, hB8⟩
                obtain ⟨wa, wc2, rfl⟩ := own_slice ho
                have HRW := Lib.hid (RdI.own rfl rfl ho)
                have cx8 := (hB8.cell (p := ⟨xb, xo + q, none⟩) (show xb < wi.heap.size from lx)).trans (show (wi.drewN _).cell? ⟨xb, xo + q, none⟩ = _ from cx)
                have cy8 := (hB8.cell (p := ⟨yb, yo + q, none⟩) (show yb < wi.heap.size from ly)).trans (show (wi.drewN _).cell? ⟨yb, yo + q, none⟩ = _ from cy)
                have lx8 : xb < w8.heap.size := Nat.lt_of_lt_of_le lx hB8.size
                have ly8 : yb < w8.heap.size := Nat.lt_of_lt_of_le ly hB8.size
                have hB8' : Below wi.heap.size wi w8 := ⟨hB8.os, hB8.tape, hB8.output, hB8.size, hB8.block⟩
                have HB8 := Lib.hid (HBi.out.trans (hB8'.mono hszi))
                obtain ⟨⟨k0, k1⟩, k2, k3⟩ := (HTI.out.below hB8').cs
                have HK1 : Hid (∀ W, W.heap = w8.heap → Calls Try.prog 71 #[.slice wa WL.length wc2, .int .i64 wind] W fun e w' => e = .returned (.bool (false)) ∧ w' = W) := Lib.hid (fun W hW => (containsDir_any _ WL wind _ HC1.out (by omega) W (RdI.heap hW HRW.out)).mono fun _ _ ⟨a, b⟩ => ⟨a, b.symm⟩)
                have HK2 : Hid (∀ W, W.heap = w8.heap → Calls Try.prog 71 #[.slice wa WL.length wc2, .int .i64 0] W fun e w' => e = .returned (.bool (false)) ∧ w' = W) := Lib.hid (fun W hW => (containsDir_any _ WL 0 _ HC2.out (by omega) W (RdI.heap hW HRW.out)).mono fun _ _ ⟨a, b⟩ => ⟨a, b.symm⟩)
                have h5w := (Array.getElem?_eq_some_iff.1 (HTI.out.below hB8').b5).1
                clear hB8 hB8' HWD cx cy cp ho
                go_wp2_with fail
                go_quiet ((first | (go_at_call 71; exact Calls.quiet_of_same (HK1.out _ (by rfl))) | (go_at_call 71; exact Calls.quiet_of_same (HK2.out _ (by rfl)))))
                go_wp2_with fail
                go_roundw
                case rel => exact ⟨q + 1, by omega, by simp, below_drewN' HB8.out _⟩
                case measure => simp [intOf]; omega
              · as_aux_lemma =>
                go_wp2_with fail
                go_quiet (fail)
                go_wp2_with fail
                go_roundw
                case rel => exact ⟨q + 1, by omega, by simp, below_drewN' HBi.out _⟩
                case measure => simp [intOf]; omega
            · have dx : (x == -1) = false := by simp; omega
              have dy : (y == -1) = false := by simp; omega
              have g1 : decide (x > 2 * y) = false := by simp; omega
              have g2 : decide (y > 2 * x) = false := by simp; omega
              have m1 : IntKind.i64.wrap (2 * y) = 2 * y := IntWalk.i64_in _ (by omega)
              have m2 : IntKind.i64.wrap (2 * x) = 2 * x := IntWalk.i64_in _ (by omega)
              rcases hkind with rfl | rfl | rfl
              · as_aux_lemma =>
                have hrev := Hr.needs_rev HOK.out wind HS.out.1 hql HS.out.2 HKD.out
                rw [HFL.out, ← HX.out, HXQ.out] at hrev
                obtain ⟨e1, e2⟩ := need_of HC.out f0 f4 (s := q) (q := s) hql HKD.out HOK.out HS.out.1
                rw [hrev] at e1 e2
                have HNE : Hid (∀ W, W.heap = wi.heap → Calls Try.prog 28 #[.agg #[.int .i64 t.wide, .slice (some ⟨pb, po, none⟩) t.plots.length pc], .int .i64 bk, .int .i64 q, .int .i64 s] W fun e w' => e = .returned (.tuple #[.int .i64 x, .int .i64 0]) ∧ Below W.heap.size W w') := Lib.hid (fun W hW => by
                  have := Need_any t.wide bk q s (some ⟨pb, po, none⟩) pc t.plots (by omega) W (RdI.heap hW HTI.out.rp)
                  rw [e1, e2, if_neg (by omega), if_neg (by omega)] at this
                  exact this)
                clear hrev e1 e2
                go_wp2_with fail
                go_quiet (fail)
                clear m1 m2
                go_wp2_with fail
                refine (HNE.out _ (by rfl)).mono ?_
                rintro e w8 ⟨rfl, hB8⟩
                have cx8 := (hB8.cell (p := ⟨xb, xo + q, none⟩) (show xb < wi.heap.size from lx)).trans (show (wi.drewN _).cell? ⟨xb, xo + q, none⟩ = _ from cx)
                have lx8 : xb < w8.heap.size := Nat.lt_of_lt_of_le lx hB8.size
                have HB8 := Lib.hid (HBi.out.trans (Below.mono (show Below wi.heap.size wi w8 from ⟨hB8.os, hB8.tape, hB8.output, hB8.size, hB8.block⟩) hszi))
                clear hB8 HNE cx cy cp
                go_wp2_with fail
                go_roundw
                case rel => exact ⟨q + 1, by omega, by simp, HB8.out⟩
                case measure => simp [intOf]; omega
              · as_aux_lemma =>
                obtain ⟨e1, e2⟩ := winds_err0 HC.out v1 (show voice ≤ 40 by omega) HS.out.1 HS.out.2 hql HKD.out
                have HWD := Lib.hid (fun W (hW : W.heap = wi.heap) => Winds_any t.wide voice s q (some ⟨pb, po, none⟩) pc t.plots (by omega) W (RdI.heap hW HTI.out.rp))
                rw [e1, e2] at HWD
                have hwl : (windsOf t voice s q).length ≤ 5 := windsTo_len t voice s q 5
                have hc1 : decide (wind ∈ windsOf t voice s q) = decide (x ≤ voice) := by
                  rw [mem_winds_dec (x := x) w0 w4 HS.out.1 HS.out.2 (by rw [← HX.out]; exact HXQ.out)]
                  simp [show x ≠ -1 by omega]
                have hc2 : decide ((0 : Int) ∈ windsOf t voice s q) = decide (y ≤ voice) := by
                  rw [mem_winds_dec (x := y) (by omega) (by omega) HS.out.1 HS.out.2 (by rw [← HY.out]; exact HYQ.out)]
                  simp [show y ≠ -1 by omega]
                have HC1 := Lib.hid hc1
                have HC2 := Lib.hid hc2
                obtain ⟨WL, hWL⟩ : ∃ WL, WL = windsOf t voice s q := ⟨_, rfl⟩
                rw [← hWL] at HWD HC1 HC2 hwl
                clear e1 e2 hc1 hc2 hWL
                go_wp2_with fail
                go_quiet (fail)
                clear m1 m2
                go_wp2_with fail
                refine (HWD.out _ (by rfl)).mono ?_
                rintro e w8 ⟨v16, rfl, ho, hB8⟩
                obtain ⟨wa, wc2, rfl⟩ := own_slice ho
                have HRW := Lib.hid (RdI.own rfl rfl ho)
                have cx8 := (hB8.cell (p := ⟨xb, xo + q, none⟩) (show xb < wi.heap.size from lx)).trans (show (wi.drewN _).cell? ⟨xb, xo + q, none⟩ = _ from cx)
                have cy8 := (hB8.cell (p := ⟨yb, yo + q, none⟩) (show yb < wi.heap.size from ly)).trans (show (wi.drewN _).cell? ⟨yb, yo + q, none⟩ = _ from cy)
                have lx8 : xb < w8.heap.size := Nat.lt_of_lt_of_le lx hB8.size
                have ly8 : yb < w8.heap.size := Nat.lt_of_lt_of_le ly hB8.size
                have hB8' : Below wi.heap.size wi w8 := ⟨hB8.os, hB8.tape, hB8.output, hB8.size, hB8.block⟩
                have HB8 := Lib.hid (HBi.out.trans (hB8'.mono hszi))
                obtain ⟨⟨k0, k1⟩, k2, k3⟩ := (HTI.out.below hB8').cs
                have HK1 : Hid (∀ W, W.heap = w8.heap → Calls Try.prog 71 #[.slice wa WL.length wc2, .int .i64 wind] W fun e w' => e = .returned (.bool (decide (x ≤ voice))) ∧ w' = W) := Lib.hid (fun W hW => (containsDir_any _ WL wind _ HC1.out (by omega) W (RdI.heap hW HRW.out)).mono fun _ _ ⟨a, b⟩ => ⟨a, b.symm⟩)
                have HK2 : Hid (∀ W, W.heap = w8.heap → Calls Try.prog 71 #[.slice wa WL.length wc2, .int .i64 0] W fun e w' => e = .returned (.bool (decide (y ≤ voice))) ∧ w' = W) := Lib.hid (fun W hW => (containsDir_any _ WL 0 _ HC2.out (by omega) W (RdI.heap hW HRW.out)).mono fun _ _ ⟨a, b⟩ => ⟨a, b.symm⟩)
                have h5w := (Array.getElem?_eq_some_iff.1 (HTI.out.below hB8').b5).1
                clear hB8 hB8' HWD cx cy cp ho
                go_wp2_with fail
                go_quiet ((first | (go_at_call 71; exact Calls.quiet_of_same (HK1.out _ (by rfl))) | (go_at_call 71; exact Calls.quiet_of_same (HK2.out _ (by rfl)))))
                go_wp2_with fail
                go_roundw
                case rel => exact ⟨q + 1, by omega, by simp, below_drewN' HB8.out _⟩
                case measure => simp [intOf]; omega
              · as_aux_lemma =>
                go_wp2_with fail
                go_quiet (fail)
                clear m1 m2
                go_wp2_with fail
                go_roundw
                case rel => exact ⟨q + 1, by omega, by simp, below_drewN' HBi.out _⟩
                case measure => simp [intOf]; omega
          · obtain rfl : q = t.plots.length := by omega
            have HBe := Lib.hid (HBr.out.trans (hBi.mono HBr.out.size))
            clear hBi HBi
            go_wp2_with fail
            go_roundw
            case rel => exact ⟨k + 1, by omega, by simp, HBe.out⟩
            case measure => simp [intOf]; omega
      · have hkk : k = L.length := by omega
        subst hkk
        go_wp2_with fail
        refine (awake_any wr).mono ?_
        rintro e w9 ⟨rfl, hB9⟩
        have HB9 := Lib.hid (join (join HB3.out HBr.out) hB9)
        clear hB9
        go_wp2
        go_ret
        exact ⟨rfl, HB9.out⟩
end Go.Proofs.Ytimedmkpenbmkaa
