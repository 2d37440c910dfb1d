/- Helpers of the laws that draw: bells beside a town, tables that are changed, ways that are tried. -/
import Derived.Test.YtimedmkpenbmkaaMd
import Derived.Test.YtimedmkpenbmkaaSi
import Derived.Test.YtimedmkpenbmkaaCd
import Derived.Test.YtimedmkpenbmkaaMathB
import Derived.Test.YtimedmkpenbmkaaAw
import Derived.Deep.CutRange
import Derived.Deep.DeepCutAuto
import Derived.ArgAppend
import Derived.Test.YtimedmkpenbmkaaWy
namespace Go.Proofs.Ytimedmkpenbmkaa
open Go.RowKit Go.Shelf
set_option linter.unusedSimpArgs false
set_option linter.unusedVariables false

theorem two_winds {t : Hr.Town} (ok : t.Ok) (wind : Int) {s q : Nat} (hs : s < t.len) (hq : q < t.len) : ((t.needs wind s).getD q 0 = -1 ∧ (t.needs 0 s).getD q 0 = -1) ∨ (0 ≤ (t.needs wind s).getD q 0 ∧ 0 ≤ (t.needs 0 s).getD q 0 ∧ (t.needs wind s).getD q 0 ≤ 2 * (t.needs 0 s).getD q 0 ∧ (t.needs 0 s).getD q 0 ≤ 2 * (t.needs wind s).getD q 0 ∧ (t.needs wind s).getD q 0 ≤ 150 ∧ (t.needs 0 s).getD q 0 ≤ 150) := by
  have h30 := ok.n30
  have a1 := (Hr.needs_fix ok wind hs).inv.nn q hq
  have a2 := (Hr.needs_fix ok wind hs).inv.mu_bd q hq
  have b1 := (Hr.needs_fix ok 0 hs).inv.nn q hq
  have b2 := (Hr.needs_fix ok 0 hs).inv.mu_bd q hq
  have c1 := Hr.needs_twice ok (w := wind) (w' := 0) (.inr rfl) hs hq
  have c2 := Hr.needs_twice ok (w := 0) (w' := wind) (.inl rfl) hs hq
  by_cases hx : (t.needs wind s).getD q 0 = -1
  · by_cases hy : (t.needs 0 s).getD q 0 = -1
    · exact .inl ⟨hx, hy⟩
    · exact absurd hx (c2 hy).1
  · have := c1 hx
    have := c2 this.1
    right
    omega
theorem RdI.heap {W W' : World} {v : Value} {xs : List Int} (hW : W.heap = W'.heap) (h : RdI W' v xs) : RdI W v xs := by
  obtain ⟨h1, a, cap, e, hI⟩ := h
  refine ⟨h1, a, cap, e, fun hn => ?_⟩
  obtain ⟨b, o, e2, h2, h3⟩ := hI hn
  exact ⟨b, o, e2, by rw [hW]; exact h2, fun i hi => by have := h3 i hi; unfold World.cell? at this ⊢; rw [hW]; exact this⟩
/-- bytes that are read -/
def RdB (W : World) (ma : Option Addr) (n : Nat) : Prop := n ≤ 9223372036854775807 ∧ (n ≠ 0 → ∀ mb mo, ma = some ⟨mb, mo, none⟩ → mb < W.heap.size) ∧ (n ≠ 0 → ∃ mb mo, ma = some ⟨mb, mo, none⟩ ∧ mb < W.heap.size ∧ ∀ i, i < n → ∃ x : Int, 0 ≤ x ∧ x ≤ 255 ∧ W.cell? ⟨mb, mo + i, none⟩ = some (.int .u8 x))
theorem RdB.below {W W' : World} {ma : Option Addr} {n : Nat} (h : RdB W ma n) (hB : Below W.heap.size W W') : RdB W' ma n := ⟨h.1, fun hn mb mo e => Nat.lt_of_lt_of_le (h.2.1 hn mb mo e) hB.size, fun hn => by
  obtain ⟨mb, mo, e, l, hc⟩ := h.2.2 hn
  exact ⟨mb, mo, e, Nat.lt_of_lt_of_le l hB.size, fun i hi => by obtain ⟨x, x0, x1, hx⟩ := hc i hi; exact ⟨x, x0, x1, (hB.cell (p := ⟨mb, mo + i, none⟩) l).trans hx⟩⟩⟩
/-- a bell that is hung -/
theorem bell_hung {w : World} {ma : Option Addr} {n mc : Nat} (h : RdB w ma n) : BellOk (w.alloc (.cells #[.slice ma n mc, .int .i64 0, .int .u32 0] 150)) w.heap.size ma n mc := by
  refine ⟨0, 0, heap_alloc_last _ _, Nat.zero_le _, h.1, by omega, by omega, fun hn => ?_⟩
  obtain ⟨mb, mo, e, l, hc⟩ := (h.below (below1 w (.cells #[.slice ma n mc, .int .i64 0, .int .u32 0] 150))).2.2 hn
  obtain ⟨mb', mo', e', l', _⟩ := h.2.2 hn
  rw [e] at e'
  injection e' with e'
  injection e' with e1 e2
  subst e1
  exact ⟨mb, mo, e, l, by omega, hc⟩

/-- what lies before a law's loops: its town and its air -/
structure TaW (t : Hr.Town) (wind voice : Int) (c4 c5 : Nat) (pv : Value) (W : World) : Prop where
  b4 : W.heap[c4]? = some (.cells #[.int .i64 t.wide, pv] 24 (0, 0))
  b5 : W.heap[c5]? = some (.cells #[.int .i64 wind, .int .i64 voice] 27 (0, 0))
  rp : RdI W pv t.plots
theorem TaW.below {t : Hr.Town} {wind voice : Int} {c4 c5 : Nat} {pv : Value} {W W' : World} (h : TaW t wind voice c4 c5 pv W) (hB : Below W.heap.size W W') : TaW t wind voice c4 c5 pv W' :=
  ⟨(hB.block _ (Array.getElem?_eq_some_iff.1 h.b4).1).trans h.b4, (hB.block _ (Array.getElem?_eq_some_iff.1 h.b5).1).trans h.b5, h.rp.below hB⟩
theorem TaW.cs {t : Hr.Town} {wind voice : Int} {c4 c5 : Nat} {pv : Value} {W : World} (h : TaW t wind voice c4 c5 pv W) :
    (W.cell? ⟨c4, 0, none⟩ = some (.int .i64 t.wide) ∧ W.cell? ⟨c4, 1, none⟩ = some pv) ∧ W.cell? ⟨c5, 0, none⟩ = some (.int .i64 wind) ∧ W.cell? ⟨c5, 1, none⟩ = some (.int .i64 voice) := ⟨blk_cells2 h.b4, blk_cells2 h.b5⟩
theorem needs_err0 {t : Hr.Town} (hc : checkErr t.wide t.plots = 0) {wind : Int} (w0 : 0 ≤ wind) (w4 : wind ≤ 4) {s : Nat} (hs : s < t.len) (h0 : t.at s = 0) : needsErr t.wide t.plots wind s = 0 := by
  have ha : airErr wind 40 = 0 := by unfold airErr; rw [if_neg (by omega)]
  have hp : plotErr t.plots s 0 = 0 := by
    unfold plotErr
    have : t.plots.length = t.len := rfl
    rw [if_neg (by omega), Int.toNat_natCast]; exact if_pos h0
  unfold needsErr openErr
  simp [hc, ha, hp]
theorem winds_err0 {t : Hr.Town} (hc : checkErr t.wide t.plots = 0) {voice : Int} (v1 : 1 ≤ voice) (v40 : voice ≤ 40) {s h : Nat} (hs : s < t.len) (h0 : t.at s = 0) (hh : h < t.len) (h1 : t.at h = 1) : windsE t.wide t.plots voice s h = 0 ∧ windsL t.wide t.plots voice s h = windsOf t voice s h := by
  have ha : airErr 0 voice = 0 := by unfold airErr; rw [if_neg (by omega)]
  have hl : t.plots.length = t.len := rfl
  have hp : plotErr t.plots s 0 = 0 := by
    unfold plotErr
    rw [if_neg (by omega), Int.toNat_natCast]; exact if_pos h0
  have hp1 : plotErr t.plots h 1 = 0 := by
    unfold plotErr
    rw [if_neg (by omega), Int.toNat_natCast]; exact if_pos h1
  have e : windsE t.wide t.plots voice s h = 0 := by unfold windsE atE openErr; simp [hc, ha, hp, hp1]
  exact ⟨e, by unfold windsL; rw [if_pos e, townOf_self]; simp⟩
theorem need_of {t : Hr.Town} (hc : checkErr t.wide t.plots = 0) {wind : Int} (w0 : 0 ≤ wind) (w4 : wind ≤ 4) {s q : Nat} (hs : s < t.len) (h0 : t.at s = 0) (ok : t.Ok) (hq : q < t.len) : needE t.wide t.plots wind s q = (if (t.needs wind s).getD q 0 = -1 then 6 else 0) ∧ needV t.wide t.plots wind s q = (if (t.needs wind s).getD q 0 = -1 then 0 else (t.needs wind s).getD q 0) := by
  have he := needs_err0 hc w0 w4 hs h0
  have hl := needs_len ok wind hs
  have e1 : needE t.wide t.plots wind s q = (if (t.needs wind s).getD q 0 = -1 then 6 else 0) := by
    unfold needE reachErr
    rw [if_neg (by rw [he]; simp), needsL_ok t he, if_neg (by omega), Int.toNat_natCast]
  refine ⟨e1, ?_⟩
  unfold needV
  rw [e1, needsL_ok t he, Int.toNat_natCast]
  split <;> simp_all
theorem mem_windsOf {t : Hr.Town} {voice : Int} {s h : Nat} {d : Int} (h0 : 0 ≤ d) (h4 : d ≤ 4) : d ∈ windsOf t voice s h ↔ hearB t d voice h s = true := by
  unfold windsOf windsTo
  rw [List.mem_map]
  constructor
  · rintro ⟨p, hp, rfl⟩
    rw [List.mem_filter] at hp
    exact hp.2
  · intro he
    refine ⟨d.toNat, ?_, by omega⟩
    rw [List.mem_filter, List.mem_range]
    have : ((d.toNat : Nat) : Int) = d := by omega
    exact ⟨by omega, by rw [this]; exact he⟩
theorem mem_winds_dec {t : Hr.Town} {voice : Int} {s h : Nat} {d x : Int} (h0 : 0 ≤ d) (h4 : d ≤ 4) (hs : s < t.len) (hs0 : t.at s = 0) (hx : (t.needs d s).getD h 0 = x) : decide (d ∈ windsOf t voice s h) = (x != -1 && decide (x ≤ voice)) := by
  have h1 := mem_windsOf (t := t) (voice := voice) (s := s) (h := h) h0 h4
  have e : hearB t d voice h s = (x != -1 && decide (x ≤ voice)) := by unfold hearB; rw [hx]; simp [hs, hs0]
  rw [e] at h1
  exact Bool.eq_iff_iff.2 (by rw [decide_eq_true_iff]; exact h1)
theorem flip_law {wind : Int} (h0 : 1 ≤ wind) (h4 : wind ≤ 4) : 1 + (wind + 1) % 4 = Hr.flip wind := by
  have : wind = 1 ∨ wind = 2 ∨ wind = 3 ∨ wind = 4 := by omega
  rcases this with rfl | rfl | rfl | rfl <;> rfl
theorem flip_bd {wind : Int} (h0 : 0 ≤ wind) (h4 : wind ≤ 4) : 0 ≤ Hr.flip wind ∧ Hr.flip wind ≤ 4 := by
  have : wind = 0 ∨ wind = 1 ∨ wind = 2 ∨ wind = 3 ∨ wind = 4 := by omega
  rcases this with rfl | rfl | rfl | rfl | rfl <;> decide

theorem own_cap {w : World} {base : Nat} {e : TypeId} {ob : Option Addr} {cp : Nat} {xs : List Int} (h : w.ownsRow base e 1 (.slice ob xs.length cp) xs.length (xs.map (Value.int .i64))) : xs.length ≤ cp := by
  by_cases h0 : xs = []
  · subst h0; simp
  · obtain ⟨g, k, h1, _, _, h2, _⟩ := own_ints rfl h h0
    injection h1 with _ _ h3
    omega
end Go.Proofs.Ytimedmkpenbmkaa

namespace Go.Proofs.Ytimedmkpenbmkaa
open Go.RowKit Go.Shelf
set_option linter.unusedSimpArgs false
set_option linter.unusedVariables false

/-- a slice that does not lie in a block -/
def Off (QB : Nat) (v : Value) : Prop := ∀ b o n c, v = .slice (some ⟨b, o, none⟩) n c → b ≠ QB
theorem own_off {W : World} {base QB : Nat} {e : TypeId} {m : Nat} {v : Value} {n : Nat} {xs : List Value} (h : W.ownsRow base e m v n xs) (hq : QB < base) : Off QB v := by
  intro b o n' c e1
  rcases h.2 with ⟨h1, _⟩ | ⟨g, cp, cur, h1, hb, _⟩
  · rw [h1] at e1; cases e1
  · rw [h1] at e1; injection e1 with e1; injection e1 with e1; injection e1 with e1; omega
theorem RdI.hold {W W' : World} {v : Value} {xs : List Int} (h : RdI W v xs) {Kp : Nat → Prop} (hh : Hold Kp W W') (hk : ∀ b o n c, v = .slice (some ⟨b, o, none⟩) n c → Kp b) : RdI W' v xs := by
  obtain ⟨h1, a, cap, e, hI⟩ := h
  refine ⟨h1, a, cap, e, fun hn => ?_⟩
  obtain ⟨b, o, e2, h2, h3⟩ := hI hn
  exact ⟨b, o, e2, Nat.lt_of_lt_of_le h2 hh.size, fun i hi => (hh.cell (p := ⟨b, o + i, none⟩) (hk b o _ _ (by rw [e, e2])) h2).trans (h3 i hi)⟩
theorem BellOk.heap {W W' : World} {bl : Nat} {ma : Option Addr} {n mc : Nat} (h : BellOk W bl ma n mc) (e : W'.heap = W.heap) : BellOk W' bl ma n mc := by
  obtain ⟨a, t, h⟩ := h
  have hc : ∀ p, W'.cell? p = W.cell? p := fun p => by unfold World.cell?; rw [e]
  refine ⟨a, t, by rw [e]; exact h.box, h.le, h.big, h.turn0, h.turn1, fun hn => ?_⟩
  obtain ⟨mb, mo, e1, l, ne, hm⟩ := h.metal hn
  exact ⟨mb, mo, e1, by rw [e]; exact l, ne, fun i hi => by obtain ⟨x, x0, x1, hx⟩ := hm i hi; exact ⟨x, x0, x1, by rw [hc]; exact hx⟩⟩
theorem stroke_z (bl : Nat) (ma : Option Addr) (n mc : Nat) (m : Int) (h0 : 0 ≤ m) (hm : m ≤ 1000000) (w : World) (hb : BellOk w bl ma n mc) :
    Calls Try.prog 61 #[.pointer (some ⟨bl, 0, none⟩), .int .i64 m] w (RingPost w bl ma n mc 0 m) := by
  obtain ⟨k, rfl⟩ := Int.eq_ofNat_of_zero_le h0
  exact stroke_any bl ma n mc k (by omega) w hb

/-- what stands while a bell rings: the town's box, its plots, the bell -/
structure PvS (t : Hr.Town) (c7 : Nat) (pv : Value) (QB : Nat) (ma : Option Addr) (n mc : Nat) (W : World) : Prop where
  b7 : W.heap[c7]? = some (.cells #[.int .i64 t.wide, pv] 24 (0, 0))
  rp : RdI W pv t.plots
  bell : BellOk W QB ma n mc
  ne7 : c7 ≠ QB
  off : Off QB pv
theorem PvS.ring {t : Hr.Town} {c7 : Nat} {pv : Value} {QB : Nat} {ma : Option Addr} {n mc : Nat} {W W' : World} (h : PvS t c7 pv QB ma n mc W) (hb : BellOk W' QB ma n mc) (hh : Hold (fun k => k ≠ QB) W W') : PvS t c7 pv QB ma n mc W' :=
  ⟨(hh.same _ h.ne7 (Array.getElem?_eq_some_iff.1 h.b7).1).trans h.b7, h.rp.hold hh h.off, hb, h.ne7, h.off⟩
theorem PvS.below {t : Hr.Town} {c7 : Nat} {pv : Value} {QB : Nat} {ma : Option Addr} {n mc : Nat} {W W' : World} (h : PvS t c7 pv QB ma n mc W) (hB : Below W.heap.size W W') : PvS t c7 pv QB ma n mc W' :=
  ⟨(hB.block _ (Array.getElem?_eq_some_iff.1 h.b7).1).trans h.b7, h.rp.below hB, h.bell.below hB, h.ne7, h.off⟩
theorem PvS.cs {t : Hr.Town} {c7 : Nat} {pv : Value} {QB : Nat} {ma : Option Addr} {n mc : Nat} {W : World} (h : PvS t c7 pv QB ma n mc W) : W.cell? ⟨c7, 0, none⟩ = some (.int .i64 t.wide) ∧ W.cell? ⟨c7, 1, none⟩ = some pv := blk_cells2 h.b7
theorem PvS.lt {t : Hr.Town} {c7 : Nat} {pv : Value} {QB : Nat} {ma : Option Addr} {n mc : Nat} {W : World} (h : PvS t c7 pv QB ma n mc W) : c7 < W.heap.size := (Array.getElem?_eq_some_iff.1 h.b7).1

/-- a world behind another one, but for one bell -/
def Aft (QB : Nat) (W W' : World) : Prop := Hold (fun k => k ≠ QB) W W'
theorem Aft.of {QB : Nat} {W W' : World} (h : Hold (fun k => k ≠ QB) W W') : Aft QB W W' := h
theorem Aft.below {QB : Nat} {W W' W'' : World} (h : Aft QB W W') (hB : Below W'.heap.size W' W'') : Aft QB W W'' := Hold.trans h (.of_below hB (fun _ _ hl => hl))
theorem Aft.low {QB B : Nat} {W W' : World} (h : Aft QB W W') (hb : B ≤ QB) (hB : B ≤ W.heap.size) : Below B W W' := (Hold.mono (Kq := fun k => k < B) h (fun k (hk : k < B) _ => show k ≠ QB by omega)).to_below hB

/-- what is there behind the first draws of a law: the wind, the stands -/
def PvR3 (t : Hr.Town) (c7 : Nat) (pv : Value) (BB : Nat) (ma : Option Addr) (n mc : Nat) (W2 : World) (s8 s9 : Value) (wx : World) : Prop :=
  ∃ (wind : Int) (a9 : Option Addr) (c9 : Nat) (L : List Int), L = kindIdx t.plots 0 ∧ 0 ≤ wind ∧ wind ≤ 4 ∧ s8 = .int .i64 wind ∧ s9 = .slice a9 L.length c9 ∧ RdI wx s9 L ∧ Off BB s9 ∧ PvS t c7 pv BB ma n mc wx ∧ Aft BB W2 wx
theorem PvR3.mk' {t : Hr.Town} {c7 : Nat} {pv : Value} {BB : Nat} {ma : Option Addr} {n mc : Nat} {W2 w3 Wc w5 wx : World} {wind : Int} {v9 : Value} (g0 : 0 ≤ wind) (g4 : wind ≤ 4) (hS : PvS t c7 pv BB ma n mc w3) (hA : Aft BB W2 w3) (e1 : Wc.heap = w3.heap)
    (ho : w5.ownsRow Wc.heap.size 3 1 v9 (kindIdx t.plots 0).length ((kindIdx t.plots 0).map (Value.int .i64))) (hB : Below w3.heap.size w3 w5) (e2 : wx.heap = w5.heap) (e3 : Below w5.heap.size w5 wx) : PvR3 t c7 pv BB ma n mc W2 (.int .i64 wind) v9 wx := by
  obtain ⟨a9, c9, rfl⟩ := own_slice ho
  have hbl := hS.bell.lt
  refine ⟨wind, a9, c9, _, rfl, g0, g4, rfl, rfl, RdI.heap e2 (RdI.own rfl rfl ho), own_off ho (by rw [e1]; exact hbl), (hS.below hB).below e3, (hA.below hB).below e3⟩

set_option maxHeartbeats 1000000 in
theorem copy_full (v : Value) (xs : List Int) (hl : xs.length ≤ 1000000) (w : World) (hR : RdI w v xs) :
    Calls Try.prog 27 #[v] w fun e w' => e = .returned (.slice (some ⟨w.heap.size, 0, none⟩) xs.length xs.length) ∧ TabAt w' w.heap.size xs ∧ Below w.heap.size w w' := by
  obtain ⟨i0, hi, hz0, hz1, hz2⟩ := info_parts A_info_int
  obtain ⟨_, a, cap, rfl, h2⟩ := hR
  have H2 := Lib.hid h2
  obtain ⟨n, hn⟩ : ∃ n, n = xs.length := ⟨_, rfl⟩
  rw [← hn] at hl ⊢
  have HN := Lib.hid hn
  clear h2 hn
  go_enter Try.func27, Try.ntmps27
  go_wp2_with (with_reducible refine wpList_make_full _ rfl _ _ 31 rfl w.heap.size 3 i0 (.int .i64 0) 1 A_und_int hi hz0 hz1 .i64 .i64 n n n rfl rfl rfl rfl (by rw [hz2]; omega) (by unfold maxLen; omega) (Nat.le_refl _) ?_)
  intro w1 hown hgr
  obtain ⟨hlen, hg1⟩ := own_cells hown
  have hb1 : Below w.heap.size w w1 := ⟨hgr.os, hgr.tape, hgr.output, hgr.size, fun k hk => hgr.block k hk (by simp)⟩
  generalize (madeCells _ _).toList = cur at hg1 hlen
  obtain ⟨ys, hys⟩ : ∃ ys, ys = xs.map (Value.int .i64) := ⟨_, rfl⟩
  have hyl : ys.length = n := by rw [hys, List.length_map, ← HN.out]
  have HYS := Lib.hid hys
  have HG1 := Lib.hid hg1
  have HCL := Lib.hid hlen
  have HYL := Lib.hid hyl
  have HB1 := Lib.hid hb1
  have hpos : 0 < ys.length → (some ⟨w.heap.size, 0, none⟩ : Option Addr) = some ⟨w.heap.size, 0, none⟩ ∧ ∃ ad, a = some ad ∧ ∀ j u, ys[j]? = some u → w1.cell? (ad.add j) = some u := by
    intro h0
    have hx : xs ≠ [] := by rintro rfl; rw [hys] at h0; simp at h0
    obtain ⟨b, o, rfl, hI⟩ := H2.out hx
    refine ⟨rfl, _, rfl, fun j u hu => ?_⟩
    have hadd : (⟨b, o, none⟩ : Addr).add j = ⟨b, o + j, none⟩ := by unfold Addr.add; split <;> simp_all
    rw [hadd]
    have hj : j < xs.length := by
      rw [hys] at hu; have := (List.getElem?_eq_some_iff.1 hu).1; simpa using this
    refine ((hI.below hb1 hI.1).2 j hj).trans ?_
    rw [hys] at hu
    simp [List.getElem?_eq_getElem hj] at hu ⊢
    exact hu
  have HPOS := Lib.hid hpos
  have h1c : ∀ u ∈ ys, u.oneCell' = true := by rw [hys]; intro u hu; obtain ⟨x, _, rfl⟩ := List.mem_map.1 hu; rfl
  have H1C := Lib.hid h1c
  clear hown hgr hg1 hb1 hlen hys hyl hpos h1c H2
  go_wp2_with (with_reducible refine wpList_copy_splice rfl _ _ 31 31 rfl 3 A_und_int A_siz_int (some ⟨w.heap.size, 0, none⟩) a n n n cap rfl rfl w.heap.size 0 cur 3 HG1.out ys (by rw [HYL.out]; exact (Nat.min_self n).symm) HPOS.out (by rw [HYL.out, HCL.out]; omega) H1C.out w.heap.size w HB1.out (Nat.le_refl _) ?_)
  intro w2 HG2 hb2
  have HB2 := Lib.hid hb2
  clear hb2
  go_wp2
  go_ret
  refine ⟨rfl, ?_, HB2.out⟩
  unfold TabAt
  have := HG2.out
  rw [← HYS.out]
  have hs : splice cur 0 ys = ys := by
    unfold splice
    rw [List.take_zero, List.nil_append, Nat.zero_add, HYL.out, List.drop_of_length_le (by rw [HCL.out]; omega), List.append_nil]
  rwa [hs] at this
theorem run_field27 (a b : Int) (w : World) : (Instr.field 27 (Value.agg #[.int .i64 a, .int .i64 b]) 0).run Try.prog w = .ok (.int .i64 a) w := by
  simp [Instr.field, go_sem, asAgg]
/-- a table whose numbers are not far from those of another one -/
def PvTb (X T : List Int) (z : Nat) : Prop := T.length = X.length ∧ ∀ i, i < X.length → X.getD i 0 - 4 * z ≤ T.getD i 0 ∧ T.getD i 0 ≤ X.getD i 0 + 4 * z
theorem PvTb.start (X : List Int) : PvTb X X 0 := ⟨rfl, fun i _ => by omega⟩
theorem PvTb.set {X T : List Int} {z : Nat} (h : PvTb X T z) {i : Nat} (hi : i < X.length) {v : Int} (h0 : -4 ≤ v) (h1 : v ≤ 4) : PvTb X (T.set i (T.getD i 0 + v)) (z + 1) := by
  refine ⟨by rw [List.length_set]; exact h.1, fun k hk => ?_⟩
  rw [Hr.getD_set _ _ _ _ (by rw [h.1]; exact hi)]
  have a := h.2 k hk
  by_cases e : i = k
  · subst e; rw [if_pos rfl]; omega
  · rw [if_neg e]; omega
theorem rel25 {X T : List Int} {z : Nat} {QB g : Nat} {ma : Option Addr} {n mc : Nat} {wj wm W6 : World} (hPT : PvTb X T z) (hTT : TabAt wm g T) (hA : Hold (fun k => k ≠ QB) wj wm) (hg : wj.heap.size ≤ g) (hgQ : g ≠ QB) (hm : n ≠ 0 → ∀ mb mo, ma = some ⟨mb, mo, none⟩ → mb < wj.heap.size)
    (hB6 : BellOk W6 QB ma n mc) (hH6 : Hold (fun k => k ≠ QB) wm W6) {u : Int} (hu : u.toNat < X.length) {y v : Int} (hy : T.getD u.toNat 0 = y) (v0 : -4 ≤ v) (v4 : v ≤ 4) :
    PvTb X (T.set u.toNat (y + v)) (z + 1) ∧ TabAt (W6.setCell ⟨g, u.toNat, none⟩ (.int .i64 (y + v))) g (T.set u.toNat (y + v)) ∧ BellOk (W6.setCell ⟨g, u.toNat, none⟩ (.int .i64 (y + v))) QB ma n mc ∧ Hold (fun k => k ≠ QB) wj (W6.setCell ⟨g, u.toNat, none⟩ (.int .i64 (y + v))) := by
  refine ⟨?_, ?_, ?_, ?_⟩
  · rw [← hy]; exact hPT.set hu v0 v4
  · exact (hTT.hold hH6 hgQ).set (by rw [hPT.1]; exact hu) _
  · exact hB6.hold (Hold.setCell (Kp := fun k => k ≠ g) _ _ _ (fun h => h rfl)) (Ne.symm hgQ) (fun hn mb mo e => by have := hm hn mb mo e; show mb ≠ g; omega)
  · have h1 : Hold (fun k => k ≠ QB) wj W6 := hA.trans hH6
    exact h1.low (B := wj.heap.size) ((Below.refl _ _).setCell (p := ⟨g, u.toNat, none⟩) hg _) (Nat.le_refl _)
end Go.Proofs.Ytimedmkpenbmkaa

namespace Go.Proofs.Ytimedmkpenbmkaa
open Go.RowKit Go.Shelf
set_option linter.unusedSimpArgs false
set_option linter.unusedVariables false

theorem own_hold {W W' : World} {base QB : Nat} {e : TypeId} {m : Nat} {v : Value} {n : Nat} {xs : List Value} (h : W.ownsRow base e m v n xs) (hh : Hold (fun k => k ≠ QB) W W') (hq : QB < base) : W'.ownsRow base e m v n xs := by
  refine h.kept (row := some QB) ⟨hh.os, hh.tape, hh.output, hh.size, fun k hk hne => hh.same k (fun e => hne (by rw [e])) hk⟩ ?_
  rcases h.2 with ⟨g1, _⟩ | ⟨g, cp, cur, g1, g2, _⟩
  · exact .inl (by rw [g1]; rfl)
  · right; rw [g1]; show some g ≠ some QB; intro e; injection e with e; omega
/-- four numbers, one of which is drawn -/
theorem four_at (wd : Int) (h1 : 1 ≤ wd) (h6 : wd ≤ 6) (x : Int) (x0 : 0 ≤ x) (x3 : x ≤ 3) : ∃ p : Int, -6 ≤ p ∧ p ≤ 6 ∧ ∀ (w : World), (w.alloc (.cells #[.int .i64 (-1), .int .i64 1, .int .i64 (-wd), .int .i64 wd] 3)).cell? ⟨w.heap.size, x.toNat, none⟩ = some (.int .i64 p) := by
  have key : ∀ (i : Nat) (p : Int), (#[Value.int .i64 (-1), .int .i64 1, .int .i64 (-wd), .int .i64 wd])[i]? = some (.int .i64 p) → ∀ (w : World), (w.alloc (.cells #[.int .i64 (-1), .int .i64 1, .int .i64 (-wd), .int .i64 wd] 3)).cell? ⟨w.heap.size, i, none⟩ = some (.int .i64 p) := fun i p h w => by
    rw [cell_of_row _ _ _ _ _ _ (heap_alloc_last w (.cells #[.int .i64 (-1), .int .i64 1, .int .i64 (-wd), .int .i64 wd] 3))]; exact h
  have hx : x = 0 ∨ x = 1 ∨ x = 2 ∨ x = 3 := by omega
  rcases hx with rfl | rfl | rfl | rfl
  · exact ⟨-1, by omega, by omega, key 0 _ rfl⟩
  · exact ⟨1, by omega, by omega, key 1 _ rfl⟩
  · exact ⟨-wd, by omega, by omega, key 2 _ rfl⟩
  · exact ⟨wd, by omega, by omega, key 3 _ rfl⟩
/-- the last plot of a way -/
def lastOf (s : Nat) (R : List Int) : Int := ((s : Int) :: R).getD R.length 0
theorem lastOf_snoc (s : Nat) (R : List Int) (k : Int) : lastOf s (R ++ [k]) = k := by
  unfold lastOf
  rw [List.length_append, List.getD_eq_getElem?_getD]
  simp [List.getElem?_cons]
/-- a number behind a table that is full -/
theorem tab_append {w : World} {g3 g5 : Nat} {L : List Int} {k : Int} (t3 : TabAt w g3 L) (t5 : TabAt w g5 [k]) (hl : L.length ≤ 1000000) : ∃ v' w', (Builtin.append_ #[31, 31] 31 #[.slice (some ⟨g3, 0, none⟩) L.length L.length, .slice (some ⟨g5, 0, none⟩) 1 1]).run Try.prog w = .ok v' w' ∧ w'.ownsRow w.heap.size 3 1 v' (L.length + 1) ((L ++ [k]).map (Value.int .i64)) ∧ w.grownBy w' none := by
  obtain ⟨i0, hi, hz0, hz1, hz2⟩ := info_parts A_info3
  rw [List.map_append]
  have hadd : ∀ g j, (⟨g, 0, none⟩ : Addr).add j = ⟨g, j, none⟩ := fun g j => by unfold Addr.add; split <;> simp_all
  refine run_append_arg_grows w 31 31 3 i0 (.int .i64 0) 1 8 A_und31 hi hz0 hz1 hz2 rfl (by decide) ⟨g3, 0, none⟩ L.length L.length (L.map (Value.int .i64)) (by simp) ?_ ⟨g5, 0, none⟩ 1 1 [.int .i64 k] rfl ?_ (by omega) (by unfold maxLen; omega) (by omega)
  · intro j u hu
    rw [hadd]
    have hj : j < L.length := by have := (List.getElem?_eq_some_iff.1 hu).1; simpa using this
    rw [t3.cell hj]
    simp [List.getElem?_eq_getElem hj] at hu ⊢
    exact hu
  · intro j u hu
    rw [hadd]
    cases j with
    | zero => simp at hu; subst hu; exact t5.cell (i := 0) (by simp)
    | succ j => simp at hu
theorem own_ints2 {w : World} {base : Nat} {e : TypeId} {v : Value} {s : Int} {R : List Int} (h : w.ownsRow base e 1 v (R.length + 1) ((s :: R).map (Value.int .i64))) : ∃ g cap, v = .slice (some ⟨g, 0, none⟩) (R.length + 1) cap ∧ base ≤ g ∧ Ints w g 0 (s :: R) := by
  obtain ⟨g, cp, hv, hgb, hI, _⟩ := own_ints (xs := s :: R) rfl h (by simp)
  exact ⟨g, cp, hv, hgb, hI⟩
theorem exec_append2 {P : Program} {ρ : Operand → Value} {o : Oper} {s x : Operand} {t ty : TypeId} {vs vx v' : Value} {w w' : World} (ho : o.op = .call { callee := .builtin .append, args := #[s, x], argTypes := #[t, t] }) (hty : o.type = ty) (hs : ρ s = vs) (hx : ρ x = vx) (hr : (Builtin.append_ #[t, t] ty #[vs, vx]).run P w = .ok v' w') : (execOp ρ o).run P w = .ok (.value v') w' := by
  subst hty
  unfold execOp
  simp only [ho, resolve, invoke, builtin, Sem.run_bind, Sem.run_pure, Result.andThen_ok, List.map_toArray, List.map_cons, List.map_nil, hs, hx, hr]
end Go.Proofs.Ytimedmkpenbmkaa

namespace Go.Proofs.Ytimedmkpenbmkaa
open Go.RowKit Go.Shelf
set_option linter.unusedSimpArgs false
set_option linter.unusedVariables false

theorem needs_bd {t : Hr.Town} (ok : t.Ok) (wind : Int) {s : Nat} (hs : s < t.len) (i : Nat) (hi : i < t.len) : -1 ≤ (t.needs wind s).getD i 0 ∧ (t.needs wind s).getD i 0 ≤ 150 := by
  have hF := Hr.needs_fix ok wind hs
  have a := hF.inv.mu_bd i hi
  have b := hF.inv.nn i hi
  have c := ok.n30
  omega
/-- the table that is told holds -/
theorem needs_agrees {t : Hr.Town} (ok : t.Ok) (wind : Int) {s : Nat} (hs : s < t.len) : agreesAll t wind (t.needs wind s) = true := by
  have hF := Hr.needs_fix ok wind hs
  refine (agrees_iff t ok wind _ (fun i hi => by have := needs_bd ok wind hs i hi; omega)).2 fun p q hp hq ⟨h1, h2⟩ => ?_
  have hm := (Hr.stepI_iff ok hp hq (Hr.stepI t wind p q)).2 ⟨rfl, by omega⟩
  by_cases hn : (t.needs wind s).getD p 0 = -1
  · by_cases hq1 : (t.needs wind s).getD q 0 = -1
    · omega
    · exact (hF.reached ok hp hm hq1).1 hn
  · have := hF.low p hp hn q _ hm
    omega
/-- a table that holds is below what any way takes -/
theorem holds_le {t : Hr.Town} (ok : t.Ok) {wind : Int} {s : Nat} (hs : s < t.len) {T : List Int} (hF : ∀ i, i < t.len → -9223372036854775808 ≤ T.getD i 0 ∧ T.getD i 0 ≤ 9223372036854775807) (h0 : T.getD s 0 = 0) (ha : agreesAll t wind T = true) {q : Nat} {c : Int} (hw : t.Way wind s q c) : T.getD q 0 ≤ c := by
  have hA := (agrees_iff t ok wind T hF).1 ha
  induction hw with
  | here => omega
  | @on p q c n h1 h2 ih =>
    have hp := Hr.way_lt ok hs h1
    have hq := Hr.steps_lt ok h2
    have hn := Hr.steps_pos h2
    obtain ⟨e, h3⟩ := (Hr.stepI_iff ok hp hq n).1 h2
    have hb := hA p q hp hq
    unfold badStep at hb
    rw [← e] at hb
    omega
theorem holdsV_needs {t : Hr.Town} (ok : t.Ok) {wind : Int} {s : Nat} (hs : s < t.len) (hN : needsErr t.wide t.plots wind s = 0) : holdsV t.wide t.plots wind s (t.needs wind s) = true ∧ holdsE t.wide t.plots wind s (t.needs wind s) = 0 := by
  have hE : holdsE t.wide t.plots wind s (t.needs wind s) = 0 := by
    have hl := needs_len ok wind hs
    unfold holdsE
    rw [if_neg (by rw [hN]; simp), if_neg (by rw [hl]; simp [Hr.Town.len])]
  refine ⟨?_, hE⟩
  unfold holdsV
  rw [hE, townOf_self, Int.toNat_natCast, needs_agrees ok wind hs, (Hr.needs_fix ok wind hs).zero]
  simp
theorem holdsE_len {t : Hr.Town} {wind : Int} {s : Nat} (hN : needsErr t.wide t.plots wind s = 0) {T : List Int} (hl : T.length = t.plots.length) : holdsE t.wide t.plots wind s T = 0 := by
  unfold holdsE
  rw [if_neg (by rw [hN]; simp), if_neg (by rw [hl]; simp)]
theorem holdsV_below {t : Hr.Town} (ok : t.Ok) {wind : Int} {s : Nat} (hs : s < t.len) {T : List Int} (hF : ∀ i, i < t.len → -9223372036854775808 ≤ T.getD i 0 ∧ T.getD i 0 ≤ 9223372036854775807) (h : holdsV t.wide t.plots wind s T = true) {q : Nat} (hq : q < t.len) (hne : (t.needs wind s).getD q 0 ≠ -1) : T.getD q 0 ≤ (t.needs wind s).getD q 0 := by
  unfold holdsV at h
  rw [townOf_self, Int.toNat_natCast] at h
  simp only [Bool.and_eq_true, decide_eq_true_eq] at h
  exact holds_le ok hs hF h.2.1 h.2.2 ((Hr.needs_fix ok wind hs).inv.way q hq hne)

theorem wayTail_len {t : Hr.Town} (ok : t.Ok) {wind : Int} {s : Nat} (hs : s < t.len) {T : List Int} (h : t.Fix wind s T) : ∀ (n z : Nat), z < t.len → T.getD z 0 ≠ -1 → ((wayTail t wind T s n z).length : Int) ≤ T.getD z 0
  | 0, z, hz, hne => by have := h.inv.nn z hz; simp only [wayTail, List.length_nil]; omega
  | n + 1, z, hz, hne => by
    unfold wayTail
    by_cases e : z = s
    · rw [if_pos e]; have := h.inv.nn z hz; simp only [List.length_nil]; omega
    · rw [if_neg e]
      obtain ⟨p, hp, hb, hn1, hn0, hba⟩ := before_good ok hs h hz hne e
      rw [hb]
      have ih := wayTail_len ok hs h n p hp hn1
      have hbk := back_step ok hp hba
      simp only [List.length_cons]
      omega
theorem wayL_len {t : Hr.Town} (ok : t.Ok) {wind : Int} {s q : Nat} (hs : s < t.len) (hq : q < t.len) (hN : needsErr t.wide t.plots wind s = 0) (hne : (t.needs wind s).getD q 0 ≠ -1) : (wayL t.wide t.plots wind s q).length ≤ 151 := by
  unfold wayL
  split
  · rw [needsL_ok t hN, townOf_self, Int.toNat_natCast, Int.toNat_natCast]
    have := wayTail_len ok hs (Hr.needs_fix ok wind hs) 1000 q hq hne
    have := needs_bd ok wind hs q hq
    unfold natInts wayP wayRev
    simp only [List.length_map, List.length_reverse, List.length_cons]
    omega
  · simp

theorem stepZ_mem {t : Hr.Town} (ok : t.Ok) {wind : Int} {p : Nat} (hp : p < t.len) {q : Int} (h : stepZ t wind p q ≠ 0) : 0 ≤ q ∧ q < t.len ∧ (q.toNat, stepZ t wind p q) ∈ t.steps wind p := by
  unfold stepZ at *
  by_cases hq : (p : Int) < 0 ∨ (t.len : Int) ≤ p ∨ q < 0 ∨ (t.len : Int) ≤ q
  · rw [if_pos hq] at h; exact absurd rfl h
  · rw [if_neg hq] at h ⊢
    rw [Int.toNat_natCast] at h ⊢
    exact ⟨by omega, by omega, (Hr.stepI_iff ok hp (by omega) _).2 ⟨rfl, h⟩⟩
/-- a way that takes something is one -/
theorem tkAll_way {t : Hr.Town} (ok : t.Ok) {wind : Int} {s : Nat} (hs : s < t.len) (k : Int) : ∀ (L : List Int) (p : Nat) (c0 : Int), t.Way wind s p c0 →
    ((tkAll t wind p c0 (L ++ [k])).1 = 0 ∧ 0 ≤ k ∧ k < t.len ∧ t.Way wind s k.toNat (tkAll t wind p c0 (L ++ [k])).2) ∨ (tkAll t wind p c0 (L ++ [k])).1 = 8
  | [], p, c0, hw => by
    have hp := Hr.way_lt ok hs hw
    simp only [List.nil_append, tkAll]
    by_cases h : stepZ t wind p k = 0
    · rw [if_pos h]; exact .inr rfl
    · rw [if_neg h]
      obtain ⟨h1, h2, h3⟩ := stepZ_mem ok hp h
      exact .inl ⟨rfl, h1, h2, .on hw h3⟩
  | q :: L, p, c0, hw => by
    have hp := Hr.way_lt ok hs hw
    simp only [List.cons_append, tkAll]
    by_cases h : stepZ t wind p q = 0
    · rw [if_pos h]; exact .inr rfl
    · rw [if_neg h]
      obtain ⟨h1, h2, h3⟩ := stepZ_mem ok hp h
      exact tkAll_way ok hs k L q.toNat _ (.on hw h3)
theorem takes_tried {t : Hr.Town} (ok : t.Ok) {wind : Int} {s : Nat} (hs : s < t.len) (hN : needsErr t.wide t.plots wind s = 0) (L : List Int) (k : Int) :
    (takesE t.wide t.plots wind ((s : Int) :: (L ++ [k])) = 0 ∧ 0 ≤ k ∧ k < t.len ∧ (t.needs wind s).getD k.toNat 0 ≠ -1 ∧ (t.needs wind s).getD k.toNat 0 ≤ takesV t.wide t.plots wind ((s : Int) :: (L ++ [k]))) ∨ takesE t.wide t.plots wind ((s : Int) :: (L ++ [k])) = 8 := by
  obtain ⟨h1, h2, h3⟩ := needs_ok0 hN
  have eO : openErr t.wide t.plots wind 40 = 0 := by unfold openErr; rw [if_neg (by rw [h1]; simp)]; exact h2
  have eE : takesE t.wide t.plots wind ((s : Int) :: (L ++ [k])) = (tkAll t wind s 0 (L ++ [k])).1 := by
    unfold takesE
    rw [if_neg (by rw [eO]; simp)]
    simp only
    rw [if_neg (by rw [h3]; simp), townOf_self, Int.toNat_natCast]
  rw [eE]
  rcases tkAll_way ok hs k L s 0 .here with ⟨a1, a2, a3, a4⟩ | a
  · left
    have eV : takesV t.wide t.plots wind ((s : Int) :: (L ++ [k])) = (tkAll t wind s 0 (L ++ [k])).2 := by
      unfold takesV
      rw [if_pos (by rw [eE]; exact a1)]
      simp only
      rw [townOf_self, Int.toNat_natCast]
    have := (Hr.needs_fix ok wind hs).le ok hs a4
    rw [eV]
    exact ⟨a1, a2, a3, this.1, this.2⟩
  · exact .inr a
end Go.Proofs.Ytimedmkpenbmkaa
