import Derived.Test.YtimedmkpenbmkaaBl
import Derived.Test.YtimedmkpenbmkaaE1
import Derived.Test.YtimedmkpenbmkaaTk
namespace Go.Proofs.Ytimedmkpenbmkaa
open Go.RowKit Go.Shelf
set_option linter.unusedSimpArgs false
set_option linter.unusedVariables false

theorem BellOk.hold {w w' : World} {bl : Nat} {ma : Option Addr} {n mc : Nat} (h : BellOk w bl ma n mc) {Kp : Nat → Prop} (hh : Hold Kp w w') (h1 : Kp bl) (h2 : n ≠ 0 → ∀ mb mo, ma = some ⟨mb, mo, none⟩ → Kp mb) : BellOk w' bl ma n mc := by
  obtain ⟨a, t, h⟩ := h; exact ⟨a, t, h.hold hh h1 h2⟩
set_option maxHeartbeats 1000000 in
set_option maxRecDepth 100000 in
theorem stroke_any (bl : Nat) (ma : Option Addr) (n mc : Nat) (m : Nat) (hm : m ≤ 1000000) (w : World) (hb : BellOk w bl ma n mc) :
    Calls Try.prog 61 #[.pointer (some ⟨bl, 0, none⟩), .int .i64 m] w (RingPost w bl ma n mc 0 m) := by
  have HR := Lib.hid (ring_any bl ma n mc w hb)
  clear hb
  go_enter Try.func61, Try.ntmps61
  go_wp2_with fail
  refine HR.out.mono ?_
  rintro e w' ⟨x, x0, x1, rfl, hB, hH⟩
  have HB := Lib.hid hB
  have HH := Lib.hid hH
  clear hB hH HR
  go_wp2
  go_ret
  have e1 : max (1 : Int) ((m : Int) + 1) = m + 1 := by omega
  exact ⟨x % max 1 ((m : Int) + 1), by rw [e1]; exact Int.emod_nonneg _ (by omega), by rw [e1]; have := Int.emod_lt_of_pos x (b := (m : Int) + 1) (by omega); omega, rfl, HB.out, HH.out⟩

set_option maxHeartbeats 1000000 in
set_option maxRecDepth 100000 in
theorem strike_any (bl : Nat) (ma : Option Addr) (n mc : Nat) (lo hi : Int) (m : Nat) (hlh : hi = lo + m) (hm : m ≤ 1000000) (h0 : -1000000 ≤ lo) (h1 : lo ≤ 1000000) (w : World) (hb : BellOk w bl ma n mc) :
    Calls Try.prog 62 #[.pointer (some ⟨bl, 0, none⟩), .int .i64 lo, .int .i64 hi] w (RingPost w bl ma n mc lo hi) := by
  subst hlh
  have HR := Lib.hid (stroke_any bl ma n mc m hm w hb)
  have hs : lo + (m : Int) - lo = m := by omega
  have hm' : (m : Int) ≤ 1000000 := by omega
  clear hb
  go_enter Try.func62, Try.ntmps62
  go_wp2_with fail
  refine HR.out.mono ?_
  rintro e w' ⟨x, x0, x1, rfl, hB, hH⟩
  have HB := Lib.hid hB
  have HH := Lib.hid hH
  clear hB hH HR
  go_wp2
  go_ret
  exact ⟨lo + x, by omega, by omega, rfl, HB.out, HH.out⟩

/-- what Hang leaves -/
theorem hang_any (ma : Option Addr) (n mc : Nat) (w : World) :
    Calls Try.prog 57 #[.slice ma n mc] w fun e w' => e = .returned (.pointer (some ⟨w.heap.size, 0, none⟩)) ∧ w.alloc (.cells #[.slice ma n mc, .int .i64 0, .int .u32 0] 150) = w' := by
  go_enter Try.func57, Try.ntmps57
  go_wp2
  go_ret
  exact ⟨rfl, rfl⟩

set_option maxHeartbeats 1000000 in
set_option maxRecDepth 100000 in
theorem aired_any (bl : Nat) (ma : Option Addr) (n mc : Nat) (hbig : True) (w : World) (hb : BellOk w bl ma n mc) (hma : n ≠ 0 → ∀ mb mo, ma = some ⟨mb, mo, none⟩ → mb < w.heap.size) :
    Calls Try.prog 59 #[.pointer (some ⟨bl, 0, none⟩)] w fun e w' => ∃ wind voice : Int, 0 ≤ wind ∧ wind ≤ 4 ∧ 1 ≤ voice ∧ voice ≤ 16 ∧ e = .returned (.agg #[.int .i64 wind, .int .i64 voice]) ∧ Hid (BellOk w' bl ma n mc) ∧ Hid (Hold (fun k => k ≠ bl) w w') := by
  have HB := Lib.hid (hb.below (below1 w (.cells #[.int .i64 0, .int .i64 0] 27)))
  have hl := hb.lt
  clear hb
  go_enter Try.func59, Try.ntmps59
  go_wp2_with fail
  refine (stroke_any bl ma n mc 4 (by omega) _ HB.out).mono ?_
  rintro e w1 ⟨x, x0, x1, rfl, hB, hH⟩
  have HB1 := Lib.hid hB
  have HH1 := Lib.hid hH
  clear hB hH HB
  go_wp2_with fail
  refine (strike_any bl ma n mc 1 16 15 (by omega) (by omega) (by omega) (by omega) _ HB1.out).mono ?_
  rintro e w2 ⟨y, y0, y1, rfl, hB, hH⟩
  have HB2 := Lib.hid hB
  have HH2 := Lib.hid (HH1.out.trans hH)
  have hbx := (HH2.out.same w.heap.size (by show w.heap.size ≠ bl; omega) (by simp)).trans (heap_alloc_last _ _)
  have HBX := Lib.hid hbx
  obtain ⟨k0, k1⟩ := blk_cells2 hbx
  have f0 := frozen_of_row w2 w.heap.size 0 _ _ hbx
  have f1 := frozen_of_row w2 w.heap.size 1 _ _ hbx
  clear hB hH HB1 HH1 hbx
  go_wp2
  have hh : Hold (fun k => k ≠ w.heap.size) w2 ((w2.setCell ⟨w.heap.size, 0, none⟩ (.int .i64 x)).setCell ⟨w.heap.size, 1, none⟩ (.int .i64 y)) := (Hold.set _ _ _ _).trans (Hold.set _ _ _ _)
  refine bodyPost_ret (v := .agg #[.int .i64 x, .int .i64 y]) (by simp [results, Try.results59, go_sem, k0, k1]) rfl ⟨x, y, x0, x1, y0, y1, rfl, Lib.hid (HB2.out.hold hh (by omega) (fun hn mb mo e => by have := hma hn mb mo e; omega)), Lib.hid ?_⟩
  exact ((Hold.alloc _ _).trans HH2.out).low (((Below.refl w.heap.size w2).setCell (p := ⟨w.heap.size, 0, none⟩) (Nat.le_refl _) _).setCell (p := ⟨w.heap.size, 1, none⟩) (Nat.le_refl _) _) (Nat.le_refl _)
end Go.Proofs.Ytimedmkpenbmkaa
