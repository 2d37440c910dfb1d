/- Contracts and mathematics, part 1. -/
import Derived.Test.YtimedmkpenbmkaaGreatUn
import Derived.Test.YtimedmkpenbmkaaGreatMathB
import Derived.RegionTactic
import Derived.Deep.CutRange
import Derived.Deep.DeepCutAuto
import Derived.ArgAppend
section
namespace Go.Proofs.YtimedmkpenbmkaaGreat
open Go.RowKit Go.Shelf
set_option linter.unusedSimpArgs false
set_option linter.unusedVariables false
/-- a bell: its bytes, where it is in them, and how often it began again -/
structure BellAt (w : World) (bl : Nat) (ma : Option Addr) (n mc : Nat) (at_ : Nat) (turn : Int) : Prop where
  box : w.heap[bl]? = some (.cells #[.slice ma n mc, .int .i64 at_, .int .u32 turn] 108 (0, 0))
  le : at_ ≤ n
  big : n ≤ 9223372036854775807
  turn0 : 0 ≤ turn
  turn1 : turn ≤ 4294967295
  metal : n ≠ 0 → ∃ mb mo, ma = some ⟨mb, mo, none⟩ ∧ mb < w.heap.size ∧ mb ≠ bl ∧ ∀ i, i < n → ∃ x : Int, 0 ≤ x ∧ x ≤ 255 ∧ w.cell? ⟨mb, mo + i, none⟩ = some (.int .u8 x)
def BellOk (w : World) (bl : Nat) (ma : Option Addr) (n mc : Nat) : Prop := ∃ at_ turn, BellAt w bl ma n mc at_ turn
theorem BellAt.lt {w : World} {bl : Nat} {ma : Option Addr} {n mc at_ : Nat} {turn : Int} (h : BellAt w bl ma n mc at_ turn) : bl < w.heap.size := (Array.getElem?_eq_some_iff.1 h.box).1
theorem BellAt.hold {w w' : World} {bl : Nat} {ma : Option Addr} {n mc at_ : Nat} {turn : Int} (h : BellAt w bl ma n mc at_ turn) {Kp : Nat → Prop} (hh : Hold Kp w w') (h1 : Kp bl) (h2 : n ≠ 0 → ∀ mb mo, ma = some ⟨mb, mo, none⟩ → Kp mb) : BellAt w' bl ma n mc at_ turn :=
  ⟨(hh.same _ h1 h.lt).trans h.box, h.le, h.big, h.turn0, h.turn1, fun hn => by
    obtain ⟨mb, mo, e, l, ne, hc⟩ := h.metal hn
    exact ⟨mb, mo, e, Nat.lt_of_lt_of_le l hh.size, ne, fun i hi => by obtain ⟨x, x0, x1, hx⟩ := hc i hi; exact ⟨x, x0, x1, (hh.cell (p := ⟨mb, mo + i, none⟩) (h2 hn _ _ e) l).trans hx⟩⟩⟩
theorem BellAt.below {w w' : World} {bl : Nat} {ma : Option Addr} {n mc at_ : Nat} {turn : Int} (h : BellAt w bl ma n mc at_ turn) (hB : Below w.heap.size w w') : BellAt w' bl ma n mc at_ turn :=
  h.hold (Kp := fun _ => True) (.of_below hB (fun _ _ hl => hl)) trivial (fun _ _ _ _ => trivial)
theorem BellOk.below {w w' : World} {bl : Nat} {ma : Option Addr} {n mc : Nat} (h : BellOk w bl ma n mc) (hB : Below w.heap.size w w') : BellOk w' bl ma n mc := by
  obtain ⟨a, t, h⟩ := h; exact ⟨a, t, h.below hB⟩
theorem BellOk.lt {w : World} {bl : Nat} {ma : Option Addr} {n mc : Nat} (h : BellOk w bl ma n mc) : bl < w.heap.size := by obtain ⟨a, t, h⟩ := h; exact h.lt
theorem wrap_u32 {n : Nat} (h : n < 2 ^ 32) : IntKind.wrap .u32 (n : Int) = n := by
  have hb : IntKind.bits .u32 = 32 := rfl
  have hs : IntKind.signed .u32 = false := rfl
  unfold IntKind.wrap
  simp only [hb, hs, Bool.false_and]
  have h1 : ((n : Int) % (2 ^ 32 : Int)) = n := by omega
  rw [h1]
  rw [if_neg (by simp)]
theorem run_and32 (a : Int) (t : TypeId) : ∃ z : Int, 0 ≤ z ∧ z ≤ 65535 ∧ ∀ w, (binOp .and t (.int .u32 a) (.int .u32 65535)).run Tryz.prog w = .ok (.int .u32 z) w := by
  have hle : (BitVec.ofInt 32 a &&& BitVec.ofInt 32 65535).toNat ≤ 65535 := by
    rw [BitVec.toNat_and]; exact Nat.and_le_right
  refine ⟨((BitVec.ofInt 32 a &&& BitVec.ofInt 32 65535).toNat : Int), by omega, by omega, fun w => ?_⟩
  have h4 : (binOp .and t (.int .u32 a) (.int .u32 65535)).run Tryz.prog w = .ok (.int .u32 (IntKind.wrap .u32 ((BitVec.ofInt 32 a &&& BitVec.ofInt 32 65535).toNat : Int))) w := rfl
  rw [h4, wrap_u32 (by omega)]
theorem run_xor32 (a b : Int) (t : TypeId) : ∃ z : Int, ∀ w, (binOp .xor t (.int .u32 a) (.int .u32 b)).run Tryz.prog w = .ok (.int .u32 z) w := ⟨_, fun w => rfl⟩
theorem run_shr32 (a : Int) (t : TypeId) : ∃ z : Int, ∀ w, (binOp .shr t (.int .u32 a) (.int .u64 7)).run Tryz.prog w = .ok (.int .u32 z) w := ⟨_, fun w => rfl⟩
theorem wpList_and32 {ops : Array Oper} {rest : List Oper} {o : Oper} {a : Act} {w : World} {Q : Exit → Act → World → Prop} (hgd : o.guard = none) (t t' : TypeId) (x y : Operand) (ho : o.op = .binOp .and t x y t') (u : Int)
    (hx : a.eval x = .int .u32 u) (hy : a.eval y = .int .u32 65535) (hg : (eqGuard .and t x y (.int .u32 u) (.int .u32 65535)).run Tryz.prog w = .ok () w) (h : ∀ z : Int, 0 ≤ z → z ≤ 65535 → wpList Tryz.prog ops Q rest (a.put o.dst (.int .u32 z)) w) : wpList Tryz.prog ops Q (o :: rest) a w := by
  obtain ⟨z, z0, z1, hr⟩ := run_and32 u t
  exact wpList_bin hgd .and t t' x y ho _ _ _ hx hy hg (hr w) (h z z0 z1)
theorem wpList_xor32 {ops : Array Oper} {rest : List Oper} {o : Oper} {a : Act} {w : World} {Q : Exit → Act → World → Prop} (hgd : o.guard = none) (t t' : TypeId) (x y : Operand) (ho : o.op = .binOp .xor t x y t') (u v : Int)
    (hx : a.eval x = .int .u32 u) (hy : a.eval y = .int .u32 v) (hg : (eqGuard .xor t x y (.int .u32 u) (.int .u32 v)).run Tryz.prog w = .ok () w) (h : ∀ z : Int, wpList Tryz.prog ops Q rest (a.put o.dst (.int .u32 z)) w) : wpList Tryz.prog ops Q (o :: rest) a w := by
  obtain ⟨z, hr⟩ := run_xor32 u v t
  exact wpList_bin hgd .xor t t' x y ho _ _ _ hx hy hg (hr w) (h z)
theorem wpList_shr32 {ops : Array Oper} {rest : List Oper} {o : Oper} {a : Act} {w : World} {Q : Exit → Act → World → Prop} (hgd : o.guard = none) (t t' : TypeId) (x y : Operand) (ho : o.op = .binOp .shr t x y t') (u : Int)
    (hx : a.eval x = .int .u32 u) (hy : a.eval y = .int .u64 7) (hg : (eqGuard .shr t x y (.int .u32 u) (.int .u64 7)).run Tryz.prog w = .ok () w) (h : ∀ z : Int, wpList Tryz.prog ops Q rest (a.put o.dst (.int .u32 z)) w) : wpList Tryz.prog ops Q (o :: rest) a w := by
  obtain ⟨z, hr⟩ := run_shr32 u t
  exact wpList_bin hgd .shr t t' x y ho _ _ _ hx hy hg (hr w) (h z)
/-- what a bell's call leaves -/
def RingPost (w : World) (bl : Nat) (ma : Option Addr) (n mc : Nat) (lo hi : Int) (e : Ending) (w' : World) : Prop :=
  ∃ x : Int, lo ≤ x ∧ x ≤ hi ∧ e = .returned (.int .i64 x) ∧ BellOk w' bl ma n mc ∧ Hold (fun k => k ≠ bl) w w'
theorem blk_cells3 {W : World} {b : Nat} {v0 v1 v2 : Value} {ty : TypeId} (h : W.heap[b]? = some (.cells #[v0, v1, v2] ty (0, 0))) :
    (W.cell? ⟨b, 0, none⟩ = some v0 ∧ W.cell? ⟨b, 1, none⟩ = some v1 ∧ W.cell? ⟨b, 2, none⟩ = some v2) ∧ W.frozen? ⟨b, 1, none⟩ = false ∧ W.frozen? ⟨b, 2, none⟩ = false := by
  refine ⟨⟨?_, ?_, ?_⟩, frozen_of_row W b 1 _ _ h, frozen_of_row W b 2 _ _ h⟩ <;> simp [World.cell?, h]
theorem bell_set {w : World} {bl : Nat} {ma : Option Addr} {n mc at_ : Nat} {turn : Int} (h : BellAt w bl ma n mc at_ turn) (o : Nat) (v : Value) : n ≠ 0 → ∃ mb mo, ma = some ⟨mb, mo, none⟩ ∧ mb < (w.setCell ⟨bl, o, none⟩ v).heap.size ∧ mb ≠ bl ∧ ∀ i, i < n → ∃ x : Int, 0 ≤ x ∧ x ≤ 255 ∧ (w.setCell ⟨bl, o, none⟩ v).cell? ⟨mb, mo + i, none⟩ = some (.int .u8 x) := fun hn => by
  obtain ⟨mb, mo, e, l, ne, hc⟩ := h.metal hn
  have hh : Hold (fun k => k ≠ bl) w (w.setCell ⟨bl, o, none⟩ v) := Hold.setCell _ _ _ (fun h => h rfl)
  exact ⟨mb, mo, e, Nat.lt_of_lt_of_le l hh.size, ne, fun i hi => by obtain ⟨x, x0, x1, hx⟩ := hc i hi; exact ⟨x, x0, x1, (hh.cell (p := ⟨mb, mo + i, none⟩) ne l).trans hx⟩⟩
theorem BellAt.set1 {w : World} {bl : Nat} {ma : Option Addr} {n mc at_ : Nat} {turn : Int} (h : BellAt w bl ma n mc at_ turn) (a2 : Nat) (x : Int) (hx : x = a2) (hle : a2 ≤ n) : BellAt (w.setCell ⟨bl, 1, none⟩ (.int .i64 x)) bl ma n mc a2 turn := by
  subst hx
  exact ⟨heap_set_same _ h.box, hle, h.big, h.turn0, h.turn1, bell_set h _ _⟩
theorem BellAt.set2 {w : World} {bl : Nat} {ma : Option Addr} {n mc at_ : Nat} {turn : Int} (h : BellAt w bl ma n mc at_ turn) (t2 : Int) (h0 : 0 ≤ t2) (h1 : t2 ≤ 4294967295) : BellAt (w.setCell ⟨bl, 2, none⟩ (.int .u32 t2)) bl ma n mc at_ t2 :=
  ⟨heap_set_same _ h.box, h.le, h.big, h0, h1, bell_set h _ _⟩
theorem BellAt.drewN {w : World} {bl : Nat} {ma : Option Addr} {n mc at_ : Nat} {turn : Int} (h : BellAt w bl ma n mc at_ turn) (q : Nat) : BellAt (w.drewN q) bl ma n mc at_ turn := ⟨h.box, h.le, h.big, h.turn0, h.turn1, h.metal⟩
theorem Hold.drewN (Kp : Nat → Prop) (w : World) (q : Nat) : Hold Kp w (w.drewN q) := ⟨rfl, rfl, rfl, Nat.le_refl _, fun _ _ _ => rfl⟩
theorem Hold.set (w : World) (bl o : Nat) (v : Value) : Hold (fun k => k ≠ bl) w (w.setCell ⟨bl, o, none⟩ v) := Hold.setCell _ _ _ (fun h => h rfl)
set_option maxHeartbeats 2000000 in
set_option maxRecDepth 100000 in
theorem ring_any (bl : Nat) (ma : Option Addr) (n mc : Nat) (w : World) (hb : BellOk w bl ma n mc) :
    Calls Tryz.prog 113 #[.pointer (some ⟨bl, 0, none⟩)] w (RingPost w bl ma n mc 0 65535) := by
  obtain ⟨at_, turn, h⟩ := hb
  obtain ⟨⟨c0, c1, c2⟩, f1, f2⟩ := blk_cells3 h.box
  have t0 := h.turn0
  have t1 := h.turn1
  have hle := h.le
  have hbig := h.big
  have hlt := h.lt
  have H := Lib.hid h
  clear h
  by_cases he : at_ = n
  · subst he
    have hmet := H.out.metal
    by_cases hn0 : at_ = 0
    · subst hn0
      clear hmet
      go_enter Tryz.func113, Tryz.ntmps113
      go_wp2
      go_quiet (fail)
      go_wp2_with (first | ((with_reducible refine wpList_shr32 rfl 106 175 _ _ rfl _ rfl rfl rfl ?_); intro z1) | ((with_reducible refine wpList_xor32 rfl 106 106 _ _ rfl _ _ rfl rfl rfl ?_); intro z2) | ((with_reducible refine wpList_and32 rfl 106 106 _ _ rfl _ rfl rfl rfl ?_); intro z z0 z65))
      go_ret
      refine ⟨z, z0, z65, rfl, ?_, ?_⟩
      · exact ⟨0, _, ((H.out.drewN _).set1 0 0 rfl (Nat.zero_le _)).set2 _ (by omega) (by omega)⟩
      · exact ((Hold.drewN _ _ _).trans (Hold.set _ _ _ _)).trans (Hold.set _ _ _ _)
    · have hn1 : (0 : Int) < at_ := by omega
      obtain ⟨mb, mo, rfl, ml, mne, hm⟩ := hmet hn0
      obtain ⟨x, x0, x1, hx⟩ := hm 0 (by omega)
      clear hm
      rw [Nat.add_zero] at hx
      go_enter Tryz.func113, Tryz.ntmps113
      go_wp2
      go_quiet (fail)
      go_wp2_with (first | ((with_reducible refine wpList_shr32 rfl 106 175 _ _ rfl _ rfl rfl rfl ?_); intro z1) | ((with_reducible refine wpList_xor32 rfl 106 106 _ _ rfl _ _ rfl rfl rfl ?_); intro z2) | ((with_reducible refine wpList_and32 rfl 106 106 _ _ rfl _ rfl rfl rfl ?_); intro z z0 z65))
      go_quiet (fail)
      go_wp2_with (first | ((with_reducible refine wpList_shr32 rfl 106 175 _ _ rfl _ rfl rfl rfl ?_); intro z1) | ((with_reducible refine wpList_xor32 rfl 106 106 _ _ rfl _ _ rfl rfl rfl ?_); intro z2) | ((with_reducible refine wpList_and32 rfl 106 106 _ _ rfl _ rfl rfl rfl ?_); intro z z0 z65))
      go_ret
      refine ⟨z, z0, z65, rfl, ?_, ?_⟩
      · exact ⟨1, _, ((((H.out.drewN _).set1 0 0 rfl (Nat.zero_le _)).set2 _ (by omega) (by omega)).drewN _).set1 1 1 rfl (by omega)⟩
      · exact ((((Hold.drewN _ _ _).trans (Hold.set _ _ _ _)).trans (Hold.set _ _ _ _)).trans (Hold.drewN _ _ _)).trans (Hold.set _ _ _ _)
  · have hne : ((at_ : Int) == (n : Int)) = false := by simp; omega
    have hltn : at_ < n := by omega
    have hn0 : (0 : Int) < n := by omega
    have hat : (at_ : Int) < n := by omega
    obtain ⟨mb, mo, rfl, ml, mne, hm⟩ := H.out.metal (by omega)
    obtain ⟨x, x0, x1, hx⟩ := hm at_ hltn
    clear hm he
    go_enter Tryz.func113, Tryz.ntmps113
    go_wp2
    go_quiet (fail)
    go_wp2
    go_quiet (fail)
    go_wp2_with (first | ((with_reducible refine wpList_shr32 rfl 106 175 _ _ rfl _ rfl rfl rfl ?_); intro z1) | ((with_reducible refine wpList_xor32 rfl 106 106 _ _ rfl _ _ rfl rfl rfl ?_); intro z2) | ((with_reducible refine wpList_and32 rfl 106 106 _ _ rfl _ rfl rfl rfl ?_); intro z z0 z65))
    go_ret
    refine ⟨z, z0, z65, rfl, ?_, ?_⟩
    · exact ⟨at_ + 1, _, (H.out.drewN _).set1 (at_ + 1) _ (by push_cast; rfl) (by omega)⟩
    · exact (Hold.drewN _ _ _).trans (Hold.set _ _ _ _)
end Go.Proofs.YtimedmkpenbmkaaGreat
end
section
namespace Go.Proofs.YtimedmkpenbmkaaGreat
open Go.RowKit Go.Shelf
attribute [local go_sem] Oper.semAt_some
set_option linter.unusedSimpArgs false
set_option linter.unusedVariables false
/-- what a way's closure has at hand: the town at work, the plot that was reached, and what was needed -/
structure TkW (t : Hr.Town) (wind voice : Int) (b o cap r : Nat) (cf : Value) (KB AB TB p : Nat) (s : Int) (W : World) : Prop where
  wk : WkBox W t.wide wind voice b o cap r cf t.plots KB
  here : W.heap[AB]? = some (.cells #[.int .i64 p] 3)
  tot : W.heap[TB]? = some (.cells #[.int .i64 s] 3)
  ne : KB ≠ AB ∧ KB ≠ TB ∧ AB ≠ TB ∧ b ≠ AB ∧ b ≠ TB ∧ r ≠ AB ∧ r ≠ TB
theorem TkW.lt {t : Hr.Town} {wind voice : Int} {b o cap r : Nat} {cf : Value} {KB AB TB p : Nat} {s : Int} {W : World} (h : TkW t wind voice b o cap r cf KB AB TB p s W) : AB < W.heap.size ∧ TB < W.heap.size ∧ KB < W.heap.size ∧ b < W.heap.size ∧ r < W.heap.size :=
  ⟨(Array.getElem?_eq_some_iff.1 h.here).1, (Array.getElem?_eq_some_iff.1 h.tot).1, h.wk.lt⟩
theorem TkW.below {t : Hr.Town} {wind voice : Int} {b o cap r : Nat} {cf : Value} {KB AB TB p : Nat} {s : Int} {W W' : World} (h : TkW t wind voice b o cap r cf KB AB TB p s W) {B : Nat} (hB : Below B W W') (hl : AB < B ∧ TB < B ∧ KB < B ∧ b < B ∧ r < B) : TkW t wind voice b o cap r cf KB AB TB p s W' :=
  ⟨h.wk.hold (Kp := fun k => k < B) (.of_below hB (fun _ h _ => h)) ⟨hl.2.2.1, hl.2.2.2⟩, (hB.block _ hl.1).trans h.here, (hB.block _ hl.2.1).trans h.tot, h.ne⟩
theorem Hold.low {Kp : Nat → Prop} {A C D : World} {B : Nat} (h : Hold Kp A C) (k : Below B C D) (hB : A.heap.size ≤ B) : Hold Kp A D :=
  have k' := Hold.of_below (Kp := fun i => i < B) k (fun _ h _ => h)
  ⟨k'.os.trans h.os, k'.tape.trans h.tape, k'.output.trans h.output, Nat.le_trans h.size k.size, fun i hi hl => (k.block i (by omega)).trans (h.same i hi hl)⟩
end Go.Proofs.YtimedmkpenbmkaaGreat
end
section
namespace Go.Proofs.YtimedmkpenbmkaaGreat
open Go.RowKit Go.Shelf
set_option linter.unusedSimpArgs false
set_option linter.unusedVariables false
theorem BellOk.hold {w w' : World} {bl : Nat} {ma : Option Addr} {n mc : Nat} (h : BellOk w bl ma n mc) {Kp : Nat → Prop} (hh : Hold Kp w w') (h1 : Kp bl) (h2 : n ≠ 0 → ∀ mb mo, ma = some ⟨mb, mo, none⟩ → Kp mb) : BellOk w' bl ma n mc := by
  obtain ⟨a, t, h⟩ := h; exact ⟨a, t, h.hold hh h1 h2⟩
set_option maxHeartbeats 1000000 in
set_option maxRecDepth 100000 in
theorem stroke_any (bl : Nat) (ma : Option Addr) (n mc : Nat) (m : Nat) (hm : m ≤ 1000000) (w : World) (hb : BellOk w bl ma n mc) :
    Calls Tryz.prog 69 #[.pointer (some ⟨bl, 0, none⟩), .int .i64 m] w (RingPost w bl ma n mc 0 m) := by
  have HR := Lib.hid (ring_any bl ma n mc w hb)
  clear hb
  go_enter Tryz.func69, Tryz.ntmps69
  go_wp2_with fail
  refine HR.out.mono ?_
  rintro e w' ⟨x, x0, x1, rfl, hB, hH⟩
  have HB := Lib.hid hB
  have HH := Lib.hid hH
  clear hB hH HR
  go_wp2
  go_ret
  have e1 : max (1 : Int) ((m : Int) + 1) = m + 1 := by omega
  exact ⟨x % max 1 ((m : Int) + 1), by rw [e1]; exact Int.emod_nonneg _ (by omega), by rw [e1]; have := Int.emod_lt_of_pos x (b := (m : Int) + 1) (by omega); omega, rfl, HB.out, HH.out⟩
set_option maxHeartbeats 1000000 in
set_option maxRecDepth 100000 in
theorem strike_any (bl : Nat) (ma : Option Addr) (n mc : Nat) (lo hi : Int) (m : Nat) (hlh : hi = lo + m) (hm : m ≤ 1000000) (h0 : -1000000 ≤ lo) (h1 : lo ≤ 1000000) (w : World) (hb : BellOk w bl ma n mc) :
    Calls Tryz.prog 68 #[.pointer (some ⟨bl, 0, none⟩), .int .i64 lo, .int .i64 hi] w (RingPost w bl ma n mc lo hi) := by
  subst hlh
  have HR := Lib.hid (stroke_any bl ma n mc m hm w hb)
  have hs : lo + (m : Int) - lo = m := by omega
  have hm' : (m : Int) ≤ 1000000 := by omega
  clear hb
  go_enter Tryz.func68, Tryz.ntmps68
  go_wp2_with fail
  refine HR.out.mono ?_
  rintro e w' ⟨x, x0, x1, rfl, hB, hH⟩
  have HB := Lib.hid hB
  have HH := Lib.hid hH
  clear hB hH HR
  go_wp2
  go_ret
  exact ⟨lo + x, by omega, by omega, rfl, HB.out, HH.out⟩
/-- what Hang leaves -/
theorem hang_any (ma : Option Addr) (n mc : Nat) (w : World) :
    Calls Tryz.prog 15 #[.slice ma n mc] w fun e w' => e = .returned (.pointer (some ⟨w.heap.size, 0, none⟩)) ∧ w.alloc (.cells #[.slice ma n mc, .int .i64 0, .int .u32 0] 108) = w' := by
  go_enter Tryz.func15, Tryz.ntmps15
  go_wp2
  go_ret
  exact ⟨rfl, rfl⟩
set_option maxHeartbeats 1000000 in
set_option maxRecDepth 100000 in
theorem aired_any (bl : Nat) (ma : Option Addr) (n mc : Nat) (hbig : True) (w : World) (hb : BellOk w bl ma n mc) (hma : n ≠ 0 → ∀ mb mo, ma = some ⟨mb, mo, none⟩ → mb < w.heap.size) :
    Calls Tryz.prog 17 #[.pointer (some ⟨bl, 0, none⟩)] w fun e w' => ∃ wind voice : Int, 0 ≤ wind ∧ wind ≤ 4 ∧ 1 ≤ voice ∧ voice ≤ 16 ∧ e = .returned (.agg #[.int .i64 wind, .int .i64 voice]) ∧ Hid (BellOk w' bl ma n mc) ∧ Hid (Hold (fun k => k ≠ bl) w w') := by
  have HB := Lib.hid (hb.below (below1 w (.cells #[.int .i64 0, .int .i64 0] 29)))
  have hl := hb.lt
  clear hb
  go_enter Tryz.func17, Tryz.ntmps17
  go_wp2_with fail
  refine (stroke_any bl ma n mc 4 (by omega) _ HB.out).mono ?_
  rintro e w1 ⟨x, x0, x1, rfl, hB, hH⟩
  have HB1 := Lib.hid hB
  have HH1 := Lib.hid hH
  clear hB hH HB
  go_wp2_with fail
  refine (strike_any bl ma n mc 1 16 15 (by omega) (by omega) (by omega) (by omega) _ HB1.out).mono ?_
  rintro e w2 ⟨y, y0, y1, rfl, hB, hH⟩
  have HB2 := Lib.hid hB
  have HH2 := Lib.hid (HH1.out.trans hH)
  have hbx := (HH2.out.same w.heap.size (by show w.heap.size ≠ bl; omega) (by simp)).trans (heap_alloc_last _ _)
  have HBX := Lib.hid hbx
  obtain ⟨k0, k1⟩ := blk_cells2 hbx
  have f0 := frozen_of_row w2 w.heap.size 0 _ _ hbx
  have f1 := frozen_of_row w2 w.heap.size 1 _ _ hbx
  clear hB hH HB1 HH1 hbx
  go_wp2
  have hh : Hold (fun k => k ≠ w.heap.size) w2 ((w2.setCell ⟨w.heap.size, 0, none⟩ (.int .i64 x)).setCell ⟨w.heap.size, 1, none⟩ (.int .i64 y)) := (Hold.set _ _ _ _).trans (Hold.set _ _ _ _)
  refine bodyPost_ret (v := .agg #[.int .i64 x, .int .i64 y]) (by simp [results, Tryz.results17, go_sem, k0, k1]) rfl ⟨x, y, x0, x1, y0, y1, rfl, Lib.hid (HB2.out.hold hh (by omega) (fun hn mb mo e => by have := hma hn mb mo e; omega)), Lib.hid ?_⟩
  exact ((Hold.alloc _ _).trans HH2.out).low (((Below.refl w.heap.size w2).setCell (p := ⟨w.heap.size, 0, none⟩) (Nat.le_refl _) _).setCell (p := ⟨w.heap.size, 1, none⟩) (Nat.le_refl _) _) (Nat.le_refl _)
end Go.Proofs.YtimedmkpenbmkaaGreat
end
section
namespace Go.Proofs.YtimedmkpenbmkaaGreat
open Go.RowKit Go.Shelf
set_option linter.unusedSimpArgs false
set_option linter.unusedVariables false
/-- the world in which a town is made -/
structure MdW (w : World) (bl : Nat) (ma : Option Addr) (n mc : Nat) (R : Nat) (wd : Int) (xs : List Int) (v : Value) (W : World) : Prop where
  res : W.heap[w.heap.size]? = some (.cells #[.int .i64 0, .slice none 0 0] 25 (0, 0))
  box : W.heap[R]? = some (.cells #[.int .i64 wd, v] 25 (0, 0))
  own : W.ownsRow (R + 1) 32 1 v xs.length (xs.map (Value.int .i64))
  bell : BellOk W bl ma n mc
  hold : Hold (fun k => k ≠ bl) w W
  lt : w.heap.size < R
  blt : bl < w.heap.size
  mlt : n ≠ 0 → ∀ mb mo, ma = some ⟨mb, mo, none⟩ → mb < w.heap.size
theorem MdW.size {w : World} {bl : Nat} {ma : Option Addr} {n mc R : Nat} {wd : Int} {xs : List Int} {v : Value} {W : World} (h : MdW w bl ma n mc R wd xs v W) : R + 1 ≤ W.heap.size := (Array.getElem?_eq_some_iff.1 h.box).1
theorem MdW.below {w : World} {bl : Nat} {ma : Option Addr} {n mc R : Nat} {wd : Int} {xs : List Int} {v : Value} {W W' : World} (h : MdW w bl ma n mc R wd xs v W) (hB : Below W.heap.size W W') : MdW w bl ma n mc R wd xs v W' :=
  ⟨(hB.block _ (Array.getElem?_eq_some_iff.1 h.res).1).trans h.res, (hB.block _ (Array.getElem?_eq_some_iff.1 h.box).1).trans h.box, own_below h.own hB, h.bell.below hB, h.hold.low hB h.hold.size, h.lt, h.blt, h.mlt⟩
theorem MdW.ring {w : World} {bl : Nat} {ma : Option Addr} {n mc R : Nat} {wd : Int} {xs : List Int} {v : Value} {W W' : World} (h : MdW w bl ma n mc R wd xs v W) (hb : BellOk W' bl ma n mc) (hh : Hold (fun k => k ≠ bl) W W') : MdW w bl ma n mc R wd xs v W' := by
  have hblt := h.blt
  have hlt := h.lt
  refine ⟨(hh.same _ (by omega) (Array.getElem?_eq_some_iff.1 h.res).1).trans h.res, (hh.same _ (by omega) (Array.getElem?_eq_some_iff.1 h.box).1).trans h.box, ?_, hb, h.hold.trans hh, h.lt, h.blt, h.mlt⟩
  refine h.own.kept (row := some bl) ⟨hh.os, hh.tape, hh.output, hh.size, fun k hk hne => hh.same k (fun e => hne (by rw [e])) hk⟩ ?_
  rcases h.own.2 with ⟨h1, _⟩ | ⟨g, cap, cur, h1, hb', _⟩
  · exact .inl (by rw [h1]; rfl)
  · right; rw [h1]; show some g ≠ some bl; intro e; injection e; omega
theorem MdW.app {w : World} {bl : Nat} {ma : Option Addr} {n mc R : Nat} {wd : Int} {xs : List Int} {v v' : Value} {W W' : World} {x : Int} (h : MdW w bl ma n mc R wd xs v W) (hg : W.grownBy W' v.ownBlock)
    (ho : W'.ownsRow (R + 1) 32 1 v' (xs.length + 1) (xs.map (Value.int .i64) ++ [.int .i64 x])) :
    MdW w bl ma n mc R wd (xs ++ [x]) v' (W'.setCell ⟨R, 1, none⟩ v') ∧ W'.cell? ⟨R, 1, none⟩ = some v ∧ W'.frozen? ⟨R, 1, none⟩ = false := by
  have hz := h.size
  have hle := h.lt
  have hblt := h.blt
  have hne : ∀ k, k < R + 1 → some k ≠ v.ownBlock := fun k hk e => by
    have := h.own.lt k e.symm; omega
  have hr := (hg.block _ (by omega) (fun e => hne _ (by omega) e)).trans h.res
  have hb := (hg.block R (by omega) (fun e => hne _ (by omega) e)).trans h.box
  have hB : Hold (fun k => k < R + 1) W W' := ⟨hg.os, hg.tape, hg.output, hg.size, fun k hk hl => hg.block k hl (fun e => hne k hk e)⟩
  have hS : Hold (fun k => k ≠ R) W' (W'.setCell ⟨R, 1, none⟩ v') := Hold.set _ _ _ _
  refine ⟨⟨(Below.heap_setCell _ _ _ _ (show w.heap.size ≠ R by omega)).trans hr, heap_set_same _ hb, ?_, ?_, ?_, h.lt, h.blt, h.mlt⟩, ?_, ?_⟩
  · have : (xs ++ [x]).length = xs.length + 1 := by simp
    rw [this, List.map_append]
    refine ho.kept (grown_set W' R 1 v') ?_
    rcases ho.2 with ⟨h1, _⟩ | ⟨g, cap, cur, rfl, hb', _⟩
    · exact .inl (by rw [h1]; rfl)
    · right; show some g ≠ some R; intro e; injection e; omega
  · exact (h.bell.hold hB (by omega) (fun hn mb mo e => by have := h.mlt hn mb mo e; omega)).hold hS (by omega) (fun hn mb mo e => by have := h.mlt hn mb mo e; omega)
  · exact h.hold.low (((Hold.to_below (B := w.heap.size) (hB.mono (Kq := fun k => k < w.heap.size) (fun k (hk : k < w.heap.size) _ => show k < R + 1 by omega)) h.hold.size)).trans ((Below.refl w.heap.size W').setCell (p := ⟨R, 1, none⟩) (by show w.heap.size ≤ R; omega) v')) (Nat.le_refl _)
  · rw [cell_of_row _ _ _ _ _ _ hb]; rfl
  · exact frozen_of_row _ _ _ _ _ hb
theorem MdW.load {w : World} {bl : Nat} {ma : Option Addr} {n mc R : Nat} {wd : Int} {xs : List Int} {v : Value} {W : World} (h : MdW w bl ma n mc R wd xs v W) :
    W.cell? ⟨R, 0, none⟩ = some (.int .i64 wd) ∧ W.cell? ⟨R, 1, none⟩ = some v ∧ W.frozen? ⟨R, 0, none⟩ = false ∧ W.frozen? ⟨R, 1, none⟩ = false ∧
    W.cell? ⟨w.heap.size, 0, none⟩ = some (.int .i64 0) ∧ W.cell? ⟨w.heap.size, 1, none⟩ = some (.slice none 0 0) ∧ W.frozen? ⟨w.heap.size, 0, none⟩ = false ∧ W.frozen? ⟨w.heap.size, 1, none⟩ = false := by
  obtain ⟨a1, a2⟩ := blk_cells2 h.box
  obtain ⟨b1, b2⟩ := blk_cells2 h.res
  exact ⟨a1, a2, frozen_of_row _ _ _ _ _ h.box, frozen_of_row _ _ _ _ _ h.box, b1, b2, frozen_of_row _ _ _ _ _ h.res, frozen_of_row _ _ _ _ _ h.res⟩
/-- the row of which a plot is drawn -/
theorem six_at (w : World) (x : Int) (h0 : 0 ≤ x) (h5 : x ≤ 5) : ∃ p : Int, (p = 0 ∨ p = 1 ∨ p = 2) ∧ (w.alloc (.cells #[.int .i64 0, .int .i64 0, .int .i64 0, .int .i64 1, .int .i64 1, .int .i64 2] 3)).cell? ⟨w.heap.size, x.toNat, none⟩ = some (.int .i64 p) := by
  have h := heap_alloc_last w (.cells #[.int .i64 0, .int .i64 0, .int .i64 0, .int .i64 1, .int .i64 1, .int .i64 2] 3)
  have hx : x = 0 ∨ x = 1 ∨ x = 2 ∨ x = 3 ∨ x = 4 ∨ x = 5 := by omega
  rcases hx with rfl | rfl | rfl | rfl | rfl | rfl
  · exact ⟨0, by omega, by rw [cell_of_row _ _ _ _ _ _ h]; rfl⟩
  · exact ⟨0, by omega, by rw [cell_of_row _ _ _ _ _ _ h]; rfl⟩
  · exact ⟨0, by omega, by rw [cell_of_row _ _ _ _ _ _ h]; rfl⟩
  · exact ⟨1, by omega, by rw [cell_of_row _ _ _ _ _ _ h]; rfl⟩
  · exact ⟨1, by omega, by rw [cell_of_row _ _ _ _ _ _ h]; rfl⟩
  · exact ⟨2, by omega, by rw [cell_of_row _ _ _ _ _ _ h]; rfl⟩
theorem cnt1_snoc (xs : List Int) (p : Int) : cnt1 (xs ++ [p]) = cnt1 xs + if p = 1 then 1 else 0 := by
  unfold cnt1; rw [List.countP_append]; congr 1; by_cases h : p = 1 <;> simp [h]
theorem cnt1_set0 : ∀ (xs : List Int) (i : Nat), cnt1 (xs.set i 0) ≤ cnt1 xs
  | [], _ => Nat.le_refl _
  | y :: ys, 0 => by unfold cnt1; simp [List.countP_cons]
  | y :: ys, i + 1 => by
    have := cnt1_set0 ys i
    unfold cnt1 at *
    simp only [List.set_cons_succ, List.countP_cons]
    omega
theorem MdW.put {w : World} {bl : Nat} {ma : Option Addr} {n mc R : Nat} {wd : Int} {xs : List Int} {g cp : Nat} {W : World} (h : MdW w bl ma n mc R wd xs (.slice (some ⟨g, 0, none⟩) xs.length cp) W) (hg : R + 1 ≤ g) {i : Nat} (hi : i < xs.length) (y : Int) :
    MdW w bl ma n mc R wd (xs.set i y) (.slice (some ⟨g, 0, none⟩) xs.length cp) (W.setCell ⟨g, i, none⟩ (.int .i64 y)) := by
  have hlt := h.lt
  have hblt := h.blt
  have hS : Hold (fun k => k ≠ g) W (W.setCell ⟨g, i, none⟩ (.int .i64 y)) := Hold.set _ _ _ _
  refine ⟨(Below.heap_setCell _ _ _ _ (show w.heap.size ≠ g by omega)).trans h.res, (Below.heap_setCell _ _ _ _ (show R ≠ g by omega)).trans h.box, ?_, h.bell.hold hS (by omega) (fun hn mb mo e => by have := h.mlt hn mb mo e; omega), ?_, h.lt, h.blt, h.mlt⟩
  · have := own_setCell_at h.own (i := i) (by simpa using hi) (.int .i64 y)
    rw [List.length_set, List.map_set]
    exact this
  · exact h.hold.low ((Below.refl w.heap.size W).setCell (p := ⟨g, i, none⟩) (by show w.heap.size ≤ g; omega) _) (Nat.le_refl _)
theorem MdW.made {w : World} {bl : Nat} {ma : Option Addr} {n mc R : Nat} {wd : Int} {xs : List Int} {v : Value} {W : World} (h : MdW w bl ma n mc R wd xs v W) (a b : Value) :
    ((W.setCell ⟨w.heap.size, 0, none⟩ a).setCell ⟨w.heap.size, 1, none⟩ b).ownsRow w.heap.size 32 1 v xs.length (xs.map (Value.int .i64)) ∧ BellOk ((W.setCell ⟨w.heap.size, 0, none⟩ a).setCell ⟨w.heap.size, 1, none⟩ b) bl ma n mc ∧ Hold (fun k => k ≠ bl) w ((W.setCell ⟨w.heap.size, 0, none⟩ a).setCell ⟨w.heap.size, 1, none⟩ b) := by
  have hlt := h.lt
  have hblt := h.blt
  have hS : Hold (fun k => k ≠ w.heap.size) W ((W.setCell ⟨w.heap.size, 0, none⟩ a).setCell ⟨w.heap.size, 1, none⟩ b) := (Hold.set _ _ _ _).trans (Hold.set _ _ _ _)
  have hk : ∀ (W : World) (o : Nat) (u : Value), W.ownsRow (R + 1) 32 1 v xs.length (xs.map (Value.int .i64)) → (W.setCell ⟨w.heap.size, o, none⟩ u).ownsRow (R + 1) 32 1 v xs.length (xs.map (Value.int .i64)) := by
    intro W o u h
    refine h.kept (grown_set W w.heap.size o u) ?_
    rcases h.2 with ⟨h1, _⟩ | ⟨g, cap, cur, h1, hb', _⟩
    · exact .inl (by rw [h1]; rfl)
    · right; rw [h1]; show some g ≠ some w.heap.size; intro e; injection e; omega
  refine ⟨own_base (base := R + 1) (hk _ _ _ (hk _ _ _ h.own)) (by omega), h.bell.hold hS (by omega) (fun hn mb mo e => by have := h.mlt hn mb mo e; omega), ?_⟩
  exact h.hold.low (((Below.refl w.heap.size W).setCell (p := ⟨w.heap.size, 0, none⟩) (Nat.le_refl _) _).setCell (p := ⟨w.heap.size, 1, none⟩) (Nat.le_refl _) _) (Nat.le_refl _)
theorem made_check {x : Int} {xs : List Int} {k i : Nat} {y : Int} (x1 : 1 ≤ x) (x6 : x ≤ 6) (hl : xs.length = k) (h1 : 1 ≤ k) (h24 : k ≤ 24) (hyx : y * x = k) (hc : cnt1 xs ≤ 10) (hk : ∀ z ∈ xs, z = 0 ∨ z = 1 ∨ z = 2) : checkErr x (xs.set i 0) = 0 := by
  have hm : (((xs.set i 0).length : Nat) : Int) % x = 0 := by
    rw [List.length_set, hl, ← hyx]; exact Int.mul_emod_left _ _
  have hb : (xs.set i 0).any badPlot = false := by
    rw [List.any_eq_false]
    intro z hz
    rcases List.mem_or_eq_of_mem_set hz with h | h
    · have := hk z h; simp [badPlot]; omega
    · subst h; simp [badPlot]
  have hc2 := cnt1_set0 xs i
  have hll : (xs.set i 0).length = k := by rw [List.length_set, hl]
  unfold checkErr
  rw [if_neg (by omega), hb]
  simp only [Bool.false_eq_true, if_false]
  rw [if_neg (by omega)]
/-- what Made leaves -/
def MadePost (w : World) (bl : Nat) (ma : Option Addr) (n mc : Nat) (most : Nat) (e : Ending) (w' : World) : Prop :=
  ∃ (t : Hr.Town) (v : Value) (p : Nat), e = .returned (.agg #[.int .i64 t.wide, v]) ∧ w'.ownsRow w.heap.size 32 1 v t.plots.length (t.plots.map (Value.int .i64)) ∧ checkErr t.wide t.plots = 0 ∧ t.len ≤ most ∧ p < t.len ∧ t.at p = 0 ∧ BellOk w' bl ma n mc ∧ Hold (fun k => k ≠ bl) w w'
set_option maxHeartbeats 1000000 in
set_option maxRecDepth 100000 in
theorem made_any (bl : Nat) (ma : Option Addr) (n mc : Nat) (most : Nat) (h6 : 6 ≤ most) (h24 : most ≤ 24) (w : World) (hb : BellOk w bl ma n mc) (hma : n ≠ 0 → ∀ mb mo, ma = some ⟨mb, mo, none⟩ → mb < w.heap.size) :
    Calls Tryz.prog 16 #[.pointer (some ⟨bl, 0, none⟩), .int .i64 most] w (MadePost w bl ma n mc most) := by
  obtain ⟨i0, hi, hz0, hz1, hz2⟩ := info_parts A_info_plot
  have HB := Lib.hid (hb.below (below1 w (.cells #[.int .i64 0, .slice none 0 0] 25)))
  have hl := hb.lt
  have HMA := Lib.hid hma
  have hm24 : (most : Int) ≤ 24 := by omega
  have hm6 : (6 : Int) ≤ most := by omega
  clear hb hma
  go_enter Tryz.func16, Tryz.ntmps16
  go_wp2_with fail
  refine (strike_any bl ma n mc 1 6 5 (by omega) (by omega) (by omega) (by omega) _ HB.out).mono ?_
  rintro e w1 ⟨x, x1, x6, rfl, hB, hH⟩
  have HB1 := Lib.hid hB
  have HH1 := Lib.hid hH
  have hz := hH.size
  rw [World.size_alloc] at hz
  have hx0 : (x == 0) = false := by simp; omega
  have hd0 : 0 ≤ (most : Int) / x := Int.ediv_nonneg (by omega) (by omega)
  have hd1 : (most : Int) / x ≤ 24 := by have := Int.ediv_le_self (a := (most : Int)) x (by omega); omega
  have hdm : (most : Int) / x * x ≤ most := Int.ediv_mul_le _ (by omega)
  obtain ⟨q, hq⟩ : ∃ q, q = (most : Int) / x := ⟨_, rfl⟩
  have hq0 : 0 ≤ q := by rw [hq]; exact hd0
  have hq1 : q ≤ 24 := by rw [hq]; exact hd1
  have hqm : q * x ≤ most := by rw [hq]; exact hdm
  clear hdm
  have HQ := Lib.hid hq
  have hW2 : MdW w bl ma n mc w1.heap.size x [] (.slice none 0 0) (w1.alloc (.cells #[.int .i64 x, .slice none 0 0] 25)) := by
    refine ⟨(Below.heap_alloc _ _ _ (by omega)).trans ((hH.same _ (show w.heap.size ≠ bl by omega) (by simp)).trans (heap_alloc_last _ _)), heap_alloc_last _ _, own_none _ _ _ _, hB.below (below1 _ _), ?_, by omega, hl, HMA.out⟩
    exact ((Hold.alloc w _).trans hH).trans (Hold.alloc w1 _)
  have HW2 := Lib.hid hW2
  clear hB hH hq hW2 HB HB1 HH1
  go_wp2_with fail
  rw [← HQ.out]
  clear hd0 hd1
  refine (strike_any bl ma n mc 1 (max 1 q) (max 1 q - 1).toNat (by omega) (by omega) (by omega) (by omega) _ HW2.out.bell).mono ?_
  rintro e w3 ⟨y, y1, y2, rfl, hB, hH⟩
  have hW3 := HW2.out.ring hB hH
  have HW3 := Lib.hid hW3
  have hyx0 : 1 ≤ y * x := by have := Int.mul_le_mul (show 1 ≤ y by omega) (show 1 ≤ x by omega) (by omega) (by omega); omega
  have hyx1 : y * x ≤ most := by
    by_cases h1 : y ≤ q
    · have := Int.mul_le_mul_of_nonneg_right h1 (show 0 ≤ x by omega); omega
    · have : y = 1 := by omega
      subst this; omega
  obtain ⟨N, hN⟩ : ∃ N : Nat, y * x = N := ⟨(y * x).toNat, by omega⟩
  have HN := Lib.hid hN
  obtain ⟨k1, k2, k3, k4, k5, k6, k7, k8⟩ := hW3.load
  have hN24 : N ≤ 24 := by omega
  have hN1 : 1 ≤ N := by omega
  have hyx2 : y * x ≤ 24 := by omega
  clear hB hH hW3 HW2 hN
  go_wp2_with fail
  rw [HN.out]
  have HYX := Lib.hid hyx1
  clear k1 k2 k3 k4 k5 k6 k7 k8 hyx0 hyx1 hyx2
  go_loopw [7, 8, 23] (fun lf pv i wr => ∃ (k a : Nat) (xs : List Int) (v : Value), k ≤ N ∧ i = .int .i64 k ∧ lf = .int .i64 (10 - a) ∧ a ≤ k ∧ xs.length = k ∧ (cnt1 xs = if a ≤ 10 then a else 10) ∧ (∀ z ∈ xs, z = 0 ∨ z = 1 ∨ z = 2) ∧ MdW w bl ma n mc w1.heap.size x xs v wr) (fun _ _ i _ => N - (intOf i).toNat)
  case atStart => exact ⟨0, 0, [], _, Nat.zero_le _, rfl, rfl, Nat.le_refl _, rfl, rfl, (fun z hz => by cases hz), HW3.out⟩
  case round =>
    obtain ⟨k, a, xs, v, hk, rfl, rfl, hak, hxl, hcnt, hkd, hW⟩ := hrel
    have HW := Lib.hid hW
    have HXL := Lib.hid hxl
    have HCNT := Lib.hid hcnt
    have HKD := Lib.hid hkd
    by_cases hlt : k < N
    · have hlt' : (k : Int) < N := by omega
      have hsix := six_at wr
      have HSIX := Lib.hid hsix
      have hak' : (a : Int) ≤ 30 := by omega
      have HBL := Lib.hid (hW.below (below1 wr (.cells #[.int .i64 0, .int .i64 0, .int .i64 0, .int .i64 1, .int .i64 1, .int .i64 2] 3)))
      clear hW hxl hcnt hkd hsix HW3
      go_wp2_with fail
      refine (stroke_any bl ma n mc 5 (by omega) _ HBL.out.bell).mono ?_
      rintro e w5 ⟨z, z0, z5, rfl, hB, hH⟩
      obtain ⟨p, hp, hc⟩ := HSIX.out z z0 z5
      have hW5 := HBL.out.ring hB hH
      have hwl := hW5.size
      have hwz : wr.heap.size < w5.heap.size := Nat.lt_of_lt_of_le (by simp) hH.size
      have hc5 := (hH.cell (p := ⟨wr.heap.size, z.toNat, none⟩) (by show wr.heap.size ≠ bl; have := HW.out.hold.size; omega) (by simp)).trans hc
      have hz6 : z < 6 := by omega
      have HW5 := Lib.hid hW5
      obtain ⟨k1, k2, k3, k4, k5, k6, k7, k8⟩ := hW5.load
      have HWZ := Lib.hid hwz
      clear hB hH hc hW5 HBL HSIX hwl
      -- what is appended
      have fin : True := trivial
      by_cases hp1 : p = 1
      · subst hp1
        by_cases ha : a < 10
        · have hnl : ¬ ((10 : Int) - a - 1 < 0) := by omega
          go_wp2_with (at_builtin; refine wpList_append_own _ rfl _ _ 23 rfl (w1.heap.size + 1) 32 i0 (.int .i64 0) 1 8 A_und_plot hi hz0 hz1 hz2 rfl (by decide) _ _ _ rfl (HW5.out.own.alloc _) ⟨w5.heap.size, 0, none⟩ 1 1 [.int .i64 1] rfl rfl ?c1 ?c2 ?c3 ?c4 ?c5 ?_)
          case c1 =>
            intro j u hj
            cases j with
            | zero => simp at hj; subst hj; exact (cell_of_row _ _ _ _ _ _ (heap_alloc_last _ _)).trans rfl
            | succ j => simp at hj
          case c2 => intro u hu; rw [List.mem_singleton.1 hu]; rfl
          case c3 => rw [HXL.out]; unfold maxLen; omega
          case c4 => rw [HXL.out]; omega
          case c5 => have := HW5.out.size; simp; omega
          intro v' w7 hown7 hgrow _
          obtain ⟨ob7, cp7, rfl⟩ := own_slice hown7
          obtain ⟨hD7, hc7, hf7⟩ := (HW5.out.below (below1 w5 (.cells #[.int .i64 1] 32))).app hgrow hown7
          have HD7 := Lib.hid hD7
          clear hown7 hgrow hD7
          go_wp2
          go_roundw
          case rel => exact ⟨k + 1, a + 1, xs ++ [1], _, by omega, by simp, by first | rfl | (congr 1; push_cast; omega), by omega, by rw [List.length_append, HXL.out]; rfl, by rw [cnt1_snoc, HCNT.out, if_pos (show a ≤ 10 by omega), if_pos rfl, if_pos (by omega)], fun z hz => by rcases List.mem_append.1 hz with h | h; exact HKD.out z h; rw [List.mem_singleton.1 h]; omega, HD7.out⟩
          case measure => simp [intOf]; omega
        · have hnl : (10 : Int) - a - 1 < 0 := by omega
          go_wp2_with (at_builtin; refine wpList_append_own _ rfl _ _ 23 rfl (w1.heap.size + 1) 32 i0 (.int .i64 0) 1 8 A_und_plot hi hz0 hz1 hz2 rfl (by decide) _ _ _ rfl (HW5.out.own.alloc _) ⟨w5.heap.size, 0, none⟩ 1 1 [.int .i64 0] rfl rfl ?c1 ?c2 ?c3 ?c4 ?c5 ?_)
          case c1 =>
            intro j u hj
            cases j with
            | zero => simp at hj; subst hj; exact (cell_of_row _ _ _ _ _ _ (heap_alloc_last _ _)).trans rfl
            | succ j => simp at hj
          case c2 => intro u hu; rw [List.mem_singleton.1 hu]; rfl
          case c3 => rw [HXL.out]; unfold maxLen; omega
          case c4 => rw [HXL.out]; omega
          case c5 => have := HW5.out.size; simp; omega
          intro v' w7 hown7 hgrow _
          obtain ⟨ob7, cp7, rfl⟩ := own_slice hown7
          obtain ⟨hD7, hc7, hf7⟩ := (HW5.out.below (below1 w5 (.cells #[.int .i64 0] 32))).app hgrow hown7
          have HD7 := Lib.hid hD7
          clear hown7 hgrow hD7
          go_wp2
          go_roundw
          case rel => exact ⟨k + 1, a + 1, xs ++ [0], _, by omega, by simp, by first | rfl | (congr 1; push_cast; omega), by omega, by rw [List.length_append, HXL.out]; rfl, by rw [cnt1_snoc, HCNT.out, if_neg (show ¬ (0 : Int) = 1 by decide), if_neg (show ¬ a + 1 ≤ 10 by omega)]; split <;> omega, fun z hz => by rcases List.mem_append.1 hz with h | h; exact HKD.out z h; rw [List.mem_singleton.1 h]; omega, HD7.out⟩
          case measure => simp [intOf]; omega
      · have hp1' : (p == 1) = false := by simpa using hp1
        go_wp2_with (at_builtin; refine wpList_append_own _ rfl _ _ 23 rfl (w1.heap.size + 1) 32 i0 (.int .i64 0) 1 8 A_und_plot hi hz0 hz1 hz2 rfl (by decide) _ _ _ rfl (HW5.out.own.alloc _) ⟨w5.heap.size, 0, none⟩ 1 1 [.int .i64 p] rfl rfl ?c1 ?c2 ?c3 ?c4 ?c5 ?_)
        case c1 =>
          intro j u hj
          cases j with
          | zero => simp at hj; subst hj; exact (cell_of_row _ _ _ _ _ _ (heap_alloc_last _ _)).trans rfl
          | succ j => simp at hj
        case c2 => intro u hu; rw [List.mem_singleton.1 hu]; rfl
        case c3 => rw [HXL.out]; unfold maxLen; omega
        case c4 => rw [HXL.out]; omega
        case c5 => have := HW5.out.size; simp; omega
        intro v' w7 hown7 hgrow _
        obtain ⟨ob7, cp7, rfl⟩ := own_slice hown7
        obtain ⟨hD7, hc7, hf7⟩ := (HW5.out.below (below1 w5 (.cells #[.int .i64 p] 32))).app hgrow hown7
        have HD7 := Lib.hid hD7
        clear hown7 hgrow hD7
        go_wp2
        go_roundw
        case rel => exact ⟨k + 1, a, xs ++ [p], _, by omega, by simp, by first | rfl | (congr 1; push_cast; omega), by omega, by rw [List.length_append, HXL.out]; rfl, by rw [cnt1_snoc, HCNT.out, if_neg hp1]; rfl, fun z hz => by rcases List.mem_append.1 hz with h | h; exact HKD.out z h; rw [List.mem_singleton.1 h]; omega, HD7.out⟩
        case measure => simp [intOf]; omega
    · obtain rfl : k = N := by omega
      clear HW3
      obtain ⟨k1, k2, k3, k4, k5, k6, k7, k8⟩ := hW.load
      have hxne : xs ≠ [] := by rintro rfl; simp at hxl; omega
      obtain ⟨g, cp, rfl, hgb, hgi, hcp, hmx, hfz⟩ := own_ints rfl hW.own hxne
      rw [hxl] at k2
      have hblt := hW.blt
      have hRl := hW.lt
      have hgl := hgi.1
      have hcz : ∀ z : Int, 0 ≤ z → z ≤ k - 1 → ∀ W, Hold (fun k => k ≠ bl) wr W → (∃ u, W.cell? ⟨g, z.toNat, none⟩ = some (.int .i64 u)) ∧ W.frozen? ⟨g, z.toNat, none⟩ = false ∧ W.cell? ⟨w1.heap.size, 1, none⟩ = some (.slice (some ⟨g, 0, none⟩) k cp) := fun z z0 z1 W hh => by
        have h1 := hgi.2 z.toNat (by omega)
        rw [Nat.zero_add] at h1
        refine ⟨⟨_, (hh.cell (p := ⟨g, z.toNat, none⟩) (by show g ≠ bl; omega) hgl).trans h1⟩, ?_, (hh.cell (p := ⟨w1.heap.size, 1, none⟩) (by show w1.heap.size ≠ bl; omega) hW.size).trans k2⟩
        have := hh.same g (by show g ≠ bl; omega) hgl
        have h2 := hfz z.toNat
        unfold World.frozen? at h2 ⊢
        rw [this]; exact h2
      have HCZ := Lib.hid hcz
      have HBK : Hid (∀ W : World, W.heap = wr.heap → BellOk W bl ma n mc) := Lib.hid (fun W e => by
        obtain ⟨a, t, h⟩ := hW.bell
        refine ⟨a, t, by rw [e]; exact h.box, h.le, h.big, h.turn0, h.turn1, fun hn => ?_⟩
        obtain ⟨mb, mo, e1, l, ne, hc⟩ := h.metal hn
        exact ⟨mb, mo, e1, by rw [e]; exact l, ne, fun i hi => by obtain ⟨x, x0, x1, hx⟩ := hc i hi; exact ⟨x, x0, x1, by unfold World.cell? at hx ⊢; rw [e]; exact hx⟩⟩)
      have hNN : ((k : Int) - 1) = ((k - 1 : Nat) : Int) := by omega
      have hwr : IntKind.i64.wrap ((k : Int) - 1) = ((k - 1 : Nat) : Int) := by rw [hNN]; exact IntWalk.i64_in _ (by omega)
      clear hW hxl hcnt hkd hcz hNN hxne hgi hfz
      go_wp2_with fail
      go_region_with (first | (go_at_call 69; refine (stroke_any bl ma n mc (k - 1) (by omega) _ (by exact HBK.out _ rfl)).mono ?_; rintro e w5 ⟨z, z0, z1, rfl, hB, hH⟩; obtain ⟨⟨u, q0⟩, q1, q2⟩ := HCZ.out z z0 (by omega) w5 ⟨hH.os, hH.tape, hH.output, hH.size, hH.same⟩; have hgl5 := Nat.lt_of_lt_of_le hgl hH.size; have hzN : z < k := (by omega)))
      all_goals
        have hW5 := HW.out.ring hB ⟨hH.os, hH.tape, hH.output, hH.size, hH.same⟩
        have hzn : z.toNat < xs.length := by rw [HXL.out]; omega
        have hW6 := hW5.put (by omega) hzn 0
        rw [HXL.out] at hW6
        have HW6 := Lib.hid hW6
        have hlx : (xs.set z.toNat 0).length = k := by rw [List.length_set]; exact HXL.out
        have HLX := Lib.hid hlx
        obtain ⟨e1, e2, e3, e4, e5, e6, e7, e8⟩ := hW6.load
        have HCK := Lib.hid (made_check (i := z.toNat) x1 x6 HXL.out hN1 hN24 HN.out (by rw [HCNT.out]; split <;> omega) HKD.out)
        have HZN := Lib.hid hzn
        clear hW5 hW6 hB hH hlx hzn q0 q1 q2 hwr
        go_wp2_with fail
        have hfin := HW6.out.made (.int .i64 x) (.slice (some ⟨g, 0, none⟩) k cp)
        refine bodyPost_ret (v := .agg #[.int .i64 x, .slice (some ⟨g, 0, none⟩) k cp]) (by simp [results, Tryz.results16, go_sem, e5, e6]) rfl ?_
        have hx' : ((x.toNat : Nat) : Int) = x := by omega
        refine ⟨⟨x.toNat, xs.set z.toNat 0⟩, .slice (some ⟨g, 0, none⟩) k cp, z.toNat, by simp only [hx'], hfin.1, by simp only [hx']; exact HCK.out, ?_, ?_, ?_, hfin.2.1, hfin.2.2⟩
        · show (xs.set z.toNat 0).length ≤ most
          rw [HLX.out]; have := HN.out; have := HYX.out; omega
        · show z.toNat < (xs.set z.toNat 0).length
          rw [HLX.out]; omega
        · show (xs.set z.toNat 0).getD z.toNat 0 = 0
          rw [Hr.getD_set _ _ _ _ HZN.out, if_pos rfl]
end Go.Proofs.YtimedmkpenbmkaaGreat
end
section
namespace Go.Proofs.YtimedmkpenbmkaaGreat
open Go.RowKit Go.Shelf
set_option linter.unusedSimpArgs false
set_option linter.unusedVariables false
/-- the plots of a kind -/
def kindTo (xs : List Int) (kind : Int) (k : Nat) : List Int := ((List.range k).filter fun p => xs.getD p 0 == kind).map fun (p : Nat) => (p : Int)
def kindIdx (xs : List Int) (kind : Int) : List Int := kindTo xs kind xs.length
theorem kindTo_yes {xs : List Int} {kind : Int} {k : Nat} (e : (xs.getD k 0 == kind) = true) : kindTo xs kind (k + 1) = kindTo xs kind k ++ [(k : Int)] := by
  unfold kindTo; rw [List.range_succ, List.filter_append, List.filter_cons, if_pos e]; simp
theorem kindTo_no {xs : List Int} {kind : Int} {k : Nat} (e : (xs.getD k 0 == kind) = false) : kindTo xs kind (k + 1) = kindTo xs kind k := by
  unfold kindTo; rw [List.range_succ, List.filter_append, List.filter_cons, if_neg (by rw [e]; simp)]; simp
theorem kindTo_len (xs : List Int) (kind : Int) (k : Nat) : (kindTo xs kind k).length ≤ k := by
  unfold kindTo
  have := List.length_filter_le (fun p => xs.getD p 0 == kind) (List.range k)
  simp at this ⊢; omega
theorem mem_kindIdx {xs : List Int} {kind x : Int} : x ∈ kindIdx xs kind ↔ ∃ p : Nat, x = p ∧ p < xs.length ∧ xs.getD p 0 = kind := by
  unfold kindIdx kindTo
  rw [List.mem_map]
  constructor
  · rintro ⟨p, hp, rfl⟩
    rw [List.mem_filter, List.mem_range, beq_iff_eq] at hp
    exact ⟨p, rfl, hp.1, hp.2⟩
  · rintro ⟨p, rfl, h1, h2⟩
    exact ⟨p, by rw [List.mem_filter, List.mem_range, beq_iff_eq]; exact ⟨h1, h2⟩, rfl⟩
set_option maxHeartbeats 1000000 in
set_option maxRecDepth 100000 in
theorem streets_any (wd : Int) (a : Option Addr) (cap : Nat) (xs : List Int) (hl : xs.length ≤ 1000000) (w : World) (hR : RdI w (.slice a xs.length cap) xs) :
    Calls Tryz.prog 81 #[.agg #[.int .i64 wd, .slice a xs.length cap]] w fun e w' => ∃ v, e = .returned v ∧ w'.ownsRow w.heap.size 3 1 v (kindIdx xs 0).length ((kindIdx xs 0).map (Value.int .i64)) ∧ Below w.heap.size w w' := by
  obtain ⟨i0, hi, hz0, hz1, hz2⟩ := info_parts A_info3
  have HB := Lib.hid (below1 w (.cells #[.int .i64 wd, .slice a xs.length cap] 25))
  have hx0 : (w.alloc (.cells #[.int .i64 wd, .slice a xs.length cap] 25)).heap[w.heap.size]? = some (.cells #[.int .i64 wd, .slice a xs.length cap] 25 (0, 0)) := heap_alloc_last _ _
  obtain ⟨k0, k1⟩ := blk_cells2 hx0
  have HR := Lib.hid (hR.below HB.out)
  obtain ⟨W1, hW1⟩ : ∃ W1, W1 = w.alloc (.cells #[.int .i64 wd, .slice a xs.length cap] 25) := ⟨_, rfl⟩
  rw [← hW1] at HB HR
  clear hR hx0
  go_enter Tryz.func81, Tryz.ntmps81
  go_wp2_with fail
  rw [← hW1]
  clear k0 k1 hW1
  go_loopw [3, 4, 5, 9] (fun v u u' i wr => ∃ k : Nat, k ≤ xs.length ∧ i = .int .i64 k ∧ wr.ownsRow W1.heap.size 3 1 v (kindTo xs 0 k).length ((kindTo xs 0 k).map (Value.int .i64)) ∧ Below W1.heap.size W1 wr) (fun _ _ _ i _ => xs.length - (intOf i).toNat)
  case atStart => exact ⟨0, Nat.zero_le _, rfl, own_none _ _ _ _, Below.refl _ _⟩
  case round =>
    obtain ⟨k, hk, rfl, hown, hBr⟩ := hrel
    have HO := Lib.hid hown
    have HBr := Lib.hid hBr
    have hlen := kindTo_len xs 0 k
    by_cases hlt : k < xs.length
    · have hne : xs ≠ [] := by rintro rfl; simp at hlt
      obtain ⟨b, o, rfl, _, hI⟩ := rd_ints HR.out hne
      have cp := (hI.below hBr hI.1).2 k hlt
      have hbr := Nat.lt_of_lt_of_le hI.1 hBr.size
      have hk' : (k : Int) < xs.length := by omega
      obtain ⟨x, hx⟩ : ∃ x, xs.getD k 0 = x := ⟨_, rfl⟩
      rw [hx] at cp
      have HX := Lib.hid hx
      have hz7 := hBr.size
      clear hx hown hI hBr
      by_cases hx1 : x = 0
      · subst hx1
        have HYES : Hid ((xs.getD k 0 == 0) = true) := Lib.hid (by rw [HX.out]; rfl)
        go_wp2_with (at_builtin; refine wpList_append_own _ rfl _ _ 22 rfl W1.heap.size 3 i0 (.int .i64 0) 1 8 A_und31 hi hz0 hz1 hz2 rfl (by decide) _ _ _ rfl (HO.out.alloc _) ⟨wr.heap.size, 0, none⟩ 1 1 [.int .i64 (k : Int)] rfl rfl ?d1 ?d2 ?d3 ?d4 ?d5 ?_)
        case d2 => first | rfl | (intro u hu; simp at hu; subst hu; rfl)
        case d3 => unfold maxLen; omega
        case d4 => omega
        case d5 => first | omega | (simp; omega)
        intro v' w8 hown8 hgrow _
        have hB8 := below_grown (al2 HBr.out (by omega) _) (HO.out.alloc _) (Nat.le_refl _) (by simp; omega) hgrow
        have HO8 := Lib.hid hown8
        have HB8 := Lib.hid hB8
        clear hgrow hown8 hB8
        go_wp2
        go_roundw
        case rel => exact ⟨k + 1, by omega, by simp, by rw [kindTo_yes HYES.out]; simpa using HO8.out, HB8.out⟩
        case measure => simp [intOf]; omega
      · have hx1' : (x == 0) = false := by simpa using hx1
        have HNO : Hid ((xs.getD k 0 == 0) = false) := Lib.hid (by rw [HX.out]; exact hx1')
        clear hx1
        go_wp2
        go_roundw
        case rel => exact ⟨k + 1, by omega, by simp, by rw [kindTo_no HNO.out]; exact HO.out, HBr.out⟩
        case measure => simp [intOf]; omega
    · have hkk : k = xs.length := by omega
      subst hkk
      clear hown hBr
      go_wp2
      go_ret
      exact ⟨_, rfl, own_base HO.out HB.out.size, join HB.out HBr.out⟩
set_option maxHeartbeats 1000000 in
set_option maxRecDepth 100000 in
theorem houses_any (wd : Int) (a : Option Addr) (cap : Nat) (xs : List Int) (hl : xs.length ≤ 1000000) (w : World) (hR : RdI w (.slice a xs.length cap) xs) :
    Calls Tryz.prog 18 #[.agg #[.int .i64 wd, .slice a xs.length cap]] w fun e w' => ∃ v, e = .returned v ∧ w'.ownsRow w.heap.size 3 1 v (kindIdx xs 1).length ((kindIdx xs 1).map (Value.int .i64)) ∧ Below w.heap.size w w' := by
  obtain ⟨i0, hi, hz0, hz1, hz2⟩ := info_parts A_info3
  have HB := Lib.hid (below1 w (.cells #[.int .i64 wd, .slice a xs.length cap] 25))
  have hx0 : (w.alloc (.cells #[.int .i64 wd, .slice a xs.length cap] 25)).heap[w.heap.size]? = some (.cells #[.int .i64 wd, .slice a xs.length cap] 25 (0, 0)) := heap_alloc_last _ _
  obtain ⟨k0, k1⟩ := blk_cells2 hx0
  have HR := Lib.hid (hR.below HB.out)
  obtain ⟨W1, hW1⟩ : ∃ W1, W1 = w.alloc (.cells #[.int .i64 wd, .slice a xs.length cap] 25) := ⟨_, rfl⟩
  rw [← hW1] at HB HR
  clear hR hx0
  go_enter Tryz.func18, Tryz.ntmps18
  go_wp2_with fail
  rw [← hW1]
  clear k0 k1 hW1
  go_loopw [3, 4, 5, 9] (fun v u u' i wr => ∃ k : Nat, k ≤ xs.length ∧ i = .int .i64 k ∧ wr.ownsRow W1.heap.size 3 1 v (kindTo xs 1 k).length ((kindTo xs 1 k).map (Value.int .i64)) ∧ Below W1.heap.size W1 wr) (fun _ _ _ i _ => xs.length - (intOf i).toNat)
  case atStart => exact ⟨0, Nat.zero_le _, rfl, own_none _ _ _ _, Below.refl _ _⟩
  case round =>
    obtain ⟨k, hk, rfl, hown, hBr⟩ := hrel
    have HO := Lib.hid hown
    have HBr := Lib.hid hBr
    have hlen := kindTo_len xs 1 k
    by_cases hlt : k < xs.length
    · have hne : xs ≠ [] := by rintro rfl; simp at hlt
      obtain ⟨b, o, rfl, _, hI⟩ := rd_ints HR.out hne
      have cp := (hI.below hBr hI.1).2 k hlt
      have hbr := Nat.lt_of_lt_of_le hI.1 hBr.size
      have hk' : (k : Int) < xs.length := by omega
      obtain ⟨x, hx⟩ : ∃ x, xs.getD k 0 = x := ⟨_, rfl⟩
      rw [hx] at cp
      have HX := Lib.hid hx
      have hz7 := hBr.size
      clear hx hown hI hBr
      by_cases hx1 : x = 1
      · subst hx1
        have HYES : Hid ((xs.getD k 0 == 1) = true) := Lib.hid (by rw [HX.out]; rfl)
        go_wp2_with (at_builtin; refine wpList_append_own _ rfl _ _ 22 rfl W1.heap.size 3 i0 (.int .i64 0) 1 8 A_und31 hi hz0 hz1 hz2 rfl (by decide) _ _ _ rfl (HO.out.alloc _) ⟨wr.heap.size, 0, none⟩ 1 1 [.int .i64 (k : Int)] rfl rfl ?d1 ?d2 ?d3 ?d4 ?d5 ?_)
        case d2 => first | rfl | (intro u hu; simp at hu; subst hu; rfl)
        case d3 => unfold maxLen; omega
        case d4 => omega
        case d5 => first | omega | (simp; omega)
        intro v' w8 hown8 hgrow _
        have hB8 := below_grown (al2 HBr.out (by omega) _) (HO.out.alloc _) (Nat.le_refl _) (by simp; omega) hgrow
        have HO8 := Lib.hid hown8
        have HB8 := Lib.hid hB8
        clear hgrow hown8 hB8
        go_wp2
        go_roundw
        case rel => exact ⟨k + 1, by omega, by simp, by rw [kindTo_yes HYES.out]; simpa using HO8.out, HB8.out⟩
        case measure => simp [intOf]; omega
      · have hx1' : (x == 1) = false := by simpa using hx1
        have HNO : Hid ((xs.getD k 0 == 1) = false) := Lib.hid (by rw [HX.out]; exact hx1')
        clear hx1
        go_wp2
        go_roundw
        case rel => exact ⟨k + 1, by omega, by simp, by rw [kindTo_no HNO.out]; exact HO.out, HBr.out⟩
        case measure => simp [intOf]; omega
    · have hkk : k = xs.length := by omega
      subst hkk
      clear hown hBr
      go_wp2
      go_ret
      exact ⟨_, rfl, own_base HO.out HB.out.size, join HB.out HBr.out⟩
end Go.Proofs.YtimedmkpenbmkaaGreat
end
section
namespace Go.Proofs.YtimedmkpenbmkaaGreat
open Go.RowKit Go.Shelf
set_option linter.unusedSimpArgs false
set_option linter.unusedVariables false
/-- the error of a town, an air and a plot of some kind -/
def atE (wd : Int) (xs : List Int) (wind voice p k : Int) : Int := if openErr wd xs wind voice ≠ 0 then openErr wd xs wind voice else plotErr xs p k
theorem atE_ok {wd : Int} {xs : List Int} {wind voice p k : Int} (h : atE wd xs wind voice p k = 0) : checkErr wd xs = 0 ∧ airErr wind voice = 0 ∧ plotErr xs p k = 0 := by
  unfold atE openErr at h
  by_cases h1 : checkErr wd xs = 0
  · by_cases h2 : airErr wind voice = 0
    · simp [h1, h2] at h; exact ⟨h1, h2, h⟩
    · simp [h1, h2] at h
  · simp [h1] at h
theorem openAt_bad (wd wind voice p k : Int) (a : Option Addr) (cap : Nat) (xs : List Int) (hl : xs.length ≤ 1000000) (w : World) (hR : RdI w (.slice a xs.length cap) xs) (h : atE wd xs wind voice p k ≠ 0) :
    Calls Tryz.prog 78 #[.agg #[.int .i64 wd, .slice a xs.length cap], .agg #[.int .i64 wind, .int .i64 voice], .int .i64 p, .int .i64 k] w fun e w' => e = .returned (.tuple #[zeroWork, .int .i64 (atE wd xs wind voice p k)]) ∧ Below w.heap.size w w' := by
  unfold atE at *
  by_cases h1 : openErr wd xs wind voice = 0
  · rw [if_neg (by rw [h1]; simp)] at h ⊢
    obtain ⟨h2, h3⟩ := openErr_ok h1
    have hne : xs ≠ [] := by rintro rfl; have := (check_len h2).2; simp at this
    obtain ⟨b, o, rfl, _, hI⟩ := rd_ints hR hne
    exact openAt_plot wd wind voice p k b o cap xs w (rd_plots hR hl) hI (by have := (check_len h2).1; omega) h2 h3 h
  · rw [if_pos h1]
    exact openAt_err wd wind voice p k a cap xs w (rd_plots hR hl) h1
/-- the houses that hear a stand -/
def housesTo (t : Hr.Town) (wind voice : Int) (s k : Nat) : List Int := ((List.range k).filter fun p => t.at p == 1 && hearB t wind voice p s).map fun (p : Nat) => (p : Int)
def housesOf (t : Hr.Town) (wind voice : Int) (s : Nat) : List Int := housesTo t wind voice s t.len
theorem housesTo_yes {t : Hr.Town} {wind voice : Int} {s k : Nat} (h : (t.at k == 1 && hearB t wind voice k s) = true) : housesTo t wind voice s (k + 1) = housesTo t wind voice s k ++ [(k : Int)] := by
  unfold housesTo; rw [List.range_succ, List.filter_append]; simp [h]
theorem housesTo_no {t : Hr.Town} {wind voice : Int} {s k : Nat} (h : (t.at k == 1 && hearB t wind voice k s) = false) : housesTo t wind voice s (k + 1) = housesTo t wind voice s k := by
  unfold housesTo; rw [List.range_succ, List.filter_append]; simp [h]
theorem housesTo_len (t : Hr.Town) (wind voice : Int) (s k : Nat) : (housesTo t wind voice s k).length ≤ k := by
  unfold housesTo
  have := List.length_filter_le (fun p => t.at p == 1 && hearB t wind voice p s) (List.range k)
  simp at this ⊢; omega
set_option maxHeartbeats 1000000 in
set_option maxRecDepth 100000 in
theorem Houses_no (wd wind voice s : Int) (a : Option Addr) (cap : Nat) (xs : List Int) (hl : xs.length ≤ 1000000) (w : World) (hR : RdI w (.slice a xs.length cap) xs) (h : atE wd xs wind voice s 0 ≠ 0) :
    Calls Tryz.prog 52 #[.agg #[.int .i64 wd, .slice a xs.length cap], .agg #[.int .i64 wind, .int .i64 voice], .int .i64 s] w fun e w' => e = .returned (.tuple #[.slice none 0 0, .int .i64 (atE wd xs wind voice s 0)]) ∧ Below w.heap.size w w' := by
  have HB := Lib.hid (al (below1 w (.cells #[.int .i64 wd, .slice a xs.length cap] 25)) (.cells #[.int .i64 wind, .int .i64 voice] 29))
  have HP := Lib.hid (openAt_bad wd wind voice s 0 a cap xs hl _ (hR.below HB.out) h)
  unfold zeroWork at HP
  generalize atE wd xs wind voice s 0 = E at h HP ⊢
  have h1 : (E != 0) = true := by simpa using h
  clear h hR
  go_enter Tryz.func52, Tryz.ntmps52
  go_wp2_with fail
  refine HP.out.mono ?_
  rintro e w1 ⟨rfl, hB⟩
  have HB1 := Lib.hid (join HB.out hB)
  clear hB HP
  go_wp2
  go_ret2
  exact ⟨rfl, by first | (with_reducible exact al HB1.out _) | (with_reducible refine setc6 HB1.out ?_; omega)⟩
set_option maxHeartbeats 2000000 in
set_option maxRecDepth 100000 in
theorem Houses_yes (t : Hr.Town) (ok : t.Ok) (wind voice : Int) (s : Nat) (h : atE t.wide t.plots wind voice s 0 = 0) (b o cap : Nat) (w : World) (hI : Ints w b o t.plots) :
    Calls Tryz.prog 52 #[.agg #[.int .i64 t.wide, .slice (some ⟨b, o, none⟩) t.plots.length cap], .agg #[.int .i64 wind, .int .i64 voice], .int .i64 s] w fun e w' => ∃ v, e = .returned (.tuple #[v, .int .i64 0]) ∧ w'.ownsRow w.heap.size 3 1 v (housesOf t wind voice s).length ((housesOf t wind voice s).map (Value.int .i64)) ∧ Below w.heap.size w w' := by
  obtain ⟨i0, hi, hz0, hz1, hz2⟩ := info_parts A_info3
  obtain ⟨hc, ha, hp⟩ := atE_ok h
  obtain ⟨w0, w4, v1, v40⟩ := wind_ok ha
  obtain ⟨s', hs', hs, hst⟩ := plot_ok hp
  obtain rfl : s = s' := by omega
  have h30 : t.plots.length ≤ 30 := ok.n30
  have HB := Lib.hid (al (below1 w (.cells #[.int .i64 t.wide, .slice (some ⟨b, o, none⟩) t.plots.length cap] 25)) (.cells #[.int .i64 wind, .int .i64 voice] 29))
  have hIb := hI.below HB.out hI.1
  have HP := Lib.hid (openAt_ok t.wide wind voice s 0 b o cap t.plots _ ⟨fun _ => ⟨b, o, rfl, hIb⟩, by omega⟩ hIb (by omega) hc ha hp)
  have HI := Lib.hid hI
  have hx0 : ((w.alloc (.cells #[.int .i64 t.wide, .slice (some ⟨b, o, none⟩) t.plots.length cap] 25)).alloc (.cells #[.int .i64 wind, .int .i64 voice] 29)).heap[w.heap.size]? = some (.cells #[.int .i64 t.wide, .slice (some ⟨b, o, none⟩) t.plots.length cap] 25 (0, 0)) := (Below.heap_alloc _ _ _ (by simp)).trans (heap_alloc_last _ _)
  have HX := Lib.hid hx0
  have HST := Lib.hid (show t.at s = 0 from hst)
  clear h hc ha hp hI hx0 hIb hst hs'
  go_enter Tryz.func52, Tryz.ntmps52
  go_wp2_with fail
  refine HP.out.mono ?_
  rintro e w1 ⟨r, rfl, hD, hr, hB⟩
  have hx1 := (hB.block w.heap.size (by simp; omega)).trans HX.out
  have HX1 := Lib.hid hx1
  have hlt : w.heap.size < w1.heap.size := (Array.getElem?_eq_some_iff.1 hx1).1
  have HB1 := Lib.hid (join HB.out hB)
  have hrl : r < w1.heap.size := dir_lt hD
  have HD := Lib.hid hD
  clear hB hD HP HB HX hx1 hr
  obtain ⟨T, hTN⟩ : ∃ T, T = t.needs wind s := ⟨_, rfl⟩
  have hTl : T.length = t.len := by rw [hTN]; exact needs_len ok wind hs
  have HTN := Lib.hid hTN
  have HTL := Lib.hid hTl
  have hs2 : s < t.len := hs
  clear hTN hTl
  go_wp2_with fail
  refine (needs_callT t ok wind voice w0 w4 b o cap r _ _ _ s hs T HTN.out w _ (al HB1.out _) HI.out (dir_al HD.out hrl _)).mono ?_
  rintro e w6 ⟨tb, rfl, HTB, htb, HB6⟩
  have hbx : w6.heap[w1.heap.size]? = some (.cells #[.int .i64 t.wide, .slice (some ⟨b, o, none⟩) t.plots.length cap, .int .i64 wind, .int .i64 voice, .map (some r), .func (.func 121) #[] #[]] 117 (0, 0)) := (HB6.out.block _ (by simp)).trans (heap_alloc_last _ _)
  have hbt : w6.heap[w.heap.size]? = some (.cells #[.int .i64 t.wide, .slice (some ⟨b, o, none⟩) t.plots.length cap] 25 (0, 0)) := (HB6.out.block _ (by simp; omega)).trans ((Below.heap_alloc _ _ _ hlt).trans HX1.out)
  have HB2 := Lib.hid (join (al HB1.out _) HB6.out)
  have HBX := Lib.hid hbx
  have HBT := Lib.hid hbt
  have HI6 := Lib.hid (HI.out.below HB2.out HI.out.1)
  obtain ⟨k0, k1⟩ := blk_cells2 hbt
  clear HB6 htb hbx hbt HI HB1 HX1 HD hrl
  go_wp2
  go_loopw [11, 12, 29] (fun v u i wr => ∃ k : Nat, k ≤ t.len ∧ i = .int .i64 k ∧ wr.ownsRow w6.heap.size 3 1 v (housesTo t wind voice s k).length ((housesTo t wind voice s k).map (Value.int .i64)) ∧ Below w6.heap.size w6 wr) (fun _ _ i _ => t.len - (intOf i).toNat)
  case atStart => exact ⟨0, Nat.zero_le _, rfl, own_none _ _ _ _, Below.refl _ _⟩
  case round =>
    obtain ⟨k, hk, rfl, hown, hBr⟩ := hrel
    have HO := Lib.hid hown
    have hlen := housesTo_len t wind voice s k
    by_cases hlt : k < t.len
    · have hcr := Nat.lt_of_lt_of_le (Array.getElem?_eq_some_iff.1 HBX.out).1 hBr.size
      have hlr := Nat.lt_of_lt_of_le (Array.getElem?_eq_some_iff.1 HBT.out).1 hBr.size
      have hbr := Nat.lt_of_lt_of_le HI6.out.1 hBr.size
      have htr := Nat.lt_of_lt_of_le HTB.out.lt hBr.size
      obtain ⟨c0, c1, c2, c3, c4, c5⟩ := voice_cells ((hBr.block _ (Array.getElem?_eq_some_iff.1 HBX.out).1).trans HBX.out)
      obtain ⟨k0, k1⟩ := blk_cells2 ((hBr.block _ (Array.getElem?_eq_some_iff.1 HBT.out).1).trans HBT.out)
      have cp := (HI6.out.below hBr HI6.out.1).2 k hlt
      have ct := (HTB.out.below hBr HTB.out.lt).cell (i := k) (by have := HTL.out; omega)
      obtain ⟨x, hx⟩ : ∃ x, t.plots.getD k 0 = x := ⟨_, rfl⟩
      obtain ⟨y, hy⟩ : ∃ y, T.getD k 0 = y := ⟨_, rfl⟩
      rw [hx] at cp
      rw [hy] at ct
      have hxx : t.at k = x := hx
      have hhb : hearB t wind voice k s = (y != -1 && decide (y ≤ voice)) := by
        unfold hearB; rw [← HTN.out, hy]; simp [hs2, HST.out]
      have hk' : (k : Int) < t.plots.length := by have : t.plots.length = t.len := rfl; omega
      have hkT : (k : Int) < T.length := by have := HTL.out; omega
      have HXX := Lib.hid hxx
      have HHB := Lib.hid hhb
      have HBr := Lib.hid hBr
      clear hx hy hxx hhb hown
      by_cases hx1 : x = 1
      · subst hx1
        go_wp2_with fail
        refine Rs.region_det 14 [[], [0], [], [0, 1, 2], [0, 1, 2, 3], [0, 1, 2, 3, 4], [0, 1, 2, 3, 4, 5], [0, 1, 2, 3, 4, 5, 6], [0, 1, 2, 3, 4, 5, 6], [0, 1, 2, 3, 4, 5, 6], [0, 1, 2, 3, 4, 5, 6, 8, 9], [0, 1, 2, 3, 4, 5, 6, 8, 9, 10], [0, 1, 2, 3, 4, 5, 6, 7, 8, 9, 10, 11], [0, 1, 2, 3, 4, 5, 6, 7, 8, 9, 10, 11, 12]] [some 32, some 33, some 34, some 35, some 36, some 37, some 38, some 39, some 40, some 41, some 42, some 43, some 44, some 45]
          (fun i => [.pointer (some ⟨w.heap.size, 1, none⟩), .slice (some ⟨b, o, none⟩) t.plots.length cap, .int .i64 k, .pointer (some ⟨b, o + k, none⟩), .int .i64 1, .bool true, .bool true, .agg #[.int .i64 t.wide, .slice (some ⟨b, o, none⟩) t.plots.length cap, .int .i64 wind, .int .i64 voice, .map (some r), .func (.func 121) #[] #[]], .slice (some ⟨tb, 0, none⟩) T.length T.length, .int .i64 k, .pointer (some ⟨tb, k, none⟩), .int .i64 y, .bool (y != -1 && decide (y ≤ voice)), .bool (y != -1 && decide (y ≤ voice))].getD i undef) (by kernel_rfl) (by kernel_rfl) rfl ?_ ?_
        · refine ⟨.plain rfl ?_, .plain rfl ?_, .plain rfl ?_, .plain rfl ?_, .plain rfl ?_, .plain rfl ?_, .plain rfl ?_, .plain rfl ?_, .plain rfl ?_, .plain rfl ?_, .plain rfl ?_, .plain rfl ?_, .on rfl (fun w' hG => Rs.GrowR.call (f := 102) (args := #[.agg #[.int .i64 t.wide, .slice (some ⟨b, o, none⟩) t.plots.length cap, .int .i64 wind, .int .i64 voice, .map (some r), .func (.func 121) #[] #[]], .int .i64 y]) ?_ (enough_any _ _ _ _ _ _ _ _)), .plain rfl ?_, trivial⟩
          case refine_13 => simp [go_sem, Rs.look]
          all_goals
            intro w' hG
            obtain ⟨hcG, hfG⟩ := kept hG
            simp [go_sem, Rs.look, hcG, hfG, k1, c0, c1, c2, c3, c4, c5, hlr, hcr, hbr, htr, hk', hkT, cp, ct]
        · intro w7 hG
          have hB7 := hBr.trans (hG.mono hBr.size)
          have HB7 := Lib.hid hB7
          have HO7 := Lib.hid (own_below HO.out hG)
          clear hG hB7
          simp only [Rs.canon, Rs.dstOf, List.range_succ, List.range_zero, List.nil_append, List.cons_append, List.foldl_cons, List.foldl_nil, List.drop_succ_cons, List.drop_zero, List.drop_nil, List.getElem?_toArray, List.getElem?_cons_succ, List.getElem?_cons_zero, Option.bind_some, Act.put, List.getD_cons_succ, List.getD_cons_zero, List.setIfInBounds_toArray, List.set_cons_succ, List.set_cons_zero]
          generalize hen : (y != -1 && decide (y ≤ voice)) = en at HHB ⊢
          clear hen c0 c1 c2 c3 c4 c5 k0 k1 cp ct hBr hcr hlr hbr htr HO
          cases en with
          | false =>
            have HNO : Hid ((t.at k == 1 && hearB t wind voice k s) = false) := Lib.hid (by rw [HXX.out, HHB.out]; rfl)
            go_wp2
            go_roundw
            case rel => exact ⟨k + 1, by omega, by simp, by rw [housesTo_no HNO.out]; exact HO7.out, HB7.out⟩
            case measure => simp [intOf]; omega
          | true =>
            have HYES : Hid ((t.at k == 1 && hearB t wind voice k s) = true) := Lib.hid (by rw [HXX.out, HHB.out]; rfl)
            have hz7 := HB7.out.size
            go_wp2_with (at_builtin; refine wpList_append_own _ rfl _ _ 22 rfl w6.heap.size 3 i0 (.int .i64 0) 1 8 A_und31 hi hz0 hz1 hz2 rfl (by decide) _ _ _ rfl (HO7.out.alloc _) ⟨w7.heap.size, 0, none⟩ 1 1 [.int .i64 (k : Int)] rfl rfl ?d1 ?d2 ?d3 ?d4 ?d5 ?_)
            case d1 =>
              intro j u hj
              match j, hj with
              | 0, hj => simp at hj; subst hj; simp [Addr.add]
            case d2 => intro u hu; simp at hu; subst hu; rfl
            case d3 => unfold maxLen; omega
            case d4 => omega
            case d5 => simp; omega
            intro v' w8 hown8 hgrow _
            have hB8 := below_grown (al2 HB7.out (by omega) _) (HO7.out.alloc _) (Nat.le_refl _) (by simp; omega) hgrow
            have HO8 := Lib.hid hown8
            have HB8 := Lib.hid hB8
            clear hgrow hown8 hB8
            go_wp2
            go_roundw
            case rel => exact ⟨k + 1, by omega, by simp, by rw [housesTo_yes HYES.out]; simpa using HO8.out, HB8.out⟩
            case measure => simp [intOf]; omega
      · have hx1' : (x == 1) = false := by simpa using hx1
        have HNO : Hid ((t.at k == 1 && hearB t wind voice k s) = false) := Lib.hid (by rw [HXX.out, hx1']; rfl)
        go_wp2_with fail
        refine Rs.region_det 14 [[], [0], [], [0, 1, 2], [0, 1, 2, 3], [0, 1, 2, 3, 4], [0, 1, 2, 3, 4, 5], [0, 1, 2, 3, 4, 5, 6], [0, 1, 2, 3, 4, 5, 6], [0, 1, 2, 3, 4, 5, 6], [0, 1, 2, 3, 4, 5, 6, 8, 9], [0, 1, 2, 3, 4, 5, 6, 8, 9, 10], [0, 1, 2, 3, 4, 5, 6, 7, 8, 9, 10, 11], [0, 1, 2, 3, 4, 5, 6, 7, 8, 9, 10, 11, 12]] [some 32, some 33, some 34, some 35, some 36, some 37, some 38, some 39, some 40, some 41, some 42, some 43, some 44, some 45]
          (fun i => [.pointer (some ⟨w.heap.size, 1, none⟩), .slice (some ⟨b, o, none⟩) t.plots.length cap, .int .i64 k, .pointer (some ⟨b, o + k, none⟩), .int .i64 x, .bool false, .bool false, undef, undef, undef, undef, undef, undef, .bool false].getD i undef) (by kernel_rfl) (by kernel_rfl) rfl ?_ ?_
        · refine ⟨.plain rfl ?_, .plain rfl ?_, .plain rfl ?_, .plain rfl ?_, .plain rfl ?_, .plain rfl ?_, .plain rfl ?_, .off rfl rfl, .off rfl rfl, .off rfl rfl, .off rfl rfl, .off rfl rfl, .off rfl rfl, .plain rfl ?_, trivial⟩
          all_goals
            intro w' hG
            obtain ⟨hcG, hfG⟩ := kept hG
            simp [go_sem, Rs.look, hcG, hfG, k1, c0, c1, c2, c3, c4, c5, hlr, hcr, hbr, htr, hk', hkT, cp, ct, hx1, hx1']
        · intro w7 hG
          have hB7 := hBr.trans (hG.mono hBr.size)
          have HB7 := Lib.hid hB7
          have HO7 := Lib.hid (own_below HO.out hG)
          clear hG hB7
          simp only [Rs.canon, Rs.dstOf, List.range_succ, List.range_zero, List.nil_append, List.cons_append, List.foldl_cons, List.foldl_nil, List.drop_succ_cons, List.drop_zero, List.drop_nil, List.getElem?_toArray, List.getElem?_cons_succ, List.getElem?_cons_zero, Option.bind_some, Act.put, List.getD_cons_succ, List.getD_cons_zero, List.setIfInBounds_toArray, List.set_cons_succ, List.set_cons_zero]
          clear c0 c1 c2 c3 c4 c5 k0 k1 cp ct hBr hcr hlr hbr htr HO hx1
          go_wp2
          go_roundw
          case rel => exact ⟨k + 1, by omega, by simp, by rw [housesTo_no HNO.out]; exact HO7.out, HB7.out⟩
          case measure => simp [intOf]; omega
    · have hkk : k = t.len := by omega
      subst hkk
      have hpl : ¬ ((t.len : Int) < t.plots.length) := by have : t.plots.length = t.len := rfl; omega
      have HBr := Lib.hid hBr
      clear hBr hown hlen
      go_wp2
      go_ret2
      exact ⟨_, rfl, own_base HO.out HB2.out.size, join HB2.out HBr.out⟩
/-- what Houses tells -/
def housesL (wd : Int) (xs : List Int) (wind voice s : Int) : List Int := if atE wd xs wind voice s 0 = 0 then housesOf (townOf wd xs) wind voice s.toNat else []
theorem Houses_any (wd wind voice s : Int) (a : Option Addr) (cap : Nat) (xs : List Int) (hl : xs.length ≤ 1000000) (w : World) (hR : RdI w (.slice a xs.length cap) xs) :
    Calls Tryz.prog 52 #[.agg #[.int .i64 wd, .slice a xs.length cap], .agg #[.int .i64 wind, .int .i64 voice], .int .i64 s] w fun e w' => ∃ v, e = .returned (.tuple #[v, .int .i64 (atE wd xs wind voice s 0)]) ∧ w'.ownsRow w.heap.size 3 1 v (housesL wd xs wind voice s).length ((housesL wd xs wind voice s).map (Value.int .i64)) ∧ Below w.heap.size w w' := by
  by_cases h : atE wd xs wind voice s 0 = 0
  · obtain ⟨h1, h2, h3⟩ := atE_ok h
    have hne : xs ≠ [] := by rintro rfl; have := (check_len h1).2; simp at this
    obtain ⟨b, o, rfl, _, hI⟩ := rd_ints hR hne
    obtain ⟨t, -, hw', hx, ok⟩ := town_name h1
    subst hw' hx
    obtain ⟨p, rfl, hp, _⟩ := plot_ok h3
    have e1 : housesL t.wide t.plots wind voice p = housesOf t wind voice p := by unfold housesL; rw [if_pos h, townOf_self]; simp
    rw [e1, h]
    exact Houses_yes t ok wind voice p h b o cap w hI
  · have e1 : housesL wd xs wind voice s = [] := if_neg h
    rw [e1]
    refine (Houses_no wd wind voice s a cap xs hl w hR h).mono ?_
    rintro e w' ⟨rfl, hB⟩
    exact ⟨_, rfl, own_none _ _ _ _, hB⟩
end Go.Proofs.YtimedmkpenbmkaaGreat
end
section
namespace Go.Proofs.YtimedmkpenbmkaaGreat
open Go.RowKit Go.Shelf
set_option linter.unusedSimpArgs false
set_option linter.unusedVariables false
theorem mem_getD {xs : List Int} {k : Nat} (h : k < xs.length) : xs.getD k 0 ∈ xs := by
  rw [List.getD_eq_getElem?_getD, List.getElem?_eq_getElem h]; exact List.getElem_mem h
end Go.Proofs.YtimedmkpenbmkaaGreat
end
section
namespace Go.Proofs.YtimedmkpenbmkaaGreat
open Go.RowKit Go.Shelf
set_option linter.unusedSimpArgs false
set_option linter.unusedVariables false
/-- what holds in the reference's Needs -/
structure RnI (t : Hr.Town) (b o cap : Nat) (w : World) (tb : Nat) (T : List Int) (W : World) : Prop where
  tab : TabAt W tb T
  box : W.heap[w.heap.size]? = some (.cells #[.int .i64 t.wide, .slice (some ⟨b, o, none⟩) t.plots.length cap] 64 (0, 0))
  ints : Ints W b o t.plots
  bel : Below w.heap.size w W
  lt : w.heap.size < tb
  blt : b < w.heap.size
theorem RnI.below {t : Hr.Town} {b o cap : Nat} {w : World} {tb : Nat} {T : List Int} {W W' : World} (h : RnI t b o cap w tb T W) (hB : Below W.heap.size W W') : RnI t b o cap w tb T W' :=
  ⟨h.tab.below hB h.tab.lt, (hB.block _ (Array.getElem?_eq_some_iff.1 h.box).1).trans h.box, h.ints.below hB h.ints.1, join h.bel hB, h.lt, h.blt⟩
theorem RnI.cs {t : Hr.Town} {b o cap : Nat} {w : World} {tb : Nat} {T : List Int} {W : World} (h : RnI t b o cap w tb T W) :
    W.cell? ⟨w.heap.size, 0, none⟩ = some (.int .i64 t.wide) ∧ W.cell? ⟨w.heap.size, 1, none⟩ = some (.slice (some ⟨b, o, none⟩) t.plots.length cap) := blk_cells2 h.box
end Go.Proofs.YtimedmkpenbmkaaGreat
end
section
namespace Go.Proofs.YtimedmkpenbmkaaGreat
open Go.RowKit Go.Shelf
set_option linter.unusedSimpArgs false
set_option linter.unusedVariables false
/-- what holds in the reference's Holds -/
structure RhI (t : Hr.Town) (b o cap : Nat) (w : World) (tb oo : Nat) (T : List Int) (W : World) : Prop where
  box : W.heap[w.heap.size]? = some (.cells #[.int .i64 t.wide, .slice (some ⟨b, o, none⟩) t.plots.length cap] 64 (0, 0))
  ints : Ints W b o t.plots
  tab : Ints W tb oo T
  bel : Below w.heap.size w W
theorem RhI.below {t : Hr.Town} {b o cap : Nat} {w : World} {tb oo : Nat} {T : List Int} {W W' : World} (h : RhI t b o cap w tb oo T W) (hB : Below W.heap.size W W') : RhI t b o cap w tb oo T W' :=
  ⟨(hB.block _ (Array.getElem?_eq_some_iff.1 h.box).1).trans h.box, h.ints.below hB h.ints.1, h.tab.below hB h.tab.1, join h.bel hB⟩
theorem RhI.cs {t : Hr.Town} {b o cap : Nat} {w : World} {tb oo : Nat} {T : List Int} {W : World} (h : RhI t b o cap w tb oo T W) :
    W.cell? ⟨w.heap.size, 0, none⟩ = some (.int .i64 t.wide) ∧ W.cell? ⟨w.heap.size, 1, none⟩ = some (.slice (some ⟨b, o, none⟩) t.plots.length cap) := blk_cells2 h.box
end Go.Proofs.YtimedmkpenbmkaaGreat
end
section
namespace Go.Proofs.YtimedmkpenbmkaaGreat
open Go.RowKit Go.Shelf
set_option linter.unusedSimpArgs false
set_option linter.unusedVariables false
theorem RdI.heap {W W' : World} {v : Value} {xs : List Int} (hW : W.heap = W'.heap) (h : RdI W' v xs) : RdI W v xs := by
  obtain ⟨h1, a, cap, e, hI⟩ := h
  refine ⟨h1, a, cap, e, fun hn => ?_⟩
  obtain ⟨b, o, e2, h2, h3⟩ := hI hn
  exact ⟨b, o, e2, by rw [hW]; exact h2, fun i hi => by have := h3 i hi; unfold World.cell? at this ⊢; rw [hW]; exact this⟩
/-- bytes that are read -/
def RdB (W : World) (ma : Option Addr) (n : Nat) : Prop := n ≤ 9223372036854775807 ∧ (n ≠ 0 → ∀ mb mo, ma = some ⟨mb, mo, none⟩ → mb < W.heap.size) ∧ (n ≠ 0 → ∃ mb mo, ma = some ⟨mb, mo, none⟩ ∧ mb < W.heap.size ∧ ∀ i, i < n → ∃ x : Int, 0 ≤ x ∧ x ≤ 255 ∧ W.cell? ⟨mb, mo + i, none⟩ = some (.int .u8 x))
theorem RdB.below {W W' : World} {ma : Option Addr} {n : Nat} (h : RdB W ma n) (hB : Below W.heap.size W W') : RdB W' ma n := ⟨h.1, fun hn mb mo e => Nat.lt_of_lt_of_le (h.2.1 hn mb mo e) hB.size, fun hn => by
  obtain ⟨mb, mo, e, l, hc⟩ := h.2.2 hn
  exact ⟨mb, mo, e, Nat.lt_of_lt_of_le l hB.size, fun i hi => by obtain ⟨x, x0, x1, hx⟩ := hc i hi; exact ⟨x, x0, x1, (hB.cell (p := ⟨mb, mo + i, none⟩) l).trans hx⟩⟩⟩
/-- a bell that is hung -/
theorem bell_hung {w : World} {ma : Option Addr} {n mc : Nat} (h : RdB w ma n) : BellOk (w.alloc (.cells #[.slice ma n mc, .int .i64 0, .int .u32 0] 108)) w.heap.size ma n mc := by
  refine ⟨0, 0, heap_alloc_last _ _, Nat.zero_le _, h.1, by omega, by omega, fun hn => ?_⟩
  obtain ⟨mb, mo, e, l, hc⟩ := (h.below (below1 w (.cells #[.slice ma n mc, .int .i64 0, .int .u32 0] 108))).2.2 hn
  obtain ⟨mb', mo', e', l', _⟩ := h.2.2 hn
  rw [e] at e'
  injection e' with e'
  injection e' with e1 e2
  subst e1
  exact ⟨mb, mo, e, l, by omega, hc⟩
/-- what lies before a law's loops: its town and its air -/
structure TaW (t : Hr.Town) (wind voice : Int) (c4 c5 : Nat) (pv : Value) (W : World) : Prop where
  b4 : W.heap[c4]? = some (.cells #[.int .i64 t.wide, pv] 25 (0, 0))
  b5 : W.heap[c5]? = some (.cells #[.int .i64 wind, .int .i64 voice] 29 (0, 0))
  rp : RdI W pv t.plots
theorem TaW.below {t : Hr.Town} {wind voice : Int} {c4 c5 : Nat} {pv : Value} {W W' : World} (h : TaW t wind voice c4 c5 pv W) (hB : Below W.heap.size W W') : TaW t wind voice c4 c5 pv W' :=
  ⟨(hB.block _ (Array.getElem?_eq_some_iff.1 h.b4).1).trans h.b4, (hB.block _ (Array.getElem?_eq_some_iff.1 h.b5).1).trans h.b5, h.rp.below hB⟩
theorem TaW.cs {t : Hr.Town} {wind voice : Int} {c4 c5 : Nat} {pv : Value} {W : World} (h : TaW t wind voice c4 c5 pv W) :
    (W.cell? ⟨c4, 0, none⟩ = some (.int .i64 t.wide) ∧ W.cell? ⟨c4, 1, none⟩ = some pv) ∧ W.cell? ⟨c5, 0, none⟩ = some (.int .i64 wind) ∧ W.cell? ⟨c5, 1, none⟩ = some (.int .i64 voice) := ⟨blk_cells2 h.b4, blk_cells2 h.b5⟩
theorem own_cap {w : World} {base : Nat} {e : TypeId} {ob : Option Addr} {cp : Nat} {xs : List Int} (h : w.ownsRow base e 1 (.slice ob xs.length cp) xs.length (xs.map (Value.int .i64))) : xs.length ≤ cp := by
  by_cases h0 : xs = []
  · subst h0; simp
  · obtain ⟨g, k, h1, _, _, h2, _⟩ := own_ints rfl h h0
    injection h1 with _ _ h3
    omega
end Go.Proofs.YtimedmkpenbmkaaGreat
namespace Go.Proofs.YtimedmkpenbmkaaGreat
open Go.RowKit Go.Shelf
set_option linter.unusedSimpArgs false
set_option linter.unusedVariables false
/-- a slice that does not lie in a block -/
def Off (QB : Nat) (v : Value) : Prop := ∀ b o n c, v = .slice (some ⟨b, o, none⟩) n c → b ≠ QB
theorem own_off {W : World} {base QB : Nat} {e : TypeId} {m : Nat} {v : Value} {n : Nat} {xs : List Value} (h : W.ownsRow base e m v n xs) (hq : QB < base) : Off QB v := by
  intro b o n' c e1
  rcases h.2 with ⟨h1, _⟩ | ⟨g, cp, cur, h1, hb, _⟩
  · rw [h1] at e1; cases e1
  · rw [h1] at e1; injection e1 with e1; injection e1 with e1; injection e1 with e1; omega
theorem RdI.hold {W W' : World} {v : Value} {xs : List Int} (h : RdI W v xs) {Kp : Nat → Prop} (hh : Hold Kp W W') (hk : ∀ b o n c, v = .slice (some ⟨b, o, none⟩) n c → Kp b) : RdI W' v xs := by
  obtain ⟨h1, a, cap, e, hI⟩ := h
  refine ⟨h1, a, cap, e, fun hn => ?_⟩
  obtain ⟨b, o, e2, h2, h3⟩ := hI hn
  exact ⟨b, o, e2, Nat.lt_of_lt_of_le h2 hh.size, fun i hi => (hh.cell (p := ⟨b, o + i, none⟩) (hk b o _ _ (by rw [e, e2])) h2).trans (h3 i hi)⟩
theorem BellOk.heap {W W' : World} {bl : Nat} {ma : Option Addr} {n mc : Nat} (h : BellOk W bl ma n mc) (e : W'.heap = W.heap) : BellOk W' bl ma n mc := by
  obtain ⟨a, t, h⟩ := h
  have hc : ∀ p, W'.cell? p = W.cell? p := fun p => by unfold World.cell?; rw [e]
  refine ⟨a, t, by rw [e]; exact h.box, h.le, h.big, h.turn0, h.turn1, fun hn => ?_⟩
  obtain ⟨mb, mo, e1, l, ne, hm⟩ := h.metal hn
  exact ⟨mb, mo, e1, by rw [e]; exact l, ne, fun i hi => by obtain ⟨x, x0, x1, hx⟩ := hm i hi; exact ⟨x, x0, x1, by rw [hc]; exact hx⟩⟩
theorem stroke_z (bl : Nat) (ma : Option Addr) (n mc : Nat) (m : Int) (h0 : 0 ≤ m) (hm : m ≤ 1000000) (w : World) (hb : BellOk w bl ma n mc) :
    Calls Tryz.prog 69 #[.pointer (some ⟨bl, 0, none⟩), .int .i64 m] w (RingPost w bl ma n mc 0 m) := by
  obtain ⟨k, rfl⟩ := Int.eq_ofNat_of_zero_le h0
  exact stroke_any bl ma n mc k (by omega) w hb
/-- what stands while a bell rings: the town's box, its plots, the bell -/
structure PvS (t : Hr.Town) (c7 : Nat) (pv : Value) (QB : Nat) (ma : Option Addr) (n mc : Nat) (W : World) : Prop where
  b7 : W.heap[c7]? = some (.cells #[.int .i64 t.wide, pv] 25 (0, 0))
  rp : RdI W pv t.plots
  bell : BellOk W QB ma n mc
  ne7 : c7 ≠ QB
  off : Off QB pv
theorem PvS.ring {t : Hr.Town} {c7 : Nat} {pv : Value} {QB : Nat} {ma : Option Addr} {n mc : Nat} {W W' : World} (h : PvS t c7 pv QB ma n mc W) (hb : BellOk W' QB ma n mc) (hh : Hold (fun k => k ≠ QB) W W') : PvS t c7 pv QB ma n mc W' :=
  ⟨(hh.same _ h.ne7 (Array.getElem?_eq_some_iff.1 h.b7).1).trans h.b7, h.rp.hold hh h.off, hb, h.ne7, h.off⟩
theorem PvS.below {t : Hr.Town} {c7 : Nat} {pv : Value} {QB : Nat} {ma : Option Addr} {n mc : Nat} {W W' : World} (h : PvS t c7 pv QB ma n mc W) (hB : Below W.heap.size W W') : PvS t c7 pv QB ma n mc W' :=
  ⟨(hB.block _ (Array.getElem?_eq_some_iff.1 h.b7).1).trans h.b7, h.rp.below hB, h.bell.below hB, h.ne7, h.off⟩
theorem PvS.cs {t : Hr.Town} {c7 : Nat} {pv : Value} {QB : Nat} {ma : Option Addr} {n mc : Nat} {W : World} (h : PvS t c7 pv QB ma n mc W) : W.cell? ⟨c7, 0, none⟩ = some (.int .i64 t.wide) ∧ W.cell? ⟨c7, 1, none⟩ = some pv := blk_cells2 h.b7
theorem PvS.lt {t : Hr.Town} {c7 : Nat} {pv : Value} {QB : Nat} {ma : Option Addr} {n mc : Nat} {W : World} (h : PvS t c7 pv QB ma n mc W) : c7 < W.heap.size := (Array.getElem?_eq_some_iff.1 h.b7).1
/-- a world behind another one, but for one bell -/
def Aft (QB : Nat) (W W' : World) : Prop := Hold (fun k => k ≠ QB) W W'
theorem Aft.of {QB : Nat} {W W' : World} (h : Hold (fun k => k ≠ QB) W W') : Aft QB W W' := h
theorem Aft.below {QB : Nat} {W W' W'' : World} (h : Aft QB W W') (hB : Below W'.heap.size W' W'') : Aft QB W W'' := Hold.trans h (.of_below hB (fun _ _ hl => hl))
theorem Aft.low {QB B : Nat} {W W' : World} (h : Aft QB W W') (hb : B ≤ QB) (hB : B ≤ W.heap.size) : Below B W W' := (Hold.mono (Kq := fun k => k < B) h (fun k (hk : k < B) _ => show k ≠ QB by omega)).to_below hB
end Go.Proofs.YtimedmkpenbmkaaGreat
namespace Go.Proofs.YtimedmkpenbmkaaGreat
open Go.RowKit Go.Shelf
set_option linter.unusedSimpArgs false
set_option linter.unusedVariables false
theorem own_hold {W W' : World} {base QB : Nat} {e : TypeId} {m : Nat} {v : Value} {n : Nat} {xs : List Value} (h : W.ownsRow base e m v n xs) (hh : Hold (fun k => k ≠ QB) W W') (hq : QB < base) : W'.ownsRow base e m v n xs := by
  refine h.kept (row := some QB) ⟨hh.os, hh.tape, hh.output, hh.size, fun k hk hne => hh.same k (fun e => hne (by rw [e])) hk⟩ ?_
  rcases h.2 with ⟨g1, _⟩ | ⟨g, cp, cur, g1, g2, _⟩
  · exact .inl (by rw [g1]; rfl)
  · right; rw [g1]; show some g ≠ some QB; intro e; injection e with e; omega
theorem exec_append2 {P : Program} {ρ : Operand → Value} {o : Oper} {s x : Operand} {t ty : TypeId} {vs vx v' : Value} {w w' : World} (ho : o.op = .call { callee := .builtin .append, args := #[s, x], argTypes := #[t, t] }) (hty : o.type = ty) (hs : ρ s = vs) (hx : ρ x = vx) (hr : (Builtin.append_ #[t, t] ty #[vs, vx]).run P w = .ok v' w') : (execOp ρ o).run P w = .ok (.value v') w' := by
  subst hty
  unfold execOp
  simp only [ho, resolve, invoke, builtin, Sem.run_bind, Sem.run_pure, Result.andThen_ok, List.map_toArray, List.map_cons, List.map_nil, hs, hx, hr]
end Go.Proofs.YtimedmkpenbmkaaGreat
namespace Go.Proofs.YtimedmkpenbmkaaGreat
open Go.RowKit Go.Shelf
set_option linter.unusedSimpArgs false
set_option linter.unusedVariables false
end Go.Proofs.YtimedmkpenbmkaaGreat
end
