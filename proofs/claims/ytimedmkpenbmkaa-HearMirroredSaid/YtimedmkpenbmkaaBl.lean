import Derived.Test.YtimedmkpenbmkaaUn
import Derived.Test.YtimedmkpenbmkaaB1
namespace Go.Proofs.Ytimedmkpenbmkaa
open Go.RowKit Go.Shelf
set_option linter.unusedSimpArgs false
set_option linter.unusedVariables false

/-! ### bells -/
/-- a bell: its bytes, where it is in them, and how often it began again -/
structure BellAt (w : World) (bl : Nat) (ma : Option Addr) (n mc : Nat) (at_ : Nat) (turn : Int) : Prop where
  box : w.heap[bl]? = some (.cells #[.slice ma n mc, .int .i64 at_, .int .u32 turn] 150 (0, 0))
  le : at_ ≤ n
  big : n ≤ 9223372036854775807
  turn0 : 0 ≤ turn
  turn1 : turn ≤ 4294967295
  metal : n ≠ 0 → ∃ mb mo, ma = some ⟨mb, mo, none⟩ ∧ mb < w.heap.size ∧ mb ≠ bl ∧ ∀ i, i < n → ∃ x : Int, 0 ≤ x ∧ x ≤ 255 ∧ w.cell? ⟨mb, mo + i, none⟩ = some (.int .u8 x)
def BellOk (w : World) (bl : Nat) (ma : Option Addr) (n mc : Nat) : Prop := ∃ at_ turn, BellAt w bl ma n mc at_ turn
theorem BellAt.lt {w : World} {bl : Nat} {ma : Option Addr} {n mc at_ : Nat} {turn : Int} (h : BellAt w bl ma n mc at_ turn) : bl < w.heap.size := (Array.getElem?_eq_some_iff.1 h.box).1
theorem BellAt.hold {w w' : World} {bl : Nat} {ma : Option Addr} {n mc at_ : Nat} {turn : Int} (h : BellAt w bl ma n mc at_ turn) {Kp : Nat → Prop} (hh : Hold Kp w w') (h1 : Kp bl) (h2 : n ≠ 0 → ∀ mb mo, ma = some ⟨mb, mo, none⟩ → Kp mb) : BellAt w' bl ma n mc at_ turn :=
  ⟨(hh.same _ h1 h.lt).trans h.box, h.le, h.big, h.turn0, h.turn1, fun hn => by
    obtain ⟨mb, mo, e, l, ne, hc⟩ := h.metal hn
    exact ⟨mb, mo, e, Nat.lt_of_lt_of_le l hh.size, ne, fun i hi => by obtain ⟨x, x0, x1, hx⟩ := hc i hi; exact ⟨x, x0, x1, (hh.cell (p := ⟨mb, mo + i, none⟩) (h2 hn _ _ e) l).trans hx⟩⟩⟩
theorem BellAt.below {w w' : World} {bl : Nat} {ma : Option Addr} {n mc at_ : Nat} {turn : Int} (h : BellAt w bl ma n mc at_ turn) (hB : Below w.heap.size w w') : BellAt w' bl ma n mc at_ turn :=
  h.hold (Kp := fun _ => True) (.of_below hB (fun _ _ hl => hl)) trivial (fun _ _ _ _ => trivial)
theorem BellOk.below {w w' : World} {bl : Nat} {ma : Option Addr} {n mc : Nat} (h : BellOk w bl ma n mc) (hB : Below w.heap.size w w') : BellOk w' bl ma n mc := by
  obtain ⟨a, t, h⟩ := h; exact ⟨a, t, h.below hB⟩
theorem BellOk.lt {w : World} {bl : Nat} {ma : Option Addr} {n mc : Nat} (h : BellOk w bl ma n mc) : bl < w.heap.size := by obtain ⟨a, t, h⟩ := h; exact h.lt

theorem wrap_u32 {n : Nat} (h : n < 2 ^ 32) : IntKind.wrap .u32 (n : Int) = n := by
  have hb : IntKind.bits .u32 = 32 := rfl
  have hs : IntKind.signed .u32 = false := rfl
  unfold IntKind.wrap
  simp only [hb, hs, Bool.false_and]
  have h1 : ((n : Int) % (2 ^ 32 : Int)) = n := by omega
  rw [h1]
  rw [if_neg (by simp)]
theorem run_and32 (a : Int) (t : TypeId) : ∃ z : Int, 0 ≤ z ∧ z ≤ 65535 ∧ ∀ w, (binOp .and t (.int .u32 a) (.int .u32 65535)).run Try.prog w = .ok (.int .u32 z) w := by
  have hle : (BitVec.ofInt 32 a &&& BitVec.ofInt 32 65535).toNat ≤ 65535 := by
    rw [BitVec.toNat_and]; exact Nat.and_le_right
  refine ⟨((BitVec.ofInt 32 a &&& BitVec.ofInt 32 65535).toNat : Int), by omega, by omega, fun w => ?_⟩
  have h4 : (binOp .and t (.int .u32 a) (.int .u32 65535)).run Try.prog w = .ok (.int .u32 (IntKind.wrap .u32 ((BitVec.ofInt 32 a &&& BitVec.ofInt 32 65535).toNat : Int))) w := rfl
  rw [h4, wrap_u32 (by omega)]
theorem run_xor32 (a b : Int) (t : TypeId) : ∃ z : Int, ∀ w, (binOp .xor t (.int .u32 a) (.int .u32 b)).run Try.prog w = .ok (.int .u32 z) w := ⟨_, fun w => rfl⟩
theorem run_shr32 (a : Int) (t : TypeId) : ∃ z : Int, ∀ w, (binOp .shr t (.int .u32 a) (.int .u64 7)).run Try.prog w = .ok (.int .u32 z) w := ⟨_, fun w => rfl⟩
theorem wpList_and32 {ops : Array Oper} {rest : List Oper} {o : Oper} {a : Act} {w : World} {Q : Exit → Act → World → Prop} (hgd : o.guard = none) (t t' : TypeId) (x y : Operand) (ho : o.op = .binOp .and t x y t') (u : Int)
    (hx : a.eval x = .int .u32 u) (hy : a.eval y = .int .u32 65535) (hg : (eqGuard .and t x y (.int .u32 u) (.int .u32 65535)).run Try.prog w = .ok () w) (h : ∀ z : Int, 0 ≤ z → z ≤ 65535 → wpList Try.prog ops Q rest (a.put o.dst (.int .u32 z)) w) : wpList Try.prog ops Q (o :: rest) a w := by
  obtain ⟨z, z0, z1, hr⟩ := run_and32 u t
  exact wpList_bin hgd .and t t' x y ho _ _ _ hx hy hg (hr w) (h z z0 z1)
theorem wpList_xor32 {ops : Array Oper} {rest : List Oper} {o : Oper} {a : Act} {w : World} {Q : Exit → Act → World → Prop} (hgd : o.guard = none) (t t' : TypeId) (x y : Operand) (ho : o.op = .binOp .xor t x y t') (u v : Int)
    (hx : a.eval x = .int .u32 u) (hy : a.eval y = .int .u32 v) (hg : (eqGuard .xor t x y (.int .u32 u) (.int .u32 v)).run Try.prog w = .ok () w) (h : ∀ z : Int, wpList Try.prog ops Q rest (a.put o.dst (.int .u32 z)) w) : wpList Try.prog ops Q (o :: rest) a w := by
  obtain ⟨z, hr⟩ := run_xor32 u v t
  exact wpList_bin hgd .xor t t' x y ho _ _ _ hx hy hg (hr w) (h z)
theorem wpList_shr32 {ops : Array Oper} {rest : List Oper} {o : Oper} {a : Act} {w : World} {Q : Exit → Act → World → Prop} (hgd : o.guard = none) (t t' : TypeId) (x y : Operand) (ho : o.op = .binOp .shr t x y t') (u : Int)
    (hx : a.eval x = .int .u32 u) (hy : a.eval y = .int .u64 7) (hg : (eqGuard .shr t x y (.int .u32 u) (.int .u64 7)).run Try.prog w = .ok () w) (h : ∀ z : Int, wpList Try.prog ops Q rest (a.put o.dst (.int .u32 z)) w) : wpList Try.prog ops Q (o :: rest) a w := by
  obtain ⟨z, hr⟩ := run_shr32 u t
  exact wpList_bin hgd .shr t t' x y ho _ _ _ hx hy hg (hr w) (h z)

/-- what a bell's call leaves -/
def RingPost (w : World) (bl : Nat) (ma : Option Addr) (n mc : Nat) (lo hi : Int) (e : Ending) (w' : World) : Prop :=
  ∃ x : Int, lo ≤ x ∧ x ≤ hi ∧ e = .returned (.int .i64 x) ∧ BellOk w' bl ma n mc ∧ Hold (fun k => k ≠ bl) w w'

theorem blk_cells3 {W : World} {b : Nat} {v0 v1 v2 : Value} {ty : TypeId} (h : W.heap[b]? = some (.cells #[v0, v1, v2] ty (0, 0))) :
    (W.cell? ⟨b, 0, none⟩ = some v0 ∧ W.cell? ⟨b, 1, none⟩ = some v1 ∧ W.cell? ⟨b, 2, none⟩ = some v2) ∧ W.frozen? ⟨b, 1, none⟩ = false ∧ W.frozen? ⟨b, 2, none⟩ = false := by
  refine ⟨⟨?_, ?_, ?_⟩, frozen_of_row W b 1 _ _ h, frozen_of_row W b 2 _ _ h⟩ <;> simp [World.cell?, h]

theorem bell_set {w : World} {bl : Nat} {ma : Option Addr} {n mc at_ : Nat} {turn : Int} (h : BellAt w bl ma n mc at_ turn) (o : Nat) (v : Value) : n ≠ 0 → ∃ mb mo, ma = some ⟨mb, mo, none⟩ ∧ mb < (w.setCell ⟨bl, o, none⟩ v).heap.size ∧ mb ≠ bl ∧ ∀ i, i < n → ∃ x : Int, 0 ≤ x ∧ x ≤ 255 ∧ (w.setCell ⟨bl, o, none⟩ v).cell? ⟨mb, mo + i, none⟩ = some (.int .u8 x) := fun hn => by
  obtain ⟨mb, mo, e, l, ne, hc⟩ := h.metal hn
  have hh : Hold (fun k => k ≠ bl) w (w.setCell ⟨bl, o, none⟩ v) := Hold.setCell _ _ _ (fun h => h rfl)
  exact ⟨mb, mo, e, Nat.lt_of_lt_of_le l hh.size, ne, fun i hi => by obtain ⟨x, x0, x1, hx⟩ := hc i hi; exact ⟨x, x0, x1, (hh.cell (p := ⟨mb, mo + i, none⟩) ne l).trans hx⟩⟩
theorem BellAt.set1 {w : World} {bl : Nat} {ma : Option Addr} {n mc at_ : Nat} {turn : Int} (h : BellAt w bl ma n mc at_ turn) (a2 : Nat) (x : Int) (hx : x = a2) (hle : a2 ≤ n) : BellAt (w.setCell ⟨bl, 1, none⟩ (.int .i64 x)) bl ma n mc a2 turn := by
  subst hx
  exact ⟨heap_set_same _ h.box, hle, h.big, h.turn0, h.turn1, bell_set h _ _⟩
theorem BellAt.set2 {w : World} {bl : Nat} {ma : Option Addr} {n mc at_ : Nat} {turn : Int} (h : BellAt w bl ma n mc at_ turn) (t2 : Int) (h0 : 0 ≤ t2) (h1 : t2 ≤ 4294967295) : BellAt (w.setCell ⟨bl, 2, none⟩ (.int .u32 t2)) bl ma n mc at_ t2 :=
  ⟨heap_set_same _ h.box, h.le, h.big, h0, h1, bell_set h _ _⟩
theorem BellAt.drewN {w : World} {bl : Nat} {ma : Option Addr} {n mc at_ : Nat} {turn : Int} (h : BellAt w bl ma n mc at_ turn) (q : Nat) : BellAt (w.drewN q) bl ma n mc at_ turn := ⟨h.box, h.le, h.big, h.turn0, h.turn1, h.metal⟩
theorem Hold.drewN (Kp : Nat → Prop) (w : World) (q : Nat) : Hold Kp w (w.drewN q) := ⟨rfl, rfl, rfl, Nat.le_refl _, fun _ _ _ => rfl⟩
theorem Hold.set (w : World) (bl o : Nat) (v : Value) : Hold (fun k => k ≠ bl) w (w.setCell ⟨bl, o, none⟩ v) := Hold.setCell _ _ _ (fun h => h rfl)

set_option maxHeartbeats 2000000 in
set_option maxRecDepth 100000 in
theorem ring_any (bl : Nat) (ma : Option Addr) (n mc : Nat) (w : World) (hb : BellOk w bl ma n mc) :
    Calls Try.prog 118 #[.pointer (some ⟨bl, 0, none⟩)] w (RingPost w bl ma n mc 0 65535) := by
  obtain ⟨at_, turn, h⟩ := hb
  obtain ⟨⟨c0, c1, c2⟩, f1, f2⟩ := blk_cells3 h.box
  have t0 := h.turn0
  have t1 := h.turn1
  have hle := h.le
  have hbig := h.big
  have hlt := h.lt
  have H := Lib.hid h
  clear h
  by_cases he : at_ = n
  · subst he
    have hmet := H.out.metal
    by_cases hn0 : at_ = 0
    · subst hn0
      clear hmet
      go_enter Try.func118, Try.ntmps118
      go_wp2
      go_quiet (fail)
      go_wp2_with (first | ((with_reducible refine wpList_shr32 rfl 148 182 _ _ rfl _ rfl rfl rfl ?_); intro z1) | ((with_reducible refine wpList_xor32 rfl 148 148 _ _ rfl _ _ rfl rfl rfl ?_); intro z2) | ((with_reducible refine wpList_and32 rfl 148 148 _ _ rfl _ rfl rfl rfl ?_); intro z z0 z65))
      go_ret
      refine ⟨z, z0, z65, rfl, ?_, ?_⟩
      · exact ⟨0, _, ((H.out.drewN _).set1 0 0 rfl (Nat.zero_le _)).set2 _ (by omega) (by omega)⟩
      · exact ((Hold.drewN _ _ _).trans (Hold.set _ _ _ _)).trans (Hold.set _ _ _ _)
    · have hn1 : (0 : Int) < at_ := by omega
      obtain ⟨mb, mo, rfl, ml, mne, hm⟩ := hmet hn0
      obtain ⟨x, x0, x1, hx⟩ := hm 0 (by omega)
      clear hm
      rw [Nat.add_zero] at hx
      go_enter Try.func118, Try.ntmps118
      go_wp2
      go_quiet (fail)
      go_wp2_with (first | ((with_reducible refine wpList_shr32 rfl 148 182 _ _ rfl _ rfl rfl rfl ?_); intro z1) | ((with_reducible refine wpList_xor32 rfl 148 148 _ _ rfl _ _ rfl rfl rfl ?_); intro z2) | ((with_reducible refine wpList_and32 rfl 148 148 _ _ rfl _ rfl rfl rfl ?_); intro z z0 z65))
      go_quiet (fail)
      go_wp2_with (first | ((with_reducible refine wpList_shr32 rfl 148 182 _ _ rfl _ rfl rfl rfl ?_); intro z1) | ((with_reducible refine wpList_xor32 rfl 148 148 _ _ rfl _ _ rfl rfl rfl ?_); intro z2) | ((with_reducible refine wpList_and32 rfl 148 148 _ _ rfl _ rfl rfl rfl ?_); intro z z0 z65))
      go_ret
      refine ⟨z, z0, z65, rfl, ?_, ?_⟩
      · exact ⟨1, _, ((((H.out.drewN _).set1 0 0 rfl (Nat.zero_le _)).set2 _ (by omega) (by omega)).drewN _).set1 1 1 rfl (by omega)⟩
      · exact ((((Hold.drewN _ _ _).trans (Hold.set _ _ _ _)).trans (Hold.set _ _ _ _)).trans (Hold.drewN _ _ _)).trans (Hold.set _ _ _ _)
  · have hne : ((at_ : Int) == (n : Int)) = false := by simp; omega
    have hltn : at_ < n := by omega
    have hn0 : (0 : Int) < n := by omega
    have hat : (at_ : Int) < n := by omega
    obtain ⟨mb, mo, rfl, ml, mne, hm⟩ := H.out.metal (by omega)
    obtain ⟨x, x0, x1, hx⟩ := hm at_ hltn
    clear hm he
    go_enter Try.func118, Try.ntmps118
    go_wp2
    go_quiet (fail)
    go_wp2
    go_quiet (fail)
    go_wp2_with (first | ((with_reducible refine wpList_shr32 rfl 148 182 _ _ rfl _ rfl rfl rfl ?_); intro z1) | ((with_reducible refine wpList_xor32 rfl 148 148 _ _ rfl _ _ rfl rfl rfl ?_); intro z2) | ((with_reducible refine wpList_and32 rfl 148 148 _ _ rfl _ rfl rfl rfl ?_); intro z z0 z65))
    go_ret
    refine ⟨z, z0, z65, rfl, ?_, ?_⟩
    · exact ⟨at_ + 1, _, (H.out.drewN _).set1 (at_ + 1) _ (by push_cast; rfl) (by omega)⟩
    · exact (Hold.drewN _ _ _).trans (Hold.set _ _ _ _)
end Go.Proofs.Ytimedmkpenbmkaa
