/- Contracts of the code and of the laws, further part. -/
import Derived.Test.YtadnggecnjdhiaaMj
set_option linter.unusedSimpArgs false
set_option linter.unusedVariables false
namespace Go.Proofs.Ytadnggecnjdhiaa
open Go.RowKit Tx

theorem sure1_any (u : Turn) (x : Int) (A : Nat) (w : World) (hA : w.heap[A]? = some (.cells #[.int .i64 u.word, .int .i64 u.lo, .int .i64 u.hi] 80 (0, 0))) :
    Calls Try.prog 63 #[.int .i64 x, .pointer (some ⟨A, 0, none⟩)] w fun e w' => e = .returned (.bool (u.parts x)) ∧ Below w.heap.size w w' := by
  obtain ⟨c0, c1, c2⟩ := blk3 hA
  obtain ⟨uw, ul, uh⟩ := u
  dsimp only at c0 c1 c2
  unfold Turn.parts
  dsimp only
  clear hA
  by_cases h1 : uw < x
  · by_cases h2 : x ≤ ul
    · go_enter Try.func63, Try.ntmps63
      go_wp2
      go_ret
      exact ⟨ret_bool (by simp [h1, h2]), Below.refl _ _⟩
    · by_cases h3 : uh < x
      · by_cases h4 : x ≤ uw
        · exact absurd h1 (by omega)
        · go_enter Try.func63, Try.ntmps63
          go_wp2
          go_ret
          exact ⟨ret_bool (by simp [h1, h2, h3, h4] <;> omega), Below.refl _ _⟩
      · go_enter Try.func63, Try.ntmps63
        go_wp2
        go_ret
        exact ⟨ret_bool (by simp [h1, h2, h3] <;> omega), Below.refl _ _⟩
  · by_cases h3 : uh < x
    · have h4 : x ≤ uw := by omega
      go_enter Try.func63, Try.ntmps63
      go_wp2
      go_ret
      exact ⟨ret_bool (by simp [h1, h3, h4] <;> omega), Below.refl _ _⟩
    · go_enter Try.func63, Try.ntmps63
      go_wp2
      go_ret
      exact ⟨ret_bool (by simp [h1, h3] <;> omega), Below.refl _ _⟩
theorem entered_sure1 : Entered 63 := fun args W => by kernel_rfl
def idxI (p : Int → Bool) (ts : List Int) (z : Int) : Prop := (z = -1 ∧ ts.any p = false) ∨ (0 ≤ z ∧ ts.any p = true)
set_option maxHeartbeats 1000000 in
set_option maxRecDepth 100000 in
theorem indexFuncI (F : FuncId) (hF : Entered F) (E : Value) (q : Int → Bool) (ts : List Int) (p : Option Addr) (c : Nat) (w : World) (hl : ts.length ≤ 1000000) (hi : Ints w p ts) (hq : ∀ W, Below w.heap.size w W → ∀ u ∈ ts, Calls Try.prog F #[.int .i64 u, E] W fun e w' => e = .returned (.bool (q u)) ∧ Below W.heap.size W w') :
    Calls Try.prog 130 #[.slice p ts.length c, .func (.func F) #[] #[E]] w fun e w' => ∃ z : Int, e = .returned (.int .i64 z) ∧ idxI q ts z ∧ Below w.heap.size w w' := by
  have HI := Lib.hid hi
  have HQ := Lib.hid hq
  have HF := Lib.hid hF
  clear hi hq hF
  go_enter Try.func130, Try.ntmps130
  go_wp2_with fail
  go_loopw [5, 8] (fun u5 i wr => ∃ k : Nat, k ≤ ts.length ∧ i = .int .i64 k ∧ (ts.take k).any q = false ∧ Below w.heap.size w wr) (fun _ i _ => ts.length - (intOf i).toNat)
  case atStart => exact ⟨0, Nat.zero_le _, rfl, rfl, Below.refl _ _⟩
  case round =>
    obtain ⟨k, hk, rfl, hA, hB⟩ := hrel
    have HA := Lib.hid hA
    clear hA
    by_cases hlt : k < ts.length
    · have hlt' : (k : Int) < ts.length := by omega
      obtain ⟨b, o, x, rfl, hb, hxx, c1⟩ := (HI.out.below hB).at hlt
      have HX := Lib.hid hxx
      have HB := Lib.hid hB
      have HASK := Lib.hid (HQ.out _ hB x (by rw [hxx]; exact getD_mem 0 hlt))
      clear hxx hB
      go_wp2_with fail
      rw [HF.out, Oper.upon_enter]
      refine HASK.out.mono ?_
      rintro e w5 ⟨rfl, hB5⟩
      have HB5 := Lib.hid (join HB.out hB5)
      clear HASK hB5
      cases hbad : q x with
      | true =>
        have HBAD := Lib.hid hbad
        clear hbad
        go_wp2
        go_ret
        exact ⟨_, rfl, .inr ⟨by omega, any_hit 0 hlt _ (by rw [← HX.out]; exact HBAD.out)⟩, HB5.out⟩
      | false =>
        have HBAD := Lib.hid hbad
        clear hbad
        go_wp2
        go_roundw
        case rel => exact ⟨k + 1, by omega, by go_num, any_snoc 0 hlt _ HA.out (by rw [← HX.out]; exact HBAD.out), HB5.out⟩
        case measure => simp [intOf]; omega
    · obtain rfl : k = ts.length := by omega
      have HB := Lib.hid hB
      clear hB
      go_wp2
      go_ret
      exact ⟨_, rfl, .inl ⟨rfl, by have := HA.out; rwa [List.take_length] at this⟩, HB.out⟩
set_option maxHeartbeats 1000000 in
set_option maxRecDepth 100000 in
theorem containsFuncI (F : FuncId) (hF : Entered F) (E : Value) (q : Int → Bool) (ts : List Int) (p : Option Addr) (c : Nat) (w : World) (hl : ts.length ≤ 1000000) (hi : Ints w p ts) (hq : ∀ W, Below w.heap.size w W → ∀ u ∈ ts, Calls Try.prog F #[.int .i64 u, E] W fun e w' => e = .returned (.bool (q u)) ∧ Below W.heap.size W w') :
    Calls Try.prog 62 #[.slice p ts.length c, .func (.func F) #[] #[E]] w fun e w' => e = .returned (.bool (ts.any q)) ∧ Below w.heap.size w w' := by
  have HI := Lib.hid (indexFuncI F hF E q ts p c w hl hi hq)
  clear hi hq
  go_enter Try.func62, Try.ntmps62
  go_wp2_with fail
  refine HI.out.mono ?_
  rintro e w5 ⟨z, rfl, hz, hB5⟩
  rcases hz with ⟨rfl, ha⟩ | ⟨h0, ha⟩
  · have HA := Lib.hid ha
    clear ha
    go_wp2
    go_ret
    exact ⟨by rw [HA.out]; rfl, hB5⟩
  · have HA := Lib.hid ha
    have hz0 : decide (0 ≤ z) = true := by simpa using h0
    clear ha
    go_wp2
    go_ret
    exact ⟨by rw [HA.out]; rfl, hB5⟩
/-- the fewest breaths add up, or there are none -/
theorem fewL_cases {t : Text} (ok : Text.Ok t) (he : t.err = 0) : fewL t = [] ∨ Parts t.words.length (fewL t) := by
  have h := fewest_rights (may := t.right) ok.n1 ok.n12
  have e : fewL t = (Tx.fewest t.right t.words.length).1 := if_pos he
  rw [e]
  by_cases h0 : (Tx.fewest t.right t.words.length).2 = 0
  · exact .inr (mem_rights.1 (h.2.2.1 h0)).1
  · left
    unfold Tx.fewest at h0 ⊢
    split
    · rename_i hh; rw [if_pos hh] at h0; exact absurd rfl h0
    · rfl
theorem sound_ok {t : Text} {l : List Int} (h : Parts t.words.length l) : soundB t l = okFrom t.right 0 l := by
  unfold soundB; rw [(partsB_iff _ _).2 h, Bool.true_and]
theorem astrayR_sound {t : Text} (ok : Text.Ok t) (he : t.err = 0) {l : List Int} (h : Parts t.words.length l) : astrayR t l = if soundB t l then astrayGo (placesL l) 0 t.turns else (0, 0, 0, 8) := by
  unfold astrayR
  rw [if_pos (read_parts ok he h), sound_ok h]
  by_cases hr : (wrongGo t 0 0 l).2.2 = 6
  · rw [if_pos hr, if_pos ((wrongGo_ok t l 0 0).1 hr)]
  · rw [if_neg hr, if_neg (fun h => hr ((wrongGo_ok t l 0 0).2 h))]
end Go.Proofs.Ytadnggecnjdhiaa
set_option linter.unusedSimpArgs false
set_option linter.unusedVariables false
namespace Go.Proofs.Ytadnggecnjdhiaa
open Go.RowKit Tx
attribute [local go_sem] Oper.semAt_some

theorem Hold.alloc {Kp : Nat → Prop} (w : World) (o : Obj) : Hold Kp w (w.alloc o) := ⟨rfl, rfl, rfl, by simp, fun k _ hl => Below.heap_alloc w o k hl⟩
theorem frozen_of_row (w : World) (b i : Nat) (cs : Array Value) (ty : TypeId) (h : w.heap[b]? = some (.cells cs ty (0, 0))) : w.frozen? ⟨b, i, none⟩ = false := by simp [World.frozen?, h]
theorem wpList_bin {P : Program} {ops : Array Oper} {rest : List Oper} {o : Oper} {a : Act} {w : World} {Q : Exit → Act → World → Prop} (hgd : o.guard = none) (b : BinOp) (t t' : TypeId) (x y : Operand) (ho : o.op = .binOp b t x y t') (u v r : Value)
    (hx : a.eval x = u) (hy : a.eval y = v) (hg : (eqGuard b t x y u v).run P w = .ok () w) (hr : (binOp b t u v).run P w = .ok r w) (h : wpList P ops Q rest (a.put o.dst r) w) : wpList P ops Q (o :: rest) a w :=
  wpList_plain hgd fun K hK => by
    unfold Oper.wp execOp
    simp only [ho, hx, hy, Sem.run_bind, hg, hr, Result.andThen_ok, Sem.run_pure]
    exact hK _ _ h
/-! ### bells -/
/-- a bell: its bytes, where it is in them, and how often it began again -/
structure BellAt (w : World) (bl : Nat) (ma : Option Addr) (n mc : Nat) (at_ : Nat) (turn : Int) : Prop where
  box : w.heap[bl]? = some (.cells #[.slice ma n mc, .int .i64 at_, .int .u32 turn] 159 (0, 0))
  le : at_ ≤ n
  big : n ≤ 9223372036854775807
  turn0 : 0 ≤ turn
  turn1 : turn ≤ 4294967295
  metal : n ≠ 0 → ∃ mb mo, ma = some ⟨mb, mo, none⟩ ∧ mb < w.heap.size ∧ mb ≠ bl ∧ ∀ i, i < n → ∃ x : Int, 0 ≤ x ∧ x ≤ 255 ∧ w.cell? ⟨mb, mo + i, none⟩ = some (.int .u8 x)
def BellOk (w : World) (bl : Nat) (ma : Option Addr) (n mc : Nat) : Prop := ∃ at_ turn, BellAt w bl ma n mc at_ turn
theorem BellAt.lt {w : World} {bl : Nat} {ma : Option Addr} {n mc at_ : Nat} {turn : Int} (h : BellAt w bl ma n mc at_ turn) : bl < w.heap.size := (Array.getElem?_eq_some_iff.1 h.box).1
theorem BellAt.hold {w w' : World} {bl : Nat} {ma : Option Addr} {n mc at_ : Nat} {turn : Int} (h : BellAt w bl ma n mc at_ turn) {Kp : Nat → Prop} (hh : Hold Kp w w') (h1 : Kp bl) (h2 : n ≠ 0 → ∀ mb mo, ma = some ⟨mb, mo, none⟩ → Kp mb) : BellAt w' bl ma n mc at_ turn :=
  ⟨(hh.same _ h1 h.lt).trans h.box, h.le, h.big, h.turn0, h.turn1, fun hn => by
    obtain ⟨mb, mo, e, l, ne, hc⟩ := h.metal hn
    exact ⟨mb, mo, e, Nat.lt_of_lt_of_le l hh.size, ne, fun i hi => by obtain ⟨x, x0, x1, hx⟩ := hc i hi; exact ⟨x, x0, x1, (hh.cell (p := ⟨mb, mo + i, none⟩) (h2 hn _ _ e) l).trans hx⟩⟩⟩
theorem BellAt.below {w w' : World} {bl : Nat} {ma : Option Addr} {n mc at_ : Nat} {turn : Int} (h : BellAt w bl ma n mc at_ turn) (hB : Below w.heap.size w w') : BellAt w' bl ma n mc at_ turn :=
  h.hold (Kp := fun _ => True) (.of_below hB (fun _ _ hl => hl)) trivial (fun _ _ _ _ => trivial)
theorem BellOk.below {w w' : World} {bl : Nat} {ma : Option Addr} {n mc : Nat} (h : BellOk w bl ma n mc) (hB : Below w.heap.size w w') : BellOk w' bl ma n mc := by
  obtain ⟨a, t, h⟩ := h; exact ⟨a, t, h.below hB⟩
theorem BellOk.lt {w : World} {bl : Nat} {ma : Option Addr} {n mc : Nat} (h : BellOk w bl ma n mc) : bl < w.heap.size := by obtain ⟨a, t, h⟩ := h; exact h.lt

theorem wrap_u32 {n : Nat} (h : n < 2 ^ 32) : IntKind.wrap .u32 (n : Int) = n := by
  have hb : IntKind.bits .u32 = 32 := rfl
  have hs : IntKind.signed .u32 = false := rfl
  unfold IntKind.wrap
  simp only [hb, hs, Bool.false_and]
  have h1 : ((n : Int) % (2 ^ 32 : Int)) = n := by omega
  rw [h1]
  rw [if_neg (by simp)]
theorem run_and32 (a : Int) (t : TypeId) : ∃ z : Int, 0 ≤ z ∧ z ≤ 65535 ∧ ∀ w, (binOp .and t (.int .u32 a) (.int .u32 65535)).run Try.prog w = .ok (.int .u32 z) w := by
  have hle : (BitVec.ofInt 32 a &&& BitVec.ofInt 32 65535).toNat ≤ 65535 := by
    rw [BitVec.toNat_and]; exact Nat.and_le_right
  refine ⟨((BitVec.ofInt 32 a &&& BitVec.ofInt 32 65535).toNat : Int), by omega, by omega, fun w => ?_⟩
  have h4 : (binOp .and t (.int .u32 a) (.int .u32 65535)).run Try.prog w = .ok (.int .u32 (IntKind.wrap .u32 ((BitVec.ofInt 32 a &&& BitVec.ofInt 32 65535).toNat : Int))) w := rfl
  rw [h4, wrap_u32 (by omega)]
theorem run_xor32 (a b : Int) (t : TypeId) : ∃ z : Int, ∀ w, (binOp .xor t (.int .u32 a) (.int .u32 b)).run Try.prog w = .ok (.int .u32 z) w := ⟨_, fun w => rfl⟩
theorem run_shr32 (a : Int) (t : TypeId) : ∃ z : Int, ∀ w, (binOp .shr t (.int .u32 a) (.int .u64 7)).run Try.prog w = .ok (.int .u32 z) w := ⟨_, fun w => rfl⟩
theorem wpList_and32 {ops : Array Oper} {rest : List Oper} {o : Oper} {a : Act} {w : World} {Q : Exit → Act → World → Prop} (hgd : o.guard = none) (t t' : TypeId) (x y : Operand) (ho : o.op = .binOp .and t x y t') (u : Int)
    (hx : a.eval x = .int .u32 u) (hy : a.eval y = .int .u32 65535) (hg : (eqGuard .and t x y (.int .u32 u) (.int .u32 65535)).run Try.prog w = .ok () w) (h : ∀ z : Int, 0 ≤ z → z ≤ 65535 → wpList Try.prog ops Q rest (a.put o.dst (.int .u32 z)) w) : wpList Try.prog ops Q (o :: rest) a w := by
  obtain ⟨z, z0, z1, hr⟩ := run_and32 u t
  exact wpList_bin hgd .and t t' x y ho _ _ _ hx hy hg (hr w) (h z z0 z1)
theorem wpList_xor32 {ops : Array Oper} {rest : List Oper} {o : Oper} {a : Act} {w : World} {Q : Exit → Act → World → Prop} (hgd : o.guard = none) (t t' : TypeId) (x y : Operand) (ho : o.op = .binOp .xor t x y t') (u v : Int)
    (hx : a.eval x = .int .u32 u) (hy : a.eval y = .int .u32 v) (hg : (eqGuard .xor t x y (.int .u32 u) (.int .u32 v)).run Try.prog w = .ok () w) (h : ∀ z : Int, wpList Try.prog ops Q rest (a.put o.dst (.int .u32 z)) w) : wpList Try.prog ops Q (o :: rest) a w := by
  obtain ⟨z, hr⟩ := run_xor32 u v t
  exact wpList_bin hgd .xor t t' x y ho _ _ _ hx hy hg (hr w) (h z)
theorem wpList_shr32 {ops : Array Oper} {rest : List Oper} {o : Oper} {a : Act} {w : World} {Q : Exit → Act → World → Prop} (hgd : o.guard = none) (t t' : TypeId) (x y : Operand) (ho : o.op = .binOp .shr t x y t') (u : Int)
    (hx : a.eval x = .int .u32 u) (hy : a.eval y = .int .u64 7) (hg : (eqGuard .shr t x y (.int .u32 u) (.int .u64 7)).run Try.prog w = .ok () w) (h : ∀ z : Int, wpList Try.prog ops Q rest (a.put o.dst (.int .u32 z)) w) : wpList Try.prog ops Q (o :: rest) a w := by
  obtain ⟨z, hr⟩ := run_shr32 u t
  exact wpList_bin hgd .shr t t' x y ho _ _ _ hx hy hg (hr w) (h z)

/-- what a bell's call leaves -/
def RingPost (w : World) (bl : Nat) (ma : Option Addr) (n mc : Nat) (lo hi : Int) (e : Ending) (w' : World) : Prop :=
  ∃ x : Int, lo ≤ x ∧ x ≤ hi ∧ e = .returned (.int .i64 x) ∧ BellOk w' bl ma n mc ∧ Hold (fun k => k ≠ bl) w w'

theorem blk_cells3 {W : World} {b : Nat} {v0 v1 v2 : Value} {ty : TypeId} (h : W.heap[b]? = some (.cells #[v0, v1, v2] ty (0, 0))) :
    (W.cell? ⟨b, 0, none⟩ = some v0 ∧ W.cell? ⟨b, 1, none⟩ = some v1 ∧ W.cell? ⟨b, 2, none⟩ = some v2) ∧ W.frozen? ⟨b, 1, none⟩ = false ∧ W.frozen? ⟨b, 2, none⟩ = false := by
  refine ⟨⟨?_, ?_, ?_⟩, frozen_of_row W b 1 _ _ h, frozen_of_row W b 2 _ _ h⟩ <;> simp [World.cell?, h]

theorem bell_set {w : World} {bl : Nat} {ma : Option Addr} {n mc at_ : Nat} {turn : Int} (h : BellAt w bl ma n mc at_ turn) (o : Nat) (v : Value) : n ≠ 0 → ∃ mb mo, ma = some ⟨mb, mo, none⟩ ∧ mb < (w.setCell ⟨bl, o, none⟩ v).heap.size ∧ mb ≠ bl ∧ ∀ i, i < n → ∃ x : Int, 0 ≤ x ∧ x ≤ 255 ∧ (w.setCell ⟨bl, o, none⟩ v).cell? ⟨mb, mo + i, none⟩ = some (.int .u8 x) := fun hn => by
  obtain ⟨mb, mo, e, l, ne, hc⟩ := h.metal hn
  have hh : Hold (fun k => k ≠ bl) w (w.setCell ⟨bl, o, none⟩ v) := Hold.setCell _ _ _ (fun h => h rfl)
  exact ⟨mb, mo, e, Nat.lt_of_lt_of_le l hh.size, ne, fun i hi => by obtain ⟨x, x0, x1, hx⟩ := hc i hi; exact ⟨x, x0, x1, (hh.cell (p := ⟨mb, mo + i, none⟩) ne l).trans hx⟩⟩
theorem BellAt.set1 {w : World} {bl : Nat} {ma : Option Addr} {n mc at_ : Nat} {turn : Int} (h : BellAt w bl ma n mc at_ turn) (a2 : Nat) (x : Int) (hx : x = a2) (hle : a2 ≤ n) : BellAt (w.setCell ⟨bl, 1, none⟩ (.int .i64 x)) bl ma n mc a2 turn := by
  subst hx
  exact ⟨heap_set_same _ h.box, hle, h.big, h.turn0, h.turn1, bell_set h _ _⟩
theorem BellAt.set2 {w : World} {bl : Nat} {ma : Option Addr} {n mc at_ : Nat} {turn : Int} (h : BellAt w bl ma n mc at_ turn) (t2 : Int) (h0 : 0 ≤ t2) (h1 : t2 ≤ 4294967295) : BellAt (w.setCell ⟨bl, 2, none⟩ (.int .u32 t2)) bl ma n mc at_ t2 :=
  ⟨heap_set_same _ h.box, h.le, h.big, h0, h1, bell_set h _ _⟩
theorem BellAt.drewN {w : World} {bl : Nat} {ma : Option Addr} {n mc at_ : Nat} {turn : Int} (h : BellAt w bl ma n mc at_ turn) (q : Nat) : BellAt (w.drewN q) bl ma n mc at_ turn := ⟨h.box, h.le, h.big, h.turn0, h.turn1, h.metal⟩
theorem Hold.drewN (Kp : Nat → Prop) (w : World) (q : Nat) : Hold Kp w (w.drewN q) := ⟨rfl, rfl, rfl, Nat.le_refl _, fun _ _ _ => rfl⟩
theorem Hold.set (w : World) (bl o : Nat) (v : Value) : Hold (fun k => k ≠ bl) w (w.setCell ⟨bl, o, none⟩ v) := Hold.setCell _ _ _ (fun h => h rfl)

set_option maxHeartbeats 2000000 in
set_option maxRecDepth 100000 in
theorem ring_any (bl : Nat) (ma : Option Addr) (n mc : Nat) (w : World) (hb : BellOk w bl ma n mc) :
    Calls Try.prog 135 #[.pointer (some ⟨bl, 0, none⟩)] w (RingPost w bl ma n mc 0 65535) := by
  obtain ⟨at_, turn, h⟩ := hb
  obtain ⟨⟨c0, c1, c2⟩, f1, f2⟩ := blk_cells3 h.box
  have t0 := h.turn0
  have t1 := h.turn1
  have hle := h.le
  have hbig := h.big
  have hlt := h.lt
  have H := Lib.hid h
  clear h
  by_cases he : at_ = n
  · subst he
    have hmet := H.out.metal
    by_cases hn0 : at_ = 0
    · subst hn0
      clear hmet
      go_enter Try.func135, Try.ntmps135
      go_wp2
      go_quiet (fail)
      go_wp2_with (first | ((with_reducible refine wpList_shr32 rfl 157 186 _ _ rfl _ rfl rfl rfl ?_); intro z1) | ((with_reducible refine wpList_xor32 rfl 157 157 _ _ rfl _ _ rfl rfl rfl ?_); intro z2) | ((with_reducible refine wpList_and32 rfl 157 157 _ _ rfl _ rfl rfl rfl ?_); intro z z0 z65))
      go_ret
      refine ⟨z, z0, z65, rfl, ?_, ?_⟩
      · exact ⟨0, _, ((H.out.drewN _).set1 0 0 rfl (Nat.zero_le _)).set2 _ (by omega) (by omega)⟩
      · exact ((Hold.drewN _ _ _).trans (Hold.set _ _ _ _)).trans (Hold.set _ _ _ _)
    · have hn1 : (0 : Int) < at_ := by omega
      obtain ⟨mb, mo, rfl, ml, mne, hm⟩ := hmet hn0
      obtain ⟨x, x0, x1, hx⟩ := hm 0 (by omega)
      clear hm
      rw [Nat.add_zero] at hx
      go_enter Try.func135, Try.ntmps135
      go_wp2
      go_quiet (fail)
      go_wp2_with (first | ((with_reducible refine wpList_shr32 rfl 157 186 _ _ rfl _ rfl rfl rfl ?_); intro z1) | ((with_reducible refine wpList_xor32 rfl 157 157 _ _ rfl _ _ rfl rfl rfl ?_); intro z2) | ((with_reducible refine wpList_and32 rfl 157 157 _ _ rfl _ rfl rfl rfl ?_); intro z z0 z65))
      go_quiet (fail)
      go_wp2_with (first | ((with_reducible refine wpList_shr32 rfl 157 186 _ _ rfl _ rfl rfl rfl ?_); intro z1) | ((with_reducible refine wpList_xor32 rfl 157 157 _ _ rfl _ _ rfl rfl rfl ?_); intro z2) | ((with_reducible refine wpList_and32 rfl 157 157 _ _ rfl _ rfl rfl rfl ?_); intro z z0 z65))
      go_ret
      refine ⟨z, z0, z65, rfl, ?_, ?_⟩
      · exact ⟨1, _, ((((H.out.drewN _).set1 0 0 rfl (Nat.zero_le _)).set2 _ (by omega) (by omega)).drewN _).set1 1 1 rfl (by omega)⟩
      · exact ((((Hold.drewN _ _ _).trans (Hold.set _ _ _ _)).trans (Hold.set _ _ _ _)).trans (Hold.drewN _ _ _)).trans (Hold.set _ _ _ _)
  · have hne : ((at_ : Int) == (n : Int)) = false := by simp; omega
    have hltn : at_ < n := by omega
    have hn0 : (0 : Int) < n := by omega
    have hat : (at_ : Int) < n := by omega
    obtain ⟨mb, mo, rfl, ml, mne, hm⟩ := H.out.metal (by omega)
    obtain ⟨x, x0, x1, hx⟩ := hm at_ hltn
    clear hm he
    go_enter Try.func135, Try.ntmps135
    go_wp2
    go_quiet (fail)
    go_wp2
    go_quiet (fail)
    go_wp2_with (first | ((with_reducible refine wpList_shr32 rfl 157 186 _ _ rfl _ rfl rfl rfl ?_); intro z1) | ((with_reducible refine wpList_xor32 rfl 157 157 _ _ rfl _ _ rfl rfl rfl ?_); intro z2) | ((with_reducible refine wpList_and32 rfl 157 157 _ _ rfl _ rfl rfl rfl ?_); intro z z0 z65))
    go_ret
    refine ⟨z, z0, z65, rfl, ?_, ?_⟩
    · exact ⟨at_ + 1, _, (H.out.drewN _).set1 (at_ + 1) _ (by push_cast; rfl) (by omega)⟩
    · exact (Hold.drewN _ _ _).trans (Hold.set _ _ _ _)
theorem BellOk.hold {w w' : World} {bl : Nat} {ma : Option Addr} {n mc : Nat} (h : BellOk w bl ma n mc) {Kp : Nat → Prop} (hh : Hold Kp w w') (h1 : Kp bl) (h2 : n ≠ 0 → ∀ mb mo, ma = some ⟨mb, mo, none⟩ → Kp mb) : BellOk w' bl ma n mc := by
  obtain ⟨a, t, h⟩ := h; exact ⟨a, t, h.hold hh h1 h2⟩
set_option maxHeartbeats 1000000 in
set_option maxRecDepth 100000 in
theorem stroke_any (bl : Nat) (ma : Option Addr) (n mc : Nat) (m : Nat) (hm : m ≤ 1000000) (w : World) (hb : BellOk w bl ma n mc) :
    Calls Try.prog 75 #[.pointer (some ⟨bl, 0, none⟩), .int .i64 m] w (RingPost w bl ma n mc 0 m) := by
  have HR := Lib.hid (ring_any bl ma n mc w hb)
  clear hb
  go_enter Try.func75, Try.ntmps75
  go_wp2_with fail
  refine HR.out.mono ?_
  rintro e w' ⟨x, x0, x1, rfl, hB, hH⟩
  have HB := Lib.hid hB
  have HH := Lib.hid hH
  clear hB hH HR
  go_wp2
  go_ret
  have e1 : max (1 : Int) ((m : Int) + 1) = m + 1 := by omega
  exact ⟨x % max 1 ((m : Int) + 1), by rw [e1]; exact Int.emod_nonneg _ (by omega), by rw [e1]; have := Int.emod_lt_of_pos x (b := (m : Int) + 1) (by omega); omega, rfl, HB.out, HH.out⟩

set_option maxHeartbeats 1000000 in
set_option maxRecDepth 100000 in
theorem strike_any (bl : Nat) (ma : Option Addr) (n mc : Nat) (lo hi : Int) (m : Nat) (hlh : hi = lo + m) (hm : m ≤ 1000000) (h0 : -1000000 ≤ lo) (h1 : lo ≤ 1000000) (w : World) (hb : BellOk w bl ma n mc) :
    Calls Try.prog 68 #[.pointer (some ⟨bl, 0, none⟩), .int .i64 lo, .int .i64 hi] w (RingPost w bl ma n mc lo hi) := by
  subst hlh
  have HR := Lib.hid (stroke_any bl ma n mc m hm w hb)
  have hs : lo + (m : Int) - lo = m := by omega
  have hm' : (m : Int) ≤ 1000000 := by omega
  clear hb
  go_enter Try.func68, Try.ntmps68
  go_wp2_with fail
  refine HR.out.mono ?_
  rintro e w' ⟨x, x0, x1, rfl, hB, hH⟩
  have HB := Lib.hid hB
  have HH := Lib.hid hH
  clear hB hH HR
  go_wp2
  go_ret
  exact ⟨lo + x, by omega, by omega, rfl, HB.out, HH.out⟩

/-- what Hang leaves -/
theorem hang_any (ma : Option Addr) (n mc : Nat) (w : World) :
    Calls Try.prog 55 #[.slice ma n mc] w fun e w' => e = .returned (.pointer (some ⟨w.heap.size, 0, none⟩)) ∧ w.alloc (.cells #[.slice ma n mc, .int .i64 0, .int .u32 0] 159) = w' := by
  go_enter Try.func55, Try.ntmps55
  go_wp2
  go_ret
  exact ⟨rfl, rfl⟩

theorem stroke_neg (bl : Nat) (ma : Option Addr) (n mc : Nat) (w : World) (hb : BellOk w bl ma n mc) (m : Int) (hm : m < 1) (hm2 : -1000000 ≤ m) :
    Calls Try.prog 75 #[.pointer (some ⟨bl, 0, none⟩), .int .i64 m] w (RingPost w bl ma n mc 0 0) := by
  have HR := Lib.hid (ring_any bl ma n mc w hb)
  clear hb
  go_enter Try.func75, Try.ntmps75
  go_wp2_with fail
  refine HR.out.mono ?_
  rintro e w' ⟨x, x0, x1, rfl, hB, hH⟩
  have HB := Lib.hid hB
  have HH := Lib.hid hH
  clear hB hH HR
  have hm3 : m ≤ 1000000 := by omega
  have HM := Lib.hid hm
  clear hm
  go_wp2
  go_ret
  have e1 : max (1 : Int) (m + 1) = 1 := by have := HM.out; omega
  exact ⟨x % max 1 (m + 1), by rw [e1]; omega, by rw [e1]; omega, rfl, HB.out, HH.out⟩
set_option maxHeartbeats 1000000 in
theorem seldom_any (bl : Nat) (ma : Option Addr) (n mc : Nat) (m : Nat) (hm1 : 1 ≤ m) (hm : m ≤ 1000000) (w : World) (hb : BellOk w bl ma n mc) :
    Calls Try.prog 69 #[.pointer (some ⟨bl, 0, none⟩), .int .i64 m] w fun e w' => ∃ x : Bool, e = .returned (.bool x) ∧ BellOk w' bl ma n mc ∧ Hold (fun k => k ≠ bl) w w' := by
  obtain ⟨q, rfl⟩ : ∃ q, m = q + 1 := ⟨m - 1, by omega⟩
  have HR := Lib.hid (stroke_any bl ma n mc q (by omega) w hb)
  have hs : ((q + 1 : Nat) : Int) - 1 = q := by omega
  have hq : ((q + 1 : Nat) : Int) ≤ 1000000 := by omega
  have hq0 : 0 ≤ ((q + 1 : Nat) : Int) := by omega
  generalize ((q + 1 : Nat) : Int) = mi at hs hq hq0
  clear hb
  go_enter Try.func69, Try.ntmps69
  go_wp2_with fail
  refine HR.out.mono ?_
  rintro e w' ⟨x, x0, x1, rfl, hB, hH⟩
  have HB := Lib.hid hB
  have HH := Lib.hid hH
  clear hB hH HR
  go_wp2
  go_ret
  exact ⟨_, rfl, HB.out, HH.out⟩
end Go.Proofs.Ytadnggecnjdhiaa
namespace Go.Proofs.Ytadnggecnjdhiaa.Rk
set_option linter.unusedSimpArgs false
set_option linter.unusedVariables false
open Go Go.RowKit Go.Proofs.Ytadnggecnjdhiaa.Rs
open Go.Proofs.Ytadnggecnjdhiaa.Rg (IsGr)
variable {P : Program} {ops : Array Oper}

/-- what an operation leaves, where it only adds to the memory -/
def GrowAt (G : World → World → Prop) (P : Program) (o : Oper) (a : Act) (w : World) (Φ : Value → World → Prop) : Prop :=
  match (execOp a.eval o).run P w with
  | .ok (.value v) w' => G w w' ∧ Φ v w'
  | .ok .skip w' => G w w' ∧ Φ undef w'
  | .ok (.enter f args) w' => w' = w ∧ Calls P f args w' (fun e w'' => ∃ v, e = .returned v ∧ G w w'' ∧ Φ v w'')
  | _ => False

/-- what is asked of one operation -/
def StepOk (G : World → World → Prop) (P : Program) (ops : Array Oper) (o : Oper) (a : Act) (w : World) (Φ : Value → World → Prop) : Prop :=
  if Region.wanted o (yielded ops a.tmps) = true then GrowAt G P o a w Φ else Φ undef w

section main
variable {n : Nat} {dl : List (List Nat)} {a0 : Act} {w0 : World} {Q : Exit → Act → World → Prop}

structure Inv (G : World → World → Prop) (j0 : Nat) (ops : Array Oper) (n : Nat) (dl : List (List Nat)) (Spec : Nat → Bool → List Value → Value → World → Prop) (a0 : Act) (w0 : World) (V : Nat → Value) (listed : Array Bool) (a : Act) (w : World) : Prop where
  head : HeadInv .any ops n listed
  size : a.tmps.size = a0.tmps.size
  defers : a.defers = a0.defers
  slot : ∀ k, k < n → listed.getD k false = true → ∀ d, dstOf ops k = some d → d < a0.tmps.size → a.tmps[d]? = some (V k)
  other : ∀ d, (∀ k, k < n → listed.getD k false = true → dstOf ops k ≠ some d) → a.tmps[d]? = a0.tmps[d]?
  spec : ∀ k, k < n → listed.getD k false = true → Spec k (listed.getD j0 false) ((dl.getD k []).map V) (V k) w
  gr : G w0 w

theorem Inv.looks {G : World → World → Prop} {j0 : Nat} {Spec : Nat → Bool → List Value → Value → World → Prop} {V : Nat → Value} {listed : Array Bool} {a : Act} {w : World} (inv : Inv G j0 ops n dl Spec a0 w0 V listed a w) {i : Nat} {o : Oper} (hi : ops[i]? = some o) (_hin : i < n) (hiu : listed.getD i false = false)
    (hr : ∀ e ∈ o.after, Region.binds .any e = true → listed.getD e.on false = true)
    (hdl : ∀ k ∈ dl.getD i [], k < n ∧ k ∈ depsOf ops n i)
    (hlook : ∀ k, k < n → ∀ d, dstOf ops k = some d → (d ∈ o.looksAt ops → k ∈ dl.getD i [] ∨ i ∈ depsOf ops n k ∨ i = k) ∧ True)
    (hnd : ∀ j k, j < n → k < n → j ≠ k → ∀ d, dstOf ops k = some d → dstOf ops j ≠ some d) :
    ∀ d ∈ o.looksAt ops, a.tmps[d]? = (canon ops V a0 (dl.getD i [])).tmps[d]? := by
  intro d hd
  have hdep : ∀ k ∈ dl.getD i [], listed.getD k false = true := fun k hk => depsOf_listed inv.head.closed n i (fun o' ho' => by rw [hi] at ho'; cases ho'; exact hr) k (hdl k hk).2
  by_cases hlt : d < a0.tmps.size
  · by_cases hex : ∃ k, k ∈ dl.getD i [] ∧ dstOf ops k = some d
    · obtain ⟨k, hk, hkd⟩ := hex
      rw [inv.slot k (hdl k hk).1 (hdep k hk) d hkd hlt, canon_in V hkd _ _ hk (fun j hj hjk => hnd j k (hdl j hj).1 (hdl k hk).1 hjk d hkd) hlt]
    · rw [canon_out V _ _ (fun k hk e => hex ⟨k, hk, e⟩)]
      refine inv.other d (fun k hk hl e => ?_)
      rcases (hlook k hk d e).1 hd with h | h | h
      · exact hex ⟨k, h, e⟩
      · have := depsOf_listed inv.head.closed n k (fun o' ho' e' he' hb' => inv.head.closed k o' ho' hl e' he' hb') i h
        rw [hiu] at this; cases this
      · subst h; rw [hiu] at hl; cases hl
  · have e1 : a.tmps[d]? = none := Array.getElem?_eq_none (by rw [inv.size]; exact Nat.le_of_not_lt hlt)
    have e2 : (canon ops V a0 (dl.getD i [])).tmps[d]? = none := Array.getElem?_eq_none (by rw [size_canon]; exact Nat.le_of_not_lt hlt)
    rw [e1, e2]

theorem Inv.step {G : World → World → Prop} {j0 : Nat} (hG : IsGr G) {Spec : Nat → Bool → List Value → Value → World → Prop} {V : Nat → Value} {listed : Array Bool} {a : Act} {w w' : World} (inv : Inv G j0 ops n dl Spec a0 w0 V listed a w) {i : Nat} {o : Oper} {v : Value} (hi : ops[i]? = some o) (hin : i < n) (hiu : listed.getD i false = false)
    (hri : i ∈ Region.ready .any ops listed)
    (hdl : ∀ j, j < n → ∀ k ∈ dl.getD j [], k < n ∧ k ∈ depsOf ops n j)
    (hnd : ∀ j k, j < n → k < n → j ≠ k → ∀ d, dstOf ops k = some d → dstOf ops j ≠ some d)
    (stable : ∀ k L v, Spec k (listed.getD j0 false) L v w → Spec k (listed.getD j0 false || i == j0) L v w')
    (hg : G w w') (hs : Spec i (listed.getD j0 false || i == j0) ((dl.getD i []).map V) v w') :
    Inv G j0 ops n dl Spec a0 w0 (fun k => if k = i then v else V k) (listed.setIfInBounds i true) (a.put o.dst v) w' := by
  have hisz : i < listed.size := by rw [inv.head.size]; exact (Array.getElem?_eq_some_iff.1 hi).1
  have hdst : dstOf ops i = o.dst := by simp [dstOf, hi]
  have hdep : ∀ k, k < n → (k = i ∨ listed.getD k false = true) → ∀ j ∈ dl.getD k [], j ≠ i := fun k hk hkl j hj e => by
    have hm := (hdl k hk j hj).2
    rw [e] at hm
    have : listed.getD i false = true := by
      rcases hkl with rfl | hkl
      · obtain ⟨_, o', ho', hall⟩ := mem_ready.1 hri
        exact depsOf_listed inv.head.closed n k (fun o'' ho'' => by rw [ho'] at ho''; cases ho''; exact hall) k hm
      · exact depsOf_listed inv.head.closed n k (fun o' ho' e' he' hb' => inv.head.closed k o' ho' hkl e' he' hb') i hm
    rw [hiu] at this; cases this
  have hmap : ∀ k, k < n → (k = i ∨ listed.getD k false = true) → (dl.getD k []).map (fun k => if k = i then v else V k) = (dl.getD k []).map V := fun k hk hkl =>
    List.map_congr_left fun j hj => by rw [if_neg (hdep k hk hkl j hj)]
  have hj0 : (listed.setIfInBounds i true).getD j0 false = (listed.getD j0 false || i == j0) := by
    by_cases e : i = j0
    · subst e; simp [hisz]
    · rw [getD_set_ne false e]; simp [e]
  refine ⟨inv.head.set hri hin, ?_, ?_, fun k hk hl d hd hlt => ?_, fun d hd => ?_, fun k hk hl => ?_, hG.trans inv.gr hg⟩
  · rw [← inv.size]; cases o.dst <;> simp [Act.put]
  · rw [← inv.defers]; cases o.dst <;> rfl
  · by_cases hki : k = i
    · subst hki
      rw [hdst] at hd
      rw [if_pos rfl, hd]
      simp [Act.put, inv.size, hlt]
    · rw [if_neg hki]
      rw [getD_set_ne false (fun e => hki e.symm)] at hl
      rw [← inv.slot k hk hl d hd hlt]
      cases ho : o.dst with
      | none => rfl
      | some d' =>
        simp only [Act.put]
        exact Array.getElem?_setIfInBounds_ne (fun e => hnd i k hin hk (fun e => hki e.symm) d hd (by rw [hdst, ho, e]))
  · have h1 : dstOf ops i ≠ some d := hd i hin (by simp [hisz])
    rw [hdst] at h1
    rw [← inv.other d (fun k hk hl e => by
      by_cases hki : k = i
      · subst hki; exact h1 (by rw [← hdst]; exact e)
      · exact hd k hk (by rw [getD_set_ne false (fun e => hki e.symm)]; exact hl) e)]
    cases ho : o.dst with
    | none => rfl
    | some d' => simp only [Act.put]; exact Array.getElem?_setIfInBounds_ne (fun e => h1 (by rw [ho, e]))
  · by_cases hki : k = i
    · subst hki
      rw [hmap k hk (.inl rfl), hj0]
      simp only [if_true]
      exact hs
    · rw [getD_set_ne false (fun e => hki e.symm)] at hl
      rw [hmap k hk (.inr hl), hj0]
      simp only [if_neg hki]
      exact stable _ _ _ (inv.spec k hk hl)

theorem head_all {G : World → World → Prop} {j0 : Nat} {Gi : Nat → World → World → Prop} (hG : IsGr G) (hA : ∀ i a b, Gi i a b → G a b) (hRf : ∀ i a, Gi i a a) {Spec : Nat → Bool → List Value → Value → World → Prop} (g : Nat)
    (hsel : ∀ (j : Nat) (o : Oper) cs b, ops[j]? = some o → o.op ≠ .select cs b) (hn : n ≤ ops.size)
    (hsink : n = ops.size ∨ (Region.sinkB .any ops n = true ∧ Region.chainB .any ops n = true))
    (hlow : ∀ i, i < n → ∀ o, ops[i]? = some o → ∀ e ∈ o.after, Region.binds .any e = true → e.on < i)
    (hdl : ∀ j, j < n → ∀ k ∈ dl.getD j [], k < n ∧ k ∈ depsOf ops n j)
    (hlook : ∀ i, i < n → ∀ o, ops[i]? = some o → ∀ k, k < n → ∀ d, dstOf ops k = some d → (d ∈ o.looksAt ops → k ∈ dl.getD i [] ∨ i ∈ depsOf ops n k ∨ i = k) ∧ True)
    (hnd : ∀ j k, j < n → k < n → j ≠ k → ∀ d, dstOf ops k = some d → dstOf ops j ≠ some d)
    (stable : ∀ i c w w', (i = j0 → c = false) → Gi i w w' → ∀ k L v, Spec k c L v w → Spec k (c || i == j0) L v w')
    (step : ∀ i o V w c, ops[i]? = some o → i < n → G w0 w → (i = j0 → c = false) → (∀ k ∈ dl.getD i [], Spec k c ((dl.getD k []).map V) (V k) w) → StepOk (Gi i) P ops o (canon ops V a0 (dl.getD i [])) w (Spec i (c || i == j0) ((dl.getD i []).map V)))
    (fin : ∀ V listed a w, Inv G j0 ops n dl Spec a0 w0 V listed a w → (∀ k, k < n → listed.getD k false = true) → wpAny P .any ops Q g listed a w) :
    ∀ (f : Nat) (V : Nat → Value) (listed : Array Bool) (a : Act) (w : World), left n listed = f → Inv G j0 ops n dl Spec a0 w0 V listed a w → wpAny P .any ops Q (f + g) listed a w := by
  intro f
  induction f with
  | zero => intro V listed a w hf inv; rw [Nat.zero_add]; exact fin V listed a w inv (left_zero hf)
  | succ f ih =>
    intro V listed a w hf inv
    have hun : ∃ i, i < n ∧ listed.getD i false = false ∧ ∀ j, j < i → listed.getD j false = true := by
      have hex : ∃ i, i < n ∧ listed.getD i false = false := by
        apply Classical.byContradiction
        intro hno
        have : left n listed = 0 := by
          unfold left
          rw [List.length_eq_zero_iff, List.filter_eq_nil_iff]
          intro i hi
          cases hv : listed.getD i false with
          | true => simp
          | false => exact absurd ⟨i, List.mem_range.1 hi, hv⟩ hno
        omega
      obtain ⟨i, h1, h2⟩ := hex
      induction i using Nat.strongRecOn with
      | _ i ihi =>
        by_cases h3 : ∀ j, j < i → listed.getD j false = true
        · exact ⟨i, h1, h2, h3⟩
        · simp only [Classical.not_forall] at h3
          obtain ⟨j, hj, hj2⟩ := h3
          exact ihi j hj (by omega) (by simpa using hj2)
    obtain ⟨i0, hi0, hi0u, hi0m⟩ := hun
    have hready0 : i0 ∈ Region.ready .any ops listed := by
      rw [mem_ready]
      have hlt : i0 < ops.size := by omega
      refine ⟨getD_in (by rw [inv.head.size]; exact hlt) hi0u, ops[i0], Array.getElem?_eq_getElem hlt, fun e he hb => hi0m _ (hlow i0 hi0 _ (Array.getElem?_eq_getElem hlt) e he hb)⟩
    rw [show f + 1 + g = (f + g) + 1 by omega]
    refine ⟨fun h => (by rw [h] at hready0; cases hready0), fun i hi => ?_⟩
    obtain ⟨hiu, o, ho, hall⟩ := mem_ready.1 hi
    have hiu' := getD_both hiu
    have hilt : i < ops.size := (Array.getElem?_eq_some_iff.1 ho).1
    have hin : i < n := by
      rcases hsink with h | ⟨h1, h2⟩
      · omega
      · by_cases hns : n < ops.size
        · rcases Nat.lt_or_ge i n with h | h
          · exact h
          · exact absurd hi (tail_waits h1 h2 hns inv.head _ i0 rfl hi0 (getD_in (by rw [inv.head.size]; omega) hi0u) i h)
        · omega
    have hc0 : i = j0 → listed.getD j0 false = false := fun e => by rw [← e]; exact hiu'
    have hso := step i o V w (listed.getD j0 false) ho hin inv.gr hc0 (fun k hk => inv.spec k (hdl i hin k hk).1 (depsOf_listed inv.head.closed n i (fun o' ho' => by rw [ho] at ho'; cases ho'; exact hall) k (hdl i hin k hk).2))
    have hlk := inv.looks ho hin hiu' hall (hdl i hin) (hlook i hin o ho) hnd
    have hw := wanted_congr (ops := ops) o hlk
    have hex := exec_congr (ops := ops) o (fun cs b => hsel i o cs b ho) hlk
    have hnext : ∀ v w', Gi i w w' → Spec i (listed.getD j0 false || i == j0) ((dl.getD i []).map V) v w' → wpAny P .any ops Q (f + g) (listed.setIfInBounds i true) (a.put o.dst v) w' := fun v w' hg hs =>
      ih _ _ _ _ (by have := left_set (n := n) hin (by rw [inv.head.size]; exact hilt) hiu'; omega) (inv.step hG ho hin hiu' hi hdl hnd (stable i _ _ _ hc0 hg) (hA _ _ _ hg) hs)
    unfold StepOk at hso
    rw [← hw] at hso
    unfold wpOp
    simp only [ho]
    by_cases hwt : Region.wanted o (yielded ops a.tmps) = true
    · rw [if_pos hwt] at hso ⊢
      refine .inl ?_
      unfold GrowAt at hso
      unfold Oper.wp
      rw [← hex] at hso
      generalize (execOp a.eval o).run P w = r at hso
      cases r with
      | halt x w' => exact hso.elim
      | ok nx w' =>
        cases nx with
        | value v => exact hnext v w' hso.1 hso.2
        | skip => exact hnext undef w' hso.1 hso.2
        | enter fn args =>
          refine hso.2.mono ?_
          rintro e w'' ⟨v, rfl, h1, h2⟩
          exact hnext v w'' h1 h2
        | _ => exact hso.elim
    · rw [if_neg hwt] at hso ⊢
      exact hnext undef w (hRf _ _) hso

/-- **THE REGION**, by what each operation leaves -/
theorem region_spec {G : World → World → Prop} {j0 : Nat} {Gi : Nat → World → World → Prop} (hG : IsGr G) (hA : ∀ i a b, Gi i a b → G a b) (hRf : ∀ i a, Gi i a a) {id : Nat} {l : List Oper} {w : World} {a0 : Act} {Q : Exit → Act → World → Prop} (n : Nat) (dl : List (List Nat)) (hm : P.follows .mixedOrders = true) (hB : shapeB l.toArray n dl = true)
    (hj0 : j0 < n) (Spec : Nat → Bool → List Value → Value → World → Prop) (stable : ∀ i c w w', (i = j0 → c = false) → Gi i w w' → ∀ k L v, Spec k c L v w → Spec k (c || i == j0) L v w')
    (step : ∀ i o V w' c, l[i]? = some o → i < n → G w w' → (i = j0 → c = false) → (∀ k ∈ dl.getD i [], Spec k c ((dl.getD k []).map V) (V k) w') → StepOk (Gi i) P l.toArray o (canon l.toArray V a0 (dl.getD i [])) w' (Spec i (c || i == j0) ((dl.getD i []).map V)))
    (fin : ∀ V w', G w w' → (∀ k, k < n → Spec k true ((dl.getD k []).map V) (V k) w') → wpList P l.toArray Q (l.drop n) (canon l.toArray V a0 (List.range n)) w') :
    (Code.region id l.toArray true).wp P Q a0 w := by
  simp only [shapeB, Bool.and_eq_true, decide_eq_true_eq, Bool.or_eq_true] at hB
  obtain ⟨⟨⟨⟨⟨hsel, hn⟩, hdlen⟩, hsink⟩, hall⟩, hseq⟩ := hB
  rw [List.all_eq_true] at hall
  have hops : ∀ i, i < n → ∃ o, l.toArray[i]? = some o ∧ (∀ e ∈ o.after, Region.binds .any e = true → e.on < i) ∧ (∀ k ∈ dl.getD i [], k < n ∧ k ∈ depsOf l.toArray n i) ∧
      (∀ k, k < n → ∀ d, dstOf l.toArray k = some d → (d ∈ o.looksAt l.toArray → k ∈ dl.getD i [] ∨ i ∈ depsOf l.toArray n k ∨ i = k) ∧ (k ≠ i → dstOf l.toArray i ≠ some d)) := by
    intro i hi
    have h := hall i (List.mem_range.2 hi)
    cases ho : l.toArray[i]? with
    | none => rw [ho] at h; cases h
    | some o =>
      rw [ho] at h
      simp only [Bool.and_eq_true, List.all_eq_true] at h
      obtain ⟨⟨h1, h2⟩, h3⟩ := h
      refine ⟨o, rfl, fun e he hb => ?_, fun k hk => ?_, fun k hk d hd => ?_⟩
      · have := h1 e (by simpa using he)
        rw [hb] at this; simpa using this
      · have := h2 k hk
        simpa using this
      · have := h3 k (List.mem_range.2 hk)
        rw [hd] at this
        simp only [Bool.and_eq_true, Bool.or_eq_true, Bool.not_eq_true', beq_iff_eq, decide_eq_true_eq, List.contains_iff_mem] at this
        refine ⟨fun hm => ?_, fun hne => ?_⟩
        · rcases this.1 with ((h | h) | h) | h
          · rw [show (o.looksAt l.toArray).contains d = true from List.contains_iff_mem.2 hm] at h; cases h
          · exact .inl h
          · exact .inr (.inl h)
          · exact .inr (.inr h)
        · rcases this.2 with h | h
          · exact absurd h hne
          · exact h
  have hnd : ∀ j k, j < n → k < n → j ≠ k → ∀ d, dstOf l.toArray k = some d → dstOf l.toArray j ≠ some d := fun j k hj hk hne d hd => by
    obtain ⟨o, _, _, _, h⟩ := hops j hj
    exact (h k hk d hd).2 (fun e => hne e.symm)
  refine wp_region_any hm ?_
  have inv0 : Inv G j0 l.toArray n dl Spec a0 w (fun _ => undef) (Array.replicate l.toArray.size false) a0 { w with drawn := w.drawn + 1 } :=
    ⟨⟨by simp, fun j oj _ hl => (by rw [getD_replicate_false] at hl; cases hl), fun t _ ht => getD_in (by simpa using ht) (getD_replicate_false _ _)⟩, rfl, rfl,
      fun k _ hl => (by rw [getD_replicate_false] at hl; cases hl), fun _ _ => rfl, fun k _ hl => (by rw [getD_replicate_false] at hl; cases hl), hG.drew _⟩
  have hleft : left n (Array.replicate l.toArray.size false) = n := by
    unfold left
    rw [List.filter_eq_self.2 (fun i _ => by rw [getD_replicate_false]; rfl)]
    simp
  have := head_all hG hA hRf (P := P) (Q := Q) (Spec := Spec) (dl := dl) (a0 := a0) (w0 := w) (l.toArray.size - n) (Region.noSelect_spec hsel) hn (by rcases hsink with h | h; exact .inl h; exact .inr h)
    (fun i hi o ho e he hb => by obtain ⟨o', ho', h1, _⟩ := hops i hi; rw [ho] at ho'; cases ho'; exact h1 e he hb)
    (fun j hj => by obtain ⟨_, _, _, h, _⟩ := hops j hj; exact h)
    (fun i hi o ho k hk d hd => by obtain ⟨o', ho', _, _, h⟩ := hops i hi; rw [ho] at ho'; cases ho'; exact ⟨(h k hk d hd).1, trivial⟩)
    hnd stable (fun i o V w' c ho => step i o V w' c (by simpa using ho)) ?_ n _ _ _ _ hleft inv0
  · rwa [show n + (l.toArray.size - n) = l.toArray.size by omega] at this
  · intro V listed a w' inv hl
    have hld : listed = ((List.range l.toArray.size).map (fun i => decide (i < n))).toArray := by
      apply Array.ext
      · rw [inv.head.size]; simp
      · intro i h1 h2
        have hi : i < l.toArray.size := by rw [inv.head.size] at h1; exact h1
        have e2 : ((List.range l.toArray.size).map (fun i => decide (i < n))).toArray[i] = decide (i < n) := by simp
        rw [e2]
        by_cases hin : i < n
        · have := hl i hin
          simp only [hin, decide_true]
          simpa [h1] using this
        · have := inv.head.tail i (by omega) hi
          simp only [hin, decide_false]
          simpa [h1] using this
    have hact : a = canon l.toArray V a0 (List.range n) := by
      have ht : a.tmps = (canon l.toArray V a0 (List.range n)).tmps := by
        apply Array.ext_getElem?
        intro d
        by_cases hlt : d < a0.tmps.size
        · by_cases hex : ∃ k, k < n ∧ dstOf l.toArray k = some d
          · obtain ⟨k, hk, hd⟩ := hex
            rw [inv.slot k hk (hl k hk) d hd hlt, canon_in V hd _ _ (List.mem_range.2 hk) (fun j hj hjk => hnd j k (List.mem_range.1 hj) hk hjk d hd) hlt]
          · rw [inv.other d (fun k hk _ e => hex ⟨k, hk, e⟩), canon_out V _ _ (fun k hk e => hex ⟨k, List.mem_range.1 hk, e⟩)]
        · have e1 : a.tmps[d]? = none := Array.getElem?_eq_none (by rw [inv.size]; exact Nat.le_of_not_lt hlt)
          have e2 : (canon l.toArray V a0 (List.range n)).tmps[d]? = none := Array.getElem?_eq_none (by rw [size_canon]; exact Nat.le_of_not_lt hlt)
          rw [e1, e2]
      have hdf : a.defers = (canon l.toArray V a0 (List.range n)).defers := by rw [inv.defers, defers_canon]
      obtain ⟨t, d⟩ := a
      generalize canon l.toArray V a0 (List.range n) = b at ht hdf
      obtain ⟨t', d'⟩ := b
      dsimp only at ht hdf
      rw [ht, hdf]
    have hf := fin V w' inv.gr (fun k hk => by have := inv.spec k hk (hl k hk); rwa [hl j0 hj0] at this)
    rw [← hact] at hf
    have hdl : (l.drop n).length = l.toArray.size - n := by simp
    have hsq := wpAny_of_seq (P := P) (md := .any) (Q' := Q) (l.drop n) n listed a w' (fun j => by simp [List.getElem?_drop]) (by rw [hdl, hld]; exact hseq) hf
    rwa [hdl] at hsq
/-- what an operation's operand holds: the value of an operation that it knows of, else what the slot held -/
def GrowL (G : World → World → Prop) (P : Program) (o : Oper) (ρ : Operand → Value) (w : World) (Φ : Value → World → Prop) : Prop :=
  match (execOp ρ o).run P w with
  | .ok (.value v) w' => G w w' ∧ Φ v w'
  | .ok .skip w' => G w w' ∧ Φ undef w'
  | .ok (.enter f args) w' => w' = w ∧ Calls P f args w' (fun e w'' => ∃ v, e = .returned v ∧ G w w'' ∧ Φ v w'')
  | _ => False
theorem GrowL.value {G : World → World → Prop} {o : Oper} {ρ : Operand → Value} {w w' : World} {v : Value} {Φ : Value → World → Prop} (h : (execOp ρ o).run P w = .ok (.value v) w') (hg : G w w') (hv : Φ v w') : GrowL G P o ρ w Φ := by
  unfold GrowL; rw [h]; exact ⟨hg, hv⟩
theorem GrowL.call {G : World → World → Prop} {o : Oper} {ρ : Operand → Value} {w : World} {Φ : Value → World → Prop} {f : FuncId} {args : Array Value} (h : (execOp ρ o).run P w = .ok (.enter f args) w) (hc : Calls P f args w (fun e w'' => ∃ v, e = .returned v ∧ G w w'' ∧ Φ v w'')) : GrowL G P o ρ w Φ := by
  unfold GrowL; rw [h]; exact ⟨rfl, hc⟩

/-- each operation by what it leaves, which may be told of what the others left -/
def genSteps (G : World → World → Prop) (j0 : Nat) (Gi : Nat → World → World → Prop) (P : Program) (ds : List (Option Nat)) (a0 : Act) (w : World) (dl0 : List (List Nat)) (Sp : Nat → Bool → List Value → Value → World → Prop) : List Oper → Nat → List (List Nat) → Prop
  | o :: l, i, d :: dl => (∀ (V : Nat → Value) w' c, G w w' → (i = j0 → c = false) → (∀ k ∈ d, Sp k c ((dl0.getD k []).map V) (V k) w') → if wantB o V = true then GrowL (Gi i) P o (Rs.look ds V a0 d) w' (Sp i (c || i == j0) (d.map V)) else Sp i (c || i == j0) (d.map V) undef w') ∧ genSteps G j0 Gi P ds a0 w dl0 Sp l (i + 1) dl
  | _, _, _ => True
theorem genSteps_get {G : World → World → Prop} {j0 : Nat} {Gi : Nat → World → World → Prop} {ds : List (Option Nat)} {a0 : Act} {w : World} {dl0 : List (List Nat)} {Sp : Nat → Bool → List Value → Value → World → Prop} : ∀ (l : List Oper) (i : Nat) (dl : List (List Nat)), genSteps G j0 Gi P ds a0 w dl0 Sp l i dl → ∀ (j : Nat) (o : Oper) (d : List Nat), l[j]? = some o → dl[j]? = some d →
    ∀ (V : Nat → Value) w' c, G w w' → (i + j = j0 → c = false) → (∀ k ∈ d, Sp k c ((dl0.getD k []).map V) (V k) w') → if wantB o V = true then GrowL (Gi (i + j)) P o (Rs.look ds V a0 d) w' (Sp (i + j) (c || i + j == j0) (d.map V)) else Sp (i + j) (c || i + j == j0) (d.map V) undef w'
  | [], _, _, _, j, o, d, ho, _ => by simp at ho
  | _ :: _, _, [], _, j, o, d, _, hd => by simp at hd
  | o' :: l, i, d' :: dl, h, 0, o, d, ho, hd => by simp at ho hd; subst ho; subst hd; exact h.1
  | o' :: l, i, d' :: dl, h, j + 1, o, d, ho, hd => by
    have := genSteps_get l (i + 1) dl h.2 j o d (by simpa using ho) (by simpa using hd)
    rwa [show i + (j + 1) = i + 1 + j by omega]

/-- **A region by what each of its first operations leaves**, in whatever order. -/
theorem region_gen {G : World → World → Prop} (j0 : Nat) (Gi : Nat → World → World → Prop) (hG : IsGr G) (hA : ∀ i a b, Gi i a b → G a b) (hRf : ∀ i a, Gi i a a) {id : Nat} {l : List Oper} {w : World} {a0 : Act} {Q : Exit → Act → World → Prop} (n : Nat) (dl : List (List Nat)) (ds : List (Option Nat)) (hj0 : j0 < n) (Sp : Nat → Bool → List Value → Value → World → Prop) (hm : P.follows .mixedOrders = true) (hB : shapeB l.toArray n dl = true) (hS : slotsB l.toArray n a0.tmps.size dl ds = true)
    (stable : ∀ i c w w', (i = j0 → c = false) → Gi i w w' → ∀ k L v, Sp k c L v w → Sp k (c || i == j0) L v w')
    (step : genSteps G j0 Gi P ds a0 w dl Sp l 0 dl)
    (fin : ∀ V w', G w w' → (∀ k, k < n → Sp k true ((dl.getD k []).map V) (V k) w') → wpList P l.toArray Q (l.drop n) (canon l.toArray V a0 (List.range n)) w') :
    (Code.region id l.toArray true).wp P Q a0 w := by
  have hB' := hB
  simp only [shapeB, Bool.and_eq_true, decide_eq_true_eq] at hB'
  obtain ⟨⟨⟨⟨⟨hsel, hn⟩, hdlen⟩, _⟩, hall⟩, _⟩ := hB'
  rw [List.all_eq_true] at hall
  unfold slotsB at hS
  rw [List.all_eq_true] at hS
  have hdst : ∀ i, i < n → dstOf l.toArray i = ds.getD i none ∧ ∀ d, dstOf l.toArray i = some d → d < a0.tmps.size := fun i hi => by
    have h := hS i (List.mem_range.2 hi)
    simp only [Bool.and_eq_true, beq_iff_eq] at h
    refine ⟨h.1.1, fun d hd => ?_⟩
    have h2 := h.1.2
    rw [← h.1.1, hd] at h2
    simpa using h2
  refine region_spec hG hA hRf n dl hm hB hj0 Sp stable (fun i o V w' c ho hi hg hc hs => ?_) fin
  have hst := genSteps_get l 0 dl step i o (dl.getD i []) ho (by simp [List.getElem?_eq_getElem (show i < dl.length by omega)]) V w' c hg (by rw [Nat.zero_add]; exact hc) hs
  rw [Nat.zero_add] at hst
  have hio := hall i (List.mem_range.2 hi)
  have hoo : l.toArray[i]? = some o := by simpa using ho
  rw [hoo] at hio
  simp only [Bool.and_eq_true, List.all_eq_true] at hio
  obtain ⟨⟨_, h2⟩, h3⟩ := hio
  have hdl : ∀ k ∈ dl.getD i [], k < n := fun k hk => by have := h2 k hk; simp only [Bool.and_eq_true, decide_eq_true_eq] at this; exact this.1
  have hnd : ∀ j k, j < n → k < n → j ≠ k → ∀ d, dstOf l.toArray k = some d → dstOf l.toArray j ≠ some d := fun j k hj hk hne d hd => by
    have h := hall j (List.mem_range.2 hj)
    cases hoj : l.toArray[j]? with
    | none => rw [hoj] at h; cases h
    | some oj =>
      rw [hoj] at h
      simp only [Bool.and_eq_true, List.all_eq_true] at h
      have := h.2 k (List.mem_range.2 hk)
      rw [hd] at this
      simp only [Bool.and_eq_true, Bool.or_eq_true, beq_iff_eq, decide_eq_true_eq] at this
      rcases this.2 with h | h
      · exact absurd h.symm hne
      · exact h
  have hslot : ∀ t, (canon l.toArray V a0 (dl.getD i [])).eval (.tmp t) = Rs.look ds V a0 (dl.getD i []) (.tmp t) := fun t => by
    unfold Rs.look
    simp only
    split
    · rename_i k hk
      have hkm := List.mem_of_find?_eq_some hk
      have hkd := List.find?_some hk
      simp only [beq_iff_eq] at hkd
      have hkn := hdl k hkm
      have e : dstOf l.toArray k = some t := by rw [(hdst k hkn).1]; exact hkd
      have := canon_in (ops := l.toArray) V e (dl.getD i []) a0 hkm (fun j hj hjk => hnd j k (hdl j hj) hkn hjk t e) ((hdst k hkn).2 t e)
      simp only [Act.eval, Array.getD_eq_getD_getElem?, this, Option.getD_some]
    · rename_i hk
      have hno : ∀ k ∈ dl.getD i [], dstOf l.toArray k ≠ some t := fun k hkm e => by
        have := List.find?_eq_none.1 hk k hkm
        rw [(hdst k (hdl k hkm)).1] at e
        rw [e] at this; exact this (by simp)
      have := canon_out (ops := l.toArray) V (d := t) (dl.getD i []) a0 hno
      simp only [Act.eval, Array.getD_eq_getD_getElem?, this]
  have hex : execOp (canon l.toArray V a0 (dl.getD i [])).eval o = execOp (Rs.look ds V a0 (dl.getD i [])) o :=
    execOp_congr o (fun c b => Region.noSelect_spec hsel i o c b hoo) fun x _ => by
      cases x with
      | tmp t => exact hslot t
      | _ => rfl
  have hwant : Region.wanted o (yielded l.toArray (canon l.toArray V a0 (dl.getD i [])).tmps) = wantB o V := by
    unfold Region.wanted wantB
    cases hgd : o.guard with
    | none => rfl
    | some gb =>
      obtain ⟨g, b⟩ := gb
      have h := hS i (List.mem_range.2 hi)
      rw [hoo] at h
      simp only [Option.bind_some, hgd, Bool.and_eq_true, List.contains_iff_mem] at h
      obtain ⟨hgm, hgs⟩ := h.2
      obtain ⟨t, ht⟩ := Option.isSome_iff_exists.1 hgs
      have hgn := hdl g hgm
      have hv := canon_in (ops := l.toArray) V ht (dl.getD i []) a0 hgm (fun j hj hjk => hnd j g (hdl j hj) hgn hjk t ht) ((hdst g hgn).2 t ht)
      have hy : yielded l.toArray (canon l.toArray V a0 (dl.getD i [])).tmps g = match V g with | .bool x => some x | _ => none := by
        unfold yielded
        unfold dstOf at ht
        simp only [ht, Option.bind_some, hv]
        cases V g <;> rfl
      simp only [hy]
      cases V g <;> simp
  unfold StepOk
  rw [hwant]
  by_cases hw : wantB o V = true
  · rw [if_pos hw] at hst ⊢
    unfold GrowL at hst
    unfold GrowAt
    rw [hex]
    exact hst
  · rw [if_neg hw] at hst ⊢
    exact hst
end main
end Go.Proofs.Ytadnggecnjdhiaa.Rk
set_option linter.unusedSimpArgs false
set_option linter.unusedVariables false
namespace Go.Proofs.Ytadnggecnjdhiaa
open Go.RowKit Tx
attribute [local go_sem] Oper.semAt_some

theorem A_undWds : Try.prog.underlying 22 = some (.slice 77) := by kernel_rfl
theorem A_infoWdm : (Try.prog.info? 77).map (fun i => (i.zero, i.size, i.bytes)) = some (some (.agg #[.int .i64 0, .int .i64 0, .bool false]), 3, 24) := by kernel_rfl
theorem append_keepW (w : World) (base : Nat) (ty : TypeId) (tv : Value) (n : Nat) (xs : List Value) (x : Word) (hown : w.ownsRow base 77 3 tv n xs) (hb : base ≤ w.heap.size) (hn : n ≤ 1000) (p : Nat) (hp : w.heap[p]? = some (.cells (wcell x).toArray 77 (0, 0))) :
    ∃ v' w', (Builtin.append_ #[22, 22] ty #[tv, .slice (some ⟨p, 0, none⟩) 1 1]).run Try.prog w = .ok v' w' ∧ w'.ownsRow base 77 3 v' (n + 1) (xs ++ wcell x) ∧ w.grownBy w' tv.ownBlock ∧ w'.ownsRow base 77 3 tv n xs := by
  obtain ⟨i0, hi, hz0, hz1, hz2⟩ := info_parts A_infoWdm
  have hnews : ∀ j u, (wcell x)[j]? = some u → w.cell? ((⟨p, 0, none⟩ : Addr).add j) = some u := fun j u hj => by
    have hadd : (⟨p, 0, none⟩ : Addr).add j = ⟨p, j, none⟩ := by unfold Addr.add; split <;> simp_all
    rw [hadd]
    exact blk_cells hp j u (by simpa using hj)
  have h1c : ∀ u ∈ wcell x, u.oneCell' = true := by intro u hu; simp [wcell] at hu; rcases hu with rfl | rfl | rfl <;> rfl
  obtain ⟨v', w', hr, h2, h3, h4⟩ := run_append_own (P := Try.prog) w base 22 ty 77 i0 (.agg #[.int .i64 0, .int .i64 0, .bool false]) 3 24 A_undWds hi hz0 hz1 hz2 rfl (by decide) tv n xs hown ⟨p, 0, none⟩ 1 1 (wcell x) rfl hnews h1c (by unfold maxLen; omega) (by omega) hb
  refine ⟨v', w', hr, h2, h3, ?_⟩
  rcases hown.2 with ⟨rfl, rfl⟩ | ⟨g, cap, cur, rfl, hbg, hg, hnc, hcm, hcs, htake⟩
  · have hx : xs = [] := List.eq_nil_of_length_eq_zero (by simpa using hown.1)
    subst hx
    exact World.ownsRow_nil _ _ _ _
  · by_cases hroom : n + 1 ≤ cap
    · have hr2 := run_append_room (P := Try.prog) w 22 ty 77 i0 A_undWds hi g n cap cur hg ⟨p, 0, none⟩ 1 1 (wcell x) (by rw [hz1]; rfl) hnews h1c hroom (by rw [hcs, hz1]; simp [wcell]; omega)
      rw [hr2] at hr
      injection hr with hv hw
      subst hv
      refine ⟨hown.1, .inr ?_⟩
      rcases h2.2 with ⟨h5, _⟩ | ⟨g', cap', cur', h5, h6, h7, h8, h9, h10, h11⟩
      · cases h5
      · injection h5 with e1 e2 e3
        injection e1 with e1
        injection e1 with e1
        subst e1 e3
        refine ⟨_, _, cur', rfl, hbg, h7, hnc, hcm, h10, ?_⟩
        have h12 : (cur'.toList.take ((n + 1) * 3)).take (n * 3) = xs := by
          rw [h11, List.take_append_of_le_length (by rw [hown.1]; exact Nat.le_refl _), List.take_of_length_le (by rw [hown.1]; exact Nat.le_refl _)]
        rw [List.take_take, Nat.min_eq_left (by omega)] at h12
        exact h12
    · have holds : ∀ j u, xs[j]? = some u → w.cell? ((⟨g, 0, none⟩ : Addr).add j) = some u := hown.cells (g := g) rfl
      have hr2 := run_append_grow (P := Try.prog) w 22 ty 77 i0 (.agg #[.int .i64 0, .int .i64 0, .bool false]) A_undWds hi hz0 ⟨g, 0, none⟩ n cap xs (by rw [hz1]; exact hown.1) holds ⟨p, 0, none⟩ 1 1 (wcell x) (by rw [hz1]; rfl) hnews (by omega) (by omega) (by rw [hz2]; exact growslice_fits (by omega) (by omega))
      rw [hr2] at hr
      injection hr with hv hw
      rw [← hw]
      exact hown.kept (row := none) ⟨rfl, rfl, rfl, by simp, fun k hk _ => Below.heap_alloc w.drew _ k hk⟩ (by right; simp [Value.ownBlock])

theorem exec_append2 {P : Program} {ρ : Operand → Value} {o : Oper} {s x : Operand} {t ty : TypeId} {vs vx v' : Value} {w w' : World} (ho : o.op = .call { callee := .builtin .append, args := #[s, x], argTypes := #[t, t] }) (hty : o.type = ty) (hs : ρ s = vs) (hx : ρ x = vx) (hr : (Builtin.append_ #[t, t] ty #[vs, vx]).run P w = .ok v' w') : (execOp ρ o).run P w = .ok (.value v') w' := by
  subst hty
  unfold execOp
  simp only [ho, resolve, invoke, builtin, Sem.run_bind, Sem.run_pure, Result.andThen_ok, List.map_toArray, List.map_cons, List.map_nil, hs, hx, hr]
/-- worlds that go on with a bell that rings -/
def GB (bl : Nat) (ma : Option Addr) (n mc : Nat) (w w' : World) : Prop := Hold (fun k => k ≠ bl) w w' ∧ (BellOk w bl ma n mc → BellOk w' bl ma n mc)
theorem GB.refl (bl : Nat) (ma : Option Addr) (n mc : Nat) (w : World) : GB bl ma n mc w w := ⟨Hold.refl _ _, id⟩
theorem bell_drew (bl : Nat) (ma : Option Addr) (n mc : Nat) (w : World) (h : BellOk w bl ma n mc) : BellOk { w with drawn := w.drawn + 1 } bl ma n mc := by
  obtain ⟨a, t, h⟩ := h; exact ⟨a, t, ⟨h.box, h.le, h.big, h.turn0, h.turn1, h.metal⟩⟩
theorem grB (bl : Nat) (ma : Option Addr) (n mc : Nat) : Rg.IsGr (GB bl ma n mc) where
  refl := GB.refl bl ma n mc
  trans := fun h k => ⟨h.1.trans k.1, fun b => k.2 (h.2 b)⟩
  drew := fun w => ⟨⟨rfl, rfl, rfl, Nat.le_refl _, fun _ _ _ => rfl⟩, bell_drew bl ma n mc w⟩
theorem gb_alloc (bl : Nat) (ma : Option Addr) (n mc : Nat) (w : World) (o : Obj) : GB bl ma n mc w (w.alloc o) := ⟨Hold.alloc w o, fun h => h.below (below1 w o)⟩
theorem gb_ring {bl : Nat} {ma : Option Addr} {n mc : Nat} {w w' : World} (hB : BellOk w' bl ma n mc) (hH : Hold (fun k => k ≠ bl) w w') : GB bl ma n mc w w' := ⟨hH, fun _ => hB⟩
/-- .. and a row that is kept, up to a text's cells -/
def GM (bl : Nat) (ma : Option Addr) (n mc R : Nat) (e : TypeId) (v : Value) (m : Nat) (xs : List Value) (w w' : World) : Prop :=
  Hold (fun k => k ≠ bl ∧ k ≤ R) w w' ∧ (BellOk w bl ma n mc → BellOk w' bl ma n mc) ∧ (w.ownsRow (R + 1) e 3 v m xs → w'.ownsRow (R + 1) e 3 v m xs)
theorem GM.refl (bl : Nat) (ma : Option Addr) (n mc R : Nat) (e : TypeId) (v : Value) (m : Nat) (xs : List Value) (w : World) : GM bl ma n mc R e v m xs w w := ⟨Hold.refl _ _, id, id⟩
theorem grM (bl : Nat) (ma : Option Addr) (n mc R : Nat) (e : TypeId) (v : Value) (m : Nat) (xs : List Value) : Rg.IsGr (GM bl ma n mc R e v m xs) where
  refl := GM.refl bl ma n mc R e v m xs
  trans := fun h k => ⟨h.1.trans k.1, fun b => k.2.1 (h.2.1 b), fun b => k.2.2 (h.2.2 b)⟩
  drew := fun w => ⟨⟨rfl, rfl, rfl, Nat.le_refl _, fun _ _ _ => rfl⟩, bell_drew bl ma n mc w, fun h => h⟩
def GMi (j0 : Nat) (bl : Nat) (ma : Option Addr) (n mc R : Nat) (e : TypeId) (v : Value) (m : Nat) (xs : List Value) (i : Nat) (w w' : World) : Prop := GM bl ma n mc R e v m xs w w' ∧ (i ≠ j0 → GB bl ma n mc w w')
theorem GMi.refl (j0 : Nat) (bl : Nat) (ma : Option Addr) (n mc R : Nat) (e : TypeId) (v : Value) (m : Nat) (xs : List Value) (i : Nat) (w : World) : GMi j0 bl ma n mc R e v m xs i w w := ⟨GM.refl _ _ _ _ _ _ _ _ _ _, fun _ => GB.refl _ _ _ _ _⟩
theorem gi_gb {j0 bl : Nat} {ma : Option Addr} {n mc R : Nat} {e : TypeId} {v : Value} {m : Nat} {xs : List Value} {i : Nat} {w w' : World} (hR : bl < R) (h : GB bl ma n mc w w') : GMi j0 bl ma n mc R e v m xs i w w' :=
  ⟨⟨h.1.mono (fun k hk _ => hk.1), h.2, fun ho => own_hold ho h.1 (fun k hk => by show k ≠ bl; omega)⟩, fun _ => h⟩
theorem gi_app {j0 bl : Nat} {ma : Option Addr} {n mc R : Nat} {e : TypeId} {v : Value} {m : Nat} {xs : List Value} {w w' : World} (hR : bl < R) (hM : n ≠ 0 → ∀ mb mo, ma = some ⟨mb, mo, none⟩ → mb < R) (ho : w.ownsRow (R + 1) e 3 v m xs) (hg : w.grownBy w' v.ownBlock) (hk : w'.ownsRow (R + 1) e 3 v m xs) : GMi j0 bl ma n mc R e v m xs j0 w w' := by
  have hh : Hold (fun k => k ≤ R) w w' := ⟨hg.os, hg.tape, hg.output, hg.size, fun k hk hl => hg.block k hl (by
    rcases ho.2 with ⟨h1, _⟩ | ⟨g, cap, cur, h1, hb, _⟩
    · rw [h1]; show some k ≠ none; simp
    · rw [h1]; show some k ≠ some g; intro e; injection e; omega)⟩
  exact ⟨⟨hh.mono (fun k hk _ => hk.2), fun h => h.hold hh (by show bl ≤ R; omega) (fun hn mb mo e => by show mb ≤ R; have := hM hn mb mo e; omega), fun _ => hk⟩, fun h => absurd rfl h⟩
end Go.Proofs.Ytadnggecnjdhiaa
