/- Contracts of the code and of the reference, part 6. -/
import Derived.Test.YtadnggecnjdhiaaMe
set_option linter.unusedSimpArgs false
set_option linter.unusedVariables false
namespace Go.Proofs.Ytadnggecnjdhiaa
open Go.RowKit Tx
attribute [local go_sem] Oper.semAt_some

theorem Equal_ints (p q : Option Addr) (c d : Nat) (xs ys : List Int) (w : World) (hx9 : xs.length ≤ 1000000) (hy9 : ys.length ≤ 1000000) (hx : Ints w p xs) (hy : Ints w q ys) :
    Calls Try.prog 94 #[.slice p xs.length c, .slice q ys.length d] w fun e w' => e = .returned (.bool (decide (xs = ys))) ∧ Below w.heap.size w w' := by
  by_cases hl : xs.length = ys.length
  · rcases hx with rfl | ⟨b, o, rfl, hb, hc⟩
    · refine (Try.slices_Equal_int_empty p q c ys.length d w (by omega)).mono ?_
      rintro e w' ⟨rfl, rfl⟩
      refine ⟨?_, Below.refl _ _⟩
      cases ys with
      | nil => rfl
      | cons y ys => simp at hl
    · rcases hy with rfl | ⟨b2, o2, rfl, hb2, hc2⟩
      · have : xs = [] := by cases xs with
          | nil => rfl
          | cons y ys => simp at hl
        subst this
        refine (Try.slices_Equal_int_empty _ q c _ d w (by simp)).mono ?_
        rintro e w' ⟨rfl, rfl⟩
        exact ⟨rfl, Below.refl _ _⟩
      · refine (Try.slices_Equal_int b o xs.length c b2 o2 ys.length d xs ys w (Nat.le_refl _) (Nat.le_refl _) (by omega) (by omega) hc hc2).mono ?_
        rintro e w' ⟨rfl, n, rfl⟩
        refine ⟨?_, below_drewN' (Below.refl _ _) n⟩
        rw [List.take_length, List.take_length]
        by_cases h : xs = ys
        · subst h; simp
        · simp [h]
  · refine (Try.slices_Equal_int_lens p q xs.length c ys.length d w hl).mono ?_
    rintro e w' ⟨rfl, rfl⟩
    refine ⟨?_, Below.refl _ _⟩
    rw [decide_eq_false (fun h => hl (by rw [h]))]

set_option maxHeartbeats 1000000 in
theorem Like_ints (p q : Option Addr) (c d : Nat) (xs ys : List Int) (bq : Bool) (hq : decide (xs = ys) = bq) (w : World) (hx9 : xs.length ≤ 1000000) (hy9 : ys.length ≤ 1000000) (hx : Ints w p xs) (hy : Ints w q ys) :
    Calls Try.prog 26 #[.slice p xs.length c, .slice q ys.length d] w fun e w' => e = .returned (.bool bq) ∧ Below w.heap.size w w' := by
  have HE := Lib.hid (Equal_ints p q c d xs ys w hx9 hy9 hx hy)
  rw [hq] at HE
  clear hq hx hy
  go_enter Try.func26, Try.ntmps26
  go_wp2_with fail
  refine HE.out.mono ?_
  rintro e w1 ⟨rfl, hB⟩
  have HB := Lib.hid hB
  clear hB
  go_wp2
  go_ret
  exact ⟨rfl, HB.out⟩

theorem word_any (x : Int) (b : Bool) (w : World) :
    Calls Try.prog 136 #[.int .i64 x, .bool b] w fun e w' => e = .returned (.agg #[.int .i64 1, .int .i64 x, .bool b]) ∧ Below w.heap.size w w' := by
  go_enter Try.func136, Try.ntmps136
  go_wp2
  have hx := heap_last w (.cells #[.int .i64 1, .int .i64 x, .bool b] 77)
  have c0 := blk_cells hx 0 _ rfl
  have c1 := blk_cells hx 1 _ rfl
  have c2 := blk_cells hx 2 _ rfl
  exact bodyPost_ret (v := .agg #[.int .i64 1, .int .i64 x, .bool b]) (by simp [results, Try.results136, go_sem, c0, c1, c2]) rfl ⟨rfl, below1 _ _⟩
def gateT (last : Int) : Text := { words := [⟨1, 0, false⟩, ⟨1, 4, true⟩, ⟨1, 0, false⟩, ⟨1, 3, true⟩, ⟨1, 3, false⟩, ⟨1, 3, true⟩, ⟨1, 0, false⟩, ⟨1, 2, true⟩], turns := [⟨3, 4, last⟩], breath := 5 }
theorem wds_gate (W : World) (o : World) (T : TypeId) (h : Below (W.heap.size + 1) (W.alloc (.cells #[.int .i64 1, .int .i64 0, .bool false, .int .i64 1, .int .i64 4, .bool true, .int .i64 1, .int .i64 0, .bool false, .int .i64 1, .int .i64 3, .bool true, .int .i64 1, .int .i64 3, .bool false, .int .i64 1, .int .i64 3, .bool true, .int .i64 1, .int .i64 0, .bool false, .int .i64 1, .int .i64 2, .bool true] T)) o) (last : Int) :
    Wds o (some ⟨W.heap.size, 0, none⟩) (gateT last).words := by
  have hx := (h.block W.heap.size (by omega)).trans (heap_last W _)
  refine .inr ⟨_, _, rfl, by have := h.size; simp at this; omega, fun i hi => ?_⟩
  have hi8 : i < 8 := hi
  have : i = 0 ∨ i = 1 ∨ i = 2 ∨ i = 3 ∨ i = 4 ∨ i = 5 ∨ i = 6 ∨ i = 7 := by omega
  rcases this with rfl | rfl | rfl | rfl | rfl | rfl | rfl | rfl <;> exact ⟨blk_cells hx _ _ rfl, blk_cells hx _ _ rfl, blk_cells hx _ _ rfl⟩
theorem tns_gate (W : World) (o : World) (T : TypeId) (last : Int) (h : Below (W.heap.size + 1) (W.alloc (.cells #[.int .i64 3, .int .i64 4, .int .i64 last] T)) o) :
    Tns o (some ⟨W.heap.size, 0, none⟩) (gateT last).turns := by
  have hx := (h.block W.heap.size (by omega)).trans (heap_last W _)
  refine .inr ⟨_, _, rfl, by have := h.size; simp at this; omega, fun i hi => ?_⟩
  have hi8 : i < 1 := hi
  obtain rfl : i = 0 := by omega
  exact ⟨blk_cells hx _ _ rfl, blk_cells hx _ _ rfl, blk_cells hx _ _ rfl⟩
set_option maxHeartbeats 1000000 in
theorem Gate_any (last : Int) (w : World) :
    Calls Try.prog 77 #[.int .i64 last] w fun e w' => ∃ g u, e = .returned (.agg #[.slice (some ⟨g, 0, none⟩) 8 8, .slice (some ⟨u, 0, none⟩) 1 1, .int .i64 5]) ∧ TxAt w' (gateT last) (some ⟨g, 0, none⟩) (some ⟨u, 0, none⟩) ∧ Below w.heap.size w w' := by
  have HWD := Lib.hid (fun (x : Int) (b : Bool) (W : World) (h : Below (w.heap.size + 1) (w.alloc (.cells #[.slice none 0 0, .slice none 0 0, .int .i64 0] 25)) W) => (word_any x b W).mono (R' := fun e w' => e = .returned (.agg #[.int .i64 1, .int .i64 x, .bool b]) ∧ Below (w.heap.size + 1) (w.alloc (.cells #[.slice none 0 0, .slice none 0 0, .int .i64 0] 25)) w') (fun e w' he => ⟨he.1, h.trans (he.2.mono (by have := h.size; simp at this; omega))⟩))
  have HB := Lib.hid (Below.refl (w.heap.size + 1) (w.alloc (.cells #[.slice none 0 0, .slice none 0 0, .int .i64 0] 25)))
  have hw0 := heap_last w (.cells #[.slice none 0 0, .slice none 0 0, .int .i64 0] 25)
  have HW0 := Lib.hid hw0
  clear hw0
  go_enter Try.func77, Try.ntmps77
  go_wp2_with fail
  refine (HWD.out _ _ _ HB.out).mono ?_
  clear HB
  rintro e wx ⟨rfl, hBx⟩
  have HB := Lib.hid hBx
  clear hBx
  go_wp2_with fail
  refine (HWD.out _ _ _ HB.out).mono ?_
  clear HB
  rintro e wx ⟨rfl, hBx⟩
  have HB := Lib.hid hBx
  clear hBx
  go_wp2_with fail
  refine (HWD.out _ _ _ HB.out).mono ?_
  clear HB
  rintro e wx ⟨rfl, hBx⟩
  have HB := Lib.hid hBx
  clear hBx
  go_wp2_with fail
  refine (HWD.out _ _ _ HB.out).mono ?_
  clear HB
  rintro e wx ⟨rfl, hBx⟩
  have HB := Lib.hid hBx
  clear hBx
  go_wp2_with fail
  refine (HWD.out _ _ _ HB.out).mono ?_
  clear HB
  rintro e wx ⟨rfl, hBx⟩
  have HB := Lib.hid hBx
  clear hBx
  go_wp2_with fail
  refine (HWD.out _ _ _ HB.out).mono ?_
  clear HB
  rintro e wx ⟨rfl, hBx⟩
  have HB := Lib.hid hBx
  clear hBx
  go_wp2_with fail
  refine (HWD.out _ _ _ HB.out).mono ?_
  clear HB
  rintro e wx ⟨rfl, hBx⟩
  have HB := Lib.hid hBx
  clear hBx
  go_wp2_with fail
  refine (HWD.out _ _ _ HB.out).mono ?_
  clear HB
  rintro e wx ⟨rfl, hBx⟩
  have HB := Lib.hid hBx
  clear hBx
  have hx := (HB.out.block w.heap.size (by omega)).trans HW0.out
  have hlt : w.heap.size < wx.heap.size := (Array.getElem?_eq_some_iff.1 hx).1
  have k0 := blk_cells hx 0 _ rfl
  have k1 := blk_cells hx 1 _ rfl
  have k2 := blk_cells hx 2 _ rfl
  have z : ∀ i, wx.frozen? ⟨w.heap.size, i, none⟩ = false := fun i => by simp [World.frozen?, hx]
  have HX := Lib.hid hx
  clear hx
  go_wp2
  obtain ⟨W1, hW1⟩ : ∃ W1, W1 = ((wx.setCell ⟨w.heap.size, 0, none⟩ (.slice (some ⟨wx.heap.size, 0, none⟩) 8 8)).setCell ⟨w.heap.size, 1, none⟩ (.slice (some ⟨wx.heap.size + 1, 0, none⟩) 1 1)).setCell ⟨w.heap.size, 2, none⟩ (.int .i64 5) := ⟨_, rfl⟩
  rw [← hW1]
  have hsz : W1.heap.size = wx.heap.size := by rw [hW1]; simp
  have hx1 : W1.heap[w.heap.size]? = some (.cells #[.slice (some ⟨wx.heap.size, 0, none⟩) 8 8, .slice (some ⟨wx.heap.size + 1, 0, none⟩) 1 1, .int .i64 5] 25 (0, 0)) := by
    rw [hW1]; exact heap_set_same _ (heap_set_same _ (heap_set_same _ HX.out))
  have hb1 : Below w.heap.size w W1 := by
    rw [hW1]
    exact (((join (below1 w _) (HB.out.mono (by simp))).setCell (p := ⟨w.heap.size, 0, none⟩) (Nat.le_refl _) _).setCell (p := ⟨w.heap.size, 1, none⟩) (Nat.le_refl _) _).setCell (p := ⟨w.heap.size, 2, none⟩) (Nat.le_refl _) _
  clear hW1
  generalize hA : Obj.cells #[Value.int IntKind.i64 1, Value.int IntKind.i64 0, Value.bool false, Value.int IntKind.i64 1, Value.int IntKind.i64 4, Value.bool true, Value.int IntKind.i64 1, Value.int IntKind.i64 0, Value.bool false, Value.int IntKind.i64 1, Value.int IntKind.i64 3, Value.bool true, Value.int IntKind.i64 1, Value.int IntKind.i64 3, Value.bool false, Value.int IntKind.i64 1, Value.int IntKind.i64 3, Value.bool true, Value.int IntKind.i64 1, Value.int IntKind.i64 0, Value.bool false, Value.int IntKind.i64 1, Value.int IntKind.i64 2, Value.bool true] 77 = OA
  generalize hO : Obj.cells #[Value.int IntKind.i64 3, Value.int IntKind.i64 4, Value.int IntKind.i64 last] 80 = OB
  have hw : Wds ((W1.alloc OA).alloc OB) (some ⟨wx.heap.size, 0, none⟩) (gateT last).words := by
    have := wds_gate W1 ((W1.alloc OA).alloc OB) 77 (by rw [hA]; exact (Below.refl _ _).alloc (by simp) _) last
    rwa [hsz] at this
  have ht : Tns ((W1.alloc OA).alloc OB) (some ⟨wx.heap.size + 1, 0, none⟩) (gateT last).turns := by
    have := tns_gate (W1.alloc OA) ((W1.alloc OA).alloc OB) 80 last (by rw [hO]; exact Below.refl _ _)
    rwa [World.size_alloc, hsz] at this
  have hx3 : ((W1.alloc OA).alloc OB).heap[w.heap.size]? = some (.cells #[.slice (some ⟨wx.heap.size, 0, none⟩) 8 8, .slice (some ⟨wx.heap.size + 1, 0, none⟩) 1 1, .int .i64 5] 25 (0, 0)) := by
    rw [Below.heap_alloc _ _ _ (by simp; omega), Below.heap_alloc _ _ _ (by omega)]; exact hx1
  have c0 := blk_cells hx3 0 _ rfl
  have c1 := blk_cells hx3 1 _ rfl
  have c2 := blk_cells hx3 2 _ rfl
  exact bodyPost_ret (v := .agg #[.slice (some ⟨wx.heap.size, 0, none⟩) 8 8, .slice (some ⟨wx.heap.size + 1, 0, none⟩) 1 1, .int .i64 5]) (by simp [results, Try.results77, go_sem, c0, c1, c2]) rfl ⟨_, _, rfl, ⟨hw, ht⟩, (hb1.alloc (by omega) _).alloc (by simp; omega) _⟩
end Go.Proofs.Ytadnggecnjdhiaa
set_option linter.unusedSimpArgs false
set_option linter.unusedVariables false
namespace Go.Proofs.Ytadnggecnjdhiaa
open Go.RowKit Tx
attribute [local go_sem] Oper.semAt_some

def eqW (xs ys : List Word) (k : Nat) : Prop := ∀ j, j < k → xs.getD j default = ys.getD j default
def eqT (xs ys : List Turn) (k : Nat) : Prop := ∀ j, j < k → xs.getD j default = ys.getD j default
set_option maxHeartbeats 2000000 in
set_option maxRecDepth 100000 in
theorem Equal_words (p q : Option Addr) (c d : Nat) (xs : List Word) (w : World) (hx9 : xs.length ≤ 1000000) (hx : Wds w p xs) (hy : Wds w q xs) :
    Calls Try.prog 144 #[.slice p xs.length c, .slice q xs.length d] w fun e w' => e = .returned (.bool true) ∧ Below w.heap.size w w' := by
  have HX := Lib.hid hx
  have HY := Lib.hid hy
  have hle : ((xs.length : Int) != (xs.length : Int)) = false := by simp
  clear hx hy
  go_enter Try.func144, Try.ntmps144
  go_wp2
  go_loopg [13] xs.length (fun g i wi => ∃ k : Nat, g + k = xs.length ∧ i = .int .i64 k ∧ Below w.heap.size w wi)
  case atStart => exact ⟨0, by omega, rfl, Below.refl _ _⟩
  case round =>
    obtain ⟨k, hk, rfl, hB⟩ := hrel
    have HB := Lib.hid hB
    by_cases hlt : k < xs.length
    · have hlt' : (k : Int) < xs.length := by omega
      obtain ⟨b, o, x, rfl, hb, hxx, c1, c2, c3⟩ := (HX.out.below hB).at hlt
      obtain ⟨b2, o2, y, rfl, hb2, hyy, d1, d2, d3⟩ := (HY.out.below hB).at hlt
      have hxy : y = x := by rw [hyy, hxx]
      subst hxy
      clear hxx hyy hB
      obtain ⟨ya, yb, yc⟩ := y
      dsimp only at c1 c2 c3 d1 d2 d3
      go_wp2
      go_quiet (fail)
      go_wp2
      go_roundg (gk - 1)
      case rel => exact ⟨k + 1, by omega, by simp, below_drewN' HB.out _⟩
      case measure => omega
    · have hkk : k = xs.length := by omega
      subst hkk
      clear hB
      go_wp2
      go_ret
      exact ⟨rfl, HB.out⟩
set_option maxHeartbeats 2000000 in
set_option maxRecDepth 100000 in
theorem Equal_turns (p q : Option Addr) (c d : Nat) (xs : List Turn) (w : World) (hx9 : xs.length ≤ 1000000) (hx : Tns w p xs) (hy : Tns w q xs) :
    Calls Try.prog 145 #[.slice p xs.length c, .slice q xs.length d] w fun e w' => e = .returned (.bool true) ∧ Below w.heap.size w w' := by
  have HX := Lib.hid hx
  have HY := Lib.hid hy
  have hle : ((xs.length : Int) != (xs.length : Int)) = false := by simp
  clear hx hy
  go_enter Try.func145, Try.ntmps145
  go_wp2
  go_loopg [13] xs.length (fun g i wi => ∃ k : Nat, g + k = xs.length ∧ i = .int .i64 k ∧ Below w.heap.size w wi)
  case atStart => exact ⟨0, by omega, rfl, Below.refl _ _⟩
  case round =>
    obtain ⟨k, hk, rfl, hB⟩ := hrel
    have HB := Lib.hid hB
    by_cases hlt : k < xs.length
    · have hlt' : (k : Int) < xs.length := by omega
      obtain ⟨b, o, x, rfl, hb, hxx, c1, c2, c3⟩ := (HX.out.below hB).at hlt
      obtain ⟨b2, o2, y, rfl, hb2, hyy, d1, d2, d3⟩ := (HY.out.below hB).at hlt
      have hxy : y = x := by rw [hyy, hxx]
      subst hxy
      clear hxx hyy hB
      obtain ⟨ya, yb, yc⟩ := y
      dsimp only at c1 c2 c3 d1 d2 d3
      go_wp2
      go_quiet (fail)
      go_wp2
      go_roundg (gk - 1)
      case rel => exact ⟨k + 1, by omega, by simp, below_drewN' HB.out _⟩
      case measure => omega
    · have hkk : k = xs.length := by omega
      subst hkk
      clear hB
      go_wp2
      go_ret
      exact ⟨rfl, HB.out⟩
set_option maxHeartbeats 1000000 in
theorem Like_words (p q : Option Addr) (c d : Nat) (xs : List Word) (w : World) (hx9 : xs.length ≤ 1000000) (hx : Wds w p xs) (hy : Wds w q xs) :
    Calls Try.prog 98 #[.slice p xs.length c, .slice q xs.length d] w fun e w' => e = .returned (.bool true) ∧ Below w.heap.size w w' := by
  have HE := Lib.hid (Equal_words p q c d xs w hx9 hx hy)
  clear hx hy
  go_enter Try.func98, Try.ntmps98
  go_wp2_with fail
  refine HE.out.mono ?_
  rintro e w1 ⟨rfl, hB⟩
  have HB := Lib.hid hB
  clear hB
  go_wp2
  go_ret
  exact ⟨rfl, HB.out⟩
set_option maxHeartbeats 1000000 in
theorem Like_turns (p q : Option Addr) (c d : Nat) (xs : List Turn) (w : World) (hx9 : xs.length ≤ 1000000) (hx : Tns w p xs) (hy : Tns w q xs) :
    Calls Try.prog 99 #[.slice p xs.length c, .slice q xs.length d] w fun e w' => e = .returned (.bool true) ∧ Below w.heap.size w w' := by
  have HE := Lib.hid (Equal_turns p q c d xs w hx9 hx hy)
  clear hx hy
  go_enter Try.func99, Try.ntmps99
  go_wp2_with fail
  refine HE.out.mono ?_
  rintro e w1 ⟨rfl, hB⟩
  have HB := Lib.hid hB
  clear hB
  go_wp2
  go_ret
  exact ⟨rfl, HB.out⟩
set_option maxHeartbeats 2000000 in
set_option maxRecDepth 100000 in
/-- two texts that have the same -/
theorem same_yes (t : Text) (hl1 : t.words.length ≤ 1000000) (hl2 : t.turns.length ≤ 1000000) (pw pt qw qt : Option Addr) (cw ct dw dt : Nat) (w : World) (h1 : TxAt w t pw pt) (h2 : TxAt w t qw qt) :
    Calls Try.prog 29 #[.agg #[.slice pw t.words.length cw, .slice pt t.turns.length ct, .int .i64 t.breath], .agg #[.slice qw t.words.length dw, .slice qt t.turns.length dt, .int .i64 t.breath]] w fun e w' => e = .returned (.bool true) ∧ Below w.heap.size w w' := by
  have H1 := Lib.hid h1
  have H2 := Lib.hid h2
  have HB1 := below1 w (.cells #[.slice pw t.words.length cw, .slice pt t.turns.length ct, .int .i64 t.breath] 25)
  have HBx := Lib.hid (join HB1 (below1 _ (.cells #[.slice qw t.words.length dw, .slice qt t.turns.length dt, .int .i64 t.breath] 25)))
  have hx0 := (below1 (w.alloc (.cells #[.slice pw t.words.length cw, .slice pt t.turns.length ct, .int .i64 t.breath] 25)) (.cells #[.slice qw t.words.length dw, .slice qt t.turns.length dt, .int .i64 t.breath] 25)).block w.heap.size (by simp)
  have HX0 := Lib.hid (hx0.trans (heap_last w _))
  have hx1 := heap_last (w.alloc (.cells #[.slice pw t.words.length cw, .slice pt t.turns.length ct, .int .i64 t.breath] 25)) (.cells #[.slice qw t.words.length dw, .slice qt t.turns.length dt, .int .i64 t.breath] 25)
  have HX1 : Hid (((w.alloc (.cells #[.slice pw t.words.length cw, .slice pt t.turns.length ct, .int .i64 t.breath] 25)).alloc (.cells #[.slice qw t.words.length dw, .slice qt t.turns.length dt, .int .i64 t.breath] 25)).heap[w.heap.size + 1]? = some (.cells #[.slice qw t.words.length dw, .slice qt t.turns.length dt, .int .i64 t.breath] 25 (0, 0))) := Lib.hid (by simpa using hx1)
  clear h1 h2 HB1 hx0 hx1
  go_enter Try.func29, Try.ntmps29
  go_wp2_with fail
  refine (Like_words _ _ _ _ t.words _ hl1 (H1.out.words.below HBx.out) (H2.out.words.below HBx.out)).mono ?_
  rintro e w1 ⟨rfl, hB⟩
  generalize (w.alloc (.cells #[.slice pw t.words.length cw, .slice pt t.turns.length ct, .int .i64 t.breath] 25)).alloc (.cells #[.slice qw t.words.length dw, .slice qt t.turns.length dt, .int .i64 t.breath] 25) = W1 at HBx HX0 HX1 hB
  have HX0 := Lib.hid ((hB.block w.heap.size (Array.getElem?_eq_some_iff.1 HX0.out).1).trans HX0.out)
  have HX1 := Lib.hid ((hB.block (w.heap.size + 1) (Array.getElem?_eq_some_iff.1 HX1.out).1).trans HX1.out)
  have HBx := Lib.hid (join HBx.out hB)
  obtain ⟨k0, k1, k2⟩ := blk3 HX0.out
  obtain ⟨k3, k4, k5⟩ := blk3 HX1.out
  clear hB
  go_wp2_with fail
  refine (Like_turns _ _ _ _ t.turns _ hl2 (H1.out.turns.below HBx.out) (H2.out.turns.below HBx.out)).mono ?_
  rintro e w2 ⟨rfl, hB⟩
  have HX0 := Lib.hid ((hB.block w.heap.size (Array.getElem?_eq_some_iff.1 HX0.out).1).trans HX0.out)
  have HX1 := Lib.hid ((hB.block (w.heap.size + 1) (Array.getElem?_eq_some_iff.1 HX1.out).1).trans HX1.out)
  have HBx := Lib.hid (join HBx.out hB)
  clear k0 k1 k2 k3 k4 k5
  obtain ⟨k0, k1, k2⟩ := blk3 HX0.out
  obtain ⟨k3, k4, k5⟩ := blk3 HX1.out
  clear hB
  go_wp2
  go_ret
  exact ⟨ret_bool (by simp), HBx.out⟩
end Go.Proofs.Ytadnggecnjdhiaa
set_option linter.unusedSimpArgs false
set_option linter.unusedVariables false
namespace Go.Proofs.Ytadnggecnjdhiaa
open Go.RowKit Tx
attribute [local go_sem] Oper.semAt_some

theorem own_setC {w : World} {base R o : Nat} {e : TypeId} {size : Nat} {v u : Value} {n : Nat} {xs : List Value} (h : w.ownsRow base e size v n xs) (hR : R < base) : (w.setCell ⟨R, o, none⟩ u).ownsRow base e size v n xs := by
  refine h.kept (grown_set w R o u) ?_
  rcases h.2 with ⟨h1, _⟩ | ⟨g, cap, cur, h1, hb', _⟩
  · exact .inl (by rw [h1]; rfl)
  · right; rw [h1]; show some g ≠ some R; intro e; injection e; omega
/-- what the laws' Copy leaves -/
def CopyPost (t : Text) (w : World) (e : Ending) (w' : World) : Prop := ∃ g h, e = .returned (.agg #[.slice (some ⟨g, 0, none⟩) t.words.length t.words.length, .slice (some ⟨h, 0, none⟩) t.turns.length t.turns.length, .int .i64 t.breath]) ∧
  w'.ownsRow w.heap.size 77 3 (.slice (some ⟨g, 0, none⟩) t.words.length t.words.length) t.words.length (wcells t.words) ∧ w'.ownsRow w.heap.size 80 3 (.slice (some ⟨h, 0, none⟩) t.turns.length t.turns.length) t.turns.length (tcells t.turns) ∧ Below w.heap.size w w'
def spCy (t : Text) (pw pt : Option Addr) (cw ct A B : Nat) : Nat → List Value → Value → World → Prop
  | 0, _, v, _ => v = .pointer (some ⟨A, 0, none⟩)
  | 1, _, v, _ => v = .slice pw t.words.length cw
  | 2, L, v, w => ∃ g, v = .slice (some ⟨g, 0, none⟩) t.words.length t.words.length ∧ w.ownsRow B 77 3 (.slice (some ⟨g, 0, none⟩) t.words.length t.words.length) t.words.length (wcells t.words)
  | 3, _, v, _ => v = .pointer (some ⟨A, 1, none⟩)
  | 4, _, v, _ => v = .slice pt t.turns.length ct
  | 5, L, v, w => ∃ h, v = .slice (some ⟨h, 0, none⟩) t.turns.length t.turns.length ∧ w.ownsRow B 80 3 (.slice (some ⟨h, 0, none⟩) t.turns.length t.turns.length) t.turns.length (tcells t.turns)
  | 6, _, v, _ => v = .pointer (some ⟨A, 2, none⟩)
  | 7, _, v, _ => v = .int .i64 t.breath
  | 8, L, v, w => ∃ g h, v = .agg #[.slice (some ⟨g, 0, none⟩) t.words.length t.words.length, .slice (some ⟨h, 0, none⟩) t.turns.length t.turns.length, .int .i64 t.breath] ∧ w.ownsRow B 77 3 (.slice (some ⟨g, 0, none⟩) t.words.length t.words.length) t.words.length (wcells t.words) ∧ w.ownsRow B 80 3 (.slice (some ⟨h, 0, none⟩) t.turns.length t.turns.length) t.turns.length (tcells t.turns)
  | _, _, _, _ => False
theorem spCy_stable (t : Text) (pw pt : Option Addr) (cw ct A B : Nat) : ∀ i L v w w', spCy t pw pt cw ct A B i L v w → Rs.Gr w w' → spCy t pw pt cw ct A B i L v w' := by
  intro i L v w w' h hg
  match i with
  | 0 => exact h
  | 1 => exact h
  | 2 => obtain ⟨g, h1, h2⟩ := h; exact ⟨g, h1, own_below h2 hg⟩
  | 3 => exact h
  | 4 => exact h
  | 5 => obtain ⟨g, h1, h2⟩ := h; exact ⟨g, h1, own_below h2 hg⟩
  | 6 => exact h
  | 7 => exact h
  | 8 => obtain ⟨g, k, h1, h2, h3⟩ := h; exact ⟨g, k, h1, own_below h2 hg, own_below h3 hg⟩

set_option maxHeartbeats 1600000 in
set_option maxRecDepth 100000 in
theorem lCopy_any (t : Text) (hl1 : t.words.length ≤ 1000000) (hl2 : t.turns.length ≤ 1000000) (pw pt : Option Addr) (cw ct : Nat) (w : World) (hW : TxAt w t pw pt) :
    Calls Try.prog 19 #[.agg #[.slice pw t.words.length cw, .slice pt t.turns.length ct, .int .i64 t.breath]] w (CopyPost t w) := by
  have HT := Lib.hid hW
  have HB1 := below1 w (.cells #[.slice pw t.words.length cw, .slice pt t.turns.length ct, .int .i64 t.breath] 25)
  have HX := Lib.hid (((below1 (w.alloc (.cells #[.slice pw t.words.length cw, .slice pt t.turns.length ct, .int .i64 t.breath] 25)) (.cells #[.slice none 0 0, .slice none 0 0, .int .i64 0] 25)).block w.heap.size (by simp)).trans (heap_last w _))
  have hy := heap_last (w.alloc (.cells #[.slice pw t.words.length cw, .slice pt t.turns.length ct, .int .i64 t.breath] 25)) (.cells #[.slice none 0 0, .slice none 0 0, .int .i64 0] 25)
  rw [World.size_alloc] at hy
  have HY := Lib.hid hy
  have HB := Lib.hid (join HB1 (below1 _ (.cells #[.slice none 0 0, .slice none 0 0, .int .i64 0] 25)))
  have hz1 : ((w.alloc (.cells #[.slice pw t.words.length cw, .slice pt t.turns.length ct, .int .i64 t.breath] 25)).alloc (.cells #[.slice none 0 0, .slice none 0 0, .int .i64 0] 25)).heap.size = w.heap.size + 2 := by simp
  clear hW hy HB1
  go_enter Try.func19, Try.ntmps19
  go_wp2_with fail
  generalize (w.alloc (.cells #[.slice pw t.words.length cw, .slice pt t.turns.length ct, .int .i64 t.breath] 25)).alloc (.cells #[.slice none 0 0, .slice none 0 0, .int .i64 0] 25) = W1 at HB HX HY hz1 ⊢
  have HZ0 : w.heap.size < W1.heap.size := by omega
  refine Rs.region_gen 9 [[], [0], [0, 1], [], [3], [0, 1, 2, 3, 4], [], [6], [0, 1, 2, 3, 4, 5, 6, 7]] [some 3, some 4, some 5, some 6, some 7, some 8, some 9, some 10, some 11] (spCy t pw pt cw ct w.heap.size W1.heap.size) (by kernel_rfl) (by kernel_rfl) rfl (spCy_stable _ _ _ _ _ _ _) ?_ ?_
  · refine ⟨fun V w' hG hs => ?_, fun V w' hG hs => ?_, fun V w' hG hs => ?_, fun V w' hG hs => ?_, fun V w' hG hs => ?_, fun V w' hG hs => ?_, fun V w' hG hs => ?_, fun V w' hG hs => ?_, fun V w' hG hs => ?_, trivial⟩
    all_goals
      obtain ⟨k0, k1, k2⟩ := blk3 ((hG.block w.heap.size HZ0).trans HX.out)
    · rw [if_pos (by rfl)]
      exact Rs.GrowL.value (v := .pointer (some ⟨w.heap.size, 0, none⟩)) (w' := w') (by simp [go_sem, Rs.look]) (Rs.Gr.refl _) rfl
    · have e0 : V 0 = .pointer (some ⟨w.heap.size, 0, none⟩) := hs 0 (by simp)
      rw [if_pos (by rfl)]
      exact Rs.GrowL.value (v := .slice pw t.words.length cw) (w' := w') (by simp [go_sem, Rs.look, e0, k0]) (Rs.Gr.refl _) rfl
    · have e0 : V 0 = .pointer (some ⟨w.heap.size, 0, none⟩) := hs 0 (by simp)
      have e1 : V 1 = .slice pw t.words.length cw := hs 1 (by simp)
      rw [if_pos (by rfl)]
      refine Rs.GrowL.call (f := 78) (args := #[.slice pw t.words.length cw]) (by simp [go_sem, Rs.look, e1]) ?_
      refine (Copy_words t.words hl1 pw cw w' (HT.out.words.below (join HB.out hG))).mono ?_
      rintro e w2 ⟨g, rfl, ho, hB2⟩
      exact ⟨_, rfl, hB2, g, rfl, own_base ho hG.size⟩
    · rw [if_pos (by rfl)]
      exact Rs.GrowL.value (v := .pointer (some ⟨w.heap.size, 1, none⟩)) (w' := w') (by simp [go_sem, Rs.look]) (Rs.Gr.refl _) rfl
    · have e3 : V 3 = .pointer (some ⟨w.heap.size, 1, none⟩) := hs 3 (by simp)
      rw [if_pos (by rfl)]
      exact Rs.GrowL.value (v := .slice pt t.turns.length ct) (w' := w') (by simp [go_sem, Rs.look, e3, k1]) (Rs.Gr.refl _) rfl
    · have e0 : V 0 = .pointer (some ⟨w.heap.size, 0, none⟩) := hs 0 (by simp)
      have e1 : V 1 = .slice pw t.words.length cw := hs 1 (by simp)
      have r2 := hs 2 (by simp)
      have e3 : V 3 = .pointer (some ⟨w.heap.size, 1, none⟩) := hs 3 (by simp)
      have e4 : V 4 = .slice pt t.turns.length ct := hs 4 (by simp)
      rw [if_pos (by rfl)]
      refine Rs.GrowL.call (f := 79) (args := #[.slice pt t.turns.length ct]) (by simp [go_sem, Rs.look, e4]) ?_
      refine (Copy_turns t.turns hl2 pt ct w' (HT.out.turns.below (join HB.out hG))).mono ?_
      rintro e w2 ⟨g, rfl, ho, hB2⟩
      exact ⟨_, rfl, hB2, g, rfl, own_base ho hG.size⟩
    · rw [if_pos (by rfl)]
      exact Rs.GrowL.value (v := .pointer (some ⟨w.heap.size, 2, none⟩)) (w' := w') (by simp [go_sem, Rs.look]) (Rs.Gr.refl _) rfl
    · have e6 : V 6 = .pointer (some ⟨w.heap.size, 2, none⟩) := hs 6 (by simp)
      rw [if_pos (by rfl)]
      exact Rs.GrowL.value (v := .int .i64 t.breath) (w' := w') (by simp [go_sem, Rs.look, e6, k2]) (Rs.Gr.refl _) rfl
    · have e0 : V 0 = .pointer (some ⟨w.heap.size, 0, none⟩) := hs 0 (by simp)
      have e1 : V 1 = .slice pw t.words.length cw := hs 1 (by simp)
      have r2 := hs 2 (by simp)
      have e3 : V 3 = .pointer (some ⟨w.heap.size, 1, none⟩) := hs 3 (by simp)
      have e4 : V 4 = .slice pt t.turns.length ct := hs 4 (by simp)
      have r5 := hs 5 (by simp)
      have e6 : V 6 = .pointer (some ⟨w.heap.size, 2, none⟩) := hs 6 (by simp)
      have e7 : V 7 = .int .i64 t.breath := hs 7 (by simp)
      rw [if_pos (by rfl)]
      obtain ⟨g, e2, o2⟩ := r2
      obtain ⟨h, e5, o5⟩ := r5
      exact Rs.GrowL.value (v := .agg #[.slice (some ⟨g, 0, none⟩) t.words.length t.words.length, .slice (some ⟨h, 0, none⟩) t.turns.length t.turns.length, .int .i64 t.breath]) (w' := w') (by simp [go_sem, Rs.look, e2, e5, e7]) (Rs.Gr.refl _) ⟨g, h, rfl, o2, o5⟩
  · intro V w' hG hs
    have e0 : V 0 = .pointer (some ⟨w.heap.size, 0, none⟩) := hs 0 (by omega)
    have e1 : V 1 = .slice pw t.words.length cw := hs 1 (by omega)
    have r2 := hs 2 (by omega)
    have e3 : V 3 = .pointer (some ⟨w.heap.size, 1, none⟩) := hs 3 (by omega)
    have e4 : V 4 = .slice pt t.turns.length ct := hs 4 (by omega)
    have r5 := hs 5 (by omega)
    have e6 : V 6 = .pointer (some ⟨w.heap.size, 2, none⟩) := hs 6 (by omega)
    have e7 : V 7 = .int .i64 t.breath := hs 7 (by omega)
    have r8 := hs 8 (by omega)
    obtain ⟨g, h, e8, o1, o2⟩ := r8
    simp only [Rs.canon, Rs.dstOf, List.range_succ, List.range_zero, List.nil_append, List.cons_append, List.foldl_cons, List.foldl_nil, List.drop_succ_cons, List.drop_zero, List.drop_nil, List.getElem?_toArray, List.getElem?_cons_succ, List.getElem?_cons_zero, Option.bind_some, Act.put, List.getD_cons_succ, List.getD_cons_zero, List.setIfInBounds_toArray, List.set_cons_succ, List.set_cons_zero]
    rw [e0, e1, e3, e4, e6, e7, e8]
    clear e0 e1 e3 e4 e6 e7 e8 r2 r5 hs
    have hy2 := (hG.block (w.heap.size + 1) (by omega)).trans HY.out
    obtain ⟨k0, k1, k2⟩ := blk3 hy2
    have z : ∀ i, w'.frozen? ⟨w.heap.size + 1, i, none⟩ = false := fun i => by simp [World.frozen?, hy2]
    have hz2 := hG.size
    have hq1 : w.heap.size + 1 < w'.heap.size := by omega
    have HY2 := Lib.hid hy2
    have HB2 := Lib.hid (join HB.out hG)
    have O1 := Lib.hid o1
    have O2 := Lib.hid o2
    clear hy2 o1 o2 hG hz2
    go_wp2
    obtain ⟨W3, hW3⟩ : ∃ W3, W3 = ((w'.setCell ⟨w.heap.size + 1, 0, none⟩ (.slice (some ⟨g, 0, none⟩) t.words.length t.words.length)).setCell ⟨w.heap.size + 1, 1, none⟩ (.slice (some ⟨h, 0, none⟩) t.turns.length t.turns.length)).setCell ⟨w.heap.size + 1, 2, none⟩ (.int .i64 t.breath) := ⟨_, rfl⟩
    rw [← hW3]
    have hx1 : W3.heap[w.heap.size + 1]? = some (.cells #[.slice (some ⟨g, 0, none⟩) t.words.length t.words.length, .slice (some ⟨h, 0, none⟩) t.turns.length t.turns.length, .int .i64 t.breath] 25 (0, 0)) := by
      rw [hW3]; exact heap_set_same _ (heap_set_same _ (heap_set_same _ HY2.out))
    have c0 := blk_cells hx1 0 _ rfl
    have c1 := blk_cells hx1 1 _ rfl
    have c2 := blk_cells hx1 2 _ rfl
    refine bodyPost_ret (v := .agg #[.slice (some ⟨g, 0, none⟩) t.words.length t.words.length, .slice (some ⟨h, 0, none⟩) t.turns.length t.turns.length, .int .i64 t.breath]) (by simp [results, Try.results19, go_sem, c0, c1, c2]) rfl ⟨g, h, rfl, ?_, ?_, ?_⟩
    · rw [hW3]; exact own_base (own_setC (own_setC (own_setC O1.out (by omega)) (by omega)) (by omega)) (by omega)
    · rw [hW3]; exact own_base (own_setC (own_setC (own_setC O2.out (by omega)) (by omega)) (by omega)) (by omega)
    · rw [hW3]; exact belS (belS (belS HB2.out (by omega)) (by omega)) (by omega)
end Go.Proofs.Ytadnggecnjdhiaa
set_option linter.unusedSimpArgs false
set_option linter.unusedVariables false
namespace Go.Proofs.Ytadnggecnjdhiaa
open Go.RowKit Tx
attribute [local go_sem] Oper.semAt_some

theorem A_infoRW : (Try.prog.info? 78).map (fun i => (i.zero, i.size, i.bytes)) = some (some (.agg #[.int .i64 0, .int .i64 0, .bool false]), 3, 24) := by kernel_rfl
theorem A_infoRT : (Try.prog.info? 81).map (fun i => (i.zero, i.size, i.bytes)) = some (some (.agg #[.int .i64 0, .int .i64 0, .int .i64 0]), 3, 24) := by kernel_rfl
theorem A_undRW : Try.prog.underlying 32 = some (.slice 78) := by kernel_rfl
theorem A_undRT : Try.prog.underlying 33 = some (.slice 81) := by kernel_rfl
theorem own_other {w w' : World} {base base2 : Nat} {e e2 : TypeId} {size size2 : Nat} {v v2 : Value} {n n2 : Nat} {xs xs2 : List Value} (h : w.ownsRow base e size v n xs) (h2 : w.ownsRow base2 e2 size2 v2 n2 xs2) (he : e ≠ e2) (hg : w.grownBy w' v2.ownBlock) : w'.ownsRow base e size v n xs := by
  refine h.kept hg ?_
  rcases h.2 with ⟨h1, _⟩ | ⟨g, cap, cur, h1, hb, hgx, _⟩
  · exact .inl (by rw [h1]; rfl)
  · right
    rw [h1]
    rcases h2.2 with ⟨h3, _⟩ | ⟨g2, cap2, cur2, h3, hb2, hg2, _⟩
    · rw [h3]; show some g ≠ none; simp
    · rw [h3]; show some g ≠ some g2
      intro e; injection e with e; subst e
      rw [hgx] at hg2; injection hg2 with h; injection h with _ h; exact he h
theorem own_val {w : World} {base : Nat} {e : TypeId} {size : Nat} {v : Value} {n : Nat} {xs : List Value} (h : w.ownsRow base e size v n xs) : ∃ p c, v = .slice p n c := by
  rcases h.2 with ⟨rfl, hn⟩ | ⟨g, cap, cur, rfl, _⟩
  · exact ⟨none, 0, by rw [hn]⟩
  · exact ⟨_, cap, rfl⟩
theorem cell3_new (w : World) (a b c : Value) (T : TypeId) : ∀ (j : Nat) (u : Value), [a, b, c][j]? = some u → (w.alloc (.cells #[a, b, c] T)).cell? ((⟨w.heap.size, 0, none⟩ : Addr).add j) = some u := by
  intro j u hj
  have hadd : (⟨w.heap.size, 0, none⟩ : Addr).add j = ⟨w.heap.size, j, none⟩ := by unfold Addr.add; split <;> simp_all
  rw [hadd]
  exact blk_cells (heap_last w _) j u (by simpa using hj)
theorem blk_grown {w w' : World} {R : Nat} {o : Obj} {base : Nat} {e : TypeId} {size : Nat} {v : Value} {n : Nat} {xs : List Value} (h : w.heap[R]? = some o) (hown : w.ownsRow base e size v n xs) (hg : w.grownBy w' v.ownBlock) (hR : R < base) : w'.heap[R]? = some o := by
  refine (hg.block R (Array.getElem?_eq_some_iff.1 h).1 ?_).trans h
  rcases hown.2 with ⟨h1, _⟩ | ⟨g, cap, cur, h1, hb, _⟩
  · rw [h1]; show some R ≠ none; simp
  · rw [h1]; show some R ≠ some g; intro e; injection e; omega
/-- what theirs leaves -/
def TheirsPost (t : Text) (w : World) (e : Ending) (w' : World) : Prop := ∃ p q c d, e = .returned (.agg #[.slice p t.words.length c, .slice q t.turns.length d, .int .i64 t.breath]) ∧
  w'.ownsRow w.heap.size 78 3 (.slice p t.words.length c) t.words.length (wcells t.words) ∧ w'.ownsRow w.heap.size 81 3 (.slice q t.turns.length d) t.turns.length (tcells t.turns) ∧ Below w.heap.size w w'
structure ThW (t : Text) (pw pt : Option Addr) (cw ct : Nat) (w : World) (v u : Value) (k m : Nat) (W : World) : Prop where
  prm : W.heap[w.heap.size]? = some (.cells #[.slice pw t.words.length cw, .slice pt t.turns.length ct, .int .i64 t.breath] 25 (0, 0))
  res : W.heap[w.heap.size + 1]? = some (.cells #[.slice none 0 0, .slice none 0 0, .int .i64 0] 35 (0, 0))
  out : W.heap[w.heap.size + 2]? = some (.cells #[v, u, .int .i64 t.breath] 35 (0, 0))
  ow : W.ownsRow (w.heap.size + 3) 78 3 v k (wcells (t.words.take k))
  ou : W.ownsRow (w.heap.size + 3) 81 3 u m (tcells (t.turns.take m))
  bel : Below w.heap.size w W
  siz : w.heap.size + 3 ≤ W.heap.size
theorem ThW.alloc {t : Text} {pw pt : Option Addr} {cw ct : Nat} {w : World} {v u : Value} {k m : Nat} {W : World} (h : ThW t pw pt cw ct w v u k m W) (o : Obj) : ThW t pw pt cw ct w v u k m (W.alloc o) := by
  have hb := below1 W o
  exact ⟨(hb.block _ (Array.getElem?_eq_some_iff.1 h.prm).1).trans h.prm, (hb.block _ (Array.getElem?_eq_some_iff.1 h.res).1).trans h.res, (hb.block _ (Array.getElem?_eq_some_iff.1 h.out).1).trans h.out, h.ow.alloc _, h.ou.alloc _, join h.bel hb, by have := h.siz; simp; omega⟩
theorem ThW.wgrow {t : Text} {pw pt : Option Addr} {cw ct : Nat} {w : World} {v u v' : Value} {k m : Nat} {W W' : World} (h : ThW t pw pt cw ct w v u k m W) (hk : k < t.words.length) (hg : W.grownBy W' v.ownBlock) (ho : W'.ownsRow (w.heap.size + 3) 78 3 v' (k + 1) (wcells (t.words.take k) ++ wcell (t.words.getD k default))) :
    ThW t pw pt cw ct w v' u (k + 1) m (W'.setCell ⟨w.heap.size + 2, 0, none⟩ v') := by
  have hs := h.siz
  have b1 := blk_grown h.prm h.ow hg (by omega)
  have b2 := blk_grown h.res h.ow hg (by omega)
  have b3 := blk_grown h.out h.ow hg (by omega)
  have ne : ∀ {R : Nat}, R ≠ w.heap.size + 2 → (W'.setCell ⟨w.heap.size + 2, 0, none⟩ v').heap[R]? = W'.heap[R]? := fun {R} hR => Below.heap_setCell _ _ _ _ hR
  refine ⟨(ne (by omega)).trans b1, (ne (by omega)).trans b2, ?_, ?_, own_setC (own_other h.ou h.ow (by decide) hg) (by omega), belS (below_grown h.bel h.ow (by omega) (by omega) hg) (by omega), by have := hg.size; simp; omega⟩
  · exact heap_set_same _ b3
  · rw [take_snocD default hk, wcells_snoc]; exact own_setC ho (by omega)
theorem ThW.ugrow {t : Text} {pw pt : Option Addr} {cw ct : Nat} {w : World} {v u u' : Value} {k m : Nat} {W W' : World} (h : ThW t pw pt cw ct w v u k m W) (hm : m < t.turns.length) (hg : W.grownBy W' u.ownBlock) (ho : W'.ownsRow (w.heap.size + 3) 81 3 u' (m + 1) (tcells (t.turns.take m) ++ tcell (t.turns.getD m default))) :
    ThW t pw pt cw ct w v u' k (m + 1) (W'.setCell ⟨w.heap.size + 2, 1, none⟩ u') := by
  have hs := h.siz
  have b1 := blk_grown h.prm h.ou hg (by omega)
  have b2 := blk_grown h.res h.ou hg (by omega)
  have b3 := blk_grown h.out h.ou hg (by omega)
  have ne : ∀ {R : Nat}, R ≠ w.heap.size + 2 → (W'.setCell ⟨w.heap.size + 2, 1, none⟩ u').heap[R]? = W'.heap[R]? := fun {R} hR => Below.heap_setCell _ _ _ _ hR
  refine ⟨(ne (by omega)).trans b1, (ne (by omega)).trans b2, ?_, own_setC (own_other h.ow h.ou (by decide) hg) (by omega), ?_, belS (below_grown h.bel h.ou (by omega) (by omega) hg) (by omega), by have := hg.size; simp; omega⟩
  · exact heap_set_same _ b3
  · rw [take_snocD default hm, tcells_snoc]; exact own_setC ho (by omega)
set_option maxHeartbeats 4000000 in
set_option maxRecDepth 100000 in
theorem theirs_any (t : Text) (hl1 : t.words.length ≤ 1000000) (hl2 : t.turns.length ≤ 1000000) (pw pt : Option Addr) (cw ct : Nat) (w : World) (hW : TxAt w t pw pt) :
    Calls Try.prog 20 #[.agg #[.slice pw t.words.length cw, .slice pt t.turns.length ct, .int .i64 t.breath]] w (TheirsPost t w) := by
  obtain ⟨i0, hi0, hz0, hz1, hz2⟩ := info_parts A_infoRW
  obtain ⟨j0, hj0, hy0, hy1, hy2⟩ := info_parts A_infoRT
  have HT := Lib.hid hW
  have hS : ThW t pw pt cw ct w (.slice none 0 0) (.slice none 0 0) 0 0 (((w.alloc (.cells #[.slice pw t.words.length cw, .slice pt t.turns.length ct, .int .i64 t.breath] 25)).alloc (.cells #[.slice none 0 0, .slice none 0 0, .int .i64 0] 35)).alloc (.cells #[.slice none 0 0, .slice none 0 0, .int .i64 t.breath] 35)) := by
    have h1 := heap_last w (.cells #[.slice pw t.words.length cw, .slice pt t.turns.length ct, .int .i64 t.breath] 25)
    have b1 := below1 w (.cells #[.slice pw t.words.length cw, .slice pt t.turns.length ct, .int .i64 t.breath] 25)
    have hz1 : (w.alloc (.cells #[.slice pw t.words.length cw, .slice pt t.turns.length ct, .int .i64 t.breath] 25)).heap.size = w.heap.size + 1 := by simp
    generalize w.alloc (.cells #[.slice pw t.words.length cw, .slice pt t.turns.length ct, .int .i64 t.breath] 25) = W1 at h1 b1 hz1 ⊢
    have h2 := heap_last W1 (.cells #[.slice none 0 0, .slice none 0 0, .int .i64 0] 35)
    have b2 := below1 W1 (.cells #[.slice none 0 0, .slice none 0 0, .int .i64 0] 35)
    have hz2 : (W1.alloc (.cells #[.slice none 0 0, .slice none 0 0, .int .i64 0] 35)).heap.size = W1.heap.size + 1 := by simp
    generalize W1.alloc (.cells #[.slice none 0 0, .slice none 0 0, .int .i64 0] 35) = W2 at h2 b2 hz2 ⊢
    have h3 := heap_last W2 (.cells #[.slice none 0 0, .slice none 0 0, .int .i64 t.breath] 35)
    have b3 := below1 W2 (.cells #[.slice none 0 0, .slice none 0 0, .int .i64 t.breath] 35)
    rw [hz2, hz1] at h3
    rw [hz1] at h2
    exact ⟨(b3.block _ (by omega)).trans ((b2.block _ (by omega)).trans h1), (b3.block _ (by omega)).trans h2, h3, own_none _ _ _ _, own_none _ _ _ _, join (join b1 b2) b3, by simp; omega⟩
  have HS := Lib.hid hS
  clear hS hW
  go_enter Try.func20, Try.ntmps20
  go_wp2
  go_loopg [14] t.words.length (fun g i wi => ∃ (k : Nat) (v : Value), g + k = t.words.length ∧ i = .int .i64 k ∧ ThW t pw pt cw ct w v (.slice none 0 0) k 0 wi)
  case atStart => exact ⟨0, _, by omega, rfl, HS.out⟩
  case round =>
    clear HS
    obtain ⟨k, v, hk, rfl, hD⟩ := hrel
    obtain ⟨k0, k1, k2⟩ := blk3 hD.out
    obtain ⟨p0, p1, p2⟩ := blk3 hD.prm
    have hsz := hD.siz
    by_cases hlt : k < t.words.length
    · have hlt' : (k : Int) < t.words.length := by omega
      obtain ⟨b, o, x, rfl, hb, hxx, c1, c2, c3⟩ := (HT.out.below hD.bel).words.at hlt
      have z : wr.frozen? ⟨w.heap.size + 2, 0, none⟩ = false := by simp [World.frozen?, hD.out]
      have HXX := Lib.hid hxx
      have HD := Lib.hid (hD.alloc (.cells #[.int .i64 x.syl, .int .i64 x.wt, .bool x.stop] 77))
      have HSZ := Lib.hid hsz
      have hq2 : w.heap.size + 2 < wr.heap.size := by omega
      obtain ⟨xa, xb, xc⟩ := x
      dsimp only at c1 c2 c3 HD
      clear hD hxx hsz
      go_wp2_with (at_builtin; refine wpList_append_own _ rfl _ _ 32 rfl (w.heap.size + 3) 78 i0 (.agg #[.int .i64 0, .int .i64 0, .bool false]) 3 24 A_undRW hi0 hz0 hz1 hz2 rfl (by decide) _ _ _ rfl (HD.out.ow.alloc _) ⟨wr.heap.size + 1, 0, none⟩ 1 1 [.int .i64 xa, .int .i64 xb, .bool xc] rfl rfl ?d1 ?d2 ?d3 ?d4 ?d5 ?_)
      case d1 =>
        intro j u hj
        have := cell3_new (wr.alloc (.cells #[.int .i64 xa, .int .i64 xb, .bool xc] 77)) (.int .i64 xa) (.int .i64 xb) (.bool xc) 78 j u hj
        simpa using this
      case d2 => intro u hu; simp at hu; rcases hu with rfl | rfl | rfl <;> rfl
      case d3 => unfold maxLen; omega
      case d4 => omega
      case d5 => have := HSZ.out; simp; omega
      intro v' w8 hown8 hgrow _
      obtain ⟨vp, vc, rfl⟩ := own_val hown8
      have HD8 := Lib.hid ((HD.out.alloc _).wgrow hlt hgrow (by rw [← HXX.out]; exact hown8))
      have hz8 := hgrow.size
      have b3 := blk_grown (HD.out.alloc _).out (HD.out.alloc _).ow hgrow (by omega)
      have z8 : ∀ i, w8.frozen? ⟨w.heap.size + 2, i, none⟩ = false := fun i => by simp [World.frozen?, b3]
      obtain ⟨q0, q1, q2⟩ := blk3 b3
      have hq8 : w.heap.size + 2 < w8.heap.size := by simp at hz8; omega
      clear hgrow hown8 hz8 b3 HD
      go_wp2
      go_roundg (gk - 1)
      case rel => exact ⟨k + 1, _, by omega, by simp, HD8.out⟩
      case measure => omega
    · have hkk : k = t.words.length := by omega
      subst hkk
      have HD := Lib.hid hD
      clear hD hk hlt
      go_wp2_with fail
      go_loopg [28] t.turns.length (fun g i wi => ∃ (m : Nat) (u : Value), g + m = t.turns.length ∧ i = .int .i64 m ∧ ThW t pw pt cw ct w v u t.words.length m wi)
      case atStart => exact ⟨0, _, by omega, rfl, HD.out⟩
      case round =>
        clear HD k0 k1 k2 p0 p1 p2
        obtain ⟨k, u, hk, rfl, hD⟩ := hrel
        obtain ⟨k0, k1, k2⟩ := blk3 hD.out
        obtain ⟨p0, p1, p2⟩ := blk3 hD.res
        have hsz := hD.siz
        by_cases hlt : k < t.turns.length
        · have hlt' : (k : Int) < t.turns.length := by omega
          obtain ⟨b, o, x, rfl, hb, hxx, c1, c2, c3⟩ := (HT.out.below hD.bel).turns.at hlt
          have HXX := Lib.hid hxx
          have HD := Lib.hid (hD.alloc (.cells #[.int .i64 x.word, .int .i64 x.lo, .int .i64 x.hi] 80))
          have HSZ := Lib.hid hsz
          have hq2 : w.heap.size + 2 < wr.heap.size := by omega
          obtain ⟨xa, xb, xc⟩ := x
          dsimp only at c1 c2 c3 HD
          clear hD hxx hsz
          go_wp2_with (at_builtin; refine wpList_append_own _ rfl _ _ 33 rfl (w.heap.size + 3) 81 j0 (.agg #[.int .i64 0, .int .i64 0, .int .i64 0]) 3 24 A_undRT hj0 hy0 hy1 hy2 rfl (by decide) _ _ _ rfl (HD.out.ou.alloc _) ⟨wr.heap.size + 1, 0, none⟩ 1 1 [.int .i64 xa, .int .i64 xb, .int .i64 xc] rfl rfl ?e1 ?e2 ?e3 ?e4 ?e5 ?_)
          case e1 =>
            intro j u hj
            have := cell3_new (wr.alloc (.cells #[.int .i64 xa, .int .i64 xb, .int .i64 xc] 80)) (.int .i64 xa) (.int .i64 xb) (.int .i64 xc) 81 j u hj
            simpa using this
          case e2 => intro u hu; simp at hu; rcases hu with rfl | rfl | rfl <;> rfl
          case e3 => unfold maxLen; omega
          case e4 => omega
          case e5 => have := HSZ.out; simp; omega
          intro v' w8 hown8 hgrow _
          obtain ⟨vp, vc, rfl⟩ := own_val hown8
          have HD8 := Lib.hid ((HD.out.alloc _).ugrow hlt hgrow (by rw [← HXX.out]; exact hown8))
          have hz8 := hgrow.size
          have b3 := blk_grown (HD.out.alloc _).out (HD.out.alloc _).ou hgrow (by omega)
          have z8 : ∀ i, w8.frozen? ⟨w.heap.size + 2, i, none⟩ = false := fun i => by simp [World.frozen?, b3]
          obtain ⟨q0, q1, q2⟩ := blk3 b3
          have hq8 : w.heap.size + 2 < w8.heap.size := by simp at hz8; omega
          clear hgrow hown8 hz8 b3 HD
          go_wp2
          go_roundg (gk - 1)
          case rel => exact ⟨k + 1, _, by omega, by simp, HD8.out⟩
          case measure => omega
        · have hkk : k = t.turns.length := by omega
          subst hkk
          have z8 : ∀ i, wr.frozen? ⟨w.heap.size + 1, i, none⟩ = false := fun i => by simp [World.frozen?, hD.res]
          have hq8 : w.heap.size + 1 < wr.heap.size := by omega
          have ow := hD.ow
          have ou := hD.ou
          rw [List.take_length] at ow ou
          obtain ⟨p, c, rfl, HWd, -⟩ := own_wds ow rfl
          obtain ⟨q, d, rfl, HTn, -⟩ := own_tns ou rfl
          have HD := Lib.hid hD
          have HOW := Lib.hid ow
          have HOU := Lib.hid ou
          clear hD hk hlt ow ou HWd HTn
          go_wp2
          obtain ⟨W3, hW3⟩ : ∃ W3, W3 = ((wr.setCell ⟨w.heap.size + 1, 0, none⟩ (.slice p t.words.length c)).setCell ⟨w.heap.size + 1, 1, none⟩ (.slice q t.turns.length d)).setCell ⟨w.heap.size + 1, 2, none⟩ (.int .i64 t.breath) := ⟨_, rfl⟩
          rw [← hW3]
          have hx1 : W3.heap[w.heap.size + 1]? = some (.cells #[.slice p t.words.length c, .slice q t.turns.length d, .int .i64 t.breath] 35 (0, 0)) := by
            rw [hW3]; exact heap_set_same _ (heap_set_same _ (heap_set_same _ HD.out.res))
          have c0 := blk_cells hx1 0 _ rfl
          have c1 := blk_cells hx1 1 _ rfl
          have c2 := blk_cells hx1 2 _ rfl
          refine bodyPost_ret (v := .agg #[.slice p t.words.length c, .slice q t.turns.length d, .int .i64 t.breath]) (by simp [results, Try.results20, go_sem, c0, c1, c2]) rfl ⟨p, q, c, d, rfl, ?_, ?_, ?_⟩
          · rw [hW3]; exact own_base (own_setC (own_setC (own_setC HOW.out (by omega)) (by omega)) (by omega)) (by omega)
          · rw [hW3]; exact own_base (own_setC (own_setC (own_setC HOU.out (by omega)) (by omega)) (by omega)) (by omega)
          · rw [hW3]; exact belS (belS (belS HD.out.bel (by omega)) (by omega)) (by omega)
end Go.Proofs.Ytadnggecnjdhiaa
set_option linter.unusedSimpArgs false
set_option linter.unusedVariables false
namespace Go.Proofs.Ytadnggecnjdhiaa
open Go.RowKit Tx
attribute [local go_sem] Oper.semAt_some
def spFa (t : Text) (pw pt : Option Addr) (cw ct a b : Nat) : Nat → List Value → Value → World → Prop
  | 0, _, v, _ => v = .agg #[.slice pw t.words.length cw, .slice pt t.turns.length ct, .int .i64 t.breath]
  | 1, _, v, _ => v = .int .i64 a
  | 2, _, v, _ => v = .int .i64 b
  | 3, L, v, w => ∃ p c, v = .slice p (wordsL a (b - a)).length c ∧ Ints w p (wordsL a (b - a))
  | 4, L, v, w => ∃ p c, v = .slice p (rsaid t (wordsL a (b - a))).length c
  | 5, _, v, _ => v = .int .i64 ((rsaid t (wordsL a (b - a))).length : Int)
  | 6, _, v, _ => v = .bool (decide (0 < ((rsaid t (wordsL a (b - a))).length : Int)))
  | _, _, _, _ => False
theorem spFa_stable (t : Text) (pw pt : Option Addr) (cw ct a b : Nat) : ∀ i L v w w', spFa t pw pt cw ct a b i L v w → Rs.Gr w w' → spFa t pw pt cw ct a b i L v w' := by
  intro i L v w w' h hg
  match i with
  | 0 => exact h
  | 1 => exact h
  | 2 => exact h
  | 3 => obtain ⟨p, c, h1, h2⟩ := h; exact ⟨p, c, h1, h2.below hg⟩
  | 4 => exact h
  | 5 => exact h
  | 6 => exact h

theorem stop_b (t : Text) (p : Nat) (b : Bool) (hb : rstop t p = b) (hl : t.words.length ≤ 1000000) (hp : p ≤ t.words.length) (pw : Option Addr) (cw : Nat) (v1 v2 : Value) (w : World) (hW : Wds w pw t.words) :
    Calls Try.prog 143 #[.agg #[.slice pw t.words.length cw, v1, v2], .int .i64 p] w fun e w' => e = .returned (.bool b) ∧ Below w.heap.size w w' := hb ▸ stop_any t p hl hp pw cw v1 v2 w hW
set_option maxHeartbeats 4000000 in
set_option maxRecDepth 100000 in
theorem Fault_any (t : Text) (ok : Text.Ok t) (a b : Nat) (hab : a ≤ b) (hb : b ≤ t.words.length) (pw pt : Option Addr) (cw ct : Nat) (w : World) (hW : TxAt w t pw pt) :
    Calls Try.prog 97 #[.agg #[.slice pw t.words.length cw, .slice pt t.turns.length ct, .int .i64 t.breath], .int .i64 a, .int .i64 b] w fun e w' => e = .returned (.int .i64 (kindI t a b)) ∧ Below w.heap.size w w' := by
  have HK := Lib.hid (kindI_eq t (fun u hu => (ok.turn u hu).2.2.2.1) a b hab)
  have HOK := Lib.hid ok
  have hn12 := ok.n12
  have hm6 := ok.m6
  have HWO : Hid (∀ W, Calls Try.prog 93 #[.int .i64 a, .int .i64 b] W (RowPost (wordsL a (b - a)) W)) := Lib.hid (fun W => by
    have := words_any a b (by omega) (by omega) W
    rwa [show ((b : Int) - (a : Int)).toNat = b - a by omega] at this)
  have hwl : (wordsL (a : Int) (b - a)).length ≤ 1000000 := by rw [wordsL_length]; omega
  have HSA := Lib.hid (fun p c W (h : Below w.heap.size w W) hL => Said_any t (by omega) (fun u hu => by have := ok.turn u hu; omega) (wordsL a (b - a)) hwl pt p ct c (.slice pw t.words.length cw) (.int .i64 t.breath) W (hW.turns.below h) hL)
  have HB := Lib.hid (below1 w (.cells #[.slice pw t.words.length cw, .slice pt t.turns.length ct, .int .i64 t.breath] 35))
  have HX := Lib.hid (heap_last w (.cells #[.slice pw t.words.length cw, .slice pt t.turns.length ct, .int .i64 t.breath] 35))
  have HW := Lib.hid (hW.words)
  have hz1 : (w.alloc (.cells #[.slice pw t.words.length cw, .slice pt t.turns.length ct, .int .i64 t.breath] 35)).heap.size = w.heap.size + 1 := by simp
  generalize kindI t a b = ki at HK ⊢
  clear hW ok hwl
  obtain ⟨k0, k1, k2⟩ := blk3 HX.out
  go_enter Try.func97, Try.ntmps97
  go_wp2_with fail
  generalize w.alloc (.cells #[.slice pw t.words.length cw, .slice pt t.turns.length ct, .int .i64 t.breath] 35) = W1 at HB HX hz1 k0 k1 k2 ⊢
  have HZ0' : w.heap.size < W1.heap.size := by omega
  go_loop [7, 8] (fun n i => ∃ k : Nat, a + k ≤ b ∧ i = .int .i64 ((a + k : Nat) : Int) ∧ n = .int .i64 (t.syl a (a + k))) (fun _ i => b - (intOf i).toNat)
  case atStart => exact ⟨0, by omega, by simp, by rw [syl_none]⟩
  case round =>
    obtain ⟨k, hk, rfl, rfl⟩ := hrel
    by_cases hlt : a + k < b
    · have hlt' : ((a + k : Nat) : Int) < b := by omega
      have hlt2 : a + k < t.words.length := by omega
      have hlt3 : ((a + k : Nat) : Int) < t.words.length := by omega
      obtain ⟨bb, o, x, rfl, hbl, hxx, c1, c2, c3⟩ := (HW.out.below HB.out).at hlt2
      have hsn := syl_snoc t a k hlt2
      rw [← hxx] at hsn
      have h1 := syl_bd HOK.out a (a + k)
      have h2 := syl_bd HOK.out a (a + (k + 1))
      have HSN := Lib.hid hsn
      rw [hsn] at h2
      generalize t.syl a (a + k) = sy at h1 h2 HSN
      obtain ⟨xa, xb, xc⟩ := x
      dsimp only at c1 c2 c3 h2 HSN
      have e3 : ((a + k : Nat) : Int) + 1 = ((a + (k + 1) : Nat) : Int) := by omega
      have E3 := Lib.hid e3
      generalize hq : a + k = q at hlt hlt' hlt2 hlt3 c1 c2 c3 E3
      clear hxx hsn e3 k0 k1 k2
      obtain ⟨k0, k1, k2⟩ := blk3 HX.out
      go_wp2
      go_round
      case rel => exact ⟨k + 1, by omega, by rw [E3.out], by rw [HSN.out]⟩
      case measure => simp [intOf]; omega
    · obtain rfl : b = a + k := by omega
      have hbd := syl_bd HOK.out a (a + k)
      have HWx := Lib.hid (HW.out.below HB.out)
      generalize t.syl a (a + k) = sy at HK hbd
      generalize hB : a + k = b at *
      by_cases hlong : t.breath < sy
      · have HF : Hid (ki = 0) := Lib.hid (by rw [HK.out, if_pos hlong])
        clear HK
        go_wp2
        go_ret
        exact ⟨ret_int HF.out.symm, HB.out⟩
      have HK := Lib.hid (HK.out.trans (if_neg hlong))
      cases hsa : rstop t a with
      | false =>
        have HF : Hid (ki = 1) := Lib.hid (by rw [HK.out, if_pos hsa])
        clear HK
        go_wp2_with fail
        refine (stop_b t a _ hsa (by omega) (by omega) pw cw _ _ _ HWx.out).mono ?_
        rintro e w5 ⟨rfl, hB5⟩
        have HB5 := Lib.hid (join HB.out hB5)
        clear hB5 hsa
        go_wp2
        go_ret
        exact ⟨ret_int HF.out.symm, HB5.out⟩
      | true =>
        have HK := Lib.hid (HK.out.trans (if_neg (by rw [hsa]; decide)))
        cases hsb : rstop t b with
        | false =>
          have HF : Hid (ki = 1) := Lib.hid (by rw [HK.out, if_pos hsb])
          have HSB := Lib.hid hsb
          clear HK
          go_wp2_with fail
          refine (stop_b t a _ hsa (by omega) (by omega) pw cw _ _ _ HWx.out).mono ?_
          rintro e w5 ⟨rfl, hB5⟩
          have HX5 := Lib.hid ((hB5.block w.heap.size HZ0').trans HX.out)
          have HW5 := Lib.hid (HWx.out.below hB5)
          have HB5 := Lib.hid (join HB.out hB5)
          clear hB5 hsa hsb k0 k1 k2
          obtain ⟨k0, k1, k2⟩ := blk3 HX5.out
          go_wp2_with fail
          refine (stop_b t b _ HSB.out (by omega) (by omega) pw cw _ _ _ HW5.out).mono ?_
          rintro e w6 ⟨rfl, hB6⟩
          have HB6 := Lib.hid (join HB5.out hB6)
          clear hB6
          go_wp2
          go_ret
          exact ⟨ret_int HF.out.symm, HB6.out⟩
        | true =>
          have HF := Lib.hid (HK.out.trans (if_neg (by rw [hsb]; decide)))
          have HSB := Lib.hid hsb
          clear HK
          go_wp2_with fail
          refine (stop_b t a _ hsa (by omega) (by omega) pw cw _ _ _ HWx.out).mono ?_
          rintro e w5 ⟨rfl, hB5⟩
          have HX5 := Lib.hid ((hB5.block w.heap.size HZ0').trans HX.out)
          have HW5 := Lib.hid (HWx.out.below hB5)
          have HB5 := Lib.hid (join HB.out hB5)
          clear hB5 hsa hsb k0 k1 k2
          obtain ⟨k0, k1, k2⟩ := blk3 HX5.out
          go_wp2_with fail
          refine (stop_b t b _ HSB.out (by omega) (by omega) pw cw _ _ _ HW5.out).mono ?_
          rintro e w6 ⟨rfl, hB6⟩
          have HX := Lib.hid ((hB6.block w.heap.size (Array.getElem?_eq_some_iff.1 HX5.out).1).trans HX5.out)
          have HBx := Lib.hid (join HB5.out hB6)
          have HZ0 : w.heap.size < w6.heap.size := (Array.getElem?_eq_some_iff.1 HX.out).1
          clear hB6 k0 k1 k2 HX5 HW5 HB5
          go_wp2_with fail
          refine Rs.region_gen 7 [[], [], [], [1, 2], [0, 1, 2, 3], [0, 1, 2, 3, 4], [0, 1, 2, 3, 4, 5]] [some 37, some 38, some 39, some 40, some 41, some 42, some 43] (spFa t pw pt cw ct a b) (by kernel_rfl) (by kernel_rfl) rfl (spFa_stable _ _ _ _ _ _ _) ?_ ?_
          · refine ⟨fun V w' hG hs => ?_, fun V w' hG hs => ?_, fun V w' hG hs => ?_, fun V w' hG hs => ?_, fun V w' hG hs => ?_, fun V w' hG hs => ?_, fun V w' hG hs => ?_, trivial⟩
            all_goals
              obtain ⟨k0, k1, k2⟩ := blk3 ((hG.block w.heap.size HZ0).trans HX.out)
            · rw [if_pos (by rfl)]
              exact Rs.GrowL.value (v := .agg #[.slice pw t.words.length cw, .slice pt t.turns.length ct, .int .i64 t.breath]) (w' := w') (by simp [go_sem, Rs.look, k0, k1, k2]) (Rs.Gr.refl _) rfl
            · rw [if_pos (by rfl)]
              exact Rs.GrowL.value (v := .int .i64 a) (w' := w') (by simp [go_sem, Rs.look]) (Rs.Gr.refl _) rfl
            · rw [if_pos (by rfl)]
              exact Rs.GrowL.value (v := .int .i64 b) (w' := w') (by simp [go_sem, Rs.look]) (Rs.Gr.refl _) rfl
            · have e1 : V 1 = .int .i64 a := hs 1 (by simp)
              have e2 : V 2 = .int .i64 b := hs 2 (by simp)
              rw [if_pos (by rfl)]
              refine Rs.GrowL.call (f := 93) (args := #[.int .i64 a, .int .i64 b]) (by simp [go_sem, Rs.look, e1, e2]) ?_
              refine (HWO.out w').mono ?_
              rintro e w2 ⟨v, rfl, ho, hB2⟩
              obtain ⟨p, c, rfl, hI, -⟩ := own_rd ho rfl
              exact ⟨_, rfl, hB2, p, c, rfl, hI⟩
            · have e0 : V 0 = .agg #[.slice pw t.words.length cw, .slice pt t.turns.length ct, .int .i64 t.breath] := hs 0 (by simp)
              have e1 : V 1 = .int .i64 a := hs 1 (by simp)
              have e2 : V 2 = .int .i64 b := hs 2 (by simp)
              have r3 := hs 3 (by simp)
              rw [if_pos (by rfl)]
              obtain ⟨p, c, e3, hI⟩ := r3
              refine Rs.GrowL.call (f := 92) (args := #[.agg #[.slice pw t.words.length cw, .slice pt t.turns.length ct, .int .i64 t.breath], .slice p (wordsL a (b - a)).length c]) (by simp [go_sem, Rs.look, e0, e3]) ?_
              refine (HSA.out p c w' (join HBx.out hG) hI).mono ?_
              rintro e w2 ⟨v, rfl, ho, hB2⟩
              obtain ⟨p, c, rfl⟩ := own_val ho
              exact ⟨_, rfl, hB2, p, c, rfl⟩
            · have e0 : V 0 = .agg #[.slice pw t.words.length cw, .slice pt t.turns.length ct, .int .i64 t.breath] := hs 0 (by simp)
              have e1 : V 1 = .int .i64 a := hs 1 (by simp)
              have e2 : V 2 = .int .i64 b := hs 2 (by simp)
              have r3 := hs 3 (by simp)
              have r4 := hs 4 (by simp)
              rw [if_pos (by rfl)]
              obtain ⟨p, c, e4⟩ := r4
              exact Rs.GrowL.value (v := .int .i64 ((rsaid t (wordsL a (b - a))).length : Int)) (w' := w') (by simp [go_sem, Rs.look, e4]) (Rs.Gr.refl _) rfl
            · have e0 : V 0 = .agg #[.slice pw t.words.length cw, .slice pt t.turns.length ct, .int .i64 t.breath] := hs 0 (by simp)
              have e1 : V 1 = .int .i64 a := hs 1 (by simp)
              have e2 : V 2 = .int .i64 b := hs 2 (by simp)
              have r3 := hs 3 (by simp)
              have r4 := hs 4 (by simp)
              have e5 : V 5 = .int .i64 ((rsaid t (wordsL a (b - a))).length : Int) := hs 5 (by simp)
              rw [if_pos (by rfl)]
              exact Rs.GrowL.value (v := .bool (decide (0 < ((rsaid t (wordsL a (b - a))).length : Int)))) (w' := w') (by simp [go_sem, Rs.look, e0, e1, e2, e5]) (Rs.Gr.refl _) rfl
          · intro V w' hG hs
            have e0 : V 0 = .agg #[.slice pw t.words.length cw, .slice pt t.turns.length ct, .int .i64 t.breath] := hs 0 (by omega)
            have e1 : V 1 = .int .i64 a := hs 1 (by omega)
            have e2 : V 2 = .int .i64 b := hs 2 (by omega)
            have r3 := hs 3 (by omega)
            have r4 := hs 4 (by omega)
            have e5 : V 5 = .int .i64 ((rsaid t (wordsL a (b - a))).length : Int) := hs 5 (by omega)
            have e6 : V 6 = .bool (decide (0 < ((rsaid t (wordsL a (b - a))).length : Int))) := hs 6 (by omega)
            simp only [Rs.canon, Rs.dstOf, List.range_succ, List.range_zero, List.nil_append, List.cons_append, List.foldl_cons, List.foldl_nil, List.drop_succ_cons, List.drop_zero, List.drop_nil, List.getElem?_toArray, List.getElem?_cons_succ, List.getElem?_cons_zero, Option.bind_some, Act.put, List.getD_cons_succ, List.getD_cons_zero, List.setIfInBounds_toArray, List.set_cons_succ, List.set_cons_zero]
            rw [e0, e1, e2, e5, e6]
            clear e0 e1 e2 e5 e6 hs
            clear r3 r4
            obtain ⟨nn, hnn⟩ : ∃ nn : Nat, nn = (rsaid t (wordsL a (b - a))).length := ⟨_, rfl⟩
            rw [← hnn] at HF ⊢
            clear hnn
            by_cases hpos : 0 < nn
            · have hpos' : (0 : Int) < nn := by omega
              have HF2 := Lib.hid (HF.out.trans (if_pos hpos))
              clear HF
              go_wp2
              go_ret
              exact ⟨ret_int HF2.out.symm, join HBx.out hG⟩
            · have hpos' : ¬ (0 : Int) < nn := by omega
              have HF2 := Lib.hid (HF.out.trans (if_neg hpos))
              clear HF
              go_wp2
              go_ret
              exact ⟨ret_int HF2.out.symm, join HBx.out hG⟩
end Go.Proofs.Ytadnggecnjdhiaa
set_option linter.unusedSimpArgs false
set_option linter.unusedVariables false
namespace Go.Proofs.Ytadnggecnjdhiaa
open Go.RowKit Tx
attribute [local go_sem] Oper.semAt_some

set_option maxHeartbeats 1600000 in
theorem openReading_bad1 (t : Text) (l : List Int) (he : t.err ≠ 0) (hl1 : t.words.length ≤ 1000000) (hl2 : t.turns.length ≤ 1000000) (pw pt pl : Option Addr) (cw ct cl : Nat) (w : World) (hW : TxAt w t pw pt) :
    Calls Try.prog 95 #[.agg #[.slice pw t.words.length cw, .slice pt t.turns.length ct, .int .i64 t.breath], .slice pl l.length cl] w fun e w' =>
      e = .returned (.tuple #[.agg #[.slice none 0 0, .slice none 0 0, .int .i64 0, .nilFunc], .int .i64 t.err]) ∧ Below w.heap.size w w' := by
  have HS := Lib.hid (fun W (h : Below w.heap.size w W) => open_bad t he hl1 hl2 pw pt cw ct W (hW.below h))
  have HE : (t.err != 0) = true := by simpa using he
  clear hW he
  generalize t.err = er at HE HS ⊢
  go_enter Try.func95, Try.ntmps95
  go_wp2_with fail
  refine (HS.out _ ((below1 _ _).alloc (by simp) _)).mono ?_
  rintro e w5 ⟨rfl, hB5⟩
  have hz5 : w.heap.size + 1 < w5.heap.size := by have := hB5.size; simp at this; omega
  have hy5 : w.heap.size < w5.heap.size := by omega
  have hblk : w5.heap[w.heap.size + 1]? = some (.cells #[.slice none 0 0, .slice none 0 0, .int .i64 0, .nilFunc] 125 (0, 0)) := by
    rw [hB5.block _ (by simp)]
    have := heap_last (w.alloc (.cells #[.slice pw t.words.length cw, .slice pt t.turns.length ct, .int .i64 t.breath] 25)) (.cells #[.slice none 0 0, .slice none 0 0, .int .i64 0, .nilFunc] 125)
    rwa [World.size_alloc] at this
  have htx : w5.heap[w.heap.size]? = some (.cells #[.slice pw t.words.length cw, .slice pt t.turns.length ct, .int .i64 t.breath] 25 (0, 0)) := by
    rw [hB5.block _ (by simp; omega), Below.heap_alloc _ _ _ (by simp)]; exact heap_last _ _
  have HTX := Lib.hid htx
  have HB5 := Lib.hid (join ((below1 _ _).alloc (by simp) _) hB5)
  have HBLK := Lib.hid hblk
  clear hB5 htx
  have r0 := blk_cells hblk 0 _ rfl
  have r1 := blk_cells hblk 1 _ rfl
  have r2 := blk_cells hblk 2 _ rfl
  have r3 := blk_cells hblk 3 _ rfl
  have z : ∀ i, w5.frozen? ⟨w.heap.size + 1, i, none⟩ = false := fun i => by simp [World.frozen?, hblk]
  clear hblk
  go_wp2
  refine bodyPost_ret (v := .tuple #[.agg #[.slice none 0 0, .slice none 0 0, .int .i64 0, .nilFunc], .int .i64 er]) (by simp [results, Try.results95, go_sem, hz5, hy5, r0, r1, r2, r3]) rfl ⟨rfl, ?_⟩
  have hz9 := HB5.out.size
  repeat' (first | exact HB5.out | apply belS | apply belA | apply belD)
  all_goals first | omega | (simp; done) | (simp; omega)

set_option maxHeartbeats 1600000 in
theorem openReading_bad2 (t : Text) (l : List Int) (h0 : t.err = 0) (h1 : l.any (fun k => !btw k 1 12) = true) (hll : l.length ≤ 1000000) (pw pt pl : Option Addr) (cw ct cl : Nat) (w : World) (hW : TxAt w t pw pt) (hL : Ints w pl l) :
    Calls Try.prog 95 #[.agg #[.slice pw t.words.length cw, .slice pt t.turns.length ct, .int .i64 t.breath], .slice pl l.length cl] w fun e w' =>
      e = .returned (.tuple #[.agg #[.slice none 0 0, .slice none 0 0, .int .i64 0, .nilFunc], .int .i64 3]) ∧ Below w.heap.size w w' := by
  have h3 : errIf (fun k => !btw k 1 12) l 3 = 3 := by rw [errIf, if_pos h1]
  have HS := Lib.hid (fun W (h : Below w.heap.size w W) => open_ok t h0 pw pt cw ct W (hW.below h))
  have HI := Lib.hid (fun W (h : Below w.heap.size w W) => errIfI_any 140 entered_openReading1 (fun k => !btw k 1 12) l pl cl 3 W hll (hL.below h) (fun W' _ u => (openReading1_any u W').mono fun e w' ⟨h1, h2⟩ => ⟨h1, h2 ▸ Below.refl _ _⟩))
  have H3 := Lib.hid h3
  clear hW hL h1 h3 h0
  go_enter Try.func95, Try.ntmps95
  go_wp2_with fail
  refine (HS.out _ ((below1 _ _).alloc (by simp) _)).mono ?_
  rintro e w5 ⟨rfl, hB5⟩
  have hz5 : w.heap.size + 1 < w5.heap.size := by have := hB5.size; simp at this; omega
  have hy5 : w.heap.size < w5.heap.size := by omega
  have hblk : w5.heap[w.heap.size + 1]? = some (.cells #[.slice none 0 0, .slice none 0 0, .int .i64 0, .nilFunc] 125 (0, 0)) := by
    rw [hB5.block _ (by simp)]
    have := heap_last (w.alloc (.cells #[.slice pw t.words.length cw, .slice pt t.turns.length ct, .int .i64 t.breath] 25)) (.cells #[.slice none 0 0, .slice none 0 0, .int .i64 0, .nilFunc] 125)
    rwa [World.size_alloc] at this
  have htx : w5.heap[w.heap.size]? = some (.cells #[.slice pw t.words.length cw, .slice pt t.turns.length ct, .int .i64 t.breath] 25 (0, 0)) := by
    rw [hB5.block _ (by simp; omega), Below.heap_alloc _ _ _ (by simp)]; exact heap_last _ _
  have HTX := Lib.hid htx
  have HB5 := Lib.hid (join ((below1 _ _).alloc (by simp) _) hB5)
  have HBLK := Lib.hid hblk
  clear hB5 htx
  go_wp2_with fail
  refine (HI.out _ (join HB5.out (below1 _ _))).mono ?_
  rintro e w6 ⟨rfl, hB6⟩
  rw [H3.out]
  have hz6 : w5.heap.size < w6.heap.size := by have := hB6.size; simp at this; omega
  have HB6 := Lib.hid (join (join HB5.out (below1 _ _)) hB6)
  have hblk6 := (hB6.block (w.heap.size + 1) (by simp; omega)).trans ((Below.heap_alloc _ _ _ hz5).trans HBLK.out)
  have r0 := blk_cells hblk6 0 _ rfl
  have r1 := blk_cells hblk6 1 _ rfl
  have r2 := blk_cells hblk6 2 _ rfl
  have r3 := blk_cells hblk6 3 _ rfl
  have z : ∀ i, w6.frozen? ⟨w.heap.size + 1, i, none⟩ = false := fun i => by simp [World.frozen?, hblk6]
  clear hB6 hblk6 hblk
  have hq6 : w.heap.size < w6.heap.size ∧ w.heap.size + 1 < w6.heap.size := by omega
  obtain ⟨hq6, hq7⟩ := hq6
  go_wp2
  refine bodyPost_ret (v := .tuple #[.agg #[.slice none 0 0, .slice none 0 0, .int .i64 0, .nilFunc], .int .i64 3]) (by simp [results, Try.results95, go_sem, hq6, hq7, r0, r1, r2, r3]) rfl ⟨rfl, ?_⟩
  have hz9 := HB6.out.size
  repeat' (first | exact HB6.out | apply belS | apply belA | apply belD)
  all_goals first | omega | (simp; done) | (simp; omega)

set_option maxHeartbeats 1600000 in
theorem openReading_bad3 (t : Text) (l : List Int) (h0 : t.err = 0) (h1 : ¬ l.any (fun k => !btw k 1 12) = true) (h2 : isum l ≠ t.words.length) (hll : l.length ≤ 1000000) (pw pt pl : Option Addr) (cw ct cl : Nat) (w : World) (hW : TxAt w t pw pt) (hL : Ints w pl l) :
    Calls Try.prog 95 #[.agg #[.slice pw t.words.length cw, .slice pt t.turns.length ct, .int .i64 t.breath], .slice pl l.length cl] w fun e w' =>
      e = .returned (.tuple #[.agg #[.slice none 0 0, .slice none 0 0, .int .i64 0, .nilFunc], .int .i64 2]) ∧ Below w.heap.size w w' := by
  have hx : ∀ x ∈ l, -1000000 ≤ x ∧ x ≤ 1000000 := fun x hx => by
    have := any_false h1 x hx
    simp only [Bool.not_eq_false'] at this
    have := btw_true this; omega
  have h3 : errIf (fun k => !btw k 1 12) l 3 = 0 := by rw [errIf, if_neg h1]
  have HS := Lib.hid (fun W (h : Below w.heap.size w W) => open_ok t h0 pw pt cw ct W (hW.below h))
  have HI := Lib.hid (fun W (h : Below w.heap.size w W) => errIfI_any 140 entered_openReading1 (fun k => !btw k 1 12) l pl cl 3 W hll (hL.below h) (fun W' _ u => (openReading1_any u W').mono fun e w' ⟨h1, h2⟩ => ⟨h1, h2 ▸ Below.refl _ _⟩))
  have HM := Lib.hid (fun W (h : Below w.heap.size w W) => sum_any l pl cl W hll hx (hL.below h))
  have H3 := Lib.hid h3
  have h2' : (isum l != (t.words.length : Int)) = true := by simpa using h2
  clear hW hL h1 h2 h3 h0 hx
  go_enter Try.func95, Try.ntmps95
  go_wp2_with fail
  refine (HS.out _ ((below1 _ _).alloc (by simp) _)).mono ?_
  rintro e w5 ⟨rfl, hB5⟩
  have hz5 : w.heap.size + 1 < w5.heap.size := by have := hB5.size; simp at this; omega
  have hy5 : w.heap.size < w5.heap.size := by omega
  have hblk : w5.heap[w.heap.size + 1]? = some (.cells #[.slice none 0 0, .slice none 0 0, .int .i64 0, .nilFunc] 125 (0, 0)) := by
    rw [hB5.block _ (by simp)]
    have := heap_last (w.alloc (.cells #[.slice pw t.words.length cw, .slice pt t.turns.length ct, .int .i64 t.breath] 25)) (.cells #[.slice none 0 0, .slice none 0 0, .int .i64 0, .nilFunc] 125)
    rwa [World.size_alloc] at this
  have htx : w5.heap[w.heap.size]? = some (.cells #[.slice pw t.words.length cw, .slice pt t.turns.length ct, .int .i64 t.breath] 25 (0, 0)) := by
    rw [hB5.block _ (by simp; omega), Below.heap_alloc _ _ _ (by simp)]; exact heap_last _ _
  have HTX := Lib.hid htx
  have HB5 := Lib.hid (join ((below1 _ _).alloc (by simp) _) hB5)
  have HBLK := Lib.hid hblk
  clear hB5 htx
  go_wp2_with fail
  refine (HI.out _ (join HB5.out (below1 _ _))).mono ?_
  rintro e w6 ⟨rfl, hB6⟩
  rw [H3.out]
  have hz6 : w5.heap.size < w6.heap.size := by have := hB6.size; simp at this; omega
  have HB6 := Lib.hid (join (join HB5.out (below1 _ _)) hB6)
  have hblk6 := (hB6.block (w.heap.size + 1) (by simp; omega)).trans ((Below.heap_alloc _ _ _ hz5).trans HBLK.out)
  have htx6 := (hB6.block w.heap.size (by simp; omega)).trans ((Below.heap_alloc _ _ _ hy5).trans HTX.out)
  have t0 := blk_cells htx6 0 _ rfl
  have r0 := blk_cells hblk6 0 _ rfl
  have r1 := blk_cells hblk6 1 _ rfl
  have r2 := blk_cells hblk6 2 _ rfl
  have r3 := blk_cells hblk6 3 _ rfl
  have z : ∀ i, w6.frozen? ⟨w.heap.size + 1, i, none⟩ = false := fun i => by simp [World.frozen?, hblk6]
  clear hB6 hblk6 hblk htx6
  have hq6 : w.heap.size < w6.heap.size ∧ w.heap.size + 1 < w6.heap.size := by omega
  obtain ⟨hq6, hq7⟩ := hq6
  go_wp2_with fail
  go_region_with (go_at_call 141; refine (HM.out _ (by first | exact HB6.out.drew | exact HB6.out)).mono ?_; rintro e w7 ⟨rfl, rfl⟩)
  all_goals go_wp2
  all_goals refine bodyPost_ret (v := .tuple #[.agg #[.slice none 0 0, .slice none 0 0, .int .i64 0, .nilFunc], .int .i64 2]) (by simp [results, Try.results95, go_sem, hq6, hq7, r0, r1, r2, r3]) rfl ⟨rfl, ?_⟩
  all_goals have hz9 := HB6.out.size
  all_goals repeat' (first | exact HB6.out | apply belS | apply belA | apply belD)
  all_goals first | omega | (simp; done) | (simp; omega)
theorem openReading_bad (t : Text) (l : List Int) (he : readErr t l ≠ 0) (hl1 : t.words.length ≤ 1000000) (hl2 : t.turns.length ≤ 1000000) (hll : l.length ≤ 1000000) (pw pt pl : Option Addr) (cw ct cl : Nat) (w : World) (hW : TxAt w t pw pt) (hL : Ints w pl l) :
    Calls Try.prog 95 #[.agg #[.slice pw t.words.length cw, .slice pt t.turns.length ct, .int .i64 t.breath], .slice pl l.length cl] w fun e w' =>
      e = .returned (.tuple #[.agg #[.slice none 0 0, .slice none 0 0, .int .i64 0, .nilFunc], .int .i64 (readErr t l)]) ∧ Below w.heap.size w w' := by
  by_cases h0 : t.err = 0
  · by_cases h1 : l.any (fun k => !btw k 1 12) = true
    · have e : readErr t l = 3 := by unfold readErr; rw [if_neg (by simp [h0]), if_pos h1]
      rw [e]; exact openReading_bad2 t l h0 h1 hll pw pt pl cw ct cl w hW hL
    · by_cases h2 : isum l = t.words.length
      · exact absurd (by unfold readErr; rw [if_neg (by simp [h0]), if_neg h1, if_neg (by simp [h2])]) he
      · have e : readErr t l = 2 := by unfold readErr; rw [if_neg (by simp [h0]), if_neg h1, if_pos h2]
        rw [e]; exact openReading_bad3 t l h0 h1 h2 hll pw pt pl cw ct cl w hW hL
  · have e : readErr t l = t.err := by unfold readErr; rw [if_pos h0]
    rw [e]; exact openReading_bad1 t l h0 hl1 hl2 pw pt pl cw ct cl w hW
end Go.Proofs.Ytadnggecnjdhiaa
set_option linter.unusedSimpArgs false
set_option linter.unusedVariables false
namespace Go.Proofs.Ytadnggecnjdhiaa
open Go.RowKit Tx
attribute [local go_sem] Oper.semAt_some

/-- what Wrong tells -/
def wrongR (t : Text) (l : List Int) : Int × Int × Int := if readErr t l = 0 then wrongGo t 0 0 l else (0, 0, readErr t l)
set_option maxHeartbeats 800000 in
theorem Wrong_any (t : Text) (l : List Int) (hl1 : t.words.length ≤ 1000000) (hl2 : t.turns.length ≤ 1000000) (hll : l.length ≤ 1000000) (pw pt pl : Option Addr) (cw ct cl : Nat) (hcw : t.words.length ≤ cw ∧ cw ≤ maxLen) (w : World) (hW : TxAt w t pw pt) (hL : Ints w pl l) :
    Calls Try.prog 27 #[.agg #[.slice pw t.words.length cw, .slice pt t.turns.length ct, .int .i64 t.breath], .slice pl l.length cl] w fun e w' =>
      e = .returned (.tuple #[.int .i64 (wrongR t l).1, .int .i64 (wrongR t l).2.1, .int .i64 (wrongR t l).2.2]) ∧ Below w.heap.size w w' := by
  by_cases he : readErr t l = 0
  · have e : wrongR t l = wrongGo t 0 0 l := if_pos he
    rw [e]
    exact Wrong_ok t l he hll pw pt pl cw ct cl hcw w hW hL
  · have e : wrongR t l = (0, 0, readErr t l) := if_neg he
    rw [e]
    have HS := Lib.hid (fun W (h : Below w.heap.size w W) => openReading_bad t l he hl1 hl2 hll pw pt pl cw ct cl W (hW.below h) (hL.below h))
    have HE : (readErr t l != 0) = true := by simpa using he
    clear hW hL he e
    generalize readErr t l = er at HE HS ⊢
    go_enter Try.func27, Try.ntmps27
    go_wp2_with fail
    refine (HS.out _ (below1 _ _)).mono ?_
    rintro e w5 ⟨rfl, hB5⟩
    have HB5 := Lib.hid (join (below1 _ _) hB5)
    clear hB5
    go_wp2
    go_ret3
    exact ⟨rfl, join HB5.out (below1 _ _)⟩

/-- what Astray tells -/
def astrayR (t : Text) (l : List Int) : Int × Int × Int × Int :=
  if readErr t l = 0 then (if (wrongGo t 0 0 l).2.2 = 6 then astrayGo (placesL l) 0 t.turns else (0, 0, 0, 8)) else (0, 0, 0, readErr t l)
set_option maxHeartbeats 800000 in
set_option maxRecDepth 100000 in
theorem Astray_any (t : Text) (l : List Int) (hl1 : t.words.length ≤ 1000000) (hl2 : t.turns.length ≤ 1000000) (hll : l.length ≤ 100000) (pw pt pl : Option Addr) (cw ct cl : Nat) (hcw : t.words.length ≤ cw ∧ cw ≤ maxLen) (w : World) (hW : TxAt w t pw pt) (hL : Ints w pl l) :
    Calls Try.prog 41 #[.agg #[.slice pw t.words.length cw, .slice pt t.turns.length ct, .int .i64 t.breath], .slice pl l.length cl] w fun e w' =>
      e = .returned (.tuple #[.int .i64 (astrayR t l).1, .agg #[.int .i64 (astrayR t l).2.1, .int .i64 (astrayR t l).2.2.1], .int .i64 (astrayR t l).2.2.2]) ∧ Below w.heap.size w w' := by
  by_cases he : readErr t l = 0
  · by_cases hr : (wrongGo t 0 0 l).2.2 = 6
    · have e : astrayR t l = astrayGo (placesL l) 0 t.turns := by unfold astrayR; rw [if_pos he, if_pos hr]
      rw [e]
      exact Astray_in t l he hr hll pw pt pl cw ct cl hcw w hW hL
    · have e : astrayR t l = (0, 0, 0, 8) := by unfold astrayR; rw [if_pos he, if_neg hr]
      rw [e]
      obtain ⟨h0, hx, hs⟩ := read_ok he
      have ok := err_ok h0
      have HS := Lib.hid (fun W (h : Below w.heap.size w W) => openReading_ok t l he (by omega) pw pt pl cw ct cl W (hW.below h) (hL.below h))
      have HF := Lib.hid (fun W (h : Below w.heap.size w W) => firstWrong_any t l hx hs pw pt pl cw ct cl (.func (.func 138) #[.agg #[.slice pw t.words.length cw, .slice pt t.turns.length ct, .int .i64 t.breath, .nilFunc]] #[]) W ⟨ok, hW.below h, hcw⟩ (hL.below h) (by omega))
      generalize wrongGo t 0 0 l = rw0 at HF hr
      obtain ⟨r1, r2, r3⟩ := rw0
      simp only at HF hr
      have HE : (r3 != 6) = true := by simpa using hr
      clear hW hL he h0 hx hs ok e hr
      go_enter Try.func41, Try.ntmps41
      go_wp2_with fail
      refine (HS.out _ ((below1 _ _).alloc (by simp) _)).mono ?_
      rintro e w5 ⟨rfl, hB5⟩
      have hz5 := hB5.size
      simp only [World.size_alloc] at hz5
      have hsp0 := heap_last (w.alloc (.cells #[.slice pw t.words.length cw, .slice pt t.turns.length ct, .int .i64 t.breath] 25)) (.cells #[.int .i64 0, .int .i64 0] 27)
      rw [World.size_alloc] at hsp0
      have hsp := (hB5.block (w.heap.size + 1) (by simp)).trans hsp0
      clear hsp0
      have HSP := Lib.hid hsp
      have HB5 := Lib.hid (join ((below1 _ _).alloc (by simp) _) hB5)
      clear hB5 hsp
      go_wp2_with fail
      refine (HF.out _ (join HB5.out (below1 _ _))).mono ?_
      rintro e w6 ⟨rfl, hB6⟩
      have hz6 := hB6.size
      simp only [World.size_alloc] at hz6
      have hsp6 := (hB6.block (w.heap.size + 1) (by simp; omega)).trans ((Below.heap_alloc _ _ _ (by omega)).trans HSP.out)
      have y0 := blk_cells hsp6 0 _ rfl
      have y1 := blk_cells hsp6 1 _ rfl
      have z : ∀ i, w6.frozen? ⟨w.heap.size + 1, i, none⟩ = false := fun i => by simp [World.frozen?, hsp6]
      have HSP6 := Lib.hid hsp6
      have HB6 := Lib.hid (join (join HB5.out (below1 _ _)) hB6)
      clear hB6 hsp6
      go_wp2
      have hx9 : ((w6.setCell ⟨w.heap.size + 1, 0, none⟩ (.int .i64 0)).setCell ⟨w.heap.size + 1, 1, none⟩ (.int .i64 0)).heap[w.heap.size + 1]? = some (.cells #[.int .i64 0, .int .i64 0] 27 (0, 0)) := heap_set_same _ (heap_set_same _ HSP6.out)
      have r0 := blk_cells hx9 0 _ rfl
      have r1 := blk_cells hx9 1 _ rfl
      refine bodyPost_ret (v := .tuple #[.int .i64 0, .agg #[.int .i64 0, .int .i64 0], .int .i64 8]) (by simp [results, Try.results41, go_sem, r0, r1]) rfl ⟨rfl, ?_⟩
      exact (HB6.out.setCell (p := ⟨w.heap.size + 1, 0, none⟩) (by simp) _).setCell (p := ⟨w.heap.size + 1, 1, none⟩) (by simp) _
  · have e : astrayR t l = (0, 0, 0, readErr t l) := if_neg he
    rw [e]
    have HS := Lib.hid (fun W (h : Below w.heap.size w W) => openReading_bad t l he hl1 hl2 (by omega) pw pt pl cw ct cl W (hW.below h) (hL.below h))
    have HE : (readErr t l != 0) = true := by simpa using he
    clear hW hL he e
    generalize readErr t l = er at HE HS ⊢
    go_enter Try.func41, Try.ntmps41
    go_wp2_with fail
    refine (HS.out _ ((below1 _ _).alloc (by simp) _)).mono ?_
    rintro e w5 ⟨rfl, hB5⟩
    have hz5 := hB5.size
    simp only [World.size_alloc] at hz5
    have hsp0 := heap_last (w.alloc (.cells #[.slice pw t.words.length cw, .slice pt t.turns.length ct, .int .i64 t.breath] 25)) (.cells #[.int .i64 0, .int .i64 0] 27)
    rw [World.size_alloc] at hsp0
    have hsp := (hB5.block (w.heap.size + 1) (by simp)).trans hsp0
    clear hsp0
    have y0 := blk_cells hsp 0 _ rfl
    have y1 := blk_cells hsp 1 _ rfl
    have z : ∀ i, w5.frozen? ⟨w.heap.size + 1, i, none⟩ = false := fun i => by simp [World.frozen?, hsp]
    have hlt : w.heap.size + 1 < w5.heap.size := by omega
    have HSP := Lib.hid hsp
    have HB5 := Lib.hid (join ((below1 _ _).alloc (by simp) _) hB5)
    clear hB5 hsp
    go_wp2
    have hx9 : (((w5.setCell ⟨w.heap.size + 1, 0, none⟩ (.int .i64 0)).setCell ⟨w.heap.size + 1, 1, none⟩ (.int .i64 0)).alloc (.cells #[.slice none 0 0, .slice none 0 0, .int .i64 0, .nilFunc] 125)).heap[w.heap.size + 1]? = some (.cells #[.int .i64 0, .int .i64 0] 27 (0, 0)) :=
      (Below.heap_alloc _ _ _ (by simp; omega)).trans (heap_set_same _ (heap_set_same _ HSP.out))
    have r0 := blk_cells hx9 0 _ rfl
    have r1 := blk_cells hx9 1 _ rfl
    refine bodyPost_ret (v := .tuple #[.int .i64 0, .agg #[.int .i64 0, .int .i64 0], .int .i64 er]) (by simp [results, Try.results41, go_sem, r0, r1]) rfl ⟨rfl, ?_⟩
    exact ((HB5.out.setCell (p := ⟨w.heap.size + 1, 0, none⟩) (by simp) _).setCell (p := ⟨w.heap.size + 1, 1, none⟩) (by simp) _).alloc (by simp; omega) _
end Go.Proofs.Ytadnggecnjdhiaa
set_option linter.unusedSimpArgs false
set_option linter.unusedVariables false
namespace Go.Proofs.Ytadnggecnjdhiaa
open Go.RowKit Tx
attribute [local go_sem] Oper.semAt_some

/-- what Says tells -/
def sayE (t : Text) (lo hi : Int) : Int := if t.err ≠ 0 then t.err else if absent t.words.length lo || absent t.words.length hi then 1 else if hi < lo then 4 else 0
def sayL (t : Text) (lo hi : Int) : List Int := if sayE t lo hi = 0 then t.said lo hi else []
set_option maxHeartbeats 1600000 in
set_option maxRecDepth 100000 in
theorem Says_any (t : Text) (lo hi : Int) (hl1 : t.words.length ≤ 1000000) (hl2 : t.turns.length ≤ 1000000) (pw pt : Option Addr) (cw ct : Nat) (w : World) (hW : TxAt w t pw pt) :
    Calls Try.prog 24 #[.agg #[.slice pw t.words.length cw, .slice pt t.turns.length ct, .int .i64 t.breath], .agg #[.int .i64 lo, .int .i64 hi]] w (ListPost (sayL t lo hi) (sayE t lo hi) w) := by
  by_cases he : t.err = 0
  · have HS := Lib.hid (fun W (h : Below w.heap.size w W) => open_ok t he pw pt cw ct W (hW.below h))
    have HA := Lib.hid (fun k W => absent_any t.words.length cw pw (.slice pt t.turns.length ct) (.int .i64 t.breath) (.func (.func 138) #[.agg #[.slice pw t.words.length cw, .slice pt t.turns.length ct, .int .i64 t.breath, .nilFunc]] #[]) k W (by omega))
    have HT := Lib.hid (fun W (h : Below w.heap.size w W) => turnsOther_any t hl2 pt ct (.slice pw t.words.length cw) (.int .i64 t.breath) (.func (.func 138) #[.agg #[.slice pw t.words.length cw, .slice pt t.turns.length ct, .int .i64 t.breath, .nilFunc]] #[]) lo hi W (hW.turns.below h))
    cases h1 : absent t.words.length lo with
    | true =>
      have e1 : sayE t lo hi = 1 := by unfold sayE; rw [if_neg (by simp [he]), if_pos (by simp [h1])]
      have e2 : sayL t lo hi = [] := by unfold sayL; rw [if_neg (by rw [e1]; omega)]
      have HA1 := Lib.hid (fun W => h1 ▸ HA.out lo W)
      rw [e1, e2]
      clear hW he h1 e1 e2
      go_enter Try.func24, Try.ntmps24
      go_wp2_with fail
      refine (HS.out _ ((below1 _ _).alloc (by simp) _)).mono ?_
      rintro e w5 ⟨rfl, hB5⟩
      have hz5 : w.heap.size + 1 < w5.heap.size := by have := hB5.size; simp at this; omega
      have hz6 : w.heap.size + 1 < w5.heap.size + 1 := by omega
      have hz7 : w.heap.size + 1 < w5.heap.size + 1 + 1 := by omega
      have hsp0 := heap_last (w.alloc (.cells #[.slice pw t.words.length cw, .slice pt t.turns.length ct, .int .i64 t.breath] 25)) (.cells #[.int .i64 lo, .int .i64 hi] 27)
      rw [World.size_alloc] at hsp0
      have hsp := (hB5.block (w.heap.size + 1) (by simp)).trans hsp0
      clear hsp0
      have y0 := blk_cells hsp 0 _ rfl
      have y1 := blk_cells hsp 1 _ rfl
      have HB5 := Lib.hid (join ((below1 _ _).alloc (by simp) _) hB5)
      clear hB5 hsp
      go_wp2_with fail
      refine (HA1.out _).mono ?_
      rintro e w6 ⟨rfl, rfl⟩
      go_wp2
      go_ret2
      exact ⟨_, rfl, own_none _ _ _ _, ((HB5.out.alloc (by omega) _).alloc (by simp; omega) _)⟩
    | false =>
      have HA1 := Lib.hid (fun W => h1 ▸ HA.out lo W)
      cases h2 : absent t.words.length hi with
      | true =>
        have e1 : sayE t lo hi = 1 := by unfold sayE; rw [if_neg (by simp [he]), if_pos (by simp [h1, h2])]
        have e2 : sayL t lo hi = [] := by unfold sayL; rw [if_neg (by rw [e1]; omega)]
        have HA2 := Lib.hid (fun W => h2 ▸ HA.out hi W)
        rw [e1, e2]
        clear hW he h1 h2 e1 e2
        go_enter Try.func24, Try.ntmps24
        go_wp2_with fail
        refine (HS.out _ ((below1 _ _).alloc (by simp) _)).mono ?_
        rintro e w5 ⟨rfl, hB5⟩
        have hz5 : w.heap.size + 1 < w5.heap.size := by have := hB5.size; simp at this; omega
        have hz6 : w.heap.size + 1 < w5.heap.size + 1 := by omega
        have hz7 : w.heap.size + 1 < w5.heap.size + 1 + 1 := by omega
        have hsp0 := heap_last (w.alloc (.cells #[.slice pw t.words.length cw, .slice pt t.turns.length ct, .int .i64 t.breath] 25)) (.cells #[.int .i64 lo, .int .i64 hi] 27)
        rw [World.size_alloc] at hsp0
        have hsp := (hB5.block (w.heap.size + 1) (by simp)).trans hsp0
        clear hsp0
        have y0 := blk_cells hsp 0 _ rfl
        have y1 := blk_cells hsp 1 _ rfl
        have HB5 := Lib.hid (join ((below1 _ _).alloc (by simp) _) hB5)
        clear hB5 hsp
        go_wp2_with fail
        refine (HA1.out _).mono ?_
        rintro e w6 ⟨rfl, rfl⟩
        go_wp2_with fail
        refine (HA2.out _).mono ?_
        rintro e w6 ⟨rfl, rfl⟩
        go_wp2
        go_ret2
        exact ⟨_, rfl, own_none _ _ _ _, (((HB5.out.alloc (by omega) _).alloc (by simp; omega) _).alloc (by simp; omega) _)⟩
      | false =>
        have HA2 := Lib.hid (fun W => h2 ▸ HA.out hi W)
        by_cases h3 : hi < lo
        · have e1 : sayE t lo hi = 4 := by unfold sayE; rw [if_neg (by simp [he]), if_neg (by simp [h1, h2]), if_pos h3]
          have e2 : sayL t lo hi = [] := by unfold sayL; rw [if_neg (by rw [e1]; omega)]
          rw [e1, e2]
          clear hW he h1 h2 e1 e2
          go_enter Try.func24, Try.ntmps24
          go_wp2_with fail
          refine (HS.out _ ((below1 _ _).alloc (by simp) _)).mono ?_
          rintro e w5 ⟨rfl, hB5⟩
          have hz5 : w.heap.size + 1 < w5.heap.size := by have := hB5.size; simp at this; omega
          have hz6 : w.heap.size + 1 < w5.heap.size + 1 := by omega
          have hz7 : w.heap.size + 1 < w5.heap.size + 1 + 1 := by omega
          have hsp0 := heap_last (w.alloc (.cells #[.slice pw t.words.length cw, .slice pt t.turns.length ct, .int .i64 t.breath] 25)) (.cells #[.int .i64 lo, .int .i64 hi] 27)
          rw [World.size_alloc] at hsp0
          have hsp := (hB5.block (w.heap.size + 1) (by simp)).trans hsp0
          clear hsp0
          have y0 := blk_cells hsp 0 _ rfl
          have y1 := blk_cells hsp 1 _ rfl
          have HB5 := Lib.hid (join ((below1 _ _).alloc (by simp) _) hB5)
          clear hB5 hsp
          go_wp2_with fail
          refine (HA1.out _).mono ?_
          rintro e w6 ⟨rfl, rfl⟩
          go_wp2_with fail
          refine (HA2.out _).mono ?_
          rintro e w6 ⟨rfl, rfl⟩
          go_wp2
          go_ret2
          exact ⟨_, rfl, own_none _ _ _ _, (((HB5.out.alloc (by omega) _).alloc (by simp; omega) _).alloc (by simp; omega) _)⟩
        · have e1 : sayE t lo hi = 0 := by unfold sayE; rw [if_neg (by simp [he]), if_neg (by simp [h1, h2]), if_neg h3]
          have e2 : sayL t lo hi = t.said lo hi := by unfold sayL; rw [if_pos e1]
          rw [e1, e2]
          clear hW he h1 h2 e1 e2
          go_enter Try.func24, Try.ntmps24
          go_wp2_with fail
          refine (HS.out _ ((below1 _ _).alloc (by simp) _)).mono ?_
          rintro e w5 ⟨rfl, hB5⟩
          have hz5 : w.heap.size + 1 < w5.heap.size := by have := hB5.size; simp at this; omega
          have hz6 : w.heap.size + 1 < w5.heap.size + 1 := by omega
          have hz7 : w.heap.size + 1 < w5.heap.size + 1 + 1 := by omega
          have hsp0 := heap_last (w.alloc (.cells #[.slice pw t.words.length cw, .slice pt t.turns.length ct, .int .i64 t.breath] 25)) (.cells #[.int .i64 lo, .int .i64 hi] 27)
          rw [World.size_alloc] at hsp0
          have hsp := (hB5.block (w.heap.size + 1) (by simp)).trans hsp0
          clear hsp0
          have y0 := blk_cells hsp 0 _ rfl
          have y1 := blk_cells hsp 1 _ rfl
          have HB5 := Lib.hid (join ((below1 _ _).alloc (by simp) _) hB5)
          clear hB5 hsp
          go_wp2_with fail
          refine (HA1.out _).mono ?_
          rintro e w6 ⟨rfl, rfl⟩
          go_wp2_with fail
          refine (HA2.out _).mono ?_
          rintro e w6 ⟨rfl, rfl⟩
          go_wp2_with fail
          refine (HT.out _ (((HB5.out.alloc (by omega) _).alloc (by simp; omega) _).alloc (by simp; omega) _)).mono ?_
          rintro e w7 ⟨v, rfl, hown, hB7⟩
          have HO := Lib.hid hown
          have HB7 := Lib.hid (join (((HB5.out.alloc (by omega) _).alloc (by simp; omega) _).alloc (by simp; omega) _) hB7)
          clear hown hB7
          go_wp2
          go_ret2
          exact ⟨_, rfl, own_base HO.out (by simp; omega), HB7.out⟩
  · have e1 : sayE t lo hi = t.err := by unfold sayE; rw [if_pos he]
    have e2 : sayL t lo hi = [] := by unfold sayL; rw [if_neg (by rw [e1]; exact he)]
    rw [e1, e2]
    have HS := Lib.hid (fun W (h : Below w.heap.size w W) => open_bad t he hl1 hl2 pw pt cw ct W (hW.below h))
    have HE : (t.err != 0) = true := by simpa using he
    clear hW he e1 e2
    generalize t.err = er at HE HS ⊢
    go_enter Try.func24, Try.ntmps24
    go_wp2_with fail
    refine (HS.out _ ((below1 _ _).alloc (by simp) _)).mono ?_
    rintro e w5 ⟨rfl, hB5⟩
    have hz5 : w.heap.size + 1 < w5.heap.size := by have := hB5.size; simp at this; omega
    have hz6 : w.heap.size + 1 < w5.heap.size + 1 := by omega
    have hz7 : w.heap.size + 1 < w5.heap.size + 1 + 1 := by omega
    have hsp0 := heap_last (w.alloc (.cells #[.slice pw t.words.length cw, .slice pt t.turns.length ct, .int .i64 t.breath] 25)) (.cells #[.int .i64 lo, .int .i64 hi] 27)
    rw [World.size_alloc] at hsp0
    have hsp := (hB5.block (w.heap.size + 1) (by simp)).trans hsp0
    clear hsp0
    have y0 := blk_cells hsp 0 _ rfl
    have y1 := blk_cells hsp 1 _ rfl
    have HB5 := Lib.hid (join ((below1 _ _).alloc (by simp) _) hB5)
    clear hB5 hsp
    go_wp2
    go_ret2
    exact ⟨_, rfl, own_none _ _ _ _, HB5.out.alloc (by omega) _⟩
end Go.Proofs.Ytadnggecnjdhiaa
