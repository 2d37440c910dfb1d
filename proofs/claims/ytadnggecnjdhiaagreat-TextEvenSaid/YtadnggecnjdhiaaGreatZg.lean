/- Contracts of the code and of the reference, part 7. -/
import Derived.Test.YtadnggecnjdhiaaGreatZf
import Derived.RangeFuncOwn
import Derived.Deep.AppendLies
import Derived.Maps.OwnOps
import Derived.Maps.Views
set_option linter.unusedSimpArgs false
set_option linter.unusedVariables false
namespace Go.Proofs.YtadnggecnjdhiaaGreat
open Go.RowKit Tx
attribute [local go_sem] Oper.semAt_some

theorem grR : Rg.IsGr Rs.Gr := ⟨fun w => Below.refl _ _, fun h k => join h k, fun w => ⟨rfl, rfl, rfl, Nat.le_refl _, fun _ _ => rfl⟩⟩
theorem lists_in (n : Nat) : ∀ (r a : Nat) (L : List Int), L ∈ Tx.lists n r a → L.length = r ∧ ∀ x ∈ L, 0 ≤ x ∧ x < n
  | 0, a, L, h => by simp [Tx.lists] at h; subst h; simp
  | r + 1, a, L, h => by
    obtain ⟨x, hx, h⟩ := List.mem_flatMap.1 h
    obtain ⟨l, hl, rfl⟩ := List.mem_map.1 h
    have := lists_in n r (x + 1) l hl
    rw [List.mem_range'_1] at hx
    refine ⟨by simp [this.1], fun y hy => ?_⟩
    rcases List.mem_cons.1 hy with rfl | hy
    · omega
    · exact this.2 y hy

theorem ints_grown {w w' : World} {p : Option Addr} {xs : List Int} {row : Option Nat} (h : Ints w p xs) (hg : w.grownBy w' row) (hrow : ∀ r, row = some r → ∃ o : Obj, w.heap[r]? = some o ∧ o.isCells = false) : Ints w' p xs := by
  rcases h with h | ⟨b, o, hp, hl, h⟩
  · exact .inl h
  · exact .inr ⟨b, o, hp, Nat.lt_of_lt_of_le hl hg.size, fun i hi => cell_kept (h i hi) hg hrow⟩
theorem own_hold {w w' : World} {base : Nat} {e : TypeId} {size : Nat} {v : Value} {n : Nat} {xs : List Value} {Kp : Nat → Prop} (h : w.ownsRow base e size v n xs) (hh : Hold Kp w w') (hk : ∀ k, base ≤ k → Kp k) : w'.ownsRow base e size v n xs := by
  refine ⟨h.1, h.2.imp id ?_⟩
  rintro ⟨g, cap, cur, h1, h2, h3, h4⟩
  exact ⟨g, cap, cur, h1, h2, (hh.same g (hk g h2) (Array.getElem?_eq_some_iff.1 h3).1).trans h3, h4⟩
theorem hold_putObj (w : World) (l : Nat) (o : Obj) : Hold (fun k => k ≠ l) w (w.putObj l o) := ⟨rfl, rfl, rfl, by simp, fun k hk _ => World.putObj_heap_other hk⟩
theorem leaves_ends2 {F : Fence} {n : Nat} {P : Program} {fn : Func} {tmps : Array Value} {R : Ending → World → Prop} {B : Nat} {u : FrameMode} (hu : u ≠ .run) : ∀ (ds : List Deferred) (C : Nat) (w : World), Ends B w C ds → C ≤ w.heap.size →
    (∀ w', Hold (fun k => k < B ∨ C ≤ k) w w' → LeavesIn F n P fn tmps R [] u w') → LeavesInM F n P fn tmps R ds u w
  | [], _, w, _, _, hR => hR w (Hold.refl _ _)
  | d :: ds, C, w, ⟨D, h1, h2, h3, h4, h5⟩, hC, hR => by
    subst h1
    refine ⟨hu, .inl ⟨D, _, rfl, run_takeDeferred h4, leaves_ends2 hu ds D _ (h5.keep (fun k _ hk => World.putObj_heap_other (by omega))) (by simp; omega) (fun w' hh => hR w' (Hold.trans ((hold_putObj _ _ _).mono (fun k hk _ => by omega)) (hh.mono (fun k hk _ => by omega))))⟩⟩
theorem least_step {t : Text} {wt : Int} {k : Nat} (hk : k ≤ t.words.length) (h : ∀ L ∈ Tx.lists t.words.length k 0, t.leastP wt L = false) :
    t.leastGo wt (List.range' k (t.words.length + 1 - k)) = t.leastGo wt (List.range' (k + 1) (t.words.length + 1 - (k + 1))) := by
  have e : t.words.length + 1 - k = (t.words.length + 1 - (k + 1)) + 1 := by omega
  rw [e, List.range'_succ]
  show (match (Tx.lists t.words.length k 0).find? (t.leastP wt) with | some l => some l | none => t.leastGo wt (List.range' (k + 1) (t.words.length + 1 - (k + 1)))) = _
  rw [List.find?_eq_none.2 (fun x hx => by rw [h x hx]; simp)]
theorem least_hit {t : Text} {wt : Int} {k : Nat} {pre post : List (List Int)} {L : List Int} (hk : k ≤ t.words.length) (hL : Tx.lists t.words.length k 0 = pre ++ L :: post) (h : ∀ x ∈ pre, t.leastP wt x = false) (hP : t.leastP wt L = true) :
    t.leastGo wt (List.range' k (t.words.length + 1 - k)) = some L := by
  have e : t.words.length + 1 - k = (t.words.length + 1 - (k + 1)) + 1 := by omega
  rw [e, List.range'_succ]
  show (match (Tx.lists t.words.length k 0).find? (t.leastP wt) with | some l => some l | none => t.leastGo wt (List.range' (k + 1) (t.words.length + 1 - (k + 1)))) = _
  rw [hL, List.find?_append, List.find?_eq_none.2 (fun x hx => by rw [h x hx]; simp), List.find?_cons_of_pos hP]
  rfl
theorem least_none {t : Text} {wt : Int} (h : t.leastGo wt (List.range' 1 t.words.length) = none) : t.least wt = ([], 6) := by
  show (match t.leastGo wt (List.range' 1 t.words.length) with | some l => (l, (0 : Int)) | none => ([], 6)) = _
  rw [h]
theorem least_some {t : Text} {wt : Int} {L : List Int} (h : t.leastGo wt (List.range' 1 t.words.length) = some L) : t.least wt = (L, 0) := by
  show (match t.leastGo wt (List.range' 1 t.words.length) with | some l => (l, (0 : Int)) | none => ([], 6)) = _
  rw [h]

/-- what holds in least -/
structure LeC (t : Text) (pw pt : Option Addr) (cw ct : Nat) (mv : Value) (wt : Int) (w W : World) (C : Nat) (ds : List Deferred) : Prop where
  wk : W.heap[w.heap.size]? = some (.cells #[.slice pw t.words.length cw, .slice pt t.turns.length ct, .int .i64 t.breath, mv] 84 (0, 0))
  wb : W.heap[w.heap.size + 1]? = some (.cells #[.int .i64 wt] 3 (0, 0))
  r4 : W.heap[w.heap.size + 1 + 1]? = some (.cells #[.slice none 0 0] 34 (0, 0))
  r5 : W.heap[w.heap.size + 1 + 1 + 1]? = some (.cells #[.int .i64 0] 35 (0, 0))
  bel : Below w.heap.size w W
  ends : Ends (w.heap.size + 1 + 1 + 1 + 1) W C ds
  sz : w.heap.size + 1 + 1 + 1 + 1 ≤ W.heap.size ∧ C ≤ W.heap.size
theorem LeC.below {t : Text} {pw pt : Option Addr} {cw ct : Nat} {mv : Value} {wt : Int} {w W W' : World} {C : Nat} {ds : List Deferred} (h : LeC t pw pt cw ct mv wt w W C ds) {B : Nat} (h3 : w.heap.size + 1 + 1 + 1 + 1 ≤ B) (hC : C ≤ B) (hB : Below B W W') : LeC t pw pt cw ct mv wt w W' C ds :=
  ⟨(hB.block _ (by omega)).trans h.wk, (hB.block _ (by omega)).trans h.wb, (hB.block _ (by omega)).trans h.r4, (hB.block _ (by omega)).trans h.r5, h.bel.trans (hB.mono (by omega)), h.ends.keep (fun k _ hk => hB.block k (by omega)),
    ⟨Nat.le_trans h.sz.1 hB.size, Nat.le_trans h.sz.2 hB.size⟩⟩
/-- what is found, and where it lies -/
def LeHit (t : Text) (wt : Int) (w : World) (B : Nat) (ds : List Deferred) (W : World) : Prop :=
  ∃ L v, t.leastGo wt (List.range' 1 t.words.length) = some L ∧ W.heap[w.heap.size + 1 + 1]? = some (.cells #[v] 34 (0, 0)) ∧ W.heap[w.heap.size + 1 + 1 + 1]? = some (.cells #[.int .i64 0] 35 (0, 0)) ∧
    W.ownsRow (B + 2) 3 1 v L.length (L.map (Value.int .i64)) ∧ Below w.heap.size w W ∧ Ends (w.heap.size + 1 + 1 + 1 + 1) W B ds ∧ w.heap.size + 1 + 1 + 1 + 1 ≤ B ∧ B ≤ W.heap.size
theorem LeHit.hold {t : Text} {wt : Int} {w W W' : World} {B : Nat} {ds : List Deferred} (h : LeHit t wt w B ds W) (hh : Hold (fun k => k ≠ B + 1) W W') : LeHit t wt w B ds W' := by
  obtain ⟨L, v, h1, h2, h3, h4, h5, h6, h7, h8⟩ := h
  exact ⟨L, v, h1, (hh.same _ (by omega) (by omega)).trans h2, (hh.same _ (by omega) (by omega)).trans h3, own_hold h4 hh (fun k hk => by omega), h5.trans ((hh.mono (fun k hk _ => (by omega : k ≠ B + 1)) : Hold (fun k => k < w.heap.size) W W').to_below (by omega)), h6.keep (fun k _ hk => hh.same k (by omega) (by omega)), h7, Nat.le_trans h8 hh.size⟩
def spLe1 (t : Text) (pw pt : Option Addr) (cw ct : Nat) (mv : Value) (wt : Int) (g many : Nat) (x : Int) (kp : Bool) : Nat → List Value → Value → World → Prop
  | 0, _, v, _ => v = .agg #[.slice pw t.words.length cw, .slice pt t.turns.length ct, .int .i64 t.breath, mv]
  | 1, _, v, _ => v = .slice (some ⟨g, 0, none⟩) many many
  | 2, _, v, _ => v = .int .i64 x
  | 3, _, v, _ => v = .int .i64 wt
  | 4, _, v, _ => v = .bool true
  | 5, _, v, _ => v = .bool true
  | 6, _, v, _ => v = .agg #[.slice pw t.words.length cw, .slice pt t.turns.length ct, .int .i64 t.breath, mv]
  | 7, _, v, _ => v = .slice (some ⟨g, 0, none⟩) many many
  | 8, _, v, _ => v = .bool kp
  | 9, _, v, _ => v = .bool kp
  | _, _, _, _ => False
theorem spLe1_stable (t : Text) (pw pt : Option Addr) (cw ct : Nat) (mv : Value) (wt : Int) (g many : Nat) (x : Int) (kp : Bool) : ∀ i L v w w', spLe1 t pw pt cw ct mv wt g many x kp i L v w → Rs.Gr w w' → spLe1 t pw pt cw ct mv wt g many x kp i L v w' := by
  intro i L v w w' h hg
  match i with
  | 0 => exact h
  | 1 => exact h
  | 2 => exact h
  | 3 => exact h
  | 4 => exact h
  | 5 => exact h
  | 6 => exact h
  | 7 => exact h
  | 8 => exact h
  | 9 => exact h
def spLe0 (t : Text) (pw pt : Option Addr) (cw ct : Nat) (mv : Value) (wt : Int) (g many : Nat) (x : Int) (kp : Bool) : Nat → List Value → Value → World → Prop
  | 0, _, v, _ => v = .agg #[.slice pw t.words.length cw, .slice pt t.turns.length ct, .int .i64 t.breath, mv]
  | 1, _, v, _ => v = .slice (some ⟨g, 0, none⟩) many many
  | 2, _, v, _ => v = .int .i64 x
  | 3, _, v, _ => v = .int .i64 wt
  | 4, _, v, _ => v = .bool false
  | 5, _, v, _ => v = .bool false
  | 6, _, v, _ => v = undef
  | 7, _, v, _ => v = undef
  | 8, _, v, _ => v = undef
  | 9, _, v, _ => v = .bool false
  | _, _, _, _ => False
theorem spLe0_stable (t : Text) (pw pt : Option Addr) (cw ct : Nat) (mv : Value) (wt : Int) (g many : Nat) (x : Int) (kp : Bool) : ∀ i L v w w', spLe0 t pw pt cw ct mv wt g many x kp i L v w → Rs.Gr w w' → spLe0 t pw pt cw ct mv wt g many x kp i L v w' := by
  intro i L v w w' h hg
  match i with
  | 0 => exact h
  | 1 => exact h
  | 2 => exact h
  | 3 => exact h
  | 4 => exact h
  | 5 => exact h
  | 6 => exact h
  | 7 => exact h
  | 8 => exact h
  | 9 => exact h

set_option maxHeartbeats 2000000 in
set_option maxRecDepth 100000 in
theorem least_any (t : Text) (pw pt : Option Addr) (cw ct : Nat) (mv : Value) (wt : Int) (w : World) (hW : WkAt w t pw pt cw) :
    Calls Tryz.prog 73 #[.agg #[.slice pw t.words.length cw, .slice pt t.turns.length ct, .int .i64 t.breath, mv], .int .i64 wt] w (ListPost (t.least wt).1 (t.least wt).2 w) := by
  have ok := hW.ok
  have hn1 := ok.n1
  have hn12 := ok.n12
  have HW := Lib.hid hW
  clear hW
  obtain ⟨m, hm9⟩ : ∃ m : Nat, 9 ≤ m := ⟨9, Nat.le_refl _⟩
  refine (callsIn_wide (n := m)).1 ?_
  refine callsIn_of_wp_marks Tryz.func73 rfl trivial ?_ rfl
  simp only [Tryz.ntmps73, List.size_toArray, List.length_cons, List.length_nil, Nat.reduceAdd, Nat.reduceSub, Array.replicate_succ, Array.replicate_zero, List.push_toArray, List.append_toArray, List.nil_append, List.cons_append]
  gi_wp2_with fail
  have hA3 : LeC t pw pt cw ct mv wt w ((((w.alloc (.cells #[.slice pw t.words.length cw, .slice pt t.turns.length ct, .int .i64 t.breath, mv] 84)).alloc (.cells #[.int .i64 wt] 3)).alloc (.cells #[.slice none 0 0] 34)).alloc (.cells #[.int .i64 0] 35)) (w.heap.size + 4) [] := by
    refine ⟨?_, ?_, ?_, ?_, (((below1 _ _).alloc (by simp) _).alloc (by simp; omega) _).alloc (by simp; omega) _, trivial, ⟨by simp, by simp⟩⟩
    · rw [Below.heap_alloc _ _ _ (by first | (simp; done) | (simp; omega)), Below.heap_alloc _ _ _ (by first | (simp; done) | (simp; omega)), Below.heap_alloc _ _ _ (by simp)]; exact heap_last _ _
    · rw [Below.heap_alloc _ _ _ (by first | (simp; done) | (simp; omega)), Below.heap_alloc _ _ _ (by simp)]
      have := heap_last (w.alloc (.cells #[.slice pw t.words.length cw, .slice pt t.turns.length ct, .int .i64 t.breath, mv] 84)) (.cells #[.int .i64 wt] 3)
      rwa [World.size_alloc] at this
    · rw [Below.heap_alloc _ _ _ (by simp)]
      have := heap_last ((w.alloc (.cells #[.slice pw t.words.length cw, .slice pt t.turns.length ct, .int .i64 t.breath, mv] 84)).alloc (.cells #[.int .i64 wt] 3)) (.cells #[.slice none 0 0] 34)
      rwa [World.size_alloc, World.size_alloc] at this
    · have := heap_last (((w.alloc (.cells #[.slice pw t.words.length cw, .slice pt t.turns.length ct, .int .i64 t.breath, mv] 84)).alloc (.cells #[.int .i64 wt] 3)).alloc (.cells #[.slice none 0 0] 34)) (.cells #[.int .i64 0] 35)
      rwa [World.size_alloc, World.size_alloc, World.size_alloc] at this
  generalize (((w.alloc (.cells #[.slice pw t.words.length cw, .slice pt t.turns.length ct, .int .i64 t.breath, mv] 84)).alloc (.cells #[.int .i64 wt] 3)).alloc (.cells #[.slice none 0 0] 34)).alloc (.cells #[.int .i64 0] 35) = W3 at hA3 ⊢
  refine wpIn_loop (fun a' w' => ∃ (k C : Nat) (ds : List Deferred) (u7 u8 u9 u10 u11 u12 u13 u14 u15 u16 u17 u18 u19 u20 u21 u22 u23 u24 u25 u26 u27 u28 u29 u30 u31 : Value), 1 ≤ k ∧ k ≤ t.words.length + 1 ∧ a' = { tmps := #[.agg #[.slice pw t.words.length cw, .slice pt t.turns.length ct, .int .i64 t.breath, mv], .int .i64 wt, .pointer (some ⟨w.heap.size, 0, none⟩), .pointer (some ⟨w.heap.size + 1, 0, none⟩), .pointer (some ⟨w.heap.size + 1 + 1, 0, none⟩), .pointer (some ⟨w.heap.size + 1 + 1 + 1, 0, none⟩), .int .i64 k, u7, u8, u9, u10, u11, u12, u13, u14, u15, u16, u17, u18, u19, u20, u21, u22, u23, u24, u25, u26, u27, u28, u29, u30, u31], defers := ds } ∧ t.leastGo wt (List.range' k (t.words.length + 1 - k)) = t.leastGo wt (List.range' 1 t.words.length) ∧ LeC t pw pt cw ct mv wt w w' C ds) (fun a' _ => t.words.length + 1 - (intOf (a'.tmps.getD 6 undef)).toNat) ⟨1, _, [], _, _, _, _, _, _, _, _, _, _, _, _, _, _, _, _, _, _, _, _, _, _, _, _, _, Nat.le_refl _, by omega, rfl, by rw [Nat.add_sub_cancel], hA3⟩ ?_
  clear hA3
  rintro a' wr ⟨k, C, ds, u7, u8, u9, u10, u11, u12, u13, u14, u15, u16, u17, u18, u19, u20, u21, u22, u23, u24, u25, u26, u27, u28, u29, u30, u31, hk1, hk2, rfl, hgo, hA⟩
  have HGO := Lib.hid hgo
  have HA := Lib.hid hA
  have hsz0 := hA.sz.1
  have f0 := blk_cells hA.wk 0 _ rfl
  have f1 := blk_cells hA.wk 1 _ rfl
  have f2 := blk_cells hA.wk 2 _ rfl
  have f3 := blk_cells hA.wk 3 _ rfl
  have hs0 : w.heap.size < wr.heap.size := by omega
  clear hA hgo
  by_cases hlt : k ≤ t.words.length
  · have hlt' : (k : Int) ≤ t.words.length := by omega
    gi_wp2_with fail
    refine ⟨trivial, (fun h => by cases h), ?_⟩
    refine (callsIn_wide.2 (lists_any _ _ _ _ _ _)).mono ?_
    rintro e W4 ⟨rfl, hW4⟩
    have hB4 : Below wr.heap.size wr W4 := by rw [← hW4]; exact (below1 _ _).alloc (by simp) _
    have hs4 : W4.heap.size = wr.heap.size + 2 := by rw [← hW4]; simp
    have h41 : W4.heap[wr.heap.size + 1]? = some (.cells #[.int .i64 k] 3 (0, 0)) := by
      rw [← hW4]
      have := heap_last (wr.alloc (Obj.cells #[.slice pw t.words.length cw, .slice pt t.turns.length ct, .int .i64 t.breath, mv] 84)) (Obj.cells #[Value.int IntKind.i64 k] 3)
      rwa [World.size_alloc] at this
    have h42 : W4.heap[wr.heap.size]? = some (.cells #[.slice pw t.words.length cw, .slice pt t.turns.length ct, .int .i64 t.breath, mv] 84 (0, 0)) := by
      rw [← hW4, Below.heap_alloc _ _ _ (by simp)]; exact heap_last _ _
    have hA4 := HA.out.below (B := wr.heap.size) hsz0 HA.out.sz.2 hB4
    have hC4 := HA.out.sz.2
    clear hW4 f0 f1 f2 f3
    gi_wp2_with fail
    refine range_of (gf := 141) (lb := #[.pointer (some ⟨wr.heap.size + 1, 0, none⟩), .pointer (some ⟨wr.heap.size, 0, none⟩)]) rfl (enters_of Tryz.func141 (by kernel_rfl) rfl)
      (lists1_seq (m - 1) t.words.length cw k hn12 (by omega) pw _ _ mv _ _ W4 (fun j => j ≠ w.heap.size + 1 + 1 ∧ j ≠ w.heap.size + 1 + 1 + 1) ⟨⟨by omega, by omega⟩, ⟨by omega, by omega⟩⟩ h41 h42) (Below.refl _ _) (fun x vs W h => by obtain ⟨g, h, _⟩ := h; rw [h]; rfl)
      (fun pre W' => LeC t pw pt cw ct mv wt w W' W4.heap.size ds ∧ (∀ L ∈ pre, t.leastP wt L = false) ∧ W4.heap.size ≤ W'.heap.size)
      (fun c _ W' => c = .ret ∧ LeHit t wt w W4.heap.size ds W') ?leI ?leX ⟨⟨hA4.wk, hA4.wb, hA4.r4, hA4.r5, hA4.bel, hA4.ends.mono (by omega), ⟨by omega, Nat.le_refl _⟩⟩, (fun _ h => by simp at h), Nat.le_refl _⟩ ?round ?done ?stop
    case leI =>
      rintro s' X Y ⟨i1, i2, i3⟩ hb
      exact ⟨i1.below (by omega) (Nat.le_refl _) hb, i2, Nat.le_trans i3 hb.size⟩
    case leX =>
      rintro c s' X r ⟨rfl, h⟩
      exact ⟨rfl, h.hold (hold_putObj _ _ _)⟩
    case stop =>
      rintro D c pre W' rfl ⟨rfl, h⟩ hK
      obtain ⟨L, v, h1, h2, h3, h4, h5, h6, h7, h8⟩ := h
      have hDl := (Array.getElem?_eq_some_iff.1 hK).1
      clear hA4 h41 h42 hB4
      gi_wp2
      refine leaves_ends2 (B := w.heap.size + 1 + 1 + 1 + 1) (by simp) _ (W4.heap.size + 1) W' ⟨_, rfl, h7, Nat.lt_succ_self _, hK, h6⟩ (by omega) (fun w' hh => ?_)
      rw [least_some h1]
      have c0 := blk_cells ((hh.same _ (.inl (by omega)) (by omega)).trans h2) 0 _ rfl
      have c1 := blk_cells ((hh.same _ (.inl (by omega)) (by omega)).trans h3) 0 _ rfl
      refine ⟨.tuple #[v, .int .i64 0], by simp [results, Tryz.results73, go_sem, c0, c1], v, rfl, own_base (own_hold (base := W4.heap.size + 2) h4 hh (fun k hk => .inr (by omega))) (by omega), h5.trans ((hh.mono (fun k hk _ => (.inl (by omega) : k < w.heap.size + 1 + 1 + 1 + 1 ∨ W4.heap.size + 1 ≤ k)) : Hold (fun k => k < w.heap.size) W' w').to_below (by omega))⟩
    case done =>
      rintro D W' rfl ⟨i1, i2, i3⟩ hK
      have hDl := (Array.getElem?_eq_some_iff.1 hK).1
      have hst := least_step (by omega) i2
      clear hA4 h41 h42 hB4
      gi_wp2
      refine ⟨⟨k + 1, W'.heap.size, _, _, _, _, _, _, _, _, _, _, _, _, _, _, _, _, _, _, _, _, _, _, _, _, _, _, by omega, by omega, rfl, by rw [← hst]; exact HGO.out, ⟨i1.wk, i1.wb, i1.r4, i1.r5, i1.bel, ⟨W4.heap.size, rfl, by omega, hDl, hK, i1.ends⟩, ⟨i1.sz.1, Nat.le_refl _⟩⟩⟩, ?_⟩
      simp [intOf]
      omega
    case round =>
      rintro lq pre L post vs W5 hl1 hl2 ho hL ⟨g, rfl, hLm, hLg⟩ ⟨i1, i2, i3⟩
      have hin := lists_in t.words.length k 0 L (by rw [hL]; simp)
      clear i1 i3 hA4 h41 h42 hB4
      gi_wp2
      refine ⟨Below.refl _ _, ?_⟩
      rintro Wb hg hsz ⟨j1, j2, j3⟩
      have hLb := ints_grown hLg hg (fun r e => by cases e; exact ho)
      have hz5 : w.heap.size + 1 + 1 + 1 + 1 ≤ Wb.heap.size ∧ W4.heap.size + 2 ≤ Wb.heap.size ∧ w.heap.size + 1 + 1 + 1 + 1 ≤ W4.heap.size := by omega
      have HWT : Hid (∀ W, Below Wb.heap.size Wb W → Calls Tryz.prog 111 #[.agg #[.slice pw t.words.length cw, .slice pt t.turns.length ct, .int .i64 t.breath, mv], .slice (some ⟨g, 0, none⟩) k k] W fun e w' => e = .returned (.int .i64 (t.wtOf L)) ∧ Below W.heap.size W w') := Lib.hid (fun W h => by
        have := weight_any t ok L (by omega) hin.2 pw (some ⟨g, 0, none⟩) cw k (.slice pt t.turns.length ct) (.int .i64 t.breath) mv W (HW.out.at_.words.below (j1.bel.trans (h.mono (by omega)))) (hLb.below h)
        rw [hLm] at this; exact this)
      have HKS : Hid (∀ W, Below Wb.heap.size Wb W → Calls Tryz.prog 110 #[.agg #[.slice pw t.words.length cw, .slice pt t.turns.length ct, .int .i64 t.breath, mv], .slice (some ⟨g, 0, none⟩) k k] W fun e w' => e = .returned (.bool (t.keeps L)) ∧ Below W.heap.size W w') := Lib.hid (fun W h => by
        have := keepSense_any t ok L (by omega) pt (some ⟨g, 0, none⟩) ct k (.slice pw t.words.length cw) (.int .i64 t.breath) mv W (HW.out.at_.turns.below (j1.bel.trans (h.mono (by omega)))) (hLb.below h)
        rw [hLm] at this; exact this)
      have HP : Hid (t.leastP wt L = (decide (wt ≤ t.wtOf L) && t.keeps L)) := Lib.hid rfl
      have HHIT : Hid (t.leastP wt L = true → t.leastGo wt (List.range' 1 t.words.length) = some L) := Lib.hid (fun hp => HGO.out ▸ least_hit (by omega) hL j2 hp)
      have HCL : Hid (∀ W, Below Wb.heap.size Wb W → Calls Tryz.prog 121 #[.slice (some ⟨g, 0, none⟩) k k] W fun e w' => ∃ g' c', e = .returned (.slice (some ⟨g', 0, none⟩) k c') ∧ w'.ownsRow W.heap.size 3 1 (.slice (some ⟨g', 0, none⟩) k c') L.length (L.map (Value.int .i64)) ∧ Below W.heap.size W w') := Lib.hid (fun W h => by
        rcases hLb.below h with h0 | ⟨b, o, hp, hl, hc⟩
        · subst h0; simp at hLm; omega
        · cases hp
          refine (Tryz.slices_Clone_int g 0 k k L W (by omega) (by omega) (fun j hj => hc j hj)).mono ?_
          rintro e w' ⟨v', rfl, hown, -, hb⟩
          obtain ⟨g', c', rfl, -⟩ := hown.form (by omega)
          have ht : L.take k = L := List.take_of_length_le (by omega)
          rw [ht] at hown
          exact ⟨g', c', rfl, by rw [hLm]; exact hown, hb⟩)
      have HWKb := Lib.hid j1.wk
      have HWTb := Lib.hid j1.wb
      have J1 := Lib.hid j1
      have J2 := Lib.hid j2
      have HLM := Lib.hid hLm
      clear j1 j2 hLg hLb hin hg i2 hs4
      generalize t.wtOf L = x at HWT HP
      generalize t.keeps L = kp at HKS HP
      gi_wp2_with fail
      by_cases hgt : wt ≤ x
      · have HP1 : Hid (t.leastP wt L = kp) := Lib.hid (by rw [HP.out, decide_eq_true hgt, Bool.true_and])
        refine Rg.region_genI lq (by kernel_rfl) grR 10 [[], [], [0, 1], [], [0, 1, 2, 3], [0, 1, 2, 3, 4], [0, 1, 2, 3, 4, 5], [0, 1, 2, 3, 4, 5], [0, 1, 2, 3, 4, 5, 6, 7], [0, 1, 2, 3, 4, 5, 6, 7, 8]] [some 20, some 21, some 22, some 23, some 24, some 25, some 26, some 27, some 28, some 29] (spLe1 t pw pt cw ct mv wt g k x kp) (by kernel_rfl) (by kernel_rfl) rfl (spLe1_stable _ _ _ _ _ _ _ _ _ _ _) ?_ ?_
        · refine ⟨fun V w' hG hs => ?_, fun V w' hG hs => ?_, fun V w' hG hs => ?_, fun V w' hG hs => ?_, fun V w' hG hs => ?_, fun V w' hG hs => ?_, fun V w' hG hs => ?_, fun V w' hG hs => ?_, fun V w' hG hs => ?_, fun V w' hG hs => ?_, trivial⟩
          all_goals
            have hxk := (hG.block w.heap.size (by omega)).trans HWKb.out
            have k0 := blk_cells hxk 0 _ rfl
            have k1 := blk_cells hxk 1 _ rfl
            have k2 := blk_cells hxk 2 _ rfl
            have k3 := blk_cells hxk 3 _ rfl
            have kw := blk_cells ((hG.block (w.heap.size + 1) (by omega)).trans HWTb.out) 0 _ rfl
          · rw [if_pos (by rfl)]
            exact Rg.GrowL.value (v := .agg #[.slice pw t.words.length cw, .slice pt t.turns.length ct, .int .i64 t.breath, mv]) (w' := w') (by simp [go_sem, Rs.look, k0, k1, k2, k3]) (Rs.Gr.refl _) rfl
          · rw [if_pos (by rfl)]
            exact Rg.GrowL.value (v := .slice (some ⟨g, 0, none⟩) k k) (w' := w') (by simp [go_sem, Rs.look]) (Rs.Gr.refl _) rfl
          · have e0 : V 0 = .agg #[.slice pw t.words.length cw, .slice pt t.turns.length ct, .int .i64 t.breath, mv] := hs 0 (by simp)
            have e1 : V 1 = .slice (some ⟨g, 0, none⟩) k k := hs 1 (by simp)
            rw [if_pos (by rfl)]
            refine Rg.GrowL.call grR (f := 111) (args := #[.agg #[.slice pw t.words.length cw, .slice pt t.turns.length ct, .int .i64 t.breath, mv], .slice (some ⟨g, 0, none⟩) k k]) (by simp [go_sem, Rs.look, e0, e1]) ?_
            refine (HWT.out w' hG).mono ?_
            rintro e w2 ⟨rfl, hB2⟩
            exact ⟨_, rfl, hB2, rfl⟩
          · rw [if_pos (by rfl)]
            exact Rg.GrowL.value (v := .int .i64 wt) (w' := w') (by simp [go_sem, Rs.look, kw]) (Rs.Gr.refl _) rfl
          · have e0 : V 0 = .agg #[.slice pw t.words.length cw, .slice pt t.turns.length ct, .int .i64 t.breath, mv] := hs 0 (by simp)
            have e1 : V 1 = .slice (some ⟨g, 0, none⟩) k k := hs 1 (by simp)
            have e2 : V 2 = .int .i64 x := hs 2 (by simp)
            have e3 : V 3 = .int .i64 wt := hs 3 (by simp)
            rw [if_pos (by rfl)]
            exact Rg.GrowL.value (v := .bool true) (w' := w') (by simp [go_sem, Rs.look, e0, e1, e2, e3, hgt]) (Rs.Gr.refl _) rfl
          · have e0 : V 0 = .agg #[.slice pw t.words.length cw, .slice pt t.turns.length ct, .int .i64 t.breath, mv] := hs 0 (by simp)
            have e1 : V 1 = .slice (some ⟨g, 0, none⟩) k k := hs 1 (by simp)
            have e2 : V 2 = .int .i64 x := hs 2 (by simp)
            have e3 : V 3 = .int .i64 wt := hs 3 (by simp)
            have e4 : V 4 = .bool true := hs 4 (by simp)
            rw [if_pos (by rfl)]
            exact Rg.GrowL.value (v := .bool true) (w' := w') (by simp [go_sem, Rs.look, e0, e1, e2, e3, e4]) (Rs.Gr.refl _) rfl
          · have e0 : V 0 = .agg #[.slice pw t.words.length cw, .slice pt t.turns.length ct, .int .i64 t.breath, mv] := hs 0 (by simp)
            have e1 : V 1 = .slice (some ⟨g, 0, none⟩) k k := hs 1 (by simp)
            have e2 : V 2 = .int .i64 x := hs 2 (by simp)
            have e3 : V 3 = .int .i64 wt := hs 3 (by simp)
            have e4 : V 4 = .bool true := hs 4 (by simp)
            have e5 : V 5 = .bool true := hs 5 (by simp)
            rw [if_pos (by simp [Rs.wantB, e5])]
            exact Rg.GrowL.value (v := .agg #[.slice pw t.words.length cw, .slice pt t.turns.length ct, .int .i64 t.breath, mv]) (w' := w') (by simp [go_sem, Rs.look, e0, e1, e2, e3, e4, e5, k0, k1, k2, k3]) (Rs.Gr.refl _) rfl
          · have e0 : V 0 = .agg #[.slice pw t.words.length cw, .slice pt t.turns.length ct, .int .i64 t.breath, mv] := hs 0 (by simp)
            have e1 : V 1 = .slice (some ⟨g, 0, none⟩) k k := hs 1 (by simp)
            have e2 : V 2 = .int .i64 x := hs 2 (by simp)
            have e3 : V 3 = .int .i64 wt := hs 3 (by simp)
            have e4 : V 4 = .bool true := hs 4 (by simp)
            have e5 : V 5 = .bool true := hs 5 (by simp)
            rw [if_pos (by simp [Rs.wantB, e5])]
            exact Rg.GrowL.value (v := .slice (some ⟨g, 0, none⟩) k k) (w' := w') (by simp [go_sem, Rs.look, e0, e1, e2, e3, e4, e5]) (Rs.Gr.refl _) rfl
          · have e0 : V 0 = .agg #[.slice pw t.words.length cw, .slice pt t.turns.length ct, .int .i64 t.breath, mv] := hs 0 (by simp)
            have e1 : V 1 = .slice (some ⟨g, 0, none⟩) k k := hs 1 (by simp)
            have e2 : V 2 = .int .i64 x := hs 2 (by simp)
            have e3 : V 3 = .int .i64 wt := hs 3 (by simp)
            have e4 : V 4 = .bool true := hs 4 (by simp)
            have e5 : V 5 = .bool true := hs 5 (by simp)
            have e6 : V 6 = .agg #[.slice pw t.words.length cw, .slice pt t.turns.length ct, .int .i64 t.breath, mv] := hs 6 (by simp)
            have e7 : V 7 = .slice (some ⟨g, 0, none⟩) k k := hs 7 (by simp)
            rw [if_pos (by simp [Rs.wantB, e5])]
            refine Rg.GrowL.call grR (f := 110) (args := #[.agg #[.slice pw t.words.length cw, .slice pt t.turns.length ct, .int .i64 t.breath, mv], .slice (some ⟨g, 0, none⟩) k k]) (by simp [go_sem, Rs.look, e6, e7]) ?_
            refine (HKS.out w' hG).mono ?_
            rintro e w2 ⟨rfl, hB2⟩
            exact ⟨_, rfl, hB2, rfl⟩
          · have e0 : V 0 = .agg #[.slice pw t.words.length cw, .slice pt t.turns.length ct, .int .i64 t.breath, mv] := hs 0 (by simp)
            have e1 : V 1 = .slice (some ⟨g, 0, none⟩) k k := hs 1 (by simp)
            have e2 : V 2 = .int .i64 x := hs 2 (by simp)
            have e3 : V 3 = .int .i64 wt := hs 3 (by simp)
            have e4 : V 4 = .bool true := hs 4 (by simp)
            have e5 : V 5 = .bool true := hs 5 (by simp)
            have e6 : V 6 = .agg #[.slice pw t.words.length cw, .slice pt t.turns.length ct, .int .i64 t.breath, mv] := hs 6 (by simp)
            have e7 : V 7 = .slice (some ⟨g, 0, none⟩) k k := hs 7 (by simp)
            have e8 : V 8 = .bool kp := hs 8 (by simp)
            rw [if_pos (by rfl)]
            exact Rg.GrowL.value (v := .bool kp) (w' := w') (by simp [go_sem, Rs.look, e0, e1, e2, e3, e4, e5, e6, e7, e8]) (Rs.Gr.refl _) rfl
        · intro V w' hG hs
          have e0 : V 0 = .agg #[.slice pw t.words.length cw, .slice pt t.turns.length ct, .int .i64 t.breath, mv] := hs 0 (by omega)
          have e1 : V 1 = .slice (some ⟨g, 0, none⟩) k k := hs 1 (by omega)
          have e2 : V 2 = .int .i64 x := hs 2 (by omega)
          have e3 : V 3 = .int .i64 wt := hs 3 (by omega)
          have e4 : V 4 = .bool true := hs 4 (by omega)
          have e5 : V 5 = .bool true := hs 5 (by omega)
          have e6 : V 6 = .agg #[.slice pw t.words.length cw, .slice pt t.turns.length ct, .int .i64 t.breath, mv] := hs 6 (by omega)
          have e7 : V 7 = .slice (some ⟨g, 0, none⟩) k k := hs 7 (by omega)
          have e8 : V 8 = .bool kp := hs 8 (by omega)
          have e9 : V 9 = .bool kp := hs 9 (by omega)
          simp only [Rs.canon, Rs.dstOf, List.range_succ, List.range_zero, List.nil_append, List.cons_append, List.foldl_cons, List.foldl_nil, List.drop_succ_cons, List.drop_zero, List.drop_nil, List.getElem?_toArray, List.getElem?_cons_succ, List.getElem?_cons_zero, Option.bind_some, Act.put, List.getD_cons_succ, List.getD_cons_zero, List.setIfInBounds_toArray, List.set_cons_succ, List.set_cons_zero]
          rw [e0, e1, e2, e3, e4, e5, e6, e7, e8, e9]
          clear e0 e1 e2 e3 e4 e5 e6 e7 e8 e9 hs
          have hz9 := hG.size
          have HG9 := Lib.hid hG
          clear hG
          cases kp with
          | false =>
            gi_wp2
            refine ⟨Hold.below HG9.out, J1.out.below (B := Wb.heap.size) (by omega) (by omega) HG9.out, fun y hy => ?_, by omega⟩
            rcases List.mem_append.1 hy with hy | hy
            · exact J2.out y hy
            · rw [List.mem_singleton.1 hy]; exact HP1.out
          | true =>
            have hr4 := (HG9.out.block (w.heap.size + 1 + 1) (by omega)).trans J1.out.r4
            have hr5 := (HG9.out.block (w.heap.size + 1 + 1 + 1) (by omega)).trans J1.out.r5
            gi_wp2_with fail
            refine ⟨trivial, (fun h => by cases h), ?_⟩
            refine (callsIn_wide.2 (HCL.out _ HG9.out)).mono ?_
            rintro e w9 ⟨g', c', rfl, hown, hb9⟩
            have hs9 := hb9.size
            have hr4' := (hb9.block (w.heap.size + 1 + 1) (by omega)).trans hr4
            have hr5' := (hb9.block (w.heap.size + 1 + 1 + 1) (by omega)).trans hr5
            have y4 := blk_cells hr4' 0 _ rfl
            have y5 := blk_cells hr5' 0 _ rfl
            have z4 : w9.frozen? ⟨w.heap.size + 1 + 1, 0, none⟩ = false := by simp [World.frozen?, hr4']
            have z5 : w9.frozen? ⟨w.heap.size + 1 + 1 + 1, 0, none⟩ = false := by simp [World.frozen?, hr5']
            have HR4 := Lib.hid hr4'
            have HR5 := Lib.hid hr5'
            have HO := Lib.hid hown
            have HB9 := Lib.hid hb9
            clear hr4 hr5 hr4' hr5' hown hb9
            gi_wp2
            have g4 : ((w9.setCell ⟨w.heap.size + 1 + 1, 0, none⟩ (.slice (some ⟨g', 0, none⟩) k c')).setCell ⟨w.heap.size + 1 + 1 + 1, 0, none⟩ (.int .i64 0)).heap[w.heap.size + 1 + 1]? = some (.cells #[.slice (some ⟨g', 0, none⟩) k c'] 34 (0, 0)) :=
              (Below.heap_setCell _ _ _ _ (by simp)).trans (heap_set_same _ HR4.out)
            have g5 : ((w9.setCell ⟨w.heap.size + 1 + 1, 0, none⟩ (.slice (some ⟨g', 0, none⟩) k c')).setCell ⟨w.heap.size + 1 + 1 + 1, 0, none⟩ (.int .i64 0)).heap[w.heap.size + 1 + 1 + 1]? = some (.cells #[.int .i64 0] 35 (0, 0)) :=
              heap_set_same _ ((Below.heap_setCell _ _ _ _ (by simp)).trans HR5.out)
            have hH : Hold (fun j => j ≠ w.heap.size + 1 + 1 ∧ j ≠ w.heap.size + 1 + 1 + 1) w9 ((w9.setCell ⟨w.heap.size + 1 + 1, 0, none⟩ (.slice (some ⟨g', 0, none⟩) k c')).setCell ⟨w.heap.size + 1 + 1 + 1, 0, none⟩ (.int .i64 0)) :=
              Hold.trans (Hold.setCell _ _ _ (fun h => h.1 rfl)) (Hold.setCell _ _ _ (fun h => h.2 rfl))
            have hHb := Hold.trans (Hold.below (join HG9.out HB9.out)) hH
            refine ⟨hHb.mono (fun j hj _ => by rcases hj with h | h <;> omega), rfl, L, _, HHIT.out HP1.out, g4, g5, own_hold (own_base HO.out (by omega)) hH (fun j hj => by omega), ?_, J1.out.ends.keep (fun j h1 h2 => hHb.same j (by omega) (by omega)), by omega, by have := hHb.size; omega⟩
            exact J1.out.bel.trans ((hHb.mono (fun j hj _ => (by omega : j ≠ w.heap.size + 1 + 1 ∧ j ≠ w.heap.size + 1 + 1 + 1)) : Hold (fun j => j < w.heap.size) Wb _).to_below (by omega))
      · have HP0 : Hid (t.leastP wt L = false) := Lib.hid (by rw [HP.out, decide_eq_false hgt]; rfl)
        refine Rg.region_genI lq (by kernel_rfl) grR 10 [[], [], [0, 1], [], [0, 1, 2, 3], [0, 1, 2, 3, 4], [0, 1, 2, 3, 4, 5], [0, 1, 2, 3, 4, 5], [0, 1, 2, 3, 4, 5, 6, 7], [0, 1, 2, 3, 4, 5, 6, 7, 8]] [some 20, some 21, some 22, some 23, some 24, some 25, some 26, some 27, some 28, some 29] (spLe0 t pw pt cw ct mv wt g k x kp) (by kernel_rfl) (by kernel_rfl) rfl (spLe0_stable _ _ _ _ _ _ _ _ _ _ _) ?_ ?_
        · refine ⟨fun V w' hG hs => ?_, fun V w' hG hs => ?_, fun V w' hG hs => ?_, fun V w' hG hs => ?_, fun V w' hG hs => ?_, fun V w' hG hs => ?_, fun V w' hG hs => ?_, fun V w' hG hs => ?_, fun V w' hG hs => ?_, fun V w' hG hs => ?_, trivial⟩
          all_goals
            have hxk := (hG.block w.heap.size (by omega)).trans HWKb.out
            have k0 := blk_cells hxk 0 _ rfl
            have k1 := blk_cells hxk 1 _ rfl
            have k2 := blk_cells hxk 2 _ rfl
            have k3 := blk_cells hxk 3 _ rfl
            have kw := blk_cells ((hG.block (w.heap.size + 1) (by omega)).trans HWTb.out) 0 _ rfl
          · rw [if_pos (by rfl)]
            exact Rg.GrowL.value (v := .agg #[.slice pw t.words.length cw, .slice pt t.turns.length ct, .int .i64 t.breath, mv]) (w' := w') (by simp [go_sem, Rs.look, k0, k1, k2, k3]) (Rs.Gr.refl _) rfl
          · rw [if_pos (by rfl)]
            exact Rg.GrowL.value (v := .slice (some ⟨g, 0, none⟩) k k) (w' := w') (by simp [go_sem, Rs.look]) (Rs.Gr.refl _) rfl
          · have e0 : V 0 = .agg #[.slice pw t.words.length cw, .slice pt t.turns.length ct, .int .i64 t.breath, mv] := hs 0 (by simp)
            have e1 : V 1 = .slice (some ⟨g, 0, none⟩) k k := hs 1 (by simp)
            rw [if_pos (by rfl)]
            refine Rg.GrowL.call grR (f := 111) (args := #[.agg #[.slice pw t.words.length cw, .slice pt t.turns.length ct, .int .i64 t.breath, mv], .slice (some ⟨g, 0, none⟩) k k]) (by simp [go_sem, Rs.look, e0, e1]) ?_
            refine (HWT.out w' hG).mono ?_
            rintro e w2 ⟨rfl, hB2⟩
            exact ⟨_, rfl, hB2, rfl⟩
          · rw [if_pos (by rfl)]
            exact Rg.GrowL.value (v := .int .i64 wt) (w' := w') (by simp [go_sem, Rs.look, kw]) (Rs.Gr.refl _) rfl
          · have e0 : V 0 = .agg #[.slice pw t.words.length cw, .slice pt t.turns.length ct, .int .i64 t.breath, mv] := hs 0 (by simp)
            have e1 : V 1 = .slice (some ⟨g, 0, none⟩) k k := hs 1 (by simp)
            have e2 : V 2 = .int .i64 x := hs 2 (by simp)
            have e3 : V 3 = .int .i64 wt := hs 3 (by simp)
            rw [if_pos (by rfl)]
            exact Rg.GrowL.value (v := .bool false) (w' := w') (by simp [go_sem, Rs.look, e0, e1, e2, e3, hgt]) (Rs.Gr.refl _) rfl
          · have e0 : V 0 = .agg #[.slice pw t.words.length cw, .slice pt t.turns.length ct, .int .i64 t.breath, mv] := hs 0 (by simp)
            have e1 : V 1 = .slice (some ⟨g, 0, none⟩) k k := hs 1 (by simp)
            have e2 : V 2 = .int .i64 x := hs 2 (by simp)
            have e3 : V 3 = .int .i64 wt := hs 3 (by simp)
            have e4 : V 4 = .bool false := hs 4 (by simp)
            rw [if_pos (by rfl)]
            exact Rg.GrowL.value (v := .bool false) (w' := w') (by simp [go_sem, Rs.look, e0, e1, e2, e3, e4]) (Rs.Gr.refl _) rfl
          · have e0 : V 0 = .agg #[.slice pw t.words.length cw, .slice pt t.turns.length ct, .int .i64 t.breath, mv] := hs 0 (by simp)
            have e1 : V 1 = .slice (some ⟨g, 0, none⟩) k k := hs 1 (by simp)
            have e2 : V 2 = .int .i64 x := hs 2 (by simp)
            have e3 : V 3 = .int .i64 wt := hs 3 (by simp)
            have e4 : V 4 = .bool false := hs 4 (by simp)
            have e5 : V 5 = .bool false := hs 5 (by simp)
            rw [if_neg (by simp [Rs.wantB, e5])]
            rfl
          · have e0 : V 0 = .agg #[.slice pw t.words.length cw, .slice pt t.turns.length ct, .int .i64 t.breath, mv] := hs 0 (by simp)
            have e1 : V 1 = .slice (some ⟨g, 0, none⟩) k k := hs 1 (by simp)
            have e2 : V 2 = .int .i64 x := hs 2 (by simp)
            have e3 : V 3 = .int .i64 wt := hs 3 (by simp)
            have e4 : V 4 = .bool false := hs 4 (by simp)
            have e5 : V 5 = .bool false := hs 5 (by simp)
            rw [if_neg (by simp [Rs.wantB, e5])]
            rfl
          · have e0 : V 0 = .agg #[.slice pw t.words.length cw, .slice pt t.turns.length ct, .int .i64 t.breath, mv] := hs 0 (by simp)
            have e1 : V 1 = .slice (some ⟨g, 0, none⟩) k k := hs 1 (by simp)
            have e2 : V 2 = .int .i64 x := hs 2 (by simp)
            have e3 : V 3 = .int .i64 wt := hs 3 (by simp)
            have e4 : V 4 = .bool false := hs 4 (by simp)
            have e5 : V 5 = .bool false := hs 5 (by simp)
            have e6 : V 6 = undef := hs 6 (by simp)
            have e7 : V 7 = undef := hs 7 (by simp)
            rw [if_neg (by simp [Rs.wantB, e5])]
            rfl
          · have e0 : V 0 = .agg #[.slice pw t.words.length cw, .slice pt t.turns.length ct, .int .i64 t.breath, mv] := hs 0 (by simp)
            have e1 : V 1 = .slice (some ⟨g, 0, none⟩) k k := hs 1 (by simp)
            have e2 : V 2 = .int .i64 x := hs 2 (by simp)
            have e3 : V 3 = .int .i64 wt := hs 3 (by simp)
            have e4 : V 4 = .bool false := hs 4 (by simp)
            have e5 : V 5 = .bool false := hs 5 (by simp)
            have e6 : V 6 = undef := hs 6 (by simp)
            have e7 : V 7 = undef := hs 7 (by simp)
            have e8 : V 8 = undef := hs 8 (by simp)
            rw [if_pos (by rfl)]
            exact Rg.GrowL.value (v := .bool false) (w' := w') (by simp [go_sem, Rs.look, e0, e1, e2, e3, e4, e5, e6, e7, e8]) (Rs.Gr.refl _) rfl
        · intro V w' hG hs
          have e0 : V 0 = .agg #[.slice pw t.words.length cw, .slice pt t.turns.length ct, .int .i64 t.breath, mv] := hs 0 (by omega)
          have e1 : V 1 = .slice (some ⟨g, 0, none⟩) k k := hs 1 (by omega)
          have e2 : V 2 = .int .i64 x := hs 2 (by omega)
          have e3 : V 3 = .int .i64 wt := hs 3 (by omega)
          have e4 : V 4 = .bool false := hs 4 (by omega)
          have e5 : V 5 = .bool false := hs 5 (by omega)
          have e6 : V 6 = undef := hs 6 (by omega)
          have e7 : V 7 = undef := hs 7 (by omega)
          have e8 : V 8 = undef := hs 8 (by omega)
          have e9 : V 9 = .bool false := hs 9 (by omega)
          simp only [Rs.canon, Rs.dstOf, List.range_succ, List.range_zero, List.nil_append, List.cons_append, List.foldl_cons, List.foldl_nil, List.drop_succ_cons, List.drop_zero, List.drop_nil, List.getElem?_toArray, List.getElem?_cons_succ, List.getElem?_cons_zero, Option.bind_some, Act.put, List.getD_cons_succ, List.getD_cons_zero, List.setIfInBounds_toArray, List.set_cons_succ, List.set_cons_zero]
          rw [e0, e1, e2, e3, e4, e5, e6, e7, e8, e9]
          clear e0 e1 e2 e3 e4 e5 e6 e7 e8 e9 hs
          have hz9 := hG.size
          have HG9 := Lib.hid hG
          clear hG
          gi_wp2
          refine ⟨Hold.below HG9.out, J1.out.below (B := Wb.heap.size) (by omega) (by omega) HG9.out, fun y hy => ?_, by omega⟩
          rcases List.mem_append.1 hy with hy | hy
          · exact J2.out y hy
          · rw [List.mem_singleton.1 hy]; exact HP0.out
  · obtain rfl : k = t.words.length + 1 := by omega
    have hnone : t.leastGo wt (List.range' 1 t.words.length) = none := by rw [← HGO.out, Nat.sub_self]; rfl
    have HR4 := Lib.hid HA.out.r4
    have HR5 := Lib.hid HA.out.r5
    have c0 := blk_cells HA.out.r4 0 _ rfl
    have c1 := blk_cells HA.out.r5 0 _ rfl
    have z4 : wr.frozen? ⟨w.heap.size + 1 + 1, 0, none⟩ = false := by simp [World.frozen?, HA.out.r4]
    have z5 : wr.frozen? ⟨w.heap.size + 1 + 1 + 1, 0, none⟩ = false := by simp [World.frozen?, HA.out.r5]
    gi_wp2
    have g4 : ((wr.setCell ⟨w.heap.size + 1 + 1, 0, none⟩ (.slice none 0 0)).setCell ⟨w.heap.size + 1 + 1 + 1, 0, none⟩ (.int .i64 6)).heap[w.heap.size + 1 + 1]? = some (.cells #[.slice none 0 0] 34 (0, 0)) :=
      (Below.heap_setCell _ _ _ _ (by simp)).trans (heap_set_same _ HR4.out)
    have g5 : ((wr.setCell ⟨w.heap.size + 1 + 1, 0, none⟩ (.slice none 0 0)).setCell ⟨w.heap.size + 1 + 1 + 1, 0, none⟩ (.int .i64 6)).heap[w.heap.size + 1 + 1 + 1]? = some (.cells #[.int .i64 6] 35 (0, 0)) :=
      heap_set_same _ ((Below.heap_setCell _ _ _ _ (by simp)).trans HR5.out)
    have hH : Hold (fun j => j ≠ w.heap.size + 1 + 1 ∧ j ≠ w.heap.size + 1 + 1 + 1) wr ((wr.setCell ⟨w.heap.size + 1 + 1, 0, none⟩ (.slice none 0 0)).setCell ⟨w.heap.size + 1 + 1 + 1, 0, none⟩ (.int .i64 6)) :=
      Hold.trans (Hold.setCell _ _ _ (fun h => h.1 rfl)) (Hold.setCell _ _ _ (fun h => h.2 rfl))
    have hC := HA.out.sz.2
    refine leaves_ends (B := w.heap.size + 1 + 1 + 1 + 1) (by simp) _ C _ (HA.out.ends.keep (fun j h1 h2 => hH.same j (by omega) (by omega))) (by have := hH.size; omega) (fun w' hh => ?_)
    have hsz := hH.size
    have d0 := blk_cells ((hh.same _ (by omega) (by omega)).trans g4) 0 _ rfl
    have d1 := blk_cells ((hh.same _ (by omega) (by omega)).trans g5) 0 _ rfl
    rw [least_none hnone]
    refine ⟨.tuple #[.slice none 0 0, .int .i64 6], by simp [results, Tryz.results73, go_sem, d0, d1], _, rfl, own_none _ _ _ _, ?_⟩
    exact HA.out.bel.trans (((hH.mono (fun j hj _ => (by omega : j ≠ w.heap.size + 1 + 1 ∧ j ≠ w.heap.size + 1 + 1 + 1)) : Hold (fun j => j < w.heap.size) wr _).trans (hh.mono (fun j hj _ => (by omega : j < w.heap.size + 1 + 1 + 1 + 1)))).to_below (by omega))
end Go.Proofs.YtadnggecnjdhiaaGreat
set_option linter.unusedSimpArgs false
set_option linter.unusedVariables false
namespace Go.Proofs.YtadnggecnjdhiaaGreat
open Go.RowKit Tx
attribute [local go_sem] Oper.semAt_some

/-- what Least tells -/
def leaL (t : Text) (wt : Int) : List Int := if t.err = 0 then (if wt < 0 then [] else (t.least wt).1) else []
def leaE (t : Text) (wt : Int) : Int := if t.err = 0 then (if wt < 0 then 3 else (t.least wt).2) else t.err
set_option maxHeartbeats 800000 in
set_option maxRecDepth 100000 in
theorem Least_any (t : Text) (wt : Int) (hl1 : t.words.length ≤ 1000000) (hl2 : t.turns.length ≤ 1000000) (pw pt : Option Addr) (cw ct : Nat) (hcw : t.words.length ≤ cw ∧ cw ≤ maxLen) (w : World) (hW : TxAt w t pw pt) :
    Calls Tryz.prog 31 #[.agg #[.slice pw t.words.length cw, .slice pt t.turns.length ct, .int .i64 t.breath], .int .i64 wt] w (ListPost (leaL t wt) (leaE t wt) w) := by
  by_cases he : t.err = 0
  · have ok := err_ok he
    have HS := Lib.hid (fun W (h : Below w.heap.size w W) => open_ok t he pw pt cw ct W (hW.below h))
    by_cases hneg : wt < 0
    · have h1 : leaL t wt = [] := by unfold leaL; rw [if_pos he, if_pos hneg]
      have h2 : leaE t wt = 3 := by unfold leaE; rw [if_pos he, if_pos hneg]
      rw [h1, h2]
      clear hW he h1 h2 ok
      go_enter Tryz.func31, Tryz.ntmps31
      go_wp2_with fail
      refine (HS.out _ (below1 _ _)).mono ?_
      rintro e w5 ⟨rfl, hB5⟩
      have HB5 := Lib.hid (join (below1 _ _) hB5)
      clear hB5
      go_wp2
      go_ret2
      exact ⟨_, rfl, own_none _ _ _ _, join HB5.out (below1 _ _)⟩
    · have h1 : leaL t wt = (t.least wt).1 := by unfold leaL; rw [if_pos he, if_neg hneg]
      have h2 : leaE t wt = (t.least wt).2 := by unfold leaE; rw [if_pos he, if_neg hneg]
      rw [h1, h2]
      have HF := Lib.hid (fun W (h : Below w.heap.size w W) => least_any t pw pt cw ct (.func (.func 91) #[.agg #[.slice pw t.words.length cw, .slice pt t.turns.length ct, .int .i64 t.breath, .nilFunc]] #[]) wt W ⟨ok, hW.below h, hcw⟩)
      clear hW he h1 h2 ok
      go_enter Tryz.func31, Tryz.ntmps31
      go_wp2_with fail
      refine (HS.out _ (below1 _ _)).mono ?_
      rintro e w5 ⟨rfl, hB5⟩
      have HB5 := Lib.hid (join (below1 _ _) hB5)
      clear hB5
      go_wp2_with fail
      refine (HF.out _ (join HB5.out (below1 _ _))).mono ?_
      rintro e w6 ⟨v, rfl, hown, hB6⟩
      have HO := Lib.hid hown
      have HB6 := Lib.hid hB6
      clear hown hB6
      go_wp2
      go_ret2
      have hz := HB5.out.size
      exact ⟨_, rfl, own_base HO.out (by simp; omega), join (join HB5.out (below1 _ _)) HB6.out⟩
  · have h1 : leaL t wt = [] := if_neg he
    have h2 : leaE t wt = t.err := if_neg he
    rw [h1, h2]
    have HS := Lib.hid (fun W (h : Below w.heap.size w W) => open_bad t he hl1 hl2 pw pt cw ct W (hW.below h))
    have HE : (t.err != 0) = true := by simpa using he
    clear hW he h1 h2
    generalize t.err = er at HE HS ⊢
    go_enter Tryz.func31, Tryz.ntmps31
    go_wp2_with fail
    refine (HS.out _ (below1 _ _)).mono ?_
    rintro e w5 ⟨rfl, hB5⟩
    have HB5 := Lib.hid (join (below1 _ _) hB5)
    clear hB5
    go_wp2
    go_ret2
    exact ⟨_, rfl, own_none _ _ _ _, join HB5.out (below1 _ _)⟩
end Go.Proofs.YtadnggecnjdhiaaGreat
set_option linter.unusedSimpArgs false
set_option linter.unusedVariables false
namespace Go.Proofs.YtadnggecnjdhiaaGreat
open Go.RowKit Tx Go.Maps

theorem und_intM : Tryz.prog.underlying 3 = some (.int .i64) := by kernel_rfl
theorem keyed_int : Keyed Tryz.prog 3 := int_keyed und_intM
/-- block b is a map of numbers that reads as C -/
def MapIs (w : World) (b N : Nat) (C : Int → Int) : Prop :=
  ∃ (cnt : Nat) (D : DataW Unit), cnt ≤ N ∧ w.ownsMap Tryz.prog 3 (plainElem Tryz.prog 3) b cnt D ∧ IsMap D ∧ ∀ k, D.atKey (.int .i64 k) (.lit (.int .i64 0)) = .lit (.int .i64 (C k))
theorem und_map : Tryz.prog.underlying 127 = some (.map 3 3) := by kernel_rfl
theorem zero_int (w : World) : (zeroValue 3).run Tryz.prog w = .ok (.int .i64 0) w := by kernel_rfl
theorem wf_i64 {a : Int} (h : -9223372036854775808 ≤ a ∧ a ≤ 9223372036854775807) : (Lit.int .i64 a).wf = true := by
  simp only [Lit.wf, Bool.and_eq_true, decide_eq_true_eq]
  have h1 : IntKind.i64.min = -9223372036854775808 := by rfl
  have h2 : IntKind.i64.max = 9223372036854775807 := by rfl
  omega
theorem MapIs.new (w : World) : MapIs (w.alloc (.map #[] 0)) w.heap.size 0 (fun _ => 0) :=
  ⟨0, .map [], Nat.le_refl _, World.ownsMap_made _ _ _ _, isMap_empty, fun k => rfl⟩
set_option maxRecDepth 100000 in
theorem MapIs.look {w : World} {b N : Nat} {C : Int → Int} (h : MapIs w b N C) {k : Int} (hk : -9223372036854775808 ≤ k ∧ k ≤ 9223372036854775807) : (Instr.lookup 127 (.map (some b)) (.int .i64 k) false).run Tryz.prog w = .ok (.int .i64 (C k)) w := by
  obtain ⟨cnt, D, _, hown, _, hC⟩ := h
  obtain ⟨c, hrun, hat, _⟩ := hown.lookup_int keyed_int und_map und_intM (zero_int w) (keyOf_int_mk und_intM (wf_i64 hk))
  have he := (hC k).symm.trans hat
  injection he with he
  injection he with _ he
  rw [hrun, he]
theorem MapIs.upd {w : World} {b N : Nat} {C : Int → Int} (h : MapIs w b N C) (hN : N ≤ 1000000) {k v : Int} (hk : -9223372036854775808 ≤ k ∧ k ≤ 9223372036854775807) (hv : -9223372036854775808 ≤ v ∧ v ≤ 9223372036854775807) :
    ∃ w', (Instr.mapUpdate 127 (.map (some b)) (.int .i64 k) (.int .i64 v)).run Tryz.prog w = .ok () w' ∧ MapIs w' b (N + 1) (fun q => if q = k then v else C q) ∧ w.grownBy w' (some b) := by
  obtain ⟨cnt, D, hcn, hown, hm, hC⟩ := h
  obtain ⟨w', hrun, hown', hg⟩ := hown.update keyed_int und_map (by unfold maxLen; omega) (keyOf_int_mk und_intM (wf_i64 hk)) (plainElem_int und_intM (wf_i64 hv))
  refine ⟨w', hrun, ⟨cnt + 1, _, by omega, hown', ?_, fun q => ?_⟩, hg⟩
  · obtain ⟨es, rfl⟩ := hm; exact ⟨_, rfl⟩
  · by_cases hq : q = k
    · subst hq; rw [atKey_put_same hm (by trivial)]; simp
    · rw [atKey_put_other (by intro e; injection e with _ e; exact hq e), hC]; simp [hq]
theorem MapIs.hold {Kp : Nat → Prop} {w w' : World} {b N : Nat} {C : Int → Int} (h : MapIs w b N C) (hh : Hold Kp w w') (hb : Kp b) : MapIs w' b N C := by
  obtain ⟨cnt, D, hcn, ⟨es, clock, h1, h2⟩, hm, hC⟩ := h
  exact ⟨cnt, D, hcn, ⟨es, clock, (hh.same b hb (Array.getElem?_eq_some_iff.1 h1).1).trans h1, h2⟩, hm, hC⟩
theorem MapIs.lt {w : World} {b N : Nat} {C : Int → Int} (h : MapIs w b N C) : b < w.heap.size := by
  obtain ⟨cnt, D, hcn, ⟨es, clock, h1, h2⟩, hm, hC⟩ := h
  exact (Array.getElem?_eq_some_iff.1 h1).1
theorem MapIs.congr {w : World} {b N : Nat} {C C' : Int → Int} (h : MapIs w b N C) (e : ∀ k, C k = C' k) : MapIs w b N C' := by
  rw [show C' = C from funext fun k => (e k).symm]; exact h
theorem hold_grown {w w' : World} {b : Nat} (h : w.grownBy w' (some b)) : Hold (fun k => k ≠ b) w w' := ⟨h.os, h.tape, h.output, h.size, fun k hk hl => h.block k hl (fun e => hk (by cases e; rfl))⟩

/-! how many readings -/
theorem many_fuel (may : Nat → Nat → Bool) (n : Nat) : ∀ (f g a : Nat), a ≤ n → n + 1 - a ≤ f → n + 1 - a ≤ g → many may n f a = many may n g a
  | 0, _, a, h, h1, _ => by omega
  | _ + 1, 0, a, h, _, h2 => by omega
  | f + 1, g + 1, a, h, h1, h2 => by
    rw [many, many]
    by_cases ha : a = n
    · rw [if_pos ha, if_pos ha]
    · rw [if_neg ha, if_neg ha]
      congr 1
      apply List.map_congr_left
      intro b hb
      unfold brs at hb
      have := (List.mem_filter.1 hb).1
      rw [List.mem_range'_1] at this
      exact many_fuel may n f g b (by omega) (by omega) (by omega)
theorem count_end (may : Nat → Nat → Bool) (n : Nat) : count may n n = 1 := by
  unfold count; rw [show n + 1 - n = 0 + 1 by omega, many, if_pos rfl]
theorem count_row (may : Nat → Nat → Bool) {n a : Nat} (h : a < n) : count may n a = ((brs may n a).map (count may n)).sum := by
  unfold count
  rw [show n + 1 - a = (n - a) + 1 by omega, many, if_neg (by omega)]
  congr 1
  apply List.map_congr_left
  intro b hb
  unfold brs at hb
  have := (List.mem_filter.1 hb).1
  rw [List.mem_range'_1] at this
  exact many_fuel may n _ _ b (by omega) (by omega) (by omega)
theorem sum_le (l : List Nat) (M : Nat) (h : ∀ x ∈ l, x ≤ M) : l.sum ≤ l.length * M := by
  induction l with
  | nil => simp
  | cons x l ih =>
    have := h x (by simp)
    have := ih (fun y hy => h y (by simp [hy]))
    rw [List.sum_cons, List.length_cons, Nat.succ_mul]; omega
theorem many_le (may : Nat → Nat → Bool) {n : Nat} (hn : n ≤ 12) : ∀ f a, many may n f a ≤ 13 ^ f
  | 0, _ => by simp [many]
  | f + 1, a => by
    rw [many]
    split
    · exact Nat.one_le_pow _ _ (by omega)
    · have h1 := sum_le ((brs may n a).map (many may n f)) (13 ^ f) (fun x hx => by
        obtain ⟨b, _, rfl⟩ := List.mem_map.1 hx; exact many_le may hn f b)
      have h2 : ((brs may n a).map (many may n f)).length ≤ 12 := by
        rw [List.length_map]; unfold brs; exact Nat.le_trans (List.length_filter_le _ _) (by simp; omega)
      rw [Nat.pow_succ]
      have h3 : ((brs may n a).map (many may n f)).length * 13 ^ f ≤ 12 * 13 ^ f := Nat.mul_le_mul_right _ h2
      omega
theorem count_le (may : Nat → Nat → Bool) {n : Nat} (hn : n ≤ 12) (a : Nat) : count may n a ≤ 302875106592253 := by
  unfold count
  refine Nat.le_trans (many_le may hn _ a) ?_
  exact Nat.le_trans (Nat.pow_le_pow_right (by omega) (show n + 1 - a ≤ 13 by omega)) (by decide)
end Go.Proofs.YtadnggecnjdhiaaGreat
set_option linter.unusedSimpArgs false
set_option linter.unusedVariables false
namespace Go.Proofs.YtadnggecnjdhiaaGreat
open Go.RowKit Tx
attribute [local go_sem] Oper.semAt_some

/-- the counts of the places from k on -/
def cntTo (may : Nat → Nat → Bool) (n k : Nat) (q : Int) : Int := if (k : Int) ≤ q ∧ q ≤ n then (count may n q.toNat : Int) else 0
/-- .. and of the place k some breaths -/
def cntMid (may : Nat → Nat → Bool) (n k : Nat) (pre : List Nat) (q : Int) : Int := if q = k then (((pre.map (count may n)).sum : Nat) : Int) else cntTo may n (k + 1) q

/-- what holds in readings -/
structure RdC (n cw : Nat) (pw : Option Addr) (v1 v2 mv : Value) (w W : World) (Mv N : Nat) (Cf : Int → Int) (C : Nat) (ds : List Deferred) : Prop where
  wk : W.heap[w.heap.size]? = some (.cells #[.slice pw n cw, v1, v2, mv] 84 (0, 0))
  mp : MapIs W (w.heap.size + 1) N Cf
  mb : W.heap[Mv]? = some (.cells #[.map (some (w.heap.size + 1))] 127 (0, 0))
  bel : Below w.heap.size w W
  ends : Ends (Mv + 1) W C ds
  sz : w.heap.size + 1 < Mv ∧ Mv + 1 ≤ W.heap.size ∧ C ≤ W.heap.size
theorem RdC.below {n cw : Nat} {pw : Option Addr} {v1 v2 mv : Value} {w W W' : World} {Mv N : Nat} {Cf : Int → Int} {C : Nat} {ds : List Deferred} (h : RdC n cw pw v1 v2 mv w W Mv N Cf C ds) {B : Nat} (h3 : Mv + 1 ≤ B) (hC : C ≤ B) (hB : Below B W W') : RdC n cw pw v1 v2 mv w W' Mv N Cf C ds :=
  have hs := h.sz
  ⟨(hB.block _ (by omega)).trans h.wk, h.mp.hold (Kp := fun k => k < B) (.of_below hB (fun _ h _ => h)) (by omega), (hB.block _ (by omega)).trans h.mb, h.bel.trans (hB.mono (by omega)), h.ends.keep (fun k _ hk => hB.block k (by omega)),
    ⟨hs.1, Nat.le_trans hs.2.1 hB.size, Nat.le_trans hs.2.2 hB.size⟩⟩
theorem RdC.hold {n cw : Nat} {pw : Option Addr} {v1 v2 mv : Value} {w W W' : World} {Mv N N' : Nat} {Cf Cf' : Int → Int} {C : Nat} {ds : List Deferred} (h : RdC n cw pw v1 v2 mv w W Mv N Cf C ds) {b : Nat} (hb : w.heap.size + 1 ≤ b) (hbM : b ≠ Mv) (hbC : b ≤ Mv ∨ C ≤ b) (hH : Hold (fun k => k ≠ b) W W') (hm : MapIs W' (w.heap.size + 1) N' Cf') : RdC n cw pw v1 v2 mv w W' Mv N' Cf' C ds :=
  have hs := h.sz
  ⟨(hH.same _ (by omega) (by omega)).trans h.wk, hm, (hH.same _ (by omega) (by omega)).trans h.mb, h.bel.trans ((hH.mono (fun k hk _ => by omega) : Hold (fun k => k < w.heap.size) W W').to_below (by omega)), h.ends.keep (fun k h1 hk => hH.same k (by omega) (by omega)),
    ⟨hs.1, Nat.le_trans hs.2.1 hH.size, Nat.le_trans hs.2.2 hH.size⟩⟩

/-- how many places are still to come, out of the box that slot 4 shows -/
def rdMeas (a : Act) (w : World) : Nat := match w.cell? (match a.tmps.getD 4 undef with | .pointer (some p) => p | _ => ⟨0, 0, none⟩) with | some v => (intOf v + 1).toNat | none => 0
theorem rdMeas_eq {a : Act} {w : World} {fb : Nat} {i : Int} (h1 : a.tmps.getD 4 undef = .pointer (some ⟨fb, 0, none⟩)) (h2 : w.cell? ⟨fb, 0, none⟩ = some (.int .i64 i)) : rdMeas a w = (i + 1).toNat := by
  unfold rdMeas; rw [h1]; simp only; rw [h2]; rfl
set_option maxHeartbeats 2000000 in
set_option maxRecDepth 100000 in
theorem readings_any (may : Nat → Nat → Bool) (n cw : Nat) (hn1 : 1 ≤ n) (hn : n ≤ 12) (pw : Option Addr) (v1 v2 mv : Value) (w : World) (hMay : MayAt mv may n (fun k => k < w.heap.size) w) :
    Calls Tryz.prog 82 #[.agg #[.slice pw n cw, v1, v2, mv]] w fun e w' => e = .returned (.map (some (w.heap.size + 1))) ∧ (∃ N, N ≤ 1000000 ∧ MapIs w' (w.heap.size + 1) N (cntTo may n 0)) ∧ Below w.heap.size w w' := by
  have HMAY := Lib.hid hMay
  have hmm := @run_makeMap Tryz.prog
  clear hMay
  obtain ⟨m, hm9⟩ : ∃ m : Nat, 9 ≤ m := ⟨9, Nat.le_refl _⟩
  refine (callsIn_wide (n := m)).1 ?_
  refine callsIn_of_wp_marks Tryz.func82 rfl trivial ?_ rfl
  simp only [Tryz.ntmps82, List.size_toArray, List.length_cons, List.length_nil, Nat.reduceAdd, Nat.reduceSub, Array.replicate_succ, Array.replicate_zero, List.push_toArray, List.append_toArray, List.nil_append, List.cons_append]
  gi_wp2_with fail
  refine ⟨trivial, (fun h => by cases h), ?_⟩
  refine (callsIn_wide.2 (end_any _ _ _ _ _ _ _)).mono ?_
  rintro e w' ⟨rfl, hw1⟩
  have hB1 : Below w.heap.size w w' := by rw [← hw1]; exact ((below1 _ _).alloc (by simp) _).alloc (by simp; omega) _
  have hz1 : w'.heap.size = w.heap.size + 3 := by rw [← hw1]; simp
  have hx1 : w'.heap[w.heap.size]? = some (.cells #[.slice pw n cw, v1, v2, mv] 84 (0, 0)) := by
    rw [← hw1, Below.heap_alloc _ _ _ (by first | (simp; done) | (simp; omega)), Below.heap_alloc _ _ _ (by simp)]; exact heap_last _ _
  have hm1 : MapIs w' (w.heap.size + 1) 0 (fun _ => 0) := by
    have h0 := MapIs.new (w.alloc (.cells #[.slice pw n cw, v1, v2, mv] 84))
    rw [World.size_alloc] at h0
    rw [← hw1]
    exact h0.hold (Kp := fun _ => True) (.below (below1 _ _)) trivial
  clear hw1
  obtain ⟨w2, hup, hm2, hg2⟩ := hm1.upd (k := (n : Int)) (v := 1) (by omega) (by omega) (by omega)
  have hG2 := hold_grown hg2
  have hB2 : Below w.heap.size w w2 := hB1.grown hg2 hB1.size (fun k hk => by cases hk; omega)
  have hx2 := (hG2.same w.heap.size (by omega) (by omega)).trans hx1
  have hz2 : w.heap.size + 3 ≤ w2.heap.size := by have := hG2.size; omega
  have k0 := blk_cells hx2 0 _ rfl
  have k1 := blk_cells hx2 1 _ rfl
  have k2 := blk_cells hx2 2 _ rfl
  have k3 := blk_cells hx2 3 _ rfl
  have hs2 : w.heap.size < w2.heap.size := by omega
  have HX2 := Lib.hid hx2
  have HB2 := Lib.hid hB2
  have HM2 := Lib.hid hm2
  clear hz1 hx1 hx2 hB1 hm1 hg2 hG2 hB2 hm2
  gi_wp2_with fail
  refine ⟨trivial, (fun h => by cases h), ?_⟩
  refine (callsIn_wide.2 (end_any _ _ _ _ _ _ _)).mono ?_
  rintro e w3 ⟨rfl, hw3⟩
  obtain ⟨Mv, hMv⟩ : ∃ Mv, Mv = w2.heap.size := ⟨_, rfl⟩
  have hB3 : Below w2.heap.size w2 w3 := by rw [← hw3]; exact (below1 _ _).alloc (by simp) _
  have hz3 : w3.heap.size = Mv + 2 := by rw [← hw3, hMv]; simp
  have hmb3 : w3.heap[Mv]? = some (.cells #[.map (some (w.heap.size + 1))] 127 (0, 0)) := by
    rw [← hw3, hMv, Below.heap_alloc _ _ _ (by simp)]; exact heap_last _ _
  have hR3 : RdC n cw pw v1 v2 mv w w3 Mv 1 (cntTo may n n) w3.heap.size [] := by
    refine ⟨(hB3.block _ (by omega)).trans HX2.out, ?_, hmb3, HB2.out.trans (hB3.mono (by omega)), trivial, ⟨by omega, by omega, Nat.le_refl _⟩⟩
    refine (HM2.out.hold (Kp := fun _ => True) (.below hB3) trivial).congr (fun q => ?_)
    show (if q = (n : Int) then (1 : Int) else 0) = cntTo may n n q
    unfold cntTo
    by_cases hq : q = (n : Int)
    · subst hq; rw [if_pos rfl, if_pos ⟨Int.le_refl _, Int.le_refl _⟩]; simp [count_end]
    · rw [if_neg hq, if_neg (by omega)]
  rw [← hMv]
  have HMV := Lib.hid hMv
  have HZ3 := Lib.hid hz3
  have HR3 := Lib.hid hR3
  have hzM : w.heap.size + 3 ≤ Mv := by omega
  obtain ⟨fb, hfb⟩ : ∃ fb, fb = w3.heap.size := ⟨_, rfl⟩
  have hR4 := hR3.below (C := w3.heap.size) (by omega) (Nat.le_refl _) (below1 w3 (.cells #[.int .i64 ((n : Int) - 1)] 3))
  have hf4 := heap_last w3 (.cells #[.int .i64 ((n : Int) - 1)] 3)
  clear hw3 hB3 hmb3 k0 k1 k2 k3 hMv hz3 hR3
  gi_wp2_with fail
  rw [← hfb] at hf4 ⊢
  have hfbM : Mv < fb := by have := HZ3.out; omega
  have hCfb : w3.heap.size ≤ fb := by omega
  clear hfb
  refine wpIn_loop (fun a' w' => ∃ (k fb N : Nat) (ds : List Deferred) (u5 u13 u14 u15 u16 u17 u18 u19 u20 u21 u22 u23 u24 u25 u26 u27 u28 u29 : Value), k ≤ n ∧ N ≤ 1 + 12 * (n - k) ∧ a' = { tmps := #[.agg #[.slice pw n cw, v1, v2, mv], .pointer (some ⟨w.heap.size, 0, none⟩), .map none, .pointer (some ⟨Mv, 0, none⟩), .pointer (some ⟨fb, 0, none⟩), u5, .map (some (w.heap.size + 1)), .agg #[.slice pw n cw, v1, v2, mv], .int .i64 n, .map (some (w.heap.size + 1)), .agg #[.slice pw n cw, v1, v2, mv], .int .i64 n, .int .i64 ((n : Int) - 1), u13, u14, u15, u16, u17, u18, u19, u20, u21, u22, u23, u24, u25, u26, u27, u28, u29], defers := ds } ∧ w'.heap[fb]? = some (.cells #[.int .i64 ((k : Int) - 1)] 3 (0, 0)) ∧ Mv < fb ∧ ∃ C, C ≤ fb ∧ RdC n cw pw v1 v2 mv w w' Mv N (cntTo may n k) C ds) rdMeas ⟨n, fb, 1, [], _, _, _, _, _, _, _, _, _, _, _, _, _, _, _, _, _, _, Nat.le_refl _, by omega, rfl, hf4, hfbM, _, hCfb, hR4⟩ ?_
  clear hR4 hf4
  rintro a' wr ⟨k, fb, N, ds, u5, u13, u14, u15, u16, u17, u18, u19, u20, u21, u22, u23, u24, u25, u26, u27, u28, u29, hk, hN, rfl, hfc, hfM, C, hCf, hR⟩
  have HR := Lib.hid hR
  have HM := Lib.hid hmm
  obtain ⟨hs1, hs2, hs3⟩ := hR.sz
  have hfl := (Array.getElem?_eq_some_iff.1 hfc).1
  have c0 := blk_cells hR.wk 0 _ rfl
  have c1 := blk_cells hR.wk 1 _ rfl
  have c2 := blk_cells hR.wk 2 _ rfl
  have c3 := blk_cells hR.wk 3 _ rfl
  have hs0 : w.heap.size < wr.heap.size := by omega
  clear hR hmm
  by_cases hk0 : 1 ≤ k
  · obtain ⟨a, rfl⟩ : ∃ a, k = a + 1 := ⟨k - 1, by omega⟩
    rw [show ((a + 1 : Nat) : Int) - 1 = (a : Int) from by omega] at hfc
    have d0 := blk_cells hfc 0 _ rfl
    have HFC := Lib.hid hfc
    clear hfc
    gi_wp2_with fail
    refine ⟨trivial, (fun h => by cases h), ?_⟩
    refine (callsIn_wide.2 (breaths_any _ _ _ _ _ _)).mono ?_
    rintro e W4 ⟨rfl, hW4⟩
    have hB4 : Below wr.heap.size wr W4 := by rw [← hW4]; exact (below1 _ _).alloc (by simp) _
    have hs4 : W4.heap.size = wr.heap.size + 2 := by rw [← hW4]; simp
    have hC4 : BrCap W4 n cw pw v1 v2 mv a (wr.heap.size + 1) wr.heap.size := by
      refine ⟨?_, ?_⟩
      · rw [← hW4]
        have := heap_last (wr.alloc (Obj.cells #[Value.slice pw n cw, v1, v2, mv] 84)) (Obj.cells #[Value.int IntKind.i64 a] 3)
        rwa [World.size_alloc] at this
      · rw [← hW4, Below.heap_alloc _ _ _ (by simp)]; exact heap_last _ _
    have hM4 : MayAt mv may n (fun j => j ≠ w.heap.size + 1 ∧ j < W4.heap.size) W4 :=
      (HMAY.out.hold (.of_below (HR.out.bel.trans (hB4.mono (by omega))) (fun _ h _ => h))).mono (fun j hj _ => ⟨by omega, by omega⟩)
    have hA4 := HR.out.below (B := wr.heap.size) (by omega) (by omega) hB4
    have hF4 : W4.heap[fb]? = some (.cells #[.int .i64 a] 3 (0, 0)) := (hB4.block fb hfl).trans HFC.out
    have hst : cntTo may n (a + 1) = cntMid may n a [] := by
      funext q
      unfold cntMid cntTo
      by_cases hq : q = (a : Int)
      · subst hq; rw [if_pos rfl, if_neg (by omega)]; rfl
      · rw [if_neg hq]
    rw [hst] at hA4
    clear hW4 c0 c1 c2 c3 d0 hst
    gi_wp2_with fail
    refine range_of (gf := 143) (lb := #[.pointer (some ⟨wr.heap.size + 1, 0, none⟩), .pointer (some ⟨wr.heap.size, 0, none⟩)]) rfl (enters_of Tryz.func143 (by kernel_rfl) rfl)
      (breaths_seq (m - 1) (fun j => j ≠ w.heap.size + 1) may n cw hn pw v1 v2 mv a _ _ (by omega) W4 ⟨by omega, by omega⟩ hC4 hM4) (Below.refl _ _) (fun x vs W h => by rw [h]; rfl)
      (fun pre W' => (∃ N', N' ≤ N + pre.length ∧ RdC n cw pw v1 v2 mv w W' Mv N' (cntMid may n a pre) W4.heap.size ds) ∧ W'.heap[fb]? = some (.cells #[.int .i64 a] 3 (0, 0)) ∧ W4.heap.size ≤ W'.heap.size)
      (fun _ _ _ => False) ?rdI ?rdX ⟨⟨N, by simp, ⟨hA4.wk, hA4.mp, hA4.mb, hA4.bel, hA4.ends.mono (by omega), ⟨hA4.sz.1, hA4.sz.2.1, Nat.le_refl _⟩⟩⟩, hF4, Nat.le_refl _⟩ ?round ?done ?stop
    case rdI =>
      rintro s' X Y ⟨⟨N', hN', i1⟩, i2, i3⟩ hb
      exact ⟨⟨N', hN', i1.below (by omega) (Nat.le_refl _) hb⟩, (hb.block fb (by omega)).trans i2, Nat.le_trans i3 hb.size⟩
    case rdX => rintro c s' X Y h; exact h.elim
    case stop => rintro D c pre W' hD h; exact h.elim
    case done =>
      rintro D W' hD ⟨⟨N', hN', i1⟩, i2, i3⟩ hK
      have hDl := (Array.getElem?_eq_some_iff.1 hK).1
      have d0 := blk_cells i2 0 _ rfl
      have hfW : fb < W'.heap.size := by omega
      have hbl : (brs may n a).length ≤ 12 := by unfold brs; exact Nat.le_trans (List.length_filter_le _ _) (by simp; omega)
      have hnext : cntMid may n a (brs may n a) = cntTo may n a := by
        funext q
        unfold cntMid cntTo
        by_cases hq : q = (a : Int)
        · subst hq; rw [if_pos rfl, if_pos ⟨Int.le_refl _, by omega⟩, Int.toNat_natCast, count_row may (by omega)]
        · rw [if_neg hq]
          by_cases h2 : (a : Int) ≤ q ∧ q ≤ n
          · rw [if_pos h2, if_pos (by omega)]
          · rw [if_neg h2, if_neg (by omega)]
      rw [hnext] at i1
      have I1 := Lib.hid i1
      clear i1 hnext hA4 hC4 hM4 hF4
      gi_wp2
      have hz4 := HR.out.sz
      have hW4 := I1.out.below (B := W'.heap.size) (by omega) (by omega) (below1 W' (.cells #[.int .i64 ((a : Int) - 1)] 3))
      have hlast := heap_last W' (.cells #[.int .i64 ((a : Int) - 1)] 3)
      refine ⟨⟨a, W'.heap.size, N', _, _, _, _, _, _, _, _, _, _, _, _, _, _, _, _, _, _, _, by omega, by omega, rfl, hlast, by omega, W'.heap.size, Nat.le_refl _,
        ⟨hW4.wk, hW4.mp, hW4.mb, hW4.bel, ⟨D, rfl, by omega, hDl, (Below.heap_alloc _ _ _ hDl).trans hK, hW4.ends.mono (Nat.le_of_eq hD.symm)⟩, ⟨hW4.sz.1, hW4.sz.2.1, by simp⟩⟩⟩, ?_⟩
      rw [rdMeas_eq (fb := W'.heap.size) (i := (a : Int) - 1) rfl (blk_cells hlast 0 _ rfl), rdMeas_eq (fb := fb) (i := (a : Int)) rfl (blk_cells HFC.out 0 _ rfl)]
      omega
    case round =>
      rintro lq pre b post vs W5 hl1 hl2 - hL rfl ⟨i1, i2, i3⟩
      have hb : a < b ∧ b ≤ n := by
        have : b ∈ brs may n a := by rw [hL]; simp
        unfold brs at this
        have := (List.mem_filter.1 this).1
        rw [List.mem_range'_1] at this; omega
      have hpl : pre.length ≤ 12 := by
        have h1 : (brs may n a).length ≤ 12 := by unfold brs; exact Nat.le_trans (List.length_filter_le _ _) (by simp; omega)
        rw [hL] at h1; simp at h1; omega
      obtain ⟨hb1, hb2⟩ := hb
      clear i1 i2 i3 hA4 hC4 hM4 hF4
      gi_wp2
      refine ⟨Below.refl _ _, ?_⟩
      rintro Wb hg hsz ⟨⟨N', hN', j1⟩, j2, j3⟩
      obtain ⟨hsum1, hsum2⟩ : 0 ≤ (((pre.map (count may n)).sum : Nat) : Int) ∧ (((pre.map (count may n)).sum : Nat) : Int) ≤ 3634501279107036 := by
        have := sum_le (pre.map (count may n)) 302875106592253 (fun x hx => by obtain ⟨y, _, rfl⟩ := List.mem_map.1 hx; exact count_le may hn y)
        rw [List.length_map] at this
        have h2 := Nat.mul_le_mul_right 302875106592253 hpl
        omega
      have hcb := count_le may hn b
      have L1 := j1.mp.look (k := (a : Int)) (by omega)
      have L2 := j1.mp.look (k := (b : Int)) (by omega)
      have e1 : cntMid may n a pre (a : Int) = (((pre.map (count may n)).sum : Nat) : Int) := by unfold cntMid; rw [if_pos rfl]
      have e2 : cntMid may n a pre (b : Int) = (count may n b : Int) := by unfold cntMid cntTo; rw [if_neg (by omega), if_pos (by omega)]; simp
      rw [e1] at L1
      rw [e2] at L2
      have HNEW := Lib.hid (show ∀ q : Int, (if q = (a : Int) then (((pre.map (count may n)).sum : Nat) : Int) + (count may n b : Int) else cntMid may n a pre q) = cntMid may n a (pre ++ [b]) q from fun q => by
        unfold cntMid
        by_cases hq : q = (a : Int)
        · rw [if_pos hq, if_pos hq, List.map_append, List.sum_append]; simp
        · rw [if_neg hq, if_neg hq, if_neg hq])
      generalize hS : (((pre.map (count may n)).sum : Nat) : Int) = S at L1 hsum1 hsum2 HNEW
      generalize hCb : count may n b = cb at L2 hcb HNEW
      obtain ⟨w', hup, hm', hg'⟩ := j1.mp.upd (by omega) (k := (a : Int)) (v := S + (cb : Int)) (by omega) (by omega)
      have g0 := blk_cells j1.mb 0 _ rfl
      have g1 := blk_cells j2 0 _ rfl
      have hadd : IntKind.i64.wrap (S + (cb : Int)) = S + (cb : Int) := IntWalk.i64_in _ (by omega)
      have J1 := Lib.hid j1
      have J2 := Lib.hid j2
      have HM' := Lib.hid hm'
      have HG' := Lib.hid hg'
      clear j1 j2 hg hm' hg' hS hCb e1 e2
      gi_wp2
      have hH := hold_grown HG'.out
      refine ⟨hH.mono (fun j hj _ => by rcases hj with h | h <;> omega), ⟨N' + 1, by simp; omega, J1.out.hold (b := w.heap.size + 1) (Nat.le_refl _) (by omega) (.inl (by omega)) hH (HM'.out.congr HNEW.out)⟩, (hH.same fb (by omega) (by omega)).trans J2.out, by have := hH.size; omega⟩
  · obtain rfl : k = 0 := by omega
    have d0 := blk_cells hfc 0 _ rfl
    have d1 := blk_cells HR.out.mb 0 _ rfl
    clear c0 c1 c2 c3 hfc
    gi_wp2
    refine leaves_ends (B := Mv + 1) (by simp) _ C wr HR.out.ends (by omega) (fun w' hh => ?_)
    refine ⟨.map (some (w.heap.size + 1)), by simp [results, Tryz.results82, go_sem], rfl, ⟨N, by omega, HR.out.mp.hold hh (by omega)⟩, HR.out.bel.trans ((hh.to_below (by omega)).mono (by omega))⟩
end Go.Proofs.YtadnggecnjdhiaaGreat
set_option linter.unusedSimpArgs false
set_option linter.unusedVariables false
namespace Go.Proofs.YtadnggecnjdhiaaGreat
open Go.RowKit Tx

def unbrTo (may : Nat → Nat → Bool) (n k : Nat) : List Int := ((List.range' 1 (k - 1)).filter (unbrP may n)).map Int.ofNat
theorem unbrTo_succ (may : Nat → Nat → Bool) (n : Nat) {k : Nat} (h : 1 ≤ k) : unbrTo may n (k + 1) = unbrTo may n k ++ (if unbrP may n k then [(k : Int)] else []) := by
  unfold unbrTo
  rw [show k + 1 - 1 = (k - 1) + 1 by omega, List.range'_concat, List.filter_append, List.map_append, show 1 + 1 * (k - 1) = k by omega]
  cases hp : unbrP may n k <;> simp [hp]
theorem unbrTo_len (may : Nat → Nat → Bool) (n k : Nat) : (unbrTo may n k).length ≤ k := by
  unfold unbrTo; rw [List.length_map]; exact Nat.le_trans (List.length_filter_le _ _) (by simp)
def spUb (pw : Option Addr) (n cw : Nat) (v1 v2 mv : Value) (BA : Array Value) (may : Nat → Nat → Bool) (B : Nat) : Nat → List Value → Value → World → Prop
  | 0, _, v, _ => v = .agg #[.slice pw n cw, v1, v2, mv]
  | 1, _, v, _ => v = .agg BA
  | 2, _, v, _ => v = .agg #[.slice pw n cw, v1, v2, mv]
  | 3, L, v, w => ∃ Mb N, v = .map (some Mb) ∧ B < Mb ∧ MapIs w Mb N (cntTo may n 0)
  | 4, L, v, w => ∃ p, v = .pointer (some ⟨p, 0, none⟩) ∧ B < p ∧ w.heap[p]? = some (.cells (arrOf (List.replicate 13 0)) 116 (0, 0))
  | _, _, _, _ => False
theorem spUb_stable (pw : Option Addr) (n cw : Nat) (v1 v2 mv : Value) (BA : Array Value) (may : Nat → Nat → Bool) (B : Nat) : ∀ i L v w w', spUb pw n cw v1 v2 mv BA may B i L v w → Rs.Gr w w' → spUb pw n cw v1 v2 mv BA may B i L v w' := by
  intro i L v w w' h hg
  match i with
  | 0 => exact h
  | 1 => exact h
  | 2 => exact h
  | 3 => obtain ⟨Mb, N, h1, h2, h3⟩ := h; exact ⟨Mb, N, h1, h2, h3.hold (Kp := fun _ => True) (.below hg) trivial⟩
  | 4 => obtain ⟨p, h1, h2, h3⟩ := h; exact ⟨p, h1, h2, (hg.block p (Array.getElem?_eq_some_iff.1 h3).1).trans h3⟩

set_option maxHeartbeats 2000000 in
set_option maxRecDepth 100000 in
theorem unbroken_any (may : Nat → Nat → Bool) (n cw : Nat) (hn1 : 1 ≤ n) (hn : n ≤ 12) (pw : Option Addr) (v1 v2 mv : Value) (w : World) (hMay : MayAt mv may n (fun k => k < w.heap.size) w) :
    Calls Tryz.prog 83 #[.agg #[.slice pw n cw, v1, v2, mv]] w fun e w' => ∃ v, e = .returned (.tuple #[v, .int .i64 (Tx.unbroken may n).2]) ∧ w'.ownsRow w.heap.size 3 1 v (Tx.unbroken may n).1.length ((Tx.unbroken may n).1.map (Value.int .i64)) ∧ Below w.heap.size w w' := by
  obtain ⟨i0, hi0, hz0, hz1, hz2⟩ := info_parts A_infoI
  have HMAY := Lib.hid hMay
  have HSM := Lib.hid (greatest_small (may := may) hn)
  clear hMay
  have HX := Lib.hid (heap_last w (.cells #[.slice pw n cw, v1, v2, mv] 84))
  have HB1 := Lib.hid (below1 w (.cells #[.slice pw n cw, v1, v2, mv] 84))
  have hzA : (w.alloc (.cells #[.slice pw n cw, v1, v2, mv] 84)).heap.size = w.heap.size + 1 := by simp
  have hsz : (arrOf (greatest may n)).size = 13 := by rw [arrOf_size]; exact HSM.out.1
  have HI := Lib.hid (size_marks hsz)
  have HON := Lib.hid (arrOf_one (greatest may n))
  have HRE := Lib.hid (fun W p (hp : p < 13) => reached_any (.slice pw n cw) v1 v2 mv (greatest may n) HSM.out.1 p hp W)
  obtain ⟨BA, hBA⟩ : ∃ BA, BA = arrOf (greatest may n) := ⟨_, rfl⟩
  rw [← hBA] at HI HON HRE hsz
  have HBA := Lib.hid hBA
  have HSZ := Lib.hid hsz
  clear hsz
  go_enter Tryz.func83, Tryz.ntmps83
  go_wp2_with fail
  generalize hW1 : w.alloc (.cells #[.slice pw n cw, v1, v2, mv] 84) = W1 at HX HB1 hzA ⊢
  clear hW1
  have HGR := Lib.hid (fun W (h : Below W1.heap.size W1 W) => greatest_any may n cw hn pw v1 v2 mv W ((HMAY.out.hold (.of_below (HB1.out.trans (h.mono (by omega))) (fun _ h _ => h))).mono (fun j hj _ => by have := h.size; omega)))
  rw [← hBA] at HGR
  have HRD := Lib.hid (fun W (h : Below W1.heap.size W1 W) => readings_any may n cw hn1 hn pw v1 v2 mv W ((HMAY.out.hold (.of_below (HB1.out.trans (h.mono (by omega))) (fun _ h _ => h))).mono (fun j hj _ => by have := h.size; omega)))
  clear hBA
  refine Rs.region_gen 5 [[], [0], [], [0, 1, 2], []] [some 8, some 9, some 10, some 11, some 4] (spUb pw n cw v1 v2 mv BA may w.heap.size) (by kernel_rfl) (by kernel_rfl) rfl (spUb_stable _ _ _ _ _ _ _ _ _) ?_ ?_
  · refine ⟨fun V w' hG hs => ?_, fun V w' hG hs => ?_, fun V w' hG hs => ?_, fun V w' hG hs => ?_, fun V w' hG hs => ?_, trivial⟩
    all_goals
      have hx := (hG.block w.heap.size (by omega)).trans HX.out
      have k0 := blk_cells hx 0 _ rfl
      have k1 := blk_cells hx 1 _ rfl
      have k2 := blk_cells hx 2 _ rfl
      have k3 := blk_cells hx 3 _ rfl
    · rw [if_pos (by rfl)]
      exact Rs.GrowL.value (v := .agg #[.slice pw n cw, v1, v2, mv]) (w' := w') (by simp [go_sem, Rs.look, k0, k1, k2, k3]) (Rs.Gr.refl _) rfl
    · have e0 : V 0 = .agg #[.slice pw n cw, v1, v2, mv] := hs 0 (by simp)
      rw [if_pos (by rfl)]
      refine Rs.GrowL.call (f := 70) (args := #[.agg #[.slice pw n cw, v1, v2, mv]]) (by simp [go_sem, Rs.look, e0]) ?_
      refine (HGR.out w' hG).mono ?_
      rintro e w2 ⟨rfl, hB2⟩
      exact ⟨_, rfl, hB2, rfl⟩
    · rw [if_pos (by rfl)]
      exact Rs.GrowL.value (v := .agg #[.slice pw n cw, v1, v2, mv]) (w' := w') (by simp [go_sem, Rs.look, k0, k1, k2, k3]) (Rs.Gr.refl _) rfl
    · have e0 : V 0 = .agg #[.slice pw n cw, v1, v2, mv] := hs 0 (by simp)
      have e1 : V 1 = .agg BA := hs 1 (by simp)
      have e2 : V 2 = .agg #[.slice pw n cw, v1, v2, mv] := hs 2 (by simp)
      rw [if_pos (by rfl)]
      refine Rs.GrowL.call (f := 82) (args := #[.agg #[.slice pw n cw, v1, v2, mv]]) (by simp [go_sem, Rs.look, e2]) ?_
      refine (HRD.out w' hG).mono ?_
      rintro e w2 ⟨rfl, ⟨N, _, hm⟩, hB2⟩
      exact ⟨_, rfl, hB2, _, N, rfl, by have := hG.size; omega, hm⟩
    · rw [if_pos (by rfl)]
      exact Rs.GrowL.value (v := .pointer (some ⟨w'.heap.size, 0, none⟩)) (w' := w'.alloc (.cells (arrOf (List.replicate 13 0)) 116)) (by simp [go_sem, Rs.look, arrOf]) (below1 _ _) ⟨_, rfl, by have := hG.size; omega, heap_last _ _⟩
  · intro V w' hG hs
    have e0 : V 0 = .agg #[.slice pw n cw, v1, v2, mv] := hs 0 (by omega)
    have e1 : V 1 = .agg BA := hs 1 (by omega)
    have e2 : V 2 = .agg #[.slice pw n cw, v1, v2, mv] := hs 2 (by omega)
    have r3 := hs 3 (by omega)
    have r4 := hs 4 (by omega)
    obtain ⟨Mb, N, e3, hMb, hmp⟩ := r3
    obtain ⟨p, e4, hpB, hpz⟩ := r4
    simp only [Rs.canon, Rs.dstOf, List.range_succ, List.range_zero, List.nil_append, List.cons_append, List.foldl_cons, List.foldl_nil, List.drop_succ_cons, List.drop_zero, List.drop_nil, List.getElem?_toArray, List.getElem?_cons_succ, List.getElem?_cons_zero, Option.bind_some, Act.put, List.getD_cons_succ, List.getD_cons_zero, List.setIfInBounds_toArray, List.set_cons_succ, List.set_cons_zero]
    rw [e0, e1, e2, e3, e4]
    clear e0 e1 e2 e3 e4 hs
    have hthere : w'.there p 0 BA.size := fun j hj => by
      rw [HSZ.out] at hj
      rw [Nat.zero_add, blk_cells hpz j _ (arrOf_get (by simp; omega))]
      exact ⟨by simp, by simp [World.frozen?, hpz]⟩
    have HTH := Lib.hid hthere
    have hpl := (Array.getElem?_eq_some_iff.1 hpz).1
    have hH5 : Hold (fun j => j ≠ p) w' (w'.setCells p 0 BA.toList) := hold_setCells _ _ _ _
    have hm5 : (w'.setCells p 0 BA.toList).heap[p]? = some (.cells BA 116 (0, 0)) := by
      rw [heap_setCells _ _ _ _ _ _ _ hpz, setFrom_all _ _ (by rw [Array.length_toList, HSZ.out]; simp [arrOf_size])]
    have hx5 := (hH5.same w.heap.size (by omega) (by have := hG.size; omega)).trans ((hG.block w.heap.size (by omega)).trans HX.out)
    have hmpne : Mb ≠ p := fun e => by
      obtain ⟨cnt, D, _, ⟨es, clock, h1, _⟩, _⟩ := hmp
      rw [e, hpz] at h1; cases h1
    have hmp5 := hmp.hold hH5 hmpne
    have hB5 : Below w.heap.size w (w'.setCells p 0 BA.toList) := below_setCells' (by omega) _ _ _ (HB1.out.trans (hG.mono (by omega)))
    have hz5 : w'.heap.size ≤ (w'.setCells p 0 BA.toList).heap.size := hH5.size
    have hgz := hG.size
    have hl0 := hmp5.look (k := 0) (by omega)
    have HM5 := Lib.hid hm5
    have HX5 := Lib.hid hx5
    have HMP5 := Lib.hid hmp5
    have HB5 := Lib.hid hB5
    have e0 : cntTo may n 0 0 = (count may n 0 : Int) := by unfold cntTo; rw [if_pos ⟨by omega, by omega⟩]; rfl
    rw [e0] at hl0
    clear hthere hpz hH5 hm5 hx5 hmp hmp5 hB5 hG e0
    have hUB := show Tx.unbroken may n = if count may n 0 = 0 then ([], 6) else (unbrTo may n n, 0) from rfl
    have HUB := Lib.hid hUB
    clear hUB
    by_cases hc0 : count may n 0 = 0
    · have HC := Lib.hid hc0
      rw [hc0] at hl0
      clear hc0
      go_wp2_with (with_reducible refine wpList_store_mid rfl 116 _ _ rfl p 0 BA rfl rfl HTH.out HI.out HON.out ?_)
      go_ret2
      exact ⟨_, by rw [HUB.out, if_pos HC.out]; rfl, by rw [HUB.out, if_pos HC.out]; exact own_none _ _ _ _, HB5.out⟩
    · have HC := Lib.hid hc0
      have hc1 : ((count may n 0 : Int) == 0) = false := by rw [beq_eq_false_iff_ne]; omega
      generalize count may n 0 = cn at hl0 hc1
      clear hc0
      go_wp2_with (with_reducible refine wpList_store_mid rfl 116 _ _ rfl p 0 BA rfl rfl HTH.out HI.out HON.out ?_)
      generalize hW5 : w'.setCells p 0 BA.toList = W5 at hl0 HM5 HX5 HMP5 HB5 hz5 ⊢
      clear hW5 hl0
      go_loopw [6, 7] (fun v u wr => ∃ k : Nat, 1 ≤ k ∧ k ≤ n ∧ u = .int .i64 k ∧ wr.ownsRow W5.heap.size 3 1 v (unbrTo may n k).length ((unbrTo may n k).map (Value.int .i64)) ∧ Below W5.heap.size W5 wr) (fun _ u _ => n - (intOf u).toNat)
      case atStart => exact ⟨1, Nat.le_refl _, hn1, rfl, own_none _ _ _ _, Below.refl _ _⟩
      case round =>
        obtain ⟨k, hk1, hkn, rfl, hown, hBr⟩ := hrel
        have HO := Lib.hid hown
        have HBr := Lib.hid hBr
        have hzr := hBr.size
        have hMbl := HMP5.out.lt
        have hxr := (hBr.block w.heap.size (by omega)).trans HX5.out
        have HMr := Lib.hid ((hBr.block p (by omega)).trans HM5.out)
        have HMPr := Lib.hid (HMP5.out.hold (Kp := fun _ => True) (.below hBr) trivial)
        have k0 := blk_cells hxr 0 _ rfl
        have k1 := blk_cells hxr 1 _ rfl
        have k2 := blk_cells hxr 2 _ rfl
        have k3 := blk_cells hxr 3 _ rfl
        have hs0 : w.heap.size < wr.heap.size := by omega
        have hlen := unbrTo_len may n k
        clear hown hBr
        go_wp2_with fail
        refine (end_any _ _ _ _ _ _ _).mono ?_
        rintro e w6 ⟨rfl, hw6⟩
        have hB6 : Below wr.heap.size wr w6 := by rw [← hw6]; exact below1 _ _
        have hxr6 := (hB6.block w.heap.size hs0).trans hxr
        have HMr6 := Lib.hid ((hB6.block p (by omega)).trans HMr.out)
        have HMP6 := Lib.hid (HMPr.out.hold (Kp := fun _ => True) (.below hB6) trivial)
        have HO6 := Lib.hid (own_below HO.out hB6)
        have hz6 := hB6.size
        have HB6 := Lib.hid (join HBr.out hB6)
        clear hw6 hB6 k0 k1 k2 k3
        have k0 := blk_cells hxr6 0 _ rfl
        have k1 := blk_cells hxr6 1 _ rfl
        have k2 := blk_cells hxr6 2 _ rfl
        have k3 := blk_cells hxr6 3 _ rfl
        have hs6 : w.heap.size < w6.heap.size := by omega
        by_cases hlt : k < n
        · have hlt' : (k : Int) < n := by omega
          have hre := HRE.out w6 k (by omega)
          have HSUC := Lib.hid (unbrTo_succ may n hk1)
          have HP := Lib.hid (show unbrP may n k = (decide (99 ≤ (greatest may n).getD k 0) || count may n k == 0) from rfl)
          have hcv : cntTo may n 0 (k : Int) = (count may n k : Int) := by unfold cntTo; rw [if_pos ⟨by omega, by omega⟩]; simp
          have HCV := Lib.hid hcv
          generalize (greatest may n).getD k 0 = gk at hre HP
          have HREk := Lib.hid hre
          clear hre hcv
          go_wp2_with (with_reducible refine wpList_load_row rfl 116 _ rfl p rfl 116 BA (0, 0) _ HMr6.out und_marks rfl HI.out ?_)
          refine HREk.out.mono ?_
          rintro e w7 ⟨rfl, hB7⟩
          have HO7 := Lib.hid (own_below HO6.out hB7)
          have HMP7 := Lib.hid (HMP6.out.hold (Kp := fun _ => True) (.below hB7) trivial)
          have hz7 := hB7.size
          have HB7 := Lib.hid (join HB6.out hB7)
          have hlk := HMP7.out.look (k := (k : Int)) (by omega)
          rw [HCV.out] at hlk
          clear hB7 k0 k1 k2 k3 hxr hxr6 HREk
          by_cases hyes : (decide (99 ≤ gk) || count may n k == 0) = true
          · have hun : unbrTo may n (k + 1) = unbrTo may n k ++ [(k : Int)] := by rw [HSUC.out, HP.out, hyes]; rfl
            have HUN := Lib.hid hun
            have hlen2 : (unbrTo may n k).length ≤ 12 := by omega
            generalize hUL : unbrTo may n k = UL at *
            clear hun hUL
            by_cases hg : gk < 99
            · have hgd : decide (gk < 99) = true := by simpa using hg
              have hcz : ((count may n k : Int) == 0) = true := by
                have : decide (99 ≤ gk) = false := by simp; omega
                rw [this] at hyes; simp at hyes; simp [hyes]
              rw [hgd]
              generalize (count may n k : Int) = ck at hlk hcz
              clear hgd hyes
              go_wp2_with (at_builtin; refine wpList_append_own _ rfl _ _ 34 rfl W5.heap.size 3 i0 (.int .i64 0) 1 8 A_undI hi0 hz0 hz1 hz2 rfl (by decide) _ _ _ rfl (HO7.out.alloc _) ⟨w7.heap.size, 0, none⟩ 1 1 [.int .i64 (k : Int)] rfl rfl ?d1 ?d2 ?d3 ?d4 ?d5 ?_)
              case d1 => exact cell_one_new _ _ _
              case d2 => first | rfl | (intro u hu; simp at hu; subst hu; rfl)
              case d3 => unfold maxLen; omega
              case d4 => omega
              case d5 => first | omega | (simp; omega)
              intro v' w8 hown8 hgrow _
              have hB8 := below_grown (al2 HB7.out (by omega) _) (HO7.out.alloc _) (Nat.le_refl _) (by simp; omega) hgrow
              have HO8 := Lib.hid hown8
              have HB8 := Lib.hid hB8
              clear hgrow hown8 hB8 hlk
              go_wp2
              go_roundw
              case rel => exact ⟨k + 1, by omega, by omega, by go_num, by rw [HUN.out]; simpa using HO8.out, HB8.out⟩
              case measure => simp [intOf]; omega
            · have hgd : decide (gk < 99) = false := by simpa using hg
              rw [hgd]
              clear hgd hyes hlk
              go_wp2_with (at_builtin; refine wpList_append_own _ rfl _ _ 34 rfl W5.heap.size 3 i0 (.int .i64 0) 1 8 A_undI hi0 hz0 hz1 hz2 rfl (by decide) _ _ _ rfl (HO7.out.alloc _) ⟨w7.heap.size, 0, none⟩ 1 1 [.int .i64 (k : Int)] rfl rfl ?f1 ?f2 ?f3 ?f4 ?f5 ?_)
              case f1 => exact cell_one_new _ _ _
              case f2 => first | rfl | (intro u hu; simp at hu; subst hu; rfl)
              case f3 => unfold maxLen; omega
              case f4 => omega
              case f5 => first | omega | (simp; omega)
              intro v' w8 hown8 hgrow _
              have hB8 := below_grown (al2 HB7.out (by omega) _) (HO7.out.alloc _) (Nat.le_refl _) (by simp; omega) hgrow
              have HO8 := Lib.hid hown8
              have HB8 := Lib.hid hB8
              clear hgrow hown8 hB8
              go_wp2
              go_roundw
              case rel => exact ⟨k + 1, by omega, by omega, by go_num, by rw [HUN.out]; simpa using HO8.out, HB8.out⟩
              case measure => simp [intOf]; omega
          · have hno : (decide (99 ≤ gk) || count may n k == 0) = false := by simpa using hyes
            have hun : unbrTo may n (k + 1) = unbrTo may n k := by rw [HSUC.out, HP.out, hno]; simp
            have HUN := Lib.hid hun
            have hgd : decide (gk < 99) = true := by
              simp only [Bool.or_eq_false_iff, decide_eq_false_iff_not] at hno; simp; omega
            have hcz : ((count may n k : Int) == 0) = false := by
              simp only [Bool.or_eq_false_iff] at hno
              have := hno.2; simp at this; simp [this]
            rw [hgd]
            generalize (count may n k : Int) = ck at hlk hcz
            clear hgd hyes hno hun
            go_wp2
            go_roundw
            case rel => exact ⟨k + 1, by omega, by omega, by go_num, by rw [HUN.out]; exact HO7.out, HB7.out⟩
            case measure => simp [intOf]; omega
        · obtain rfl : k = n := by omega
          clear k0 k1 k2 k3 hxr hxr6
          go_wp2
          go_ret2
          have hz55 := HB5.out.size
          exact ⟨_, by rw [HUB.out, if_neg HC.out]; rfl, by rw [HUB.out, if_neg HC.out]; exact own_base HO6.out hz55, HB5.out.trans (HB6.out.mono hz55)⟩

/-- what Never tells -/
def nevL (t : Text) : List Int := if t.err = 0 then (Tx.unbroken t.right t.words.length).1 else []
def nevE (t : Text) : Int := if t.err = 0 then (Tx.unbroken t.right t.words.length).2 else t.err

set_option maxHeartbeats 800000 in
theorem Never_any (t : Text) (hl1 : t.words.length ≤ 1000000) (hl2 : t.turns.length ≤ 1000000) (pw pt : Option Addr) (cw ct : Nat) (hcw : t.words.length ≤ cw ∧ cw ≤ maxLen) (w : World) (hW : TxAt w t pw pt) :
    Calls Tryz.prog 35 #[.agg #[.slice pw t.words.length cw, .slice pt t.turns.length ct, .int .i64 t.breath]] w (ListPost (nevL t) (nevE t) w) := by
  by_cases he : t.err = 0
  · have ok := err_ok he
    have h1 : nevL t = (Tx.unbroken t.right t.words.length).1 := if_pos he
    have h2 : nevE t = (Tx.unbroken t.right t.words.length).2 := if_pos he
    rw [h1, h2]
    have HS := Lib.hid (fun W (h : Below w.heap.size w W) => open_ok t he pw pt cw ct W (hW.below h))
    have HF := Lib.hid (fun W (h : Below w.heap.size w W) => unbroken_any t.right t.words.length cw ok.n1 ok.n12 pw (.slice pt t.turns.length ct) (.int .i64 t.breath) _ W (right_may t pw pt cw ct .nilFunc W ⟨ok, hW.below h, hcw⟩))
    clear hW he h1 h2 ok
    go_enter Tryz.func35, Tryz.ntmps35
    go_wp2_with fail
    refine (HS.out _ (below1 _ _)).mono ?_
    rintro e w5 ⟨rfl, hB5⟩
    have HB5 := Lib.hid (join (below1 _ _) hB5)
    clear hB5
    go_wp2_with fail
    refine (HF.out _ (join HB5.out (below1 _ _))).mono ?_
    rintro e w6 ⟨v, rfl, hown, hB6⟩
    have HO := Lib.hid hown
    have HB6 := Lib.hid hB6
    clear hown hB6
    go_wp2
    go_ret2
    have hz := HB5.out.size
    exact ⟨_, rfl, own_base HO.out (by simp; omega), join (join HB5.out (below1 _ _)) HB6.out⟩
  · have h1 : nevL t = [] := if_neg he
    have h2 : nevE t = t.err := if_neg he
    rw [h1, h2]
    have HS := Lib.hid (fun W (h : Below w.heap.size w W) => open_bad t he hl1 hl2 pw pt cw ct W (hW.below h))
    have HE : (t.err != 0) = true := by simpa using he
    clear hW he h1 h2
    generalize t.err = er at HE HS ⊢
    go_enter Tryz.func35, Tryz.ntmps35
    go_wp2_with fail
    refine (HS.out _ (below1 _ _)).mono ?_
    rintro e w5 ⟨rfl, hB5⟩
    have HB5 := Lib.hid (join (below1 _ _) hB5)
    clear hB5
    go_wp2
    go_ret2
    exact ⟨_, rfl, own_none _ _ _ _, join HB5.out (below1 _ _)⟩

/-- what Count tells -/
def cntN (t : Text) : Int := if t.err = 0 then (Tx.count t.right t.words.length 0 : Int) else 0
set_option maxHeartbeats 800000 in
set_option maxRecDepth 100000 in
theorem Count_any (t : Text) (hl1 : t.words.length ≤ 1000000) (hl2 : t.turns.length ≤ 1000000) (pw pt : Option Addr) (cw ct : Nat) (hcw : t.words.length ≤ cw ∧ cw ≤ maxLen) (w : World) (hW : TxAt w t pw pt) :
    Calls Tryz.prog 34 #[.agg #[.slice pw t.words.length cw, .slice pt t.turns.length ct, .int .i64 t.breath]] w fun e w' => e = .returned (.tuple #[.int .i64 (cntN t), .int .i64 t.err]) ∧ Below w.heap.size w w' := by
  by_cases he : t.err = 0
  · have ok := err_ok he
    have h1 : cntN t = (Tx.count t.right t.words.length 0 : Int) := if_pos he
    have hc0 : cntTo t.right t.words.length 0 0 = (Tx.count t.right t.words.length 0 : Int) := by unfold cntTo; rw [if_pos ⟨by omega, by omega⟩]; rfl
    rw [h1, he]
    have HS := Lib.hid (fun W (h : Below w.heap.size w W) => open_ok t he pw pt cw ct W (hW.below h))
    have HF := Lib.hid (fun W (h : Below w.heap.size w W) => readings_any t.right t.words.length cw ok.n1 ok.n12 pw (.slice pt t.turns.length ct) (.int .i64 t.breath) _ W (right_may t pw pt cw ct .nilFunc W ⟨ok, hW.below h, hcw⟩))
    have HC0 := Lib.hid hc0
    clear hW he h1 ok hc0
    go_enter Tryz.func34, Tryz.ntmps34
    go_wp2_with fail
    refine (HS.out _ (below1 _ _)).mono ?_
    rintro e w5 ⟨rfl, hB5⟩
    have HB5 := Lib.hid (join (below1 _ _) hB5)
    clear hB5
    go_wp2_with fail
    refine (HF.out _ (join HB5.out (below1 _ _))).mono ?_
    rintro e w6 ⟨rfl, ⟨N, _, hmp⟩, hB6⟩
    have HB6 := Lib.hid hB6
    have hlk := hmp.look (k := 0) (by omega)
    rw [HC0.out, World.size_alloc] at hlk
    clear hB6 hmp
    obtain ⟨cv, hcv⟩ : ∃ cv, cv = (Tx.count t.right t.words.length 0 : Int) := ⟨_, rfl⟩
    rw [← hcv] at hlk
    have HCV := Lib.hid hcv
    clear hcv
    go_wp2
    go_ret2
    exact ⟨by rw [← HCV.out]; rfl, join (join HB5.out (below1 _ _)) HB6.out⟩
  · have h1 : cntN t = 0 := if_neg he
    rw [h1]
    have HS := Lib.hid (fun W (h : Below w.heap.size w W) => open_bad t he hl1 hl2 pw pt cw ct W (hW.below h))
    have HE : (t.err != 0) = true := by simpa using he
    clear hW he h1
    generalize t.err = er at HE HS ⊢
    go_enter Tryz.func34, Tryz.ntmps34
    go_wp2_with fail
    refine (HS.out _ (below1 _ _)).mono ?_
    rintro e w5 ⟨rfl, hB5⟩
    have HB5 := Lib.hid (join (below1 _ _) hB5)
    clear hB5
    go_wp2
    go_ret2
    exact ⟨rfl, join HB5.out (below1 _ _)⟩
end Go.Proofs.YtadnggecnjdhiaaGreat
set_option linter.unusedSimpArgs false
set_option linter.unusedVariables false
namespace Go.Proofs.YtadnggecnjdhiaaGreat
open Go.RowKit Tx
attribute [local go_sem] Oper.semAt_some

theorem ints_lit (W : World) (xs : List Int) (T : TypeId) (cs : Array Value) (hcs : cs = (xs.map (Value.int .i64)).toArray) : Ints (W.alloc (.cells cs T)) (some ⟨W.heap.size, 0, none⟩) xs := by
  refine .inr ⟨_, 0, rfl, by simp, fun i hi => ?_⟩
  rw [Nat.zero_add]
  exact blk_cells (heap_last W _) i _ (by subst hcs; simp [hi])
theorem gate_few (g u : Nat) (W : World) (h : TxAt W (gateT 5) (some ⟨g, 0, none⟩) (some ⟨u, 0, none⟩)) :
    Calls Tryz.prog 29 #[.agg #[.slice (some ⟨g, 0, none⟩) 8 8, .slice (some ⟨u, 0, none⟩) 1 1, .int .i64 5]] W fun e w' => ∃ p c, e = .returned (.tuple #[.slice p 3 c, .int .i64 0]) ∧ Ints w' p [2, 4, 2] ∧ Below W.heap.size W w' := by
  have e1 : fewL (gateT 5) = [2, 4, 2] := by kernel_rfl
  have e2 : fewE (gateT 5) = 0 := by kernel_rfl
  have hc := Fewest_any (gateT 5) (by decide) (by decide) (some ⟨g, 0, none⟩) (some ⟨u, 0, none⟩) 8 1 ⟨by decide, by decide⟩ W h
  rw [e1, e2] at hc
  refine hc.mono ?_
  rintro e w' ⟨v, rfl, hown, hb⟩
  obtain ⟨p, c, rfl, hI, -⟩ := own_rd hown rfl
  exact ⟨p, c, rfl, hI, hb⟩
theorem gate_never (g u : Nat) (W : World) (h : TxAt W (gateT 5) (some ⟨g, 0, none⟩) (some ⟨u, 0, none⟩)) :
    Calls Tryz.prog 35 #[.agg #[.slice (some ⟨g, 0, none⟩) 8 8, .slice (some ⟨u, 0, none⟩) 1 1, .int .i64 5]] W fun e w' => ∃ p c, e = .returned (.tuple #[.slice p 5 c, .int .i64 0]) ∧ Ints w' p [1, 3, 4, 5, 7] ∧ Below W.heap.size W w' := by
  have e1 : nevL (gateT 5) = [1, 3, 4, 5, 7] := by kernel_rfl
  have e2 : nevE (gateT 5) = 0 := by kernel_rfl
  have hc := Never_any (gateT 5) (by decide) (by decide) (some ⟨g, 0, none⟩) (some ⟨u, 0, none⟩) 8 1 ⟨by decide, by decide⟩ W h
  rw [e1, e2] at hc
  refine hc.mono ?_
  rintro e w' ⟨v, rfl, hown, hb⟩
  obtain ⟨p, c, rfl, hI, -⟩ := own_rd hown rfl
  exact ⟨p, c, rfl, hI, hb⟩
theorem gate_least (g u : Nat) (W : World) (h : TxAt W (gateT 5) (some ⟨g, 0, none⟩) (some ⟨u, 0, none⟩)) :
    Calls Tryz.prog 31 #[.agg #[.slice (some ⟨g, 0, none⟩) 8 8, .slice (some ⟨u, 0, none⟩) 1 1, .int .i64 5], .int .i64 7] W fun e w' => ∃ p c, e = .returned (.tuple #[.slice p 2 c, .int .i64 0]) ∧ Ints w' p [1, 3] ∧ Below W.heap.size W w' := by
  have e1 : leaL (gateT 5) 7 = [1, 3] := by kernel_rfl
  have e2 : leaE (gateT 5) 7 = 0 := by kernel_rfl
  have hc := Least_any (gateT 5) 7 (by decide) (by decide) (some ⟨g, 0, none⟩) (some ⟨u, 0, none⟩) 8 1 ⟨by decide, by decide⟩ W h
  rw [e1, e2] at hc
  refine hc.mono ?_
  rintro e w' ⟨v, rfl, hown, hb⟩
  obtain ⟨p, c, rfl, hI, -⟩ := own_rd hown rfl
  exact ⟨p, c, rfl, hI, hb⟩
theorem gate_count (g u : Nat) (W : World) (h : TxAt W (gateT 5) (some ⟨g, 0, none⟩) (some ⟨u, 0, none⟩)) :
    Calls Tryz.prog 34 #[.agg #[.slice (some ⟨g, 0, none⟩) 8 8, .slice (some ⟨u, 0, none⟩) 1 1, .int .i64 5]] W fun e w' => e = .returned (.tuple #[.int .i64 1, .int .i64 0]) ∧ Below W.heap.size W w' := by
  have e1 : cntN (gateT 5) = 1 := by kernel_rfl
  have e2 : (gateT 5).err = 0 := by kernel_rfl
  have hc := Count_any (gateT 5) (by decide) (by decide) (some ⟨g, 0, none⟩) (some ⟨u, 0, none⟩) 8 1 ⟨by decide, by decide⟩ W h
  rw [e1, e2] at hc
  exact hc
theorem gate_wrong (g u : Nat) (p : Option Addr) (W : World) (h : TxAt W (gateT 5) (some ⟨g, 0, none⟩) (some ⟨u, 0, none⟩)) (hL : Ints W p [4, 4]) :
    Calls Tryz.prog 36 #[.agg #[.slice (some ⟨g, 0, none⟩) 8 8, .slice (some ⟨u, 0, none⟩) 1 1, .int .i64 5], .slice p 2 2] W fun e w' => e = .returned (.tuple #[.int .i64 1, .int .i64 2, .int .i64 0]) ∧ Below W.heap.size W w' := by
  have e1 : wrongGo (gateT 5) 0 0 [4, 4] = (1, 2, 0) := by kernel_rfl
  have hc := Wrong_ok (gateT 5) [4, 4] (by kernel_rfl) (by decide) (some ⟨g, 0, none⟩) (some ⟨u, 0, none⟩) p 8 1 2 ⟨by decide, by decide⟩ W h hL
  rw [e1] at hc
  exact hc
theorem gate_astray7 (g u : Nat) (p : Option Addr) (W : World) (h : TxAt W (gateT 7) (some ⟨g, 0, none⟩) (some ⟨u, 0, none⟩)) (hL : Ints W p [4, 2, 2]) :
    Calls Tryz.prog 37 #[.agg #[.slice (some ⟨g, 0, none⟩) 8 8, .slice (some ⟨u, 0, none⟩) 1 1, .int .i64 5], .slice p 3 3] W fun e w' => e = .returned (.tuple #[.int .i64 0, .agg #[.int .i64 1, .int .i64 2], .int .i64 0]) ∧ Below W.heap.size W w' := by
  have e1 : astrayGo (placesL [4, 2, 2]) 0 (gateT 7).turns = (0, 1, 2, 0) := by kernel_rfl
  have hc := Astray_in (gateT 7) [4, 2, 2] (by kernel_rfl) (by kernel_rfl) (by decide) (some ⟨g, 0, none⟩) (some ⟨u, 0, none⟩) p 8 1 3 ⟨by decide, by decide⟩ W h hL
  rw [e1] at hc
  exact hc
theorem gate_astray5 (g u : Nat) (p : Option Addr) (W : World) (h : TxAt W (gateT 5) (some ⟨g, 0, none⟩) (some ⟨u, 0, none⟩)) (hL : Ints W p [2, 4, 2]) :
    Calls Tryz.prog 37 #[.agg #[.slice (some ⟨g, 0, none⟩) 8 8, .slice (some ⟨u, 0, none⟩) 1 1, .int .i64 5], .slice p 3 3] W fun e w' => e = .returned (.tuple #[.int .i64 0, .agg #[.int .i64 0, .int .i64 0], .int .i64 6]) ∧ Below W.heap.size W w' := by
  have e1 : astrayGo (placesL [2, 4, 2]) 0 (gateT 5).turns = (0, 0, 0, 6) := by kernel_rfl
  have hc := Astray_in (gateT 5) [2, 4, 2] (by kernel_rfl) (by kernel_rfl) (by decide) (some ⟨g, 0, none⟩) (some ⟨u, 0, none⟩) p 8 1 3 ⟨by decide, by decide⟩ W h hL
  rw [e1] at hc
  exact hc
theorem gate_shows (g u : Nat) (p : Option Addr) (W : World) (h : TxAt W (gateT 5) (some ⟨g, 0, none⟩) (some ⟨u, 0, none⟩)) (hL : Ints W p [0, 1, 1, 1, 1, 1, 2, 2, 3]) :
    Calls Tryz.prog 38 #[.agg #[.slice (some ⟨g, 0, none⟩) 8 8, .slice (some ⟨u, 0, none⟩) 1 1, .int .i64 5], .slice p 9 9] W fun e w' => e = .returned (.tuple #[.int .i64 3, .int .i64 0]) ∧ Below W.heap.size W w' := by
  have e1 : shows (gateT 5) [0, 1, 1, 1, 1, 1, 2, 2, 3] = (3, 0) := by kernel_rfl
  have hc := Shows_in (gateT 5) [0, 1, 1, 1, 1, 1, 2, 2, 3] (by kernel_rfl) (by decide) (by decide) (some ⟨g, 0, none⟩) (some ⟨u, 0, none⟩) p 8 1 9 ⟨by decide, by decide⟩ W h hL
  rw [e1] at hc
  exact hc
set_option maxHeartbeats 4000000 in
set_option maxRecDepth 100000 in
theorem awake_any (w : World) : Calls Tryz.prog 6 #[] w fun e w' => e = .returned (.bool true) ∧ Below w.heap.size w w' := by
  go_enter Tryz.func6, Tryz.ntmps6
  go_wp2_with fail
  refine (Gate_any 5 _).mono ?_
  rintro e w1 ⟨g1, u1, rfl, hT1, hB1⟩
  have HT1 := Lib.hid hT1
  have HB1 := Lib.hid hB1
  clear hT1 hB1
  go_wp2_with fail
  refine (gate_few _ _ _ HT1.out).mono ?_
  rintro e w2 ⟨p1, c1, rfl, hI1, hB2⟩
  have HI1 := Lib.hid hI1
  have HB2 := Lib.hid hB2
  clear hI1 hB2
  go_wp2_with fail
  refine (Gate_any 5 _).mono ?_
  rintro e w3 ⟨g3, u3, rfl, hT3, hB3⟩
  have HT3 := Lib.hid hT3
  have HB3 := Lib.hid hB3
  clear hT3 hB3
  go_wp2_with fail
  refine (gate_count _ _ _ HT3.out).mono ?_
  rintro e w4 ⟨rfl, hB4⟩
  have HB4 := Lib.hid hB4
  clear hB4
  go_wp2_with fail
  refine (Gate_any 5 _).mono ?_
  rintro e w5 ⟨g5, u5, rfl, hT5, hB5⟩
  have HT5 := Lib.hid hT5
  have HB5 := Lib.hid hB5
  clear hT5 hB5
  go_wp2_with fail
  refine (gate_never _ _ _ HT5.out).mono ?_
  rintro e w6 ⟨p2, c2, rfl, hI2, hB6⟩
  have HI2 := Lib.hid hI2
  have HB6 := Lib.hid hB6
  clear hI2 hB6
  go_wp2_with fail
  refine (Gate_any 5 _).mono ?_
  rintro e w7 ⟨g7, u7, rfl, hT7, hB7⟩
  have HT7 := Lib.hid hT7
  have HB7 := Lib.hid hB7
  clear hT7 hB7
  go_wp2_with fail
  refine (gate_least _ _ _ HT7.out).mono ?_
  rintro e w8 ⟨p3, c3, rfl, hI3, hB8⟩
  have HI3 := Lib.hid hI3
  have HB8 := Lib.hid hB8
  clear hI3 hB8
  go_wp2_with fail
  refine (Like_ints _ _ _ 3 [2, 4, 2] [2, 4, 2] true (by decide) _ (by decide) (by decide) (HI1.out.below (join (join (join (join (join (join (HB3.out) HB4.out) HB5.out) HB6.out) HB7.out) HB8.out) (below1 _ _))) (ints_lit _ _ _ _ rfl)).mono ?_
  rintro e w9 ⟨rfl, hB9⟩
  have HB9 := Lib.hid (join (below1 w8 (.cells #[.int .i64 2, .int .i64 4, .int .i64 2] 3)) hB9)
  clear hB9
  go_wp2_with fail
  refine (Like_ints _ _ _ 5 [1, 3, 4, 5, 7] [1, 3, 4, 5, 7] true (by decide) _ (by decide) (by decide) (HI2.out.below (join (join (join (HB7.out) HB8.out) HB9.out) (below1 _ _))) (ints_lit _ _ _ _ rfl)).mono ?_
  rintro e w10 ⟨rfl, hB10⟩
  have HB10 := Lib.hid (join (below1 w9 (.cells #[.int .i64 1, .int .i64 3, .int .i64 4, .int .i64 5, .int .i64 7] 3)) hB10)
  clear hB10
  go_wp2_with fail
  refine (Like_ints _ _ _ 2 [1, 3] [1, 3] true (by decide) _ (by decide) (by decide) (HI3.out.below (join (join (HB9.out) HB10.out) (below1 _ _))) (ints_lit _ _ _ _ rfl)).mono ?_
  rintro e w11 ⟨rfl, hB11⟩
  have HB11 := Lib.hid (join (below1 w10 (.cells #[.int .i64 1, .int .i64 3] 3)) hB11)
  clear hB11
  clear HI1 HI2 HI3
  go_wp2_with fail
  refine (Gate_any 5 _).mono ?_
  rintro e w12 ⟨g12, u12, rfl, hT12, hB12⟩
  have HT12 := Lib.hid hT12
  have HB12 := Lib.hid hB12
  clear hT12 hB12
  go_wp2_with fail
  refine (gate_wrong _ _ _ _ (HT12.out.below (below1 _ _)) (ints_lit _ [4, 4] _ _ rfl)).mono ?_
  rintro e w13 ⟨rfl, hB13⟩
  have HB13 := Lib.hid (join (below1 w12 (.cells #[.int .i64 4, .int .i64 4] 3)) hB13)
  clear hB13
  go_wp2_with fail
  refine (Gate_any 7 _).mono ?_
  rintro e w14 ⟨g14, u14, rfl, hT14, hB14⟩
  have HT14 := Lib.hid hT14
  have HB14 := Lib.hid hB14
  clear hT14 hB14
  go_wp2_with fail
  refine (gate_astray7 _ _ _ _ (HT14.out.below (below1 _ _)) (ints_lit _ [4, 2, 2] _ _ rfl)).mono ?_
  rintro e w15 ⟨rfl, hB15⟩
  have HB15 := Lib.hid (join (below1 w14 (.cells #[.int .i64 4, .int .i64 2, .int .i64 2] 3)) hB15)
  clear hB15
  go_wp2_with fail
  refine (Gate_any 5 _).mono ?_
  rintro e w16 ⟨g16, u16, rfl, hT16, hB16⟩
  have HT16 := Lib.hid hT16
  have HB16 := Lib.hid hB16
  clear hT16 hB16
  go_wp2_with fail
  refine (gate_shows _ _ _ _ (HT16.out.below (below1 _ _)) (ints_lit _ [0, 1, 1, 1, 1, 1, 2, 2, 3] _ _ rfl)).mono ?_
  rintro e w17 ⟨rfl, hB17⟩
  have HB17 := Lib.hid (join (below1 w16 (.cells #[.int .i64 0, .int .i64 1, .int .i64 1, .int .i64 1, .int .i64 1, .int .i64 1, .int .i64 2, .int .i64 2, .int .i64 3] 3)) hB17)
  clear hB17
  go_wp2_with fail
  refine (Gate_any 5 _).mono ?_
  rintro e w18 ⟨g18, u18, rfl, hT18, hB18⟩
  have HT18 := Lib.hid hT18
  have HB18 := Lib.hid hB18
  clear hT18 hB18
  go_wp2_with fail
  refine (gate_astray5 _ _ _ _ (HT18.out.below (below1 _ _)) (ints_lit _ [2, 4, 2] _ _ rfl)).mono ?_
  rintro e w19 ⟨rfl, hB19⟩
  have HB19 := Lib.hid (join (below1 w18 (.cells #[.int .i64 2, .int .i64 4, .int .i64 2] 3)) hB19)
  clear hB19
  have hbx := ((join (join (join HB16.out HB17.out) HB18.out) HB19.out).block w15.heap.size (by simp)).trans (heap_last w15 (.cells #[.int .i64 1, .int .i64 2] 58))
  have y0 := blk_cells hbx 0 _ rfl
  have y1 := blk_cells hbx 1 _ rfl
  clear hbx
  go_wp2
  go_ret
  exact ⟨rfl, join (join (join (join (join (join (join (join (join (join (join (join (join (join (join (join (join (join (join (HB1.out) HB2.out) HB3.out) HB4.out) HB5.out) HB6.out) HB7.out) HB8.out) HB9.out) HB10.out) HB11.out) HB12.out) HB13.out) HB14.out) HB15.out) (below1 _ _)) HB16.out) HB17.out) HB18.out) HB19.out⟩
end Go.Proofs.YtadnggecnjdhiaaGreat
set_option linter.unusedSimpArgs false
set_option linter.unusedVariables false
namespace Go.Proofs.YtadnggecnjdhiaaGreat
open Go.RowKit Tx

theorem own_box {W : World} {B c : Nat} {e ty : TypeId} {size : Nat} {v : Value} {n : Nat} {xs : List Value} {cs : Array Value} (hc : W.heap[c]? = some (.cells cs ty (0, 0))) (hT : ty ≠ e) (h : W.ownsRow B e size v n xs) (o : Nat) (x : Value) : (W.setCell ⟨c, o, none⟩ x).ownsRow B e size v n xs := by
  refine h.kept (grown_set W c o x) ?_
  rcases h.2 with ⟨h1, _⟩ | ⟨g, cap, cur, h1, _, hg, _⟩
  · exact .inl (by rw [h1]; rfl)
  · right; rw [h1]; show some g ≠ some c; intro e2; injection e2 with e2
    rw [e2, hc] at hg; injection hg with hg; injection hg with _ hg; exact hT hg
/-- the world behind the two stores of a law's texts -/
def lwSet (w : World) (c7 c8 : Nat) (a0 a1 a2 b0 b1 b2 : Value) : World := (((((w.setCell ⟨c7, 0, none⟩ a0).setCell ⟨c7, 1, none⟩ a1).setCell ⟨c7, 2, none⟩ a2).setCell ⟨c8, 0, none⟩ b0).setCell ⟨c8, 1, none⟩ b1).setCell ⟨c8, 2, none⟩ b2
theorem own_lwSet {w : World} {B c7 c8 : Nat} {e t7 t8 : TypeId} {size : Nat} {v : Value} {n : Nat} {xs : List Value} {cs7 cs8 : Array Value} (h7 : w.heap[c7]? = some (.cells cs7 t7 (0, 0))) (h8 : w.heap[c8]? = some (.cells cs8 t8 (0, 0))) (hne : c7 ≠ c8) (n7 : t7 ≠ e) (n8 : t8 ≠ e) (a0 a1 a2 b0 b1 b2 : Value) (h : w.ownsRow B e size v n xs) :
    (lwSet w c7 c8 a0 a1 a2 b0 b1 b2).ownsRow B e size v n xs := by
  have g1 := heap_set_same (o := 0) a0 h7
  have g2 := heap_set_same (o := 1) a1 g1
  have g3 := heap_set_same (o := 2) a2 g2
  have k1 := (Below.heap_setCell w ⟨c7, 0, none⟩ a0 c8 (Ne.symm hne)).trans h8
  have k2 := (Below.heap_setCell _ ⟨c7, 1, none⟩ a1 c8 (Ne.symm hne)).trans k1
  have k3 := (Below.heap_setCell _ ⟨c7, 2, none⟩ a2 c8 (Ne.symm hne)).trans k2
  have k4 := heap_set_same (o := 0) b0 k3
  have k5 := heap_set_same (o := 1) b1 k4
  exact own_box k5 n8 (own_box k4 n8 (own_box k3 n8 (own_box g2 n7 (own_box g1 n7 (own_box h7 n7 h 0 a0) 1 a1) 2 a2) 0 b0) 1 b1) 2 b2
theorem lwSet_other {w : World} {c7 c8 k : Nat} (h7 : k ≠ c7) (h8 : k ≠ c8) (a0 a1 a2 b0 b1 b2 : Value) : (lwSet w c7 c8 a0 a1 a2 b0 b1 b2).heap[k]? = w.heap[k]? := by
  unfold lwSet
  rw [Below.heap_setCell _ _ _ _ h8, Below.heap_setCell _ _ _ _ h8, Below.heap_setCell _ _ _ _ h8, Below.heap_setCell _ _ _ _ h7, Below.heap_setCell _ _ _ _ h7, Below.heap_setCell _ _ _ _ h7]
theorem lwSet_7 {w : World} {c7 c8 : Nat} {t7 : TypeId} (hne : c7 ≠ c8) {z0 z1 z2 : Value} (h7 : w.heap[c7]? = some (.cells #[z0, z1, z2] t7 (0, 0))) (a0 a1 a2 b0 b1 b2 : Value) : (lwSet w c7 c8 a0 a1 a2 b0 b1 b2).heap[c7]? = some (.cells #[a0, a1, a2] t7 (0, 0)) := by
  unfold lwSet
  rw [Below.heap_setCell _ _ _ _ hne, Below.heap_setCell _ _ _ _ hne, Below.heap_setCell _ _ _ _ hne]
  exact heap_set_same _ (heap_set_same _ (heap_set_same _ h7))
theorem lwSet_8 {w : World} {c7 c8 : Nat} {t8 : TypeId} (hne : c7 ≠ c8) {z0 z1 z2 : Value} (h8 : w.heap[c8]? = some (.cells #[z0, z1, z2] t8 (0, 0))) (a0 a1 a2 b0 b1 b2 : Value) : (lwSet w c7 c8 a0 a1 a2 b0 b1 b2).heap[c8]? = some (.cells #[b0, b1, b2] t8 (0, 0)) := by
  unfold lwSet
  have h : (((w.setCell ⟨c7, 0, none⟩ a0).setCell ⟨c7, 1, none⟩ a1).setCell ⟨c7, 2, none⟩ a2).heap[c8]? = some (.cells #[z0, z1, z2] t8 (0, 0)) := by
    rw [Below.heap_setCell _ _ _ _ (Ne.symm hne), Below.heap_setCell _ _ _ _ (Ne.symm hne), Below.heap_setCell _ _ _ _ (Ne.symm hne)]; exact h8
  exact heap_set_same _ (heap_set_same _ (heap_set_same _ h))
theorem lwSet_bel {B : Nat} {a w : World} {c7 c8 : Nat} (h : Below B a w) (h7 : B ≤ c7) (h8 : B ≤ c8) (a0 a1 a2 b0 b1 b2 : Value) : Below B a (lwSet w c7 c8 a0 a1 a2 b0 b1 b2) := by
  unfold lwSet; exact belS (belS (belS (belS (belS (belS h h7) h7) h7) h8) h8) h8
/-- a law's texts -/
structure LwT (t : Text) (A c7 c8 : Nat) (pw pt p7 q7 p8 q8 : Option Addr) (cw ct a7 b7 a8 b8 : Nat) (W : World) : Prop where
  prm : W.heap[A]? = some (.cells #[.slice pw t.words.length cw, .slice pt t.turns.length ct, .int .i64 t.breath] 25 (0, 0))
  x7 : W.heap[c7]? = some (.cells #[.slice p7 t.words.length a7, .slice q7 t.turns.length b7, .int .i64 t.breath] 25 (0, 0))
  x8 : W.heap[c8]? = some (.cells #[.slice p8 t.words.length a8, .slice q8 t.turns.length b8, .int .i64 t.breath] 32 (0, 0))
  r0 : TxAt W t pw pt
  r7 : TxAt W t p7 q7
  r8 : TxAt W t p8 q8
theorem LwT.below {t : Text} {A c7 c8 : Nat} {pw pt p7 q7 p8 q8 : Option Addr} {cw ct a7 b7 a8 b8 : Nat} {W W' : World} (h : LwT t A c7 c8 pw pt p7 q7 p8 q8 cw ct a7 b7 a8 b8 W) (hb : Below W.heap.size W W') : LwT t A c7 c8 pw pt p7 q7 p8 q8 cw ct a7 b7 a8 b8 W' :=
  ⟨(hb.block _ (Array.getElem?_eq_some_iff.1 h.prm).1).trans h.prm, (hb.block _ (Array.getElem?_eq_some_iff.1 h.x7).1).trans h.x7, (hb.block _ (Array.getElem?_eq_some_iff.1 h.x8).1).trans h.x8, h.r0.below hb, h.r7.below hb, h.r8.below hb⟩
theorem LwT.start {t : Text} {A c7 c8 B : Nat} {pw pt p7 q7 p8 q8 : Option Addr} {cw ct a7 b7 a8 b8 : Nat} {w w' : World} (hA : w'.heap[A]? = some (.cells #[.slice pw t.words.length cw, .slice pt t.turns.length ct, .int .i64 t.breath] 25 (0, 0))) (hA7 : A ≠ c7) (hA8 : A ≠ c8)
    (x7 : w'.heap[c7]? = some (.cells #[.slice none 0 0, .slice none 0 0, .int .i64 0] 25 (0, 0))) (x8 : w'.heap[c8]? = some (.cells #[.slice none 0 0, .slice none 0 0, .int .i64 0] 32 (0, 0)))
    (o1 : w'.ownsRow B 61 3 (.slice p7 t.words.length a7) t.words.length (wcells t.words)) (o2 : w'.ownsRow B 63 3 (.slice q7 t.turns.length b7) t.turns.length (tcells t.turns))
    (o3 : w'.ownsRow B 80 3 (.slice p8 t.words.length a8) t.words.length (wcells t.words)) (o4 : w'.ownsRow B 81 3 (.slice q8 t.turns.length b8) t.turns.length (tcells t.turns))
    (hT : TxAt w t pw pt) (hB : Below w.heap.size w w') (h7 : w.heap.size ≤ c7) (h8 : w.heap.size ≤ c8) :
    LwT t A c7 c8 pw pt p7 q7 p8 q8 cw ct a7 b7 a8 b8 (lwSet w' c7 c8 (.slice p7 t.words.length a7) (.slice q7 t.turns.length b7) (.int .i64 t.breath) (.slice p8 t.words.length a8) (.slice q8 t.turns.length b8) (.int .i64 t.breath)) := by
  have hne : c7 ≠ c8 := fun e => by rw [e, x8] at x7; injection x7 with h; injection h with _ h; cases h
  have e1 := own_lwSet x7 x8 hne (by decide) (by decide) (.slice p7 t.words.length a7) (.slice q7 t.turns.length b7) (.int .i64 t.breath) (.slice p8 t.words.length a8) (.slice q8 t.turns.length b8) (.int .i64 t.breath) o1
  have e2 := own_lwSet x7 x8 hne (by decide) (by decide) (.slice p7 t.words.length a7) (.slice q7 t.turns.length b7) (.int .i64 t.breath) (.slice p8 t.words.length a8) (.slice q8 t.turns.length b8) (.int .i64 t.breath) o2
  have e3 := own_lwSet x7 x8 hne (by decide) (by decide) (.slice p7 t.words.length a7) (.slice q7 t.turns.length b7) (.int .i64 t.breath) (.slice p8 t.words.length a8) (.slice q8 t.turns.length b8) (.int .i64 t.breath) o3
  have e4 := own_lwSet x7 x8 hne (by decide) (by decide) (.slice p7 t.words.length a7) (.slice q7 t.turns.length b7) (.int .i64 t.breath) (.slice p8 t.words.length a8) (.slice q8 t.turns.length b8) (.int .i64 t.breath) o4
  obtain ⟨_, _, f1, g1, -⟩ := own_wds e1 rfl
  obtain ⟨_, _, f2, g2, -⟩ := own_tns e2 rfl
  obtain ⟨_, _, f3, g3, -⟩ := own_wds e3 rfl
  obtain ⟨_, _, f4, g4, -⟩ := own_tns e4 rfl
  injection f1 with f1; subst f1
  injection f2 with f2; subst f2
  injection f3 with f3; subst f3
  injection f4 with f4; subst f4
  exact ⟨(lwSet_other hA7 hA8 _ _ _ _ _ _).trans hA, lwSet_7 hne x7 _ _ _ _ _ _, lwSet_8 hne x8 _ _ _ _ _ _, hT.below (lwSet_bel hB h7 h8 _ _ _ _ _ _), ⟨g1, g2⟩, ⟨g3, g4⟩⟩
theorem calls_named {P : Program} {f : FuncId} {args : Array Value} {w : World} {R : Ending → World → Prop} (h : ∀ W, W = w → Calls P f args W R) : Calls P f args w R := h w rfl
theorem great_no {t : Text} {n : Int} (h : greatB t n = false) : t.words.length ≤ 20 ∧ t.turns.length ≤ 20 := by
  unfold greatB at h
  simp only [Bool.or_eq_false_iff, decide_eq_false_iff_not] at h
  omega
theorem say_len (t : Text) (lo hi : Int) : (sayL t lo hi).length ≤ t.turns.length := by
  unfold sayL
  split
  · unfold Text.said; rw [idx_length]; exact List.countP_le_length
  · simp
end Go.Proofs.YtadnggecnjdhiaaGreat
