/- Contracts of the code and of the laws, further part. -/
import Derived.Test.YtadnggecnjdhiaaZk
set_option linter.unusedSimpArgs false
set_option linter.unusedVariables false
namespace Go.Proofs.Ytadnggecnjdhiaa
open Go.RowKit Tx
attribute [local go_sem] Oper.semAt_some

/-- a text that is being made -/
structure MdT (w : World) (bl : Nat) (ma : Option Addr) (n mc R : Nat) (br : Int) (ws : List Word) (ts : List Turn) (v u : Value) (W : World) : Prop where
  res : W.heap[w.heap.size]? = some (.cells #[.slice none 0 0, .slice none 0 0, .int .i64 0] 25 (0, 0))
  box : W.heap[R]? = some (.cells #[v, u, .int .i64 br] 25 (0, 0))
  ow : W.ownsRow (R + 1) 77 3 v ws.length (wcells ws)
  ou : W.ownsRow (R + 1) 80 3 u ts.length (tcells ts)
  bell : BellOk W bl ma n mc
  hold : Hold (fun k => k ≠ bl) w W
  lt : w.heap.size < R
  blt : bl < w.heap.size
  mlt : n ≠ 0 → ∀ mb mo, ma = some ⟨mb, mo, none⟩ → mb < w.heap.size
theorem MdT.siz {w : World} {bl : Nat} {ma : Option Addr} {n mc R : Nat} {br : Int} {ws : List Word} {ts : List Turn} {v u : Value} {W : World} (h : MdT w bl ma n mc R br ws ts v u W) : R < W.heap.size := (Array.getElem?_eq_some_iff.1 h.box).1
theorem MdT.gb {w : World} {bl : Nat} {ma : Option Addr} {n mc R : Nat} {br : Int} {ws : List Word} {ts : List Turn} {v u : Value} {W W' : World} (h : MdT w bl ma n mc R br ws ts v u W) (g : GB bl ma n mc W W') : MdT w bl ma n mc R br ws ts v u W' := by
  have hlt := h.lt
  have hblt := h.blt
  have hs := h.siz
  exact ⟨(g.1.same _ (show w.heap.size ≠ bl by omega) (by omega)).trans h.res, (g.1.same _ (show R ≠ bl by omega) hs).trans h.box, own_hold h.ow g.1 (fun k hk => by show k ≠ bl; omega), own_hold h.ou g.1 (fun k hk => by show k ≠ bl; omega), g.2 h.bell, h.hold.trans g.1, hlt, hblt, h.mlt⟩
theorem MdT.low {w : World} {bl : Nat} {ma : Option Addr} {n mc R : Nat} {br : Int} {ws : List Word} {ts : List Turn} {v u : Value} {W W' : World} (h : MdT w bl ma n mc R br ws ts v u W) (hB : Below R W W') : W'.heap[w.heap.size]? = some (.cells #[.slice none 0 0, .slice none 0 0, .int .i64 0] 25 (0, 0)) ∧ BellOk W' bl ma n mc ∧ Hold (fun k => k ≠ bl) w W' := by
  have hlt := h.lt
  have hblt := h.blt
  have hs := h.siz
  have hh : Hold (fun k => k < R) W W' := ⟨hB.os, hB.tape, hB.output, hB.size, fun k hk _ => hB.block k hk⟩
  refine ⟨(hB.block _ hlt).trans h.res, h.bell.hold hh (by show bl < R; omega) (fun hn mb mo e => by show mb < R; have := h.mlt hn mb mo e; omega), ?_⟩
  exact ⟨hB.os.trans h.hold.os, hB.tape.trans h.hold.tape, hB.output.trans h.hold.output, Nat.le_trans h.hold.size hB.size, fun k hk hl => (hB.block k (by omega)).trans (h.hold.same k hk hl)⟩
theorem MdT.wapp {w : World} {bl : Nat} {ma : Option Addr} {n mc R : Nat} {br : Int} {ws : List Word} {ts : List Turn} {v u v' : Value} {x : Word} {W W' : World} (h : MdT w bl ma n mc R br ws ts v u W) (hg : W.grownBy W' v.ownBlock) (ho : W'.ownsRow (R + 1) 77 3 v' (ws.length + 1) (wcells ws ++ wcell x)) :
    MdT w bl ma n mc R br (ws ++ [x]) ts v' u (W'.setCell ⟨R, 0, none⟩ v') := by
  have hs := h.siz
  have hB := belS (v := v') (o := 0) (below_grown (Below.refl R W) h.ow (by omega) (by omega) hg) (Nat.le_refl R)
  obtain ⟨a1, a2, a3⟩ := h.low hB
  refine ⟨a1, heap_set_same _ (blk_grown h.box h.ow hg (by omega)), ?_, own_setC (own_other h.ou h.ow (by decide) hg) (by omega), a2, a3, h.lt, h.blt, h.mlt⟩
  rw [wcells_snoc, List.length_append]; exact own_setC ho (by omega)
theorem MdT.tapp {w : World} {bl : Nat} {ma : Option Addr} {n mc R : Nat} {br : Int} {ws : List Word} {ts : List Turn} {v u u' : Value} {x : Turn} {W W' : World} (h : MdT w bl ma n mc R br ws ts v u W) (hg : W.grownBy W' u.ownBlock) (ho : W'.ownsRow (R + 1) 80 3 u' (ts.length + 1) (tcells ts ++ tcell x)) :
    MdT w bl ma n mc R br ws (ts ++ [x]) v u' (W'.setCell ⟨R, 1, none⟩ u') := by
  have hs := h.siz
  have hB := belS (v := u') (o := 1) (below_grown (Below.refl R W) h.ou (by omega) (by omega) hg) (Nat.le_refl R)
  obtain ⟨a1, a2, a3⟩ := h.low hB
  refine ⟨a1, heap_set_same _ (blk_grown h.box h.ou hg (by omega)), own_setC (own_other h.ow h.ou (by decide) hg) (by omega), ?_, a2, a3, h.lt, h.blt, h.mlt⟩
  rw [tcells_snoc, List.length_append]; exact own_setC ho (by omega)
theorem MdT.mb {w : World} {bl : Nat} {ma : Option Addr} {n mc R : Nat} {br : Int} {ws : List Word} {ts : List Turn} {v u : Value} {W : World} (h : MdT w bl ma n mc R br ws ts v u W) : n ≠ 0 → ∀ mb mo, ma = some ⟨mb, mo, none⟩ → mb < R := fun hn mb mo e => by
  have h1 := h.mlt hn mb mo e
  have h2 := h.lt
  omega
theorem MdT.wstep {w : World} {bl : Nat} {ma : Option Addr} {n mc R : Nat} {br : Int} {ws : List Word} {v v' : Value} {x : Word} {W W' : World} (h : MdT w bl ma n mc R br ws [] v (.slice none 0 0) W) (g : GM bl ma n mc R 77 v ws.length (wcells ws) W W') (ho : W'.ownsRow (R + 1) 77 3 v' (ws.length + 1) (wcells ws ++ wcell x)) :
    MdT w bl ma n mc R br (ws ++ [x]) [] v' (.slice none 0 0) (W'.setCell ⟨R, 0, none⟩ v') := by
  have hs := h.siz
  have hlt := h.lt
  have hblt := h.blt
  have hbox := (g.1.same R ⟨by omega, Nat.le_refl _⟩ hs).trans h.box
  have hh : Hold (fun k => k < R) W' (W'.setCell ⟨R, 0, none⟩ v') := Hold.setCell _ _ _ (fun h => Nat.lt_irrefl _ h)
  refine ⟨(hh.same _ hlt (Nat.lt_of_lt_of_le (by omega) g.1.size)).trans ((g.1.same _ ⟨by omega, by omega⟩ (by omega)).trans h.res), heap_set_same _ hbox, ?_, own_none _ _ _ _, (g.2.1 h.bell).hold hh (by show bl < R; omega) h.mb, ?_, hlt, hblt, h.mlt⟩
  · rw [wcells_snoc, List.length_append]; exact own_setC ho (by omega)
  · exact ⟨hh.os.trans (g.1.os.trans h.hold.os), hh.tape.trans (g.1.tape.trans h.hold.tape), hh.output.trans (g.1.output.trans h.hold.output), Nat.le_trans h.hold.size (Nat.le_trans g.1.size hh.size), fun k hk hl => (hh.same k (show k < R by omega) (Nat.lt_of_lt_of_le (Nat.lt_of_lt_of_le hl h.hold.size) g.1.size)).trans ((g.1.same k ⟨hk, by omega⟩ (Nat.lt_of_lt_of_le hl h.hold.size)).trans (h.hold.same k hk hl))⟩
def spMd (bl R : Nat) (x1 : Value) (K : Nat) (ws : List Word) : Nat → Bool → List Value → Value → World → Prop
  | 0, _, _, v, _ => v = .pointer (some ⟨R, 0, none⟩)
  | 1, _, _, v, _ => v = x1
  | 2, _, _, v, _ => v = .pointer (some ⟨bl, 0, none⟩)
  | 3, c, _, v, w => ∃ x : Int, v = .int .i64 x ∧ 1 ≤ x ∧ x ≤ 4
  | 4, _, _, v, _ => v = .pointer (some ⟨bl, 0, none⟩)
  | 5, c, _, v, w => ∃ x : Int, v = .int .i64 x ∧ 0 ≤ x ∧ x ≤ 9
  | 6, _, _, v, _ => v = .pointer (some ⟨bl, 0, none⟩)
  | 7, c, _, v, w => ∃ b : Bool, v = .bool b
  | 8, c, _, v, w => ∃ b : Bool, v = .bool b
  | 9, c, _, v, w => ∃ (x y : Int) (b : Bool), v = .agg #[.int .i64 x, .int .i64 y, .bool b] ∧ 1 ≤ x ∧ x ≤ 4 ∧ 0 ≤ y ∧ y ≤ 9
  | 10, c, _, v, w => c = false → ∃ (p : Nat) (x : Word), v = .slice (some ⟨p, 0, none⟩) 1 1 ∧ R < p ∧ w.heap[p]? = some (.cells (wcell x).toArray 77 (0, 0)) ∧ 1 ≤ x.syl ∧ x.syl ≤ 4 ∧ 0 ≤ x.wt ∧ x.wt ≤ 9
  | 11, c, _, v, w => c = true ∧ ∃ x : Word, w.ownsRow (R + 1) 77 3 v (K + 1) (wcells ws ++ wcell x) ∧ 1 ≤ x.syl ∧ x.syl ≤ 4 ∧ 0 ≤ x.wt ∧ x.wt ≤ 9
  | 12, _, _, v, _ => v = .pointer (some ⟨R, 0, none⟩)
  | _, _, _, _, _ => False
theorem spMd_stable (bl : Nat) (ma : Option Addr) (n mc R : Nat) (v : Value) (ws : List Word) (hR : bl < R) : ∀ i c w w', (i = 11 → c = false) → GMi 11 bl ma n mc R 77 v ws.length (wcells ws) i w w' → ∀ k L u, spMd bl R v ws.length ws k c L u w → spMd bl R v ws.length ws k (c || i == 11) L u w' := by
  intro i c w w' hc hg k L u h
  match k with
  | 0 => exact h
  | 1 => exact h
  | 2 => exact h
  | 3 => exact h
  | 4 => exact h
  | 5 => exact h
  | 6 => exact h
  | 7 => exact h
  | 8 => exact h
  | 9 => exact h
  | 10 =>
    intro he
    simp only [Bool.or_eq_false_iff, beq_eq_false_iff_ne] at he
    obtain ⟨p, x, e, hp, hpc, hx⟩ := h he.1
    have hs := (Array.getElem?_eq_some_iff.1 hpc).1
    exact ⟨p, x, e, hp, ((hg.2 he.2).1.same p (show p ≠ bl by omega) hs).trans hpc, hx⟩
  | 11 =>
    obtain ⟨e, x, ho, hx⟩ := h
    have hi : i ≠ 11 := fun e2 => by rw [hc e2] at e; cases e
    exact ⟨by rw [e]; rfl, x, own_hold ho (hg.2 hi).1 (fun k hk => by show k ≠ bl; omega), hx⟩
  | 12 => exact h
  | k + 13 => exact h
def spMe (bl R : Nat) (x1 : Value) (LL lo : Int) : Nat → List Value → Value → World → Prop
  | 0, _, v, _ => v = .pointer (some ⟨R, 0, none⟩)
  | 1, _, v, _ => v = x1
  | 2, _, v, _ => v = .int .i64 LL
  | 3, _, v, _ => v = .int .i64 (LL - 1)
  | 4, _, v, _ => v = .int .i64 lo
  | 5, _, v, _ => v = .pointer (some ⟨bl, 0, none⟩)
  | 6, L, v, w => ∃ x : Int, v = .int .i64 x ∧ 0 ≤ x ∧ x ≤ 2
  | 7, L, v, w => ∃ x : Int, v = .int .i64 x ∧ lo ≤ x ∧ x ≤ lo + 2
  | 8, L, v, w => ∃ x : Int, v = .int .i64 x ∧ lo ≤ x ∧ x ≤ LL - 1
  | 9, L, v, w => ∃ x : Int, v = .int .i64 x ∧ lo ≤ x ∧ x ≤ LL - 1
  | _, _, _, _ => False
theorem spMe_stable (bl R : Nat) (x1 : Value) (LL lo : Int) (ma : Option Addr) (n mc : Nat) : ∀ i L v w w', spMe bl R x1 LL lo i L v w → GB bl ma n mc w w' → spMe bl R x1 LL lo i L v w' := by
  intro i L v w w' h hg
  match i with
  | 0 => exact h
  | 1 => exact h
  | 2 => exact h
  | 3 => exact h
  | 4 => exact h
  | 5 => exact h
  | 6 => exact h
  | 7 => exact h
  | 8 => exact h
  | 9 => exact h

/-- what Made leaves -/
def MadePost (w : World) (bl : Nat) (ma : Option Addr) (n mc : Nat) (words turns : Nat) (e : Ending) (w' : World) : Prop :=
  ∃ (t : Text) (p q : Option Addr) (c d : Nat), e = .returned (.agg #[.slice p t.words.length c, .slice q t.turns.length d, .int .i64 t.breath]) ∧ Hid (w'.ownsRow w.heap.size 77 3 (.slice p t.words.length c) t.words.length (wcells t.words)) ∧ Hid (w'.ownsRow w.heap.size 80 3 (.slice q t.turns.length d) t.turns.length (tcells t.turns)) ∧ Hid (t.err = 0) ∧ Hid (t.words.length ≤ words) ∧ Hid (t.turns.length ≤ turns) ∧ Hid (BellOk w' bl ma n mc) ∧ Hid (Hold (fun k => k ≠ bl) w w')
def goodW (ws : List Word) : Prop := ∀ x ∈ ws, 1 ≤ x.syl ∧ x.syl ≤ 4 ∧ 0 ≤ x.wt ∧ x.wt ≤ 9
def goodT (L : Nat) (ts : List Turn) : Prop := ∀ u ∈ ts, 0 ≤ u.word ∧ u.word ≤ (L : Int) - 1 ∧ 0 ≤ u.lo ∧ u.lo ≤ u.hi ∧ u.hi ≤ (L : Int) - 1 ∧ (u.word < u.lo ∨ u.hi < u.word)
theorem goodT_snoc {L : Nat} {ts : List Turn} {x : Turn} (h : goodT L ts) (hx : 0 ≤ x.word ∧ x.word ≤ (L : Int) - 1 ∧ 0 ≤ x.lo ∧ x.lo ≤ x.hi ∧ x.hi ≤ (L : Int) - 1 ∧ (x.word < x.lo ∨ x.hi < x.word)) : goodT L (ts ++ [x]) := fun u hu => (List.mem_append.1 hu).elim (h u) (fun h => (List.mem_singleton.1 h) ▸ hx)
theorem good_err {ws : List Word} {ts : List Turn} {br : Int} (h1 : 1 ≤ ws.length) (h2 : ws.length ≤ 12) (h3 : ts.length ≤ 6) (hb : 3 ≤ br ∧ br ≤ 14) (hw : goodW ws) (ht : goodT ws.length ts) : (Text.mk ws ts br).err = 0 := by
  unfold Text.err Text.len
  dsimp only
  rw [if_neg (by omega), if_neg (by omega), if_neg, if_neg, if_neg, if_neg]
  · intro h; obtain ⟨u, hu, hb⟩ := List.any_eq_true.1 h
    have := ht u hu; simp [itself, btw] at hb; omega
  · intro h; obtain ⟨u, hu, hb⟩ := List.any_eq_true.1 h
    have := ht u hu; simp [endsB] at hb; omega
  · intro h; obtain ⟨u, hu, hb⟩ := List.any_eq_true.1 h
    have := ht u hu; simp [namesNo, absent, btw] at hb; omega
  · intro h; obtain ⟨u, hu, hb⟩ := List.any_eq_true.1 h
    have := hw u hu; simp [badWord, btw] at hb; omega
theorem stroke_int (bl : Nat) (ma : Option Addr) (n mc : Nat) (m : Int) (h0 : 0 ≤ m) (hm : m ≤ 1000000) (w : World) (hb : BellOk w bl ma n mc) :
    Calls Try.prog 75 #[.pointer (some ⟨bl, 0, none⟩), .int .i64 m] w (RingPost w bl ma n mc 0 m) := by
  obtain ⟨k, rfl⟩ : ∃ k : Nat, m = (k : Int) := ⟨m.toNat, by omega⟩
  exact stroke_any bl ma n mc k (by omega) w hb
theorem MdT.post {w : World} {bl : Nat} {ma : Option Addr} {n mc R words turns : Nat} {br : Int} {ws : List Word} {ts : List Turn} {p q : Option Addr} {c d : Nat} {W : World} (h : MdT w bl ma n mc R br ws ts (.slice p ws.length c) (.slice q ts.length d) W)
    (h1 : 1 ≤ ws.length) (hw : ws.length ≤ words) (h12 : ws.length ≤ 12) (ht : ts.length ≤ turns) (ht6 : turns ≤ 6) (hb : 3 ≤ br ∧ br ≤ 14) (hgw : goodW ws) (hgt : goodT ws.length ts) :
    MadePost w bl ma n mc words turns (.returned (.agg #[.slice p ws.length c, .slice q ts.length d, .int .i64 br])) (((W.setCell ⟨w.heap.size, 0, none⟩ (.slice p ws.length c)).setCell ⟨w.heap.size, 1, none⟩ (.slice q ts.length d)).setCell ⟨w.heap.size, 2, none⟩ (.int .i64 br)) := by
  have hlt := h.lt
  have hblt := h.blt
  have hB : Below w.heap.size W (((W.setCell ⟨w.heap.size, 0, none⟩ (.slice p ws.length c)).setCell ⟨w.heap.size, 1, none⟩ (.slice q ts.length d)).setCell ⟨w.heap.size, 2, none⟩ (.int .i64 br)) := belS (belS (belS (Below.refl _ W) (Nat.le_refl _)) (Nat.le_refl _)) (Nat.le_refl _)
  have hh : Hold (fun k => k < w.heap.size) W (((W.setCell ⟨w.heap.size, 0, none⟩ (.slice p ws.length c)).setCell ⟨w.heap.size, 1, none⟩ (.slice q ts.length d)).setCell ⟨w.heap.size, 2, none⟩ (.int .i64 br)) := .of_below hB (fun k hk _ => hk)
  refine ⟨⟨ws, ts, br⟩, p, q, c, d, rfl, Lib.hid ?_, Lib.hid ?_, Lib.hid (good_err h1 h12 (by omega) hb hgw hgt), Lib.hid hw, Lib.hid ht, Lib.hid (h.bell.hold hh (by show bl < w.heap.size; omega) (fun hn mb mo e => h.mlt hn mb mo e)), Lib.hid ?_⟩
  · exact own_base (own_setC (own_setC (own_setC h.ow (by omega)) (by omega)) (by omega)) (by omega)
  · exact own_base (own_setC (own_setC (own_setC h.ou (by omega)) (by omega)) (by omega)) (by omega)
  · exact ⟨hh.os.trans h.hold.os, hh.tape.trans h.hold.tape, hh.output.trans h.hold.output, Nat.le_trans h.hold.size hh.size, fun k hk hl => (hh.same k hl (Nat.lt_of_lt_of_le hl h.hold.size)).trans (h.hold.same k hk hl)⟩
set_option maxHeartbeats 6000000 in
set_option maxRecDepth 100000 in
theorem made_any (bl : Nat) (ma : Option Addr) (n mc : Nat) (words turns : Nat) (h1 : 1 ≤ words) (h12 : words ≤ 12) (ht6 : turns ≤ 6) (w : World) (hb : BellOk w bl ma n mc) (hma : n ≠ 0 → ∀ mb mo, ma = some ⟨mb, mo, none⟩ → mb < w.heap.size) :
    Calls Try.prog 54 #[.pointer (some ⟨bl, 0, none⟩), .int .i64 words, .int .i64 turns] w (MadePost w bl ma n mc words turns) := by
  obtain ⟨i0, hi0, hz0, hz1, hz2⟩ := info_parts A_infoWd
  obtain ⟨j0, hj0, hy0, hy1, hy2⟩ := info_parts A_infoTn
  have HB := Lib.hid (hb.below (below1 w (.cells #[.slice none 0 0, .slice none 0 0, .int .i64 0] 25)))
  have hl := hb.lt
  have HMA := Lib.hid hma
  clear hb hma
  go_enter Try.func54, Try.ntmps54
  go_wp2_with fail
  refine (strike_any bl ma n mc 3 14 11 (by omega) (by omega) (by omega) (by omega) _ HB.out).mono ?_
  rintro e w1 ⟨br, br0, br1, rfl, hB, hH⟩
  have hz := hH.size
  rw [World.size_alloc] at hz
  have hM0 : MdT w bl ma n mc w1.heap.size br [] [] (.slice none 0 0) (.slice none 0 0) (w1.alloc (.cells #[.slice none 0 0, .slice none 0 0, .int .i64 br] 25)) := by
    refine ⟨(Below.heap_alloc _ _ _ (by omega)).trans ((hH.same _ (show w.heap.size ≠ bl by omega) (by simp)).trans (heap_last _ _)), heap_last _ _, own_none _ _ _ _, own_none _ _ _ _, hB.below (below1 _ _), ?_, by omega, hl, HMA.out⟩
    exact ((Hold.alloc w _).trans hH).trans (Hold.alloc w1 _)
  have HM := Lib.hid hM0
  obtain ⟨R, hR⟩ : ∃ R, R = w1.heap.size := ⟨_, rfl⟩
  rw [← hR] at HM
  have HRR := Lib.hid hR
  clear hB hH HB hM0 hz
  go_wp2_with fail
  rw [← hR]
  refine (strike_any bl ma n mc 1 words (words - 1) (by omega) (by omega) (by omega) (by omega) _ HM.out.bell).mono ?_
  rintro e w3 ⟨X, X0, X1, rfl, hB, hH⟩
  have HM := Lib.hid (HM.out.gb (gb_ring hB hH))
  obtain ⟨X, rfl⟩ : ∃ N : Nat, X = (N : Int) := ⟨X.toNat, by omega⟩
  have hX12 : X ≤ 12 := by omega
  have hX1 : 1 ≤ X := by omega
  clear hB hH hR HRR
  go_wp2_with fail
  go_loopw [17] (fun i wr => ∃ (k : Nat) (ws : List Word) (v : Value), i = .int .i64 k ∧ k ≤ X ∧ ws.length = k ∧ goodW ws ∧ MdT w bl ma n mc R br ws [] v (.slice none 0 0) wr) (fun i _ => X - (intOf i).toNat)
  case atStart => exact ⟨0, [], _, rfl, Nat.zero_le _, rfl, (fun x hx => by cases hx), HM.out⟩
  case round =>
    clear HM
    obtain ⟨wo2, rfl⟩ : ∃ wo2 : World, wo2 = wr := ⟨_, rfl⟩
    obtain ⟨k, ws, v1, rfl, hk, hwl, hgw, hM⟩ := hrel
    have HM := Lib.hid hM
    have HGW := Lib.hid hgw
    have HWL := Lib.hid hwl
    have hRb : R ≠ bl := by have := hM.lt; have := hM.blt; omega
    have hRl := hM.siz
    obtain ⟨p5, c5, rfl⟩ := own_val hM.ow
    obtain ⟨k0, k1, k2⟩ := blk3 hM.box
    by_cases hlt : k < X
    · have hlt' : (k : Int) < X := by omega
      have HXr := Lib.hid hM.box
      have HBO := Lib.hid hM.bell
      have HOW := Lib.hid hM.ow
      have hMb := hM.mb
      have hRb2 : bl < R := by have := hM.lt; have := hM.blt; omega
      have hk12 : ws.length < 1000 := by omega
      generalize hv1 : (Value.slice p5 ws.length c5) = v1 at *
      clear hM hgw hwl
      go_wp2_with fail
      refine Rk.region_gen 11 (GMi 11 bl ma n mc R 77 v1 ws.length (wcells ws)) (grM bl ma n mc R 77 v1 ws.length (wcells ws)) (fun i a b h => h.1) (fun i a => GMi.refl 11 bl ma n mc R 77 v1 ws.length (wcells ws) i a) 13 [[], [0], [], [2], [], [2, 3, 4], [], [2, 3, 4, 5, 6], [2, 3, 4, 5, 6, 7], [2, 3, 4, 5, 6, 7, 8], [2, 3, 4, 5, 6, 7, 8, 9], [0, 1, 2, 3, 4, 5, 6, 7, 8, 9, 10], [0, 1, 2, 3, 4, 5, 6, 7, 8, 9, 10, 11]] [some 19, some 20, some 21, some 22, some 23, some 24, some 25, some 26, some 27, some 28, some 29, some 30, some 31] (by omega) (spMd bl R v1 ws.length ws) (by kernel_rfl) (by kernel_rfl) rfl (spMd_stable bl ma n mc R v1 ws hRb2) ?_ ?_
      · refine ⟨fun V w' c hG hc hs => ?_, fun V w' c hG hc hs => ?_, fun V w' c hG hc hs => ?_, fun V w' c hG hc hs => ?_, fun V w' c hG hc hs => ?_, fun V w' c hG hc hs => ?_, fun V w' c hG hc hs => ?_, fun V w' c hG hc hs => ?_, fun V w' c hG hc hs => ?_, fun V w' c hG hc hs => ?_, fun V w' c hG hc hs => ?_, fun V w' c hG hc hs => ?_, fun V w' c hG hc hs => ?_, trivial⟩
        all_goals
          obtain ⟨k0, k1, k2⟩ := blk3 ((hG.1.same R ⟨hRb, Nat.le_refl _⟩ hRl).trans HXr.out)
        · rw [if_pos (by rfl)]
          exact Rk.GrowL.value (v := .pointer (some ⟨R, 0, none⟩)) (w' := w') (by simp [go_sem, Rs.look]) (GMi.refl 11 bl ma n mc R 77 v1 ws.length (wcells ws) _ _) rfl
        · have e0 : V 0 = .pointer (some ⟨R, 0, none⟩) := hs 0 (by simp)
          rw [if_pos (by rfl)]
          exact Rk.GrowL.value (v := v1) (w' := w') (by simp [go_sem, Rs.look, e0, k0]) (GMi.refl 11 bl ma n mc R 77 v1 ws.length (wcells ws) _ _) rfl
        · rw [if_pos (by rfl)]
          exact Rk.GrowL.value (v := .pointer (some ⟨bl, 0, none⟩)) (w' := w') (by simp [go_sem, Rs.look]) (GMi.refl 11 bl ma n mc R 77 v1 ws.length (wcells ws) _ _) rfl
        · have e2 : V 2 = .pointer (some ⟨bl, 0, none⟩) := hs 2 (by simp)
          rw [if_pos (by rfl)]
          refine Rk.GrowL.call (f := 68) (args := #[.pointer (some ⟨bl, 0, none⟩), .int .i64 1, .int .i64 4]) (by simp [go_sem, Rs.look, e2]) ?_
          refine (strike_any bl ma n mc 1 4 3 (by omega) (by omega) (by omega) (by omega) w' (hG.2.1 HBO.out)).mono ?_
          rintro e w2 ⟨x, x0, x1, rfl, hB, hH⟩
          exact ⟨_, rfl, gi_gb hRb2 ⟨hH, fun _ => hB⟩, x, rfl, x0, x1⟩
        · rw [if_pos (by rfl)]
          exact Rk.GrowL.value (v := .pointer (some ⟨bl, 0, none⟩)) (w' := w') (by simp [go_sem, Rs.look]) (GMi.refl 11 bl ma n mc R 77 v1 ws.length (wcells ws) _ _) rfl
        · have e2 : V 2 = .pointer (some ⟨bl, 0, none⟩) := hs 2 (by simp)
          have r3 := hs 3 (by simp)
          have e4 : V 4 = .pointer (some ⟨bl, 0, none⟩) := hs 4 (by simp)
          rw [if_pos (by rfl)]
          refine Rk.GrowL.call (f := 75) (args := #[.pointer (some ⟨bl, 0, none⟩), .int .i64 9]) (by simp [go_sem, Rs.look, e4]) ?_
          refine (stroke_any bl ma n mc 9 (by omega) w' (hG.2.1 HBO.out)).mono ?_
          rintro e w2 ⟨x, x0, x1, rfl, hB, hH⟩
          exact ⟨_, rfl, gi_gb hRb2 ⟨hH, fun _ => hB⟩, x, rfl, x0, x1⟩
        · rw [if_pos (by rfl)]
          exact Rk.GrowL.value (v := .pointer (some ⟨bl, 0, none⟩)) (w' := w') (by simp [go_sem, Rs.look]) (GMi.refl 11 bl ma n mc R 77 v1 ws.length (wcells ws) _ _) rfl
        · have e2 : V 2 = .pointer (some ⟨bl, 0, none⟩) := hs 2 (by simp)
          have r3 := hs 3 (by simp)
          have e4 : V 4 = .pointer (some ⟨bl, 0, none⟩) := hs 4 (by simp)
          have r5 := hs 5 (by simp)
          have e6 : V 6 = .pointer (some ⟨bl, 0, none⟩) := hs 6 (by simp)
          rw [if_pos (by rfl)]
          refine Rk.GrowL.call (f := 69) (args := #[.pointer (some ⟨bl, 0, none⟩), .int .i64 3]) (by simp [go_sem, Rs.look, e6]) ?_
          refine (seldom_any bl ma n mc 3 (by omega) (by omega) w' (hG.2.1 HBO.out)).mono ?_
          rintro e w2 ⟨b, rfl, hB, hH⟩
          exact ⟨_, rfl, gi_gb hRb2 ⟨hH, fun _ => hB⟩, b, rfl⟩
        · have e2 : V 2 = .pointer (some ⟨bl, 0, none⟩) := hs 2 (by simp)
          have r3 := hs 3 (by simp)
          have e4 : V 4 = .pointer (some ⟨bl, 0, none⟩) := hs 4 (by simp)
          have r5 := hs 5 (by simp)
          have e6 : V 6 = .pointer (some ⟨bl, 0, none⟩) := hs 6 (by simp)
          have r7 := hs 7 (by simp)
          rw [if_pos (by rfl)]
          obtain ⟨b, e7⟩ : ∃ b : Bool, V 7 = .bool b := r7
          exact Rk.GrowL.value (v := .bool (!b)) (w' := w') (by simp [go_sem, Rs.look, e7]) (GMi.refl _ _ _ _ _ _ _ _ _ _ _ _) ⟨_, rfl⟩
        · have e2 : V 2 = .pointer (some ⟨bl, 0, none⟩) := hs 2 (by simp)
          have r3 := hs 3 (by simp)
          have e4 : V 4 = .pointer (some ⟨bl, 0, none⟩) := hs 4 (by simp)
          have r5 := hs 5 (by simp)
          have e6 : V 6 = .pointer (some ⟨bl, 0, none⟩) := hs 6 (by simp)
          have r7 := hs 7 (by simp)
          have r8 := hs 8 (by simp)
          rw [if_pos (by rfl)]
          obtain ⟨x, e3, a1, a2⟩ : ∃ x : Int, V 3 = .int .i64 x ∧ 1 ≤ x ∧ x ≤ 4 := r3
          obtain ⟨y, e5, a3, a4⟩ : ∃ x : Int, V 5 = .int .i64 x ∧ 0 ≤ x ∧ x ≤ 9 := r5
          obtain ⟨b, e8⟩ : ∃ b : Bool, V 8 = .bool b := r8
          exact Rk.GrowL.value (v := .agg #[.int .i64 x, .int .i64 y, .bool b]) (w' := w') (by simp [go_sem, Rs.look, e3, e5, e8]) (GMi.refl _ _ _ _ _ _ _ _ _ _ _ _) ⟨x, y, b, rfl, a1, a2, a3, a4⟩
        · have e2 : V 2 = .pointer (some ⟨bl, 0, none⟩) := hs 2 (by simp)
          have r3 := hs 3 (by simp)
          have e4 : V 4 = .pointer (some ⟨bl, 0, none⟩) := hs 4 (by simp)
          have r5 := hs 5 (by simp)
          have e6 : V 6 = .pointer (some ⟨bl, 0, none⟩) := hs 6 (by simp)
          have r7 := hs 7 (by simp)
          have r8 := hs 8 (by simp)
          have r9 := hs 9 (by simp)
          rw [if_pos (by rfl)]
          obtain ⟨x, y, b, e9, a1, a2, a3, a4⟩ : ∃ (x y : Int) (b : Bool), V 9 = .agg #[.int .i64 x, .int .i64 y, .bool b] ∧ 1 ≤ x ∧ x ≤ 4 ∧ 0 ≤ y ∧ y ≤ 9 := r9
          exact Rk.GrowL.value (v := .slice (some ⟨w'.heap.size, 0, none⟩) 1 1) (w' := w'.alloc (.cells #[.int .i64 x, .int .i64 y, .bool b] 77)) (by simp [go_sem, Rs.look, e9]) (gi_gb hRb2 (gb_alloc _ _ _ _ _ _)) (fun _ => ⟨w'.heap.size, ⟨x, y, b⟩, rfl, Nat.lt_of_lt_of_le hRl hG.1.size, heap_last _ _, a1, a2, a3, a4⟩)
        · have e0 : V 0 = .pointer (some ⟨R, 0, none⟩) := hs 0 (by simp)
          have e1 : V 1 = v1 := hs 1 (by simp)
          have e2 : V 2 = .pointer (some ⟨bl, 0, none⟩) := hs 2 (by simp)
          have r3 := hs 3 (by simp)
          have e4 : V 4 = .pointer (some ⟨bl, 0, none⟩) := hs 4 (by simp)
          have r5 := hs 5 (by simp)
          have e6 : V 6 = .pointer (some ⟨bl, 0, none⟩) := hs 6 (by simp)
          have r7 := hs 7 (by simp)
          have r8 := hs 8 (by simp)
          have r9 := hs 9 (by simp)
          have r10 := hs 10 (by simp)
          rw [if_pos (by rfl)]
          obtain ⟨p, x, e10, hp, hpc, a1, a2, a3, a4⟩ := r10 (hc rfl)
          obtain ⟨v', w2, hr, g1, g2, g3⟩ := append_keepW w' (R + 1) 22 v1 ws.length (wcells ws) x (hG.2.2 HOW.out) (by have := hG.1.size; omega) (by omega) p hpc
          exact Rk.GrowL.value (v := v') (w' := w2) (exec_append2 rfl rfl (by simp [Rs.look, e1]) (by simp [Rs.look, e10]) hr) (gi_app hRb2 hMb (hG.2.2 HOW.out) g2 g3) ⟨by simp, x, g1, a1, a2, a3, a4⟩
        · have e0 : V 0 = .pointer (some ⟨R, 0, none⟩) := hs 0 (by simp)
          have e1 : V 1 = v1 := hs 1 (by simp)
          have e2 : V 2 = .pointer (some ⟨bl, 0, none⟩) := hs 2 (by simp)
          have r3 := hs 3 (by simp)
          have e4 : V 4 = .pointer (some ⟨bl, 0, none⟩) := hs 4 (by simp)
          have r5 := hs 5 (by simp)
          have e6 : V 6 = .pointer (some ⟨bl, 0, none⟩) := hs 6 (by simp)
          have r7 := hs 7 (by simp)
          have r8 := hs 8 (by simp)
          have r9 := hs 9 (by simp)
          have r10 := hs 10 (by simp)
          have r11 := hs 11 (by simp)
          rw [if_pos (by rfl)]
          exact Rk.GrowL.value (v := .pointer (some ⟨R, 0, none⟩)) (w' := w') (by simp [go_sem, Rs.look, e0, e1, e2, e4, e6]) (GMi.refl 11 bl ma n mc R 77 v1 ws.length (wcells ws) _ _) rfl
      · intro V w' hG hs
        have e0 : V 0 = .pointer (some ⟨R, 0, none⟩) := hs 0 (by omega)
        have e1 : V 1 = v1 := hs 1 (by omega)
        have e2 : V 2 = .pointer (some ⟨bl, 0, none⟩) := hs 2 (by omega)
        have r3 := hs 3 (by omega)
        have e4 : V 4 = .pointer (some ⟨bl, 0, none⟩) := hs 4 (by omega)
        have r5 := hs 5 (by omega)
        have e6 : V 6 = .pointer (some ⟨bl, 0, none⟩) := hs 6 (by omega)
        have r7 := hs 7 (by omega)
        have r8 := hs 8 (by omega)
        have r9 := hs 9 (by omega)
        have r10 := hs 10 (by omega)
        have r11 := hs 11 (by omega)
        have e12 : V 12 = .pointer (some ⟨R, 0, none⟩) := hs 12 (by omega)
        obtain ⟨s3, e3, -⟩ := r3
        obtain ⟨s5, e5, -⟩ := r5
        obtain ⟨s7, e7⟩ := r7
        obtain ⟨s8, e8⟩ := r8
        obtain ⟨sa, sb, sc, e9, -⟩ := r9
        obtain ⟨-, sx, hsx, g1, g2, g3, g4⟩ := r11
        obtain ⟨vp, vc, e11⟩ := own_val hsx
        rw [e11] at hsx
        simp only [Rs.canon, Rs.dstOf, List.range_succ, List.range_zero, List.nil_append, List.cons_append, List.foldl_cons, List.foldl_nil, List.drop_succ_cons, List.drop_zero, List.drop_nil, List.getElem?_toArray, List.getElem?_cons_succ, List.getElem?_cons_zero, Option.bind_some, Act.put, List.getD_cons_succ, List.getD_cons_zero, List.setIfInBounds_toArray, List.set_cons_succ, List.set_cons_zero]
        rw [e0, e1, e2, e4, e6, e12, e3, e5, e7, e8, e9, e11]
        clear e0 e1 e2 e4 e6 e12 e3 e5 e7 e8 e9 e11 hs
        have HX2 := Lib.hid ((hG.1.same R ⟨hRb, Nat.le_refl _⟩ hRl).trans HXr.out)
        obtain ⟨k0, k1, k2⟩ := blk3 HX2.out
        have z : ∀ i, w'.frozen? ⟨R, i, none⟩ = false := fun i => frozen_of_row _ _ _ _ _ HX2.out
        have hq : R < w'.heap.size := Nat.lt_of_lt_of_le hRl hG.1.size
        have HMn := Lib.hid (HM.out.wstep hG hsx)
        have HG2 := Lib.hid (fun x (hx : x ∈ ws ++ [sx]) => (List.mem_append.1 hx).elim (HGW.out x) (fun h => (List.mem_singleton.1 h) ▸ ⟨g1, g2, g3, g4⟩) : goodW (ws ++ [sx]))
        clear hG r10 hsx HM HOW HBO
        go_wp2
        go_roundw
        case rel => exact ⟨k + 1, ws ++ [sx], _, by simp, by omega, by simp [HWL.out], HG2.out, HMn.out⟩
        case measure => simp only [intOf]; omega
    · have hkX : k = X := by omega
      subst hkX
      clear hk hlt k0 k1 k2 hRl
      have hM0 := hM.ou
      have hw1 : 1 ≤ ws.length := by omega
      have hw12 : ws.length ≤ 12 := by omega
      have hww : ws.length ≤ words := by omega
      clear hM hgw hwl
      go_wp2_with fail
      refine (stroke_any bl ma n mc turns (by omega) _ HM.out.bell).mono ?_
      rintro e w4 ⟨Y, Y0, Y1, rfl, hB, hH⟩
      have HM := Lib.hid (HM.out.gb (gb_ring hB hH))
      obtain ⟨Y, rfl⟩ : ∃ N : Nat, Y = (N : Int) := ⟨Y.toNat, by omega⟩
      clear hB hH hM0
      go_wp2_with fail
      go_loopw [36] (fun i wr => ∃ (k : Nat) (ts : List Turn) (u : Value), i = .int .i64 k ∧ k ≤ Y ∧ ts.length ≤ k ∧ goodT ws.length ts ∧ MdT w bl ma n mc R br ws ts (.slice p5 ws.length c5) u wr) (fun i _ => Y - (intOf i).toNat)
      case atStart => exact ⟨0, [], _, rfl, Nat.zero_le _, Nat.le_refl _, (fun x hx => by cases hx), HM.out⟩
      case round =>
        clear HM
        obtain ⟨wo3, rfl⟩ : ∃ wo3 : World, wo3 = wr := ⟨_, rfl⟩
        obtain ⟨k, ts, u, rfl, hk, htl, hgt, hM⟩ := hrel
        have HM := Lib.hid hM
        have HGT := Lib.hid hgt
        have HTL := Lib.hid htl
        have hRl := hM.siz
        have hRb2 : bl < R := by have := hM.lt; have := hM.blt; omega
        have hRb' : R ≠ bl := by omega
        have hwR := hM.lt
        obtain ⟨q5, d5, rfl⟩ := own_val hM.ou
        obtain ⟨k0, k1, k2⟩ := blk3 hM.box
        have HXr := Lib.hid hM.box
        by_cases hlt : k < Y
        · have hlt' : (k : Int) < Y := by omega
          by_cases h2 : ws.length < 2
          · have h2' : (ws.length : Int) < 2 := by omega
            have z8 : ∀ i, wo3.frozen? ⟨w.heap.size, i, none⟩ = false := fun i => frozen_of_row _ _ _ _ _ hM.res
            have hq8 : w.heap.size < wo3.heap.size := by omega
            obtain ⟨p0, p1, p2⟩ := blk3 hM.res
            clear hM hgt htl
            go_wp2
            obtain ⟨W3, hW3⟩ : ∃ W3, W3 = ((wo3.setCell ⟨w.heap.size, 0, none⟩ (.slice p5 ws.length c5)).setCell ⟨w.heap.size, 1, none⟩ (.slice q5 ts.length d5)).setCell ⟨w.heap.size, 2, none⟩ (.int .i64 br) := ⟨_, rfl⟩
            rw [← hW3]
            have hx1 : W3.heap[w.heap.size]? = some (.cells #[.slice p5 ws.length c5, .slice q5 ts.length d5, .int .i64 br] 25 (0, 0)) := by
              rw [hW3]; exact heap_set_same _ (heap_set_same _ (heap_set_same _ HM.out.res))
            have c0 := blk_cells hx1 0 _ rfl
            have c1 := blk_cells hx1 1 _ rfl
            have c2 := blk_cells hx1 2 _ rfl
            exact bodyPost_ret (v := .agg #[.slice p5 ws.length c5, .slice q5 ts.length d5, .int .i64 br]) (by simp [results, Try.results54, go_sem, c0, c1, c2]) rfl (by rw [hW3]; exact HM.out.post hw1 hww hw12 (Nat.le_trans HTL.out (by omega)) (by omega) ⟨br0, br1⟩ HGW.out HGT.out)
          · have h2' : ¬ (ws.length : Int) < 2 := by omega
            have hsub : IntKind.i64.wrap ((ws.length : Int) - 1) = (ws.length : Int) - 1 := IntWalk.i64_in _ (by omega)
            clear hM hgt htl
            go_wp2_with fail
            refine (stroke_int bl ma n mc ((ws.length : Int) - 1) (by omega) (by omega) _ HM.out.bell).mono ?_
            rintro e w5 ⟨lo, lo0, lo1, rfl, hB, hH⟩
            have HM := Lib.hid (HM.out.gb (gb_ring hB hH))
            have HBO := Lib.hid HM.out.bell
            clear hB hH k0 k1 k2 HXr hRl
            obtain ⟨k0, k1, k2⟩ := blk3 HM.out.box
            have HXr := Lib.hid HM.out.box
            have hRl := HM.out.siz
            go_wp2_with fail
            refine Rg.region_gen (grB bl ma n mc) 10 [[], [0], [0, 1], [0, 1, 2], [], [], [5], [4, 5, 6], [0, 1, 2, 3, 4, 5, 6, 7], [0, 1, 2, 3, 4, 5, 6, 7, 8]] [some 48, some 49, some 50, some 51, some 52, some 53, some 54, some 55, some 56, some 9] (spMe bl R (.slice p5 ws.length c5) (ws.length : Int) lo) (by kernel_rfl) (by kernel_rfl) rfl (spMe_stable _ _ _ _ _ _ _ _) ?_ ?_
            · refine ⟨fun V w' hG hs => ?_, fun V w' hG hs => ?_, fun V w' hG hs => ?_, fun V w' hG hs => ?_, fun V w' hG hs => ?_, fun V w' hG hs => ?_, fun V w' hG hs => ?_, fun V w' hG hs => ?_, fun V w' hG hs => ?_, fun V w' hG hs => ?_, trivial⟩
              all_goals
                obtain ⟨k0, k1, k2⟩ := blk3 ((hG.1.same R hRb' hRl).trans HXr.out)
              · rw [if_pos (by rfl)]
                exact Rg.GrowL.value (v := .pointer (some ⟨R, 0, none⟩)) (w' := w') (by simp [go_sem, Rs.look]) (GB.refl _ _ _ _ _) rfl
              · have e0 : V 0 = .pointer (some ⟨R, 0, none⟩) := hs 0 (by simp)
                rw [if_pos (by rfl)]
                exact Rg.GrowL.value (v := (.slice p5 ws.length c5)) (w' := w') (by simp [go_sem, Rs.look, e0, k0]) (GB.refl _ _ _ _ _) rfl
              · have e0 : V 0 = .pointer (some ⟨R, 0, none⟩) := hs 0 (by simp)
                have e1 : V 1 = (.slice p5 ws.length c5) := hs 1 (by simp)
                rw [if_pos (by rfl)]
                exact Rg.GrowL.value (v := .int .i64 (ws.length : Int)) (w' := w') (by simp [go_sem, Rs.look, e0, e1]) (GB.refl _ _ _ _ _) rfl
              · have e0 : V 0 = .pointer (some ⟨R, 0, none⟩) := hs 0 (by simp)
                have e1 : V 1 = (.slice p5 ws.length c5) := hs 1 (by simp)
                have e2 : V 2 = .int .i64 (ws.length : Int) := hs 2 (by simp)
                rw [if_pos (by rfl)]
                exact Rg.GrowL.value (v := .int .i64 ((ws.length : Int) - 1)) (w' := w') (by simp [go_sem, Rs.look, e0, e1, e2, hsub]) (GB.refl _ _ _ _ _) rfl
              · rw [if_pos (by rfl)]
                exact Rg.GrowL.value (v := .int .i64 lo) (w' := w') (by simp [go_sem, Rs.look]) (GB.refl _ _ _ _ _) rfl
              · rw [if_pos (by rfl)]
                exact Rg.GrowL.value (v := .pointer (some ⟨bl, 0, none⟩)) (w' := w') (by simp [go_sem, Rs.look]) (GB.refl _ _ _ _ _) rfl
              · have e5 : V 5 = .pointer (some ⟨bl, 0, none⟩) := hs 5 (by simp)
                rw [if_pos (by rfl)]
                refine Rg.GrowL.call (grB bl ma n mc) (f := 75) (args := #[.pointer (some ⟨bl, 0, none⟩), .int .i64 2]) (by simp [go_sem, Rs.look, e5]) ?_
                refine (stroke_any bl ma n mc 2 (by omega) w' (hG.2 HBO.out)).mono ?_
                rintro e w2 ⟨x, x0, x1, rfl, hB, hH⟩
                exact ⟨_, rfl, ⟨hH, fun _ => hB⟩, x, rfl, x0, x1⟩
              · have e4 : V 4 = .int .i64 lo := hs 4 (by simp)
                have e5 : V 5 = .pointer (some ⟨bl, 0, none⟩) := hs 5 (by simp)
                have r6 := hs 6 (by simp)
                rw [if_pos (by rfl)]
                obtain ⟨x, e6, a1, a2⟩ := r6
                have hadd : IntKind.i64.wrap (lo + x) = lo + x := IntWalk.i64_in _ (by omega)
                exact Rg.GrowL.value (v := .int .i64 (lo + x)) (w' := w') (by simp [go_sem, Rs.look, e4, e6, hadd]) (GB.refl _ _ _ _ _) ⟨_, rfl, by omega, by omega⟩
              · have e0 : V 0 = .pointer (some ⟨R, 0, none⟩) := hs 0 (by simp)
                have e1 : V 1 = (.slice p5 ws.length c5) := hs 1 (by simp)
                have e2 : V 2 = .int .i64 (ws.length : Int) := hs 2 (by simp)
                have e3 : V 3 = .int .i64 ((ws.length : Int) - 1) := hs 3 (by simp)
                have e4 : V 4 = .int .i64 lo := hs 4 (by simp)
                have e5 : V 5 = .pointer (some ⟨bl, 0, none⟩) := hs 5 (by simp)
                have r6 := hs 6 (by simp)
                have r7 := hs 7 (by simp)
                rw [if_pos (by rfl)]
                obtain ⟨x, e7, a1, a2⟩ := r7
                exact Rg.GrowL.value (v := .int .i64 (min ((ws.length : Int) - 1) x)) (w' := w') (by simp [go_sem, Rs.look, e3, e7]) (GB.refl _ _ _ _ _) ⟨_, rfl, by omega, by omega⟩
              · have e0 : V 0 = .pointer (some ⟨R, 0, none⟩) := hs 0 (by simp)
                have e1 : V 1 = (.slice p5 ws.length c5) := hs 1 (by simp)
                have e2 : V 2 = .int .i64 (ws.length : Int) := hs 2 (by simp)
                have e3 : V 3 = .int .i64 ((ws.length : Int) - 1) := hs 3 (by simp)
                have e4 : V 4 = .int .i64 lo := hs 4 (by simp)
                have e5 : V 5 = .pointer (some ⟨bl, 0, none⟩) := hs 5 (by simp)
                have r6 := hs 6 (by simp)
                have r7 := hs 7 (by simp)
                have r8 := hs 8 (by simp)
                rw [if_pos (by rfl)]
                obtain ⟨x, e8, a1, a2⟩ := r8
                exact Rg.GrowL.value (v := .int .i64 x) (w' := w') (by simp [go_sem, Rs.look, e8]) (GB.refl _ _ _ _ _) ⟨_, rfl, a1, a2⟩
            · intro V w' hG hs
              have e0 : V 0 = .pointer (some ⟨R, 0, none⟩) := hs 0 (by omega)
              have e1 : V 1 = (.slice p5 ws.length c5) := hs 1 (by omega)
              have e2 : V 2 = .int .i64 (ws.length : Int) := hs 2 (by omega)
              have e3 : V 3 = .int .i64 ((ws.length : Int) - 1) := hs 3 (by omega)
              have e4 : V 4 = .int .i64 lo := hs 4 (by omega)
              have e5 : V 5 = .pointer (some ⟨bl, 0, none⟩) := hs 5 (by omega)
              have r6 := hs 6 (by omega)
              have r7 := hs 7 (by omega)
              have r8 := hs 8 (by omega)
              have r9 := hs 9 (by omega)
              obtain ⟨s6, e6, -⟩ := r6
              obtain ⟨s7, e7, -⟩ := r7
              obtain ⟨s8, e8, -⟩ := r8
              obtain ⟨hi, e9, g1, g2⟩ := r9
              simp only [Rs.canon, Rs.dstOf, List.range_succ, List.range_zero, List.nil_append, List.cons_append, List.foldl_cons, List.foldl_nil, List.drop_succ_cons, List.drop_zero, List.drop_nil, List.getElem?_toArray, List.getElem?_cons_succ, List.getElem?_cons_zero, Option.bind_some, Act.put, List.getD_cons_succ, List.getD_cons_zero, List.setIfInBounds_toArray, List.set_cons_succ, List.set_cons_zero]
              rw [e0, e1, e2, e3, e4, e5, e6, e7, e8, e9]
              clear e0 e1 e2 e3 e4 e5 e6 e7 e8 e9 hs
              have HM := Lib.hid (HM.out.gb hG)
              clear hG k0 k1 k2 HXr hRl
              obtain ⟨k0, k1, k2⟩ := blk3 HM.out.box
              have hRl := HM.out.siz
              go_wp2_with fail
              refine (stroke_int bl ma n mc ((ws.length : Int) - 1) (by omega) (by omega) _ HM.out.bell).mono ?_
              rintro e w6 ⟨wd, wd0, wd1, rfl, hB, hH⟩
              have HM := Lib.hid (HM.out.gb (gb_ring hB hH))
              clear hB hH k0 k1 k2 hRl
              obtain ⟨k0, k1, k2⟩ := blk3 HM.out.box
              have hRl := HM.out.siz
              have z : ∀ i, w6.frozen? ⟨R, i, none⟩ = false := fun i => frozen_of_row _ _ _ _ _ HM.out.box
              by_cases ca : wd < lo
              · have HG2 := Lib.hid (goodT_snoc (x := ⟨wd, lo, hi⟩) HGT.out ⟨wd0, by omega, by omega, g1, g2, .inl ca⟩)
                have HMa := Lib.hid (HM.out.gb (gb_alloc bl ma n mc w6 (.cells #[.int .i64 wd, .int .i64 lo, .int .i64 hi] 80)))
                clear HM
                go_wp2_with (at_builtin; refine wpList_append_own _ rfl _ _ 23 rfl (R + 1) 80 j0 (.agg #[.int .i64 0, .int .i64 0, .int .i64 0]) 3 24 A_undTs hj0 hy0 hy1 hy2 rfl (by decide) _ _ _ rfl HMa.out.ou ⟨w6.heap.size, 0, none⟩ 1 1 [.int .i64 wd, .int .i64 lo, .int .i64 hi] rfl rfl ?e1 ?e2 ?e3 ?e4 ?e5 ?_)
                case e1 => intro j u hj; exact cell3_new w6 _ _ _ _ j u hj
                case e2 => intro u hu; simp at hu; rcases hu with rfl | rfl | rfl <;> rfl
                case e3 => have := HTL.out; unfold maxLen; omega
                case e4 => have := HTL.out; omega
                case e5 => have := HMa.out.siz; omega
                intro v' w8 hown8 hgrow _
                obtain ⟨vp, vc, rfl⟩ := own_val hown8
                have HM8 := Lib.hid (HMa.out.tapp (x := ⟨wd, lo, hi⟩) hgrow hown8)
                have b3 := blk_grown HMa.out.box HMa.out.ou hgrow (by omega)
                have z8 : ∀ i, w8.frozen? ⟨R, i, none⟩ = false := fun i => frozen_of_row _ _ _ _ _ b3
                have hq8 : R < w8.heap.size := (Array.getElem?_eq_some_iff.1 b3).1
                obtain ⟨q0, q1, q2⟩ := blk3 b3
                clear hgrow hown8 b3 HMa
                go_wp2
                go_roundw
                case rel => exact ⟨k + 1, ts ++ [(⟨wd, lo, hi⟩ : Turn)], _, by simp, by omega, by have := HTL.out; simp; omega, HG2.out, HM8.out⟩
                case measure => simp only [intOf]; omega
              · by_cases cb : wd > hi
                · have HG2 := Lib.hid (goodT_snoc (x := ⟨wd, lo, hi⟩) HGT.out ⟨wd0, by omega, by omega, g1, g2, .inr cb⟩)
                  have HMa := Lib.hid (HM.out.gb (gb_alloc bl ma n mc w6 (.cells #[.int .i64 wd, .int .i64 lo, .int .i64 hi] 80)))
                  clear HM
                  go_wp2_with (at_builtin; refine wpList_append_own _ rfl _ _ 23 rfl (R + 1) 80 j0 (.agg #[.int .i64 0, .int .i64 0, .int .i64 0]) 3 24 A_undTs hj0 hy0 hy1 hy2 rfl (by decide) _ _ _ rfl HMa.out.ou ⟨w6.heap.size, 0, none⟩ 1 1 [.int .i64 wd, .int .i64 lo, .int .i64 hi] rfl rfl ?e1 ?e2 ?e3 ?e4 ?e5 ?_)
                  case e1 => intro j u hj; exact cell3_new w6 _ _ _ _ j u hj
                  case e2 => intro u hu; simp at hu; rcases hu with rfl | rfl | rfl <;> rfl
                  case e3 => have := HTL.out; unfold maxLen; omega
                  case e4 => have := HTL.out; omega
                  case e5 => have := HMa.out.siz; omega
                  intro v' w8 hown8 hgrow _
                  obtain ⟨vp, vc, rfl⟩ := own_val hown8
                  have HM8 := Lib.hid (HMa.out.tapp (x := ⟨wd, lo, hi⟩) hgrow hown8)
                  have b3 := blk_grown HMa.out.box HMa.out.ou hgrow (by omega)
                  have z8 : ∀ i, w8.frozen? ⟨R, i, none⟩ = false := fun i => frozen_of_row _ _ _ _ _ b3
                  have hq8 : R < w8.heap.size := (Array.getElem?_eq_some_iff.1 b3).1
                  obtain ⟨q0, q1, q2⟩ := blk3 b3
                  clear hgrow hown8 b3 HMa
                  go_wp2
                  go_roundw
                  case rel => exact ⟨k + 1, ts ++ [(⟨wd, lo, hi⟩ : Turn)], _, by simp, by omega, by have := HTL.out; simp; omega, HG2.out, HM8.out⟩
                  case measure => simp only [intOf]; omega
                · go_wp2
                  go_roundw
                  case rel => exact ⟨k + 1, ts, _, by simp, by omega, Nat.le_succ_of_le HTL.out, HGT.out, HM.out⟩
                  case measure => simp only [intOf]; omega
        · have hkk : k = Y := by omega
          have z8 : ∀ i, wo3.frozen? ⟨w.heap.size, i, none⟩ = false := fun i => frozen_of_row _ _ _ _ _ hM.res
          have hq8 : w.heap.size < wo3.heap.size := by omega
          obtain ⟨p0, p1, p2⟩ := blk3 hM.res
          clear hM hgt htl
          go_wp2
          obtain ⟨W3, hW3⟩ : ∃ W3, W3 = ((wo3.setCell ⟨w.heap.size, 0, none⟩ (.slice p5 ws.length c5)).setCell ⟨w.heap.size, 1, none⟩ (.slice q5 ts.length d5)).setCell ⟨w.heap.size, 2, none⟩ (.int .i64 br) := ⟨_, rfl⟩
          rw [← hW3]
          have hx1 : W3.heap[w.heap.size]? = some (.cells #[.slice p5 ws.length c5, .slice q5 ts.length d5, .int .i64 br] 25 (0, 0)) := by
            rw [hW3]; exact heap_set_same _ (heap_set_same _ (heap_set_same _ HM.out.res))
          have c0 := blk_cells hx1 0 _ rfl
          have c1 := blk_cells hx1 1 _ rfl
          have c2 := blk_cells hx1 2 _ rfl
          exact bodyPost_ret (v := .agg #[.slice p5 ws.length c5, .slice q5 ts.length d5, .int .i64 br]) (by simp [results, Try.results54, go_sem, c0, c1, c2]) rfl (by rw [hW3]; exact HM.out.post hw1 hww hw12 (Nat.le_trans HTL.out (by omega)) (by omega) ⟨br0, br1⟩ HGW.out HGT.out)
end Go.Proofs.Ytadnggecnjdhiaa
set_option linter.unusedSimpArgs false
set_option linter.unusedVariables false
namespace Go.Proofs.Ytadnggecnjdhiaa
open Go.RowKit Tx

theorem snoc1 {l : List Int} {x : Int} (h : ∀ y ∈ l, 1 ≤ y) (hx : 1 ≤ x) : ∀ y ∈ l ++ [x], 1 ≤ y := fun y hy => (List.mem_append.1 hy).elim (h y) (fun h => (List.mem_singleton.1 h) ▸ hx)
/-- a reading that is being tried -/
structure TrS (w : World) (bl : Nat) (ma : Option Addr) (n mc : Nat) (bx : Obj) (v : Value) (l : List Int) (W : World) : Prop where
  box : W.heap[w.heap.size]? = some bx
  ow : W.ownsRow (w.heap.size + 1) 3 1 v l.length (l.map (Value.int .i64))
  bell : BellOk W bl ma n mc
  hold : Hold (fun k => k ≠ bl) w W
  siz : w.heap.size + 1 ≤ W.heap.size
  blt : bl < w.heap.size
  mlt : n ≠ 0 → ∀ mb mo, ma = some ⟨mb, mo, none⟩ → mb < w.heap.size
theorem TrS.gb {w : World} {bl : Nat} {ma : Option Addr} {n mc : Nat} {bx : Obj} {v : Value} {l : List Int} {W W' : World} (h : TrS w bl ma n mc bx v l W) (g : GB bl ma n mc W W') : TrS w bl ma n mc bx v l W' := by
  have hs := h.siz
  have hb := h.blt
  exact ⟨(g.1.same _ (show w.heap.size ≠ bl by omega) (by omega)).trans h.box, own_hold h.ow g.1 (fun k hk => by show k ≠ bl; omega), g.2 h.bell, h.hold.trans g.1, Nat.le_trans hs g.1.size, hb, h.mlt⟩
theorem TrS.app {w : World} {bl : Nat} {ma : Option Addr} {n mc : Nat} {bx : Obj} {v v' : Value} {l : List Int} {x : Int} {W W' : World} (h : TrS w bl ma n mc bx v l W) (hg : W.grownBy W' v.ownBlock) (ho : W'.ownsRow (w.heap.size + 1) 3 1 v' (l.length + 1) ((l ++ [x]).map (Value.int .i64))) : TrS w bl ma n mc bx v' (l ++ [x]) W' := by
  have hs := h.siz
  have hb := h.blt
  have hB : Below (w.heap.size + 1) W W' := below_grown (Below.refl _ W) h.ow (Nat.le_refl _) hs hg
  have hh : Hold (fun k => k < w.heap.size + 1) W W' := .of_below hB (fun k hk _ => hk)
  exact ⟨(hB.block _ (by omega)).trans h.box, by rw [List.length_append]; exact ho, h.bell.hold hh (by show bl < w.heap.size + 1; omega) (fun hn mb mo e => by show mb < w.heap.size + 1; have := h.mlt hn mb mo e; omega),
    ⟨hB.os.trans h.hold.os, hB.tape.trans h.hold.tape, hB.output.trans h.hold.output, Nat.le_trans h.hold.size hB.size, fun k hk hl => (hB.block k (by omega)).trans (h.hold.same k hk hl)⟩, Nat.le_trans hs hB.size, hb, h.mlt⟩
theorem Wds.hold {w w' : World} {p : Option Addr} {ws : List Word} {bl : Nat} (h : Wds w p ws) (hp : ∀ b o, p = some ⟨b, o, none⟩ → b ≠ bl) (hh : Hold (fun k => k ≠ bl) w w') : Wds w' p ws := by
  rcases h with h | ⟨b, o, rfl, hl, h⟩
  · exact .inl h
  · have hb := hp b o rfl
    exact .inr ⟨b, o, rfl, Nat.lt_of_lt_of_le hl hh.size, fun i hi => ⟨(hh.cell (p := ⟨b, o + i * 3, none⟩) hb hl).trans (h i hi).1, (hh.cell (p := ⟨b, o + i * 3 + 1, none⟩) hb hl).trans (h i hi).2.1, (hh.cell (p := ⟨b, o + i * 3 + 2, none⟩) hb hl).trans (h i hi).2.2⟩⟩
/-- what tried leaves -/
def TriedPost (w : World) (bl : Nat) (ma : Option Addr) (n mc : Nat) (L : Nat) (e : Ending) (w' : World) : Prop :=
  ∃ (v : Value) (l : List Int), e = .returned v ∧ Hid (w'.ownsRow w.heap.size 3 1 v l.length (l.map (Value.int .i64))) ∧ Hid (Parts L l) ∧ Hid (BellOk w' bl ma n mc) ∧ Hid (Hold (fun k => k ≠ bl) w w')
set_option maxHeartbeats 4000000 in
set_option maxRecDepth 100000 in
theorem tried_any (bl : Nat) (ma : Option Addr) (n mc : Nat) (ws : List Word) (hn1 : 1 ≤ ws.length) (hn12 : ws.length ≤ 1000) (v1 v2 : Value) (pw : Option Addr) (cw : Nat) (w : World) (hb : BellOk w bl ma n mc) (hma : n ≠ 0 → ∀ mb mo, ma = some ⟨mb, mo, none⟩ → mb < w.heap.size) (hW : Wds w pw ws) (hpw : ∀ b o, pw = some ⟨b, o, none⟩ → b ≠ bl) :
    Calls Try.prog 60 #[.pointer (some ⟨bl, 0, none⟩), .agg #[.slice pw ws.length cw, v1, v2]] w (TriedPost w bl ma n mc ws.length) := by
  obtain ⟨i0, hi0, hz0, hz1, hz2⟩ := info_parts A_infoI
  have hl := hb.lt
  have hS0 : TrS w bl ma n mc (.cells #[.slice pw ws.length cw, v1, v2] 25 (0, 0)) (.slice none 0 0) [] (w.alloc (.cells #[.slice pw ws.length cw, v1, v2] 25)) :=
    ⟨heap_last _ _, own_none _ _ _ _, hb.below (below1 _ _), Hold.alloc _ _, by simp, hl, hma⟩
  have HS := Lib.hid hS0
  have HW := Lib.hid (fun W (h : Hold (fun k => k ≠ bl) w W) => hW.hold hpw h)
  clear hS0 hb hma hW hpw
  go_enter Try.func60, Try.ntmps60
  go_wp2_with fail
  refine (strike_any bl ma n mc 1 3 2 (by omega) (by omega) (by omega) (by omega) _ HS.out.bell).mono ?_
  rintro e w1 ⟨of, of0, of1, rfl, hB, hH⟩
  have HS := Lib.hid (HS.out.gb (gb_ring hB hH))
  obtain ⟨of, rfl⟩ : ∃ N : Nat, of = (N : Int) := ⟨of.toNat, by omega⟩
  have hbx := HS.out.box
  obtain ⟨k0, k1, k2⟩ := blk3 hbx
  clear hB hH hbx
  go_wp2_with fail
  clear k0 k1 k2
  go_loopw [5, 6, 15] (fun v s i wr => ∃ (k : Nat) (l : List Int) (c : Nat), k ≤ ws.length ∧ i = .int .i64 k ∧ s = .int .i64 c ∧ isum l + c = k ∧ (∀ x ∈ l, 1 ≤ x) ∧ c ≤ k ∧ (k = ws.length → c = 0) ∧ TrS w bl ma n mc (.cells #[.slice pw ws.length cw, v1, v2] 25 (0, 0)) v l wr) (fun _ _ i _ => ws.length - (intOf i).toNat)
  case atStart => exact ⟨0, [], 0, Nat.zero_le _, rfl, rfl, by simp [isum], (fun x hx => by cases hx), Nat.le_refl _, fun _ => rfl, HS.out⟩
  case round =>
    clear HS
    obtain ⟨w3, rfl⟩ : ∃ w3 : World, w3 = wr := ⟨_, rfl⟩
    obtain ⟨k, l, c, hk, rfl, rfl, hsum, hl1, hck, hcz, hS⟩ := hrel
    have HL1 := Lib.hid hl1
    by_cases hlt : k < ws.length
    · have hlt' : (k : Int) < ws.length := by omega
      have hll := isum_ge hl1
      have hll2 : l.length ≤ 1000 := by omega
      obtain ⟨bb, o, x, rfl, hbb, hxx, c1, c2, c3⟩ := (HW.out _ hS.hold).at hlt
      obtain ⟨xa, xb, xc⟩ := x
      dsimp only at c1 c2 c3
      have hsz := hS.siz
      have hq3 : w.heap.size < w3.heap.size := by omega
      have hbx := hS.box
      obtain ⟨k0, k1, k2⟩ := blk3 hbx
      have HS := Lib.hid (hS.gb (gb_alloc bl ma n mc w3 (.cells #[.int .i64 xa, .int .i64 xb, .bool xc] 77)))
      have hsub : IntKind.i64.wrap ((ws.length : Int) - 1) = (ws.length : Int) - 1 := IntWalk.i64_in _ (by omega)
      clear hl1 hS hxx hbx hll
      by_cases hlast : (k : Int) = (ws.length : Int) - 1
      · have hla : ((k : Int) == (ws.length : Int) - 1) = true := by rw [beq_iff_eq]; exact hlast
        clear hlast
        go_wp2_with (at_builtin; refine wpList_append_own _ rfl _ _ 28 rfl (w.heap.size + 1) 3 i0 (.int .i64 0) 1 8 A_undI hi0 hz0 hz1 hz2 rfl (by decide) _ _ _ rfl (HS.out.ow.alloc _) ⟨w3.heap.size + 1, 0, none⟩ 1 1 [.int .i64 ((c : Int) + 1)] rfl rfl ?d1 ?d2 ?d3 ?d4 ?d5 ?_)
        case d1 => intro j u hj; have := cell_one_new (w3.alloc (.cells #[.int .i64 xa, .int .i64 xb, .bool xc] 77)) (.int .i64 ((c : Int) + 1)) 3 j u hj; simpa using this
        case d2 => first | rfl | (intro u hu; simp at hu; subst hu; rfl)
        case d3 => unfold maxLen; omega
        case d4 => omega
        case d5 => have := HS.out.siz; simp; omega
        intro v' w8 hown8 hgrow _
        have HS8 := Lib.hid ((HS.out.gb (gb_alloc bl ma n mc _ (.cells #[.int .i64 ((c : Int) + 1)] 3))).app (x := (c : Int) + 1) hgrow (by simpa using hown8))
        clear hgrow hown8 HS
        go_wp2
        go_roundw
        case rel => exact ⟨k + 1, l ++ [(c : Int) + 1], 0, by omega, by go_num, rfl, by rw [isum_snoc]; omega, snoc1 HL1.out (by omega), Nat.zero_le _, fun _ => rfl, HS8.out⟩
        case measure => simp [intOf]; omega
      · have hla : ((k : Int) == (ws.length : Int) - 1) = false := by rw [beq_eq_false_iff_ne]; exact hlast
        have hkl : k + 1 < ws.length := by omega
        clear hlast
        cases xc with
        | true =>
          go_wp2_with fail
          refine (seldom_any bl ma n mc of (by omega) (by omega) _ HS.out.bell).mono ?_
          rintro e w6 ⟨xw6, rfl, hB, hH⟩
          have HS := Lib.hid (HS.out.gb (gb_ring hB hH))
          have hbx := HS.out.box
          obtain ⟨k0, k1, k2⟩ := blk3 hbx
          clear hB hH hbx
          cases xw6 with
          | true =>
            go_wp2_with (at_builtin; refine wpList_append_own _ rfl _ _ 28 rfl (w.heap.size + 1) 3 i0 (.int .i64 0) 1 8 A_undI hi0 hz0 hz1 hz2 rfl (by decide) _ _ _ rfl (HS.out.ow.alloc _) ⟨w6.heap.size, 0, none⟩ 1 1 [.int .i64 ((c : Int) + 1)] rfl rfl ?d1 ?d2 ?d3 ?d4 ?d5 ?_)
            try (case d1 => exact cell_one_new _ _ _)
            case d2 => first | rfl | (intro u hu; simp at hu; subst hu; rfl)
            case d3 => unfold maxLen; omega
            case d4 => omega
            case d5 => have := HS.out.siz; simp; omega
            intro v' w8 hown8 hgrow _
            have HS8 := Lib.hid ((HS.out.gb (gb_alloc bl ma n mc _ (.cells #[.int .i64 ((c : Int) + 1)] 3))).app (x := (c : Int) + 1) hgrow (by simpa using hown8))
            clear hgrow hown8 HS
            go_wp2
            go_roundw
            case rel => exact ⟨k + 1, l ++ [(c : Int) + 1], 0, by omega, by go_num, rfl, by rw [isum_snoc]; omega, snoc1 HL1.out (by omega), Nat.zero_le _, fun _ => rfl, HS8.out⟩
            case measure => simp [intOf]; omega
          | false =>
            go_wp2_with fail
            refine (seldom_any bl ma n mc 12 (by omega) (by omega) _ HS.out.bell).mono ?_
            rintro e w7 ⟨xw7, rfl, hB, hH⟩
            have HS := Lib.hid (HS.out.gb (gb_ring hB hH))
            have hbx := HS.out.box
            obtain ⟨k0, k1, k2⟩ := blk3 hbx
            clear hB hH hbx
            cases xw7 with
            | true =>
              go_wp2_with (at_builtin; refine wpList_append_own _ rfl _ _ 28 rfl (w.heap.size + 1) 3 i0 (.int .i64 0) 1 8 A_undI hi0 hz0 hz1 hz2 rfl (by decide) _ _ _ rfl (HS.out.ow.alloc _) ⟨w7.heap.size, 0, none⟩ 1 1 [.int .i64 ((c : Int) + 1)] rfl rfl ?d1 ?d2 ?d3 ?d4 ?d5 ?_)
              try (case d1 => exact cell_one_new _ _ _)
              case d2 => first | rfl | (intro u hu; simp at hu; subst hu; rfl)
              case d3 => unfold maxLen; omega
              case d4 => omega
              case d5 => have := HS.out.siz; simp; omega
              intro v' w8 hown8 hgrow _
              have HS8 := Lib.hid ((HS.out.gb (gb_alloc bl ma n mc _ (.cells #[.int .i64 ((c : Int) + 1)] 3))).app (x := (c : Int) + 1) hgrow (by simpa using hown8))
              clear hgrow hown8 HS
              go_wp2
              go_roundw
              case rel => exact ⟨k + 1, l ++ [(c : Int) + 1], 0, by omega, by go_num, rfl, by rw [isum_snoc]; omega, snoc1 HL1.out (by omega), Nat.zero_le _, fun _ => rfl, HS8.out⟩
              case measure => simp [intOf]; omega
            | false =>
              go_wp2
              go_roundw
              case rel => exact ⟨k + 1, l, c + 1, by omega, by go_num, by go_num, by omega, HL1.out, by omega, fun h => by omega, HS.out⟩
              case measure => simp [intOf]; omega
        | false =>
          go_wp2_with fail
          refine (seldom_any bl ma n mc 12 (by omega) (by omega) _ HS.out.bell).mono ?_
          rintro e w7 ⟨xw7, rfl, hB, hH⟩
          have HS := Lib.hid (HS.out.gb (gb_ring hB hH))
          have hbx := HS.out.box
          obtain ⟨k0, k1, k2⟩ := blk3 hbx
          clear hB hH hbx
          cases xw7 with
          | true =>
            go_wp2_with (at_builtin; refine wpList_append_own _ rfl _ _ 28 rfl (w.heap.size + 1) 3 i0 (.int .i64 0) 1 8 A_undI hi0 hz0 hz1 hz2 rfl (by decide) _ _ _ rfl (HS.out.ow.alloc _) ⟨w7.heap.size, 0, none⟩ 1 1 [.int .i64 ((c : Int) + 1)] rfl rfl ?d1 ?d2 ?d3 ?d4 ?d5 ?_)
            try (case d1 => exact cell_one_new _ _ _)
            case d2 => first | rfl | (intro u hu; simp at hu; subst hu; rfl)
            case d3 => unfold maxLen; omega
            case d4 => omega
            case d5 => have := HS.out.siz; simp; omega
            intro v' w8 hown8 hgrow _
            have HS8 := Lib.hid ((HS.out.gb (gb_alloc bl ma n mc _ (.cells #[.int .i64 ((c : Int) + 1)] 3))).app (x := (c : Int) + 1) hgrow (by simpa using hown8))
            clear hgrow hown8 HS
            go_wp2
            go_roundw
            case rel => exact ⟨k + 1, l ++ [(c : Int) + 1], 0, by omega, by go_num, rfl, by rw [isum_snoc]; omega, snoc1 HL1.out (by omega), Nat.zero_le _, fun _ => rfl, HS8.out⟩
            case measure => simp [intOf]; omega
          | false =>
            go_wp2
            go_roundw
            case rel => exact ⟨k + 1, l, c + 1, by omega, by go_num, by go_num, by omega, HL1.out, by omega, fun h => by omega, HS.out⟩
            case measure => simp [intOf]; omega
    · have hkk : k = ws.length := by omega
      have hc0 := hcz hkk
      have HP := Lib.hid (show Parts ws.length l from ⟨hl1, by omega⟩)
      have HS := Lib.hid hS
      clear hS hl1 hcz hkk
      go_wp2
      go_ret
      exact ⟨_, l, rfl, Lib.hid (own_base HS.out.ow (by omega)), HP, Lib.hid HS.out.bell, Lib.hid HS.out.hold⟩
end Go.Proofs.Ytadnggecnjdhiaa
set_option linter.unusedSimpArgs false
set_option linter.unusedVariables false
namespace Go.Proofs.Ytadnggecnjdhiaa
open Go.RowKit Tx

/-- bytes that can be read -/
def Bytes (w : World) (p : Option Addr) (n : Nat) : Prop := n ≠ 0 → ∃ mb mo, p = some ⟨mb, mo, none⟩ ∧ mb < w.heap.size ∧ ∀ i, i < n → ∃ x : Int, 0 ≤ x ∧ x ≤ 255 ∧ w.cell? ⟨mb, mo + i, none⟩ = some (.int .u8 x)
theorem Bytes.below {w w' : World} {p : Option Addr} {n : Nat} (h : Bytes w p n) (hb : Below w.heap.size w w') : Bytes w' p n := fun hn => by
  obtain ⟨mb, mo, e, l, hc⟩ := h hn
  exact ⟨mb, mo, e, Nat.lt_of_lt_of_le l hb.size, fun i hi => by obtain ⟨x, x0, x1, hx⟩ := hc i hi; exact ⟨x, x0, x1, (hb.cell (p := ⟨mb, mo + i, none⟩) l).trans hx⟩⟩
theorem bell_new (w : World) (p : Option Addr) (n c : Nat) (h : Bytes w p n) (hn : n ≤ 9223372036854775807) : BellOk (w.alloc (.cells #[.slice p n c, .int .i64 0, .int .u32 0] 159)) w.heap.size p n c := by
  refine ⟨0, 0, ⟨heap_last _ _, Nat.zero_le _, hn, by omega, by omega, fun h0 => ?_⟩⟩
  obtain ⟨mb, mo, e, l, hc⟩ := h h0
  refine ⟨mb, mo, e, by simp; omega, by omega, fun i hi => ?_⟩
  obtain ⟨x, x0, x1, hx⟩ := hc i hi
  exact ⟨x, x0, x1, ((below1 w _).cell (p := ⟨mb, mo + i, none⟩) l).trans hx⟩
/-- what a world keeps that goes on with a bell that was hung in it -/
theorem hold_below {B : Nat} {w w' : World} (h : Hold (fun k => k ≠ B) w w') (hB : B ≤ w.heap.size) : Below B w w' :=
  ⟨h.os, h.tape, h.output, h.size, fun k hk => h.same k (show k ≠ B by omega) (by omega)⟩
theorem bytes_hold {w w' : World} {p : Option Addr} {n B : Nat} (h : Bytes w p n) (hB : w.heap.size ≤ B) (hh : Hold (fun k => k ≠ B) w w') : Bytes w' p n :=
  h.below ⟨hh.os, hh.tape, hh.output, hh.size, fun k hk => hh.same k (show k ≠ B by omega) hk⟩
/-- what Made leaves, as the laws need it -/
def MadeOk (w : World) (bl : Nat) (ma : Option Addr) (n mc : Nat) (words turns : Nat) (e : Ending) (w' : World) : Prop :=
  ∃ (t : Text) (p q : Option Addr) (c d : Nat), e = .returned (.agg #[.slice p t.words.length c, .slice q t.turns.length d, .int .i64 t.breath]) ∧ Hid (TxAt w' t p q) ∧ Hid (t.words.length ≤ c ∧ c ≤ maxLen) ∧ Hid (t.turns.length ≤ d ∧ d ≤ maxLen) ∧ Hid (t.err = 0) ∧ Hid (Text.Ok t) ∧ Hid (t.words.length ≤ words) ∧ Hid (t.turns.length ≤ turns) ∧ Hid (BellOk w' bl ma n mc) ∧ Hid (Hold (fun k => k ≠ bl) w w')
theorem made_ok {bl : Nat} {ma : Option Addr} {n mc : Nat} {words turns : Nat} (h1 : 1 ≤ words) (h12 : words ≤ 12) (ht6 : turns ≤ 6) (w : World) (hb : BellOk w bl ma n mc) (hma : n ≠ 0 → ∀ mb mo, ma = some ⟨mb, mo, none⟩ → mb < w.heap.size) :
    Calls Try.prog 54 #[.pointer (some ⟨bl, 0, none⟩), .int .i64 words, .int .i64 turns] w (MadeOk w bl ma n mc words turns) := by
  refine (made_any bl ma n mc words turns h1 h12 ht6 w hb hma).mono ?_
  rintro e w' ⟨t, p, q, c, d, rfl, ho, hu, he, hw, ht, hB, hH⟩
  obtain ⟨p', c', e1, h1, h2⟩ := own_wds ho.out rfl
  obtain ⟨q', d', e2, h3, h4⟩ := own_tns hu.out rfl
  injection e1 with e1 _ e3
  injection e2 with e2 _ e4
  subst e1 e2 e3 e4
  exact ⟨t, p, q, c, d, rfl, Lib.hid ⟨h1, h3⟩, Lib.hid h2, Lib.hid h4, he, Lib.hid (err_ok he.out), hw, ht, hB, hH⟩
set_option maxHeartbeats 4000000 in
set_option maxRecDepth 100000 in
/-- a bell is hung, and a text is made: how the outright laws begin -/
theorem hang_made (pn : Option Addr) (nn cn : Nat) (hnn : nn ≤ 9223372036854775807) (w : World) (hN : Bytes w pn nn) :
    BellOk (w.alloc (.cells #[.slice pn nn cn, .int .i64 0, .int .u32 0] 159)) w.heap.size pn nn cn ∧ (nn ≠ 0 → ∀ mb mo, pn = some ⟨mb, mo, none⟩ → mb < (w.alloc (.cells #[.slice pn nn cn, .int .i64 0, .int .u32 0] 159)).heap.size) := by
  refine ⟨bell_new w pn nn cn hN hnn, fun h0 mb mo e => ?_⟩
  obtain ⟨mb', mo', e', l, _⟩ := hN h0
  rw [e'] at e
  injection e with e
  injection e with e _ _
  subst e
  simp; omega
end Go.Proofs.Ytadnggecnjdhiaa
namespace Go.Proofs.Ytadnggecnjdhiaa
open Go.ChangeShapes Go.WideShapes Go.ChangeAt Go.RowKit Go.Joins Go.Deep Tx
set_option linter.unusedVariables false
set_option linter.unusedSimpArgs false

theorem cellsU8 : Try.prog.cellsOf 5 = 1 := by kernel_rfl
section
variable {H : Type} {enc : TypeId × Value → H} {W : World} {base : Nat} {spare : Nat → Bool} {held : Bool}
set_option maxRecDepth 100000 in
/-- bytes that came in -/
theorem bytes_of_trod (hsp : ∀ b, spare b = true) {fuel : Nat} {v : Value} {x : DataW H × List MemPlace}
    (h : DataW.trod enc Try.prog W base spare held fuel 88 [v] = some x) : ∃ ma n mc, v = .slice ma n mc ∧ n ≤ 9223372036854775807 ∧ Bytes W ma n := by
  rcases open_ints Try.underlying88 Try.underlying5 cellsU8 h with ⟨hcs, _⟩ | ⟨a, l, c, zs, hcs, _, hl, hm, hz, _, hcell, hwz⟩
  · injection hcs with hcs
    subst hcs
    exact ⟨none, 0, 0, rfl, by omega, fun h => absurd rfl h⟩
  · injection hcs with hcs
    subst hcs
    rw [hsp, if_pos rfl] at hz
    have hm' : l ≤ 9223372036854775807 := by have : maxLen = 9223372036854775807 := rfl; omega
    refine ⟨some a, l, c, rfl, hm', fun hn => ?_⟩
    obtain ⟨b, off, rfl, hc⟩ := ints_at hcell (by omega)
    refine ⟨b, off, rfl, cell_lt (hc 0 (by omega)), fun i hi => ?_⟩
    have hw : (Lit.int .u8 (zs.getD i 0)).wf = true := by
      have hi2 : i < zs.length := by omega
      rw [List.getD_eq_getElem?_getD, List.getElem?_eq_getElem hi2]
      exact hwz _ (List.getElem_mem hi2)
    have := bounds_u8 hw
    exact ⟨_, this.1, this.2, hc i (by omega)⟩
set_option maxRecDepth 100000 in
theorem bytes_of_Trod (hsp : ∀ b, spare b = true) {v : Value} {d : DataW H} {p : List MemPlace} {r : Reach} {b0 : Nat} (hv : Value.okWide Try.prog W r b0 88 v) (h : DataW.Trod enc Try.prog W base spare held 88 v d p) :
    ∃ a n cap, v = .slice a n cap ∧ n ≤ 9223372036854775807 ∧ Bytes W a n := by
  obtain ⟨a0, l0, c0, rfl⟩ : ∃ a l c, v = .slice a l c := by
    exact okWide_slice Try.underlying88 hv
  obtain ⟨fuel, hf⟩ := h
  exact bytes_of_trod hsp (by simpa [Value.cells] using hf)
end
end Go.Proofs.Ytadnggecnjdhiaa
