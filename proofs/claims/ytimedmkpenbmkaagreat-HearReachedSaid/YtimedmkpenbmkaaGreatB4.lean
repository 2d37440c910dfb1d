import Derived.Test.YtimedmkpenbmkaaGreatB1
import Derived.MapKept
namespace Go.Proofs.YtimedmkpenbmkaaGreat
open Go.RowKit Go.Shelf
set_option linter.unusedSimpArgs false
set_option linter.unusedVariables false

/-! numbers: rows of eleven -/
def numV (f : Nat → Int) : Array Value := ((List.range 11).map fun i => Value.int .i64 (f i)).toArray
theorem numV_size (f : Nat → Int) : (numV f).size = 11 := by simp [numV]
theorem numV_get (f : Nat → Int) {j : Nat} (hj : j < 11) : (numV f)[j]? = some (.int .i64 (f j)) := by simp [numV, hj]
theorem numV_congr {f g : Nat → Int} (h : ∀ s, s < 11 → f s = g s) : numV f = numV g := by
  unfold numV; congr 1; apply List.map_congr_left; intro s hs; rw [h s (List.mem_range.1 hs)]
theorem numV_set {f g : Nat → Int} {j : Nat} (hj : j < 11) {n : Int} (hn : g j = n) (h : ∀ s, s < 11 → s ≠ j → g s = f s) : (numV f).setIfInBounds j (.int .i64 n) = numV g := by
  apply Array.ext_getElem?
  intro i
  rw [Array.getElem?_setIfInBounds]
  by_cases hi : i < 11
  · by_cases hji : j = i
    · subst hji; rw [if_pos rfl, if_pos (by rw [numV_size]; exact hj), numV_get _ hj, hn]
    · rw [if_neg hji, numV_get _ hi, numV_get _ hi, h i hi (Ne.symm hji)]
  · rw [if_neg (by omega), Array.getElem?_eq_none (by rw [numV_size]; omega), Array.getElem?_eq_none (by rw [numV_size]; omega)]
theorem numV_one (f : Nat → Int) : (numV f).all (·.oneCell') = true := by
  unfold numV; rw [Array.all_eq_true]; intro i hi; simp; rfl
theorem numV_zero : numV (fun _ => 0) = Array.replicate 11 (.int .i64 0) := by
  apply Array.ext_getElem?
  intro j
  by_cases hj : j < 11
  · rw [numV_get _ hj]; simp [hj]
  · rw [Array.getElem?_eq_none (by rw [numV_size]; omega)]; simp [hj]
theorem und176 : Tryz.prog.underlying 165 = some (.array 11 3) := by kernel_rfl
theorem size176 : (Tryz.prog.info? 165).map (·.size) = some 11 := by kernel_rfl
theorem zero176 (w : World) : (zeroValue 165).run Tryz.prog w = .ok (.agg (Array.replicate 11 (.int .i64 0))) w := by kernel_rfl
theorem und193 : Tryz.prog.underlying 182 = some (.map 3 165) := by kernel_rfl
theorem und3 : Tryz.prog.underlying 3 = some (.int .i64) := by kernel_rfl

/-- what the memo tells of a set -/
def mstL (cs : List Crowd) (set : Nat) : List Int := mst cs cs.length set
def mstV (cs : List Crowd) (set : Nat) : Array Value := numV fun i => (mstL cs set).getD i 0
def stepM (cs : List Crowd) (set : Nat) (best : List Int) (m : Nat) : List Int := if set ||| m = set then best else bump best (mstL cs (set ||| m))
theorem mstL_eq (cs : List Crowd) (set : Nat) : mstL cs set = (srvs cs).foldl (stepM cs set) (List.replicate 11 (mny cs set cs.length)) := by
  unfold mstL
  rw [mst_stable cs cs.length (cs.length + 1) set (missing_le _ _) (Nat.le_trans (missing_le _ _) (Nat.le_succ _)), mst]
  rfl
theorem stepM_len {cs : List Crowd} {set : Nat} {best : List Int} (h : best.length = 11) (m : Nat) : (stepM cs set best m).length = 11 := by
  unfold stepM
  split
  · exact h
  · exact bump_len h (mst_len _ _ _)
theorem foldM_len (cs : List Crowd) (set : Nat) : ∀ (l : List Nat) (b : List Int), b.length = 11 → (l.foldl (stepM cs set) b).length = 11
  | [], _, h => h
  | m :: l, b, h => foldM_len cs set l _ (stepM_len h m)
theorem stepM_bd {cs : List Crowd} (hok : CrOk cs) {set : Nat} {best : List Int} (h : ∀ x ∈ best, 0 ≤ x ∧ x ≤ 900) (m : Nat) : ∀ x ∈ stepM cs set best m, 0 ≤ x ∧ x ≤ 900 := by
  unfold stepM
  split
  · exact h
  · intro x hx
    rcases mem_bump hx with h1 | h1
    · exact h x h1
    · exact mst_bd hok _ _ x h1
theorem foldM_bd {cs : List Crowd} (hok : CrOk cs) (set : Nat) : ∀ (l : List Nat) (b : List Int), (∀ x ∈ b, 0 ≤ x ∧ x ≤ 900) → ∀ x ∈ l.foldl (stepM cs set) b, 0 ≤ x ∧ x ≤ 900
  | [], _, h => h
  | m :: l, b, h => foldM_bd hok set l _ (stepM_bd hok h m)
theorem bump_get {best thn : List Int} (h : best.length = 11) (h2 : thn.length = 11) {i : Nat} (hi : i < 11) : (bump best thn).getD i 0 = if i = 0 then best.getD 0 0 else max (best.getD i 0) (thn.getD (i - 1) 0) := by
  match best, h with
  | b :: r, h =>
    cases i with
    | zero => simp [bump]
    | succ i =>
      rw [if_neg (by omega)]
      simp at h
      have h1 : i < r.length := by omega
      have h3 : i < thn.length := by omega
      simp [bump, List.getD_eq_getElem?_getD, List.getElem?_eq_getElem h1, List.getElem?_eq_getElem h3, List.getElem?_zipWith]
theorem getD_rep (n : Int) {i : Nat} (hi : i < 11) : (List.replicate 11 n).getD i 0 = n := by
  rw [List.getD_eq_getElem?_getD, List.getElem?_replicate, if_pos hi]; rfl

/-! the memo itself -/
def GoodE (cs : List Crowd) (es : List MapEntry) : Prop := ∀ e ∈ es, ∃ s : Nat, e.key = .int .i64 s ∧ e.val = .agg (mstV cs s)
theorem find_now {cs : List Crowd} (s : Nat) : ∀ (es : List MapEntry) (i : Nat), GoodE cs es → Instr.findNow (.int .i64) (.int .i64 s) es i = some none ∨ ∃ j e, e ∈ es ∧ e.key = .int .i64 s ∧ es[j]? = some e ∧ Instr.findNow (.int .i64) (.int .i64 s) es i = some (some (i + j, e.val))
  | [], i, _ => .inl rfl
  | e :: es, i, h => by
    obtain ⟨s', hk, hv⟩ := h e (by simp)
    rcases find_now s es (i + 1) (fun e' he => h e' (by simp [he])) with h1 | ⟨j, e', h1, h2, h3, h4⟩
    · by_cases hs : s = s'
      · refine .inr ⟨0, e, by simp, by rw [hs]; exact hk, rfl, ?_⟩
        simp [Instr.findNow, hk, Instr.sameNow, hs]
      · refine .inl ?_
        have : ((s : Int) == (s' : Int)) = false := by simp; omega
        simp [Instr.findNow, hk, Instr.sameNow, this, h1]
    · by_cases hs : s = s'
      · refine .inr ⟨0, e, by simp, by rw [hs]; exact hk, rfl, ?_⟩
        simp [Instr.findNow, hk, Instr.sameNow, hs]
      · refine .inr ⟨j + 1, e', by simp [h1], h2, by simpa using h3, ?_⟩
        have : ((s : Int) == (s' : Int)) = false := by simp; omega
        simp [Instr.findNow, hk, Instr.sameNow, this, h4]; omega
theorem check3 (e : Bool) (d : Int) (w : World) : (Instr.checkKey e 10000 3 (.int .i64 d)).run Tryz.prog w = .ok () w := by kernel_rfl
theorem run_findKey {s : Nat} {es : List MapEntry} {r : Option (Nat × Value)} (h : Instr.findNow (.int .i64) (.int .i64 s) es 0 = some r) (w : World) : (Instr.findKey 3 (.int .i64 s) es).run Tryz.prog w = .ok r w := by
  unfold Instr.findKey
  simp only [Sem.run_bind, run_underlying und3, Result.andThen_ok, h, Sem.run_pure]
theorem look_memo {w : World} {r : Nat} {es : Array MapEntry} {c : Nat} {cs : List Crowd} (h : w.heap[r]? = some (.map es c)) (hg : GoodE cs es.toList) (s : Nat) :
    (Instr.lookup 182 (.map (some r)) (.int .i64 s) true).run Tryz.prog w = .ok (.tuple #[.agg (mstV cs s), .bool true]) w ∨
    (Instr.lookup 182 (.map (some r)) (.int .i64 s) true).run Tryz.prog w = .ok (.tuple #[.agg (Array.replicate 11 (.int .i64 0)), .bool false]) w := by
  have hgo := run_getObj_map (P := Tryz.prog) h
  have hck : ∀ e d, (Instr.checkKey e 10000 3 (.int .i64 d)).run Tryz.prog w = .ok () w := fun e d => check3 _ _ _
  unfold Instr.lookup
  rcases find_now s es.toList 0 hg with h1 | ⟨j, e, h1, h2, h3, h4⟩
  · have hf := run_findKey h1 w
    right
    simp only [Sem.run_bind, run_underlying und193, Result.andThen_ok, hgo, hck, hf, Sem.run_pure, zero176, if_true]
  · have hf := run_findKey h4 w
    obtain ⟨s', hk, hv⟩ := hg e h1
    have : s = s' := by have h5 := (Value.int.inj (h2.symm.trans hk)).2; omega
    subst this
    left
    simp only [Sem.run_bind, run_underlying und193, Result.andThen_ok, hgo, hck, hf, Sem.run_pure, hv, if_true]
theorem good_push {cs : List Crowd} {es : Array MapEntry} (h : GoodE cs es.toList) (s b : Nat) : GoodE cs (es.push ⟨.int .i64 s, .agg (mstV cs s), b⟩).toList := by
  intro e he
  rw [Array.toList_push] at he
  rcases List.mem_append.1 he with he | he
  · exact h e he
  · rw [List.mem_singleton.1 he]; exact ⟨s, rfl, rfl⟩
theorem good_modify {cs : List Crowd} {es : Array MapEntry} (h : GoodE cs es.toList) (s j : Nat) : GoodE cs (es.modify j fun e => { e with key := .int .i64 s, val := .agg (mstV cs s) }).toList := by
  intro e he
  obtain ⟨i, hi, rfl⟩ := List.getElem_of_mem he
  have hi' : i < es.size := by simpa using hi
  by_cases hj : j = i
  · subst hj; exact ⟨s, by simp [Array.getElem_modify], by simp [Array.getElem_modify]⟩
  · have : (es.modify j fun e => { e with key := .int .i64 s, val := .agg (mstV cs s) }).toList[i] = es.toList[i]'(by simpa using hi') := by simp [Array.getElem_modify, hj]
    rw [this]
    exact h _ (List.getElem_mem _)
theorem same_key (s : Nat) : Instr.sameBits 10000 (.int .i64 s) (.int .i64 s) = true := by simp [Instr.sameBits]
theorem upd_memo {w : World} {r : Nat} {es : Array MapEntry} {c : Nat} {cs : List Crowd} (h : w.heap[r]? = some (.map es c)) (hg : GoodE cs es.toList) (s : Nat) : ∃ es' c', GoodE cs es'.toList ∧
    (Instr.mapUpdate 182 (.map (some r)) (.int .i64 s) (.agg (mstV cs s))).run Tryz.prog w = .ok () { w with heap := w.heap.setIfInBounds r (.map es' c') } := by
  have hgo := run_getObj_map (P := Tryz.prog) h
  have hck : ∀ e d, (Instr.checkKey e 10000 3 (.int .i64 d)).run Tryz.prog w = .ok () w := fun e d => check3 _ _ _
  have hset := fun o => Go.MapKept.run_setObj_map (P := Tryz.prog) o h
  unfold Instr.mapUpdate
  rcases find_now s es.toList 0 hg with h1 | ⟨j, e, h1, h2, h3, h4⟩
  · have hf := run_findKey h1 w
    refine ⟨es.push ⟨.int .i64 s, .agg (mstV cs s), c⟩, c + 1, good_push hg s c, ?_⟩
    simp only [Sem.run_bind, run_underlying und193, Result.andThen_ok, hgo, hck, hf, Sem.run_pure]
    exact hset _
  · have hf := run_findKey h4 w
    refine ⟨es.modify j fun e => { e with key := .int .i64 s, val := .agg (mstV cs s) }, c, good_modify hg s j, ?_⟩
    have hk : ((es[0 + j]?).map (·.key)).getD (.int .i64 s) = .int .i64 s := by
      rw [Nat.zero_add, ← Array.getElem?_toList, h3]; exact h2
    have hkt : (Instr.keyThatStays (((es[0 + j]?).map (·.key)).getD (.int .i64 s)) (.int .i64 s)).run Tryz.prog w = .ok (.int .i64 s) w := by
      rw [hk]; unfold Instr.keyThatStays; rw [if_pos (same_key s)]; rfl
    simp only [Sem.run_bind, run_underlying und193, Result.andThen_ok, hgo, hck, hf, hkt]
    rw [Nat.zero_add]
    exact hset _

/-- the closure of mostServed is at home -/
structure Memo (W : World) (KB AB SB MB r : Nat) (ob : Option Addr) (cap : Nat) (cs : List Crowd) : Prop where
  kb : W.heap[KB]? = some (.cells #[.map (some r)] 182 (0, 0))
  ab : W.heap[AB]? = some (.cells #[.slice ob cs.length cap] 156 (0, 0))
  sb : W.heap[SB]? = some (.cells (setV fun s => srv cs s cs.length) 160 (0, 0))
  mb : W.heap[MB]? = some (.cells #[.func (.func 139) #[] #[.pointer (some ⟨KB, 0, none⟩), .pointer (some ⟨AB, 0, none⟩), .pointer (some ⟨SB, 0, none⟩), .pointer (some ⟨MB, 0, none⟩)]] 158 (0, 0))
  cr : CrIn W ob cs
  cg : ∀ g, ob = some ⟨g, 0, none⟩ → cs ≠ [] → g ≠ r
  mp : ∃ es c, W.heap[r]? = some (.map es c) ∧ GoodE cs es.toList
theorem Memo.lt {W : World} {KB AB SB MB r : Nat} {ob : Option Addr} {cap : Nat} {cs : List Crowd} (h : Memo W KB AB SB MB r ob cap cs) : KB < W.heap.size ∧ AB < W.heap.size ∧ SB < W.heap.size ∧ MB < W.heap.size ∧ r < W.heap.size :=
  ⟨(Array.getElem?_eq_some_iff.1 h.kb).1, (Array.getElem?_eq_some_iff.1 h.ab).1, (Array.getElem?_eq_some_iff.1 h.sb).1, (Array.getElem?_eq_some_iff.1 h.mb).1, by obtain ⟨es, c, h1, _⟩ := h.mp; exact (Array.getElem?_eq_some_iff.1 h1).1⟩
theorem Memo.ne {W : World} {KB AB SB MB r : Nat} {ob : Option Addr} {cap : Nat} {cs : List Crowd} (h : Memo W KB AB SB MB r ob cap cs) : KB ≠ r ∧ AB ≠ r ∧ SB ≠ r ∧ MB ≠ r := by
  obtain ⟨es, c, h1, _⟩ := h.mp
  have a := h.kb; have b := h.ab; have c' := h.sb; have d := h.mb
  refine ⟨?_, ?_, ?_, ?_⟩ <;> (rintro rfl; simp_all)
/-- the memo is kept where only the map has turned -/
theorem Memo.grown {W W' : World} {KB AB SB MB r : Nat} {ob : Option Addr} {cap : Nat} {cs : List Crowd} (h : Memo W KB AB SB MB r ob cap cs) (hg : W.grownBy W' (some r)) (hm : ∃ es c, W'.heap[r]? = some (.map es c) ∧ GoodE cs es.toList) : Memo W' KB AB SB MB r ob cap cs := by
  obtain ⟨l1, l2, l3, l4, l5⟩ := h.lt
  obtain ⟨n1, n2, n3, n4⟩ := h.ne
  have key : ∀ k, k < W.heap.size → k ≠ r → W'.heap[k]? = W.heap[k]? := fun k hk hn => hg.block k hk (fun e => hn (by injection e))
  refine ⟨(key _ l1 n1).trans h.kb, (key _ l2 n2).trans h.ab, (key _ l3 n3).trans h.sb, (key _ l4 n4).trans h.mb, fun k c hc => ?_, h.cg, hm⟩
  obtain ⟨g, h1, h2, h3⟩ := h.cr k c hc
  refine ⟨g, h1, Nat.lt_of_lt_of_le h2 hg.size, fun j u hu => ?_⟩
  exact (World.cell?_of_block (a := ⟨g, k * 31 + j, none⟩) (key g h2 (h.cg g h1 (fun e => by rw [e] at hc; simp at hc)))).trans (h3 j u hu)
theorem Memo.below {W W' : World} {KB AB SB MB r : Nat} {ob : Option Addr} {cap : Nat} {cs : List Crowd} (h : Memo W KB AB SB MB r ob cap cs) (hB : Below W.heap.size W W') : Memo W' KB AB SB MB r ob cap cs :=
  h.grown (grown_of_below hB _) (by obtain ⟨es, c, h1, h2⟩ := h.mp; exact ⟨es, c, (hB.block r (Array.getElem?_eq_some_iff.1 h1).1).trans h1, h2⟩)
theorem Memo.belowB {B : Nat} {W W' : World} {KB AB SB MB r : Nat} {ob : Option Addr} {cap : Nat} {cs : List Crowd} (h : Memo W KB AB SB MB r ob cap cs) (hB : Below B W W') (h1 : KB < B) (h2 : AB < B) (h3 : SB < B) (h4 : MB < B) (h5 : r < B) (h6 : ∀ g, ob = some ⟨g, 0, none⟩ → cs ≠ [] → g < B) : Memo W' KB AB SB MB r ob cap cs := by
  refine ⟨(hB.block _ h1).trans h.kb, (hB.block _ h2).trans h.ab, (hB.block _ h3).trans h.sb, (hB.block _ h4).trans h.mb, fun k c hc => ?_, h.cg, ?_⟩
  · obtain ⟨g, e1, e2, e3⟩ := h.cr k c hc
    refine ⟨g, e1, Nat.lt_of_lt_of_le e2 hB.size, fun j u hu => ?_⟩
    exact (World.cell?_of_block (a := ⟨g, k * 31 + j, none⟩) (hB.block g (h6 g e1 (fun e => by rw [e] at hc; simp at hc)))).trans (e3 j u hu)
  · obtain ⟨es, c, e1, e2⟩ := h.mp
    exact ⟨es, c, (hB.block r h5).trans e1, e2⟩
theorem Memo.obl {W : World} {KB AB SB MB r : Nat} {ob : Option Addr} {cap : Nat} {cs : List Crowd} (h : Memo W KB AB SB MB r ob cap cs) : ∀ g, ob = some ⟨g, 0, none⟩ → cs ≠ [] → g < W.heap.size := fun g h1 h2 => by
  obtain ⟨c, hc⟩ : ∃ c, cs[0]? = some c := by cases cs with
    | nil => exact absurd rfl h2
    | cons c l => exact ⟨c, rfl⟩
  obtain ⟨g', e1, e2, _⟩ := h.cr 0 c hc
  rw [h1] at e1; injection e1 with e1; injection e1 with e1; omega
theorem grown_below {a b c : World} {row : Option Nat} (h : a.grownBy b row) (hB : Below a.heap.size b c) : a.grownBy c row :=
  ⟨hB.os.trans h.os, hB.tape.trans h.tape, hB.output.trans h.output, Nat.le_trans h.size hB.size, fun k hk hn => (hB.block k hk).trans (h.block k hk hn)⟩
theorem grown_of_belowB {a b : World} {row : Option Nat} (h : Below a.heap.size a b) : a.grownBy b row := grown_of_below h row
/-- the map has turned, and nothing else -/
theorem grown_setmap {w : World} {r : Nat} {o o' : Obj} (h : w.heap[r]? = some o) : w.grownBy { w with heap := w.heap.setIfInBounds r o' } (some r) ∧ ({ w with heap := w.heap.setIfInBounds r o' } : World).heap[r]? = some o' := by
  have hr : r < w.heap.size := (Array.getElem?_eq_some_iff.1 h).1
  refine ⟨⟨rfl, rfl, rfl, by simp, fun k hk hn => ?_⟩, ?_⟩
  · show (w.heap.setIfInBounds r o')[k]? = _
    rw [Array.getElem?_setIfInBounds, if_neg (fun e => hn (by rw [e]))]
  · show (w.heap.setIfInBounds r o')[r]? = _
    rw [Array.getElem?_setIfInBounds, if_pos rfl, if_pos hr]
end Go.Proofs.YtimedmkpenbmkaaGreat
