/- HearMirrored holds: for any numbers and either way to turn the law returns true, and what was passed in reads as before. No conditions. -/
import Derived.Test.YtimedmkpenbmkaaFj
import Derived.Deep.CutRange
import Derived.Deep.DeepCutAuto
import Derived.Deep.CutBlock
namespace Go.Proofs.Ytimedmkpenbmkaa
open Go.RowKit Go.Shelf
set_option linter.unusedSimpArgs false
set_option linter.unusedVariables false

/-! the calls for all houses of a town -/
theorem houses_named {t : Hr.Town} (ok : t.Ok) (hc : checkErr t.wide t.plots = 0) : Named t (kindIdx t.plots 1) := ⟨ok, hc, fun _ h => h, kind_nodup _ _⟩
theorem lis_inH (t : Hr.Town) (wind voice : Int) : lis t wind voice (inL (kindIdx t.plots 1)) = lis t wind voice fun _ => true := by
  unfold lis lisTo
  congr 1
  apply List.filter_congr
  intro p hp
  have hp := List.mem_range.1 hp
  by_cases h1 : t.at p = 1
  · have : inL (kindIdx t.plots 1) p = true := by unfold inL; rw [decide_eq_true_iff]; exact mem_kindIdx.2 ⟨p, rfl, hp, h1⟩
    rw [this]
  · have : (t.at p == 1) = false := by simpa using h1
    rw [this, Bool.false_and, Bool.false_and]
theorem Louder_h {t : Hr.Town} (ok : t.Ok) (hc : checkErr t.wide t.plots = 0) (wind : Int) (hw0 : 0 ≤ wind) (hw4 : wind ≤ 4) (b o cap : Nat) (a : Option Addr) (hcap : Nat) (st : Nat) (hst : st ≤ 30) (w : World) (hP : RdI w (.slice (some ⟨b, o, none⟩) t.plots.length cap) t.plots)
    (hR : RdI w (.slice a (kindIdx t.plots 1).length hcap) (kindIdx t.plots 1)) :
    Calls Try.prog 53 #[.agg #[.int .i64 t.wide, .slice (some ⟨b, o, none⟩) t.plots.length cap], .int .i64 wind, .slice a (kindIdx t.plots 1).length hcap, .int .i64 st] w fun e w' => e = .returned (louderAns (leastV t wind (fun _ => true) st)) ∧ Below w.heap.size w w' := by
  have h := houses_named ok hc
  have ha : airErr wind 40 = 0 := by unfold airErr; rw [if_neg (by omega)]
  obtain ⟨hI, hOQ⟩ := named_OQ h wind 40 ha b o cap a hcap w hP hR
  obtain ⟨-, hnl, -⟩ := lis_named h.ok wind 40 h.all h.nd
  have hh := Louder_ok t ok wind hw0 hw4 b o cap _ (qN t (kindIdx t.plots 1)) hnl st hst w hI hOQ
  have e : leastV t wind ((qN t (kindIdx t.plots 1)).getD · false) st = leastV t wind (fun _ => true) st := by
    unfold leastV
    refine lvF_congr (fun v => ?_) _ _
    have hl := (lis_named h.ok wind v h.all h.nd).2.2
    change lis t wind v ((qN t (kindIdx t.plots 1)).getD · false) = _ at hl
    rw [hl, lis_inH]
  rwa [e] at hh
end Go.Proofs.Ytimedmkpenbmkaa

namespace Go.Proofs.Ytimedmkpenbmkaa
open Go.RowKit Go.Shelf
set_option linter.unusedSimpArgs false
set_option linter.unusedVariables false

/-! the mirror's function -/
theorem wrp {n : Int} (h0 : -1000 ≤ n) (h1 : n ≤ 1000) : wrap64 n = n := by unfold wrap64; omega
set_option maxHeartbeats 4000000 in
set_option maxRecDepth 100000 in
theorem to_any (t : Hr.Town) (ok : t.Ok) (down : Bool) (c3 c8 c6 : Nat) (pv : Value) (p : Nat) (hp : p < t.len) (W : World) (h3 : W.heap[c3]? = some (.cells #[.bool down] 4 (0, 0))) (h8 : W.heap[c8]? = some (.cells #[.int .i64 t.rows] 3 (0, 0))) (h6 : W.heap[c6]? = some (.cells #[.int .i64 t.wide, pv] 24 (0, 0))) :
    Calls Try.prog 78 #[.int .i64 p, .pointer (some ⟨c3, 0, none⟩), .pointer (some ⟨c8, 0, none⟩), .pointer (some ⟨c6, 0, none⟩)] W fun e w' => e = .returned (.int .i64 (mirP t down p)) ∧ Below W.heap.size W w' := by
  have k3 : W.cell? ⟨c3, 0, none⟩ = some (.bool down) := by rw [cell_of_row _ _ _ _ _ _ h3]; rfl
  have k8 : W.cell? ⟨c8, 0, none⟩ = some (.int .i64 t.rows) := by rw [cell_of_row _ _ _ _ _ _ h8]; rfl
  obtain ⟨k6, -⟩ := blk_cells2 h6
  have l3 : c3 < W.heap.size := (Array.getElem?_eq_some_iff.1 h3).1
  have l8 : c8 < W.heap.size := (Array.getElem?_eq_some_iff.1 h8).1
  have l6 : c6 < W.heap.size := (Array.getElem?_eq_some_iff.1 h6).1
  have w1 := ok.w1
  have w6 := ok.w6
  have n30 := ok.n30
  have hr := mir_row ok hp
  have hm : p % t.wide < t.wide := Nat.mod_lt _ (by omega)
  have hrl : t.rows ≤ 30 := by have h1 := ok.whole; have h2 := Nat.le_mul_of_pos_right t.rows (show 0 < t.wide by omega); omega
  have e1 : (p : Int) / (t.wide : Int) = ((p / t.wide : Nat) : Int) := rfl
  have e2 : (p : Int) % (t.wide : Int) = ((p % t.wide : Nat) : Int) := rfl
  obtain ⟨a, ha⟩ : ∃ a, p / t.wide = a := ⟨_, rfl⟩
  obtain ⟨b, hb⟩ : ∃ b, p % t.wide = b := ⟨_, rfl⟩
  have hwz : ((t.wide : Int) == 0) = false := by simp; omega
  have HM : Hid (mirP t down p = if down then (t.rows - 1 - a) * t.wide + b else a * t.wide + (t.wide - 1 - b)) := Lib.hid (by rw [← ha, ← hb]; rfl)
  clear h3 h8 h6
  go_enter Try.func78, Try.ntmps78
  cases down
  · have hx : wrap64 (wrap64 (wrap64 (wrap64 ((a : Int) * (t.wide : Int)) + t.wide) - 1) - b) = (mirP t false p : Nat) := by
      rw [HM.out, if_neg (by simp)]
      have hz : (a : Int) * (t.wide : Int) = ((a * t.wide : Nat) : Int) := by rw [Int.natCast_mul]
      have hz2 : a * t.wide ≤ 30 := by
        have h1 := ok.whole
        have h2 := Nat.mul_le_mul_right t.wide (show a ≤ t.rows by omega)
        omega
      rw [hz]
      generalize a * t.wide = m at hz2 ⊢
      clear HM hz e1 e2 ha k3 k8 k6 l3 l8 l6 n30 hrl hr ok hp
      rw [wrp (n := (m : Int)) (by omega) (by omega), wrp (n := (m : Int) + t.wide) (by omega) (by omega), wrp (n := (m : Int) + t.wide - 1) (by omega) (by omega), wrp (by omega) (by omega)]
      omega
    clear HM
    go_wp2_with fail
    go_quiet (fail)
    go_wp2_with fail
    go_ret
    refine ⟨?_, below_drewN (Below.refl _ _) _⟩
    show Ending.returned (.int .i64 (wrap64 (wrap64 (wrap64 (wrap64 ((a : Int) * (t.wide : Int)) + t.wide) - 1) - b))) = _
    rw [hx]
  · have hx : wrap64 (wrap64 (((t.rows : Int) - 1 - a) * (t.wide : Int)) + b) = (mirP t true p : Nat) := by
      rw [HM.out, if_pos rfl]
      have hz : ((t.rows : Int) - 1 - a) * (t.wide : Int) = (((t.rows - 1 - a) * t.wide : Nat) : Int) := by
        rw [Int.natCast_mul]; congr 1; omega
      have hz2 : (t.rows - 1 - a) * t.wide ≤ 30 := by
        have h1 := ok.whole
        have h2 := Nat.mul_le_mul_right t.wide (show t.rows - 1 - a ≤ t.rows by omega)
        omega
      rw [hz]
      generalize (t.rows - 1 - a) * t.wide = m at hz2 ⊢
      clear HM hz e1 e2 ha k3 k8 k6 l3 l8 l6 n30 hrl hr ok hp
      rw [wrp (n := (m : Int)) (by omega) (by omega), wrp (by omega) (by omega)]
      omega
    clear HM
    go_wp2_with fail
    go_quiet (fail)
    go_wp2_with fail
    go_ret
    refine ⟨?_, below_drewN (Below.refl _ _) _⟩
    show Ending.returned (.int .i64 (wrap64 (wrap64 (((t.rows : Int) - 1 - a) * (t.wide : Int)) + b))) = _
    rw [hx]
end Go.Proofs.Ytimedmkpenbmkaa

namespace Go.Proofs.Ytimedmkpenbmkaa
open Go.RowKit Go.Shelf
set_option linter.unusedSimpArgs false
set_option linter.unusedVariables false

/-! the plots of a mirrored town, while they are written -/
theorem mirT_check {t : Hr.Town} (ok : t.Ok) (hc : checkErr t.wide t.plots = 0) (down : Bool) : checkErr (mirT t down).wide (mirT t down).plots = 0 := by
  have hl : (mirT t down).plots.length = t.plots.length := mirT_len t down
  have hcnt : cnt1 (mirT t down).plots = cnt1 t.plots := by
    rw [← kind_count, ← kind_count, ← lis_houses_len _ (mirW down 0) 1, ← lis_houses_len t 0 1]
    exact lis_mir_len ok down 0 1
  unfold checkErr at hc ⊢
  have hw : ((mirT t down).wide : Int) = (t.wide : Int) := rfl
  rw [hl, hcnt, hw]
  split at hc
  · omega
  · rename_i h1
    rw [if_neg h1]
    split at hc
    · omega
    · rename_i h2
      have hb : ¬ ((mirT t down).plots.any badPlot = true) := by
        intro e
        rw [List.any_eq_true] at e
        obtain ⟨z, hz, hb⟩ := e
        unfold mirT at hz
        obtain ⟨q, hq, rfl⟩ := List.mem_map.1 hz
        have hq := List.mem_range.1 hq
        refine h2 (List.any_eq_true.2 ⟨_, ?_, hb⟩)
        unfold Hr.Town.at
        have hm := mir_lt ok down hq
        rw [List.getD_eq_getElem?_getD, List.getElem?_eq_getElem hm]
        exact List.getElem_mem _
      rw [if_neg hb]
      exact hc
def mirK (t : Hr.Town) (down : Bool) (k : Nat) : List Int := (List.range t.len).map fun q => if mirP t down q < k then t.at (mirP t down q) else t.at q
theorem mirK_len (t : Hr.Town) (down : Bool) (k : Nat) : (mirK t down k).length = t.len := by unfold mirK; simp
theorem mirK_zero (t : Hr.Town) (down : Bool) : mirK t down 0 = t.plots := by
  unfold mirK
  apply List.ext_getElem (by simp [Hr.Town.len])
  intro i h1 h2
  rw [List.getElem_map, List.getElem_range, if_neg (by omega)]
  unfold Hr.Town.at
  rw [List.getD_eq_getElem?_getD, List.getElem?_eq_getElem h2]; rfl
theorem mirK_all {t : Hr.Town} (ok : t.Ok) (down : Bool) : mirK t down t.len = (mirT t down).plots := by
  unfold mirK mirT
  apply List.map_congr_left
  intro q hq
  rw [if_pos (mir_lt ok down (List.mem_range.1 hq))]
theorem mirK_get {t : Hr.Town} (down : Bool) (k : Nat) {i : Nat} (hi : i < t.len) : (mirK t down k)[i]? = some (if mirP t down i < k then t.at (mirP t down i) else t.at i) := by
  unfold mirK; rw [List.getElem?_map, List.getElem?_range hi]; rfl
theorem mirK_next {t : Hr.Town} (ok : t.Ok) (down : Bool) {k : Nat} (hk : k < t.len) : (mirK t down k).set (mirP t down k) (t.at k) = mirK t down (k + 1) := by
  have hm := mir_lt ok down hk
  apply List.ext_getElem?
  intro i
  by_cases hi : i < t.len
  · rw [List.getElem?_set, mirK_get down (k + 1) hi, mirK_len]
    by_cases e : mirP t down k = i
    · rw [if_pos e, if_pos (by omega), ← e, mir_mir ok down hk, if_pos (by omega)]
    · rw [if_neg e, mirK_get down k hi]
      have hne : mirP t down i ≠ k := fun h => e (by rw [← h, mir_mir ok down hi])
      by_cases h3 : mirP t down i < k
      · rw [if_pos h3, if_pos (by omega)]
      · rw [if_neg h3, if_neg (by omega)]
  · rw [List.getElem?_eq_none (by rw [List.length_set, mirK_len]; omega), List.getElem?_eq_none (by rw [mirK_len]; omega)]
theorem mirW_rng {down : Bool} {wind : Int} (h0 : 0 ≤ wind) (h4 : wind ≤ 4) : 0 ≤ mirW down wind ∧ mirW down wind ≤ 4 := by
  unfold mirW
  cases down
  · simp only [Bool.false_eq_true, if_false]; split <;> omega
  · simp only [if_true]; split <;> omega
end Go.Proofs.Ytimedmkpenbmkaa

namespace Go.Proofs.Ytimedmkpenbmkaa
open Go.RowKit Go.Shelf
set_option linter.unusedSimpArgs false
set_option linter.unusedVariables false

/-- worlds go on: what was there stays, but for boxes behind B, which may be filled with a town or an air -/
structure Cx (wd : Int) (xs : List Int) (wind voice : Int) (B : Nat) (a b : World) : Prop where
  os : b.os = a.os
  tape : b.tape = a.tape
  output : b.output = a.output
  size : a.heap.size ≤ b.heap.size
  same : ∀ k, k < a.heap.size → b.heap[k]? = a.heap[k]? ∨ (B ≤ k ∧ ((∃ u cs, a.heap[k]? = some (.cells cs 24 (0, 0)) ∧ b.heap[k]? = some (.cells #[.int .i64 wd, u] 24 (0, 0)) ∧ b.ownsRow B 102 1 u xs.length (xs.map (Value.int .i64))) ∨
    (∃ cs, a.heap[k]? = some (.cells cs 27 (0, 0)) ∧ b.heap[k]? = some (.cells #[.int .i64 wind, .int .i64 voice] 27 (0, 0)))))
section
variable {wd : Int} {xs : List Int} {wind voice : Int} {B : Nat} {a b : World}
theorem Cx.of_gr (h : Below a.heap.size a b) : Cx wd xs wind voice B a b := ⟨h.os, h.tape, h.output, h.size, fun k hk => .inl (h.block k hk)⟩
theorem Cx.low (h : Cx wd xs wind voice B a b) (hB : B ≤ a.heap.size) : Below B a b := ⟨h.os, h.tape, h.output, h.size, fun k hk => by
  rcases h.same k (by omega) with e | ⟨e, _⟩
  · exact e
  · omega⟩
theorem Cx.row (h : Cx wd xs wind voice B a b) {B0 : Nat} {v : Value} {n : Nat} {l : List Value} (ho : a.ownsRow B0 102 1 v n l) : b.ownsRow B0 102 1 v n l := by
  refine ⟨ho.1, ?_⟩
  rcases ho.2 with h1 | ⟨g, cap, cur, h1, h2, h3, h4⟩
  · exact .inl h1
  · refine .inr ⟨g, cap, cur, h1, h2, ?_, h4⟩
    rcases h.same g (Array.getElem?_eq_some_iff.1 h3).1 with e1 | ⟨_, ⟨u, cs, e1, _⟩ | ⟨cs, e1, _⟩⟩
    · rw [e1]; exact h3
    · rw [h3] at e1; injection e1 with e1; injection e1 with _ e1; cases e1
    · rw [h3] at e1; injection e1 with e1; injection e1 with _ e1; cases e1
theorem cell_ty {x y : Array Value} {s t : TypeId} {z z' : Nat × Nat} (h : some (Obj.cells x s z) = some (Obj.cells y t z')) : s = t := by injection h with h; injection h
theorem Cx.isGr (wd : Int) (xs : List Int) (wind voice : Int) (B : Nat) : Rg.IsGr (Cx wd xs wind voice B) where
  refl w := .of_gr (Below.refl _ _)
  drew w := .of_gr ((Below.refl _ _).drew)
  trans {a b c} h k := ⟨k.os.trans h.os, k.tape.trans h.tape, k.output.trans h.output, Nat.le_trans h.size k.size, fun i hi => by
    rcases k.same i (Nat.lt_of_lt_of_le hi h.size) with e1 | ⟨hB, ⟨u, cs, e1, e2, e3⟩ | ⟨cs, e1, e2⟩⟩
    · rcases h.same i hi with e2 | ⟨hB, ⟨u, cs, e2, e3, e4⟩ | ⟨cs, e2, e3⟩⟩
      · exact .inl (e1.trans e2)
      · exact .inr ⟨hB, .inl ⟨u, cs, e2, e1.trans e3, k.row e4⟩⟩
      · exact .inr ⟨hB, .inr ⟨cs, e2, e1.trans e3⟩⟩
    · rcases h.same i hi with e4 | ⟨_, ⟨u', cs', e4, e5, _⟩ | ⟨cs', e4, e5⟩⟩
      · exact .inr ⟨hB, .inl ⟨u, cs, e4.symm.trans e1, e2, e3⟩⟩
      · exact .inr ⟨hB, .inl ⟨u, cs', e4, e2, e3⟩⟩
      · exact absurd (cell_ty (e1.symm.trans e5)) (by decide)
    · rcases h.same i hi with e4 | ⟨_, ⟨u', cs', e4, e5, _⟩ | ⟨cs', e4, e5⟩⟩
      · exact .inr ⟨hB, .inr ⟨cs, e4.symm.trans e1, e2⟩⟩
      · exact absurd (cell_ty (e1.symm.trans e5)) (by decide)
      · exact .inr ⟨hB, .inr ⟨cs', e4, e2⟩⟩⟩
theorem Cx.fill24 {p : Nat} {c0 c1 u : Value} (hp : B ≤ p) (hb : a.heap[p]? = some (.cells #[c0, c1] 24 (0, 0))) (ho : a.ownsRow B 102 1 u xs.length (xs.map (Value.int .i64))) :
    Cx wd xs wind voice B a ((a.setCell ⟨p, 0, none⟩ (.int .i64 wd)).setCell ⟨p, 1, none⟩ u) ∧ ((a.setCell ⟨p, 0, none⟩ (.int .i64 wd)).setCell ⟨p, 1, none⟩ u).heap[p]? = some (.cells #[.int .i64 wd, u] 24 (0, 0)) ∧ ((a.setCell ⟨p, 0, none⟩ (.int .i64 wd)).setCell ⟨p, 1, none⟩ u).ownsRow B 102 1 u xs.length (xs.map (Value.int .i64)) := by
  have h1 := heap_set_same (o := 0) (.int .i64 wd) hb
  have h2 := heap_set_same (o := 1) u h1
  have h3 : ((a.setCell ⟨p, 0, none⟩ (.int .i64 wd)).setCell ⟨p, 1, none⟩ u).heap[p]? = some (.cells #[.int .i64 wd, u] 24 (0, 0)) := h2
  have hS : Hold (fun k => k ≠ p) a ((a.setCell ⟨p, 0, none⟩ (.int .i64 wd)).setCell ⟨p, 1, none⟩ u) := (Hold.set _ _ _ _).trans (Hold.set _ _ _ _)
  have ho2 : ((a.setCell ⟨p, 0, none⟩ (.int .i64 wd)).setCell ⟨p, 1, none⟩ u).ownsRow B 102 1 u xs.length (xs.map (Value.int .i64)) := by
    refine ⟨ho.1, ?_⟩
    rcases ho.2 with h1 | ⟨g, cap, cur, g1, g2, g3, g4⟩
    · exact .inl h1
    · exact .inr ⟨g, cap, cur, g1, g2, (hS.same g (fun e => by rw [e, hb] at g3; exact absurd (cell_ty g3) (by decide)) (Array.getElem?_eq_some_iff.1 g3).1).trans g3, g4⟩
  refine ⟨⟨rfl, rfl, rfl, by simp, fun k hk => ?_⟩, h3, ho2⟩
  by_cases e2 : k = p
  · subst e2
    exact .inr ⟨hp, .inl ⟨u, _, hb, h3, ho2⟩⟩
  · exact .inl (hS.same k e2 hk)
theorem Cx.fill27 {p : Nat} {c0 c1 : Value} (hp : B ≤ p) (hb : a.heap[p]? = some (.cells #[c0, c1] 27 (0, 0))) :
    Cx wd xs wind voice B a ((a.setCell ⟨p, 0, none⟩ (.int .i64 wind)).setCell ⟨p, 1, none⟩ (.int .i64 voice)) ∧ ((a.setCell ⟨p, 0, none⟩ (.int .i64 wind)).setCell ⟨p, 1, none⟩ (.int .i64 voice)).heap[p]? = some (.cells #[.int .i64 wind, .int .i64 voice] 27 (0, 0)) := by
  have h1 := heap_set_same (o := 0) (.int .i64 wind) hb
  have h2 := heap_set_same (o := 1) (.int .i64 voice) h1
  have h3 : ((a.setCell ⟨p, 0, none⟩ (.int .i64 wind)).setCell ⟨p, 1, none⟩ (.int .i64 voice)).heap[p]? = some (.cells #[.int .i64 wind, .int .i64 voice] 27 (0, 0)) := h2
  have hS : Hold (fun k => k ≠ p) a ((a.setCell ⟨p, 0, none⟩ (.int .i64 wind)).setCell ⟨p, 1, none⟩ (.int .i64 voice)) := (Hold.set _ _ _ _).trans (Hold.set _ _ _ _)
  refine ⟨⟨rfl, rfl, rfl, by simp, fun k hk => ?_⟩, h3⟩
  by_cases e2 : k = p
  · subst e2
    exact .inr ⟨hp, .inr ⟨_, hb, h3⟩⟩
  · exact .inl (hS.same k e2 hk)

/-- what is left of the region that makes the mirrored town and its air -/
def spM6 (wd : Int) (pv : Value) (xs : List Int) (wind voice : Int) (B : Nat) : Nat → List Value → Value → World → Prop
  | 0, _, v, _ => v = .agg #[.int .i64 wd, pv]
  | 1, _, v, w => ∃ u, v = .agg #[.int .i64 wd, u] ∧ w.ownsRow B 102 1 u xs.length (xs.map (Value.int .i64))
  | 2, _, v, _ => v = .agg #[.int .i64 wind, .int .i64 voice]
  | 3, _, v, w => ∃ p c0 c1, v = .pointer (some ⟨p, 0, none⟩) ∧ B ≤ p ∧ w.heap[p]? = some (.cells #[c0, c1] 24 (0, 0))
  | 4, _, v, w => ∃ p c0 c1, v = .pointer (some ⟨p, 0, none⟩) ∧ B ≤ p ∧ w.heap[p]? = some (.cells #[c0, c1] 27 (0, 0))
  | 5, L, v, w => ∃ p u, L.getD 2 undef = .pointer (some ⟨p, 0, none⟩) ∧ B ≤ p ∧ w.heap[p]? = some (.cells #[.int .i64 wd, u] 24 (0, 0)) ∧ w.ownsRow B 102 1 u xs.length (xs.map (Value.int .i64))
  | 6, L, v, w => ∃ p, L.getD 4 undef = .pointer (some ⟨p, 0, none⟩) ∧ B ≤ p ∧ w.heap[p]? = some (.cells #[.int .i64 wind, .int .i64 voice] 27 (0, 0))
  | _, _, _, _ => False
theorem spM6_stable (wd : Int) (pv : Value) (xs : List Int) (wind voice : Int) (B : Nat) : ∀ i L v w w', spM6 wd pv xs wind voice B i L v w → Cx wd xs wind voice B w w' → spM6 wd pv xs wind voice B i L v w' := by
  intro i L v w w' h hg
  match i with
  | 0 => exact h
  | 1 => obtain ⟨u, h1, h2⟩ := h; exact ⟨u, h1, hg.row h2⟩
  | 2 => exact h
  | 3 =>
    obtain ⟨p, c0, c1, h1, h2, h3⟩ := h
    rcases hg.same p (Array.getElem?_eq_some_iff.1 h3).1 with e | ⟨_, ⟨u, cs, e1, e2, _⟩ | ⟨cs, e1, _⟩⟩
    · exact ⟨p, c0, c1, h1, h2, e.trans h3⟩
    · exact ⟨p, _, _, h1, h2, e2⟩
    · exact absurd (cell_ty (h3.symm.trans e1)) (by decide)
  | 4 =>
    obtain ⟨p, c0, c1, h1, h2, h3⟩ := h
    rcases hg.same p (Array.getElem?_eq_some_iff.1 h3).1 with e | ⟨_, ⟨u, cs, e1, e2, _⟩ | ⟨cs, e1, e2⟩⟩
    · exact ⟨p, c0, c1, h1, h2, e.trans h3⟩
    · exact absurd (cell_ty (h3.symm.trans e1)) (by decide)
    · exact ⟨p, _, _, h1, h2, e2⟩
  | 5 =>
    obtain ⟨p, u, h1, h2, h3, h4⟩ := h
    rcases hg.same p (Array.getElem?_eq_some_iff.1 h3).1 with e | ⟨_, ⟨u', cs, e1, e2, e3⟩ | ⟨cs, e1, e2⟩⟩
    · exact ⟨p, u, h1, h2, e.trans h3, hg.row h4⟩
    · exact ⟨p, u', h1, h2, e2, e3⟩
    · exact absurd (cell_ty (h3.symm.trans e1)) (by decide)
  | 6 =>
    obtain ⟨p, h1, h2, h3⟩ := h
    rcases hg.same p (Array.getElem?_eq_some_iff.1 h3).1 with e | ⟨_, ⟨u', cs, e1, e2, e3⟩ | ⟨cs, e1, e2⟩⟩
    · exact ⟨p, h1, h2, e.trans h3⟩
    · exact absurd (cell_ty (h3.symm.trans e1)) (by decide)
    · exact ⟨p, h1, h2, e2⟩
end
end Go.Proofs.Ytimedmkpenbmkaa

namespace Go.Proofs.Ytimedmkpenbmkaa
open Go.RowKit Go.Shelf
set_option linter.unusedSimpArgs false
set_option linter.unusedVariables false

/-! the calls of the law of the mirror -/
def fewL (t : Hr.Town) (wind voice : Int) : List Int := if firstE (lis t wind voice fun _ => true) = 0 then (chooseP (lis t wind voice fun _ => true) 30).1 else []
theorem fewL_mir {t : Hr.Town} (ok : t.Ok) (hc : checkErr t.wide t.plots = 0) (down : Bool) (wind voice : Int) : (fewL (mirT t down) (mirW down wind) voice).length = (fewL t wind voice).length := by
  unfold fewL
  rw [firstE_mir ok down wind voice]
  by_cases h : firstE (lis t wind voice fun _ => true) = 0
  · rw [if_pos h, if_pos h]; exact (choose_mir ok hc down (mirT_check ok hc down) wind voice 30).2
  · rw [if_neg h, if_neg h]
theorem Few_l {t : Hr.Town} (ok : t.Ok) (hc : checkErr t.wide t.plots = 0) (wind voice : Int) (ha : airErr wind voice = 0) (b o cap : Nat) (a : Option Addr) (hcap : Nat) (w : World) (hP : RdI w (.slice (some ⟨b, o, none⟩) t.plots.length cap) t.plots)
    (hR : RdI w (.slice a (kindIdx t.plots 1).length hcap) (kindIdx t.plots 1)) :
    Calls Try.prog 46 #[.agg #[.int .i64 t.wide, .slice (some ⟨b, o, none⟩) t.plots.length cap], .agg #[.int .i64 wind, .int .i64 voice], .slice a (kindIdx t.plots 1).length hcap] w fun e w' =>
      ∃ v, e = .returned (.tuple #[v, .int .i64 (firstE (lis t wind voice fun _ => true))]) ∧ Below w.heap.size w w' ∧ RdI w' v (fewL t wind voice) := by
  have h := houses_named ok hc
  obtain ⟨hI, hOQ⟩ := named_OQ h wind voice ha b o cap a hcap w hP hR
  obtain ⟨w0, w4, v1, v40⟩ := wind_ok ha
  obtain ⟨-, hnl, hl⟩ := lis_named h.ok wind voice h.all h.nd
  refine (Fewest_ok t h.ok wind voice w0 w4 b o cap _ (qN t (kindIdx t.plots 1)) hnl w hI hOQ).mono ?_
  rintro e w' ⟨v, rfl, hB, h1, h2⟩
  change lis t wind voice ((qN t (kindIdx t.plots 1)).getD · false) = _ at hl
  rw [hl, lis_inH] at h1 h2 ⊢
  refine ⟨v, rfl, hB, ?_⟩
  unfold fewL
  by_cases h0 : firstE (lis t wind voice fun _ => true) = 0
  · rw [if_pos h0]; exact RdI.own rfl rfl (h2 h0)
  · rw [if_neg h0, h1 h0]
    exact ⟨by simp, none, 0, rfl, fun h => absurd rfl h⟩
def apL (t : Hr.Town) (wind voice : Int) : List Int := natI (apartP (lis t wind voice fun _ => true))
theorem apL_mir {t : Hr.Town} (ok : t.Ok) (down : Bool) (wind voice : Int) : (apL (mirT t down) (mirW down wind) voice).length = (apL t wind voice).length := by
  unfold apL; rw [natI_len, natI_len]; exact apart_mir ok down wind voice
theorem Apart_h {t : Hr.Town} (ok : t.Ok) (hc : checkErr t.wide t.plots = 0) (wind voice : Int) (ha : airErr wind voice = 0) (b o cap : Nat) (a : Option Addr) (hcap : Nat) (w : World) (hP : RdI w (.slice (some ⟨b, o, none⟩) t.plots.length cap) t.plots)
    (hR : RdI w (.slice a (kindIdx t.plots 1).length hcap) (kindIdx t.plots 1)) :
    Calls Try.prog 50 #[.agg #[.int .i64 t.wide, .slice (some ⟨b, o, none⟩) t.plots.length cap], .agg #[.int .i64 wind, .int .i64 voice], .slice a (kindIdx t.plots 1).length hcap] w fun e w' =>
      ∃ v, e = .returned (.tuple #[v, .int .i64 0]) ∧ Below w.heap.size w w' ∧ RdI w' v (apL t wind voice) := by
  have h := Apart_n (houses_named ok hc) wind voice ha b o cap a hcap w hP hR
  rwa [lis_inH] at h
theorem louder_tuple (v : Int) : ∃ a b : Int, louderAns v = .tuple #[.int .i64 a, .int .i64 b] := by
  unfold louderAns
  split
  · exact ⟨_, _, rfl⟩
  · exact ⟨_, _, rfl⟩
end Go.Proofs.Ytimedmkpenbmkaa

namespace Go.Proofs.Ytimedmkpenbmkaa
open Go.RowKit Go.Shelf
set_option linter.unusedSimpArgs false
set_option linter.unusedVariables false
attribute [local go_sem] run_field27

/-- what stands in the law of a mirror before the mirrored town is made -/
structure Mp (t : Hr.Town) (down : Bool) (pv : Value) (c3 c6 c7 c8 : Nat) (wind voice : Int) (w W : World) : Prop where
  b3 : W.heap[c3]? = some (.cells #[.bool down] 4 (0, 0))
  b6 : W.heap[c6]? = some (.cells #[.int .i64 t.wide, pv] 24 (0, 0))
  b7 : W.heap[c7]? = some (.cells #[.int .i64 wind, .int .i64 voice] 27 (0, 0))
  b8 : W.heap[c8]? = some (.cells #[.int .i64 t.rows] 3 (0, 0))
  rp : RdI W pv t.plots
  bel : Below w.heap.size w W
theorem Mp.below {t : Hr.Town} {down : Bool} {pv : Value} {c3 c6 c7 c8 : Nat} {wind voice : Int} {w W W' : World} (h : Mp t down pv c3 c6 c7 c8 wind voice w W) (hB : Below W.heap.size W W') : Mp t down pv c3 c6 c7 c8 wind voice w W' :=
  ⟨(hB.block _ (Array.getElem?_eq_some_iff.1 h.b3).1).trans h.b3, (hB.block _ (Array.getElem?_eq_some_iff.1 h.b6).1).trans h.b6, (hB.block _ (Array.getElem?_eq_some_iff.1 h.b7).1).trans h.b7, (hB.block _ (Array.getElem?_eq_some_iff.1 h.b8).1).trans h.b8, h.rp.below hB, join h.bel hB⟩
theorem Mp.aft {t : Hr.Town} {down : Bool} {pv : Value} {c3 c6 c7 c8 : Nat} {wind voice : Int} {w W W' : World} {g : Nat} (h : Mp t down pv c3 c6 c7 c8 wind voice w W) (hA : Aft g W W') (h3 : c3 ≠ g) (h6 : c6 ≠ g) (h7 : c7 ≠ g) (h8 : c8 ≠ g) (ho : Off g pv) (hg : w.heap.size ≤ g) : Mp t down pv c3 c6 c7 c8 wind voice w W' :=
  ⟨(hA.same _ h3 (Array.getElem?_eq_some_iff.1 h.b3).1).trans h.b3, (hA.same _ h6 (Array.getElem?_eq_some_iff.1 h.b6).1).trans h.b6, (hA.same _ h7 (Array.getElem?_eq_some_iff.1 h.b7).1).trans h.b7, (hA.same _ h8 (Array.getElem?_eq_some_iff.1 h.b8).1).trans h.b8, h.rp.hold hA ho, h.bel.trans (Aft.low hA hg h.bel.size)⟩
theorem Mp.cs {t : Hr.Town} {down : Bool} {pv : Value} {c3 c6 c7 c8 : Nat} {wind voice : Int} {w W : World} (h : Mp t down pv c3 c6 c7 c8 wind voice w W) :
    W.cell? ⟨c6, 0, none⟩ = some (.int .i64 t.wide) ∧ W.cell? ⟨c6, 1, none⟩ = some pv ∧ W.cell? ⟨c7, 0, none⟩ = some (.int .i64 wind) ∧ W.cell? ⟨c7, 1, none⟩ = some (.int .i64 voice) ∧ W.cell? ⟨c3, 0, none⟩ = some (.bool down) ∧ c3 < W.heap.size ∧ c6 < W.heap.size ∧ c7 < W.heap.size ∧ c8 < W.heap.size := by
  obtain ⟨a, b⟩ := blk_cells2 h.b6
  obtain ⟨c, d⟩ := blk_cells2 h.b7
  exact ⟨a, b, c, d, by rw [cell_of_row _ _ _ _ _ _ h.b3]; rfl, (Array.getElem?_eq_some_iff.1 h.b3).1, (Array.getElem?_eq_some_iff.1 h.b6).1, (Array.getElem?_eq_some_iff.1 h.b7).1, (Array.getElem?_eq_some_iff.1 h.b8).1⟩

/-- .. and when it is made -/
structure Mq (t : Hr.Town) (down : Bool) (pv uv : Value) (c3 c6 c7 c8 c10 c11 : Nat) (wind voice : Int) (w W : World) : Prop where
  mp : Mp t down pv c3 c6 c7 c8 wind voice w W
  b10 : W.heap[c10]? = some (.cells #[.int .i64 t.wide, uv] 24 (0, 0))
  b11 : W.heap[c11]? = some (.cells #[.int .i64 (mirW down wind), .int .i64 voice] 27 (0, 0))
  ru : RdI W uv (mirT t down).plots
theorem Mq.below {t : Hr.Town} {down : Bool} {pv uv : Value} {c3 c6 c7 c8 c10 c11 : Nat} {wind voice : Int} {w W W' : World} (h : Mq t down pv uv c3 c6 c7 c8 c10 c11 wind voice w W) (hB : Below W.heap.size W W') : Mq t down pv uv c3 c6 c7 c8 c10 c11 wind voice w W' :=
  ⟨h.mp.below hB, (hB.block _ (Array.getElem?_eq_some_iff.1 h.b10).1).trans h.b10, (hB.block _ (Array.getElem?_eq_some_iff.1 h.b11).1).trans h.b11, h.ru.below hB⟩
theorem Mq.cs {t : Hr.Town} {down : Bool} {pv uv : Value} {c3 c6 c7 c8 c10 c11 : Nat} {wind voice : Int} {w W : World} (h : Mq t down pv uv c3 c6 c7 c8 c10 c11 wind voice w W) :
    W.cell? ⟨c6, 0, none⟩ = some (.int .i64 t.wide) ∧ W.cell? ⟨c6, 1, none⟩ = some pv ∧ W.cell? ⟨c7, 0, none⟩ = some (.int .i64 wind) ∧ W.cell? ⟨c7, 1, none⟩ = some (.int .i64 voice) ∧ c6 < W.heap.size ∧ c7 < W.heap.size ∧ W.cell? ⟨c10, 0, none⟩ = some (.int .i64 t.wide) ∧ W.cell? ⟨c10, 1, none⟩ = some uv ∧ W.cell? ⟨c11, 0, none⟩ = some (.int .i64 (mirW down wind)) ∧ W.cell? ⟨c11, 1, none⟩ = some (.int .i64 voice) ∧ c10 < W.heap.size ∧ c11 < W.heap.size := by
  obtain ⟨k0, k1, k2, k3, k4, k5, k6, k7, k8⟩ := h.mp.cs
  obtain ⟨a, b⟩ := blk_cells2 h.b10
  obtain ⟨c, d⟩ := blk_cells2 h.b11
  exact ⟨k0, k1, k2, k3, k6, k7, a, b, c, d, (Array.getElem?_eq_some_iff.1 h.b10).1, (Array.getElem?_eq_some_iff.1 h.b11).1⟩

def spM22 (TU FU : Value) (C11 : Nat) (MW SS MS : Int) (YL : Nat) (YY : List Int) : Nat → List Value → Value → World → Prop
  | 0, _, v, _ => v = TU
  | 1, _, v, _ => v = .pointer (some ⟨C11, 0, none⟩)
  | 2, _, v, _ => v = .int .i64 MW
  | 3, _, v, _ => v = FU
  | 4, _, v, _ => v = .int .i64 SS
  | 5, _, v, _ => v = .int .i64 MS
  | 6, L, v, w => ∃ tb, v = .tuple #[.slice (some ⟨tb, 0, none⟩) YL YL, .int .i64 0] ∧ TabAt w tb YY
  | 7, L, v, w => ∃ tb, v = .tuple #[.slice (some ⟨tb, 0, none⟩) YL YL, .int .i64 0] ∧ TabAt w tb YY
  | 8, L, v, w => ∃ tb, v = .slice (some ⟨tb, 0, none⟩) YL YL ∧ TabAt w tb YY
  | 9, _, v, _ => v = .int .i64 0
  | 10, L, v, w => ∃ tb, v = .slice (some ⟨tb, 0, none⟩) YL YL ∧ TabAt w tb YY
  | 11, _, v, _ => v = .int .i64 0
  | _, _, _, _ => False
theorem spM22_stable (TU FU : Value) (C11 : Nat) (MW SS MS : Int) (YL : Nat) (YY : List Int) : ∀ i L v w w', spM22 TU FU C11 MW SS MS YL YY i L v w → Rs.Gr w w' → spM22 TU FU C11 MW SS MS YL YY i L v w' := by
  intro i L v w w' h hg
  match i with
  | 0 => exact h
  | 1 => exact h
  | 2 => exact h
  | 3 => exact h
  | 4 => exact h
  | 5 => exact h
  | 6 => obtain ⟨tb, h1, h2⟩ := h; exact ⟨tb, h1, h2.below hg h2.lt⟩
  | 7 => obtain ⟨tb, h1, h2⟩ := h; exact ⟨tb, h1, h2.below hg h2.lt⟩
  | 8 => obtain ⟨tb, h1, h2⟩ := h; exact ⟨tb, h1, h2.below hg h2.lt⟩
  | 9 => exact h
  | 10 => obtain ⟨tb, h1, h2⟩ := h; exact ⟨tb, h1, h2.below hg h2.lt⟩
  | 11 => exact h

def spM32 (TV TU : Value) (H HU : List Int) (B : Nat) : Nat → List Value → Value → World → Prop
  | 0, _, v, _ => v = TV
  | 1, L, v, w => w.ownsRow B 3 1 v H.length (H.map (Value.int .i64))
  | 2, _, v, _ => v = TU
  | 3, L, v, w => w.ownsRow B 3 1 v HU.length (HU.map (Value.int .i64))
  | 4, L, v, w => w.ownsRow B 3 1 v H.length (H.map (Value.int .i64))
  | 5, L, v, w => w.ownsRow B 3 1 v HU.length (HU.map (Value.int .i64))
  | _, _, _, _ => False
theorem spM32_stable (TV TU : Value) (H HU : List Int) (B : Nat) : ∀ i L v w w', spM32 TV TU H HU B i L v w → Rs.Gr w w' → spM32 TV TU H HU B i L v w' := by
  intro i L v w w' h hg
  match i with
  | 0 => exact h
  | 1 => exact own_below h hg
  | 2 => exact h
  | 3 => exact own_below h hg
  | 4 => exact own_below h hg
  | 5 => exact own_below h hg

set_option maxHeartbeats 8000000 in
set_option maxRecDepth 100000 in
theorem HearMirrored_any (ma : Option Addr) (n mc : Nat) (down : Bool) (w : World) (hM : RdB w ma n) :
    Calls Try.prog 14 #[.slice ma n mc, .bool down] w fun e w' => e = .returned (.bool true) ∧ Below w.heap.size w w' := by
  have hB0 := below1 w (.cells #[.bool down] 4)
  obtain ⟨w0, hw0⟩ : ∃ w0 : World, w0 = w.alloc (.cells #[.bool down] 4) := ⟨_, rfl⟩
  have hs0 : w0.heap.size = w.heap.size + 1 := by rw [hw0]; simp
  have hb3 : w0.heap[w.heap.size]? = some (.cells #[.bool down] 4 (0, 0)) := by rw [hw0]; exact heap_alloc_last _ _
  rw [← hw0] at hB0
  have hM0 := hM.below hB0
  have HBL := Lib.hid (bell_hung (mc := mc) hM0)
  have HM := Lib.hid hM0
  have HB0 := Lib.hid hB0
  have HB3 := Lib.hid hb3
  have HW0 := Lib.hid hw0
  have HS0 := Lib.hid hs0
  have hs1 : w.heap.size < w0.heap.size := by omega
  clear hM hM0 hB0 hb3 hw0 hs0
  go_enter Try.func14, Try.ntmps14
  go_upto_region 1 with fail
  rw [← HW0.out]
  go_wp2_with fail
  refine (hang_any ma n mc w0).mono ?_
  rintro e w1 ⟨rfl, rfl⟩
  go_wp2_with fail
  refine (made_any w0.heap.size ma n mc 24 (by omega) (by omega) _ HBL.out (fun hn mb mo e => by have := HM.out.2.1 hn mb mo e; simp; omega)).mono ?_
  rintro e w2 ⟨t, v, p, rfl, ho, hc, h24, hp, hp0, hbl, hh⟩
  have ok : t.Ok := by have := (town_ok hc).1; rwa [townOf_self] at this
  have HOK := Lib.hid ok
  have HC := Lib.hid hc
  have hsz2 := hh.size
  simp only [World.size_alloc] at hsz2 ho
  have hoffB := own_off (QB := w0.heap.size) ho (by omega)
  obtain ⟨pa, pc, rfl⟩ := own_slice ho
  have hne : t.plots ≠ [] := by intro e; have := (check_len hc).2; rw [e] at this; simp at this
  obtain ⟨pb, po, rfl, -, -⟩ := rd_ints (RdI.own rfl rfl ho) hne
  have hb3a : (w0.alloc (.cells #[.slice ma n mc, .int .i64 0, .int .u32 0] 150)).heap[w.heap.size]? = some (.cells #[.bool down] 4 (0, 0)) := (Below.heap_alloc _ _ _ hs1).trans HB3.out
  have hb3b := (hh.same w.heap.size (show w.heap.size ≠ w0.heap.size by omega) (by simp; omega)).trans hb3a
  have hB2 : Below w.heap.size w w2 := (al HB0.out (.cells #[.slice ma n mc, .int .i64 0, .int .u32 0] 150)).trans ((hh.mono (Kq := fun k => k < w.heap.size) (fun k (hk : k < w.heap.size) _ => show k ≠ w0.heap.size by omega)).to_below (by simp; omega))
  obtain ⟨W1, hW1⟩ : ∃ W1 : World, W1 = w2.alloc (.cells #[.int .i64 t.wide, .slice (some ⟨pb, po, none⟩) t.plots.length pc] 24) := ⟨_, rfl⟩
  have h1 : Below w2.heap.size w2 W1 := by rw [hW1]; exact below1 _ _
  have hS1 : PvS t w2.heap.size (.slice (some ⟨pb, po, none⟩) t.plots.length pc) w0.heap.size ma n mc W1 := by
    rw [hW1]; exact ⟨heap_alloc_last _ _, (RdI.own rfl rfl ho).below (below1 _ _), hbl.below (below1 _ _), by omega, hoffB⟩
  have HS1 := Lib.hid hS1
  have HB3 := Lib.hid ((h1.block _ (by omega)).trans hb3b)
  have HB1 := Lib.hid (join hB2 h1)
  have HP0 := Lib.hid (And.intro hp hp0)
  have hz1 : w2.heap.size < W1.heap.size := by rw [hW1]; simp
  have hz02 : w0.heap.size < w2.heap.size := by omega
  have HMA : Hid (n ≠ 0 → ∀ mb mo, ma = some ⟨mb, mo, none⟩ → mb < W1.heap.size) := Lib.hid (fun hn mb mo e => by have := HM.out.2.1 hn mb mo e; omega)
  have hl30 : t.plots.length ≤ 30 := HOK.out.n30
  obtain ⟨k0, k1⟩ := hS1.cs
  have k2 := hS1.lt
  have HW1 := Lib.hid hW1
  clear HBL ho hc hbl hh hB2 ok hp hp0 h24 HB0 hoffB HM hW1 hb3a hb3b h1 hS1 hne HW0 HS0
  go_upto_region 3 with fail
  rw [← HW1.out]
  go_wp2_with fail
  refine (aired_any w0.heap.size ma n mc trivial W1 HS1.out.bell HMA.out).mono ?_
  rintro e w3 ⟨wind, voice, g0, g4, v1, v16, rfl, hbl, hH⟩
  have hS3 := HS1.out.ring hbl.out hH.out
  have hb3 := (hH.out.same w.heap.size (show w.heap.size ≠ w0.heap.size by omega) (by omega)).trans HB3.out
  have hB3 : Below w.heap.size w w3 := HB1.out.trans (Aft.low hH.out (by omega) (by omega))
  have hz3 := hH.out.size
  obtain ⟨W4, hW4⟩ : ∃ W4 : World, W4 = w3.alloc (.cells #[.int .i64 wind, .int .i64 voice] 27) := ⟨_, rfl⟩
  obtain ⟨W5, hW5⟩ : ∃ W5 : World, W5 = W4.alloc (.cells #[.int .i64 t.rows] 3) := ⟨_, rfl⟩
  have h4 : Below w3.heap.size w3 W4 := by rw [hW4]; exact below1 _ _
  have h5 : Below W4.heap.size W4 W5 := by rw [hW5]; exact below1 _ _
  have h45 := join h4 h5
  have hz4 : W4.heap.size = w3.heap.size + 1 := by rw [hW4]; simp
  have hMp : Mp t down (.slice (some ⟨pb, po, none⟩) t.plots.length pc) w.heap.size w2.heap.size w3.heap.size W4.heap.size wind voice w W5 :=
    ⟨(h45.block _ (by omega)).trans hb3, (h45.block _ hS3.lt).trans hS3.b7, (h5.block _ (by omega)).trans (by rw [hW4]; exact heap_alloc_last _ _), by rw [hW5]; exact heap_alloc_last _ _, hS3.rp.below h45, join hB3 h45⟩
  have HMP := Lib.hid hMp
  obtain ⟨k0, k1⟩ := hS3.cs
  have k2 := hS3.lt
  obtain ⟨j0, j1⟩ := (hS3.below h4).cs
  have j2 := (hS3.below h4).lt
  have hrw : (t.plots.length : Int) / (t.wide : Int) = (t.rows : Int) := rfl
  have hw1 := HOK.out.w1
  have hwz : ((t.wide : Int) == 0) = false := by simp; omega
  have hrl : t.rows ≤ 30 := Nat.le_trans (Nat.div_le_self _ _) HOK.out.n30
  have HW4 := Lib.hid hW4
  have HW5 := Lib.hid hW5
  have HAV := Lib.hid (show AirV wind voice from ⟨g0, g4, v1, v16⟩)
  have HZ4 := Lib.hid hz4
  clear hbl hH hS3 hb3 hB3 hW4 hW5 h4 h5 h45 hMp HS1 HB1 HMA hz4
  go_upto_region 4 with fail
  rw [← HW4.out]
  go_upto_region 6 with fail
  rw [← HW5.out]
  clear HW4 HW5 k0 k1 k2 j0 j1 j2 hrw HW1
  refine Rg.region_gen (Cx.isGr t.wide t.plots wind voice W5.heap.size) 7 [[], [0], [], [], [], [0, 1, 3, 4], [0, 1, 2, 3, 4, 5]] [some 49, some 50, some 51, some 10, some 11, none, none] (spM6 t.wide (.slice (some ⟨pb, po, none⟩) t.plots.length pc) t.plots wind voice W5.heap.size) (by kernel_rfl) (by kernel_rfl) rfl (spM6_stable _ _ _ _ _ _) ?_ ?_
  · refine ⟨fun V w' hG hs => ?_, fun V w' hG hs => ?_, fun V w' hG hs => ?_, fun V w' hG hs => ?_, fun V w' hG hs => ?_, fun V w' hG hs => ?_, fun V w' hG hs => ?_, trivial⟩
    all_goals
      have hMr := HMP.out.below (hG.low (Nat.le_refl _))
      obtain ⟨k0, k1, k2, k3, k4, k5, k6, k7, k8⟩ := hMr.cs
      rw [if_pos (by rfl)]
    · exact Rg.GrowL.value (v := .agg #[.int .i64 t.wide, .slice (some ⟨pb, po, none⟩) t.plots.length pc]) (w' := w') (by simp [go_sem, Rs.look, k0, k1]) ((Cx.isGr t.wide t.plots wind voice W5.heap.size).refl _) rfl
    · have e0 : V 0 = .agg #[.int .i64 t.wide, .slice (some ⟨pb, po, none⟩) t.plots.length pc] := hs 0 (by simp)
      refine Rg.GrowL.call (Cx.isGr t.wide t.plots wind voice W5.heap.size) (f := 17) (args := #[.agg #[.int .i64 t.wide, .slice (some ⟨pb, po, none⟩) t.plots.length pc]]) (by simp [go_sem, Rs.look, e0]) ?_
      refine (Own_any t.wide (some ⟨pb, po, none⟩) pc t.plots (by omega) w' hMr.rp).mono ?_
      rintro e w3' ⟨u, rfl, ho, hB⟩
      exact ⟨_, rfl, .of_gr hB, u, rfl, own_base ho hG.size⟩
    · exact Rg.GrowL.value (v := .agg #[.int .i64 wind, .int .i64 voice]) (w' := w') (by simp [go_sem, Rs.look, k2, k3]) ((Cx.isGr t.wide t.plots wind voice W5.heap.size).refl _) rfl
    · exact Rg.GrowL.value (v := .pointer (some ⟨w'.heap.size, 0, none⟩)) (w' := w'.alloc (.cells #[.int .i64 0, .slice none 0 0] 24)) (by simp [go_sem, Rs.look]) (.of_gr (below1 _ _)) ⟨_, _, _, rfl, hG.size, heap_alloc_last _ _⟩
    · exact Rg.GrowL.value (v := .pointer (some ⟨w'.heap.size, 0, none⟩)) (w' := w'.alloc (.cells #[.int .i64 0, .int .i64 0] 27)) (by simp [go_sem, Rs.look]) (.of_gr (below1 _ _)) ⟨_, _, _, rfl, hG.size, heap_alloc_last _ _⟩
    · have r1 := hs 1 (by simp)
      have r3 := hs 3 (by simp)
      obtain ⟨u, e1, hou⟩ : ∃ u, V 1 = .agg #[.int .i64 t.wide, u] ∧ w'.ownsRow W5.heap.size 102 1 u t.plots.length (t.plots.map (Value.int .i64)) := r1
      obtain ⟨p, c0, c1, e3, hpB, hb⟩ : ∃ p c0 c1, V 3 = .pointer (some ⟨p, 0, none⟩) ∧ W5.heap.size ≤ p ∧ w'.heap[p]? = some (.cells #[c0, c1] 24 (0, 0)) := r3
      obtain ⟨q0, q1⟩ := blk_cells2 hb
      have f0 := frozen_of_row w' p 0 _ _ hb
      have f1 := frozen_of_row w' p 1 _ _ hb
      have hf := Cx.fill24 (wd := t.wide) (wind := wind) (voice := voice) hpB hb hou
      obtain ⟨ua, uc, rfl⟩ := own_slice hou
      exact Rg.GrowL.skipA (w' := (w'.setCell ⟨p, 0, none⟩ (.int .i64 t.wide)).setCell ⟨p, 1, none⟩ (.slice ua t.plots.length uc)) (by simp [go_sem, Rs.look, e1, e3, q0, q1, f0, f1]) hf.1 ⟨p, _, e3, hpB, hf.2.1, hf.2.2⟩
    · have e2 : V 2 = .agg #[.int .i64 wind, .int .i64 voice] := hs 2 (by simp)
      have r4 := hs 4 (by simp)
      obtain ⟨p, c0, c1, e4, hpB, hb⟩ : ∃ p c0 c1, V 4 = .pointer (some ⟨p, 0, none⟩) ∧ W5.heap.size ≤ p ∧ w'.heap[p]? = some (.cells #[c0, c1] 27 (0, 0)) := r4
      obtain ⟨q0, q1⟩ := blk_cells2 hb
      have f0 := frozen_of_row w' p 0 _ _ hb
      have f1 := frozen_of_row w' p 1 _ _ hb
      have hf := Cx.fill27 (wd := t.wide) (xs := t.plots) (wind := wind) (voice := voice) hpB hb
      exact Rg.GrowL.skipA (w' := (w'.setCell ⟨p, 0, none⟩ (.int .i64 wind)).setCell ⟨p, 1, none⟩ (.int .i64 voice)) (by simp [go_sem, Rs.look, e2, e4, q0, q1, f0, f1]) hf.1 ⟨p, e4, hpB, hf.2⟩
  · intro V W6 hG hs
    have e0 : V 0 = .agg #[.int .i64 t.wide, .slice (some ⟨pb, po, none⟩) t.plots.length pc] := hs 0 (by omega)
    have e2 : V 2 = .agg #[.int .i64 wind, .int .i64 voice] := hs 2 (by omega)
    obtain ⟨c10, u, e3, hc10, hb10, hou⟩ : ∃ p u, V 3 = .pointer (some ⟨p, 0, none⟩) ∧ W5.heap.size ≤ p ∧ W6.heap[p]? = some (.cells #[.int .i64 t.wide, u] 24 (0, 0)) ∧ W6.ownsRow W5.heap.size 102 1 u t.plots.length (t.plots.map (Value.int .i64)) := hs 5 (by omega)
    obtain ⟨c11, e4, hc11, hb11⟩ : ∃ p, V 4 = .pointer (some ⟨p, 0, none⟩) ∧ W5.heap.size ≤ p ∧ W6.heap[p]? = some (.cells #[.int .i64 wind, .int .i64 voice] 27 (0, 0)) := hs 6 (by omega)
    simp only [Rs.canon, Rs.dstOf, List.range_succ, List.range_zero, List.nil_append, List.cons_append, List.foldl_cons, List.foldl_nil, List.drop_succ_cons, List.drop_zero, List.drop_nil, List.getElem?_toArray, List.getElem?_cons_succ, List.getElem?_cons_zero, Option.bind_some, Act.put, List.getD_cons_succ, List.getD_cons_zero, List.setIfInBounds_toArray, List.set_cons_succ, List.set_cons_zero]
    rw [e0, e2, e3, e4]
    generalize V 1 = y1
    have hplen : t.plots.length ≠ 0 := by have := HP0.out.1; unfold Hr.Town.len at this; omega
    obtain ⟨g, p10, cur, rfl, hgb, hgc⟩ : ∃ g cap cur, u = .slice (some ⟨g, 0, none⟩) t.plots.length cap ∧ W5.heap.size ≤ g ∧ W6.heap[g]? = some (.cells cur 102 (0, 0)) := by
      rcases hou.2 with ⟨_, h0⟩ | ⟨g, cap, cur, h1, h2, h3, _⟩
      · exact absurd h0 hplen
      · exact ⟨g, cap, cur, h1, h2, h3⟩
    have HMP6 := Lib.hid (HMP.out.below (hG.low (Nat.le_refl _)))
    have HOU := Lib.hid hou
    have HB10 := Lib.hid hb10
    have HB11 := Lib.hid hb11
    have hz5 := hG.size
    have hcg10 : c10 ≠ g := fun e => by rw [e, hgc] at hb10; exact absurd (cell_ty hb10) (by decide)
    have hcg11 : c11 ≠ g := fun e => by rw [e, hgc] at hb11; exact absurd (cell_ty hb11) (by decide)
    have hcc : c10 ≠ c11 := fun e => by rw [e, hb11] at hb10; exact absurd (cell_ty hb10) (by decide)
    have hgl : g < W6.heap.size := (Array.getElem?_eq_some_iff.1 hgc).1
    have HOG : Hid (∀ g', W5.heap.size ≤ g' → Off g' (.slice (some ⟨pb, po, none⟩) t.plots.length pc)) := Lib.hid (fun g' hg' b o n' c e => by
      injection e with e1
      injection e1 with e1
      injection e1 with e1
      have hne : t.plots ≠ [] := fun h => hplen (by rw [h]; rfl)
      obtain ⟨b', o', e', -, hI⟩ := rd_ints HMP.out.rp hne
      injection e' with e2
      injection e2 with e2
      have := hI.1
      omega)
    obtain ⟨m3, m6, m7, m8⟩ : w.heap.size < W5.heap.size ∧ w2.heap.size < W5.heap.size ∧ w3.heap.size < W5.heap.size ∧ W4.heap.size < W5.heap.size := ⟨HMP.out.cs.2.2.2.2.2.1, HMP.out.cs.2.2.2.2.2.2.1, HMP.out.cs.2.2.2.2.2.2.2.1, HMP.out.cs.2.2.2.2.2.2.2.2⟩
    clear e0 e2 e3 e4 hs hou hb10 hb11 hgc hG HMP
    obtain ⟨k0, k1, k2, k3, k4, k5, k6, k7, k8⟩ := HMP6.out.cs
    go_wp2_with fail
    clear k0 k1 k2 k3 k4 k5 k6 k7 k8
    go_loopw [55] (fun i wr => ∃ k : Nat, k ≤ t.plots.length ∧ i = .int .i64 k ∧ wr.ownsRow W5.heap.size 102 1 (.slice (some ⟨g, 0, none⟩) t.plots.length p10) t.plots.length ((mirK t down k).map (Value.int .i64)) ∧ Aft g W6 wr) (fun i _ => t.plots.length - (intOf i).toNat)
    case atStart => exact ⟨0, Nat.zero_le _, rfl, by rw [mirK_zero]; exact HOU.out, Aft.of (Hold.refl _ _)⟩
    case round =>
      obtain ⟨k, hk, rfl, hown, hA⟩ := hrel
      obtain ⟨wk, rfl⟩ : ∃ wk : World, wk = wr := ⟨_, rfl⟩
      have HMk := Lib.hid (HMP6.out.aft hA (show w.heap.size ≠ g by omega) (show w2.heap.size ≠ g by omega) (show w3.heap.size ≠ g by omega) (show W4.heap.size ≠ g by omega) (HOG.out g (by omega)) (by omega))
      have HB10k : Hid (wk.heap[c10]? = some (.cells #[.int .i64 t.wide, .slice (some ⟨g, 0, none⟩) t.plots.length p10] 24 (0, 0))) := Lib.hid ((hA.same c10 hcg10 (Array.getElem?_eq_some_iff.1 HB10.out).1).trans HB10.out)
      have HB11k : Hid (wk.heap[c11]? = some (.cells #[.int .i64 wind, .int .i64 voice] 27 (0, 0))) := Lib.hid ((hA.same c11 hcg11 (Array.getElem?_eq_some_iff.1 HB11.out).1).trans HB11.out)
      have HOk := Lib.hid hown
      have HAk := Lib.hid hA
      have hzk := hA.size
      by_cases hlt : k < t.plots.length
      · have hlt' : (k : Int) < t.plots.length := by omega
        obtain ⟨b', o', e', -, hI⟩ := rd_ints HMk.out.rp (by intro h; rw [h] at hlt; simp at hlt)
        cases e'
        have c1 := hI.2 k hlt
        have hb1 := hI.1
        obtain ⟨x, hx⟩ : ∃ x, t.plots.getD k 0 = x := ⟨_, rfl⟩
        rw [hx] at c1
        obtain ⟨m, hm⟩ : ∃ m, mirP t down k = m := ⟨_, rfl⟩
        have hml : m < t.plots.length := by rw [← hm]; exact mir_lt HOK.out down hlt
        have hml' : (m : Int) < t.plots.length := by omega
        obtain ⟨cur, hgc⟩ : ∃ cur, wk.heap[g]? = some (.cells cur 102 (0, 0)) := by
          rcases hown.2 with ⟨_, h0⟩ | ⟨g', cap, cur, h1, h2, h3, _⟩
          · exact absurd h0 hplen
          · injection h1 with h1
            injection h1 with h1
            injection h1 with h1
            rw [← h1] at h3
            exact ⟨cur, h3⟩
        have HTO := Lib.hid (fun W h3 h8 h6 => to_any t HOK.out down w.heap.size W4.heap.size w2.heap.size (.slice (some ⟨pb, po, none⟩) t.plots.length pc) k hlt W h3 h8 h6)
        rw [hm] at HTO
        have HNX : Hid ((mirK t down k).set m x = mirK t down (k + 1)) := Lib.hid (by rw [← mirK_next HOK.out down hlt, hm, ← hx]; rfl)
        have HGC := Lib.hid hgc
        have hcm : ∃ y, wk.cell? ⟨g, m, none⟩ = some (.int .i64 y) := by
          have hr := RdI.own (xs := mirK t down k) (by rw [mirK_len]; rfl) rfl hown
          obtain ⟨b', o', e', -, hI⟩ := rd_ints hr (by intro h; have := mirK_len t down k; rw [h] at this; exact hplen this.symm)
          cases e'
          have := hI.2 m (by rw [mirK_len]; exact hml)
          rw [Nat.zero_add] at this
          exact ⟨_, this⟩
        obtain ⟨y, q5⟩ := hcm
        have HQ5 := Lib.hid ((cell_of_row _ _ _ _ _ _ hgc).symm.trans q5)
        obtain ⟨q0, q1⟩ := blk_cells2 HB10k.out
        have q2 : c10 < wk.heap.size := (Array.getElem?_eq_some_iff.1 HB10k.out).1
        have q3 : g < wk.heap.size := (Array.getElem?_eq_some_iff.1 hgc).1
        have q4 := frozen_of_row wk g m _ _ hgc
        clear hI hx hm hgc hown hA
        go_wp2_with fail
        go_region_with (go_at_call 78; refine (HTO.out _ (by exact HMk.out.b3) (by exact HMk.out.b8) (by exact HMk.out.b6)).mono ?_; rintro e w7 ⟨rfl, hB7⟩; have h10 := (hB7.block c10 (by exact q2)).trans HB10k.out; have hg7 := (hB7.block g (by exact q3)).trans HGC.out; have h7 := frozen_of_row w7 g m _ _ hg7; have r5 := (cell_of_row _ _ _ _ _ _ hg7).trans HQ5.out; obtain ⟨r0, r1⟩ := blk_cells2 h10; have r2 := (Array.getElem?_eq_some_iff.1 h10).1; have r3 := (Array.getElem?_eq_some_iff.1 hg7).1; have HB7 := Lib.hid hB7; clear hB7 h10 hg7)
        all_goals
          have hBB : Below wk.heap.size wk w7 := ⟨HB7.out.os, HB7.out.tape, HB7.out.output, HB7.out.size, HB7.out.block⟩
          have hrow := own_setCell_at (own_below HOk.out hBB) (i := m) (by rw [List.length_map, mirK_len]; exact hml) (.int .i64 x)
          rw [← List.map_set, HNX.out] at hrow
          have hAA : Aft g W6 (w7.setCell ⟨g, m, none⟩ (.int .i64 x)) := Hold.trans (Aft.below HAk.out hBB) (Hold.set _ _ _ _)
          have HRW := Lib.hid (And.intro hrow hAA)
          clear hBB hrow hAA
          go_wp2_with fail
          go_roundw
          case rel => exact ⟨k + 1, by omega, by simp, HRW.out.1, HRW.out.2⟩
          case measure => simp [intOf]; omega
      · obtain rfl : k = t.plots.length := by omega
        have hU := RdI.own (xs := mirK t down t.plots.length) (by rw [mirK_len]; rfl) rfl hown
        have hma : mirK t down t.plots.length = (mirT t down).plots := mirK_all HOK.out down
        rw [hma] at hU
        have HU := Lib.hid hU
        have hul : (mirT t down).plots.length = t.plots.length := mirT_len t down
        have HUL := Lib.hid hul
        obtain ⟨k0, k1, k2, k3, k4, k5, k6, k7, k8⟩ := HMk.out.cs
        obtain ⟨j0, j1⟩ := blk_cells2 HB11k.out
        have j2 : c11 < wk.heap.size := (Array.getElem?_eq_some_iff.1 HB11k.out).1
        have jf := frozen_of_row wk c11 0 _ _ HB11k.out
        clear hU hma hul hown hA HOU HB10 HB11 HMP6 HOk HAk
        go_upto_block 2 with fail
        go_cut [68] from 69 to 103 (fun s68 wx => Mq t down (.slice (some ⟨pb, po, none⟩) t.plots.length pc) (.slice (some ⟨g, 0, none⟩) t.plots.length p10) w.heap.size w2.heap.size w3.heap.size W4.heap.size c10 c11 wind voice w wx)
        case first =>
          have hgne : g ≠ c11 := fun e => hcg11 e.symm
          obtain ⟨w0', w4', -, -⟩ := HAV.out
          cases down
          · by_cases h1 : wind = 2
            · have d1 : (wind == 2) = true := by simpa using h1
              go_wp2_with fail
              go_meet
              have hS := Hold.set wk c11 0 (.int .i64 4)
              exact ⟨HMk.out.aft hS (show w.heap.size ≠ c11 by omega) (show w2.heap.size ≠ c11 by omega) (show w3.heap.size ≠ c11 by omega) (show W4.heap.size ≠ c11 by omega) (HOG.out c11 hc11) (by omega), (hS.same c10 hcc (Array.getElem?_eq_some_iff.1 HB10k.out).1).trans HB10k.out, by rw [show mirW false wind = 4 by unfold mirW; simp [h1]]; exact heap_set_same (o := 0) (.int .i64 4) HB11k.out, HU.out.hold hS (fun b o n' c e => by injection e with e1; injection e1 with e1; injection e1 with e1; show b ≠ c11; omega)⟩
            · have d1 : (wind == 2) = false := by simpa using h1
              by_cases h2 : wind = 4
              · have d2 : (wind == 4) = true := by simpa using h2
                go_wp2_with fail
                go_meet
                have hS := Hold.set wk c11 0 (.int .i64 2)
                exact ⟨HMk.out.aft hS (show w.heap.size ≠ c11 by omega) (show w2.heap.size ≠ c11 by omega) (show w3.heap.size ≠ c11 by omega) (show W4.heap.size ≠ c11 by omega) (HOG.out c11 hc11) (by omega), (hS.same c10 hcc (Array.getElem?_eq_some_iff.1 HB10k.out).1).trans HB10k.out, by rw [show mirW false wind = 2 by unfold mirW; simp [h2]]; exact heap_set_same (o := 0) (.int .i64 2) HB11k.out, HU.out.hold hS (fun b o n' c e => by injection e with e1; injection e1 with e1; injection e1 with e1; show b ≠ c11; omega)⟩
              · have d2 : (wind == 4) = false := by simpa using h2
                go_wp2_with fail
                go_meet
                exact ⟨HMk.out, HB10k.out, by rw [show mirW false wind = wind by unfold mirW; simp [h1, h2]]; exact HB11k.out, HU.out⟩
          · by_cases h1 : wind = 1
            · have d1 : (wind == 1) = true := by simpa using h1
              go_wp2_with fail
              go_meet
              have hS := Hold.set wk c11 0 (.int .i64 3)
              exact ⟨HMk.out.aft hS (show w.heap.size ≠ c11 by omega) (show w2.heap.size ≠ c11 by omega) (show w3.heap.size ≠ c11 by omega) (show W4.heap.size ≠ c11 by omega) (HOG.out c11 hc11) (by omega), (hS.same c10 hcc (Array.getElem?_eq_some_iff.1 HB10k.out).1).trans HB10k.out, by rw [show mirW true wind = 3 by unfold mirW; simp [h1]]; exact heap_set_same (o := 0) (.int .i64 3) HB11k.out, HU.out.hold hS (fun b o n' c e => by injection e with e1; injection e1 with e1; injection e1 with e1; show b ≠ c11; omega)⟩
            · have d1 : (wind == 1) = false := by simpa using h1
              by_cases h2 : wind = 3
              · have d2 : (wind == 3) = true := by simpa using h2
                go_wp2_with fail
                go_meet
                have hS := Hold.set wk c11 0 (.int .i64 1)
                exact ⟨HMk.out.aft hS (show w.heap.size ≠ c11 by omega) (show w2.heap.size ≠ c11 by omega) (show w3.heap.size ≠ c11 by omega) (show W4.heap.size ≠ c11 by omega) (HOG.out c11 hc11) (by omega), (hS.same c10 hcc (Array.getElem?_eq_some_iff.1 HB10k.out).1).trans HB10k.out, by rw [show mirW true wind = 1 by unfold mirW; simp [h2]]; exact heap_set_same (o := 0) (.int .i64 1) HB11k.out, HU.out.hold hS (fun b o n' c e => by injection e with e1; injection e1 with e1; injection e1 with e1; show b ≠ c11; omega)⟩
              · have d2 : (wind == 3) = false := by simpa using h2
                go_wp2_with fail
                go_meet
                exact ⟨HMk.out, HB10k.out, by rw [show mirW true wind = wind by unfold mirW; simp [h1, h2]]; exact HB11k.out, HU.out⟩
        case rest =>
          have HMQ := Lib.hid hcut
          clear hcut HB10k HB11k HMk HU HOG k0 k1 k2 k3 k4 k5 k6 k7 k8 j0 j1 j2 jf
          obtain ⟨k0, k1, k2, k3, k4, k5, k6, k7, k8, k9, k10, k11⟩ := HMQ.out.cs
          go_wp2_with fail
          obtain ⟨w0', w4', v1', v16'⟩ := HAV.out
          have hmr := mirW_rng (down := down) w0' w4'
          have HCU := Lib.hid (mirT_check HOK.out HC.out down)
          have HOU := Lib.hid (mirT_ok HOK.out down)
          have HST := Lib.hid (streets_any t.wide (some ⟨pb, po, none⟩) pc t.plots (by omega) _ HMQ.out.mp.rp)
          have hL30 : (kindIdx t.plots 0).length ≤ 30 := by have := kindTo_len t.plots 0 t.plots.length; unfold kindIdx; omega
          obtain ⟨L, hL⟩ : ∃ L, L = kindIdx t.plots 0 := ⟨_, rfl⟩
          rw [← hL] at HST hL30
          have HLQ := Lib.hid hL
          clear hL
          refine HST.out.mono ?_
          rintro e w8 ⟨v105, rfl, ho105, hB⟩
          have HRL := Lib.hid (RdI.own rfl rfl ho105)
          obtain ⟨a105, p105, rfl⟩ := own_slice ho105
          have HMQ8 := Lib.hid (HMQ.out.below hB)
          clear HST ho105 hB HMQ k0 k1 k2 k3 k4 k5 k6 k7 k8 k9 k10 k11
          go_wp2_with fail
          go_loopw [107] (fun i wr => ∃ k : Nat, k ≤ L.length ∧ i = .int .i64 k ∧ Below w8.heap.size w8 wr) (fun i _ => L.length - (intOf i).toNat)
          case atStart => exact ⟨0, Nat.zero_le _, rfl, Below.refl _ _⟩
          case round =>
            obtain ⟨k, hk, rfl, hB⟩ := hrel
            obtain ⟨wj, rfl⟩ : ∃ wj : World, wj = wr := ⟨_, rfl⟩
            have HMQj := Lib.hid (HMQ8.out.below hB)
            have HBj := Lib.hid hB
            by_cases hlt : k < L.length
            · have hlt' : (k : Int) < L.length := by omega
              obtain ⟨b1, o1, rfl, -, hI1⟩ := rd_ints (HRL.out.below hB) (by intro e; rw [e] at hlt; simp at hlt)
              obtain ⟨s, hs, hsl, hs0⟩ : ∃ s : Nat, L.getD k 0 = s ∧ s < t.len ∧ t.at s = 0 := by
                have := mem_getD hlt
                rw [HLQ.out] at this
                obtain ⟨s, e, h1, h2⟩ := mem_kindIdx.1 this
                exact ⟨s, by rw [HLQ.out]; exact e, h1, h2⟩
              have c1 := hI1.2 k hlt
              rw [hs] at c1
              have hb1 := hI1.1
              have e1 := needs_err0 HC.out w0' w4' hsl hs0
              have hsu : mirP t down s < (mirT t down).len := by rw [mirT_len]; exact mir_lt HOK.out down hsl
              have hau : (mirT t down).at (mirP t down s) = 0 := by rw [mirT_at down (mir_lt HOK.out down hsl), mir_mir HOK.out down hsl]; exact hs0
              have e2 := needs_err0 (t := mirT t down) HCU.out hmr.1 hmr.2 hsu hau
              have HN1 := Lib.hid (Needs_yes t HOK.out wind s hsl e1 (some ⟨pb, po, none⟩) pc wj HMQj.out.mp.rp)
              have HN2 : Hid (∀ W, RdI W (.slice (some ⟨g, 0, none⟩) t.plots.length p10) (mirT t down).plots → Calls Try.prog 30 #[.agg #[.int .i64 t.wide, .slice (some ⟨g, 0, none⟩) t.plots.length p10], .int .i64 (mirW down wind), .int .i64 (mirP t down s : Nat)] W fun e w' => ∃ tb, e = .returned (.tuple #[.slice (some ⟨tb, 0, none⟩) t.plots.length t.plots.length, .int .i64 0]) ∧ TabAt w' tb ((mirT t down).needs (mirW down wind) (mirP t down s)) ∧ W.heap.size ≤ tb ∧ Below W.heap.size W w') := Lib.hid (fun W hR => by
                have hl : ((mirT t down).needs (mirW down wind) (mirP t down s)).length = t.plots.length := (needs_len HOU.out (mirW down wind) hsu).trans (mirT_len t down)
                have h := Needs_yes (mirT t down) HOU.out (mirW down wind) (mirP t down s) hsu e2 (some ⟨g, 0, none⟩) p10 W (by rw [HUL.out]; exact hR)
                rw [hl, HUL.out] at h
                exact h)
              have hX1 : (t.needs wind s).length = t.plots.length := needs_len HOK.out wind hsl
              have hY1 : ((mirT t down).needs (mirW down wind) (mirP t down s)).length = t.plots.length := (needs_len HOU.out (mirW down wind) hsu).trans (mirT_len t down)
              have HEQ := Lib.hid (fun (p : Nat) (hp : p < t.len) => needs_mir HOK.out down wind hsl hp)
              have HTO := Lib.hid (fun W h3 h8 h6 => to_any t HOK.out down w.heap.size W4.heap.size w2.heap.size (.slice (some ⟨pb, po, none⟩) t.plots.length pc) s hsl W h3 h8 h6)
              obtain ⟨X, hX⟩ : ∃ X, X = t.needs wind s := ⟨_, rfl⟩
              obtain ⟨Y, hY⟩ : ∃ Y, Y = (mirT t down).needs (mirW down wind) (mirP t down s) := ⟨_, rfl⟩
              obtain ⟨mw, hmw⟩ : ∃ mw, mw = mirW down wind := ⟨_, rfl⟩
              obtain ⟨ms, hms⟩ : ∃ ms : Nat, ms = mirP t down s := ⟨_, rfl⟩
              rw [← hX] at HN1 HEQ hX1
              rw [← hY] at HN2 HEQ hY1
              rw [← hmw, ← hms] at HN2
              rw [← hms] at HTO
              rw [hX1] at HN1
              have HX1 := Lib.hid hX1
              have HY1 := Lib.hid hY1
              have HMW := Lib.hid hmw
              obtain ⟨k0, k1, k2, k3, k4, k5, k6, k7, k8, k9, k10, k11⟩ := HMQj.out.cs
              clear hI1 hs e1 e2 hsu hau hX hY hX1 hY1 hms hB hmw
              go_wp2_with fail
              refine HN1.out.mono ?_
              rintro e w9 ⟨tb, rfl, hT, -, hB⟩
              have HT := Lib.hid hT
              have HMQ9 := Lib.hid (HMQj.out.below hB)
              have HB9 := Lib.hid (join HBj.out hB)
              clear hT hB HN1 c1 hb1 k0 k1 k2 k3 k4 k5 k6 k7 k8 k9 k10 k11
              go_upto_region 22 with fail
              refine Rs.region_gen 12 [[], [], [1], [], [], [3, 4], [0, 1, 2, 3, 4, 5], [0, 1, 2, 3, 4, 5, 6], [0, 1, 2, 3, 4, 5, 6, 7], [0, 1, 2, 3, 4, 5, 6, 7], [0, 1, 2, 3, 4, 5, 6, 7, 8], [0, 1, 2, 3, 4, 5, 6, 7, 8, 9, 10]] [some 120, some 121, some 122, some 123, some 124, some 125, some 126, some 119, some 127, some 128, some 18, some 19] (spM22 (.agg #[.int .i64 t.wide, .slice (some ⟨g, 0, none⟩) t.plots.length p10]) (.func (.func 78) #[] #[.pointer (some ⟨w.heap.size, 0, none⟩), .pointer (some ⟨W4.heap.size, 0, none⟩), .pointer (some ⟨w2.heap.size, 0, none⟩)]) c11 mw s ms t.plots.length Y) (by kernel_rfl) (by kernel_rfl) rfl (spM22_stable _ _ _ _ _ _ _ _) ?_ ?_
              · refine ⟨fun V w' hG hs => ?_, fun V w' hG hs => ?_, fun V w' hG hs => ?_, fun V w' hG hs => ?_, fun V w' hG hs => ?_, fun V w' hG hs => ?_, fun V w' hG hs => ?_, fun V w' hG hs => ?_, fun V w' hG hs => ?_, fun V w' hG hs => ?_, fun V w' hG hs => ?_, fun V w' hG hs => ?_, trivial⟩
                all_goals
                  have hMr := HMQ9.out.below hG
                  obtain ⟨k0, k1, k2, k3, k4, k5, k6, k7, k8, k9, k10, k11⟩ := hMr.cs
                  rw [← HMW.out] at k8
                · rw [if_pos (by rfl)]
                  exact Rs.GrowL.value (v := (.agg #[.int .i64 t.wide, .slice (some ⟨g, 0, none⟩) t.plots.length p10])) (w' := w') (by simp [go_sem, Rs.look, k6, k7]) (Rs.Gr.refl _) rfl
                · rw [if_pos (by rfl)]
                  exact Rs.GrowL.value (v := .pointer (some ⟨c11, 0, none⟩)) (w' := w') (by simp [go_sem, Rs.look]) (Rs.Gr.refl _) rfl
                · have e1 : V 1 = .pointer (some ⟨c11, 0, none⟩) := hs 1 (by simp)
                  rw [if_pos (by rfl)]
                  exact Rs.GrowL.value (v := .int .i64 mw) (w' := w') (by simp [go_sem, Rs.look, e1, k8]) (Rs.Gr.refl _) rfl
                · rw [if_pos (by rfl)]
                  exact Rs.GrowL.value (v := (.func (.func 78) #[] #[.pointer (some ⟨w.heap.size, 0, none⟩), .pointer (some ⟨W4.heap.size, 0, none⟩), .pointer (some ⟨w2.heap.size, 0, none⟩)])) (w' := w') (by simp [go_sem, Rs.look]) (Rs.Gr.refl _) rfl
                · rw [if_pos (by rfl)]
                  exact Rs.GrowL.value (v := .int .i64 s) (w' := w') (by simp [go_sem, Rs.look]) (Rs.Gr.refl _) rfl
                · have e3 : V 3 = (.func (.func 78) #[] #[.pointer (some ⟨w.heap.size, 0, none⟩), .pointer (some ⟨W4.heap.size, 0, none⟩), .pointer (some ⟨w2.heap.size, 0, none⟩)]) := hs 3 (by simp)
                  have e4 : V 4 = .int .i64 s := hs 4 (by simp)
                  rw [if_pos (by rfl)]
                  refine Rs.GrowL.call (f := 78) (args := #[.int .i64 s, .pointer (some ⟨w.heap.size, 0, none⟩), .pointer (some ⟨W4.heap.size, 0, none⟩), .pointer (some ⟨w2.heap.size, 0, none⟩)]) (by simp [go_sem, Rs.look, e3, e4]) ?_
                  refine (HTO.out w' hMr.mp.b3 hMr.mp.b8 hMr.mp.b6).mono ?_
                  rintro e w3' ⟨rfl, hB⟩
                  exact ⟨_, rfl, hB, rfl⟩
                · have e0 : V 0 = (.agg #[.int .i64 t.wide, .slice (some ⟨g, 0, none⟩) t.plots.length p10]) := hs 0 (by simp)
                  have e1 : V 1 = .pointer (some ⟨c11, 0, none⟩) := hs 1 (by simp)
                  have e2 : V 2 = .int .i64 mw := hs 2 (by simp)
                  have e3 : V 3 = (.func (.func 78) #[] #[.pointer (some ⟨w.heap.size, 0, none⟩), .pointer (some ⟨W4.heap.size, 0, none⟩), .pointer (some ⟨w2.heap.size, 0, none⟩)]) := hs 3 (by simp)
                  have e4 : V 4 = .int .i64 s := hs 4 (by simp)
                  have e5 : V 5 = .int .i64 ms := hs 5 (by simp)
                  rw [if_pos (by rfl)]
                  refine Rs.GrowL.call (f := 30) (args := #[.agg #[.int .i64 t.wide, .slice (some ⟨g, 0, none⟩) t.plots.length p10], .int .i64 mw, .int .i64 ms]) (by simp [go_sem, Rs.look, e0, e2, e5]) ?_
                  refine (HN2.out w' hMr.ru).mono ?_
                  rintro e w3' ⟨tb, rfl, hT, -, hB⟩
                  exact ⟨_, rfl, hB, tb, rfl, hT⟩
                · have e0 : V 0 = (.agg #[.int .i64 t.wide, .slice (some ⟨g, 0, none⟩) t.plots.length p10]) := hs 0 (by simp)
                  have e1 : V 1 = .pointer (some ⟨c11, 0, none⟩) := hs 1 (by simp)
                  have e2 : V 2 = .int .i64 mw := hs 2 (by simp)
                  have e3 : V 3 = (.func (.func 78) #[] #[.pointer (some ⟨w.heap.size, 0, none⟩), .pointer (some ⟨W4.heap.size, 0, none⟩), .pointer (some ⟨w2.heap.size, 0, none⟩)]) := hs 3 (by simp)
                  have e4 : V 4 = .int .i64 s := hs 4 (by simp)
                  have e5 : V 5 = .int .i64 ms := hs 5 (by simp)
                  have r6 := hs 6 (by simp)
                  rw [if_pos (by rfl)]
                  obtain ⟨tb, e6, hT⟩ : ∃ tb, V 6 = .tuple #[.slice (some ⟨tb, 0, none⟩) t.plots.length t.plots.length, .int .i64 0] ∧ TabAt w' tb Y := r6
                  exact Rs.GrowL.value (v := .tuple #[.slice (some ⟨tb, 0, none⟩) t.plots.length t.plots.length, .int .i64 0]) (w' := w') (by simp [go_sem, Rs.look, e6]) (Rs.Gr.refl _) ⟨tb, rfl, hT⟩
                · have e0 : V 0 = (.agg #[.int .i64 t.wide, .slice (some ⟨g, 0, none⟩) t.plots.length p10]) := hs 0 (by simp)
                  have e1 : V 1 = .pointer (some ⟨c11, 0, none⟩) := hs 1 (by simp)
                  have e2 : V 2 = .int .i64 mw := hs 2 (by simp)
                  have e3 : V 3 = (.func (.func 78) #[] #[.pointer (some ⟨w.heap.size, 0, none⟩), .pointer (some ⟨W4.heap.size, 0, none⟩), .pointer (some ⟨w2.heap.size, 0, none⟩)]) := hs 3 (by simp)
                  have e4 : V 4 = .int .i64 s := hs 4 (by simp)
                  have e5 : V 5 = .int .i64 ms := hs 5 (by simp)
                  have r6 := hs 6 (by simp)
                  have r7 := hs 7 (by simp)
                  rw [if_pos (by rfl)]
                  obtain ⟨tb, e7, hT⟩ : ∃ tb, V 7 = .tuple #[.slice (some ⟨tb, 0, none⟩) t.plots.length t.plots.length, .int .i64 0] ∧ TabAt w' tb Y := r7
                  exact Rs.GrowL.value (v := .slice (some ⟨tb, 0, none⟩) t.plots.length t.plots.length) (w' := w') (by simp [go_sem, Rs.look, e7]) (Rs.Gr.refl _) ⟨tb, rfl, hT⟩
                · have e0 : V 0 = (.agg #[.int .i64 t.wide, .slice (some ⟨g, 0, none⟩) t.plots.length p10]) := hs 0 (by simp)
                  have e1 : V 1 = .pointer (some ⟨c11, 0, none⟩) := hs 1 (by simp)
                  have e2 : V 2 = .int .i64 mw := hs 2 (by simp)
                  have e3 : V 3 = (.func (.func 78) #[] #[.pointer (some ⟨w.heap.size, 0, none⟩), .pointer (some ⟨W4.heap.size, 0, none⟩), .pointer (some ⟨w2.heap.size, 0, none⟩)]) := hs 3 (by simp)
                  have e4 : V 4 = .int .i64 s := hs 4 (by simp)
                  have e5 : V 5 = .int .i64 ms := hs 5 (by simp)
                  have r6 := hs 6 (by simp)
                  have r7 := hs 7 (by simp)
                  rw [if_pos (by rfl)]
                  obtain ⟨tb, e7, hT⟩ : ∃ tb, V 7 = .tuple #[.slice (some ⟨tb, 0, none⟩) t.plots.length t.plots.length, .int .i64 0] ∧ TabAt w' tb Y := r7
                  exact Rs.GrowL.value (v := .int .i64 0) (w' := w') (by simp [go_sem, Rs.look, e7]) (Rs.Gr.refl _) rfl
                · have e0 : V 0 = (.agg #[.int .i64 t.wide, .slice (some ⟨g, 0, none⟩) t.plots.length p10]) := hs 0 (by simp)
                  have e1 : V 1 = .pointer (some ⟨c11, 0, none⟩) := hs 1 (by simp)
                  have e2 : V 2 = .int .i64 mw := hs 2 (by simp)
                  have e3 : V 3 = (.func (.func 78) #[] #[.pointer (some ⟨w.heap.size, 0, none⟩), .pointer (some ⟨W4.heap.size, 0, none⟩), .pointer (some ⟨w2.heap.size, 0, none⟩)]) := hs 3 (by simp)
                  have e4 : V 4 = .int .i64 s := hs 4 (by simp)
                  have e5 : V 5 = .int .i64 ms := hs 5 (by simp)
                  have r6 := hs 6 (by simp)
                  have r7 := hs 7 (by simp)
                  have r8 := hs 8 (by simp)
                  rw [if_pos (by rfl)]
                  obtain ⟨tb, e8, hT⟩ : ∃ tb, V 8 = .slice (some ⟨tb, 0, none⟩) t.plots.length t.plots.length ∧ TabAt w' tb Y := r8
                  exact Rs.GrowL.value (v := .slice (some ⟨tb, 0, none⟩) t.plots.length t.plots.length) (w' := w') (by simp [go_sem, Rs.look, e8]) (Rs.Gr.refl _) ⟨tb, rfl, hT⟩
                · have e0 : V 0 = (.agg #[.int .i64 t.wide, .slice (some ⟨g, 0, none⟩) t.plots.length p10]) := hs 0 (by simp)
                  have e1 : V 1 = .pointer (some ⟨c11, 0, none⟩) := hs 1 (by simp)
                  have e2 : V 2 = .int .i64 mw := hs 2 (by simp)
                  have e3 : V 3 = (.func (.func 78) #[] #[.pointer (some ⟨w.heap.size, 0, none⟩), .pointer (some ⟨W4.heap.size, 0, none⟩), .pointer (some ⟨w2.heap.size, 0, none⟩)]) := hs 3 (by simp)
                  have e4 : V 4 = .int .i64 s := hs 4 (by simp)
                  have e5 : V 5 = .int .i64 ms := hs 5 (by simp)
                  have r6 := hs 6 (by simp)
                  have r7 := hs 7 (by simp)
                  have r8 := hs 8 (by simp)
                  have e9 : V 9 = .int .i64 0 := hs 9 (by simp)
                  have r10 := hs 10 (by simp)
                  rw [if_pos (by rfl)]
                  exact Rs.GrowL.value (v := .int .i64 0) (w' := w') (by simp [go_sem, Rs.look, e0, e1, e2, e3, e4, e5, e9]) (Rs.Gr.refl _) rfl
              · intro V w' hG hs
                have e0 : V 0 = (.agg #[.int .i64 t.wide, .slice (some ⟨g, 0, none⟩) t.plots.length p10]) := hs 0 (by omega)
                have e1 : V 1 = .pointer (some ⟨c11, 0, none⟩) := hs 1 (by omega)
                have e2 : V 2 = .int .i64 mw := hs 2 (by omega)
                have e3 : V 3 = (.func (.func 78) #[] #[.pointer (some ⟨w.heap.size, 0, none⟩), .pointer (some ⟨W4.heap.size, 0, none⟩), .pointer (some ⟨w2.heap.size, 0, none⟩)]) := hs 3 (by omega)
                have e4 : V 4 = .int .i64 s := hs 4 (by omega)
                have e5 : V 5 = .int .i64 ms := hs 5 (by omega)
                have r6 := hs 6 (by omega)
                have r7 := hs 7 (by omega)
                have r8 := hs 8 (by omega)
                have e9 : V 9 = .int .i64 0 := hs 9 (by omega)
                have r10 := hs 10 (by omega)
                have e11 : V 11 = .int .i64 0 := hs 11 (by omega)
                obtain ⟨tb2, e10, hT2⟩ : ∃ tb, V 10 = .slice (some ⟨tb, 0, none⟩) t.plots.length t.plots.length ∧ TabAt w' tb Y := r10
                simp only [Rs.canon, Rs.dstOf, List.range_succ, List.range_zero, List.nil_append, List.cons_append, List.foldl_cons, List.foldl_nil, List.drop_succ_cons, List.drop_zero, List.drop_nil, List.getElem?_toArray, List.getElem?_cons_succ, List.getElem?_cons_zero, Option.bind_some, Act.put, List.getD_cons_succ, List.getD_cons_zero, List.setIfInBounds_toArray, List.set_cons_succ, List.set_cons_zero]
                rw [e0, e1, e2, e3, e4, e5, e9, e10, e11]
                generalize V 6 = y6
                generalize V 7 = y7
                generalize V 8 = y8
                have HT2 := Lib.hid hT2
                have HT := Lib.hid (HT.out.below hG HT.out.lt)
                have HMQa := Lib.hid (HMQ9.out.below hG)
                have HBa := Lib.hid (join HB9.out hG)
                obtain ⟨wa, rfl⟩ : ∃ wa : World, wa = w' := ⟨_, rfl⟩
                clear e0 e1 e2 e3 e4 e5 e9 e10 e11 r6 r7 r8 hs hT2 hG HTO HMQ9 HB9 HN2
                obtain ⟨k0, k1, k2, k3, k4, k5, k6, k7, k8, k9, k10, k11⟩ := HMQa.out.cs
                go_wp2_with fail
                clear k0 k1 k2 k3 k4 k5 k6 k7 k8 k9 k10 k11
                go_loopw [153] (fun i wr => ∃ j : Nat, j ≤ t.plots.length ∧ i = .int .i64 j ∧ Below wa.heap.size wa wr) (fun i _ => t.plots.length - (intOf i).toNat)
                case atStart => exact ⟨0, Nat.zero_le _, rfl, Below.refl _ _⟩
                case round =>
                  obtain ⟨j, hj, rfl, hBj⟩ := hrel
                  obtain ⟨wb, rfl⟩ : ∃ wb : World, wb = wr := ⟨_, rfl⟩
                  have HBb := Lib.hid hBj
                  by_cases hjl : j < t.plots.length
                  · have hjl' : (j : Int) < t.plots.length := by omega
                    have hMb := HMQa.out.below hBj
                    have HTb := HT.out.below hBj HT.out.lt
                    have HT2b := HT2.out.below hBj HT2.out.lt
                    have HTJ := Lib.hid (to_any t HOK.out down w.heap.size W4.heap.size w2.heap.size (.slice (some ⟨pb, po, none⟩) t.plots.length pc) j hjl wb hMb.mp.b3 hMb.mp.b8 hMb.mp.b6)
                    have hml : mirP t down j < t.plots.length := mir_lt HOK.out down hjl
                    have heq := HEQ.out j hjl
                    obtain ⟨m, hm⟩ : ∃ m, mirP t down j = m := ⟨_, rfl⟩
                    rw [hm] at hml heq HTJ
                    obtain ⟨xk, hxk⟩ : ∃ xk, X.getD j 0 = xk := ⟨_, rfl⟩
                    have cx := HTb.cell (i := j) (by rw [HX1.out]; exact hjl)
                    rw [hxk] at cx
                    rw [hxk] at heq
                    have hml' : (m : Int) < t.plots.length := by omega
                    have htb := HTb.lt
                    have HT2B := Lib.hid HT2b
                    have d1 : (xk != xk) = false := by simp
                    have HQ := Lib.hid heq
                    clear hm hxk HTb HT2b hMb hBj heq
                    go_wp2_with fail
                    refine HTJ.out.mono ?_
                    rintro e wd ⟨rfl, hB⟩
                    have hT2d := HT2B.out.below hB HT2B.out.lt
                    have cy := hT2d.cell (i := m) (by rw [HY1.out]; exact hml)
                    rw [HQ.out] at cy
                    have htb2 := hT2d.lt
                    have HBd := Lib.hid (join HBb.out hB)
                    clear hT2d hB HTJ cx htb
                    go_wp2_with fail
                    go_roundw
                    case rel => exact ⟨j + 1, by omega, by simp, HBd.out⟩
                    case measure => simp [intOf]; omega
                  · obtain rfl : j = t.plots.length := by omega
                    clear hBj
                    go_wp2_with fail
                    go_roundw
                    case rel => exact ⟨k + 1, by omega, by simp, join HBa.out HBb.out⟩
                    case measure => simp [intOf]; omega
            · obtain rfl : k = L.length := by omega
              have ha2 : airErr (mirW down wind) voice = 0 := by unfold airErr; rw [if_neg (by omega)]
              have ha1 : airErr wind voice = 0 := by unfold airErr; rw [if_neg (by omega)]
              have HHO := Lib.hid (fun W hR => houses_any t.wide (some ⟨pb, po, none⟩) pc t.plots (by omega) W hR)
              have HHU : Hid (∀ W, RdI W (.slice (some ⟨g, 0, none⟩) t.plots.length p10) (mirT t down).plots → Calls Try.prog 63 #[.agg #[.int .i64 t.wide, .slice (some ⟨g, 0, none⟩) t.plots.length p10]] W fun e w' => ∃ v, e = .returned v ∧ w'.ownsRow W.heap.size 3 1 v (kindIdx (mirT t down).plots 1).length ((kindIdx (mirT t down).plots 1).map (Value.int .i64)) ∧ Below W.heap.size W w') := Lib.hid (fun W hR => by
                have h := houses_any t.wide (some ⟨g, 0, none⟩) p10 (mirT t down).plots (by rw [HUL.out]; omega) W (by rw [HUL.out]; exact hR)
                rw [HUL.out] at h
                exact h)
              have HA2 := Lib.hid ha2
              have HA1 := Lib.hid ha1
              obtain ⟨H, hH⟩ : ∃ H, H = kindIdx t.plots 1 := ⟨_, rfl⟩
              obtain ⟨Hu, hHu⟩ : ∃ Hu, Hu = kindIdx (mirT t down).plots 1 := ⟨_, rfl⟩
              rw [← hH] at HHO
              rw [← hHu] at HHU
              have HHQ := Lib.hid hH
              have HHUQ := Lib.hid hHu
              clear hB hH hHu ha1 ha2 HRL HMQ8
              go_upto_region 32 with fail
              refine Rs.region_gen 6 [[], [0], [], [0, 1, 2], [0, 1, 2, 3], [0, 1, 2, 3, 4]] [some 168, some 169, some 170, some 171, some 22, some 23] (spM32 (.agg #[.int .i64 t.wide, .slice (some ⟨pb, po, none⟩) t.plots.length pc]) (.agg #[.int .i64 t.wide, .slice (some ⟨g, 0, none⟩) t.plots.length p10]) H Hu wj.heap.size) (by kernel_rfl) (by kernel_rfl) rfl (spM32_stable _ _ _ _ _) ?_ ?_
              · refine ⟨fun V w' hG hs => ?_, fun V w' hG hs => ?_, fun V w' hG hs => ?_, fun V w' hG hs => ?_, fun V w' hG hs => ?_, fun V w' hG hs => ?_, trivial⟩
                all_goals
                  have hMr := HMQj.out.below hG
                  obtain ⟨k0, k1, k2, k3, k4, k5, k6, k7, k8, k9, k10, k11⟩ := hMr.cs
                · rw [if_pos (by rfl)]
                  exact Rs.GrowL.value (v := (.agg #[.int .i64 t.wide, .slice (some ⟨pb, po, none⟩) t.plots.length pc])) (w' := w') (by simp [go_sem, Rs.look, k0, k1]) (Rs.Gr.refl _) rfl
                · have e0 : V 0 = (.agg #[.int .i64 t.wide, .slice (some ⟨pb, po, none⟩) t.plots.length pc]) := hs 0 (by simp)
                  rw [if_pos (by rfl)]
                  refine Rs.GrowL.call (f := 63) (args := #[.agg #[.int .i64 t.wide, .slice (some ⟨pb, po, none⟩) t.plots.length pc]]) (by simp [go_sem, Rs.look, e0]) ?_
                  refine (HHO.out w' hMr.mp.rp).mono ?_
                  rintro e w3' ⟨u, rfl, ho, hB⟩
                  exact ⟨_, rfl, hB, own_base ho hG.size⟩
                · rw [if_pos (by rfl)]
                  exact Rs.GrowL.value (v := (.agg #[.int .i64 t.wide, .slice (some ⟨g, 0, none⟩) t.plots.length p10])) (w' := w') (by simp [go_sem, Rs.look, k6, k7]) (Rs.Gr.refl _) rfl
                · have e0 : V 0 = (.agg #[.int .i64 t.wide, .slice (some ⟨pb, po, none⟩) t.plots.length pc]) := hs 0 (by simp)
                  have r1 := hs 1 (by simp)
                  have e2 : V 2 = (.agg #[.int .i64 t.wide, .slice (some ⟨g, 0, none⟩) t.plots.length p10]) := hs 2 (by simp)
                  rw [if_pos (by rfl)]
                  refine Rs.GrowL.call (f := 63) (args := #[.agg #[.int .i64 t.wide, .slice (some ⟨g, 0, none⟩) t.plots.length p10]]) (by simp [go_sem, Rs.look, e2]) ?_
                  refine (HHU.out w' hMr.ru).mono ?_
                  rintro e w3' ⟨u, rfl, ho, hB⟩
                  exact ⟨_, rfl, hB, own_base ho hG.size⟩
                · have e0 : V 0 = (.agg #[.int .i64 t.wide, .slice (some ⟨pb, po, none⟩) t.plots.length pc]) := hs 0 (by simp)
                  have r1 := hs 1 (by simp)
                  have e2 : V 2 = (.agg #[.int .i64 t.wide, .slice (some ⟨g, 0, none⟩) t.plots.length p10]) := hs 2 (by simp)
                  have r3 := hs 3 (by simp)
                  rw [if_pos (by rfl)]
                  exact Rs.GrowL.value (v := V 1) (w' := w') (by simp [go_sem, Rs.look]) (Rs.Gr.refl _) r1
                · have e0 : V 0 = (.agg #[.int .i64 t.wide, .slice (some ⟨pb, po, none⟩) t.plots.length pc]) := hs 0 (by simp)
                  have r1 := hs 1 (by simp)
                  have e2 : V 2 = (.agg #[.int .i64 t.wide, .slice (some ⟨g, 0, none⟩) t.plots.length p10]) := hs 2 (by simp)
                  have r3 := hs 3 (by simp)
                  have r4 := hs 4 (by simp)
                  rw [if_pos (by rfl)]
                  exact Rs.GrowL.value (v := V 3) (w' := w') (by simp [go_sem, Rs.look]) (Rs.Gr.refl _) r3
              · intro V w' hG hs
                have e0 : V 0 = (.agg #[.int .i64 t.wide, .slice (some ⟨pb, po, none⟩) t.plots.length pc]) := hs 0 (by omega)
                have r1 := hs 1 (by omega)
                have e2 : V 2 = (.agg #[.int .i64 t.wide, .slice (some ⟨g, 0, none⟩) t.plots.length p10]) := hs 2 (by omega)
                have r3 := hs 3 (by omega)
                have r4 := hs 4 (by omega)
                have r5 := hs 5 (by omega)
                have r4 : w'.ownsRow wj.heap.size 3 1 (V 4) H.length (H.map (Value.int .i64)) := r4
                have r5 : w'.ownsRow wj.heap.size 3 1 (V 5) Hu.length (Hu.map (Value.int .i64)) := r5
                simp only [Rs.canon, Rs.dstOf, List.range_succ, List.range_zero, List.nil_append, List.cons_append, List.foldl_cons, List.foldl_nil, List.drop_succ_cons, List.drop_zero, List.drop_nil, List.getElem?_toArray, List.getElem?_cons_succ, List.getElem?_cons_zero, Option.bind_some, Act.put, List.getD_cons_succ, List.getD_cons_zero, List.setIfInBounds_toArray, List.set_cons_succ, List.set_cons_zero]
                rw [e0, e2]
                generalize V 1 = y1'
                generalize V 3 = y3'
                generalize V 4 = v22 at r4 ⊢
                generalize V 5 = v23 at r5 ⊢
                have HR22 := Lib.hid (RdI.own rfl rfl r4)
                have HR23 := Lib.hid (RdI.own rfl rfl r5)
                obtain ⟨a22, p22, rfl⟩ := own_slice r4
                obtain ⟨a23, p23, rfl⟩ := own_slice r5
                have HMQb := Lib.hid (HMQj.out.below hG)
                clear e0 e2 r1 r3 r4 r5 hs hG HHO HHU HMQj
                have HFT := Lib.hid (Few_l HOK.out HC.out wind voice HA1.out pb po pc a22 p22)
                have HFU := Lib.hid (Few_l (t := mirT t down) HOU.out HCU.out (mirW down wind) voice HA2.out g 0 p10 a23 p23)
                have HAT := Lib.hid (Apart_h HOK.out HC.out wind voice HA1.out pb po pc a22 p22)
                have HAU := Lib.hid (Apart_h (t := mirT t down) HOU.out HCU.out (mirW down wind) voice HA2.out g 0 p10 a23 p23)
                have HLT := Lib.hid (fun W => Louder_h HOK.out HC.out wind w0' w4' pb po pc a22 p22 2 (by omega) W)
                have HLU := Lib.hid (fun W => Louder_h (t := mirT t down) HOU.out HCU.out (mirW down wind) hmr.1 hmr.2 g 0 p10 a23 p23 2 (by omega) W)
                have hfl := fewL_mir HOK.out HC.out down wind voice
                have hal := apL_mir HOK.out down wind voice
                rw [HUL.out, ← HHUQ.out, firstE_mir HOK.out down wind voice] at HFU
                rw [HUL.out, ← HHUQ.out] at HAU HLU
                rw [leastV_mir HOK.out HC.out down HCU.out wind 2] at HLU
                rw [← HHQ.out] at HFT HAT HLT
                obtain ⟨la, lb, hla⟩ := louder_tuple (leastV t wind (fun _ => true) 2)
                rw [hla] at HLT HLU
                generalize firstE (lis t wind voice fun _ => true) = E at HFT HFU
                obtain ⟨X, hX⟩ : ∃ X, X = fewL t wind voice := ⟨_, rfl⟩
                obtain ⟨Y, hY⟩ : ∃ Y, Y = fewL (mirT t down) (mirW down wind) voice := ⟨_, rfl⟩
                obtain ⟨K, hK⟩ : ∃ K, K = apL t wind voice := ⟨_, rfl⟩
                obtain ⟨M, hM⟩ : ∃ M, M = apL (mirT t down) (mirW down wind) voice := ⟨_, rfl⟩
                rw [← hX] at HFT hfl
                rw [← hY] at HFU hfl
                rw [← hK] at HAT hal
                rw [← hM] at HAU hal
                have d1 : ((X.length : Int) == (Y.length : Int)) = true := by simp; omega
                have d1' : (X.length == Y.length) = true := by simp; omega
                have d2 : ((K.length : Int) == (M.length : Int)) = true := by simp; omega
                have d2' : (K.length == M.length) = true := by simp; omega
                have d3 : (E == E) = true := by simp
                have d4 : (la == la) = true := by simp
                have d5 : (lb == lb) = true := by simp
                change Hid (∀ W, RdI W _ _ → RdI W _ _ → Calls Try.prog 46 #[.agg #[.int .i64 t.wide, .slice (some ⟨g, 0, none⟩) t.plots.length p10], .agg #[.int .i64 (mirW down wind), .int .i64 voice], .slice a23 Hu.length p23] W _) at HFU
                change Hid (∀ W, RdI W _ _ → RdI W _ _ → Calls Try.prog 50 #[.agg #[.int .i64 t.wide, .slice (some ⟨g, 0, none⟩) t.plots.length p10], .agg #[.int .i64 (mirW down wind), .int .i64 voice], .slice a23 Hu.length p23] W _) at HAU
                change Hid (∀ W, RdI W _ _ → RdI W _ _ → Calls Try.prog 53 #[.agg #[.int .i64 t.wide, .slice (some ⟨g, 0, none⟩) t.plots.length p10], .int .i64 (mirW down wind), .slice a23 Hu.length p23, .int .i64 2] W _) at HLU
                clear hfl hal hX hY hK hM hla HHQ HHUQ HLQ HUL
                obtain ⟨k0, k1, k2, k3, k4, k5, k6, k7, k8, k9, k10, k11⟩ := HMQb.out.cs
                go_wp2_with fail
                refine (HFT.out _ HMQb.out.mp.rp HR22.out).mono ?_
                rintro e x1 ⟨va, rfl, hB, hva⟩
                obtain ⟨_, ava, qva, rfl, -⟩ := id hva
                have HM1 := Lib.hid (HMQb.out.below hB)
                have HR22 := Lib.hid (HR22.out.below hB)
                have HR23 := Lib.hid (HR23.out.below hB)
                clear hB hva HMQb HFT k0 k1 k2 k3 k4 k5 k6 k7 k8 k9 k10 k11
                obtain ⟨k0, k1, k2, k3, k4, k5, k6, k7, k8, k9, k10, k11⟩ := HM1.out.cs
                go_wp2_with fail
                refine (HFU.out _ HM1.out.ru HR23.out).mono ?_
                rintro e x2 ⟨vb, rfl, hB, hvb⟩
                obtain ⟨_, avb, qvb, rfl, -⟩ := id hvb
                have HM2 := Lib.hid (HM1.out.below hB)
                have HR22 := Lib.hid (HR22.out.below hB)
                have HR23 := Lib.hid (HR23.out.below hB)
                clear hB hvb HM1 HFU k0 k1 k2 k3 k4 k5 k6 k7 k8 k9 k10 k11
                obtain ⟨k0, k1, k2, k3, k4, k5, k6, k7, k8, k9, k10, k11⟩ := HM2.out.cs
                go_wp2_with fail
                refine (HAT.out _ HM2.out.mp.rp HR22.out).mono ?_
                rintro e x3 ⟨vc, rfl, hB, hvc⟩
                obtain ⟨_, avc, qvc, rfl, -⟩ := id hvc
                have HM3 := Lib.hid (HM2.out.below hB)
                have HR22 := Lib.hid (HR22.out.below hB)
                have HR23 := Lib.hid (HR23.out.below hB)
                clear hB hvc HM2 HAT k0 k1 k2 k3 k4 k5 k6 k7 k8 k9 k10 k11
                obtain ⟨k0, k1, k2, k3, k4, k5, k6, k7, k8, k9, k10, k11⟩ := HM3.out.cs
                go_wp2_with fail
                refine (HAU.out _ HM3.out.ru HR23.out).mono ?_
                rintro e x4 ⟨vd, rfl, hB, hvd⟩
                obtain ⟨_, avd, qvd, rfl, -⟩ := id hvd
                have HM4 := Lib.hid (HM3.out.below hB)
                have HR22 := Lib.hid (HR22.out.below hB)
                have HR23 := Lib.hid (HR23.out.below hB)
                clear hB hvd HM3 HAU k0 k1 k2 k3 k4 k5 k6 k7 k8 k9 k10 k11
                obtain ⟨k0, k1, k2, k3, k4, k5, k6, k7, k8, k9, k10, k11⟩ := HM4.out.cs
                go_wp2_with fail
                refine (HLT.out _ HM4.out.mp.rp HR22.out).mono ?_
                rintro e x5 ⟨rfl, hB⟩
                have HM5 := Lib.hid (HM4.out.below hB)
                have HR22 := Lib.hid (HR22.out.below hB)
                have HR23 := Lib.hid (HR23.out.below hB)
                clear hB  HM4 HLT k0 k1 k2 k3 k4 k5 k6 k7 k8 k9 k10 k11
                obtain ⟨k0, k1, k2, k3, k4, k5, k6, k7, k8, k9, k10, k11⟩ := HM5.out.cs
                go_wp2_with fail
                refine (HLU.out _ HM5.out.ru HR23.out).mono ?_
                rintro e x6 ⟨rfl, hB⟩
                have HM6 := Lib.hid (HM5.out.below hB)
                clear hB  HM5 HLU k0 k1 k2 k3 k4 k5 k6 k7 k8 k9 k10 k11
                obtain ⟨k0, k1, k2, k3, k4, k5, k6, k7, k8, k9, k10, k11⟩ := HM6.out.cs
                go_wp2_with fail
                refine (awake_any _).mono ?_
                rintro e x7 ⟨rfl, hB⟩
                have HBE := Lib.hid (HM6.out.below hB).mp.bel
                clear hB
                go_wp2_with fail
                go_ret
                exact ⟨rfl, HBE.out⟩
end Go.Proofs.Ytimedmkpenbmkaa

namespace Go.Proofs.Ytimedmkpenbmkaa
open Go.ChangeShapes Go.WideShapes Go.ChangeAt Go.RowKit Go.Joins
set_option linter.unusedVariables false
set_option linter.unusedSimpArgs false

set_option maxHeartbeats 1000000 in
set_option maxRecDepth 100000 in
theorem HearMirrored_lifted (os : Os) (started : os.Started) (H : Type) (enc : TypeId × Value → H) :
    ReturnsInHanded {} Try.checked os 14 .any (Rows.hearMirroredSpec.pre6 enc Try.prog Try.f14 Rows.hearMirroredRow.domain false) (Rows.hearMirroredSpec.post enc Try.prog Try.f14 false true false false) := by
  refine returnsInHanded_of_change (C := Try.checked) Try.own started (by kernel_rfl) Try.func14
    (ChangeSpec.witness6 (enc := enc) (C := Try.checked) false ⟨#[], #[.slice none 0 0, .bool false], []⟩ 8 (by kernel_rfl) (by kernel_rfl) (by kernel_rfl) (by kernel_rfl)) ?_
  intro W base args ds gs before hval0 hW hcnd _
  have hval : ∀ (j : Nat) t v, Try.f14.params[j]? = some t → args[j]? = some v → Value.okWide Try.prog W .any base t v := hval0
  have hW' := hW
  obtain ⟨p, q, hA0, hV, rfl, hfz, hnd⟩ := hW
  have hA : DataW.TrodAll enc Try.prog W 0 (fun _ => true) true Try.f14.params.toList args.toList ds p := hA0
  rw [Try.params14] at hA hval
  obtain ⟨v0, vs0, d0, ds0, p0, q0, hargs, rfl, rfl, h0, r0⟩ := trodAll_cons hA
  obtain ⟨v1, vs1, d1, ds1, p1, q1, rfl, rfl, rfl, h1, r1⟩ := trodAll_cons r0
  obtain ⟨rfl, rfl, rfl⟩ := trodAll_nil r1
  obtain rfl : args = #[v0, v1] := by cases args; simp_all
  obtain ⟨rfl, rfl⟩ := trodVars_none hV
  have lt0 := lt_of_trod h0
  have k0 := h0
  obtain ⟨m0, hm0⟩ := h0
  obtain ⟨x0, x1, x2, rfl⟩ := okWide_slice Try.underlying84 (hval 0 84 v0 rfl rfl)
  obtain ⟨ma, n, mc, e0, hM⟩ := rdB_of_trod (fun _ => rfl) Try.underlying84 Try.underlying5 cells5 hm0
  obtain ⟨dn, rfl, rfl, rfl⟩ := open_bool Try.underlying4 (hval 1 4 v1 rfl rfl) h1
  clear hA0 hval0
  injection e0 with q1 q2 q3
  subst q1 q2 q3
  refine (HearMirrored_any _ _ _ dn W hM).mono fun e W' ⟨he, bel⟩ => ?_
  subst he
  exact ⟨_, rfl, _, _, _, [], _, [], hW', trodAll_mk1 (shut_bool Try.underlying4 _), (trodAll_cons_mk (Below.trod Try.laidOut (by kernel_rfl) (of_decide_eq_true (by kernel_rfl)) k0 bel lt0) (trodAll_cons_mk (shut_bool Try.underlying4 _) trodAll_mk0)), rfl, bel.frame _, fun h => by cases h⟩

theorem HearMirrored_holds : Rows.HearMirroredSaid :=
  OpenClaim.holds_of_wide 14 Try.f14 rfl rfl rfl rfl rfl rfl rfl ⟨rfl, rfl, rfl, rfl, rfl⟩ rfl rfl rfl rfl rfl (by kernel_rfl) Try.func14 (by kernel_rfl)
    (of_decide_eq_true (by kernel_rfl)) (by unfold Func.isWrapper; first | (rw [if_pos (by decide +kernel)]; kernel_rfl) | (rw [if_neg (by decide +kernel)]; exact ⟨rfl, rfl⟩))
    (fun os started H enc _ => HearMirrored_lifted os started H enc)
end Go.Proofs.Ytimedmkpenbmkaa
