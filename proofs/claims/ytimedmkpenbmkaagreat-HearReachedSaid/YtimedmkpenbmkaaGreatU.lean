import Derived.Test.YtimedmkpenbmkaaGreatD9
import Derived.Test.YtimedmkpenbmkaaGreatMath
import Derived.Laws.IdiomCopy
import Derived.Lib.LazyBuf
import Derived.Deep.MidRow
import Derived.Deep.WholeRow
namespace Go.Proofs.YtimedmkpenbmkaaGreat
open Go.RowKit Go.Shelf
set_option linter.unusedVariables false

theorem grown_of_below {w w' : World} (h : Below w.heap.size w w') (row : Option Nat) : w.grownBy w' row := ⟨h.os, h.tape, h.output, h.size, fun k hk _ => h.block k hk⟩
/-- what is owned stays so while only new blocks are made -/
theorem own_below {w w' : World} {base : Nat} {e : TypeId} {size : Nat} {v : Value} {n : Nat} {xs : List Value} (h : w.ownsRow base e size v n xs) (hB : Below w.heap.size w w') : w'.ownsRow base e size v n xs :=
  h.kept (grown_of_below hB none) (by cases v.ownBlock <;> simp)
/-- what is owned above a base is below another one's grown world -/
theorem below_grown {B : Nat} {a w w' : World} {base : Nat} {e : TypeId} {size : Nat} {v : Value} {n : Nat} {xs : List Value} (h : Below B a w) (hown : w.ownsRow base e size v n xs) (hb : B ≤ base) (hB : B ≤ w.heap.size) (hg : w.grownBy w' v.ownBlock) : Below B a w' :=
  h.grown hg hB (fun k hk => Nat.le_trans hb (hown.lt k hk).1)
theorem al2 {B : Nat} {a w : World} (h : Below B a w) (hB : B ≤ w.heap.size) (o : Obj) : Below B a (w.alloc o) := h.alloc hB o
/-- the cells of a row that is owned, as a row that is read -/
theorem own_ints {w : World} {base : Nat} {e : TypeId} {v : Value} {xs : List Int} {vs : List Value} (hv : vs = xs.map (Value.int .i64)) (h : w.ownsRow base e 1 v xs.length vs) (h0 : xs ≠ []) : ∃ g cap, v = .slice (some ⟨g, 0, none⟩) xs.length cap ∧ base ≤ g ∧ Ints w g 0 xs ∧ xs.length ≤ cap ∧ cap ≤ maxLen ∧ (∀ i, w.frozen? ⟨g, i, none⟩ = false) := by
  subst hv
  have hc := h
  rcases h.2 with ⟨rfl, hn⟩ | ⟨g, cap, cur, rfl, hb, hg, h1, h2, h3, h4⟩
  · exact absurd (List.length_eq_zero_iff.1 hn) h0
  · refine ⟨g, cap, rfl, hb, ⟨(Array.getElem?_eq_some_iff.1 hg).1, fun i hi => ?_⟩, h1, h2, fun i => by simp [World.frozen?, hg]⟩
    have := hc.cells (g := g) rfl i (.int .i64 (xs.getD i 0)) (by simp [List.getElem?_eq_getElem hi])
    rw [Nat.zero_add]
    have hadd : (⟨g, 0, none⟩ : Addr).add i = ⟨g, i, none⟩ := by unfold Addr.add; split <;> simp_all
    rwa [hadd] at this

def setFrom : Array Value → Nat → List Value → Array Value
  | c, _, [] => c
  | c, o, v :: r => setFrom (c.setIfInBounds o v) (o + 1) r
theorem size_setFrom : ∀ (vs : List Value) (c : Array Value) (o : Nat), (setFrom c o vs).size = c.size
  | [], _, _ => rfl
  | _ :: r, c, o => by rw [setFrom, size_setFrom r]; simp
theorem get_setFrom : ∀ (vs : List Value) (c : Array Value) (o j : Nat), o + vs.length ≤ c.size → (setFrom c o vs)[j]? = if o ≤ j ∧ j < o + vs.length then vs[j - o]? else c[j]?
  | [], c, o, j, _ => by rw [setFrom, if_neg (by simp only [List.length_nil]; omega)]
  | v :: r, c, o, j, h => by
    simp only [List.length_cons] at h
    rw [setFrom, get_setFrom r _ _ _ (by simp; omega)]
    by_cases h1 : o + 1 ≤ j ∧ j < o + 1 + r.length
    · rw [if_pos h1, if_pos (by simp only [List.length_cons]; omega), show j - o = (j - (o + 1)) + 1 by omega]; simp
    · rw [if_neg h1]
      by_cases h2 : j = o
      · subst h2; rw [if_pos (by simp only [List.length_cons]; omega)]; simp only [Nat.sub_self, List.getElem?_cons_zero]; rw [Array.getElem?_setIfInBounds, if_pos rfl, if_pos (by omega)]
      · rw [if_neg (by simp only [List.length_cons]; omega), Array.getElem?_setIfInBounds, if_neg (by omega)]
theorem heap_setCells (g : Nat) : ∀ (vs : List Value) (o : Nat) (w : World) (c : Array Value) (e : TypeId) (fr : Nat × Nat), w.heap[g]? = some (.cells c e fr) → (w.setCells g o vs).heap[g]? = some (.cells (setFrom c o vs) e fr)
  | [], _, _, _, _, _, h => h
  | v :: r, o, w, c, e, fr, h => by
    rw [World.setCells, setFrom]
    refine heap_setCells g r (o + 1) _ _ e fr ?_
    simp only [World.setCell, Array.getElem?_modify, h]
    simp
/-- all elements of a row that is owned, set anew -/
theorem own_setCells {w : World} {base : Nat} {e : TypeId} {g n cap : Nat} {xs ys : List Value} (h : w.ownsRow base e 1 (.slice (some ⟨g, 0, none⟩) n cap) n xs) (hy : ys.length = n) : (w.setCells g 0 ys).ownsRow base e 1 (.slice (some ⟨g, 0, none⟩) n cap) n ys := by
  refine ⟨by omega, ?_⟩
  rcases h.2 with ⟨h1, _⟩ | ⟨g', cap', cur, hv, hb, hg, h1, h2, h3, h4⟩
  · cases h1
  · injection hv with e1 e2 e3
    injection e1 with e1; injection e1 with e1
    subst e1; subst e3
    refine .inr ⟨g, cap, setFrom cur 0 ys, rfl, hb, heap_setCells g ys 0 w cur e _ hg, h1, h2, by rw [size_setFrom, h3], ?_⟩
    apply List.ext_getElem?
    intro j
    rw [List.getElem?_take, Array.getElem?_toList, get_setFrom _ _ _ _ (by omega)]
    by_cases hj : j < n
    · rw [if_pos (by omega), if_pos (by omega)]; simp
    · rw [if_neg (by omega), List.getElem?_eq_none (by omega)]
theorem own_drewN {w : World} {base : Nat} {e : TypeId} {size : Nat} {v : Value} {n : Nat} {xs : List Value} (h : w.ownsRow base e size v n xs) (q : Nat) : (w.drewN q).ownsRow base e size v n xs := h
theorem below_drewN' {B : Nat} {a w : World} (h : Below B a w) (q : Nat) : Below B a (w.drewN q) := ⟨h.os, h.tape, h.output, h.size, h.block⟩
theorem below_setCells' {B g : Nat} {a : World} (hg : B ≤ g) : ∀ (vs : List Value) (o : Nat) (w : World), Below B a w → Below B a (w.setCells g o vs)
  | [], _, _, h => h
  | v :: r, o, w, h => below_setCells' hg r (o + 1) _ (h.setCell hg v)

theorem TabAt.ints {w : World} {b : Nat} {T : List Int} (h : TabAt w b T) : Ints w b 0 T := ⟨h.lt, fun i hi => by rw [Nat.zero_add]; exact h.cell hi⟩

theorem needs_callT (t : Hr.Town) (hok : t.Ok) (wind voice : Int) (hw0 : 0 ≤ wind) (hw4 : wind ≤ 4) (b o cap r : Nat) (f1 : Fn) (f2 f3 : Array Value) (s : Nat) (hs : s < t.len) (T : List Int) (hT : T = t.needs wind s)
    (w W : World) (HB : Below w.heap.size w W) (hI : Ints w b o t.plots) (hD : DirMap W r) :
    Calls Tryz.prog 95 #[.agg #[.int .i64 t.wide, .slice (some ⟨b, o, none⟩) t.plots.length cap, .int .i64 wind, .int .i64 voice, .map (some r), .func f1 f2 f3], .int .i64 s] W fun e w' => ∃ tb,
      e = .returned (.slice (some ⟨tb, 0, none⟩) T.length T.length) ∧ Hid (TabAt w' tb T) ∧ Hid (W.heap.size ≤ tb) ∧ Hid (Below W.heap.size W w') := by
  have hl : T.length = t.len := by rw [hT]; exact (Hr.needs_fix hok wind hs).inv.len
  refine (needs_any t hok wind voice hw0 hw4 b o cap r f1 f2 f3 s hs W (hI.below HB hI.1) hD).mono ?_
  rintro e w' ⟨rfl, hT', hB⟩
  exact ⟨W.heap.size + 1, by rw [hl], Lib.hid (by rw [hT]; exact hT'), Lib.hid (Nat.le_succ _), Lib.hid hB⟩

/-! only one block has turned, and new ones are there -/
theorem grown_trans {a b c : World} {row : Option Nat} (h : a.grownBy b row) (k : b.grownBy c row) : a.grownBy c row :=
  ⟨k.os.trans h.os, k.tape.trans h.tape, k.output.trans h.output, Nat.le_trans h.size k.size, fun i hi hn => (k.block i (Nat.lt_of_lt_of_le hi h.size) hn).trans (h.block i hi hn)⟩
theorem grown_refl (a : World) (row : Option Nat) : a.grownBy a row := ⟨rfl, rfl, rfl, Nat.le_refl _, fun _ _ _ => rfl⟩
theorem grown_set (w : World) (g o : Nat) (v : Value) : w.grownBy (w.setCell ⟨g, o, none⟩ v) (some g) :=
  ⟨rfl, rfl, rfl, by simp [World.setCell], fun k _ hn => Below.heap_setCell _ _ _ _ (fun e => hn (by rw [e]))⟩
theorem grown_drewN {a b : World} {row : Option Nat} (h : a.grownBy b row) (q : Nat) : a.grownBy (b.drewN q) row := ⟨h.os, h.tape, h.output, h.size, h.block⟩
theorem grown_drew {a b : World} {row : Option Nat} (h : a.grownBy b row) : a.grownBy b.drew row := ⟨h.os, h.tape, h.output, h.size, h.block⟩
/-- what was below stays below when only a block above has turned -/
theorem below_of_grown {B : Nat} {w a b : World} {g : Nat} (h : Below B w a) (hg : a.grownBy b (some g)) (hb : B ≤ g) (hs : B ≤ a.heap.size) : Below B w b :=
  h.grown hg hs (fun k hk => by cases hk; exact hb)
theorem setFrom_all (vs : List Value) (c : Array Value) (h : c.size = vs.length) : setFrom c 0 vs = vs.toArray := by
  apply Array.ext_getElem?
  intro j
  rw [get_setFrom _ _ _ _ (by omega)]
  by_cases hj : j < vs.length
  · rw [if_pos (by omega)]; simp
  · rw [if_neg (by omega), Array.getElem?_eq_none (by omega)]; simp; omega
theorem heap_set_same {w : World} {g o : Nat} {cs : Array Value} {t : TypeId} (v : Value) (h : w.heap[g]? = some (.cells cs t (0, 0))) : (w.setCell ⟨g, o, none⟩ v).heap[g]? = some (.cells (cs.setIfInBounds o v) t (0, 0)) := by
  simp only [World.setCell, Array.getElem?_modify, h]; simp
end Go.Proofs.YtimedmkpenbmkaaGreat

namespace Go.Proofs.YtimedmkpenbmkaaGreat
open Go.RowKit Go.Shelf
set_option linter.unusedSimpArgs false
set_option linter.unusedVariables false

/-- the table of each stand below k, as a call of tables has laid them -/
structure TabsTo (t : Hr.Town) (wind : Int) (k : Nat) (w : World) (vs : Array Value) : Prop where
  size : vs.size = 30
  yes : ∀ p, p < k → p < t.len → t.at p = 0 → ∃ tb, vs[p]? = some (.slice (some ⟨tb, 0, none⟩) t.len t.len) ∧ TabAt w tb (t.needs wind p)
  no : ∀ p, p < 30 → ¬ (p < k ∧ p < t.len ∧ t.at p = 0) → vs[p]? = some (.slice none 0 0)

theorem TabsTo.below {t : Hr.Town} {wind : Int} {k : Nat} {w w' : World} {vs : Array Value} (h : TabsTo t wind k w vs) (hB : Below w.heap.size w w') : TabsTo t wind k w' vs :=
  ⟨h.size, fun p h1 h2 h3 => let ⟨tb, a, b⟩ := h.yes p h1 h2 h3; ⟨tb, a, b.below hB b.lt⟩, h.no⟩

theorem TabsTo.one {t : Hr.Town} {wind : Int} {k : Nat} {w : World} {vs : Array Value} (h : TabsTo t wind k w vs) : vs.all (·.oneCell') = true := by
  rw [Array.all_eq_true]
  intro p hp
  rw [h.size] at hp
  by_cases hc : p < k ∧ p < t.len ∧ t.at p = 0
  · obtain ⟨tb, h1, _⟩ := h.yes p hc.1 hc.2.1 hc.2.2
    rw [Array.getElem?_eq_getElem (by rw [h.size]; exact hp)] at h1
    injection h1 with h1; rw [h1]; rfl
  · have h1 := h.no p hp hc
    rw [Array.getElem?_eq_getElem (by rw [h.size]; exact hp)] at h1
    injection h1 with h1; rw [h1]; rfl
theorem TabsTo.step {t : Hr.Town} {wind : Int} {k : Nat} {w w' : World} {vs : Array Value} (h : TabsTo t wind k w vs) {g tb : Nat} (hk : k < 30) (hkl : k < t.len) (hk0 : t.at k = 0) (hB : ∀ b, b < w.heap.size → b ≠ g → w'.heap[b]? = w.heap[b]?) (hg : ∀ T, ¬ TabAt w g T) (hT : TabAt w' tb (t.needs wind k)) :
    TabsTo t wind (k + 1) w' (vs.setIfInBounds k (.slice (some ⟨tb, 0, none⟩) t.len t.len)) := by
  refine ⟨by simp [h.size], fun p h1 h2 h3 => ?_, fun p hp hn => ?_⟩
  · by_cases hpk : p = k
    · subst hpk; exact ⟨tb, by simp [h.size, hk], hT⟩
    · obtain ⟨tb', a, b⟩ := h.yes p (by omega) h2 h3
      exact ⟨tb', by rw [Array.getElem?_setIfInBounds, if_neg (by omega)]; exact a, (hB tb' b.lt (fun e => hg _ (e ▸ b))).trans b⟩
  · by_cases hpk : p = k
    · exact absurd ⟨by omega, hpk ▸ hkl, hpk ▸ hk0⟩ hn
    · rw [Array.getElem?_setIfInBounds, if_neg (by omega)]
      exact h.no p hp (fun hh => hn ⟨by omega, hh.2⟩)
theorem TabsTo.skip {t : Hr.Town} {wind : Int} {k : Nat} {w : World} {vs : Array Value} (h : TabsTo t wind k w vs) (hx : t.at k ≠ 0) : TabsTo t wind (k + 1) w vs :=
  ⟨h.size, fun p h1 h2 h3 => h.yes p (by rcases Nat.lt_or_ge p k with h | h; exact h; exact absurd h3 (by rw [show p = k by omega]; exact hx)) h2 h3, fun p hp hn => h.no p hp (fun hh => hn ⟨by omega, hh.2⟩)⟩
theorem TabsTo.all {t : Hr.Town} {wind : Int} {w : World} {vs : Array Value} (h : TabsTo t wind t.len w vs) : TabsTo t wind 30 w vs :=
  ⟨h.size, fun p _ h2 h3 => h.yes p h2 h2 h3, fun p hp hn => h.no p hp (fun hh => hn ⟨hp, hh.2⟩)⟩

theorem tabs_size130 : (Tryz.prog.info? 121).map (·.size) = some 30 := by kernel_rfl
theorem und130 : Tryz.prog.underlying 121 = some (.array 30 22) := by kernel_rfl

theorem below_setCells_ne {g k : Nat} (hne : k ≠ g) : ∀ (vs : List Value) (o : Nat) (w : World), (w.setCells g o vs).heap[k]? = w.heap[k]?
  | [], _, _ => rfl
  | v :: r, o, w => by rw [World.setCells, below_setCells_ne hne r]; exact Below.heap_setCell _ _ _ _ hne
/-- what holds in tables -/
structure TbC (t : Hr.Town) (wind voice : Int) (b o cap r : Nat) (cf : Value) (k : Nat) (w W : World) : Prop where
  wk : WkBox W t.wide wind voice b o cap r cf t.plots w.heap.size
  res : W.heap[w.heap.size + 1]? = some (.cells (Array.replicate 30 (.slice none 0 0)) 121 (0, 0))
  row : ∃ vs, W.heap[w.heap.size + 1 + 1]? = some (.cells vs 121 (0, 0)) ∧ TabsTo t wind k W vs
  bel : Below w.heap.size w W

theorem TbC.start {t : Hr.Town} {wind voice : Int} {b o cap r : Nat} {cf : Value} {w : World} (hI : Ints w b o t.plots) (hD : DirMap w r) :
    TbC t wind voice b o cap r cf 0 w (((w.alloc (.cells #[.int .i64 t.wide, .slice (some ⟨b, o, none⟩) t.plots.length cap, .int .i64 wind, .int .i64 voice, .map (some r), cf] 117)).alloc (.cells (Array.replicate 30 (.slice none 0 0)) 121)).alloc (.cells (Array.replicate 30 (.slice none 0 0)) 121)) := by
  have hb : Below w.heap.size w (((w.alloc (.cells #[.int .i64 t.wide, .slice (some ⟨b, o, none⟩) t.plots.length cap, .int .i64 wind, .int .i64 voice, .map (some r), cf] 117)).alloc (.cells (Array.replicate 30 (.slice none 0 0)) 121)).alloc (.cells (Array.replicate 30 (.slice none 0 0)) 121)) := al (al (al (Below.refl _ _) _) _) _
  generalize hR : (Array.replicate 30 (Value.slice none 0 0)) = R at *
  have hsz : R.size = 30 := by rw [← hR]; simp
  have hget : ∀ p, p < 30 → R[p]? = some (.slice none 0 0) := fun p hp => by rw [← hR]; simp [hp]
  refine ⟨⟨?_, ?_, ?_, ?_, ?_, ?_, hI.below hb hI.1, (hb.block r (dir_lt hD)).trans hD⟩, ?_, ⟨R, ?_, hsz, ?_, ?_⟩, hb⟩
  case refine_7 => rw [Below.heap_alloc _ _ _ (by simp)]; rw [hR]; have := heap_alloc_last (w.alloc (.cells #[.int .i64 t.wide, .slice (some ⟨b, o, none⟩) t.plots.length cap, .int .i64 wind, .int .i64 voice, .map (some r), cf] 117)) (.cells R 121); simpa using this
  case refine_8 => have := heap_alloc_last ((w.alloc (.cells #[.int .i64 t.wide, .slice (some ⟨b, o, none⟩) t.plots.length cap, .int .i64 wind, .int .i64 voice, .map (some r), cf] 117)).alloc (.cells R 121)) (.cells R 121); simpa using this
  case refine_9 => intro p h; omega
  case refine_10 => intro p hp _; exact hget p hp
  all_goals go_simp

set_option maxHeartbeats 2000000 in
set_option maxRecDepth 100000 in
theorem tables_any (t : Hr.Town) (hok : t.Ok) (wind voice : Int) (hw0 : 0 ≤ wind) (hw4 : wind ≤ 4) (b o cap r : Nat) (f1 : Fn) (f2 f3 : Array Value) (w : World) (hI : Ints w b o t.plots) (hD : DirMap w r) :
    Calls Tryz.prog 74 #[.agg #[.int .i64 t.wide, .slice (some ⟨b, o, none⟩) t.plots.length cap, .int .i64 wind, .int .i64 voice, .map (some r), .func f1 f2 f3]] w fun e w' =>
      ∃ vs, e = .returned (.agg vs) ∧ TabsTo t wind 30 w' vs ∧ Below w.heap.size w w' := by
  have hrl : r < w.heap.size := (Array.getElem?_eq_some_iff.1 hD).1
  have hbl := hI.1
  have HS := Lib.hid (TbC.start (wind := wind) (voice := voice) (o := o) (cap := cap) (cf := .func f1 f2 f3) hI hD)
  have h30 : t.plots.length ≤ 30 := hok.n30
  clear hI hD
  go_enter Tryz.func74, Tryz.ntmps74
  go_wp2_with fail
  go_loopw [4, 9] (fun u i wr => ∃ k : Nat, k ≤ t.len ∧ i = .int .i64 k ∧ TbC t wind voice b o cap r (.func f1 f2 f3) k w wr) (fun _ i _ => t.len - (intOf i).toNat)
  case atStart => exact ⟨0, Nat.zero_le _, rfl, HS.out⟩
  case round =>
    obtain ⟨k, hk, rfl, hC⟩ := hrel
    have c0 := hC.wk.c0
    have c1 := hC.wk.c1
    have c2 := hC.wk.c2
    have c3 := hC.wk.c3
    have c4 := hC.wk.c4
    have c5 := hC.wk.c5
    have hl := hC.wk.lt
    have HC := Lib.hid hC
    by_cases hlt : k < t.len
    · have hlt' : (k : Int) < t.plots.length := by have : t.plots.length = t.len := rfl; omega
      have hcp := hC.wk.ints.2 k hlt
      obtain ⟨x, hx⟩ : ∃ x, t.plots.getD k 0 = x := ⟨_, rfl⟩
      rw [hx] at hcp
      have HX := Lib.hid hx
      clear hC hx
      by_cases hx0 : x = 0
      · subst hx0
        go_wp2_with fail
        refine (needs_callT t hok wind voice hw0 hw4 b o cap r _ _ _ k hlt _ rfl wr wr (Below.refl _ _) HC.out.wk.ints HC.out.wk.dir).mono ?_
        rintro e w6 ⟨tb, rfl, HT, HL, HB6⟩
        obtain ⟨vs, hrow, hto⟩ := HC.out.row
        have hgl : w.heap.size + 1 + 1 < wr.heap.size := (Array.getElem?_eq_some_iff.1 hrow).1
        have hrow6 := (HB6.out.block _ hgl).trans hrow
        have hk30 : k < 30 := by have := hok.n30; omega
        have hcell : w6.cell? ⟨w.heap.size + 1 + 1, k, none⟩ = some (.slice none 0 0) := by
          rw [cell_of_row _ _ _ _ _ _ hrow6]; exact hto.no k hk30 (by omega)
        have hfz := frozen_of_row w6 (w.heap.size + 1 + 1) k vs 121 hrow6
        have HR6 := Lib.hid hrow6
        have HTO := Lib.hid hto
        have hnl : (t.needs wind k).length = t.len := (Hr.needs_fix hok wind hlt).inv.len
        have HNL := Lib.hid hnl
        clear hrow hrow6 hto hnl
        go_wp2
        go_roundw
        case rel =>
          refine ⟨k + 1, hlt, rfl, ⟨HC.out.wk.hold (Kp := fun q => q ≠ w.heap.size + 1 + 1 ∧ q < wr.heap.size) ((Hold.of_below HB6.out (fun q h _ => h.2)).trans (Hold.setCell _ _ _ (fun h => h.1 rfl))) ⟨by omega, by omega, by omega⟩, ?_, ⟨_, heap_set_same _ HR6.out, ?_⟩, setc (join HC.out.bel HB6.out) (by show w.heap.size ≤ w.heap.size + 1 + 1; omega)⟩⟩
          · rw [Below.heap_setCell _ _ _ _ (by show w.heap.size + 1 ≠ w.heap.size + 1 + 1; omega), HB6.out.block _ (by omega)]; exact HC.out.res
          · rw [HNL.out]
            refine (HTO.out.below HB6.out).step (g := w.heap.size + 1 + 1) hk30 hlt HX.out (fun q _ hne => Below.heap_setCell _ _ _ _ (by exact hne)) (fun T hT => ?_) ?_
            · unfold TabAt at hT; rw [HR6.out] at hT; injection hT with hT; injection hT with _ h2 _; cases h2
            · exact (Below.heap_setCell _ _ _ _ (by have := HL.out; show tb ≠ w.heap.size + 1 + 1; omega)).trans HT.out
        case measure => simp [intOf]; omega
      · have hx0' : (x == 0) = false := by simpa using hx0
        have HX0 := Lib.hid hx0
        go_wp2
        go_roundw
        case rel =>
          obtain ⟨vs, hrow, hto⟩ := HC.out.row
          exact ⟨k + 1, hlt, rfl, HC.out.wk, HC.out.res, ⟨vs, hrow, hto.skip (by show t.plots.getD k 0 ≠ 0; rw [HX.out]; exact HX0.out)⟩, HC.out.bel⟩
        case measure => simp [intOf]; omega
    · have hkk : k = t.plots.length := by have : t.plots.length = t.len := rfl; omega
      clear hC
      subst hkk
      obtain ⟨vs, hrow, hto⟩ := HC.out.row
      have hres := HC.out.res
      have hsz := hto.size
      have hone := hto.one
      have hthere : wr.there (w.heap.size + 1) 0 vs.size := fun j hj => by
        rw [Nat.zero_add, cell_of_row _ _ _ _ _ _ hres, frozen_of_row _ _ _ _ _ hres]
        exact ⟨by simp; omega, rfl⟩
      have hi := tabs_size130
      rw [← hsz] at hi
      have HROW := Lib.hid hrow
      have HTO := Lib.hid hto
      have HRES := Lib.hid hres
      have HSZ := Lib.hid hsz
      have HI := Lib.hid hi
      have HTH := Lib.hid hthere
      have HON := Lib.hid hone
      clear hrow hto hres hsz hi hthere hone
      go_wp2_with (first | (with_reducible refine wpList_load_row rfl 121 _ rfl (w.heap.size + 1 + 1) rfl 121 vs (0, 0) _ HROW.out und130 rfl HI.out ?_) | (with_reducible refine wpList_store_mid rfl 121 _ _ rfl (w.heap.size + 1) 0 vs rfl rfl HTH.out HI.out HON.out ?_))
      have hh : (wr.setCells (w.heap.size + 1) 0 vs.toList).heap[w.heap.size + 1]? = some (.cells vs 121 (0, 0)) := by
        rw [heap_setCells _ _ _ _ _ _ _ HRES.out, setFrom_all _ _ (by rw [Array.length_toList, HSZ.out]; simp)]
      have hbel : Below w.heap.size w (wr.setCells (w.heap.size + 1) 0 vs.toList) := below_setCells' (by omega) _ _ _ HC.out.bel
      have hto : TabsTo t wind 30 (wr.setCells (w.heap.size + 1) 0 vs.toList) vs := by
        refine ⟨HTO.out.size, fun p h1 h2 h3 => ?_, HTO.out.all.no⟩
        obtain ⟨tb, a, bb⟩ := HTO.out.all.yes p h1 h2 h3
        refine ⟨tb, a, ?_⟩
        have hne : tb ≠ w.heap.size + 1 := fun e => by
          subst e; unfold TabAt at bb; rw [HRES.out] at bb; injection bb with bb; injection bb with _ h2 _; cases h2
        exact ((below_setCells_ne hne vs.toList 0 wr).trans bb)
      refine bodyPost_ret (results_cell_row rfl _ _ (w.heap.size + 1) 121 vs (0, 0) _ rfl hh und130 rfl HI.out) rfl ⟨vs, rfl, hto, hbel⟩
end Go.Proofs.YtimedmkpenbmkaaGreat
