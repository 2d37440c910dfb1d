import Derived.Test.YtimedmkpenbmkaaGreatOp
import Derived.Test.YtimedmkpenbmkaaGreatNd
import Derived.Deep.DeepCutAuto
namespace Go.Proofs.YtimedmkpenbmkaaGreat
open Go.RowKit
set_option linter.unusedSimpArgs false
set_option linter.unusedVariables false

theorem windOnly_eq (d : Int) (w : World) :
    Calls Tryz.prog 94 #[.int .i64 d] w fun e w' => e = .returned (.agg #[.int .i64 d, .int .i64 40]) ∧ w.alloc (.cells #[.int .i64 d, .int .i64 40] 29) = w' := by
  go_enter Tryz.func94, Tryz.ntmps94
  go_wp2
  exact bodyPost_ret (v := .agg #[.int .i64 d, .int .i64 40]) (by simp [results, Tryz.results94, go_sem]) rfl ⟨rfl, rfl⟩

theorem al {a w : World} (h : Below a.heap.size a w) (o : Obj) : Below a.heap.size a (w.alloc o) := h.alloc h.size o

theorem join {a W w5 : World} (h : Below a.heap.size a W) (h5 : Below W.heap.size W w5) : Below a.heap.size a w5 := h.trans (h5.mono h.size)
theorem setc6 {a w : World} {c : Nat} {v0 v1 v2 v3 v4 v5 : Value} (h : Below a.heap.size a w) (hp : a.heap.size ≤ c) :
    Below a.heap.size a ((((((w.setCell ⟨c, 0, none⟩ v0).setCell ⟨c, 1, none⟩ v1).setCell ⟨c, 2, none⟩ v2).setCell ⟨c, 3, none⟩ v3).setCell ⟨c, 4, none⟩ v4).setCell ⟨c, 5, none⟩ v5) :=
  (((((h.setCell (p := ⟨c, 0, none⟩) hp v0).setCell (p := ⟨c, 1, none⟩) hp v1).setCell (p := ⟨c, 2, none⟩) hp v2).setCell (p := ⟨c, 3, none⟩) hp v3).setCell (p := ⟨c, 4, none⟩) hp v4).setCell (p := ⟨c, 5, none⟩) hp v5
theorem setc {a w : World} {p : Addr} {v : Value} (h : Below a.heap.size a w) (hp : a.heap.size ≤ p.block) : Below a.heap.size a (w.setCell p v) := h.setCell hp v

set_option maxHeartbeats 2000000 in
set_option maxRecDepth 100000 in
theorem Needs_err (wd wind p : Int) (a : Option Addr) (cap : Nat) (xs : List Int) (w : World) (h : Plots w a xs) (hc : openErr wd xs wind 40 ≠ 0) :
    Calls Tryz.prog 43 #[.agg #[.int .i64 wd, .slice a xs.length cap], .int .i64 wind, .int .i64 p] w fun e w' => e = .returned (.tuple #[.slice none 0 0, .int .i64 (openErr wd xs wind 40)]) ∧ Below w.heap.size w w' := by
  have hc1 : (openErr wd xs wind 40 != 0) = true := by simpa using hc
  have HC := Lib.hid hc
  have HP := Lib.hid (fun W (hB : Below w.heap.size w W) => openAt_err wd wind 40 p 0 a cap xs W (h.below hB) hc)
  have hle : w.heap.size ≤ w.heap.size := Nat.le_refl _
  unfold zeroWork at HP
  clear hc h
  go_enter Tryz.func43, Tryz.ntmps43
  go_wp2
  go_region_with (first | (go_at_call 94; refine (windOnly_eq _ _).mono ?_; rintro e w' ⟨rfl, rfl⟩) | (go_at_call 78; refine (HP.out _ (by repeat (first | exact Below.refl _ _ | refine Below.drew ?_ | refine al ?_ _))).mono ?_; rintro e w5 ⟨rfl, hB5⟩; have HBW := Lib.hid (join (a := w) (by repeat (first | exact Below.refl _ _ | refine Below.drew ?_ | refine al ?_ _)) hB5); obtain ⟨hc5, hf5⟩ := kept hB5; have hz5 := hB5.size))
  all_goals go_wp2
  all_goals go_ret2
  all_goals exact ⟨rfl, by first | (with_reducible exact al HBW.out _) | (with_reducible refine setc6 HBW.out ?_; omega)⟩

set_option maxHeartbeats 2000000 in
set_option maxRecDepth 100000 in
theorem Needs_plot (wd wind p : Int) (b o cap : Nat) (xs : List Int) (w : World) (h : Plots w (some ⟨b, o, none⟩) xs) (hI : Ints w b o xs) (hn : xs.length ≤ 40) (hc : checkErr wd xs = 0) (ha : airErr wind 40 = 0) (hp : plotErr xs p 0 ≠ 0) :
    Calls Tryz.prog 43 #[.agg #[.int .i64 wd, .slice (some ⟨b, o, none⟩) xs.length cap], .int .i64 wind, .int .i64 p] w fun e w' => e = .returned (.tuple #[.slice none 0 0, .int .i64 (plotErr xs p 0)]) ∧ Below w.heap.size w w' := by
  have hc1 : (plotErr xs p 0 != 0) = true := by simpa using hp
  have HP := Lib.hid (fun W (hB : Below w.heap.size w W) => openAt_plot wd wind 40 p 0 b o cap xs W (h.below hB) (hI.below hB hI.1) hn hc ha hp)
  have hle : w.heap.size ≤ w.heap.size := Nat.le_refl _
  unfold zeroWork at HP
  clear hc h hI ha hp
  go_enter Tryz.func43, Tryz.ntmps43
  go_wp2
  go_region_with (first | (go_at_call 94; refine (windOnly_eq _ _).mono ?_; rintro e w' ⟨rfl, rfl⟩) | (go_at_call 78; refine (HP.out _ (by repeat (first | exact Below.refl _ _ | refine Below.drew ?_ | refine al ?_ _))).mono ?_; rintro e w5 ⟨rfl, hB5⟩; have HBW := Lib.hid (join (a := w) (by repeat (first | exact Below.refl _ _ | refine Below.drew ?_ | refine al ?_ _)) hB5); obtain ⟨hc5, hf5⟩ := kept hB5; have hz5 := hB5.size))
  all_goals go_wp2
  all_goals go_ret2
  all_goals exact ⟨rfl, by first | (with_reducible exact al HBW.out _) | (with_reducible refine setc6 HBW.out ?_; omega)⟩
end Go.Proofs.YtimedmkpenbmkaaGreat

namespace Go.Proofs.YtimedmkpenbmkaaGreat
open Go.RowKit Go.Shelf
set_option linter.unusedSimpArgs false
set_option linter.unusedVariables false

theorem dir_lt {w : World} {r : Nat} (h : DirMap w r) : r < w.heap.size := (Array.getElem?_eq_some_iff.1 h).1
theorem dir_al {w : World} {r : Nat} (h : DirMap w r) (hr : r < w.heap.size) (o : Obj) : DirMap (w.alloc o) r := (Below.heap_alloc w o r hr).trans h
theorem dir_setc {w : World} {r : Nat} (h : DirMap w r) {p : Addr} (hp : r ≠ p.block) (v : Value) : DirMap (w.setCell p v) r := by
  unfold DirMap; rw [Below.heap_setCell _ _ _ _ hp]; exact h
theorem dir_setc6 {w : World} {r c : Nat} {v0 v1 v2 v3 v4 v5 : Value} (h : DirMap w r) (hp : r ≠ c) :
    DirMap ((((((w.setCell ⟨c, 0, none⟩ v0).setCell ⟨c, 1, none⟩ v1).setCell ⟨c, 2, none⟩ v2).setCell ⟨c, 3, none⟩ v3).setCell ⟨c, 4, none⟩ v4).setCell ⟨c, 5, none⟩ v5) r :=
  dir_setc (dir_setc (dir_setc (dir_setc (dir_setc (dir_setc h hp _) hp _) hp _) hp _) hp _) hp _

theorem needs_call (t : Hr.Town) (hok : t.Ok) (wind voice : Int) (hw0 : 0 ≤ wind) (hw4 : wind ≤ 4) (b o cap r : Nat) (f1 : Fn) (f2 f3 : Array Value) (s : Nat) (hs : s < t.len)
    (w W : World) (HB : Below w.heap.size w W) (hI : Ints w b o t.plots) (hD : DirMap W r) :
    Calls Tryz.prog 95 #[.agg #[.int .i64 t.wide, .slice (some ⟨b, o, none⟩) t.plots.length cap, .int .i64 wind, .int .i64 voice, .map (some r), .func f1 f2 f3], .int .i64 s] W fun e w' => ∃ tb,
      e = .returned (.slice (some ⟨tb, 0, none⟩) t.len t.len) ∧ Hid (TabAt w' tb (t.needs wind s)) ∧ Hid (w.heap.size ≤ tb) ∧ Hid (Below w.heap.size w w') := by
  refine (needs_any t hok wind voice hw0 hw4 b o cap r f1 f2 f3 s hs W (hI.below HB hI.1) hD).mono ?_
  rintro e w' ⟨rfl, hT, hB⟩
  exact ⟨W.heap.size + 1, rfl, Lib.hid hT, Lib.hid (Nat.le_trans HB.size (Nat.le_succ _)), Lib.hid (join HB hB)⟩

set_option maxHeartbeats 2000000 in
set_option maxRecDepth 100000 in
theorem Needs_ok (t : Hr.Town) (hok : t.Ok) (wind : Int) (hw0 : 0 ≤ wind) (hw4 : wind ≤ 4) (s b o cap : Nat) (hs : s < t.len) (w : World) (h : Plots w (some ⟨b, o, none⟩) t.plots) (hI : Ints w b o t.plots) (hn : t.plots.length ≤ 40) (hc : checkErr t.wide t.plots = 0) (ha : airErr wind 40 = 0) (hp : plotErr t.plots s 0 = 0) :
    Calls Tryz.prog 43 #[.agg #[.int .i64 t.wide, .slice (some ⟨b, o, none⟩) t.plots.length cap], .int .i64 wind, .int .i64 s] w fun e w' => ∃ tb, e = .returned (.tuple #[.slice (some ⟨tb, 0, none⟩) t.len t.len, .int .i64 0]) ∧ TabAt w' tb (t.needs wind s) ∧ w.heap.size ≤ tb ∧ Below w.heap.size w w' := by
  have HP := Lib.hid (fun W (hB : Below w.heap.size w W) => openAt_ok t.wide wind 40 s 0 b o cap t.plots W (h.below hB) (hI.below hB hI.1) hn hc ha hp)
  have HI := Lib.hid hI
  have hle : w.heap.size ≤ w.heap.size := Nat.le_refl _
  clear hc h hI ha hp
  go_enter Tryz.func43, Tryz.ntmps43
  go_wp2
  go_region_with (first | (go_at_call 94; refine (windOnly_eq _ _).mono ?_; rintro e w' ⟨rfl, rfl⟩) | (go_at_call 78; refine (HP.out _ (by repeat (first | exact Below.refl _ _ | refine Below.drew ?_ | refine al ?_ _))).mono ?_; rintro e w5 ⟨r, rfl, hD5, hr5, hB5⟩; have HBW := Lib.hid (join (a := w) (by repeat (first | exact Below.refl _ _ | refine Below.drew ?_ | refine al ?_ _)) hB5); obtain ⟨hc5, hf5⟩ := kept hB5; have hz5 := hB5.size; have HD := Lib.hid hD5; clear hD5))
  all_goals go_wp2_with fail
  all_goals refine (needs_call t hok wind 40 hw0 hw4 b o cap r _ _ _ s hs w _ ?_ HI.out ?_).mono ?_
  all_goals (first | (with_reducible exact al HBW.out _) | (with_reducible refine setc6 HBW.out ?_; omega) | (with_reducible exact dir_al HD.out (dir_lt HD.out) _) | (with_reducible refine dir_setc6 HD.out ?_; simp at hr5; omega) | skip)
  all_goals rintro e w6 ⟨tb, rfl, HT, HL, HB6⟩
  all_goals go_wp2
  all_goals go_ret2
  all_goals exact ⟨tb, rfl, HT.out, HL.out, HB6.out⟩
end Go.Proofs.YtimedmkpenbmkaaGreat

namespace Go.Proofs.YtimedmkpenbmkaaGreat
open Go.RowKit Go.Shelf
set_option linter.unusedSimpArgs false
set_option linter.unusedVariables false

/-- what Need answers with a table -/
def needAns (T : List Int) (q : Int) : Value := .tuple #[.int .i64 (if reachErr T q ≠ 0 then 0 else T.getD q.toNat 0), .int .i64 (reachErr T q)]
theorem needAns_ok {T : List Int} {k : Nat} {x : Int} (h : reachErr T k = 0) (hx : T.getD k 0 = x) : needAns T k = .tuple #[.int .i64 x, .int .i64 0] := by
  unfold needAns; rw [h, if_neg (by simp), Int.toNat_natCast, hx]
theorem needAns_bad {T : List Int} {q : Int} (h : reachErr T q ≠ 0) : needAns T q = .tuple #[.int .i64 0, .int .i64 (reachErr T q)] := by
  unfold needAns; rw [if_pos h]

/-- what Needs answers if there is an error -/
def needsErr (wd : Int) (xs : List Int) (wind p : Int) : Int := if openErr wd xs wind 40 ≠ 0 then openErr wd xs wind 40 else plotErr xs p 0

theorem check_len {wd : Int} {xs : List Int} (h : checkErr wd xs = 0) : xs.length ≤ 30 ∧ 1 ≤ xs.length := by
  unfold checkErr at h
  split at h
  · omega
  · omega

set_option maxHeartbeats 2000000 in
set_option maxRecDepth 100000 in
theorem Need_err (wd wind p q : Int) (e0 : Int) (pl : Value) (w : World) (he : e0 ≠ 0) (hN : ∀ W, Below w.heap.size w W → Calls Tryz.prog 43 #[.agg #[.int .i64 wd, pl], .int .i64 wind, .int .i64 p] W fun e w' => e = .returned (.tuple #[.slice none 0 0, .int .i64 e0]) ∧ Below W.heap.size W w') :
    Calls Tryz.prog 41 #[.agg #[.int .i64 wd, pl], .int .i64 wind, .int .i64 p, .int .i64 q] w fun e w' => e = .returned (.tuple #[.int .i64 0, .int .i64 e0]) ∧ Below w.heap.size w w' := by
  have he' : (e0 != 0) = true := by simpa using he
  have HN := Lib.hid hN
  clear hN he
  go_enter Tryz.func41, Tryz.ntmps41
  go_wp2_with fail
  refine (HN.out _ (below1 _ _)).mono ?_
  rintro e w1 ⟨rfl, hB1⟩
  have HB := Lib.hid (join (below1 _ _) hB1)
  clear hB1
  go_wp2
  go_ret2
  exact ⟨rfl, HB.out⟩

set_option maxHeartbeats 2000000 in
set_option maxRecDepth 100000 in
theorem Need_ok (wd wind p q : Int) (pl : Value) (T : List Int) (w : World) (hT : T.length ≤ 40) (hN : ∀ W, Below w.heap.size w W → Calls Tryz.prog 43 #[.agg #[.int .i64 wd, pl], .int .i64 wind, .int .i64 p] W fun e w' => ∃ tb, e = .returned (.tuple #[.slice (some ⟨tb, 0, none⟩) T.length T.length, .int .i64 0]) ∧ TabAt w' tb T ∧ W.heap.size ≤ tb ∧ Below W.heap.size W w') :
    Calls Tryz.prog 41 #[.agg #[.int .i64 wd, pl], .int .i64 wind, .int .i64 p, .int .i64 q] w fun e w' => e = .returned (needAns T q) ∧ Below w.heap.size w w' := by
  have HN := Lib.hid hN
  clear hN
  go_enter Tryz.func41, Tryz.ntmps41
  go_wp2_with fail
  refine (HN.out _ (below1 _ _)).mono ?_
  rintro e w1 ⟨tb, rfl, hT1, -, hB1⟩
  have HB := Lib.hid (join (below1 _ _) hB1)
  have HT := Lib.hid hT1
  have hI : Ints w1 tb 0 T := ⟨hT1.lt, fun i hi => by rw [Nat.zero_add]; exact hT1.cell hi⟩
  have HI := Lib.hid hI
  clear hB1 hT1 hI
  go_wp2_with fail
  refine (reachError_any tb 0 _ T _ q hT HI.out).mono ?_
  rintro e w2 ⟨rfl, rfl⟩
  by_cases h0 : reachErr T q = 0
  · have hq : 0 ≤ q ∧ q < T.length := by
      unfold reachErr at h0
      by_cases h1 : q < 0 ∨ (T.length : Int) ≤ q
      · rw [if_pos h1] at h0; cases h0
      · omega
    obtain ⟨k, rfl⟩ := Int.eq_ofNat_of_zero_le hq.1
    have hk : k < T.length := by omega
    have hc := HT.out.cell hk
    have hkk : (k : Int) < T.length := hq.2
    obtain ⟨x, hx⟩ : ∃ x, T.getD k 0 = x := ⟨_, rfl⟩
    rw [hx] at hc
    have HA := Lib.hid (needAns_ok h0 hx)
    rw [h0]
    clear h0 hx
    go_wp2
    go_ret2
    exact ⟨congrArg Ending.returned HA.out.symm, HB.out⟩
  · have h0' : (reachErr T q != 0) = true := by simpa using h0
    have HA := Lib.hid (needAns_bad h0)
    generalize reachErr T q = E at h0' HA ⊢
    clear h0
    go_wp2
    go_ret2
    exact ⟨congrArg Ending.returned HA.out.symm, HB.out⟩
end Go.Proofs.YtimedmkpenbmkaaGreat
