import Derived.Test.YtimedmkpenbmkaaGreatMath
import Derived.Test.YtimedmkpenbmkaaGreatD19
import Derived.Test.YtimedmkpenbmkaaGreatU
import Derived.Test.YtimedmkpenbmkaaGreatShelf
namespace Go.Proofs.YtimedmkpenbmkaaGreat
open Go.RowKit Go.Shelf
set_option linter.unusedSimpArgs false
set_option linter.unusedVariables false

/-- the plot before one, as it is looked for -/
def beforeP (t : Hr.Town) (wind : Int) (T : List Int) (z : Nat) : Option Nat := (List.range t.len).find? (backAt t wind T z)
/-- a way from its end, but for the end -/
def wayTail (t : Hr.Town) (wind : Int) (T : List Int) (s : Nat) : Nat → Nat → List Nat
  | 0, _ => []
  | n + 1, z => if z = s then [] else match beforeP t wind T z with
    | some p => p :: wayTail t wind T s n p
    | none => []
def wayRev (t : Hr.Town) (wind : Int) (T : List Int) (s z : Nat) : List Nat := z :: wayTail t wind T s 1000 z
def wayP (t : Hr.Town) (wind : Int) (T : List Int) (s z : Nat) : List Nat := (wayRev t wind T s z).reverse

theorem find_range {p : Nat → Bool} {n k : Nat} (hk : k < n) (h1 : ∀ j, j < k → p j = false) (h2 : p k = true) : (List.range n).find? p = some k := by
  rw [List.find?_eq_some_iff_append]
  refine ⟨h2, List.range k, List.range' (k + 1) (n - k - 1), ?_, fun a ha => by simp [h1 a (List.mem_range.1 ha)]⟩
  rw [List.range_eq_range', List.range_eq_range', show n = k + (1 + (n - k - 1)) by omega, ← List.range'_append_1, Nat.zero_add]
  congr 1
  rw [← List.range'_append_1]
  simp

theorem isBefore_fix {t : Hr.Town} (ok : t.Ok) {wind : Int} {s z : Nat} (hs : s < t.len) {T : List Int} (h : t.Fix wind s T) (hz : z < t.len) (hne : T.getD z 0 ≠ -1) (hzs : z ≠ s) {y : Int} (hy : IsBefore t wind T z y) :
    ∃ p : Nat, y = p ∧ p < t.len ∧ beforeP t wind T z = some p ∧ T.getD p 0 ≠ -1 ∧ 0 ≤ T.getD p 0 ∧ T.getD p 0 < T.getD z 0 := by
  obtain ⟨p, n, h1, h2, h3, h4⟩ := h.back ok hs hz hne hzs
  have hb : backAt t wind T z p = true := by
    unfold backAt
    rw [List.any_eq_true]
    exact ⟨(z, n), h2, by simp only [stepBack, Bool.and_eq_true, decide_eq_true_eq, true_and]; exact h4⟩
  rcases hy with ⟨k, hk, rfl, hno, hyes⟩ | ⟨_, hno⟩
  · have hb2 := hyes
    unfold backAt at hb2
    rw [List.any_eq_true] at hb2
    obtain ⟨⟨q, m⟩, hm, hq⟩ := hb2
    simp only [stepBack, Bool.and_eq_true, decide_eq_true_eq] at hq
    obtain ⟨rfl, hq2⟩ := hq
    have hpos := Hr.steps_pos hm
    have hbd := h.inv.nn k hk
    have hbz := h.inv.nn q hz
    obtain ⟨r1, r2⟩ := h.reached ok hk hm hne
    exact ⟨k, rfl, hk, find_range hk hno hyes, r1, r2, by omega⟩
  · exact absurd (hno p h1) (by rw [hb]; simp)

theorem A_info3 : (Tryz.prog.info? 3).map (fun i => (i.zero, i.size, i.bytes)) = some (some (.int .i64 0), 1, 8) := by kernel_rfl
theorem A_und31 : Tryz.prog.underlying 22 = some (.slice 3) := by kernel_rfl
def ofNats (l : List Nat) : List Value := l.map fun (p : Nat) => .int .i64 (p : Int)

set_option maxHeartbeats 1000000 in
set_option maxRecDepth 100000 in
theorem way_loop (t : Hr.Town) (hok : t.Ok) (wind voice : Int) (hw0 : 0 ≤ wind) (hw4 : wind ≤ 4) (b o cap r : Nat) (f1 : Fn) (f2 f3 : Array Value) (tb oo cap2 : Nat) (T : List Int) (s z : Nat) (hs : s < t.len) (hz : z < t.len) (hFx : t.Fix wind s T) (hne : T.getD z 0 ≠ -1)
    (w : World) (hI : Ints w b o t.plots) (hD : DirMap w r) (hI2 : Ints w tb oo T) :
    Calls Tryz.prog 101 #[.agg #[.int .i64 t.wide, .slice (some ⟨b, o, none⟩) t.plots.length cap, .int .i64 wind, .int .i64 voice, .map (some r), .func f1 f2 f3], .slice (some ⟨tb, oo, none⟩) T.length cap2, .int .i64 s, .int .i64 z] w fun e w' =>
      ∃ v, e = .returned v ∧ w'.ownsRow (w.heap.size + 1) 3 1 v (wayP t wind T s z).length (ofNats (wayP t wind T s z)) ∧ Below w.heap.size w w' := by
  obtain ⟨i0, hi, hz0, hz1, hz2⟩ := info_parts A_info3
  have hrl : r < w.heap.size := (Array.getElem?_eq_some_iff.1 hD).1
  have hbl := hI.1
  have htl := hI2.1
  have HI := Lib.hid hI
  have HI2 := Lib.hid hI2
  have HD := Lib.hid hD
  have HFx := Lib.hid hFx
  clear hI hI2 hD hFx
  have hB1 := below1 w (.cells #[.int .i64 t.wide, .slice (some ⟨b, o, none⟩) t.plots.length cap, .int .i64 wind, .int .i64 voice, .map (some r), .func f1 f2 f3] 117)
  go_enter Tryz.func101, Tryz.ntmps101
  go_wp2_with fail
  have hown0 : ((w.alloc (.cells #[.int .i64 t.wide, .slice (some ⟨b, o, none⟩) t.plots.length cap, .int .i64 wind, .int .i64 voice, .map (some r), .func f1 f2 f3] 117)).alloc (.cells #[.int .i64 z] 3)).ownsRow (w.heap.size + 1) 3 1 (.slice (some ⟨w.heap.size + 1, 0, none⟩) 1 1) 1 (ofNats [z]) :=
    ⟨rfl, .inr ⟨w.heap.size + 1, 1, #[.int .i64 z], rfl, Nat.le_refl _, (by have := World.alloc_heap_new (w.alloc (.cells #[.int .i64 t.wide, .slice (some ⟨b, o, none⟩) t.plots.length cap, .int .i64 wind, .int .i64 voice, .map (some r), .func f1 f2 f3] 117)) (.cells #[.int .i64 z] 3); simpa using this), Nat.le_refl _, by unfold maxLen; omega, rfl, rfl⟩⟩
  have hb1 : Below (w.heap.size + 1) (w.alloc (.cells #[.int .i64 t.wide, .slice (some ⟨b, o, none⟩) t.plots.length cap, .int .i64 wind, .int .i64 voice, .map (some r), .func f1 f2 f3] 117)) ((w.alloc (.cells #[.int .i64 t.wide, .slice (some ⟨b, o, none⟩) t.plots.length cap, .int .i64 wind, .int .i64 voice, .map (some r), .func f1 f2 f3] 117)).alloc (.cells #[.int .i64 z] 3)) := by
    have := below1 (w.alloc (.cells #[.int .i64 t.wide, .slice (some ⟨b, o, none⟩) t.plots.length cap, .int .i64 wind, .int .i64 voice, .map (some r), .func f1 f2 f3] 117)) (.cells #[.int .i64 z] 3)
    simpa using this
  have hfuel0 : T.getD z 0 < 1000 := by
    have h1 := HFx.out.inv.mu_bd z hz; have := hok.n30; omega
  go_loopw [3, 9] (fun c v wr => ∃ (y : Nat) (acc : List Nat) (m : Nat), y < t.len ∧ c = .int .i64 y ∧ wr.ownsRow (w.heap.size + 1) 3 1 v (acc.length + 1) (ofNats (z :: acc)) ∧ T.getD y 0 ≠ -1 ∧ 0 ≤ T.getD y 0 ∧ T.getD y 0 < m ∧ acc.length + m ≤ 1000 ∧ wayTail t wind T s 1000 z = acc ++ wayTail t wind T s m y ∧
      Below (w.heap.size + 1) (w.alloc (.cells #[.int .i64 t.wide, .slice (some ⟨b, o, none⟩) t.plots.length cap, .int .i64 wind, .int .i64 voice, .map (some r), .func f1 f2 f3] 117)) wr)
    (fun c _ _ => (T.getD (intOf c).toNat 0).toNat)
  case atStart =>
    have h1 := HFx.out.inv.nn z hz
    exact ⟨z, [], 1000, hz, rfl, hown0, hne, by omega, hfuel0, by simp, rfl, hb1⟩
  case round =>
    clear hown0 hb1 hfuel0
    obtain ⟨y, acc, m, hy, rfl, hown, h1, h2, h3, h4, h5, hbl2⟩ := hrel
    have hk := fun i => hbl2.cell (p := ⟨w.heap.size, i, none⟩) (by simp)
    have c0 : wr.cell? ⟨w.heap.size, 0, none⟩ = some (.int .i64 t.wide) := by rw [hk]; go_simp
    have c1 : wr.cell? ⟨w.heap.size, 1, none⟩ = some (.slice (some ⟨b, o, none⟩) t.plots.length cap) := by rw [hk]; go_simp
    have c2 : wr.cell? ⟨w.heap.size, 2, none⟩ = some (.int .i64 wind) := by rw [hk]; go_simp
    have c3 : wr.cell? ⟨w.heap.size, 3, none⟩ = some (.int .i64 voice) := by rw [hk]; go_simp
    have c4 : wr.cell? ⟨w.heap.size, 4, none⟩ = some (.map (some r)) := by rw [hk]; go_simp
    have c5 : wr.cell? ⟨w.heap.size, 5, none⟩ = some (.func f1 f2 f3) := by rw [hk]; go_simp
    have hB := Lib.hid (hB1.trans (hbl2.mono (Nat.le_succ _)))
    have H5 := Lib.hid h5
    have HBL := Lib.hid hbl2
    clear hk hbl2 h5
    by_cases hys : y = s
    · subst hys
      have hyy : ((y : Int) != (y : Int)) = false := by simp
      obtain ⟨L, hL⟩ : ∃ L : List Int, L = (z :: acc).map (fun (p : Nat) => (p : Int)) := ⟨_, rfl⟩
      have hlist : ofNats (z :: acc) = L.map (Value.int .i64) := by rw [hL]; simp [ofNats]
      have hLn : L.length = acc.length + 1 := by rw [hL]; simp
      obtain ⟨g, cp, rfl, hgb, hgi, hle, hmx, hfz⟩ := own_ints (xs := L) rfl (by rw [hLn, ← hlist]; exact hown) (by rw [hL]; simp)
      rw [hLn] at hown ⊢
      rw [hlist] at hown
      have HO := Lib.hid hown
      have HGI := Lib.hid hgi
      have HLL := Lib.hid hL
      have HLN := Lib.hid hLn
      clear hown hgi hlist hL hLn
      go_wp2_with fail
      refine (Tryz.slices_Reverse_int_cells g 0 (acc.length + 1) cp L wr (by rw [HLN.out]; exact Nat.le_refl _) (by omega) (fun j hj => HGI.out.2 j hj) (fun j _ => by rw [Nat.zero_add]; exact hfz j)).mono ?_
      rintro e w5 ⟨rfl, q, rfl⟩
      obtain ⟨ys, hys⟩ : ∃ ys : List Value, ys = (L.take (acc.length + 1)).reverse.map (Value.int .i64) := ⟨_, rfl⟩
      rw [← hys]
      have HYS := Lib.hid hys
      clear hys
      go_wp2
      go_ret
      have h6 : wayTail t wind T y 1000 z = acc := by
        rw [H5.out]
        cases m with
        | zero => simp [wayTail]
        | succ m => simp [wayTail]
      have hlen : (wayP t wind T y z).length = acc.length + 1 := by unfold wayP wayRev; rw [h6]; simp
      have hyl : ys.length = acc.length + 1 := by rw [HYS.out]; simp [HLN.out]
      have hyy2 : ofNats (wayP t wind T y z) = ys := by
        rw [HYS.out, HLL.out]
        unfold wayP wayRev ofNats; rw [h6, List.take_of_length_le (by simp), ← List.map_reverse, List.map_map]; rfl
      rw [hlen, hyy2]
      exact ⟨_, rfl, own_setCells (own_drewN HO.out q) hyl, below_setCells' (by omega) _ _ _ (below_drewN' hB.out q)⟩
    · have hys' : ((y : Int) != (s : Int)) = true := by simp; omega
      go_wp2_with fail
      refine (before_any t hok wind voice hw0 hw4 b o cap r f1 f2 f3 tb oo cap2 T HFx.out.inv.len (fun i hi => by have a1 := HFx.out.inv.nn i (by rw [← HFx.out.inv.len]; exact hi); have a2 := HFx.out.inv.mu_bd i (by rw [← HFx.out.inv.len]; exact hi); have := hok.n30; omega) y hy wr (HI.out.below hB.out hbl) ((hB.out.block r hrl).trans HD.out) (HI2.out.below hB.out htl)).mono ?_
      rintro e w5 ⟨x, rfl, hx, hB5⟩
      obtain ⟨p, rfl, hp, hpb, hp1, hp2, hp3⟩ := isBefore_fix hok hs HFx.out hy h1 hys hx
      have hown5 := own_below hown hB5
      have hbl5 := HBL.out.trans (hB5.mono (by have := HBL.out.size; simp at this; omega))
      have hz5 : w.heap.size + 1 ≤ w5.heap.size := by have := HBL.out.size; have := hB5.size; simp at *; omega
      have HO := Lib.hid hown5
      have HL := Lib.hid hbl5
      have HPB := Lib.hid hpb
      clear hown hown5 hbl5 hB5 hpb hx
      go_wp2_with (at_builtin; refine wpList_append_own _ rfl _ _ 22 rfl (w.heap.size + 1) 3 i0 (.int .i64 0) 1 8 A_und31 hi hz0 hz1 hz2 rfl (by decide) _ _ _ rfl (HO.out.alloc _) ⟨w5.heap.size, 0, none⟩ 1 1 [.int .i64 (p : Int)] rfl rfl ?c1 ?c2 ?c3 ?c4 ?c5 ?_)
      case c1 =>
        intro j u hj
        match j, hj with
        | 0, hj => simp at hj; subst hj; simp [Addr.add]
      case c2 => intro u hu; simp at hu; subst hu; rfl
      case c3 => unfold maxLen; omega
      case c4 => omega
      case c5 => simp; omega
      intro v' w6 hown6 hgrow _
      have hL6 := below_grown (al2 HL.out (by omega) _) (HO.out.alloc _) (Nat.le_refl _) (by simp; omega) hgrow
      clear hgrow
      go_wp2
      go_roundw
      case rel => exact ⟨p, acc ++ [p], m - 1, hp, rfl, by simpa [ofNats] using hown6, hp1, hp2, by omega, by simp; omega, by
        rw [H5.out, List.append_assoc]; congr 1
        obtain ⟨m', rfl⟩ : ∃ m', m = m' + 1 := ⟨m - 1, by omega⟩
        rw [wayTail, if_neg hys, HPB.out]; rfl, hL6⟩
      case measure => simp only [intOf, Int.toNat_natCast]; omega
end Go.Proofs.YtimedmkpenbmkaaGreat
