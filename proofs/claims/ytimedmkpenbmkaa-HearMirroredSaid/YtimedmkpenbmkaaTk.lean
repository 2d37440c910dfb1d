import Derived.Test.YtimedmkpenbmkaaD12
import Derived.Test.YtimedmkpenbmkaaMathR
namespace Go.Proofs.Ytimedmkpenbmkaa
open Go.RowKit Go.Shelf
attribute [local go_sem] Oper.semAt_some
set_option linter.unusedSimpArgs false
set_option linter.unusedVariables false

/-- what a way's closure has at hand: the town at work, the plot that was reached, and what was needed -/
structure TkW (t : Hr.Town) (wind voice : Int) (b o cap r : Nat) (cf : Value) (KB AB TB p : Nat) (s : Int) (W : World) : Prop where
  wk : WkBox W t.wide wind voice b o cap r cf t.plots KB
  here : W.heap[AB]? = some (.cells #[.int .i64 p] 3)
  tot : W.heap[TB]? = some (.cells #[.int .i64 s] 3)
  ne : KB ≠ AB ∧ KB ≠ TB ∧ AB ≠ TB ∧ b ≠ AB ∧ b ≠ TB ∧ r ≠ AB ∧ r ≠ TB
theorem TkW.lt {t : Hr.Town} {wind voice : Int} {b o cap r : Nat} {cf : Value} {KB AB TB p : Nat} {s : Int} {W : World} (h : TkW t wind voice b o cap r cf KB AB TB p s W) : AB < W.heap.size ∧ TB < W.heap.size ∧ KB < W.heap.size ∧ b < W.heap.size ∧ r < W.heap.size :=
  ⟨(Array.getElem?_eq_some_iff.1 h.here).1, (Array.getElem?_eq_some_iff.1 h.tot).1, h.wk.lt⟩
theorem TkW.below {t : Hr.Town} {wind voice : Int} {b o cap r : Nat} {cf : Value} {KB AB TB p : Nat} {s : Int} {W W' : World} (h : TkW t wind voice b o cap r cf KB AB TB p s W) {B : Nat} (hB : Below B W W') (hl : AB < B ∧ TB < B ∧ KB < B ∧ b < B ∧ r < B) : TkW t wind voice b o cap r cf KB AB TB p s W' :=
  ⟨h.wk.hold (Kp := fun k => k < B) (.of_below hB (fun _ h _ => h)) ⟨hl.2.2.1, hl.2.2.2⟩, (hB.block _ hl.1).trans h.here, (hB.block _ hl.2.1).trans h.tot, h.ne⟩
theorem Hold.low {Kp : Nat → Prop} {A C D : World} {B : Nat} (h : Hold Kp A C) (k : Below B C D) (hB : A.heap.size ≤ B) : Hold Kp A D :=
  have k' := Hold.of_below (Kp := fun i => i < B) k (fun _ h _ => h)
  ⟨k'.os.trans h.os, k'.tape.trans h.tape, k'.output.trans h.output, Nat.le_trans h.size k.size, fun i hi hl => (k.block i (by omega)).trans (h.same i hi hl)⟩
/-- the step is taken, or there is none -/
def TkPost (t : Hr.Town) (wind voice : Int) (b o cap r : Nat) (cf : Value) (KB AB TB p : Nat) (s q : Int) (w : World) (e : Ending) (w' : World) : Prop :=
  (stepZ t wind p q = 0 → e = .returned (.int .i64 8)) ∧ (stepZ t wind p q ≠ 0 → e = .returned (.int .i64 0) ∧ TkW t wind voice b o cap r cf KB AB TB q.toNat (s + stepZ t wind p q) w') ∧ Hold (fun k => k ≠ AB ∧ k ≠ TB) w w'
theorem stepZ_no {t : Hr.Town} (ok : t.Ok) {wind : Int} {p : Nat} (hp : p < t.len) {q : Int} (h : ∀ x ∈ t.steps wind p, (x.1 : Int) ≠ q) : stepZ t wind p q = 0 := by
  false_or_by_contra
  rename_i h0
  unfold stepZ at h0
  by_cases hq : (p : Int) < 0 ∨ (t.len : Int) ≤ p ∨ q < 0 ∨ (t.len : Int) ≤ q
  · rw [if_pos hq] at h0; exact h0 rfl
  · rw [if_neg hq] at h0
    rw [Int.toNat_natCast] at h0
    exact h (q.toNat, _) ((Hr.stepI_iff ok hp (by omega) _).2 ⟨rfl, h0⟩) (by show ((q.toNat : Nat) : Int) = q; omega)
theorem stepZ_yes {t : Hr.Town} (ok : t.Ok) {wind : Int} {p : Nat} (hp : p < t.len) {q : Nat} {n : Int} (h : (q, n) ∈ t.steps wind p) : stepZ t wind p q = n ∧ n ≠ 0 := by
  have hq := Hr.steps_lt ok h
  obtain ⟨h1, h2⟩ := (Hr.stepI_iff ok hp hq n).1 h
  unfold stepZ
  rw [if_neg (by omega)]
  simp only [Int.toNat_natCast]
  exact ⟨h1.symm, by rw [h1]; exact h2⟩

set_option maxHeartbeats 1000000 in
set_option maxRecDepth 100000 in
theorem askT_any (t : Hr.Town) (hok : t.Ok) (wind voice : Int) (hw0 : 0 ≤ wind) (hw4 : wind ≤ 4) (b o cap r : Nat) (f1 : Fn) (f2 f3 : Array Value) (KB AB TB p : Nat) (hp : p < t.len) (s : Int) (hs0 : 0 ≤ s) (hs1 : s ≤ 1000000) (q : Int)
    (w : World) (hT : TkW t wind voice b o cap r (.func f1 f2 f3) KB AB TB p s w) :
    Calls Try.prog 131 #[.int .i64 q, .pointer (some ⟨KB, 0, none⟩), .pointer (some ⟨AB, 0, none⟩), .pointer (some ⟨TB, 0, none⟩)] w (TkPost t wind voice b o cap r (.func f1 f2 f3) KB AB TB p s q w) := by
  obtain ⟨n, hn9⟩ : ∃ n : Nat, 9 ≤ n := ⟨9, Nat.le_refl _⟩
  obtain ⟨la, lt, lk, lb, lr⟩ := hT.lt
  have hne := hT.ne
  have HTK := Lib.hid hT
  obtain ⟨e0, e1', e2, e3, e4, e5, e6⟩ := hne
  have hT1 : ∀ o1 o2, TkW t wind voice b o cap r (.func f1 f2 f3) KB AB TB p s ((w.alloc o1).alloc o2) := fun o1 o2 => hT.below (al (below1 _ _) _) ⟨la, lt, lk, lb, lr⟩
  have hT2 := hT1 (.cells #[.int .i64 q] 3) (.cells #[.int .i64 0] 35)
  have c0 := hT2.wk.c0
  have c1 := hT2.wk.c1
  have c2 := hT2.wk.c2
  have c3 := hT2.wk.c3
  have c4 := hT2.wk.c4
  have c5 := hT2.wk.c5
  have ca : ((w.alloc (.cells #[.int .i64 q] 3)).alloc (.cells #[.int .i64 0] 35)).cell? ⟨AB, 0, none⟩ = some (.int .i64 p) := by simp [World.cell?, hT2.here]
  clear hT1 hT2 hT
  refine (callsIn_wide (n := n)).1 ?_
  refine callsIn_of_wp_marks Try.func131 rfl trivial ?_ rfl
  simp only [Try.ntmps131, List.size_toArray, List.length_cons, List.length_nil, Nat.reduceAdd, Nat.reduceSub, Array.replicate_succ, Array.replicate_zero, List.push_toArray, List.append_toArray, List.nil_append, List.cons_append]
  gi_wp2_with fail
  refine ⟨trivial, (fun h => by cases h), ?_⟩
  refine (callsIn_wide.2 (steps_eq _ _ _ _ _ _ _ _)).mono ?_
  rintro e W4 ⟨rfl, hW4⟩
  have hB4 : Below w.heap.size w W4 := by rw [← hW4]; exact (((below1 _ _).alloc (by simp) _).alloc (by simp; omega) _).alloc (by simp; omega) _
  have hs4 : W4.heap.size = w.heap.size + 4 := by rw [← hW4]; simp
  have k4 : W4.cell? ⟨w.heap.size, 0, none⟩ = some (.int .i64 q) := by rw [← hW4]; clear hW4; go_simp
  have k5 : W4.heap[w.heap.size + 1]? = some (.cells #[.int .i64 0] 35) := by
    rw [← hW4]
    rw [Below.heap_alloc _ _ _ (by simp), Below.heap_alloc _ _ _ (by simp)]
    have := World.alloc_heap_new (w.alloc (.cells #[.int .i64 q] 3)) (.cells #[.int .i64 0] 35)
    rw [World.size_alloc] at this
    exact this
  have hT4 : TkW t wind voice b o cap r (.func f1 f2 f3) KB AB TB p s W4 := HTK.out.below hB4 ⟨la, lt, lk, lb, lr⟩
  have hwk : WkBox W4 t.wide wind voice b o cap r (.func f1 f2 f3) t.plots (w.heap.size + 1 + 1) := by
    refine ⟨?_, ?_, ?_, ?_, ?_, ?_, hT4.wk.ints, hT4.wk.dir⟩ <;> (rw [← hW4]; clear hW4; go_simp)
  have kB : W4.cell? ⟨w.heap.size + 1 + 1 + 1, 0, none⟩ = some (.int .i64 p) := by rw [← hW4]; clear hW4; go_simp
  clear hW4 c0 c1 c2 c3 c4 c5 ca
  gi_wp2_with fail
  refine range_low (gf := 150) (lb := #[.pointer (some ⟨w.heap.size + 1 + 1, 0, none⟩), .pointer (some ⟨w.heap.size + 1 + 1 + 1, 0, none⟩)]) rfl (enters_of Try.func150 (by kernel_rfl) rfl)
    (steps_stops (n - 1) (fun k => k ≠ AB ∧ k ≠ TB ∧ k ≠ w.heap.size + 1) t hok wind voice hw0 hw4 b o cap r f1 f2 f3 p _ _ hp W4 ⟨⟨by omega, by omega, by omega⟩, ⟨by omega, by omega, by omega⟩, ⟨by omega, by omega, by omega⟩, ⟨by omega, by omega, by omega⟩⟩ hwk kB) (Below.refl _ _) (fun _ => rfl)
    (fun pre W' => TkW t wind voice b o cap r (.func f1 f2 f3) KB AB TB p s W' ∧ W'.cell? ⟨w.heap.size, 0, none⟩ = some (.int .i64 q) ∧ W'.heap[w.heap.size + 1]? = some (.cells #[.int .i64 0] 35) ∧ Below w.heap.size w W' ∧ W4.heap.size ≤ W'.heap.size ∧ ∀ x ∈ pre, (x.1.1 : Int) ≠ q)
    (fun c _ W' => c = .ret ∧ W'.heap[w.heap.size + 1]? = some (.cells #[.int .i64 0] 35) ∧ W4.heap.size ≤ W'.heap.size ∧ stepZ t wind p q ≠ 0 ∧ TkW t wind voice b o cap r (.func f1 f2 f3) KB AB TB q.toNat (s + stepZ t wind p q) W' ∧ Hold (fun k => k ≠ AB ∧ k ≠ TB) w W') ?tkI ?tkX ?start ?round ?done ?stop
  case tkI =>
    rintro s' X Y ⟨i1, i2, i3, i4, i5, i6⟩ hb
    exact ⟨i1.below hb ⟨by omega, by omega, by omega, by omega, by omega⟩, (hb.cell (p := ⟨w.heap.size, 0, none⟩) (show w.heap.size < W4.heap.size by omega)).trans i2, (hb.block _ (by omega)).trans i3, i4.trans (hb.mono (by omega)), Nat.le_trans i5 hb.size, i6⟩
  case tkX =>
    rintro c s' X Y ⟨i1, i2, i3, i4, i5, i6⟩ hb
    exact ⟨i1, (hb.block _ (by omega)).trans i2, Nat.le_trans i3 hb.size, i4, i5.below hb ⟨by omega, by omega, by omega, by omega, by omega⟩, i6.low hb (by omega)⟩
  case start => exact ⟨hT4, k4, k5, hB4, Nat.le_refl _, fun _ h => by cases h⟩
  case round =>
    rintro l' pre ⟨⟨z, n'⟩, hx⟩ W5 hl1 hl2 ⟨i1, i2, i3, i4, i5, i6⟩
    have hnb := Hr.steps_pos hx
    have hzl := Hr.steps_lt hok hx
    have h30 := hok.n30
    have hsz := stepZ_yes hok hp hx
    have HI6 := Lib.hid i6
    have hn1 : 1 ≤ n' := hnb.1
    have hn5 : n' ≤ 5 := hnb.2
    have hz30 : (z : Int) < 30 := by omega
    have HSZ := Lib.hid hsz
    have HZL := Lib.hid hzl
    clear hnb i1 i2 i3 i4 i5 i6 hT4 k4 k5 hwk kB hsz hzl
    gi_wp2
    refine ⟨Below.refl _ _, ?_⟩
    rintro Wb hg hsz ⟨j1, j2, j3, j4, j5, j6⟩
    have J1 := Lib.hid j1
    have J4 := Lib.hid j4
    have ct : Wb.cell? ⟨TB, 0, none⟩ = some (.int .i64 s) := by simp [World.cell?, j1.tot]
    have ft : Wb.frozen? ⟨TB, 0, none⟩ = false := by simp [World.frozen?, j1.tot]
    have fa : Wb.frozen? ⟨AB, 0, none⟩ = false := by simp [World.frozen?, j1.here]
    have ca : Wb.cell? ⟨AB, 0, none⟩ = some (.int .i64 p) := by simp [World.cell?, j1.here]
    have cr : Wb.cell? ⟨w.heap.size + 1, 0, none⟩ = some (.int .i64 0) := by simp [World.cell?, j3]
    have fr : Wb.frozen? ⟨w.heap.size + 1, 0, none⟩ = false := by simp [World.frozen?, j3]
    have J3 := Lib.hid j3
    clear hg j1 j3 j4 j6
    by_cases hq : (z : Int) = q
    · have hqt : q.toNat = z := by omega
      have hsz2 : stepZ t wind p q = n' ∧ n' ≠ 0 := by rw [← hq]; exact HSZ.out
      have HQ := Lib.hid hqt
      have HS2 := Lib.hid hsz2
      have e1 : ((z : Int) == q) = true := by simpa using hq
      have HFIN : Hid (TkW t wind voice b o cap r (.func f1 f2 f3) KB AB TB z (s + n') ((Wb.setCell ⟨TB, 0, none⟩ (.int .i64 (s + n'))).setCell ⟨AB, 0, none⟩ (.int .i64 q)) ∧ Hold (fun k => k ≠ AB ∧ k ≠ TB) Wb ((Wb.setCell ⟨TB, 0, none⟩ (.int .i64 (s + n'))).setCell ⟨AB, 0, none⟩ (.int .i64 q))) := by
        refine Lib.hid ?_
        have hh : Hold (fun k => k ≠ AB ∧ k ≠ TB) Wb ((Wb.setCell ⟨TB, 0, none⟩ (.int .i64 (s + n'))).setCell ⟨AB, 0, none⟩ (.int .i64 q)) := (Hold.setCell _ _ _ (fun h => h.2 rfl)).trans (Hold.setCell _ _ _ (fun h => h.1 rfl))
        refine ⟨⟨J1.out.wk.hold hh ⟨⟨e0, e1'⟩, ⟨e3, e4⟩, ⟨e5, e6⟩⟩, ?_, ?_, J1.out.ne⟩, hh⟩
        · have := one_setCell (u := .int .i64 q) ((Below.heap_setCell Wb ⟨TB, 0, none⟩ (.int .i64 (s + n')) AB e2).trans J1.out.here)
          rw [← hq] at this ⊢
          exact this
        · exact (Below.heap_setCell _ ⟨AB, 0, none⟩ _ TB (Ne.symm e2)).trans (one_setCell J1.out.tot)
      clear hq hqt hsz2
      gi_wp2
      have hlr : w.heap.size + 1 < Wb.heap.size := (Array.getElem?_eq_some_iff.1 J3.out).1
      have h3 := HFIN.out.2
      have hr := (h3.same (w.heap.size + 1) ⟨by omega, by omega⟩ hlr).trans J3.out
      have h4 : Hold (fun k => k ≠ AB ∧ k ≠ TB ∧ k ≠ w.heap.size + 1) Wb _ := (h3.mono (fun k hk _ => ⟨hk.1, hk.2.1⟩)).trans (Hold.setCell _ ⟨w.heap.size + 1, 0, none⟩ (.int .i64 0) (fun h => h.2.2 rfl))
      refine ⟨h4.mono (fun k hk hl => by rcases hk with h | h <;> omega), rfl, one_setCell hr, Nat.le_trans j5 h4.size, by rw [HS2.out.1]; exact HS2.out.2, ?_, ?_⟩
      · rw [HQ.out, HS2.out.1]
        exact HFIN.out.1.below (B := w.heap.size) ((Below.refl _ _).setCell (p := ⟨w.heap.size + 1, 0, none⟩) (by show w.heap.size ≤ w.heap.size + 1; omega) _) ⟨la, lt, lk, lb, lr⟩
      · exact (Hold.trans (.of_below J4.out (fun _ _ hl => hl)) h3).low ((Below.refl w.heap.size _).setCell (p := ⟨w.heap.size + 1, 0, none⟩) (by show w.heap.size ≤ w.heap.size + 1; omega) _) (Nat.le_refl _)
    · have e1 : ((z : Int) == q) = false := by simpa using hq
      have HNQ := Lib.hid hq
      clear hq
      gi_wp2
      refine ⟨Hold.refl _ _, J1.out, j2, J3.out, J4.out, j5, fun x hxm => ?_⟩
      rcases List.mem_append.1 hxm with h | h
      · exact HI6.out x h
      · rw [List.mem_singleton] at h; subst h; exact HNQ.out
  case done =>
    rintro D ys W' hD hys ⟨i1, i2, i3, i4, i5, i6⟩ hK
    have hDl := (Array.getElem?_eq_some_iff.1 hK).1
    have hz0 : stepZ t wind p q = 0 := stepZ_no hok hp (fun x hx => by
      rw [← hys] at hx
      obtain ⟨y, hy, rfl⟩ := List.mem_map.1 hx
      exact i6 y hy)
    have hlr : w.heap.size + 1 < W'.heap.size := (Array.getElem?_eq_some_iff.1 i3).1
    have cr : W'.cell? ⟨w.heap.size + 1, 0, none⟩ = some (.int .i64 0) := by simp [World.cell?, i3]
    have fr : W'.frozen? ⟨w.heap.size + 1, 0, none⟩ = false := by simp [World.frozen?, i3]
    have I3 := Lib.hid i3
    have I4 := Lib.hid i4
    have HK := Lib.hid hK
    have HZ0 := Lib.hid hz0
    clear i1 i3 i4 hK hz0 hys i6 hT4 hwk kB k4 k5
    gi_wp2
    have hres2 := one_setCell (u := .int .i64 8) I3.out
    refine leaves_marks (B := W4.heap.size) (by simp) _ W'.heap.size _ ⟨D, rfl, hD, hDl, (Below.heap_setCell _ _ _ _ (show D ≠ w.heap.size + 1 by omega)).trans HK.out, trivial⟩ (by simp) (fun w' hh => ?_)
    have hres := (hh.same _ (show w.heap.size + 1 < W4.heap.size by omega) (by simp; omega)).trans hres2
    have hc : w'.cell? ⟨w.heap.size + 1, 0, none⟩ = some (.int .i64 8) := by simp [World.cell?, hres]
    refine ⟨.int .i64 8, ?_, ?_⟩
    · simp [results, Try.results131, go_sem, hc]
    · refine ⟨fun _ => rfl, fun h => absurd HZ0.out h, ?_⟩
      have hb1 : Below w.heap.size w (W'.setCell ⟨w.heap.size + 1, 0, none⟩ (.int .i64 8)) := setc I4.out (by simp)
      exact (Hold.of_below hb1 (fun _ _ hl => hl)).low (hh.to_below (by simp; omega)) (by omega)
  case stop =>
    rintro D c pre W' hD ⟨rfl, i2, i3, i4, i5, i6⟩ hK
    have hDl := (Array.getElem?_eq_some_iff.1 hK).1
    gi_wp2
    refine leaves_marks (B := W4.heap.size) (by simp) _ W'.heap.size W' ⟨D, rfl, hD, hDl, hK, trivial⟩ (Nat.le_refl _) (fun w' hh => ?_)
    have hres := (hh.same _ (show w.heap.size + 1 < W4.heap.size by omega) (by omega)).trans i2
    have hc : w'.cell? ⟨w.heap.size + 1, 0, none⟩ = some (.int .i64 0) := by simp [World.cell?, hres]
    refine ⟨.int .i64 0, ?_, ?_⟩
    · simp [results, Try.results131, go_sem, hc]
    · refine ⟨fun h => absurd h i4, fun _ => ⟨rfl, ?_⟩, ?_⟩
      · exact i5.below (hh.to_below (by omega)) ⟨by omega, by omega, by omega, by omega, by omega⟩
      · exact i6.low (hh.to_below (by omega)) (by omega)
end Go.Proofs.Ytimedmkpenbmkaa
