import Derived.Test.YtimedmkpenbmkaaWi
namespace Go.Proofs.Ytimedmkpenbmkaa
open Go.RowKit Go.Shelf
set_option linter.unusedSimpArgs false
set_option linter.unusedVariables false

def IdxPost (xs : List Int) (x : Int) (w : World) (e : Ending) (w' : World) : Prop := ∃ i : Int, e = .returned (.int .i64 i) ∧ (0 ≤ i ↔ x ∈ xs) ∧ w = w'
theorem mem_getD {xs : List Int} {k : Nat} (h : k < xs.length) : xs.getD k 0 ∈ xs := by
  rw [List.getD_eq_getElem?_getD, List.getElem?_eq_getElem h]; exact List.getElem_mem h
theorem getD_of_mem {xs : List Int} {x : Int} (h : x ∈ xs) : ∃ k, k < xs.length ∧ xs.getD k 0 = x := by
  obtain ⟨k, hk, e⟩ := List.getElem_of_mem h
  exact ⟨k, hk, by rw [List.getD_eq_getElem?_getD, List.getElem?_eq_getElem hk]; exact e⟩

set_option maxHeartbeats 1000000 in
set_option maxRecDepth 100000 in
theorem indexDir_any (v : Value) (xs : List Int) (x : Int) (hl : xs.length ≤ 1000000) (w : World) (hR : RdI w v xs) :
    Calls Try.prog 124 #[v, .int .i64 x] w (IdxPost xs x w) := by
  obtain ⟨_, a, cap, rfl, hI⟩ := hR
  have HI := Lib.hid hI
  clear hI
  go_enter Try.func124, Try.ntmps124
  go_wp2
  go_loop [5, 8] (fun u i => ∃ k : Nat, k ≤ xs.length ∧ i = .int .i64 k ∧ ∀ j, j < k → xs.getD j 0 ≠ x) (fun _ i => xs.length - (intOf i).toNat)
  case atStart => exact ⟨0, Nat.zero_le _, rfl, fun j hj => absurd hj (by omega)⟩
  case round =>
    obtain ⟨k, hk, rfl, hno⟩ := hrel
    have HNO := Lib.hid hno
    clear hno
    by_cases hlt : k < xs.length
    · have hne : xs ≠ [] := by rintro rfl; simp at hlt
      obtain ⟨b, o, rfl, hI⟩ := HI.out hne
      have hc := hI.2 k hlt
      have hbl := hI.1
      have hlt' : (k : Int) < xs.length := by omega
      obtain ⟨y, hy⟩ : ∃ y, xs.getD k 0 = y := ⟨_, rfl⟩
      rw [hy] at hc
      have HY := Lib.hid hy
      clear hy hI hne
      by_cases hxy : x = y
      · subst hxy
        go_wp2
        go_ret
        exact ⟨k, rfl, ⟨fun _ => by rw [← HY.out]; exact mem_getD hlt, fun _ => by omega⟩, rfl⟩
      · have hxy' : (x == y) = false := by simpa using hxy
        have HXY := Lib.hid hxy
        clear hxy
        go_wp2
        go_round
        case rel => exact ⟨k + 1, by omega, by go_num, fun j hj => by
          rcases Nat.lt_succ_iff_lt_or_eq.1 hj with h | rfl
          · exact HNO.out j h
          · rw [HY.out]; exact fun e => HXY.out e.symm⟩
        case measure => simp [intOf]; omega
    · obtain rfl : k = xs.length := by omega
      go_wp2
      go_ret
      exact ⟨-1, rfl, ⟨fun h => by omega, fun h => by
        obtain ⟨j, hj, e⟩ := getD_of_mem h
        exact absurd e (HNO.out j hj)⟩, rfl⟩
set_option maxHeartbeats 1000000 in
set_option maxRecDepth 100000 in
theorem containsDir_any (v : Value) (xs : List Int) (x : Int) (q : Bool) (hq : decide (x ∈ xs) = q) (hl : xs.length ≤ 1000000) (w : World) (hR : RdI w v xs) :
    Calls Try.prog 71 #[v, .int .i64 x] w fun e w' => e = .returned (.bool q) ∧ w = w' := by
  have HX := Lib.hid (indexDir_any v xs x hl w hR)
  obtain ⟨_, a, cap, rfl, _⟩ := hR
  have HQ := Lib.hid hq
  clear hq
  go_enter Try.func71, Try.ntmps71
  go_wp2_with fail
  refine HX.out.mono ?_
  rintro e w' ⟨i, rfl, hi, rfl⟩
  have HI := Lib.hid hi
  clear hi
  by_cases h : 0 ≤ i
  · have d : decide (i ≥ 0) = true := by simpa using h
    have hr : q = true := by rw [← HQ.out]; simpa using HI.out.1 h
    subst hr
    clear HQ HI h
    go_wp2
    go_ret
    exact ⟨rfl, rfl⟩
  · have d : decide (i ≥ 0) = false := by simpa using h
    have hr : q = false := by rw [← HQ.out]; simpa using fun hm => h (HI.out.2 hm)
    subst hr
    clear HQ HI h
    go_wp2
    go_ret
    exact ⟨rfl, rfl⟩

/-- what Winds tells -/
def windsE (wd : Int) (xs : List Int) (voice s h : Int) : Int := if atE wd xs 0 voice s 0 ≠ 0 then atE wd xs 0 voice s 0 else plotErr xs h 1
def windsL (wd : Int) (xs : List Int) (voice s h : Int) : List Int := if windsE wd xs voice s h = 0 then windsOf (townOf wd xs) voice s.toNat h.toNat else []
theorem Winds_any (wd voice s h : Int) (a : Option Addr) (cap : Nat) (xs : List Int) (hl : xs.length ≤ 1000000) (w : World) (hR : RdI w (.slice a xs.length cap) xs) :
    Calls Try.prog 43 #[.agg #[.int .i64 wd, .slice a xs.length cap], .int .i64 voice, .int .i64 s, .int .i64 h] w fun e w' => ∃ v, e = .returned (.tuple #[v, .int .i64 (windsE wd xs voice s h)]) ∧ w'.ownsRow w.heap.size 25 1 v (windsL wd xs voice s h).length ((windsL wd xs voice s h).map (Value.int .i64)) ∧ Below w.heap.size w w' := by
  by_cases he : atE wd xs 0 voice s 0 = 0
  · obtain ⟨h1, h2, h3⟩ := atE_ok he
    have hne : xs ≠ [] := by rintro rfl; have := (check_len h1).2; simp at this
    obtain ⟨b, o, rfl, _, hI⟩ := rd_ints hR hne
    obtain ⟨t, -, hw', hx, ok⟩ := town_name h1
    subst hw' hx
    obtain ⟨p, rfl, hp, _⟩ := plot_ok h3
    by_cases hh : plotErr t.plots h 1 = 0
    · obtain ⟨k, rfl, hk, _⟩ := plot_ok hh
      have e1 : windsE t.wide t.plots voice p k = 0 := by unfold windsE; rw [if_neg (by rw [he]; simp)]; exact hh
      have e2 : windsL t.wide t.plots voice p k = windsOf t voice p k := by unfold windsL; rw [if_pos e1, townOf_self]; simp
      rw [e1, e2]
      exact Winds_yes t ok voice p k he hh b o cap w hI
    · have e1 : windsE t.wide t.plots voice p h = plotErr t.plots h 1 := by unfold windsE; rw [if_neg (by rw [he]; simp)]
      have e2 : windsL t.wide t.plots voice p h = [] := by unfold windsL; rw [e1, if_neg hh]
      rw [e1, e2]
      refine (Winds_plot t ok voice p h he hh b o cap w hI).mono ?_
      rintro e w' ⟨rfl, hB⟩
      exact ⟨_, rfl, own_none _ _ _ _, hB⟩
  · have e1 : windsE wd xs voice s h = atE wd xs 0 voice s 0 := by unfold windsE; rw [if_pos he]
    have e2 : windsL wd xs voice s h = [] := by unfold windsL; rw [e1, if_neg he]
    rw [e1, e2]
    refine (Winds_no wd voice s h a cap xs hl w hR he).mono ?_
    rintro e w' ⟨rfl, hB⟩
    exact ⟨_, rfl, own_none _ _ _ _, hB⟩
end Go.Proofs.Ytimedmkpenbmkaa
