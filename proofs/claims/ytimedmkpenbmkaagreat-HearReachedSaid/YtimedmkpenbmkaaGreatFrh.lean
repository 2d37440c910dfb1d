/- What came in, as what the contracts ask for: helpers of the lifted theorems. -/
import Derived.Test.YtimedmkpenbmkaaGreatRows
import Derived.Test.YtimedmkpenbmkaaGreatRae
import Derived.ProofKit
import Derived.OpenShut
import Derived.ShutString
import Derived.ChangeOld
import Derived.Below
import Derived.Lib.SmallJoins
namespace Go.Proofs.YtimedmkpenbmkaaGreat
open Go.ChangeShapes Go.WideShapes Go.ChangeAt Go.RowKit Go.Joins
set_option linter.unusedVariables false
set_option linter.unusedSimpArgs false

theorem Tryz.own : ownKnob Tryz.prog.godebug = none := by kernel_rfl
theorem Tryz.laidOut : laidOutB Tryz.prog = true := by kernel_rfl

theorem cells24 : Tryz.prog.cellsOf 25 = 2 := by kernel_rfl
theorem cells27 : Tryz.prog.cellsOf 29 = 2 := by kernel_rfl
theorem cells102 : Tryz.prog.cellsOf 32 = 1 := by kernel_rfl
theorem cells3 : Tryz.prog.cellsOf 3 = 1 := by kernel_rfl
section
variable {H : Type} {enc : TypeId × Value → H} {W : World} {base : Nat} {spare : Nat → Bool} {held : Bool}
set_option maxRecDepth 100000 in
/-- a slice of numbers that came in, as a list that is read -/
theorem rd_of_trod {t e : TypeId} (hsp : ∀ b, spare b = true) (ht : Tryz.prog.underlying t = some (.slice e)) (he : Tryz.prog.underlying e = some (.int .i64)) (hc : Tryz.prog.cellsOf e = 1) {fuel : Nat} {v : Value} {x : DataW H × List MemPlace}
    (h : DataW.trod enc Tryz.prog W base spare held fuel t [v] = some x) : ∃ a cap, ∃ xs : List Int, v = .slice a xs.length cap ∧ RdI W v xs := by
  rcases open_ints ht he hc h with ⟨hcs, _⟩ | ⟨a, l, c, zs, hcs, _, hl, hm, hz, _, hcell, hwz⟩
  · injection hcs with hcs
    subst hcs
    exact ⟨none, 0, [], rfl, by simp, none, 0, rfl, fun h => absurd rfl h⟩
  · injection hcs with hcs
    subst hcs
    rw [hsp, if_pos rfl] at hz
    have hxl : (zs.take l).length = l := by rw [List.length_take]; omega
    have hm' : l ≤ 9223372036854775807 := by have : maxLen = 9223372036854775807 := rfl; omega
    refine ⟨some a, c, zs.take l, by rw [hxl], by omega, some a, c, by rw [hxl], fun hne => ?_⟩
    have hl0 : 0 < l := by
      rcases Nat.eq_zero_or_pos l with h0 | h0
      · subst h0; simp at hne
      · exact h0
    obtain ⟨b, off, rfl, hc⟩ := ints_at hcell (by omega)
    refine ⟨b, off, rfl, ?_, fun i hi => ?_⟩
    · have := hc 0 (by omega)
      rcases Nat.lt_or_ge b W.heap.size with h' | h'
      · exact h'
      · simp [World.cell?, Array.getElem?_eq_none h'] at this
    · have hi2 : i < l := by omega
      rw [hc i (by omega)]
      congr 2
      simp only [List.getD_eq_getElem?_getD, List.getElem?_take, hi2, if_true]

set_option maxRecDepth 100000 in
/-- a town that came in -/
theorem town_of_trod (hsp : ∀ b, spare b = true) {v : Value} {d : DataW H} {p : List MemPlace} {r : Reach} {b0 : Nat} (hv : Value.okWide Tryz.prog W r b0 25 v) (h : DataW.Trod enc Tryz.prog W base spare held 25 v d p) :
    ∃ wd a cap, ∃ xs : List Int, v = .agg #[.int .i64 wd, .slice a xs.length cap] ∧ RdI W (.slice a xs.length cap) xs := by
  obtain ⟨c0, c1, y0, y1, m, rfl, rfl, rfl, hy0, hy1⟩ := open_agg2 Tryz.underlying25 (by kernel_rfl) cells24 hv h
  obtain ⟨wd, e0, _, _⟩ := DataW.trod_int Tryz.underlying3 hy0
  obtain ⟨a, cap, xs, e1, hR⟩ := rd_of_trod hsp Tryz.underlying23 Tryz.underlying32 cells102 hy1
  simp at e0
  subst e0
  subst e1
  exact ⟨wd, a, cap, xs, rfl, hR⟩
set_option maxRecDepth 100000 in
/-- an air that came in -/
theorem air_of_trod {v : Value} {d : DataW H} {p : List MemPlace} {r : Reach} {b0 : Nat} (hv : Value.okWide Tryz.prog W r b0 29 v) (h : DataW.Trod enc Tryz.prog W base spare held 29 v d p) :
    ∃ wind voice : Int, v = .agg #[.int .i64 wind, .int .i64 voice] := by
  obtain ⟨c0, c1, y0, y1, m, rfl, rfl, rfl, hy0, hy1⟩ := open_agg2 Tryz.underlying29 (by kernel_rfl) cells27 hv h
  obtain ⟨x, e0, _, _⟩ := DataW.trod_int Tryz.underlying27 hy0
  obtain ⟨y, e1, _, _⟩ := DataW.trod_int Tryz.underlying3 hy1
  simp at e0 e1
  subst e0
  subst e1
  exact ⟨x, y, rfl⟩
theorem lt_of_trod {t : TypeId} {v : Value} {d : DataW H} {p : List MemPlace} (h : DataW.Trod enc Tryz.prog W 0 spare held t v d p) : ∀ x ∈ p, x.block < W.heap.size := by obtain ⟨m, hm⟩ := h; exact DataW.trod_lt m _ _ _ hm
end

theorem cells5 : Tryz.prog.cellsOf 5 = 1 := by kernel_rfl
section
variable {H : Type} {enc : TypeId × Value → H} {W : World} {base : Nat} {spare : Nat → Bool} {held : Bool}
set_option maxRecDepth 100000 in
/-- bytes that came in -/
theorem rdB_of_trod {t e : TypeId} (hsp : ∀ b, spare b = true) (ht : Tryz.prog.underlying t = some (.slice e)) (he : Tryz.prog.underlying e = some (.int .u8)) (hc : Tryz.prog.cellsOf e = 1) {fuel : Nat} {v : Value} {x : DataW H × List MemPlace}
    (h : DataW.trod enc Tryz.prog W base spare held fuel t [v] = some x) : ∃ ma n mc, v = .slice ma n mc ∧ RdB W ma n := by
  rcases open_ints ht he hc h with ⟨hcs, _⟩ | ⟨a, l, c, zs, hcs, _, hl, hm, hz, _, hcell, hwz⟩
  · injection hcs with hcs
    subst hcs
    exact ⟨none, 0, 0, rfl, by omega, fun h => absurd rfl h, fun h => absurd rfl h⟩
  · injection hcs with hcs
    subst hcs
    rw [hsp, if_pos rfl] at hz
    have hm' : l ≤ 9223372036854775807 := by have : maxLen = 9223372036854775807 := rfl; omega
    have key : l ≠ 0 → ∃ b off, a = ⟨b, off, none⟩ ∧ b < W.heap.size ∧ ∀ i, i < l → ∃ x : Int, 0 ≤ x ∧ x ≤ 255 ∧ W.cell? ⟨b, off + i, none⟩ = some (.int .u8 x) := fun hn => by
      obtain ⟨b, off, rfl, hc⟩ := ints_at hcell (by omega)
      refine ⟨b, off, rfl, ?_, fun i hi => ?_⟩
      · have := hc 0 (by omega)
        rcases Nat.lt_or_ge b W.heap.size with h' | h'
        · exact h'
        · simp [World.cell?, Array.getElem?_eq_none h'] at this
      · have hw : (Lit.int .u8 (zs.getD i 0)).wf = true := by
          have hi2 : i < zs.length := by omega
          rw [List.getD_eq_getElem?_getD, List.getElem?_eq_getElem hi2]
          exact hwz _ (List.getElem_mem hi2)
        have := bounds_u8 hw
        exact ⟨_, this.1, this.2, hc i (by omega)⟩
    refine ⟨some a, l, c, rfl, hm', fun hn mb mo e => ?_, fun hn => ?_⟩
    · obtain ⟨b, off, e2, h1, _⟩ := key hn
      rw [e2] at e
      injection e with e
      injection e with e
      omega
    · obtain ⟨b, off, e2, h1, h2⟩ := key hn
      exact ⟨b, off, by rw [e2], h1, h2⟩
end

end Go.Proofs.YtimedmkpenbmkaaGreat
