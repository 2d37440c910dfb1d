/- HearBack holds: for any numbers the law returns true, and what was passed in reads as before. No conditions. -/
import Derived.Test.YtimedmkpenbmkaaFr
import Derived.Test.YtimedmkpenbmkaaL4
namespace Go.Proofs.Ytimedmkpenbmkaa
open Go.ChangeShapes Go.WideShapes Go.ChangeAt Go.RowKit Go.Joins
set_option linter.unusedVariables false
set_option linter.unusedSimpArgs false

theorem cells5 : Try.prog.cellsOf 5 = 1 := by kernel_rfl
section
variable {H : Type} {enc : TypeId × Value → H} {W : World} {base : Nat} {spare : Nat → Bool} {held : Bool}
set_option maxRecDepth 100000 in
/-- bytes that came in -/
theorem rdB_of_trod {t e : TypeId} (hsp : ∀ b, spare b = true) (ht : Try.prog.underlying t = some (.slice e)) (he : Try.prog.underlying e = some (.int .u8)) (hc : Try.prog.cellsOf e = 1) {fuel : Nat} {v : Value} {x : DataW H × List MemPlace}
    (h : DataW.trod enc Try.prog W base spare held fuel t [v] = some x) : ∃ ma n mc, v = .slice ma n mc ∧ RdB W ma n := by
  rcases open_ints ht he hc h with ⟨hcs, _⟩ | ⟨a, l, c, zs, hcs, _, hl, hm, hz, _, hcell, hwz⟩
  · injection hcs with hcs
    subst hcs
    exact ⟨none, 0, 0, rfl, by omega, fun h => absurd rfl h, fun h => absurd rfl h⟩
  · injection hcs with hcs
    subst hcs
    rw [hsp, if_pos rfl] at hz
    have hm' : l ≤ 9223372036854775807 := by have : maxLen = 9223372036854775807 := rfl; omega
    have key : l ≠ 0 → ∃ b off, a = ⟨b, off, none⟩ ∧ b < W.heap.size ∧ ∀ i, i < l → ∃ x : Int, 0 ≤ x ∧ x ≤ 255 ∧ W.cell? ⟨b, off + i, none⟩ = some (.int .u8 x) := fun hn => by
      obtain ⟨b, off, rfl, hc⟩ := ints_at hcell (by omega)
      refine ⟨b, off, rfl, ?_, fun i hi => ?_⟩
      · have := hc 0 (by omega)
        rcases Nat.lt_or_ge b W.heap.size with h' | h'
        · exact h'
        · simp [World.cell?, Array.getElem?_eq_none h'] at this
      · have hw : (Lit.int .u8 (zs.getD i 0)).wf = true := by
          have hi2 : i < zs.length := by omega
          rw [List.getD_eq_getElem?_getD, List.getElem?_eq_getElem hi2]
          exact hwz _ (List.getElem_mem hi2)
        have := bounds_u8 hw
        exact ⟨_, this.1, this.2, hc i (by omega)⟩
    refine ⟨some a, l, c, rfl, hm', fun hn mb mo e => ?_, fun hn => ?_⟩
    · obtain ⟨b, off, e2, h1, _⟩ := key hn
      rw [e2] at e
      injection e with e
      injection e with e
      omega
    · obtain ⟨b, off, e2, h1, h2⟩ := key hn
      exact ⟨b, off, by rw [e2], h1, h2⟩
end

set_option maxHeartbeats 1000000 in
set_option maxRecDepth 100000 in
theorem HearBack_lifted (os : Os) (started : os.Started) (H : Type) (enc : TypeId × Value → H) :
    ReturnsInHanded {} Try.checked os 11 .any (Rows.hearBackSpec.pre6 enc Try.prog Try.f11 Rows.hearBackRow.domain false) (Rows.hearBackSpec.post enc Try.prog Try.f11 false true false false) := by
  refine returnsInHanded_of_change (C := Try.checked) Try.own started (by kernel_rfl) Try.func11
    (ChangeSpec.witness6 (enc := enc) (C := Try.checked) false ⟨#[], #[.slice none 0 0], []⟩ 8 (by kernel_rfl) (by kernel_rfl) (by kernel_rfl) (by kernel_rfl)) ?_
  intro W base args ds gs before hval0 hW hcnd _
  have hval : ∀ (j : Nat) t v, Try.f11.params[j]? = some t → args[j]? = some v → Value.okWide Try.prog W .any base t v := hval0
  have hW' := hW
  obtain ⟨p, q, hA0, hV, rfl, hfz, hnd⟩ := hW
  have hA : DataW.TrodAll enc Try.prog W 0 (fun _ => true) true Try.f11.params.toList args.toList ds p := hA0
  rw [Try.params11] at hA hval
  obtain ⟨v0, vs0, d0, ds0, p0, q0, hargs, rfl, rfl, h0, r0⟩ := trodAll_cons hA
  obtain ⟨rfl, rfl, rfl⟩ := trodAll_nil r0
  obtain rfl : args = #[v0] := by cases args; simp_all
  obtain ⟨rfl, rfl⟩ := trodVars_none hV
  have lt0 := lt_of_trod h0
  have k0 := h0
  obtain ⟨m0, hm0⟩ := h0
  obtain ⟨x0, x1, x2, rfl⟩ := okWide_slice Try.underlying84 (hval 0 84 v0 rfl rfl)
  obtain ⟨ma, n, mc, e0, hM⟩ := rdB_of_trod (fun _ => rfl) Try.underlying84 Try.underlying5 cells5 hm0
  clear hA0 hval0
  injection e0 with q1 q2 q3
  subst q1 q2 q3
  refine (HearBack_any _ _ _ W hM).mono fun e W' ⟨he, bel⟩ => ?_
  subst he
  exact ⟨_, rfl, _, _, _, [], _, [], hW', trodAll_mk1 (shut_bool Try.underlying4 _), (trodAll_cons_mk (Below.trod Try.laidOut (by kernel_rfl) (of_decide_eq_true (by kernel_rfl)) k0 bel lt0) trodAll_mk0), rfl, bel.frame _, fun h => by cases h⟩

theorem HearBack_holds : Rows.HearBackSaid :=
  OpenClaim.holds_of_wide 11 Try.f11 rfl rfl rfl rfl rfl rfl rfl ⟨rfl, rfl, rfl, rfl, rfl⟩ rfl rfl rfl rfl rfl (by kernel_rfl) Try.func11 (by kernel_rfl)
    (of_decide_eq_true (by kernel_rfl)) (by unfold Func.isWrapper; first | (rw [if_pos (by decide +kernel)]; kernel_rfl) | (rw [if_neg (by decide +kernel)]; exact ⟨rfl, rfl⟩))
    (fun os started H enc _ => HearBack_lifted os started H enc)
end Go.Proofs.Ytimedmkpenbmkaa
