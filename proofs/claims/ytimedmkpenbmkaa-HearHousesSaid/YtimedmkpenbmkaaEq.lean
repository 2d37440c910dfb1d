import Derived.Test.YtimedmkpenbmkaaDe
import Derived.Test.YtimedmkpenbmkaaCd
import Derived.Test.YtimedmkpenbmkaaRh
namespace Go.Proofs.Ytimedmkpenbmkaa
open Go.RowKit Go.Shelf
set_option linter.unusedSimpArgs false
set_option linter.unusedVariables false

set_option maxHeartbeats 2000000 in
set_option maxRecDepth 100000 in
theorem Equal_dir (u v : Value) (xs ys : List Int) (w : World) (hu : RdI w u xs) (hv : RdI w v ys) :
    Calls Try.prog 104 #[u, v] w fun e w' => e = .returned (.bool (decide (xs = ys))) ∧ Below w.heap.size w w' := by
  obtain ⟨lx, a, c, rfl, h1⟩ := hu
  obtain ⟨ly, a2, c2, rfl, h2⟩ := hv
  by_cases hlen : xs.length = ys.length
  · have hle : ((xs.length : Int) != (ys.length : Int)) = false := by simp [hlen]
    have H1 := Lib.hid h1
    have H2 := Lib.hid h2
    have HLEN := Lib.hid hlen
    have hx9 : xs.length ≤ 9223372036854775807 := lx
    clear h1 h2 hlen
    go_enter Try.func104, Try.ntmps104
    go_wp2
    go_loopg [13] xs.length (fun g i wi => ∃ k : Nat, g + k = xs.length ∧ i = .int .i64 k ∧ eqTo xs ys k ∧ Below w.heap.size w wi)
    case atStart => exact ⟨0, by omega, rfl, fun j hj => by omega, Below.refl _ _⟩
    case round =>
      obtain ⟨k, hk, rfl, hE, hB⟩ := hrel
      have HE := Lib.hid hE
      have HB := Lib.hid hB
      by_cases hlt : k < xs.length
      · have hlt' : (k : Int) < xs.length := by omega
        have hx : xs ≠ [] := by rintro rfl; simp at hlt
        have hy : ys ≠ [] := fun e => by have := HLEN.out; rw [e] at this; simp only [List.length_nil] at this; omega
        obtain ⟨b, o, rfl, hI⟩ := H1.out hx
        obtain ⟨b2, o2, rfl, hI2⟩ := H2.out hy
        have hlt2 : k < ys.length := by have := HLEN.out; omega
        have hlt2' : (k : Int) < ys.length := by omega
        have d1 := (hI.below hB hI.1).2 k hlt
        have d2 := (hI2.below hB hI2.1).2 k hlt2
        obtain ⟨x, hx1⟩ : ∃ x, x = xs.getD k 0 := ⟨_, rfl⟩
        obtain ⟨y, hy1⟩ : ∃ y, y = ys.getD k 0 := ⟨_, rfl⟩
        rw [← hx1] at d1
        rw [← hy1] at d2
        have HX := Lib.hid hx1
        have HY := Lib.hid hy1
        clear hI hI2 hx hy hE hB hx1 hy1
        by_cases hxy : x = y
        · subst hxy
          go_wp2
          go_quiet (fail)
          go_wp2
          go_roundg (gk - 1)
          case rel => exact ⟨k + 1, by omega, by simp, fun j hj => by
            rcases Nat.lt_succ_iff_lt_or_eq.1 hj with hj | rfl
            · exact HE.out j hj
            · rw [← HX.out, ← HY.out], below_drewN' HB.out _⟩
          case measure => omega
        · have hxy' : (x != y) = true := by simpa using hxy
          have HN := Lib.hid hxy
          clear hxy
          go_wp2
          go_quiet (fail)
          go_wp2
          go_ret
          have hne : xs ≠ ys := fun e => HN.out (by rw [HX.out, HY.out, e])
          exact ⟨by simp [hne], below_drewN' HB.out _⟩
      · have hkk : k = xs.length := by omega
        subst hkk
        clear hE hB
        go_wp2
        go_ret
        have heq : xs = ys := by
          apply List.ext_getElem HLEN.out
          intro i h1 h2
          have := HE.out i h1
          simpa [List.getElem?_eq_getElem h1, List.getElem?_eq_getElem h2] using this
        exact ⟨by simp [heq], HB.out⟩
  · have hle : ((xs.length : Int) != (ys.length : Int)) = true := by simp; omega
    go_enter Try.func104, Try.ntmps104
    go_wp2
    go_ret
    have : xs ≠ ys := fun e => hlen (by rw [e])
    exact ⟨by simp [this], Below.refl _ _⟩

set_option maxHeartbeats 1000000 in
theorem Like_dir (u v : Value) (xs ys : List Int) (q : Bool) (hq : decide (xs = ys) = q) (w : World) (hu : RdI w u xs) (hv : RdI w v ys) :
    Calls Try.prog 44 #[u, v] w fun e w' => e = .returned (.bool q) ∧ Below w.heap.size w w' := by
  have HE := Lib.hid (Equal_dir u v xs ys w hu hv)
  rw [hq] at HE
  clear hq hu hv
  go_enter Try.func44, Try.ntmps44
  go_wp2_with (go_at_call 104; refine HE.out.mono ?_; rintro e w1 ⟨rfl, hB⟩; have HB := Lib.hid hB; clear hB)
  go_ret
  exact ⟨rfl, HB.out⟩


/-- whether a house hears a stand, as the reference tells it -/
def hearsR (wd : Int) (xs : List Int) (wind voice s h : Int) : Bool := decide (needE wd xs wind s h = 0) && decide (needV wd xs wind s h ≤ voice)
set_option maxHeartbeats 1000000 in
theorem refHears_any (wd wind voice s h : Int) (a : Option Addr) (cap : Nat) (xs : List Int) (hl : xs.length ≤ 1000000) (w : World) (hR : RdI w (.slice a xs.length cap) xs) :
    Calls Try.prog 42 #[.agg #[.int .i64 wd, .slice a xs.length cap], .int .i64 wind, .int .i64 voice, .int .i64 s, .int .i64 h] w fun e w' => e = .returned (.bool (hearsR wd xs wind voice s h)) ∧ Below w.heap.size w w' := by
  have HB := Lib.hid (below1 w (.cells #[.int .i64 wd, .slice a xs.length cap] 33))
  have hx : (w.alloc (.cells #[.int .i64 wd, .slice a xs.length cap] 33)).heap[w.heap.size]? = some (.cells #[.int .i64 wd, .slice a xs.length cap] 33 (0, 0)) := heap_alloc_last _ _
  obtain ⟨k0, k1⟩ := blk_cells2 hx
  have HR := Lib.hid (refNeed_any wd wind s h a cap xs hl _ (hR.below HB.out))
  obtain ⟨nv, hnv⟩ : ∃ nv, needV wd xs wind s h = nv := ⟨_, rfl⟩
  obtain ⟨ne, hne⟩ : ∃ ne, needE wd xs wind s h = ne := ⟨_, rfl⟩
  have HQ : Hid (hearsR wd xs wind voice s h = (decide (ne = 0) && decide (nv ≤ voice))) := Lib.hid (by unfold hearsR; rw [hnv, hne])
  rw [hnv, hne] at HR
  clear hx hR hnv hne
  go_enter Try.func42, Try.ntmps42
  go_wp2_with fail
  refine HR.out.mono ?_
  rintro e w1 ⟨rfl, hB⟩
  have HB1 := Lib.hid (join HB.out hB)
  clear hB HR k0 k1
  by_cases h0 : ne = 0
  · subst h0
    go_wp2
    go_ret
    exact ⟨by rw [HQ.out]; simp, HB1.out⟩
  · have d : (ne == 0) = false := by simpa using h0
    have HN := Lib.hid h0
    clear h0
    go_wp2
    go_ret
    exact ⟨by rw [HQ.out]; simp [HN.out], HB1.out⟩
end Go.Proofs.Ytimedmkpenbmkaa
