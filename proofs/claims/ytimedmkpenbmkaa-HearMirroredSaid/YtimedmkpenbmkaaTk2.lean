import Derived.Test.YtimedmkpenbmkaaTk
import Derived.Test.YtimedmkpenbmkaaT4
import Derived.RegionTactic
import Derived.RegionTactic
import Derived.RegionTactic
namespace Go.Proofs.Ytimedmkpenbmkaa
open Go.RowKit Go.Shelf
set_option linter.unusedSimpArgs false
set_option linter.unusedVariables false

/-- the steps of a way: what is wrong, and what they need altogether -/
def tkAll (t : Hr.Town) (wind : Int) : Nat → Int → List Int → Int × Int
  | _, s, [] => (0, s)
  | p, s, q :: r => if stepZ t wind p q = 0 then (8, s) else tkAll t wind q.toNat (s + stepZ t wind p q) r
theorem stepZ_bd {t : Hr.Town} (ok : t.Ok) {wind : Int} {p : Nat} (hp : p < t.len) {q : Int} (h : stepZ t wind p q ≠ 0) : 0 ≤ q ∧ q.toNat < t.len ∧ 1 ≤ stepZ t wind p q ∧ stepZ t wind p q ≤ 5 := by
  unfold stepZ at *
  by_cases hq : (p : Int) < 0 ∨ (t.len : Int) ≤ p ∨ q < 0 ∨ (t.len : Int) ≤ q
  · rw [if_pos hq] at h; exact absurd rfl h
  · rw [if_neg hq] at h ⊢
    rw [Int.toNat_natCast] at h ⊢
    have := Hr.stepI_nn ok (wind := wind) hp (show q.toNat < t.len by omega)
    omega

def FtPost (t : Hr.Town) (wind voice : Int) (b o cap r : Nat) (cf : Value) (KB AB TB p : Nat) (L : List Int) (w : World) (e : Ending) (w' : World) : Prop :=
  e = .returned (.int .i64 (tkAll t wind p 0 L).1) ∧ ((tkAll t wind p 0 L).1 = 0 → ∃ p', TkW t wind voice b o cap r cf KB AB TB p' (tkAll t wind p 0 L).2 w') ∧ Hold (fun k => k ≠ AB ∧ k ≠ TB) w w'
set_option maxHeartbeats 1000000 in
set_option maxRecDepth 100000 in
theorem firstT_any (t : Hr.Town) (hok : t.Ok) (wind voice : Int) (hw0 : 0 ≤ wind) (hw4 : wind ≤ 4) (b o cap r : Nat) (f1 : Fn) (f2 f3 : Array Value) (KB AB TB p : Nat) (hp : p < t.len) (wb wo wc : Nat) (L : List Int) (hL : L.length ≤ 1000)
    (w : World) (hT : TkW t wind voice b o cap r (.func f1 f2 f3) KB AB TB p 0 w) (hH : Ints w wb wo L) (hne : wb ≠ AB ∧ wb ≠ TB) :
    Calls Try.prog 130 #[.slice (some ⟨wb, wo, none⟩) L.length wc, .func (.func 131) #[] #[.pointer (some ⟨KB, 0, none⟩), .pointer (some ⟨AB, 0, none⟩), .pointer (some ⟨TB, 0, none⟩)]] w (FtPost t wind voice b o cap r (.func f1 f2 f3) KB AB TB p L w) := by
  have HT := Lib.hid hT
  have HH := Lib.hid hH
  have hhl := hH.1
  clear hT hH
  go_enter Try.func130, Try.ntmps130
  go_wp2_with fail
  go_loopw [6, 7, 10] (fun _ _ i wr => ∃ (k p' : Nat) (s' : Int), k ≤ L.length ∧ i = .int .i64 k ∧ tkAll t wind p 0 L = tkAll t wind p' s' (L.drop k) ∧ p' < t.len ∧ 0 ≤ s' ∧ s' ≤ 5 * k ∧ TkW t wind voice b o cap r (.func f1 f2 f3) KB AB TB p' s' wr ∧ Hold (fun k => k ≠ AB ∧ k ≠ TB) w wr) (fun _ _ i _ => L.length - (intOf i).toNat)
  case atStart => exact ⟨0, p, 0, Nat.zero_le _, rfl, rfl, hp, by omega, by omega, HT.out, Hold.refl _ _⟩
  case round =>
    obtain ⟨k, p', s', hk, rfl, hf, hp', hs0, hs1, hW, hg⟩ := hrel
    have HF := Lib.hid hf
    have HG := Lib.hid hg
    have HW := Lib.hid hW
    by_cases hlt : k < L.length
    · obtain ⟨x, hx⟩ : ∃ x, L.getD k 0 = x := ⟨_, rfl⟩
      have hcell : wr.cell? ⟨wb, wo + k, none⟩ = some (.int .i64 x) := by rw [← hx]; exact (hg.cell (p := ⟨wb, wo + k, none⟩) hne hhl).trans (HH.out.2 k hlt)
      have hlb : wb < wr.heap.size := Nat.lt_of_lt_of_le hhl hg.size
      have hdrop : L.drop k = x :: L.drop (k + 1) := by
        rw [List.drop_eq_getElem_cons hlt, ← hx]; simp [List.getElem?_eq_getElem hlt]
      have HDR := Lib.hid hdrop
      have hlt' : (k : Int) < L.length := by omega
      have hask := askT_any t hok wind voice hw0 hw4 b o cap r f1 f2 f3 KB AB TB p' hp' s' hs0 (by omega) x wr HW.out
      have HASK := Lib.hid hask
      have hbd := stepZ_bd hok (wind := wind) hp' (q := x)
      have HBD := Lib.hid hbd
      clear hx hf hg hW hdrop hask hbd
      go_wp2_with fail
      refine HASK.out.mono ?_
      rintro e w5 ⟨h1, h2, h3⟩
      have HG5 := Lib.hid (HG.out.trans h3)
      by_cases h0 : stepZ t wind p' x = 0
      · obtain rfl := h1 h0
        have hq : tkAll t wind p 0 L = (8, s') := by rw [HF.out, HDR.out, tkAll, if_pos h0]
        have HQ := Lib.hid hq
        clear h0 h1 h2 h3 hq
        go_wp2
        go_ret
        exact ⟨by rw [HQ.out]; rfl, (fun h => by rw [HQ.out] at h; cases h), HG5.out⟩
      · obtain ⟨rfl, h4⟩ := h2 h0
        have hq : tkAll t wind p 0 L = tkAll t wind x.toNat (s' + stepZ t wind p' x) (L.drop (k + 1)) := by rw [HF.out, HDR.out, tkAll, if_neg h0]
        obtain ⟨b1, b2, b3, b4⟩ := HBD.out h0
        have HQ := Lib.hid hq
        have H4 := Lib.hid h4
        clear h0 h1 h2 h3 hq h4
        go_wp2
        go_roundw
        case rel => exact ⟨k + 1, x.toNat, s' + stepZ t wind p' x, by omega, by simp, HQ.out, b2, by omega, by push_cast; omega, H4.out, HG5.out⟩
        case measure => simp [intOf]; omega
    · have hkk : k = L.length := by omega
      clear hf hg hW
      subst hkk
      have hq : tkAll t wind p 0 L = (0, s') := by rw [HF.out, List.drop_length]; rfl
      have HQ := Lib.hid hq
      clear hq
      go_wp2
      go_ret
      exact ⟨by rw [HQ.out]; rfl, fun _ => ⟨p', by rw [HQ.out]; exact HW.out⟩, HG.out⟩

theorem TkW.drew {t : Hr.Town} {wind voice : Int} {b o cap r : Nat} {cf : Value} {KB AB TB p : Nat} {s : Int} {W : World} (h : TkW t wind voice b o cap r cf KB AB TB p s W) : TkW t wind voice b o cap r cf KB AB TB p s W.drew :=
  ⟨⟨h.wk.c0, h.wk.c1, h.wk.c2, h.wk.c3, h.wk.c4, h.wk.c5, ⟨h.wk.ints.1, h.wk.ints.2⟩, h.wk.dir⟩, h.here, h.tot, h.ne⟩
theorem TkW.new1 {t : Hr.Town} {wind voice : Int} {b o cap r : Nat} {cf : Value} {KB p : Nat} {W : World} (h : WkBox W t.wide wind voice b o cap r cf t.plots KB) : TkW t wind voice b o cap r cf KB W.heap.size (W.heap.size + 1) p 0 ((W.alloc (.cells #[.int .i64 p] 3)).alloc (.cells #[.int .i64 0] 3)) := by
  obtain ⟨l1, l2, l3⟩ := h.lt
  have h1 := heap_alloc_last W (.cells #[.int .i64 p] 3)
  have h2 := heap_alloc_last (W.alloc (.cells #[.int .i64 p] 3)) (.cells #[.int .i64 0] 3)
  rw [World.size_alloc] at h2
  exact ⟨h.below (al (below1 _ _) _), (Below.heap_alloc _ _ _ (by simp)).trans h1, h2, by omega, by omega, by omega, by omega, by omega, by omega, by omega⟩
theorem TkW.new2 {t : Hr.Town} {wind voice : Int} {b o cap r : Nat} {cf : Value} {KB p : Nat} {W : World} (h : WkBox W t.wide wind voice b o cap r cf t.plots KB) : TkW t wind voice b o cap r cf KB (W.heap.size + 1) W.heap.size p 0 ((W.alloc (.cells #[.int .i64 0] 3)).alloc (.cells #[.int .i64 p] 3)) := by
  obtain ⟨l1, l2, l3⟩ := h.lt
  have h1 := heap_alloc_last W (.cells #[.int .i64 0] 3)
  have h2 := heap_alloc_last (W.alloc (.cells #[.int .i64 0] 3)) (.cells #[.int .i64 p] 3)
  rw [World.size_alloc] at h2
  exact ⟨h.below (al (below1 _ _) _), h2, (Below.heap_alloc _ _ _ (by simp)).trans h1, by omega, by omega, by omega, by omega, by omega, by omega, by omega⟩
theorem ints_tail {w : World} {b o : Nat} {x : Int} {xs : List Int} (h : Ints w b o (x :: xs)) : Ints w b (o + 1) xs := ⟨h.1, fun i hi => by
  have := h.2 (i + 1) (by simp; omega)
  rw [show o + (i + 1) = o + 1 + i by omega] at this
  simpa using this⟩
theorem firstT_gen (t : Hr.Town) (hok : t.Ok) (wind voice : Int) (hw0 : 0 ≤ wind) (hw4 : wind ≤ 4) (b o cap r : Nat) (f1 : Fn) (f2 f3 : Array Value) (KB AB TB p : Nat) (hp : p < t.len) (ad : Option Addr) (wb wo wc : Nat) (L : List Int) (hL : L.length ≤ 1000) (had : L = [] ∨ ad = some ⟨wb, wo, none⟩)
    (w : World) (hT : TkW t wind voice b o cap r (.func f1 f2 f3) KB AB TB p 0 w) (hH : Ints w wb wo L) (hne : wb ≠ AB ∧ wb ≠ TB) (R : Int × Int) (hR : R = tkAll t wind p 0 L) :
    Calls Try.prog 130 #[.slice ad L.length wc, .func (.func 131) #[] #[.pointer (some ⟨KB, 0, none⟩), .pointer (some ⟨AB, 0, none⟩), .pointer (some ⟨TB, 0, none⟩)]] w fun e w' =>
      e = .returned (.int .i64 R.1) ∧ Hid (R.1 = 0 → w'.cell? ⟨TB, 0, none⟩ = some (.int .i64 R.2)) ∧ Hid (Hold (fun k => k ≠ AB ∧ k ≠ TB) w w') := by
  subst hR
  have tot : ∀ {p' : Nat} {s : Int} {W : World}, TkW t wind voice b o cap r (.func f1 f2 f3) KB AB TB p' s W → W.cell? ⟨TB, 0, none⟩ = some (.int .i64 s) := fun h => by simp [World.cell?, h.tot]
  rcases had with rfl | rfl
  · refine (firstQ_none ad wc _ w).mono ?_
    rintro e w' ⟨rfl, rfl⟩
    exact ⟨rfl, Lib.hid (fun _ => tot hT), Lib.hid (Hold.refl _ _)⟩
  · refine (firstT_any t hok wind voice hw0 hw4 b o cap r f1 f2 f3 KB AB TB p hp wb wo wc L hL w hT hH hne).mono ?_
    rintro e w' ⟨h1, h2, h3⟩
    exact ⟨h1, Lib.hid (fun h => by obtain ⟨p', h⟩ := h2 h; exact tot h), Lib.hid h3⟩

set_option maxHeartbeats 1000000 in
set_option maxRecDepth 100000 in
theorem takes_no (t : Hr.Town) (hok : t.Ok) (wind voice : Int) (b o cap r : Nat) (f1 : Fn) (f2 f3 : Array Value) (wb wo wc : Nat) (q : Int) (L : List Int) (hL : L.length ≤ 1000) (hp : plotErr t.plots q 0 ≠ 0)
    (w : World) (hI : Ints w b o t.plots) (hH : Ints w wb wo (q :: L)) :
    Calls Try.prog 97 #[.agg #[.int .i64 t.wide, .slice (some ⟨b, o, none⟩) t.plots.length cap, .int .i64 wind, .int .i64 voice, .map (some r), .func f1 f2 f3], .slice (some ⟨wb, wo, none⟩) (L.length + 1) wc] w fun e w' =>
      e = .returned (.tuple #[.int .i64 0, .int .i64 8]) ∧ Below w.heap.size w w' := by
  obtain ⟨W1, hW1⟩ : ∃ W1, W1 = w.alloc (.cells #[.int .i64 t.wide, .slice (some ⟨b, o, none⟩) t.plots.length cap, .int .i64 wind, .int .i64 voice, .map (some r), .func f1 f2 f3] 119) := ⟨_, rfl⟩
  have hB : Below w.heap.size w W1 := by rw [hW1]; exact below1 _ _
  have hx : W1.heap[w.heap.size]? = some (.cells #[.int .i64 t.wide, .slice (some ⟨b, o, none⟩) t.plots.length cap, .int .i64 wind, .int .i64 voice, .map (some r), .func f1 f2 f3] 119 (0, 0)) := by rw [hW1]; exact heap_alloc_last _ _
  obtain ⟨c0, c1, c2, c3, c4, c5⟩ := voice_cells hx
  have hq0 := (hH.below hB hH.1).2 0 (by simp)
  have hz : (q :: L).getD 0 0 = q := rfl
  rw [hz, Nat.add_zero] at hq0
  have HPL := Lib.hid (fun W hB2 => plotError_any t.wide b o cap t.plots W q 0 (by have : t.plots.length = t.len := rfl; have := hok.n30; omega) (hI.below (join hB hB2) hI.1))
  generalize plotErr t.plots q 0 = E at hp HPL
  have hE : (E != 0) = true := by simpa using hp
  clear hp
  have hlw : w.heap.size < W1.heap.size := by rw [hW1]; simp
  have hwb : wb < W1.heap.size := by have := hH.1; rw [hW1]; simp; omega
  have HB := Lib.hid hB
  have HI := Lib.hid hI
  have HH := Lib.hid hH
  have HX := Lib.hid hx
  clear hI hH hz hB hx
  have hn0 : (0 : Int) < L.length + 1 := by omega
  go_enter Try.func97, Try.ntmps97
  go_wp2_with fail
  rw [← hW1]
  clear hW1
  refine Rs.region_det 7 [[], [0], [], [2], [2, 3], [0, 1, 2, 3, 4], [0, 1, 2, 3, 4, 5]] [some 9, some 10, some 11, some 12, some 13, some 14, some 15]
    (fun i => [.pointer (some ⟨w.heap.size, 0, none⟩), .agg #[.int .i64 t.wide, .slice (some ⟨b, o, none⟩) t.plots.length cap], .slice (some ⟨wb, wo, none⟩) (L.length + 1) wc, .pointer (some ⟨wb, wo, none⟩), .int .i64 q, .int .i64 E, .bool true].getD i undef) (by kernel_rfl) (by kernel_rfl) rfl ?_ ?_
  · refine ⟨.plain rfl ?_, .plain rfl ?_, .plain rfl ?_, .plain rfl ?_, .plain rfl ?_, .on rfl (fun w' hG => Rs.GrowR.call (f := 84) (args := #[.agg #[.int .i64 t.wide, .slice (some ⟨b, o, none⟩) t.plots.length cap], .int .i64 q, .int .i64 0]) ?_ (HPL.out w' hG)), .plain rfl ?_, trivial⟩
    case refine_6 => simp [go_sem, Rs.look]
    all_goals
      intro w' hG
      obtain ⟨hcG, hfG⟩ := kept hG
      simp [go_sem, Rs.look, hcG, hfG, c0, c1, hlw, hwb, hq0, hn0, hE]
  · intro w' hG
    have HG := Lib.hid hG
    clear hG
    simp only [Rs.canon, Rs.dstOf, List.range_succ, List.range_zero, List.nil_append, List.cons_append, List.foldl_cons, List.foldl_nil, List.drop_succ_cons, List.drop_zero, List.drop_nil, List.getElem?_toArray, List.getElem?_cons_succ, List.getElem?_cons_zero, Option.bind_some, Act.put, List.getD_cons_succ, List.getD_cons_zero, List.setIfInBounds_toArray, List.set_cons_succ, List.set_cons_zero]
    clear c0 c1 c2 c3 c4 c5 hq0 HPL
    go_wp2
    go_ret2
    exact ⟨rfl, join HB.out HG.out⟩

set_option maxHeartbeats 1000000 in
set_option maxRecDepth 100000 in
theorem takes_yes (t : Hr.Town) (hok : t.Ok) (wind voice : Int) (hw0 : 0 ≤ wind) (hw4 : wind ≤ 4) (b o cap r : Nat) (f1 : Fn) (f2 f3 : Array Value) (wb wo wc : Nat) (p : Nat) (hpl : p < t.len) (L : List Int) (hL : L.length ≤ 1000) (hcap : L.length + 1 ≤ wc) (hp : plotErr t.plots p 0 = 0)
    (w : World) (hI : Ints w b o t.plots) (hH : Ints w wb wo ((p : Int) :: L)) (hD : DirMap w r) :
    Calls Try.prog 97 #[.agg #[.int .i64 t.wide, .slice (some ⟨b, o, none⟩) t.plots.length cap, .int .i64 wind, .int .i64 voice, .map (some r), .func f1 f2 f3], .slice (some ⟨wb, wo, none⟩) (L.length + 1) wc] w fun e w' =>
      e = .returned (.tuple #[.int .i64 (if (tkAll t wind p 0 L).1 = 0 then (tkAll t wind p 0 L).2 else 0), .int .i64 (tkAll t wind p 0 L).1]) ∧ Below w.heap.size w w' := by
  have HD := Lib.hid hD
  have hrl := dir_lt hD
  clear hD
  obtain ⟨R, hR⟩ : ∃ R, R = tkAll t wind p 0 L := ⟨_, rfl⟩
  rw [← hR]
  have HR := Lib.hid hR
  clear hR
  obtain ⟨q, hqp⟩ : ∃ q : Int, q = p := ⟨_, rfl⟩
  rw [← hqp] at hH hp
  obtain ⟨W1, hW1⟩ : ∃ W1, W1 = w.alloc (.cells #[.int .i64 t.wide, .slice (some ⟨b, o, none⟩) t.plots.length cap, .int .i64 wind, .int .i64 voice, .map (some r), .func f1 f2 f3] 119) := ⟨_, rfl⟩
  have hB : Below w.heap.size w W1 := by rw [hW1]; exact below1 _ _
  have hx : W1.heap[w.heap.size]? = some (.cells #[.int .i64 t.wide, .slice (some ⟨b, o, none⟩) t.plots.length cap, .int .i64 wind, .int .i64 voice, .map (some r), .func f1 f2 f3] 119 (0, 0)) := by rw [hW1]; exact heap_alloc_last _ _
  obtain ⟨c0, c1, c2, c3, c4, c5⟩ := voice_cells hx
  have hq0 := (hH.below hB hH.1).2 0 (by simp)
  have hz : (q :: L).getD 0 0 = q := rfl
  rw [hz, Nat.add_zero] at hq0
  have HPL := Lib.hid (fun W hB2 => plotError_any t.wide b o cap t.plots W q 0 (by have : t.plots.length = t.len := rfl; have := hok.n30; omega) (hI.below (join hB hB2) hI.1))
  rw [hp] at HPL
  clear hp
  have hlw : w.heap.size < W1.heap.size := by rw [hW1]; simp
  have hwb : wb < W1.heap.size := by have := hH.1; rw [hW1]; simp; omega
  have HB := Lib.hid hB
  have HI := Lib.hid hI
  have HH := Lib.hid hH
  have HX := Lib.hid hx
  clear hI hH hz hB hx
  have hn0 : (0 : Int) < L.length + 1 := by omega
  go_enter Try.func97, Try.ntmps97
  go_wp2_with fail
  rw [← hW1]
  clear hW1
  refine Rs.region_det 7 [[], [0], [], [2], [2, 3], [0, 1, 2, 3, 4], [0, 1, 2, 3, 4, 5]] [some 9, some 10, some 11, some 12, some 13, some 14, some 15]
    (fun i => [.pointer (some ⟨w.heap.size, 0, none⟩), .agg #[.int .i64 t.wide, .slice (some ⟨b, o, none⟩) t.plots.length cap], .slice (some ⟨wb, wo, none⟩) (L.length + 1) wc, .pointer (some ⟨wb, wo, none⟩), .int .i64 q, .int .i64 0, .bool false].getD i undef) (by kernel_rfl) (by kernel_rfl) rfl ?_ ?_
  · refine ⟨.plain rfl ?_, .plain rfl ?_, .plain rfl ?_, .plain rfl ?_, .plain rfl ?_, .on rfl (fun w' hG => Rs.GrowR.call (f := 84) (args := #[.agg #[.int .i64 t.wide, .slice (some ⟨b, o, none⟩) t.plots.length cap], .int .i64 q, .int .i64 0]) ?_ (HPL.out w' hG)), .plain rfl ?_, trivial⟩
    case refine_6 => simp [go_sem, Rs.look]
    all_goals
      intro w' hG
      obtain ⟨hcG, hfG⟩ := kept hG
      simp [go_sem, Rs.look, hcG, hfG, c0, c1, hlw, hwb, hq0, hn0]
  · intro w' hG
    have HG := Lib.hid hG
    clear hG
    simp only [Rs.canon, Rs.dstOf, List.range_succ, List.range_zero, List.nil_append, List.cons_append, List.foldl_cons, List.foldl_nil, List.drop_succ_cons, List.drop_zero, List.drop_nil, List.getElem?_toArray, List.getElem?_cons_succ, List.getElem?_cons_zero, Option.bind_some, Act.put, List.getD_cons_succ, List.getD_cons_zero, List.setIfInBounds_toArray, List.set_cons_succ, List.set_cons_zero]
    have hq1 := hq0
    clear c0 c1 c2 c3 c4 c5 HPL
    obtain ⟨hcG, hfG⟩ := kept HG.out
    have hwb' : wb < w'.heap.size := Nat.lt_of_lt_of_le hwb HG.out.size
    rw [← hcG _ _ hwb] at hq0
    clear hq1 hcG hfG
    go_wp2_with fail
    have hwk : WkBox w' t.wide wind voice b o cap r (.func f1 f2 f3) t.plots w.heap.size := by
      obtain ⟨d0, d1, d2, d3, d4, d5⟩ := voice_cells ((HG.out.block _ hlw).trans HX.out)
      have hB := join HB.out HG.out
      exact ⟨d0, d1, d2, d3, d4, d5, HI.out.below hB HI.out.1, (hB.block r hrl).trans HD.out⟩
    subst hqp
    have HN1 := Lib.hid (TkW.new1 (p := p) hwk).drew
    have HN2 := Lib.hid (TkW.new2 (p := p) hwk).drew
    have HB' := Lib.hid (join HB.out HG.out)
    have hs' := HB'.out.size
    have FIN1 : Hid (∀ W, Hold (fun k => k ≠ w'.heap.size ∧ k ≠ w'.heap.size + 1) ((w'.alloc (.cells #[.int .i64 p] 3)).alloc (.cells #[.int .i64 0] 3)).drew W → Below w.heap.size w W) := Lib.hid (fun W h => join HB'.out ((Hold.trans (.of_below (Below.drew (al (below1 w' (.cells #[.int .i64 p] 3)) (.cells #[.int .i64 0] 3))) (fun _ _ h => h)) (h.mono (Kq := fun k => k < w'.heap.size) (fun k hk _ => by omega))).to_below (Nat.le_refl _)))
    have FIN2 : Hid (∀ W, Hold (fun k => k ≠ w'.heap.size + 1 ∧ k ≠ w'.heap.size) ((w'.alloc (.cells #[.int .i64 0] 3)).alloc (.cells #[.int .i64 p] 3)).drew W → Below w.heap.size w W) := Lib.hid (fun W h => join HB'.out ((Hold.trans (.of_below (Below.drew (al (below1 w' (.cells #[.int .i64 0] 3)) (.cells #[.int .i64 p] 3))) (fun _ _ h => h)) (h.mono (Kq := fun k => k < w'.heap.size) (fun k hk _ => by omega))).to_below (Nat.le_refl _)))
    have hbb := HH.out.1
    clear hwk
    go_region
    · go_wp2_with fail
      all_goals
        refine (firstT_gen t hok wind voice hw0 hw4 b o cap r f1 f2 f3 _ _ _ p hpl _ wb (wo + 1) _ L hL (by first | exact .inr rfl | exact .inl (List.length_eq_zero_iff.1 (by omega))) _ HN2.out (ints_tail ((HH.out.below HB'.out HH.out.1).below (show Below w'.heap.size w' _ from Below.drew (al (below1 w' _) _)) (by omega))) (by omega) R HR.out).mono ?_
        rintro e w5 ⟨rfl, h2, h3⟩
        by_cases h0 : R.1 = 0
        · have hc := h2.out h0
          have H0 := Lib.hid h0
          rw [h0]
          clear h2 h0
          go_wp2
          go_ret2
          exact ⟨rfl, FIN2.out _ h3.out⟩
        · have h0' : (R.1 != 0) = true := by simpa using h0
          have H0 := Lib.hid h0
          clear h2 h0
          go_wp2
          go_ret2
          exact ⟨rfl, FIN2.out _ h3.out⟩
    · go_wp2_with fail
      all_goals
        refine (firstT_gen t hok wind voice hw0 hw4 b o cap r f1 f2 f3 _ _ _ p hpl _ wb (wo + 1) _ L hL (by first | exact .inr rfl | exact .inl (List.length_eq_zero_iff.1 (by omega))) _ HN1.out (ints_tail ((HH.out.below HB'.out HH.out.1).below (show Below w'.heap.size w' _ from Below.drew (al (below1 w' _) _)) (by omega))) (by omega) R HR.out).mono ?_
        rintro e w5 ⟨rfl, h2, h3⟩
        by_cases h0 : R.1 = 0
        · have hc := h2.out h0
          have H0 := Lib.hid h0
          rw [h0]
          clear h2 h0
          go_wp2
          go_ret2
          exact ⟨rfl, FIN1.out _ h3.out⟩
        · have h0' : (R.1 != 0) = true := by simpa using h0
          have H0 := Lib.hid h0
          clear h2 h0
          go_wp2
          go_ret2
          exact ⟨rfl, FIN1.out _ h3.out⟩
end Go.Proofs.Ytimedmkpenbmkaa
