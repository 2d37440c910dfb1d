/- Contracts and mathematics that the last laws of layer 1 share. -/
import Derived.Test.YtimedmkpenbmkaaHo
import Derived.Test.YtimedmkpenbmkaaPh
import Derived.Test.YtimedmkpenbmkaaB5
import Derived.Test.YtimedmkpenbmkaaRs
import Derived.Laws.ResultCell
import Derived.Test.YtimedmkpenbmkaaB8
namespace Go.Proofs.Ytimedmkpenbmkaa
open Go.RowKit Go.Shelf
set_option linter.unusedSimpArgs false
set_option linter.unusedVariables false

/-- the stands that a house hears -/
def standsTo (t : Hr.Town) (wind voice : Int) (h k : Nat) : List Int := ((List.range k).filter fun s => hearB t wind voice h s).map fun (p : Nat) => (p : Int)
def standsOf (t : Hr.Town) (wind voice : Int) (h : Nat) : List Int := standsTo t wind voice h 30
theorem standsTo_yes {t : Hr.Town} {wind voice : Int} {h k : Nat} (e : hearB t wind voice h k = true) : standsTo t wind voice h (k + 1) = standsTo t wind voice h k ++ [(k : Int)] := by
  unfold standsTo; rw [List.range_succ, List.filter_append]; simp [e]
theorem standsTo_no {t : Hr.Town} {wind voice : Int} {h k : Nat} (e : hearB t wind voice h k = false) : standsTo t wind voice h (k + 1) = standsTo t wind voice h k := by
  unfold standsTo; rw [List.range_succ, List.filter_append]; simp [e]
theorem standsTo_len (t : Hr.Town) (wind voice : Int) (h k : Nat) : (standsTo t wind voice h k).length ≤ k := by
  unfold standsTo
  have := List.length_filter_le (fun s => hearB t wind voice h s) (List.range k)
  simp at this ⊢; omega

set_option maxHeartbeats 1000000 in
set_option maxRecDepth 100000 in
theorem Stands_no (wd wind voice s : Int) (a : Option Addr) (cap : Nat) (xs : List Int) (hl : xs.length ≤ 1000000) (w : World) (hR : RdI w (.slice a xs.length cap) xs) (h : atE wd xs wind voice s 1 ≠ 0) :
    Calls Try.prog 40 #[.agg #[.int .i64 wd, .slice a xs.length cap], .agg #[.int .i64 wind, .int .i64 voice], .int .i64 s] w fun e w' => e = .returned (.tuple #[.slice none 0 0, .int .i64 (atE wd xs wind voice s 1)]) ∧ Below w.heap.size w w' := by
  have HB := Lib.hid (al (below1 w (.cells #[.int .i64 wd, .slice a xs.length cap] 24)) (.cells #[.int .i64 wind, .int .i64 voice] 27))
  have HP := Lib.hid (openAt_bad wd wind voice s 1 a cap xs hl _ (hR.below HB.out) h)
  unfold zeroWork at HP
  generalize atE wd xs wind voice s 1 = E at h HP ⊢
  have h1 : (E != 0) = true := by simpa using h
  clear h hR
  go_enter Try.func40, Try.ntmps40
  go_wp2_with fail
  refine HP.out.mono ?_
  rintro e w1 ⟨rfl, hB⟩
  have HB1 := Lib.hid (join HB.out hB)
  clear hB HP
  go_wp2
  go_ret2
  exact ⟨rfl, by first | (with_reducible exact al HB1.out _) | (with_reducible refine setc6 HB1.out ?_; omega)⟩

def spSd (wk : Value) (t : Hr.Town) (wind voice : Int) (h : Nat) : Nat → List Value → Value → World → Prop
  | 0, _, v, _ => v = wk
  | 1, _, v, _ => v = wk
  | 2, _, v, w => ∃ vs, v = .agg vs ∧ TabsTo t wind 30 w vs
  | 3, _, v, _ => v = .int .i64 h
  | 4, _, v, _ => v = .agg ((ears t wind voice h).map Value.bool).toArray
  | 5, _, v, _ => v = .int .i64 0
  | _, _, _, _ => False
theorem spSd_stable (wk : Value) (t : Hr.Town) (wind voice : Int) (h : Nat) : ∀ i L v w w', spSd wk t wind voice h i L v w → Rs.Gr w w' → spSd wk t wind voice h i L v w' := by
  intro i L v w w' h hg
  match i with
  | 0 => exact h
  | 1 => exact h
  | 2 => obtain ⟨vs, h1, h2⟩ := h; exact ⟨vs, h1, h2.below hg⟩
  | 3 => exact h
  | 4 => exact h
  | 5 => exact h

set_option maxHeartbeats 2000000 in
set_option maxRecDepth 100000 in
theorem Stands_yes (t : Hr.Town) (ok : t.Ok) (wind voice : Int) (h : Nat) (he : atE t.wide t.plots wind voice h 1 = 0) (b o cap : Nat) (w : World) (hI : Ints w b o t.plots) :
    Calls Try.prog 40 #[.agg #[.int .i64 t.wide, .slice (some ⟨b, o, none⟩) t.plots.length cap], .agg #[.int .i64 wind, .int .i64 voice], .int .i64 h] w fun e w' => ∃ v, e = .returned (.tuple #[v, .int .i64 0]) ∧ w'.ownsRow w.heap.size 3 1 v (standsOf t wind voice h).length ((standsOf t wind voice h).map (Value.int .i64)) ∧ Below w.heap.size w w' := by
  obtain ⟨i0, hi, hz0, hz1, hz2⟩ := info_parts A_info3
  obtain ⟨hc, ha, hp⟩ := atE_ok he
  obtain ⟨w0, w4, v1, v40⟩ := wind_ok ha
  obtain ⟨s', hs', hs, hst⟩ := plot_ok hp
  obtain rfl : h = s' := by omega
  have h30 : t.plots.length ≤ 30 := ok.n30
  have HB := Lib.hid (al (below1 w (.cells #[.int .i64 t.wide, .slice (some ⟨b, o, none⟩) t.plots.length cap] 24)) (.cells #[.int .i64 wind, .int .i64 voice] 27))
  have hIb := hI.below HB.out hI.1
  have HP := Lib.hid (openAt_ok t.wide wind voice h 1 b o cap t.plots _ ⟨fun _ => ⟨b, o, rfl, hIb⟩, by omega⟩ hIb (by omega) hc ha hp)
  have HI := Lib.hid hI
  have hh2 : h < t.len := hs
  clear he hc ha hp hI hIb hst hs'
  go_enter Try.func40, Try.ntmps40
  go_wp2_with fail
  refine HP.out.mono ?_
  rintro e w1 ⟨r, rfl, hD, hr, hB⟩
  have HB1 := Lib.hid (join HB.out hB)
  have hrl : r < w1.heap.size := dir_lt hD
  have HD := Lib.hid hD
  clear hB hD HP HB hr
  go_wp2_with fail
  obtain ⟨W2, hW2⟩ : ∃ W2, W2 = w1.alloc (.cells #[.int .i64 t.wide, .slice (some ⟨b, o, none⟩) t.plots.length cap, .int .i64 wind, .int .i64 voice, .map (some r), .func (.func 128) #[] #[]] 119) := ⟨_, rfl⟩
  have hbx : W2.heap[w1.heap.size]? = some (.cells #[.int .i64 t.wide, .slice (some ⟨b, o, none⟩) t.plots.length cap, .int .i64 wind, .int .i64 voice, .map (some r), .func (.func 128) #[] #[]] 119 (0, 0)) := by rw [hW2]; exact heap_alloc_last _ _
  have HB2 : Hid (Below w.heap.size w W2) := Lib.hid (by rw [hW2]; exact al HB1.out _)
  have HD2 : Hid (DirMap W2 r) := Lib.hid (by rw [hW2]; exact dir_al HD.out hrl _)
  rw [← hW2]
  have HBX := Lib.hid hbx
  have hbl2 : w1.heap.size < W2.heap.size := (Array.getElem?_eq_some_iff.1 hbx).1
  clear hW2 hbx HB1 HD hrl
  refine Rs.region_gen 6 [[], [], [1], [], [0, 1, 2, 3], []] [some 23, some 24, some 25, some 26, some 27, some 28] (spSd (.agg #[.int .i64 t.wide, .slice (some ⟨b, o, none⟩) t.plots.length cap, .int .i64 wind, .int .i64 voice, .map (some r), .func (.func 128) #[] #[]]) t wind voice h) (by kernel_rfl) (by kernel_rfl) rfl (spSd_stable _ _ _ _ _) ?_ ?_
  · refine ⟨fun V w' hG hs => ?_, fun V w' hG hs => ?_, fun V w' hG hs => ?_, fun V w' hG hs => ?_, fun V w' hG hs => ?_, fun V w' hG hs => ?_, trivial⟩
    all_goals
      obtain ⟨c0, c1, c2, c3, c4, c5⟩ := voice_cells ((hG.block _ hbl2).trans HBX.out)
      rw [if_pos (by rfl)]
    · exact Rs.GrowL.value (v := .agg #[.int .i64 t.wide, .slice (some ⟨b, o, none⟩) t.plots.length cap, .int .i64 wind, .int .i64 voice, .map (some r), .func (.func 128) #[] #[]]) (w' := w') (by simp [go_sem, Rs.look, c0, c1, c2, c3, c4, c5]) (Rs.Gr.refl _) rfl
    · exact Rs.GrowL.value (v := .agg #[.int .i64 t.wide, .slice (some ⟨b, o, none⟩) t.plots.length cap, .int .i64 wind, .int .i64 voice, .map (some r), .func (.func 128) #[] #[]]) (w' := w') (by simp [go_sem, Rs.look, c0, c1, c2, c3, c4, c5]) (Rs.Gr.refl _) rfl
    · have e1 : V 1 = .agg #[.int .i64 t.wide, .slice (some ⟨b, o, none⟩) t.plots.length cap, .int .i64 wind, .int .i64 voice, .map (some r), .func (.func 128) #[] #[]] := hs 1 (by simp)
      refine Rs.GrowL.call (f := 101) (args := #[.agg #[.int .i64 t.wide, .slice (some ⟨b, o, none⟩) t.plots.length cap, .int .i64 wind, .int .i64 voice, .map (some r), .func (.func 128) #[] #[]]]) (by simp [go_sem, Rs.look, e1]) ?_
      refine (tables_any t ok wind voice w0 w4 b o cap r _ _ _ w' (HI.out.below (join HB2.out hG) HI.out.1) ((hG.block r (dir_lt HD2.out)).trans HD2.out)).mono ?_
      rintro e w2 ⟨vs, rfl, hT, hB2⟩
      exact ⟨_, rfl, hB2, vs, rfl, hT⟩
    · exact Rs.GrowL.value (v := .int .i64 h) (w' := w') (by simp [go_sem, Rs.look]) (Rs.Gr.refl _) rfl
    · have e0 : V 0 = .agg #[.int .i64 t.wide, .slice (some ⟨b, o, none⟩) t.plots.length cap, .int .i64 wind, .int .i64 voice, .map (some r), .func (.func 128) #[] #[]] := hs 0 (by simp)
      obtain ⟨vs, e2, hT⟩ : ∃ vs, V 2 = .agg vs ∧ TabsTo t wind 30 w' vs := hs 2 (by simp)
      have e3 : V 3 = .int .i64 h := hs 3 (by simp)
      refine Rs.GrowL.call (f := 100) (args := #[.agg #[.int .i64 t.wide, .slice (some ⟨b, o, none⟩) t.plots.length cap, .int .i64 wind, .int .i64 voice, .map (some r), .func (.func 128) #[] #[]], .agg vs, .int .i64 h]) (by simp [go_sem, Rs.look, e0, e2, e3]) ?_
      refine (hears_any t ok wind voice h hh2 _ _ _ vs w' hT).mono ?_
      rintro e w2 ⟨rfl, hB2⟩
      exact ⟨_, rfl, hB2, rfl⟩
    · exact Rs.GrowL.value (v := .int .i64 0) (w' := w') (by simp [go_sem, Rs.look]) (Rs.Gr.refl _) rfl
  · intro V w5 hG hs
    have e0 : V 0 = .agg #[.int .i64 t.wide, .slice (some ⟨b, o, none⟩) t.plots.length cap, .int .i64 wind, .int .i64 voice, .map (some r), .func (.func 128) #[] #[]] := hs 0 (by omega)
    have e1 : V 1 = .agg #[.int .i64 t.wide, .slice (some ⟨b, o, none⟩) t.plots.length cap, .int .i64 wind, .int .i64 voice, .map (some r), .func (.func 128) #[] #[]] := hs 1 (by omega)
    have e3 : V 3 = .int .i64 h := hs 3 (by omega)
    have e4 : V 4 = .agg ((ears t wind voice h).map Value.bool).toArray := hs 4 (by omega)
    have e5 : V 5 = .int .i64 0 := hs 5 (by omega)
    simp only [Rs.canon, Rs.dstOf, List.range_succ, List.range_zero, List.nil_append, List.cons_append, List.foldl_cons, List.foldl_nil, List.drop_succ_cons, List.drop_zero, List.drop_nil, List.getElem?_toArray, List.getElem?_cons_succ, List.getElem?_cons_zero, Option.bind_some, Act.put, List.getD_cons_succ, List.getD_cons_zero, List.setIfInBounds_toArray, List.set_cons_succ, List.set_cons_zero]
    rw [e0, e1, e3, e4, e5]
    generalize V 2 = v2
    have HB5 := Lib.hid (join HB2.out hG)
    obtain ⟨EA, hEA⟩ : ∃ EA, EA = ((ears t wind voice h).map Value.bool).toArray := ⟨_, rfl⟩
    rw [← hEA]
    have hget : ∀ k, k < 30 → EA[k]? = some (.bool (hearB t wind voice h k)) := fun k hk => by rw [hEA]; unfold ears; simp [hk]
    have HGET := Lib.hid hget
    clear e0 e1 e3 e4 e5 hs hG hEA hget HD2 HBX hbl2 HB2 HI
    go_wp2
    go_loopw [10, 11, 12, 28] (fun v u u' i wr => ∃ k : Nat, k ≤ 30 ∧ i = .int .i64 k ∧ wr.ownsRow w5.heap.size 3 1 v (standsTo t wind voice h k).length ((standsTo t wind voice h k).map (Value.int .i64)) ∧ Below w5.heap.size w5 wr) (fun _ _ _ i _ => 30 - (intOf i).toNat)
    case atStart => exact ⟨0, by omega, rfl, own_none _ _ _ _, Below.refl _ _⟩
    case round =>
      obtain ⟨k, hk, rfl, hown, hBr⟩ := hrel
      have HO := Lib.hid hown
      have HBr := Lib.hid hBr
      have hlen := standsTo_len t wind voice h k
      have hz := hBr.size
      clear hown hBr
      by_cases hlt : k < 30
      · have hidx := fun W => idx_arr und128 agg4 siz4 hlt (HGET.out k hlt) W
        generalize hen : hearB t wind voice h k = en at hidx
        have HEN := Lib.hid hen
        clear hen
        cases en with
        | false =>
          go_wp2
          go_roundw
          case rel => exact ⟨k + 1, by omega, by simp, by rw [standsTo_no HEN.out]; exact HO.out, HBr.out⟩
          case measure => simp [intOf]; omega
        | true =>
          go_wp2_with (at_builtin; refine wpList_append_own _ rfl _ _ 31 rfl w5.heap.size 3 i0 (.int .i64 0) 1 8 A_und31 hi hz0 hz1 hz2 rfl (by decide) _ _ _ rfl (HO.out.alloc _) ⟨wr.heap.size, 0, none⟩ 1 1 [.int .i64 (k : Int)] rfl rfl ?d1 ?d2 ?d3 ?d4 ?d5 ?_)
          case d1 =>
            intro j u hj
            match j, hj with
            | 0, hj => simp at hj; subst hj; simp [Addr.add]
          case d2 => intro u hu; simp at hu; subst hu; rfl
          case d3 => unfold maxLen; omega
          case d4 => omega
          case d5 => simp; omega
          intro v' w8 hown8 hgrow _
          have hB8 := below_grown (al2 HBr.out (by omega) _) (HO.out.alloc _) (Nat.le_refl _) (by simp; omega) hgrow
          have HO8 := Lib.hid hown8
          have HB8 := Lib.hid hB8
          clear hgrow hown8 hB8
          go_wp2
          go_roundw
          case rel => exact ⟨k + 1, by omega, by simp, by rw [standsTo_yes HEN.out]; simpa using HO8.out, HB8.out⟩
          case measure => simp [intOf]; omega
      · obtain rfl : k = 30 := by omega
        go_wp2
        go_ret2
        exact ⟨_, rfl, own_base HO.out HB5.out.size, join HB5.out HBr.out⟩
/-- what Stands tells -/
def standsL (wd : Int) (xs : List Int) (wind voice h : Int) : List Int := if atE wd xs wind voice h 1 = 0 then standsOf (townOf wd xs) wind voice h.toNat else []
theorem Stands_any (wd wind voice s : Int) (a : Option Addr) (cap : Nat) (xs : List Int) (hl : xs.length ≤ 1000000) (w : World) (hR : RdI w (.slice a xs.length cap) xs) :
    Calls Try.prog 40 #[.agg #[.int .i64 wd, .slice a xs.length cap], .agg #[.int .i64 wind, .int .i64 voice], .int .i64 s] w fun e w' => ∃ v, e = .returned (.tuple #[v, .int .i64 (atE wd xs wind voice s 1)]) ∧ w'.ownsRow w.heap.size 3 1 v (standsL wd xs wind voice s).length ((standsL wd xs wind voice s).map (Value.int .i64)) ∧ Below w.heap.size w w' := by
  by_cases h : atE wd xs wind voice s 1 = 0
  · obtain ⟨h1, h2, h3⟩ := atE_ok h
    have hne : xs ≠ [] := by rintro rfl; have := (check_len h1).2; simp at this
    obtain ⟨b, o, rfl, _, hI⟩ := rd_ints hR hne
    obtain ⟨t, -, hw', hx, ok⟩ := town_name h1
    subst hw' hx
    obtain ⟨p, rfl, hp, _⟩ := plot_ok h3
    have e1 : standsL t.wide t.plots wind voice p = standsOf t wind voice p := by unfold standsL; rw [if_pos h, townOf_self]; simp
    rw [e1, h]
    exact Stands_yes t ok wind voice p h b o cap w hI
  · have e1 : standsL wd xs wind voice s = [] := if_neg h
    rw [e1]
    refine (Stands_no wd wind voice s a cap xs hl w hR h).mono ?_
    rintro e w' ⟨rfl, hB⟩
    exact ⟨_, rfl, own_none _ _ _ _, hB⟩
end Go.Proofs.Ytimedmkpenbmkaa

namespace Go.Proofs.Ytimedmkpenbmkaa
open Go.RowKit Go.Shelf
set_option linter.unusedSimpArgs false
set_option linter.unusedVariables false

/-- the deaf ones of the first houses -/
def deafTo (l : List (Nat × List Bool)) (k : Nat) : List Int := ((l.take k).filter fun x => deafB x.2).map fun x => (x.1 : Int)
theorem deafTo_yes {l : List (Nat × List Bool)} {k : Nat} {x : Nat × List Bool} (hx : l[k]? = some x) (h : deafB x.2 = true) : deafTo l (k + 1) = deafTo l k ++ [(x.1 : Int)] := by
  unfold deafTo; rw [List.take_add_one, hx, List.filter_append]; simp [h]
theorem deafTo_no {l : List (Nat × List Bool)} {k : Nat} {x : Nat × List Bool} (hx : l[k]? = some x) (h : deafB x.2 = false) : deafTo l (k + 1) = deafTo l k := by
  unfold deafTo; rw [List.take_add_one, hx, List.filter_append]; simp [h]
theorem deafTo_len (l : List (Nat × List Bool)) (k : Nat) : (deafTo l k).length ≤ k := by
  unfold deafTo
  have h1 := List.length_filter_le (fun x : Nat × List Bool => deafB x.2) (l.take k)
  have h2 := List.length_take_le k l
  simp only [List.length_map]; omega
/-- the houses that hear no stand -/
def deafOf (t : Hr.Town) (wind voice : Int) : List Int := deafTo (lis t wind voice fun _ => true) (lis t wind voice fun _ => true).length
theorem lis_30 (t : Hr.Town) (wind voice : Int) (cnt : Nat → Bool) : ∀ y ∈ lis t wind voice cnt, y.2.length = 30 := by
  intro y hy
  unfold lis lisTo at hy
  obtain ⟨p, _, rfl⟩ := List.mem_map.1 hy
  simp [ears]

set_option maxHeartbeats 1000000 in
set_option maxRecDepth 100000 in
theorem Deaf_no (wd wind voice : Int) (a : Option Addr) (cap : Nat) (xs : List Int) (hl : xs.length ≤ 1000000) (w : World) (hR : RdI w (.slice a xs.length cap) xs) (h : openErr wd xs wind voice ≠ 0) :
    Calls Try.prog 41 #[.agg #[.int .i64 wd, .slice a xs.length cap], .agg #[.int .i64 wind, .int .i64 voice]] w fun e w' => e = .returned (.tuple #[.slice none 0 0, .int .i64 (openErr wd xs wind voice)]) ∧ Below w.heap.size w w' := by
  have HB := Lib.hid (al (below1 w (.cells #[.int .i64 wd, .slice a xs.length cap] 24)) (.cells #[.int .i64 wind, .int .i64 voice] 27))
  have HP := Lib.hid (open_err wd wind voice a cap xs _ (rd_plots (hR.below HB.out) hl) h)
  unfold zeroWork at HP
  generalize openErr wd xs wind voice = E at h HP ⊢
  have h1 : (E != 0) = true := by simpa using h
  clear h hR
  go_enter Try.func41, Try.ntmps41
  go_wp2_with fail
  refine HP.out.mono ?_
  rintro e w1 ⟨rfl, hB⟩
  have HB1 := Lib.hid (join HB.out hB)
  clear hB HP
  go_wp2
  go_ret2
  exact ⟨rfl, by first | (with_reducible exact al HB1.out _) | (with_reducible refine setc6 HB1.out ?_; omega)⟩

def spDe (wk : Value) (t : Hr.Town) (wind voice : Int) (B : Nat) : Nat → List Value → Value → World → Prop
  | 0, _, v, _ => v = wk
  | 1, _, v, _ => v = wk
  | 2, _, v, w => ∃ vs, v = .agg vs ∧ TabsTo t wind 30 w vs
  | 3, _, v, w => ∃ ob cp, v = .slice ob (lis t wind voice fun _ => true).length cp ∧ w.ownsRow B 135 31 (.slice ob (lis t wind voice fun _ => true).length cp) (lis t wind voice fun _ => true).length (lisV (lis t wind voice fun _ => true))
  | 4, _, v, _ => v = .int .i64 (lis t wind voice fun _ => true).length
  | 5, _, v, _ => v = .int .i64 0
  | _, _, _, _ => False
theorem spDe_stable (wk : Value) (t : Hr.Town) (wind voice : Int) (B : Nat) : ∀ i L v w w', spDe wk t wind voice B i L v w → Rs.Gr w w' → spDe wk t wind voice B i L v w' := by
  intro i L v w w' h hg
  match i with
  | 0 => exact h
  | 1 => exact h
  | 2 => obtain ⟨vs, h1, h2⟩ := h; exact ⟨vs, h1, h2.below hg⟩
  | 3 => obtain ⟨ob, cp, h1, h2⟩ := h; exact ⟨ob, cp, h1, own_below h2 hg⟩
  | 4 => exact h
  | 5 => exact h

set_option maxHeartbeats 2000000 in
set_option maxRecDepth 100000 in
theorem Deaf_yes (t : Hr.Town) (ok : t.Ok) (wind voice : Int) (he : openErr t.wide t.plots wind voice = 0) (b o cap : Nat) (w : World) (hI : Ints w b o t.plots) :
    Calls Try.prog 41 #[.agg #[.int .i64 t.wide, .slice (some ⟨b, o, none⟩) t.plots.length cap], .agg #[.int .i64 wind, .int .i64 voice]] w fun e w' => ∃ v, e = .returned (.tuple #[v, .int .i64 0]) ∧ w'.ownsRow w.heap.size 3 1 v (deafOf t wind voice).length ((deafOf t wind voice).map (Value.int .i64)) ∧ Below w.heap.size w w' := by
  obtain ⟨i0, hi, hz0, hz1, hz2⟩ := info_parts A_info3
  obtain ⟨hc, ha⟩ := openErr_ok he
  obtain ⟨w0, w4, v1, v40⟩ := wind_ok ha
  have h30 : t.plots.length ≤ 30 := ok.n30
  have HB := Lib.hid (al (below1 w (.cells #[.int .i64 t.wide, .slice (some ⟨b, o, none⟩) t.plots.length cap] 24)) (.cells #[.int .i64 wind, .int .i64 voice] 27))
  have hIb := hI.below HB.out hI.1
  have HP := Lib.hid (open_ok t.wide wind voice b o cap t.plots _ ⟨fun _ => ⟨b, o, rfl, hIb⟩, by omega⟩ hc ha)
  have HI := Lib.hid hI
  clear he hc ha hI hIb
  go_enter Try.func41, Try.ntmps41
  go_wp2_with fail
  refine HP.out.mono ?_
  rintro e w1 ⟨r, rfl, hD, hr, hB⟩
  have HB1 := Lib.hid (join HB.out hB)
  have hrl : r < w1.heap.size := dir_lt hD
  have HD := Lib.hid hD
  clear hB hD HP HB hr
  go_wp2_with fail
  obtain ⟨W2, hW2⟩ : ∃ W2, W2 = w1.alloc (.cells #[.int .i64 t.wide, .slice (some ⟨b, o, none⟩) t.plots.length cap, .int .i64 wind, .int .i64 voice, .map (some r), .func (.func 128) #[] #[]] 119) := ⟨_, rfl⟩
  have hbx : W2.heap[w1.heap.size]? = some (.cells #[.int .i64 t.wide, .slice (some ⟨b, o, none⟩) t.plots.length cap, .int .i64 wind, .int .i64 voice, .map (some r), .func (.func 128) #[] #[]] 119 (0, 0)) := by rw [hW2]; exact heap_alloc_last _ _
  have HB2 : Hid (Below w.heap.size w W2) := Lib.hid (by rw [hW2]; exact al HB1.out _)
  have HD2 : Hid (DirMap W2 r) := Lib.hid (by rw [hW2]; exact dir_al HD.out hrl _)
  rw [← hW2]
  have HBX := Lib.hid hbx
  have hbl2 : w1.heap.size < W2.heap.size := (Array.getElem?_eq_some_iff.1 hbx).1
  clear hW2 hbx HB1 HD hrl
  refine Rs.region_gen 6 [[], [], [1], [0, 1, 2], [0, 1, 2, 3], []] [some 20, some 21, some 22, some 23, some 24, some 25] (spDe (.agg #[.int .i64 t.wide, .slice (some ⟨b, o, none⟩) t.plots.length cap, .int .i64 wind, .int .i64 voice, .map (some r), .func (.func 128) #[] #[]]) t wind voice W2.heap.size) (by kernel_rfl) (by kernel_rfl) rfl (spDe_stable _ _ _ _ _) ?_ ?_
  · refine ⟨fun V w' hG hs => ?_, fun V w' hG hs => ?_, fun V w' hG hs => ?_, fun V w' hG hs => ?_, fun V w' hG hs => ?_, fun V w' hG hs => ?_, trivial⟩
    all_goals
      obtain ⟨c0, c1, c2, c3, c4, c5⟩ := voice_cells ((hG.block _ hbl2).trans HBX.out)
      rw [if_pos (by rfl)]
    · exact Rs.GrowL.value (v := .agg #[.int .i64 t.wide, .slice (some ⟨b, o, none⟩) t.plots.length cap, .int .i64 wind, .int .i64 voice, .map (some r), .func (.func 128) #[] #[]]) (w' := w') (by simp [go_sem, Rs.look, c0, c1, c2, c3, c4, c5]) (Rs.Gr.refl _) rfl
    · exact Rs.GrowL.value (v := .agg #[.int .i64 t.wide, .slice (some ⟨b, o, none⟩) t.plots.length cap, .int .i64 wind, .int .i64 voice, .map (some r), .func (.func 128) #[] #[]]) (w' := w') (by simp [go_sem, Rs.look, c0, c1, c2, c3, c4, c5]) (Rs.Gr.refl _) rfl
    · have e1 : V 1 = .agg #[.int .i64 t.wide, .slice (some ⟨b, o, none⟩) t.plots.length cap, .int .i64 wind, .int .i64 voice, .map (some r), .func (.func 128) #[] #[]] := hs 1 (by simp)
      refine Rs.GrowL.call (f := 101) (args := #[.agg #[.int .i64 t.wide, .slice (some ⟨b, o, none⟩) t.plots.length cap, .int .i64 wind, .int .i64 voice, .map (some r), .func (.func 128) #[] #[]]]) (by simp [go_sem, Rs.look, e1]) ?_
      refine (tables_any t ok wind voice w0 w4 b o cap r _ _ _ w' (HI.out.below (join HB2.out hG) HI.out.1) ((hG.block r (dir_lt HD2.out)).trans HD2.out)).mono ?_
      rintro e w2 ⟨vs, rfl, hT, hB2⟩
      exact ⟨_, rfl, hB2, vs, rfl, hT⟩
    · have e0 : V 0 = .agg #[.int .i64 t.wide, .slice (some ⟨b, o, none⟩) t.plots.length cap, .int .i64 wind, .int .i64 voice, .map (some r), .func (.func 128) #[] #[]] := hs 0 (by simp)
      obtain ⟨vs, e2, hT⟩ : ∃ vs, V 2 = .agg vs ∧ TabsTo t wind 30 w' vs := hs 2 (by simp)
      refine Rs.GrowL.call (f := 102) (args := #[.agg #[.int .i64 t.wide, .slice (some ⟨b, o, none⟩) t.plots.length cap, .int .i64 wind, .int .i64 voice, .map (some r), .func (.func 128) #[] #[]], .agg vs]) (by simp [go_sem, Rs.look, e0, e2]) ?_
      refine (listeners_any t ok wind voice b o cap _ 128 #[] (fun _ => true) vs w' (HI.out.below (join HB2.out hG) HI.out.1) hT (fun args W => rfl) (fun p hp W hW => (all_any p W).mono fun e w' ⟨h1, h2⟩ => ⟨h1, h2 ▸ Below.refl _ _⟩)).mono ?_
      rintro e w2 ⟨v, rfl, ho, hB2⟩
      obtain ⟨ob, cp, rfl⟩ := own_slice ho
      exact ⟨_, rfl, hB2, ob, cp, rfl, own_base ho (by have := hG.size; omega)⟩
    · obtain ⟨ob, cp, e3, ho⟩ : ∃ ob cp, V 3 = .slice ob (lis t wind voice fun _ => true).length cp ∧ w'.ownsRow W2.heap.size 135 31 (.slice ob (lis t wind voice fun _ => true).length cp) (lis t wind voice fun _ => true).length (lisV (lis t wind voice fun _ => true)) := hs 3 (by simp)
      exact Rs.GrowL.value (v := .int .i64 (lis t wind voice fun _ => true).length) (w' := w') (by simp [go_sem, Rs.look, e3]) (Rs.Gr.refl _) rfl
    · exact Rs.GrowL.value (v := .int .i64 0) (w' := w') (by simp [go_sem, Rs.look]) (Rs.Gr.refl _) rfl
  · intro V w5 hG hs
    have e0 : V 0 = .agg #[.int .i64 t.wide, .slice (some ⟨b, o, none⟩) t.plots.length cap, .int .i64 wind, .int .i64 voice, .map (some r), .func (.func 128) #[] #[]] := hs 0 (by omega)
    have e1 : V 1 = .agg #[.int .i64 t.wide, .slice (some ⟨b, o, none⟩) t.plots.length cap, .int .i64 wind, .int .i64 voice, .map (some r), .func (.func 128) #[] #[]] := hs 1 (by omega)
    obtain ⟨ob, cp, e3, ho⟩ : ∃ ob cp, V 3 = .slice ob (lis t wind voice fun _ => true).length cp ∧ w5.ownsRow W2.heap.size 135 31 (.slice ob (lis t wind voice fun _ => true).length cp) (lis t wind voice fun _ => true).length (lisV (lis t wind voice fun _ => true)) := hs 3 (by omega)
    have e4 : V 4 = .int .i64 (lis t wind voice fun _ => true).length := hs 4 (by omega)
    have e5 : V 5 = .int .i64 0 := hs 5 (by omega)
    simp only [Rs.canon, Rs.dstOf, List.range_succ, List.range_zero, List.nil_append, List.cons_append, List.foldl_cons, List.foldl_nil, List.drop_succ_cons, List.drop_zero, List.drop_nil, List.getElem?_toArray, List.getElem?_cons_succ, List.getElem?_cons_zero, Option.bind_some, Act.put, List.getD_cons_succ, List.getD_cons_zero, List.setIfInBounds_toArray, List.set_cons_succ, List.set_cons_zero]
    rw [e0, e1, e3, e4, e5]
    generalize V 2 = v2
    have HB5 := Lib.hid (join HB2.out hG)
    have hL30 := lis_30 t wind voice fun _ => true
    have hin := LiIn.of_own hL30 ho
    have hLl : (lis t wind voice fun _ => true).length ≤ 30 := by have := lisTo_len t wind voice (fun _ => true) t.len; have e : t.len = t.plots.length := rfl; unfold lis; omega
    obtain ⟨L, hL⟩ : ∃ L, L = lis t wind voice fun _ => true := ⟨_, rfl⟩
    have HD0 : Hid (deafOf t wind voice = deafTo L L.length) := Lib.hid (by rw [hL]; rfl)
    rw [← hL] at hin hLl hL30 ⊢
    have HIN := Lib.hid hin
    have HL30 := Lib.hid hL30
    clear e0 e1 e3 e4 e5 hs hG hL hin ho HD2 HBX hbl2 HB2 HI hL30
    go_wp2_with fail
    go_loopw [8, 25] (fun v i wr => ∃ k : Nat, k ≤ L.length ∧ i = .int .i64 k ∧ wr.ownsRow w5.heap.size 3 1 v (deafTo L k).length ((deafTo L k).map (Value.int .i64)) ∧ Below w5.heap.size w5 wr) (fun _ i _ => L.length - (intOf i).toNat)
    case atStart => exact ⟨0, by omega, rfl, own_none _ _ _ _, Below.refl _ _⟩
    case round =>
      obtain ⟨k, hk, rfl, hown, hB⟩ := hrel
      have HO := Lib.hid hown
      have HB := Lib.hid hB
      have hlen := deafTo_len L k
      have hz := hB.size
      by_cases hlt : k < L.length
      · obtain ⟨x, hx⟩ : ∃ x, L[k]? = some x := ⟨_, List.getElem?_eq_getElem hlt⟩
        have hx30 := HL30.out x (List.mem_of_getElem? hx)
        obtain ⟨g, rfl, hgl, hrg⟩ := (HIN.out.below hB) k x hx
        have HXK := Lib.hid hx
        obtain ⟨row, hrow⟩ : ∃ row, row = lisRow x := ⟨_, rfl⟩
        have hsz : (Try.prog.info? 135).map (·.size) = some row.length := by rw [hrow, lisRow_len hx30]; exact size135
        have hsz2 : (Try.prog.info? 135).map (·.size) = some row.toArray.size := by rw [hrow, List.size_toArray, lisRow_len hx30]; exact size135
        have hask := fun W => deaf_any x.1 x.2 hx30 W
        change ∀ W, Calls Try.prog 103 #[.agg (lisRow x).toArray] W _ at hask
        rw [← hrow] at hrg hask
        have hone : row.toArray.all (·.oneCell') = true := by
          rw [hrow, Array.all_eq_true]; intro i hi
          have : (lisRow x).toArray[i] ∈ lisRow x := by simp
          unfold lisRow at this
          rcases List.mem_cons.1 this with h | h
          · rw [show (lisRow x).toArray[i] = _ from h]; rfl
          · obtain ⟨b', _, hb⟩ := List.mem_map.1 h; rw [show (lisRow x).toArray[i] = _ from hb.symm]; rfl
        have hrow0 : row.toArray[0]? = some (.int .i64 x.1) := by rw [hrow]; rfl
        have HR0 := Lib.hid hrow0
        have HRG := Lib.hid hrg
        have HASK := Lib.hid hask
        have HSZ := Lib.hid hsz
        have HSZ2 := Lib.hid hsz2
        have hsz3 : row.toArray.size = 31 := by rw [hrow, List.size_toArray, lisRow_len hx30]
        have HSZ3 := Lib.hid hsz3
        have HON := Lib.hid hone
        have hlt' : (k : Int) < L.length := by omega
        generalize hdf : deafB x.2 = df at HASK
        have HDF := Lib.hid hdf
        clear hx hrow hsz3 hsz hsz2 hrg hask hone hown hB hdf hrow0
        have hll := fun W => heap_alloc_last W (.cells row.toArray 135)
        have HLL := Lib.hid hll
        clear hll
        go_wp2_with (first
          | (with_reducible refine wpList_load_mid rfl 135 _ rfl g (k * 31) rfl row _ HRG.out und135 rfl HSZ.out ?_)
          | (with_reducible refine wpList_store_new rfl 135 _ _ rfl _ row.toArray rfl rfl HSZ2.out ?hs HON.out ?_)
          | (with_reducible refine wpList_load_row rfl 135 _ rfl wr.heap.size rfl 135 row.toArray (0, 0) _ (HLL.out _) und135 rfl HSZ2.out ?_))
        case hs => exact (Hid.out HSZ3).symm
        refine (HASK.out _).mono ?_
        rintro e w6 ⟨rfl, hB5⟩
        have HB5' := Lib.hid (join (al HB.out _) hB5)
        have hc6 : w6.cell? ⟨wr.heap.size, 0, none⟩ = some (.int .i64 x.1) := by
          have := (hB5.block wr.heap.size (by simp)).trans (HLL.out wr)
          rw [cell_of_row _ _ _ _ _ _ this]; exact HR0.out
        have hl6 : wr.heap.size < w6.heap.size := Nat.lt_of_lt_of_le (by simp) hB5.size
        have HO6 := Lib.hid (own_below (own_below HO.out (below1 wr _)) hB5)
        clear hB5
        cases df with
        | false =>
          go_wp2_with fail
          go_roundw
          case rel => exact ⟨k + 1, by omega, by simp, by rw [deafTo_no HXK.out HDF.out]; exact HO6.out, HB5'.out⟩
          case measure => simp [intOf]; omega
        | true =>
          go_wp2_with (at_builtin; refine wpList_append_own _ rfl _ _ 31 rfl w5.heap.size 3 i0 (.int .i64 0) 1 8 A_und31 hi hz0 hz1 hz2 rfl (by decide) _ _ _ rfl (HO6.out.alloc _) ⟨w6.heap.size, 0, none⟩ 1 1 [.int .i64 (x.1 : Int)] rfl rfl ?d1 ?d2 ?d3 ?d4 ?d5 ?_)
          case d1 =>
            intro j u hj
            match j, hj with
            | 0, hj => simp at hj; subst hj; simp [Addr.add]
          case d2 => intro u hu; simp at hu; subst hu; rfl
          case d3 => unfold maxLen; omega
          case d4 => omega
          case d5 => simp; omega
          intro v' w8 hown8 hgrow _
          have hB8 := below_grown (al2 HB5'.out (by omega) _) (HO6.out.alloc _) (Nat.le_refl _) (by simp; omega) hgrow
          have HO8 := Lib.hid hown8
          have HB8 := Lib.hid hB8
          clear hgrow hown8 hB8
          go_wp2_with fail
          go_roundw
          case rel => exact ⟨k + 1, by omega, by simp, by rw [deafTo_yes HXK.out HDF.out]; simpa using HO8.out, HB8.out⟩
          case measure => simp [intOf]; omega
      · obtain rfl : k = L.length := by omega
        clear hown hB
        go_wp2_with fail
        go_ret2
        exact ⟨_, rfl, by rw [HD0.out]; exact own_base HO.out HB5.out.size, join HB5.out HB.out⟩
/-- what Deaf tells -/
def deafL (wd : Int) (xs : List Int) (wind voice : Int) : List Int := if openErr wd xs wind voice = 0 then deafOf (townOf wd xs) wind voice else []
theorem Deaf_any (wd wind voice : Int) (a : Option Addr) (cap : Nat) (xs : List Int) (hl : xs.length ≤ 1000000) (w : World) (hR : RdI w (.slice a xs.length cap) xs) :
    Calls Try.prog 41 #[.agg #[.int .i64 wd, .slice a xs.length cap], .agg #[.int .i64 wind, .int .i64 voice]] w fun e w' => ∃ v, e = .returned (.tuple #[v, .int .i64 (openErr wd xs wind voice)]) ∧ w'.ownsRow w.heap.size 3 1 v (deafL wd xs wind voice).length ((deafL wd xs wind voice).map (Value.int .i64)) ∧ Below w.heap.size w w' := by
  by_cases h : openErr wd xs wind voice = 0
  · obtain ⟨h1, h2⟩ := openErr_ok h
    have hne : xs ≠ [] := by rintro rfl; have := (check_len h1).2; simp at this
    obtain ⟨b, o, rfl, _, hI⟩ := rd_ints hR hne
    obtain ⟨t, -, hw', hx, ok⟩ := town_name h1
    subst hw' hx
    have e1 : deafL t.wide t.plots wind voice = deafOf t wind voice := by unfold deafL; rw [if_pos h, townOf_self]
    rw [e1, h]
    exact Deaf_yes t ok wind voice h b o cap w hI
  · have e1 : deafL wd xs wind voice = [] := if_neg h
    rw [e1]
    refine (Deaf_no wd wind voice a cap xs hl w hR h).mono ?_
    rintro e w' ⟨rfl, hB⟩
    exact ⟨_, rfl, own_none _ _ _ _, hB⟩
end Go.Proofs.Ytimedmkpenbmkaa

namespace Go.Proofs.Ytimedmkpenbmkaa
open Go.RowKit Go.Shelf
set_option linter.unusedSimpArgs false
set_option linter.unusedVariables false

/-- the error of a town, an air, and houses -/
def quarterE (wd : Int) (xs : List Int) (wind voice : Int) (hs : List Int) : Int := if openErr wd xs wind voice ≠ 0 then openErr wd xs wind voice else (qAll xs (List.replicate 30 false) hs).1
theorem oq_err (wd wind voice : Int) (a a2 : Option Addr) (cap hcap : Nat) (xs hs : List Int) (hl : xs.length ≤ 1000000) (w : World) (hR : RdI w (.slice a xs.length cap) xs) (hH : RdI w (.slice a2 hs.length hcap) hs) (hq : quarterE wd xs wind voice hs ≠ 0) :
    OQerr w wd wind voice (.slice a xs.length cap) (.slice a2 hs.length hcap) (quarterE wd xs wind voice hs) := by
  refine ⟨hq, fun W hB => ?_⟩
  unfold quarterE at *
  by_cases h0 : openErr wd xs wind voice = 0
  · rw [if_neg (by rw [h0]; simp)] at hq ⊢
    obtain ⟨hc, ha⟩ := openErr_ok h0
    have hn := (check_len hc).1
    have hne : xs ≠ [] := by rintro rfl; have := (check_len hc).2; simp at this
    obtain ⟨b, o, rfl, -, hI⟩ := rd_ints hR hne
    refine openQ_q wd wind voice b o cap xs _ _ (qAll xs (List.replicate 30 false) hs).2 W (rd_plots (hR.below hB) hl) (hI.below hB hI.1) ?_ hc ha hq
    intro A N W' hQ hB' hN
    by_cases h1 : hs = []
    · subst h1; exact absurd rfl hq
    · obtain ⟨hb, ho, rfl, -, hI2⟩ := rd_ints hH h1
      have hB2 := join hB (hB'.mono (Nat.le_refl _))
      refine (firstQ_any wd b o cap xs hn A N hb ho hcap hs (by have := hH.1; omega) _ W' hQ (hI2.below hB2 hI2.1) (by have := hI2.1; have := hB.size; omega)).mono ?_
      rintro e w' ⟨rfl, h1, h2⟩
      exact ⟨rfl, h1, h2⟩
  · rw [if_pos h0]
    exact openQ_err wd wind voice a cap xs _ W (rd_plots (hR.below hB) hl) h0

/-- whether a house hears one stand and no other one -/
def onlyL (s : Nat) : List Bool := (List.replicate 30 false).set s true
def onlyB (s : Nat) (es : List Bool) : Bool := decide (es = onlyL s)
def OnlyAt (w : World) (M s : Nat) : Prop := w.heap[M]? = some (.cells ((onlyL s).map Value.bool).toArray 128 (0, 0))
theorem OnlyAt.below {w w' : World} {M s : Nat} (h : OnlyAt w M s) (hB : Below w.heap.size w w') : OnlyAt w' M s := (hB.block _ (Array.getElem?_eq_some_iff.1 h).1).trans h
theorem onlyL_len (s : Nat) : (onlyL s).length = 30 := by unfold onlyL; simp

set_option maxHeartbeats 1000000 in
set_option maxRecDepth 100000 in
theorem onlyHears_any (s : Nat) (hs : s < 30) (w : World) :
    Calls Try.prog 112 #[.int .i64 s] w fun e w' => e = .returned (.func (.func 142) #[] #[.pointer (some ⟨w.heap.size, 0, none⟩)]) ∧ OnlyAt w' w.heap.size s ∧ Below w.heap.size w w' := by
  have hs' : (s : Int) < 30 := by omega
  go_enter Try.func112, Try.ntmps112
  go_wp2
  go_ret
  refine ⟨rfl, ?_, below1 _ _⟩
  unfold OnlyAt onlyL
  rw [heap_alloc_last, List.map_set]
  rfl

set_option maxHeartbeats 1000000 in
set_option maxRecDepth 100000 in
theorem only_any (h : Int) (es : List Bool) (hel : es.length = 30) (s M : Nat) (w : World) (hM : OnlyAt w M s) :
    Calls Try.prog 142 #[.agg (Value.int .i64 h :: es.map .bool).toArray, .pointer (some ⟨M, 0, none⟩)] w fun e w' => e = .returned (.bool (onlyB s es)) ∧ Below w.heap.size w w' := by
  obtain ⟨cs, hcs⟩ : ∃ cs, cs = es.map Value.bool := ⟨_, rfl⟩
  obtain ⟨ms, hms⟩ : ∃ ms, ms = (onlyL s).map Value.bool := ⟨_, rfl⟩
  have hcl : (Try.prog.info? 128).map (·.size) = some cs.length := by rw [hcs, List.length_map, hel]; exact size128
  have hml : (Try.prog.info? 128).map (·.size) = some ms.toArray.size := by rw [hms, List.size_toArray, List.length_map, onlyL_len]; exact size128
  have hr : ∀ W o1, W = w → (W.alloc (.cells (Value.int .i64 h :: cs).toArray o1)).rangeAt w.heap.size 1 cs := fun W o1 hW j v hv => by
    subst hW
    rw [cell_of_row _ _ _ _ _ _ (heap_alloc_last _ _), Nat.add_comm]; simpa using hv
  have hM2 : ∀ o1, (w.alloc o1).heap[M]? = some (.cells ms.toArray 128 (0, 0)) := fun o1 => by
    rw [hms]; exact (Below.heap_alloc _ _ _ (Array.getElem?_eq_some_iff.1 hM).1).trans hM
  have HCL := Lib.hid hcl
  have HML := Lib.hid hml
  have HCS := Lib.hid hcs
  have HMS := Lib.hid hms
  have HM2 := Lib.hid hM2
  rw [← hcs]
  clear hcl hcs hml hms hM hM2
  go_enter Try.func142, Try.ntmps142
  have hq : ∀ W, (binOp .eql 128 (.agg cs.toArray) (.agg ms.toArray)).run Try.prog W = .ok (.bool (onlyB s es)) W := fun W => by
    rw [HCS.out, HMS.out]; exact run_eq128 es (onlyL s) hel (onlyL_len s) W
  have hg : ∀ (x y : Operand) u v W, (eqGuard .eql 128 x y (.agg u) (.agg v)).run Try.prog W = .ok () W := fun x y u v W => run_eqGuard_agg W .eql 128 x y u v guard128
  have HQ := Lib.hid hq
  have HG := Lib.hid hg
  clear hq hg
  go_wp2_with (first
    | (with_reducible refine wpList_load_mid rfl 128 _ rfl w.heap.size 1 rfl cs _ (hr _ _ rfl) und128 rfl HCL.out ?_)
    | (with_reducible refine wpList_load_row rfl 128 _ rfl M rfl 128 ms.toArray (0, 0) _ (HM2.out _) und128 rfl HML.out ?_)
    | (refine wpList_bin rfl .eql 128 128 _ _ rfl (.agg cs.toArray) (.agg ms.toArray) (.bool (onlyB s es)) rfl rfl (HG.out _ _ _ _ _) (HQ.out _) ?_))
  go_ret
  exact ⟨rfl, below1 _ _⟩

/-- whether one of the first houses hears that stand alone -/
def anyTo (s : Nat) (l : List (Nat × List Bool)) (k : Nat) : Bool := (l.take k).any fun x => onlyB s x.2
def IdxOnly (s : Nat) (l : List (Nat × List Bool)) (w : World) (e : Ending) (w' : World) : Prop := ∃ z : Int, e = .returned (.int .i64 z) ∧ decide (z ≥ 0) = anyTo s l l.length ∧ Below w.heap.size w w'
set_option maxHeartbeats 1000000 in
set_option maxRecDepth 100000 in
theorem indexOnly_any (ob : Option Addr) (cap : Nat) (l : List (Nat × List Bool)) (hl : ∀ y ∈ l, y.2.length = 30) (hlen : l.length ≤ 30) (s M : Nat) (w : World) (hI : LiIn w ob l) (hM : OnlyAt w M s) :
    Calls Try.prog 141 #[.slice ob l.length cap, .func (.func 142) #[] #[.pointer (some ⟨M, 0, none⟩)]] w (IdxOnly s l w) := by
  have HIN := Lib.hid hI
  have HM := Lib.hid hM
  have HL30 := Lib.hid hl
  clear hI hM hl
  go_enter Try.func141, Try.ntmps141
  go_wp2_with fail
  go_loopw [8] (fun i wr => ∃ k : Nat, k ≤ l.length ∧ i = .int .i64 k ∧ anyTo s l k = false ∧ Below w.heap.size w wr) (fun i _ => l.length - (intOf i).toNat)
  case atStart => exact ⟨0, Nat.zero_le _, rfl, by unfold anyTo; simp, Below.refl _ _⟩
  case round =>
    obtain ⟨k, hk, rfl, hA, hB⟩ := hrel
    have HA := Lib.hid hA
    have HB := Lib.hid hB
    by_cases hlt : k < l.length
    · obtain ⟨x, hx⟩ : ∃ x, l[k]? = some x := ⟨_, List.getElem?_eq_getElem hlt⟩
      have hx30 := HL30.out x (List.mem_of_getElem? hx)
      obtain ⟨g, rfl, hgl, hrg⟩ := (HIN.out.below hB) k x hx
      have hstep : anyTo s l (k + 1) = (anyTo s l k || onlyB s x.2) := by unfold anyTo; rw [List.take_add_one, hx, List.any_append]; simp
      have hmon : anyTo s l (k + 1) = true → anyTo s l l.length = true := fun h => by
        unfold anyTo at *
        rw [List.any_eq_true] at h ⊢
        obtain ⟨y, hy, h2⟩ := h
        exact ⟨y, by rw [List.take_length]; exact List.mem_of_mem_take hy, h2⟩
      have HST := Lib.hid (And.intro hstep hmon)
      obtain ⟨row, hrow⟩ : ∃ row, row = lisRow x := ⟨_, rfl⟩
      have hsz : (Try.prog.info? 135).map (·.size) = some row.length := by rw [hrow, lisRow_len hx30]; exact size135
      have hask := fun W (hW : OnlyAt W M s) => only_any x.1 x.2 hx30 s M W hW
      change ∀ W, OnlyAt W M s → Calls Try.prog 142 #[.agg (lisRow x).toArray, .pointer (some ⟨M, 0, none⟩)] W _ at hask
      rw [← hrow] at hrg hask
      have HRG := Lib.hid hrg
      have HASK := Lib.hid hask
      have HSZ := Lib.hid hsz
      have hlt' : (k : Int) < l.length := by omega
      generalize hdf : onlyB s x.2 = df at HASK HST
      clear hx hrow hsz hrg hask hstep hmon hA hB hdf
      go_wp2_with (with_reducible refine wpList_load_mid rfl 135 _ rfl g (k * 31) rfl row _ HRG.out und135 rfl HSZ.out ?_)
      refine (HASK.out _ (HM.out.below HB.out)).mono ?_
      rintro e w5 ⟨rfl, hB5⟩
      have HB5 := Lib.hid (join HB.out hB5)
      clear hB5
      cases df with
      | false =>
        have HA1 : Hid (anyTo s l (k + 1) = false) := Lib.hid (by rw [HST.out.1, HA.out]; rfl)
        go_wp2_with fail
        go_roundw
        case rel => exact ⟨k + 1, by omega, by simp, HA1.out, HB5.out⟩
        case measure => simp [intOf]; omega
      | true =>
        have HA1 : Hid (anyTo s l l.length = true) := Lib.hid (HST.out.2 (by rw [HST.out.1, HA.out]; rfl))
        go_wp2_with fail
        go_ret
        exact ⟨k, rfl, by rw [HA1.out]; simp, HB5.out⟩
    · obtain rfl : k = l.length := by omega
      clear hA hB
      go_wp2_with fail
      go_ret
      exact ⟨-1, rfl, by rw [HA.out]; rfl, HB.out⟩
set_option maxHeartbeats 1000000 in
theorem containsOnly_any (ob : Option Addr) (cap : Nat) (l : List (Nat × List Bool)) (hl : ∀ y ∈ l, y.2.length = 30) (hlen : l.length ≤ 30) (s M : Nat) (w : World) (hI : LiIn w ob l) (hM : OnlyAt w M s) :
    Calls Try.prog 111 #[.slice ob l.length cap, .func (.func 142) #[] #[.pointer (some ⟨M, 0, none⟩)]] w fun e w' => e = .returned (.bool (anyTo s l l.length)) ∧ Below w.heap.size w w' := by
  have HX := Lib.hid (indexOnly_any ob cap l hl hlen s M w hI hM)
  clear hl hI hM
  go_enter Try.func111, Try.ntmps111
  go_wp2_with fail
  refine HX.out.mono ?_
  rintro e w1 ⟨z, rfl, hz, hB⟩
  have HZ := Lib.hid hz
  have HB := Lib.hid hB
  clear hz hB HX
  go_wp2
  go_ret
  exact ⟨by show Ending.returned (.bool (decide (z ≥ 0))) = _; rw [HZ.out], HB.out⟩

/-- the stands that a house hears alone -/
def mustTo (l : List (Nat × List Bool)) (k : Nat) : List Int := ((List.range k).filter fun s => anyTo s l l.length).map fun (p : Nat) => (p : Int)
theorem mustTo_yes {l : List (Nat × List Bool)} {k : Nat} (e : anyTo k l l.length = true) : mustTo l (k + 1) = mustTo l k ++ [(k : Int)] := by
  unfold mustTo; rw [List.range_succ, List.filter_append, List.filter_cons, if_pos e]; simp
theorem mustTo_no {l : List (Nat × List Bool)} {k : Nat} (e : anyTo k l l.length = false) : mustTo l (k + 1) = mustTo l k := by
  unfold mustTo; rw [List.range_succ, List.filter_append, List.filter_cons, if_neg (by rw [e]; simp)]; simp
theorem mustTo_len (l : List (Nat × List Bool)) (k : Nat) : (mustTo l k).length ≤ k := by
  unfold mustTo
  have := List.length_filter_le (fun s => anyTo s l l.length) (List.range k)
  simp at this ⊢; omega

set_option maxHeartbeats 1000000 in
set_option maxRecDepth 100000 in
theorem Must_err (wd wind voice : Int) (pl : Value) (hv : Value) (E : Int) (w : World) (hOQ : OQerr w wd wind voice pl hv E) :
    Calls Try.prog 48 #[.agg #[.int .i64 wd, pl], .agg #[.int .i64 wind, .int .i64 voice], hv] w fun e w' => e = .returned (.tuple #[.slice none 0 0, .int .i64 E]) ∧ Below w.heap.size w w' := by
  have hE : (E != 0) = true := by simpa using hOQ.1
  have HOQ := Lib.hid hOQ
  clear hOQ
  have hB2 : ∀ o1 o2, Below w.heap.size w ((w.alloc o1).alloc o2) := fun o1 o2 => al (al (Below.refl _ _) _) _
  go_enter Try.func48, Try.ntmps48
  go_wp2_with fail
  refine (hearers_err wd wind voice pl hv E _ (HOQ.out.below (hB2 _ _))).mono ?_
  rintro e w1 ⟨rfl, hB⟩
  have HB := Lib.hid (join (hB2 _ _) hB)
  clear hB hB2
  go_wp2
  go_ret2
  exact ⟨rfl, HB.out⟩

set_option maxHeartbeats 4000000 in
set_option maxRecDepth 100000 in
theorem Must_ok (t : Hr.Town) (hok : t.Ok) (wind voice : Int) (hw0 : 0 ≤ wind) (hw4 : wind ≤ 4) (b o cap : Nat) (hv : Value) (nm : List Bool) (hnl : nm.length = 30) (w : World) (hI : Ints w b o t.plots)
    (hOQ : OQ w t.wide wind voice (.slice (some ⟨b, o, none⟩) t.plots.length cap) hv nm) :
    Calls Try.prog 48 #[.agg #[.int .i64 t.wide, .slice (some ⟨b, o, none⟩) t.plots.length cap], .agg #[.int .i64 wind, .int .i64 voice], hv] w fun e w' =>
      ∃ v, e = .returned (.tuple #[v, .int .i64 (firstE (lis t wind voice (nm.getD · false)))]) ∧ Below w.heap.size w w' ∧ (firstE (lis t wind voice (nm.getD · false)) ≠ 0 → v = .slice none 0 0) ∧
        (firstE (lis t wind voice (nm.getD · false)) = 0 → w'.ownsRow w.heap.size 3 1 v (mustTo (lis t wind voice (nm.getD · false)) t.plots.length).length ((mustTo (lis t wind voice (nm.getD · false)) t.plots.length).map (Value.int .i64))) := by
  obtain ⟨i0, hi, hz0, hz1, hz2⟩ := info_parts A_info3
  have HI := Lib.hid hI
  have HOQ := Lib.hid hOQ
  have hbl := hI.1
  have h30 : t.plots.length ≤ 30 := hok.n30
  have hlen : (lis t wind voice (nm.getD · false)).length ≤ 30 := Nat.le_trans (lisTo_len t wind voice _ t.len) hok.n30
  obtain ⟨hl1, hl2⟩ := lis_row t wind voice (nm.getD · false)
  have hHR := fun w2 (h1 : Below w.heap.size w w2) => hearers_ok t hok wind voice hw0 hw4 b o cap hv nm hnl w2 (hI.below h1 hbl) (hOQ.below h1)
  obtain ⟨L, hL⟩ : ∃ L, L = lis t wind voice (nm.getD · false) := ⟨_, rfl⟩
  rw [← hL] at hlen hl1 hl2 hHR ⊢
  have HHR := Lib.hid hHR
  have HL1 := Lib.hid hl1
  have hB2 : ∀ o1 o2, Below w.heap.size w ((w.alloc o1).alloc o2) := fun o1 o2 => al (al (Below.refl _ _) _) _
  have hx0 : ((w.alloc (.cells #[.int .i64 t.wide, .slice (some ⟨b, o, none⟩) t.plots.length cap] 24)).alloc (.cells #[.int .i64 wind, .int .i64 voice] 27)).heap[w.heap.size]? = some (.cells #[.int .i64 t.wide, .slice (some ⟨b, o, none⟩) t.plots.length cap] 24 (0, 0)) := (Below.heap_alloc _ _ _ (by simp)).trans (heap_alloc_last _ _)
  have HX0 := Lib.hid hx0
  clear hI hOQ hHR hl1 hl2 hL hx0
  go_enter Try.func48, Try.ntmps48
  go_wp2_with fail
  refine (HHR.out _ (hB2 _ _)).mono ?_
  rintro e w1 ⟨v, rfl, hB, hne, hz⟩
  have hzb : w.heap.size ≤ w1.heap.size := by have := (join (hB2 (.cells #[.int .i64 t.wide, .slice (some ⟨b, o, none⟩) t.plots.length cap] 24) (.cells #[.int .i64 wind, .int .i64 voice] 27)) hB).size; exact this
  have hx1 := (hB.block w.heap.size (by simp; omega)).trans HX0.out
  obtain ⟨k0, k1⟩ := blk_cells2 hx1
  have hx1l : w.heap.size < w1.heap.size := (Array.getElem?_eq_some_iff.1 hx1).1
  have HB := Lib.hid (join (hB2 _ _) hB)
  obtain ⟨E, hE⟩ : ∃ E, E = firstE L := ⟨_, rfl⟩
  rw [← hE] at hne hz
  have HZ := Lib.hid hz
  have HN := Lib.hid hne
  have HEQ := Lib.hid hE
  rw [← hE]
  clear hB hB2 hne hz hE hx1 HX0
  by_cases h0 : E = 0
  · subst h0
    have hown := HZ.out rfl
    obtain ⟨ob, cp, rfl⟩ := own_slice hown
    have hin := LiIn.of_own HL1.out hown
    have HIN := Lib.hid hin
    clear hown hin HZ HN
    go_wp2_with fail
    clear k0 k1 hx1l
    go_loopw [10, 25] (fun s10 i wr => ∃ (k : Nat) (c : Value), k ≤ t.plots.length ∧ i = .int .i64 k ∧ c = s10 ∧ wr.ownsRow w1.heap.size 3 1 c (mustTo L k).length ((mustTo L k).map (Value.int .i64)) ∧ Below w1.heap.size w1 wr) (fun _ i _ => t.plots.length - (intOf i).toNat)
    case atStart => exact ⟨0, _, Nat.zero_le _, rfl, rfl, own_none _ _ _ _, Below.refl _ _⟩
    case round =>
      obtain ⟨k, c, hk, rfl, rfl, hown, hB⟩ := hrel
      have HO := Lib.hid hown
      have HBr := Lib.hid hB
      have hlm := mustTo_len L k
      have hsz := hB.size
      clear hown hB
      by_cases hlt : k < t.plots.length
      · have hlt' : (k : Int) < t.plots.length := by omega
        go_wp2_with fail
        refine (onlyHears_any k (by omega) wr).mono ?_
        rintro e w5 ⟨rfl, hM, hB5⟩
        have HM := Lib.hid hM
        have HB5 := Lib.hid (HBr.out.trans (hB5.mono hsz))
        have HO5 := Lib.hid (own_below HO.out hB5)
        have hsz5 := Nat.le_trans hsz hB5.size
        clear hM hB5
        go_wp2_with fail
        refine (containsOnly_any ob cp L HL1.out hlen k _ w5 (HIN.out.below HB5.out) HM.out).mono ?_
        rintro e w6 ⟨rfl, hB6⟩
        have HB6 := Lib.hid (HB5.out.trans (hB6.mono hsz5))
        have HO6 := Lib.hid (own_below HO5.out hB6)
        have hsz6 := Nat.le_trans hsz5 hB6.size
        generalize han : anyTo k L L.length = an
        have HAN := Lib.hid han
        clear hB6 han
        cases an with
        | false =>
          go_wp2_with fail
          go_roundw
          case rel => exact ⟨k + 1, _, by omega, by simp, rfl, by rw [mustTo_no HAN.out]; exact HO6.out, HB6.out⟩
          case measure => simp [intOf]; omega
        | true =>
          go_wp2_with (at_builtin; refine wpList_append_own _ rfl _ _ 31 rfl w1.heap.size 3 i0 (.int .i64 0) 1 8 A_und31 hi hz0 hz1 hz2 rfl (by decide) _ _ _ rfl (HO6.out.alloc _) ⟨w6.heap.size, 0, none⟩ 1 1 [.int .i64 (k : Int)] rfl rfl ?d1 ?d2 ?d3 ?d4 ?d5 ?_)
          (try (case d1 => intro j u hj; match j, hj with | 0, hj => simp at hj; subst hj; simp [Addr.add]))
          case d2 => first | rfl | (intro u hu; simp at hu; subst hu; rfl)
          case d3 => unfold maxLen; omega
          case d4 => omega
          case d5 => first | omega | (simp; omega)
          intro v' w8 hown8 hgrow _
          have HB8 := Lib.hid (below_grown (al2 HB6.out hsz6 (.cells #[.int .i64 (k : Int)] 3)) (HO6.out.alloc _) (Nat.le_refl _) (by simp; omega) hgrow)
          have HO8 := Lib.hid hown8
          clear hown8 hgrow
          go_wp2_with fail
          go_roundw
          case rel => exact ⟨k + 1, _, by omega, by simp, rfl, by rw [mustTo_yes HAN.out]; simpa using HO8.out, HB8.out⟩
          case measure => simp [intOf]; omega
      · obtain rfl : k = t.plots.length := by omega
        have HBE := Lib.hid (join HB.out HBr.out)
        go_wp2_with fail
        go_ret2
        exact ⟨_, by rw [← HEQ.out]; rfl, HBE.out, fun h => absurd HEQ.out.symm h, fun _ => own_base HO.out hzb⟩
  · have h0' : (E != 0) = true := by simpa using h0
    have H0 := Lib.hid h0
    have hv0 := HN.out h0
    clear h0 HZ HN
    go_wp2_with fail
    go_ret2
    exact ⟨.slice none 0 0, by rw [← HEQ.out]; rfl, HB.out, fun _ => rfl, fun h => absurd (HEQ.out.trans h) H0.out⟩
end Go.Proofs.Ytimedmkpenbmkaa

namespace Go.Proofs.Ytimedmkpenbmkaa
open Go.RowKit Go.Shelf
set_option linter.unusedSimpArgs false
set_option linter.unusedVariables false

/-! a map that is a set of numbers -/
theorem und154 : Try.prog.underlying 154 = some (.map 3 4) := by kernel_rfl
theorem zero4 (w : World) : (zeroValue 4).run Try.prog w = .ok (.bool false) w := by kernel_rfl
def SetM (w : World) (r : Nat) (A : List Int) : Prop := ∃ es c, w.heap[r]? = some (.map es c) ∧ (∀ e ∈ es.toList, e.val = .bool true ∧ ∃ h : Int, e.key = .int .i64 h ∧ h ∈ A) ∧ ∀ h ∈ A, ∃ e ∈ es.toList, e.key = .int .i64 h
theorem SetM.lt {w : World} {r : Nat} {A : List Int} (h : SetM w r A) : r < w.heap.size := by
  obtain ⟨es, c, h1, _⟩ := h
  exact (Array.getElem?_eq_some_iff.1 h1).1
theorem SetM.below {w w' : World} {r : Nat} {A : List Int} (h : SetM w r A) (hB : Below w.heap.size w w') : SetM w' r A := by
  have hl := h.lt
  obtain ⟨es, c, h1, h2⟩ := h
  exact ⟨es, c, (hB.block _ hl).trans h1, h2⟩
theorem SetM.congr {w : World} {r : Nat} {A B : List Int} (h : SetM w r A) (e : A = B) : SetM w r B := e ▸ h
theorem find_set (s : Int) : ∀ (es : List MapEntry) (i : Nat), (∀ e ∈ es, ∃ h : Int, e.key = .int .i64 h) → (Instr.findNow (.int .i64) (.int .i64 s) es i = some none ∧ ∀ e ∈ es, e.key ≠ .int .i64 s) ∨ ∃ j e, e ∈ es ∧ e.key = .int .i64 s ∧ es[j]? = some e ∧ Instr.findNow (.int .i64) (.int .i64 s) es i = some (some (i + j, e.val))
  | [], i, _ => .inl ⟨rfl, fun _ h => by simp at h⟩
  | e :: es, i, h => by
    obtain ⟨h0, hk⟩ := h e (by simp)
    rcases find_set s es (i + 1) (fun e' he => h e' (by simp [he])) with ⟨h1, h1'⟩ | ⟨j, e', h1, h2, h3, h4⟩
    · by_cases hs : s = h0
      · refine .inr ⟨0, e, by simp, by rw [hs]; exact hk, rfl, ?_⟩
        simp [Instr.findNow, hk, Instr.sameNow, hs]
      · refine .inl ⟨?_, ?_⟩
        · have : (s == h0) = false := by simpa using hs
          simp [Instr.findNow, hk, Instr.sameNow, this, h1]
        · intro e' he'
          rcases List.mem_cons.1 he' with rfl | he'
          · rw [hk]; intro e2; exact hs (Value.int.inj e2).2.symm
          · exact h1' e' he'
    · by_cases hs : s = h0
      · refine .inr ⟨0, e, by simp, by rw [hs]; exact hk, rfl, ?_⟩
        simp [Instr.findNow, hk, Instr.sameNow, hs]
      · refine .inr ⟨j + 1, e', by simp [h1], h2, by simpa using h3, ?_⟩
        have : (s == h0) = false := by simpa using hs
        simp [Instr.findNow, hk, Instr.sameNow, this, h4]; omega
theorem run_findKeyI {s : Int} {es : List MapEntry} {r : Option (Nat × Value)} (h : Instr.findNow (.int .i64) (.int .i64 s) es 0 = some r) (w : World) : (Instr.findKey 3 (.int .i64 s) es).run Try.prog w = .ok r w := by
  unfold Instr.findKey
  simp only [Sem.run_bind, run_underlying und3, Result.andThen_ok, h, Sem.run_pure]
theorem look_set {w : World} {r : Nat} {A : List Int} (h : SetM w r A) (s : Int) :
    (Instr.lookup 154 (.map (some r)) (.int .i64 s) false).run Try.prog w = .ok (.bool (decide (s ∈ A))) w := by
  obtain ⟨es, c, h0, hg, hA⟩ := h
  have hgo := run_getObj_map (P := Try.prog) h0
  have hck : ∀ e d, (Instr.checkKey e 10000 3 (.int .i64 d)).run Try.prog w = .ok () w := fun e d => check3 _ _ _
  unfold Instr.lookup
  rcases find_set s es.toList 0 (fun e he => ⟨(hg e he).2.choose, (hg e he).2.choose_spec.1⟩) with ⟨h1, h1'⟩ | ⟨j, e, h1, h2, h3, h4⟩
  · have hf := run_findKeyI h1 w
    have hn : s ∉ A := fun hs => by obtain ⟨e, he, hk⟩ := hA s hs; exact h1' e he hk
    simp only [Sem.run_bind, run_underlying und154, Result.andThen_ok, hgo, hck, hf, Sem.run_pure, zero4, if_false, decide_eq_false hn]
    simp
  · have hf := run_findKeyI h4 w
    obtain ⟨hv, s', hk, hs'⟩ := hg e h1
    have : s = s' := (Value.int.inj (h2.symm.trans hk)).2
    subst this
    simp only [Sem.run_bind, run_underlying und154, Result.andThen_ok, hgo, hck, hf, Sem.run_pure, hv, if_false, decide_eq_true hs']
    simp
theorem aft_map {w : World} {r : Nat} {o o' : Obj} (h : w.heap[r]? = some o) : Aft r w { w with heap := w.heap.setIfInBounds r o' } ∧ ({ w with heap := w.heap.setIfInBounds r o' } : World).heap[r]? = some o' := by
  have hl := (Array.getElem?_eq_some_iff.1 h).1
  refine ⟨⟨rfl, rfl, rfl, by simp, fun k hk _ => ?_⟩, ?_⟩
  · show (w.heap.setIfInBounds r o')[k]? = _
    rw [Array.getElem?_setIfInBounds_ne (Ne.symm hk)]
  · show (w.heap.setIfInBounds r o')[r]? = _
    rw [Array.getElem?_setIfInBounds_self_of_lt hl]
theorem same_keyI (s : Int) : Instr.sameBits 10000 (.int .i64 s) (.int .i64 s) = true := by simp [Instr.sameBits]
theorem upd_set {w : World} {r : Nat} {A : List Int} (h : SetM w r A) (s : Int) :
    ∃ w', (Instr.mapUpdate 154 (.map (some r)) (.int .i64 s) (.bool true)).run Try.prog w = .ok () w' ∧ SetM w' r (A ++ [s]) ∧ Aft r w w' := by
  obtain ⟨es, c, h0, hg, hA⟩ := h
  have hgo := run_getObj_map (P := Try.prog) h0
  have hck : ∀ e d, (Instr.checkKey e 10000 3 (.int .i64 d)).run Try.prog w = .ok () w := fun e d => check3 _ _ _
  have hset := fun o => Go.MapKept.run_setObj_map (P := Try.prog) o h0
  unfold Instr.mapUpdate
  rcases find_set s es.toList 0 (fun e he => ⟨(hg e he).2.choose, (hg e he).2.choose_spec.1⟩) with ⟨h1, h1'⟩ | ⟨j, e, h1, h2, h3, h4⟩
  · have hf := run_findKeyI h1 w
    obtain ⟨a1, a2⟩ := aft_map (o' := .map (es.push ⟨.int .i64 s, .bool true, c⟩) (c + 1)) h0
    refine ⟨_, ?_, ⟨_, _, a2, ?_, ?_⟩, a1⟩
    · simp only [Sem.run_bind, run_underlying und154, Result.andThen_ok, hgo, hck, hf, Sem.run_pure]
      exact hset _
    · intro e he
      rw [Array.toList_push] at he
      rcases List.mem_append.1 he with he | he
      · obtain ⟨x1, x, x2, x3⟩ := hg e he
        exact ⟨x1, x, x2, by simp [x3]⟩
      · rw [List.mem_singleton.1 he]; exact ⟨rfl, s, rfl, by simp⟩
    · intro x hx
      rw [Array.toList_push]
      rcases List.mem_append.1 hx with hx | hx
      · obtain ⟨e, he, hk⟩ := hA x hx
        exact ⟨e, by simp only [List.mem_append]; exact .inl he, hk⟩
      · rw [List.mem_singleton.1 hx]
        exact ⟨⟨.int .i64 s, .bool true, c⟩, by simp, rfl⟩
  · have hf := run_findKeyI h4 w
    have hk : ((es[0 + j]?).map (·.key)).getD (.int .i64 s) = .int .i64 s := by
      rw [Nat.zero_add, ← Array.getElem?_toList, h3]; exact h2
    have hkt : (Instr.keyThatStays (((es[0 + j]?).map (·.key)).getD (.int .i64 s)) (.int .i64 s)).run Try.prog w = .ok (.int .i64 s) w := by
      rw [hk]; unfold Instr.keyThatStays; rw [if_pos (same_keyI s)]; rfl
    obtain ⟨a1, a2⟩ := aft_map (o' := .map (es.modify j fun e => { e with key := .int .i64 s, val := .bool true }) c) h0
    obtain ⟨hjl, hje⟩ := List.getElem?_eq_some_iff.1 h3
    refine ⟨_, ?_, ⟨_, _, a2, ?_, ?_⟩, a1⟩
    · simp only [Sem.run_bind, run_underlying und154, Result.andThen_ok, hgo, hck, hf, hkt]
      rw [Nat.zero_add]
      exact hset _
    · intro e' he'
      obtain ⟨i, hi, rfl⟩ := List.getElem_of_mem he'
      have hi' : i < es.size := by simpa using hi
      by_cases hj : j = i
      · subst hj; exact ⟨by simp [Array.getElem_modify], s, by simp [Array.getElem_modify], by simp⟩
      · have : (es.modify j fun e => { e with key := .int .i64 s, val := .bool true }).toList[i] = es.toList[i]'(by simpa using hi') := by simp [Array.getElem_modify, hj]
        rw [this]
        obtain ⟨x1, x, x2, x3⟩ := hg _ (List.getElem_mem (by simpa using hi'))
        exact ⟨x1, x, x2, by simp [x3]⟩
    · intro x hx
      have hs : ∃ e' ∈ es.toList, e'.key = .int .i64 x := by
        rcases List.mem_append.1 hx with hx | hx
        · exact hA x hx
        · rw [List.mem_singleton.1 hx]; exact ⟨e, h1, h2⟩
      obtain ⟨e', he', hk'⟩ := hs
      obtain ⟨i, hi, rfl⟩ := List.getElem_of_mem he'
      have hi' : i < es.size := by simpa using hi
      refine ⟨(es.modify j fun e => { e with key := .int .i64 s, val := .bool true }).toList[i]'(by simpa using hi'), List.getElem_mem _, ?_⟩
      by_cases hj : j = i
      · subst hj
        rw [hje, h2] at hk'
        simp [Array.getElem_modify, hk']
      · have : (es.modify j fun e => { e with key := .int .i64 s, val := .bool true }).toList[i]'(by simpa using hi') = es.toList[i]'hi := by simp [Array.getElem_modify, hj]
        rw [this]; exact hk'

/-! served -/
theorem wpList_make {P : Program} {ops : Array Oper} {rest : List Oper} {o : Oper} {a : Act} {w w' : World} {Q : Exit → Act → World → Prop} (hgd : o.guard = none) (t : TypeId) (ho : o.op = .makeMap t none) (v : Value)
    (hr : (Instr.makeMap t none).run P w = .ok v w') (h : wpList P ops Q rest (a.put o.dst v) w') : wpList P ops Q (o :: rest) a w :=
  wpList_plain hgd fun K hK => by
    unfold Oper.wp execOp
    simp only [ho, Option.map_none, Sem.run_bind, hr, Result.andThen_ok, Sem.run_pure]
    exact hK _ _ h
theorem make154 (w : World) : (Instr.makeMap 154 none).run Try.prog w = .ok (.map (some w.heap.size)) (w.alloc (.map #[] 0)) := by kernel_rfl
def heardTo (wd : Int) (xs : List Int) (wind voice : Int) (S : List Int) (k : Nat) : List Int := (S.take k).flatMap fun s => housesL wd xs wind voice s
def countTo (A H : List Int) (k : Nat) : Nat := ((H.take k).filter fun h => decide (h ∈ A)).length
theorem heardTo_next {wd : Int} {xs : List Int} {wind voice : Int} {S : List Int} {k : Nat} (h : k < S.length) : heardTo wd xs wind voice S (k + 1) = heardTo wd xs wind voice S k ++ housesL wd xs wind voice (S.getD k 0) := by
  unfold heardTo
  rw [List.take_add_one, List.getElem?_eq_getElem h, List.flatMap_append, List.getD_eq_getElem?_getD, List.getElem?_eq_getElem h]
  simp
theorem countTo_yes {A H : List Int} {k : Nat} (h : k < H.length) (e : decide (H.getD k 0 ∈ A) = true) : countTo A H (k + 1) = countTo A H k + 1 := by
  unfold countTo
  rw [List.getD_eq_getElem?_getD, List.getElem?_eq_getElem h] at e
  rw [List.take_add_one, List.getElem?_eq_getElem h, List.filter_append]
  simp at e
  simp [e]
theorem countTo_no {A H : List Int} {k : Nat} (h : k < H.length) (e : decide (H.getD k 0 ∈ A) = false) : countTo A H (k + 1) = countTo A H k := by
  unfold countTo
  rw [List.getD_eq_getElem?_getD, List.getElem?_eq_getElem h] at e
  rw [List.take_add_one, List.getElem?_eq_getElem h, List.filter_append]
  simp at e
  simp [e]
theorem countTo_le (A H : List Int) (k : Nat) : countTo A H k ≤ k := by
  unfold countTo
  refine Nat.le_trans (List.length_filter_le _ _) ?_
  rw [List.length_take]; omega

theorem housesL_len (wd : Int) (xs : List Int) (wind voice s : Int) : (housesL wd xs wind voice s).length ≤ 30 := by
  unfold housesL
  split
  · rename_i h
    obtain ⟨h1, h2, h3⟩ := atE_ok h
    obtain ⟨t, -, hw', hx, ok⟩ := town_name h1
    subst hw' hx
    rw [townOf_self]
    exact Nat.le_trans (housesTo_len _ _ _ _ _) ok.n30
  · simp

set_option maxHeartbeats 4000000 in
set_option maxRecDepth 100000 in
theorem served_ok (wd wind voice : Int) (a : Option Addr) (cap : Nat) (xs : List Int) (hl : xs.length ≤ 1000000) (ah sa : Option Addr) (ch cs : Nat) (H S : List Int) (hH : H.length ≤ 1000000) (hS : S.length ≤ 1000000) (w : World)
    (hR : RdI w (.slice a xs.length cap) xs) (hRH : RdI w (.slice ah H.length ch) H) (hRS : RdI w (.slice sa S.length cs) S) (hok : ∀ s ∈ S, atE wd xs wind voice s 0 = 0) :
    Calls Try.prog 67 #[.agg #[.int .i64 wd, .slice a xs.length cap], .agg #[.int .i64 wind, .int .i64 voice], .slice ah H.length ch, .slice sa S.length cs] w fun e w' =>
      e = .returned (.tuple #[.int .i64 (countTo (heardTo wd xs wind voice S S.length) H H.length), .bool true]) ∧ Below w.heap.size w w' := by
  have HR := Lib.hid hR
  have HH := Lib.hid hRH
  have HS := Lib.hid hRS
  have HOK := Lib.hid hok
  have hb0 : ∀ o1 o2 o3, Below w.heap.size w (((w.alloc o1).alloc o2).alloc o3) := fun o1 o2 o3 => al (al (al (Below.refl _ _) _) _) _
  have hmp : ∀ o1 o2, SetM (((w.alloc o1).alloc o2).alloc (.map #[] 0)) (w.heap.size + 1 + 1) [] := fun o1 o2 => ⟨#[], 0, by have := heap_alloc_last ((w.alloc o1).alloc o2) (.map #[] 0); simpa using this, by simp, by simp⟩
  have hx0 : ∀ o3, (((w.alloc (.cells #[.int .i64 wd, .slice a xs.length cap] 24)).alloc (.cells #[.int .i64 wind, .int .i64 voice] 27)).alloc o3).heap[w.heap.size]? = some (.cells #[.int .i64 wd, .slice a xs.length cap] 24 (0, 0)) := fun o3 => by
    rw [Below.heap_alloc _ _ _ (by simp; omega), Below.heap_alloc _ _ _ (by simp)]; exact heap_alloc_last _ _
  have hx1 : ∀ o1 o3, (((w.alloc o1).alloc (.cells #[.int .i64 wind, .int .i64 voice] 27)).alloc o3).heap[w.heap.size + 1]? = some (.cells #[.int .i64 wind, .int .i64 voice] 27 (0, 0)) := fun o1 o3 => by
    rw [Below.heap_alloc _ _ _ (by simp)]; have := heap_alloc_last (w.alloc o1) (.cells #[.int .i64 wind, .int .i64 voice] 27); simpa using this
  have HB0 := Lib.hid hb0
  have HMP := Lib.hid hmp
  have HX0 := Lib.hid hx0
  have HX1 := Lib.hid hx1
  have hsl : S.length < 9223372036854775807 := by omega
  have hhl : H.length < 9223372036854775807 := by omega
  obtain ⟨A, hA⟩ : ∃ A, A = heardTo wd xs wind voice S S.length := ⟨_, rfl⟩
  rw [← hA]
  have HAQ := Lib.hid hA
  clear hR hRH hRS hok hb0 hmp hx0 hx1 hA
  go_enter Try.func67, Try.ntmps67
  go_wp2_with (with_reducible refine wpList_make rfl 154 rfl _ (make154 _) ?_)
  obtain ⟨W0, hW0⟩ : ∃ W0 : World, W0 = ((w.alloc (Obj.cells #[Value.int IntKind.i64 wd, Value.slice a xs.length cap] 24)).alloc (Obj.cells #[Value.int IntKind.i64 wind, Value.int IntKind.i64 voice] 27)).alloc (Obj.map #[] 0) := ⟨_, rfl⟩
  have hs0 : W0.heap.size = w.heap.size + 1 + 1 + 1 := by rw [hW0]; simp
  have HS0 := Lib.hid hs0
  have HB := Lib.hid (show Below w.heap.size w W0 by rw [hW0]; exact HB0.out _ _ _)
  have HM0 := Lib.hid (show SetM W0 (w.heap.size + 1 + 1) [] by rw [hW0]; exact HMP.out _ _)
  have HXA := Lib.hid (show W0.heap[w.heap.size]? = some (.cells #[.int .i64 wd, .slice a xs.length cap] 24 (0, 0)) by rw [hW0]; exact HX0.out _)
  have HXB := Lib.hid (show W0.heap[w.heap.size + 1]? = some (.cells #[.int .i64 wind, .int .i64 voice] 27 (0, 0)) by rw [hW0]; exact HX1.out _ _)
  rw [← hW0]
  clear hW0 hs0 HB0 HMP HX0 HX1
  go_loopw [23] (fun i wr => ∃ k : Nat, k ≤ S.length ∧ i = .int .i64 k ∧ SetM wr (w.heap.size + 1 + 1) (heardTo wd xs wind voice S k) ∧ Below (w.heap.size + 1 + 1) W0 wr) (fun i _ => S.length - (intOf i).toNat)
  case atStart => exact ⟨0, Nat.zero_le _, rfl, HM0.out.congr (by unfold heardTo; simp), Below.refl _ _⟩
  case round =>
    obtain ⟨k, hk, rfl, hM, hBk⟩ := hrel
    obtain ⟨wk, rfl⟩ : ∃ wk : World, wk = wr := ⟨_, rfl⟩
    have HM := Lib.hid hM
    have HBk := Lib.hid hBk
    have HBw := Lib.hid (HB.out.trans (hBk.mono (by omega)))
    have hszk : w.heap.size + 1 + 1 + 1 ≤ wk.heap.size := by have := hBk.size; have := HS0.out; omega
    obtain ⟨k0, k1⟩ := blk_cells2 ((hBk.block w.heap.size (by omega)).trans HXA.out)
    obtain ⟨j0, j1⟩ := blk_cells2 ((hBk.block (w.heap.size + 1) (by omega)).trans HXB.out)
    have hl0 : w.heap.size < wk.heap.size := by omega
    have hl1 : w.heap.size + 1 < wk.heap.size := by omega
    clear hM hBk
    by_cases hlt : k < S.length
    · have hne : S ≠ [] := by intro e; rw [e] at hlt; simp at hlt
      obtain ⟨b, o, rfl, -, hIS⟩ := rd_ints (HS.out.below HBw.out) hne
      obtain ⟨s, hs⟩ : ∃ s, s = S.getD k 0 := ⟨_, rfl⟩
      have hcell := hIS.2 k hlt
      have hbl := hIS.1
      rw [← hs] at hcell
      have hat : atE wd xs wind voice s 0 = 0 := HOK.out s (by rw [hs, List.getD_eq_getElem?_getD, List.getElem?_eq_getElem hlt]; simp)
      have hlt' : (k : Int) < S.length := by omega
      have HHO := Lib.hid (Houses_any wd wind voice s a cap xs hl wk (HR.out.below HBw.out))
      rw [hat] at HHO
      have HNX : Hid (heardTo wd xs wind voice S (k + 1) = heardTo wd xs wind voice S k ++ housesL wd xs wind voice s) := Lib.hid (by rw [heardTo_next hlt, hs])
      obtain ⟨L, hL⟩ : ∃ L, L = housesL wd xs wind voice s := ⟨_, rfl⟩
      rw [← hL] at HHO HNX
      clear hIS hs hat
      go_wp2_with fail
      refine HHO.out.mono ?_
      rintro e w5 ⟨v, rfl, hown, hB5⟩
      have HL := Lib.hid (RdI.own rfl rfl hown)
      have HOWN := Lib.hid hown
      have HB5 := Lib.hid hB5
      have hs5 := hB5.size
      have HM5 := Lib.hid (HM.out.below hB5)
      obtain ⟨ob, cp, rfl⟩ := own_slice hown
      have hLl : L.length < 9223372036854775807 := by
        have h1 := housesL_len wd xs wind voice s
        rw [← hL] at h1
        omega
      clear hown hB5 HHO hL
      go_wp2_with fail
      clear k0 k1 j0 j1 hcell
      go_loopw [38] (fun i wr => ∃ j : Nat, j ≤ L.length ∧ i = .int .i64 j ∧ SetM wr (w.heap.size + 1 + 1) (heardTo wd xs wind voice S k ++ L.take j) ∧ Aft (w.heap.size + 1 + 1) w5 wr) (fun i _ => L.length - (intOf i).toNat)
      case atStart => exact ⟨0, Nat.zero_le _, rfl, HM5.out.congr (by simp), Aft.of (Hold.refl _ _)⟩
      case round =>
        obtain ⟨j, hj, rfl, hM, hA⟩ := hrel
        obtain ⟨wj, rfl⟩ : ∃ wj : World, wj = wr := ⟨_, rfl⟩
        have HMj := Lib.hid hM
        have HA := Lib.hid hA
        clear hM hA
        by_cases hjl : j < L.length
        · have hjl' : (j : Int) < L.length := by omega
          have hneL : L ≠ [] := by intro e; rw [e] at hjl; simp at hjl
          have hLj := HL.out.hold HA.out (own_off HOWN.out (QB := w.heap.size + 1 + 1) (by omega))
          obtain ⟨b2, o2, rfl, -, hIL⟩ := rd_ints hLj hneL
          obtain ⟨h, hh⟩ : ∃ h, h = L.getD j 0 := ⟨_, rfl⟩
          have hcell := hIL.2 j hjl
          have hbl2 := hIL.1
          rw [← hh] at hcell
          obtain ⟨w8, hupd, hM8, hA8⟩ := upd_set HMj.out h
          have HUPD := Lib.hid hupd
          have HM8 := Lib.hid (hM8.congr (B := heardTo wd xs wind voice S k ++ L.take (j + 1)) (by rw [List.take_add_one, List.append_assoc, hh, List.getD_eq_getElem?_getD, List.getElem?_eq_getElem hjl]; simp))
          have HA8 := Lib.hid (Hold.trans HA.out hA8)
          clear hupd hM8 hA8 hLj hIL hh
          go_wp2_with (with_reducible refine wpList_upd rfl 154 _ _ _ rfl (.map (some (w.heap.size + 1 + 1))) (.int .i64 h) (.bool true) rfl rfl rfl HUPD.out ?_)
          go_roundw
          case rel => exact ⟨j + 1, by omega, by simp, HM8.out, HA8.out⟩
          case measure => simp [intOf]; omega
        · obtain rfl : j = L.length := by omega
          have HMN := Lib.hid (HMj.out.congr (B := heardTo wd xs wind voice S (k + 1)) (by rw [HNX.out, List.take_length]))
          have HBN := Lib.hid (HBk.out.trans ((HB5.out.mono (by omega)).trans (Aft.low HA.out (Nat.le_refl _) (by omega))))
          go_wp2_with fail
          go_roundw
          case rel => exact ⟨k + 1, by omega, by simp, HMN.out, HBN.out⟩
          case measure => simp [intOf]; omega
    · obtain rfl : k = S.length := by omega
      have hM := HM.out
      rw [← HAQ.out] at hM
      have HM := Lib.hid hM
      have HHk := Lib.hid (HH.out.below HBw.out)
      clear k0 k1 j0 j1 hM
      go_wp2_with fail
      go_loopw [17, 48] (fun n i wr => ∃ j : Nat, j ≤ H.length ∧ i = .int .i64 j ∧ n = .int .i64 (countTo A H j) ∧ wr = wk) (fun _ i _ => H.length - (intOf i).toNat)
      case atStart => exact ⟨0, Nat.zero_le _, rfl, rfl, rfl⟩
      case round =>
        obtain ⟨j, hj, rfl, rfl, rfl⟩ := hrel
        obtain ⟨wk, rfl⟩ : ∃ wk : World, wk = wr := ⟨_, rfl⟩
        by_cases hjl : j < H.length
        · have hjl' : (j : Int) < H.length := by omega
          have hneL : H ≠ [] := by intro e; rw [e] at hjl; simp at hjl
          obtain ⟨b2, o2, rfl, -, hIL⟩ := rd_ints HHk.out hneL
          obtain ⟨h, hh⟩ : ∃ h, h = H.getD j 0 := ⟨_, rfl⟩
          have hcell := hIL.2 j hjl
          have hbl2 := hIL.1
          rw [← hh] at hcell
          have hlook := look_set HM.out h
          have hyes := fun e => countTo_yes (A := A) hjl (by rw [← hh]; exact e)
          have hno := fun e => countTo_no (A := A) hjl (by rw [← hh]; exact e)
          have hle := countTo_le A H j
          generalize hd : decide (h ∈ A) = d at hlook hyes hno
          have HLK := Lib.hid hlook
          have HY := Lib.hid (And.intro hyes hno)
          obtain ⟨n, hn⟩ : ∃ n, n = countTo A H j := ⟨_, rfl⟩
          rw [← hn] at hle HY ⊢
          clear hlook hyes hno hIL hh hd hn
          cases d with
          | true =>
            go_wp2_with (with_reducible refine wpList_look rfl 154 _ _ false rfl (.map (some (w.heap.size + 1 + 1))) (.int .i64 h) _ rfl rfl HLK.out ?_)
            go_roundw
            case rel => exact ⟨j + 1, by omega, by simp, by rw [HY.out.1 rfl]; simp, trivial⟩
            case measure => simp [intOf]; omega
          | false =>
            go_wp2_with (with_reducible refine wpList_look rfl 154 _ _ false rfl (.map (some (w.heap.size + 1 + 1))) (.int .i64 h) _ rfl rfl HLK.out ?_)
            go_roundw
            case rel => exact ⟨j + 1, by omega, by simp, by rw [HY.out.2 rfl], trivial⟩
            case measure => simp [intOf]; omega
        · obtain rfl : j = H.length := by omega
          go_wp2_with fail
          go_ret2
          exact ⟨rfl, HBw.out⟩
end Go.Proofs.Ytimedmkpenbmkaa

namespace Go.Proofs.Ytimedmkpenbmkaa
open Go.RowKit Go.Shelf
set_option linter.unusedSimpArgs false
set_option linter.unusedVariables false

/-! DeleteFunc of ints -/
/-- a closure that tells a bool of a number, and writes nothing below -/
def Entered (F : FuncId) : Prop := ∀ args w, (callFunc F args).run Try.prog w = .ok (.enter F args) w
def AskI (F : FuncId) (E : Value) (p : Int → Bool) (w : World) : Prop := ∀ h : Int, Calls Try.prog F #[.int .i64 h, E] w fun e w' => e = .returned (.bool (p h)) ∧ Below w.heap.size w w'

def idxOk (p : Int → Bool) (xs : List Int) (z : Int) : Prop := (z = -1 ∧ ∀ i, i < xs.length → p (xs.getD i 0) = false) ∨ ∃ k : Nat, z = k ∧ k < xs.length ∧ p (xs.getD k 0) = true ∧ ∀ i, i < k → p (xs.getD i 0) = false

set_option maxHeartbeats 1000000 in
set_option maxRecDepth 100000 in
theorem indexFuncI (F : FuncId) (hF : Entered F) (E : Value) (p : Int → Bool) (b o n cap : Nat) (xs : List Int) (hn : n = xs.length) (hl : xs.length ≤ 1000000) (w : World) (hI : Ints w b o xs) (hp : ∀ W, Below w.heap.size w W → AskI F E p W) :
    Calls Try.prog 119 #[.slice (some ⟨b, o, none⟩) n cap, .func (.func F) #[] #[E]] w fun e w' => ∃ z : Int, e = .returned (.int .i64 z) ∧ idxOk p xs z ∧ Below w.heap.size w w' := by
  have HI := Lib.hid hI
  have HP := Lib.hid hp
  have HN := Lib.hid hn
  rw [← hn] at hl
  clear hI hp hn
  go_enter Try.func119, Try.ntmps119
  go_wp2_with fail
  go_loopw [8] (fun i wr => ∃ k : Nat, k ≤ n ∧ i = .int .i64 k ∧ (∀ i, i < k → p (xs.getD i 0) = false) ∧ Below w.heap.size w wr) (fun i _ => n - (intOf i).toNat)
  case atStart => exact ⟨0, Nat.zero_le _, rfl, fun i hi => absurd hi (Nat.not_lt_zero _), Below.refl _ _⟩
  case round =>
    obtain ⟨k, hk, rfl, hA, hB⟩ := hrel
    obtain ⟨wk, rfl⟩ : ∃ wk : World, wk = wr := ⟨_, rfl⟩
    have HA := Lib.hid hA
    have HB := Lib.hid hB
    by_cases hlt : k < n
    · have hlt' : (k : Int) < n := by omega
      have hI := HI.out.below hB HI.out.1
      have hcell := hI.2 k (by have := HN.out; omega)
      have hbl := hI.1
      obtain ⟨h, hh⟩ : ∃ h, h = xs.getD k 0 := ⟨_, rfl⟩
      rw [← hh] at hcell
      have HH := Lib.hid hh
      have HASK := Lib.hid (HP.out wk hB h)
      clear hA hB hI hh
      go_wp2_with fail
      rw [hF, Oper.upon_enter]
      refine HASK.out.mono ?_
      rintro e w5 ⟨rfl, hB5⟩
      have HB5 := Lib.hid (join HB.out hB5)
      clear hB5 hcell hbl
      obtain ⟨d, hd⟩ : ∃ d, d = p h := ⟨_, rfl⟩
      have HD := Lib.hid hd
      rw [← hd]
      clear hd HASK
      cases d with
      | false =>
        go_wp2_with fail
        go_roundw
        case rel =>
          refine ⟨k + 1, by omega, by simp, fun i hi => ?_, HB5.out⟩
          by_cases hik : i = k
          · rw [hik, ← HH.out]; exact HD.out.symm
          · exact HA.out i (by omega)
        case measure => simp [intOf]; omega
      | true =>
        go_wp2_with fail
        go_ret
        exact ⟨k, rfl, .inr ⟨k, rfl, by have := HN.out; omega, by rw [← HH.out]; exact HD.out.symm, HA.out⟩, HB5.out⟩
    · obtain rfl : k = n := by omega
      clear hA hB
      go_wp2_with fail
      go_ret
      exact ⟨-1, rfl, .inl ⟨rfl, by rw [← HN.out]; exact HA.out⟩, HB.out⟩

def keptTo (p : Int → Bool) (xs : List Int) (j : Nat) : List Int := (xs.take j).filter fun h => !(p h)
theorem keptTo_yes {p : Int → Bool} {xs : List Int} {j : Nat} (h : j < xs.length) (e : p (xs.getD j 0) = false) : keptTo p xs (j + 1) = keptTo p xs j ++ [xs.getD j 0] := by
  unfold keptTo
  rw [List.getD_eq_getElem?_getD, List.getElem?_eq_getElem h] at e ⊢
  rw [List.take_add_one, List.getElem?_eq_getElem h, List.filter_append]
  simp at e
  simp [e]
theorem keptTo_no {p : Int → Bool} {xs : List Int} {j : Nat} (h : j < xs.length) (e : p (xs.getD j 0) = true) : keptTo p xs (j + 1) = keptTo p xs j := by
  unfold keptTo
  rw [List.getD_eq_getElem?_getD, List.getElem?_eq_getElem h] at e
  rw [List.take_add_one, List.getElem?_eq_getElem h, List.filter_append]
  simp at e
  simp [e]
theorem keptTo_all {p : Int → Bool} {xs : List Int} {k : Nat} (hk : k ≤ xs.length) (h : ∀ i, i < k → p (xs.getD i 0) = false) : keptTo p xs k = xs.take k := by
  unfold keptTo
  rw [List.filter_eq_self]
  intro a ha
  obtain ⟨i, hi, rfl⟩ := List.getElem_of_mem ha
  have hi' : i < k := by simp at hi; omega
  have := h i hi'
  rw [List.getD_eq_getElem?_getD, List.getElem?_eq_getElem (by omega)] at this
  simp at this
  simp [this]
/-- what the row holds when kept of the first j are moved to its front -/
structure KeptAt2 (p : Int → Bool) (xs T : List Int) (i j : Nat) : Prop where
  len : T.length = xs.length
  lt : i < j
  le : j ≤ xs.length
  num : i = (keptTo p xs j).length
  front : T.take i = keptTo p xs j
  back : ∀ q, j ≤ q → q < xs.length → T.getD q 0 = xs.getD q 0
theorem KeptAt2.start {p : Int → Bool} {xs : List Int} {k : Nat} (hk : k < xs.length) (h1 : p (xs.getD k 0) = true) (h0 : ∀ i, i < k → p (xs.getD i 0) = false) : KeptAt2 p xs xs k (k + 1) := by
  have e : keptTo p xs (k + 1) = xs.take k := by rw [keptTo_no hk h1, keptTo_all (by omega) h0]
  exact ⟨rfl, by omega, by omega, by rw [e, List.length_take]; omega, e.symm, fun _ _ _ => rfl⟩
theorem KeptAt2.skip {p : Int → Bool} {xs T : List Int} {i j : Nat} (h : KeptAt2 p xs T i j) (hj : j < xs.length) (e : p (xs.getD j 0) = true) : KeptAt2 p xs T i (j + 1) := by
  have e := keptTo_no hj e
  exact ⟨h.len, by have := h.lt; omega, by omega, by rw [e]; exact h.num, by rw [e]; exact h.front, fun q hq hq2 => h.back q (by omega) hq2⟩
theorem KeptAt2.take {p : Int → Bool} {xs T : List Int} {i j : Nat} (h : KeptAt2 p xs T i j) (hj : j < xs.length) (e : p (xs.getD j 0) = false) : KeptAt2 p xs (T.set i (xs.getD j 0)) (i + 1) (j + 1) := by
  have e := keptTo_yes hj e
  have hlt := h.lt
  have hle := h.le
  have hlen := h.len
  refine ⟨by rw [List.length_set]; exact h.len, by omega, by omega, by rw [e, List.length_append, ← h.num]; rfl, ?_, fun q hq hq2 => ?_⟩
  · rw [e, ← h.front, List.take_add_one, List.getElem?_set_self (by omega), List.take_set_of_le (Nat.le_refl _)]; rfl
  · have := h.back q (by omega) hq2
    rw [List.getD_eq_getElem?_getD] at this ⊢
    rw [List.getElem?_set_ne (by omega)]
    exact this
theorem tab_zeros (g : Nat) : ∀ (l o : Nat) (w : World) (T : List Int), TabAt w g T → o + l ≤ T.length → ∃ T', T'.length = T.length ∧ T'.take o = T.take o ∧ TabAt (w.setCells g o (List.replicate l (.int .i64 0))) g T'
  | 0, o, w, T, h, _ => ⟨T, rfl, rfl, h⟩
  | l + 1, o, w, T, h, hl => by
    obtain ⟨T', h1, h2, h3⟩ := tab_zeros g l (o + 1) _ _ (h.set (i := o) (by omega) 0) (by rw [List.length_set]; omega)
    refine ⟨T', by rw [h1, List.length_set], ?_, h3⟩
    have := congrArg (List.take o) h2
    rw [List.take_take, List.take_take, Nat.min_eq_left (by omega), List.take_set_of_le (Nat.le_refl _)] at this
    exact this
theorem aft_setCells (g : Nat) : ∀ (vs : List Value) (o : Nat) (w : World), Aft g w (w.setCells g o vs)
  | [], _, w => Hold.refl _ _
  | v :: r, o, w => Hold.trans (Hold.set w g o v) (aft_setCells g r (o + 1) _)

theorem wpList_clear_tab {ops : Array Oper} {rest : List Oper} {op : Oper} {a : Act} {w : World} {Q : Exit → Act → World → Prop} (hgd : op.guard = none) (x : Operand) (t : TypeId) (ho : op.op = .call { callee := .builtin .clear, args := #[x], argTypes := #[t] })
    (ht : Try.prog.underlying t = some (.slice 3)) (g o n c : Nat) (T : List Int) (hx : a.eval x = .slice (some ⟨g, o, none⟩) n c) (hn : 0 < n) (hT : TabAt w g T) (hb : o + n ≤ T.length)
    (h : wpList Try.prog ops Q rest (a.put op.dst (.tuple #[])) (w.setCells g o (List.replicate n (.int .i64 0)))) : wpList Try.prog ops Q (op :: rest) a w := by
  refine wpList_plain hgd fun K hK => ?_
  have hrun := Lib.run_clear_slice (P := Try.prog) w t 3 op.type (.int .i64 0) ht (fun w => by kernel_rfl) rfl rfl g o n c hn (fun j hj => by rw [hT.cell (by omega)]; rfl) (fun j hj => hT.free _)
  unfold Oper.wp
  simp [execOp, ho, resolve, invoke, builtin, hx, hrun, Result.andThen]
  exact hK _ _ h

set_option maxHeartbeats 2000000 in
set_option maxRecDepth 100000 in
theorem deleteFuncI (F : FuncId) (hF : Entered F) (E : Value) (p : Int → Bool) (g n : Nat) (xs : List Int) (hn : n = xs.length) (hl : xs.length ≤ 1000000) (w : World) (hT : TabAt w g xs) (hp : ∀ W, Aft g w W → AskI F E p W) :
    Calls Try.prog 72 #[.slice (some ⟨g, 0, none⟩) n n, .func (.func F) #[] #[E]] w fun e w' => e = .returned (.slice (some ⟨g, 0, none⟩) (keptTo p xs n).length n) ∧ Ints w' g 0 (keptTo p xs n) ∧ Aft g w w' := by
  have HT := Lib.hid hT
  have HP := Lib.hid hp
  have HN := Lib.hid hn
  have HIX := Lib.hid (indexFuncI F hF E p g 0 n n xs hn hl w hT.ints (fun W hB => hp W (Aft.below (Aft.of (Hold.refl _ _)) hB)))
  rw [← hn] at hl
  obtain ⟨R, hR⟩ : ∃ R, R = keptTo p xs n := ⟨_, rfl⟩
  rw [← hR]
  have HR := Lib.hid hR
  clear hT hp hn hR
  go_enter Try.func72, Try.ntmps72
  go_wp2_with fail
  refine HIX.out.mono ?_
  rintro e w1 ⟨z, rfl, hz, hB⟩
  have HB := Lib.hid hB
  have hT1 := HT.out.below hB HT.out.lt
  have HT1 := Lib.hid hT1
  have HA1 : Hid (Aft g w w1) := Lib.hid (Aft.below (Aft.of (Hold.refl _ _)) hB)
  clear hB hT1 HIX
  rcases hz with ⟨hz0, hz⟩ | ⟨k, rfl, hk, hk1, hk0⟩
  · have e1 : R = xs := by rw [HR.out, HN.out, keptTo_all (Nat.le_refl _) hz, List.take_length]
    have e2 : R.length = n := by rw [e1, HN.out]
    have E1 := Lib.hid e1
    have E2 := Lib.hid e2
    have hkz : (z == -1) = true := by rw [hz0]; rfl
    clear hz e1 e2 hz0
    go_wp2_with fail
    go_ret
    exact ⟨by rw [E2.out]; rfl, by rw [E1.out]; exact HT1.out.ints, HA1.out⟩
  · have HK := Lib.hid (KeptAt2.start hk hk1 hk0)
    rw [← HN.out] at hk
    clear hk1 hk0
    have hkz : ((k : Int) == -1) = false := by simp
    go_wp2_with fail
    go_loopw [5, 6] (fun i5 i6 wr => ∃ (i j : Nat) (T : List Int), i5 = .int .i64 i ∧ i6 = .int .i64 j ∧ KeptAt2 p xs T i j ∧ TabAt wr g T ∧ Aft g w wr) (fun _ i6 _ => n - (intOf i6).toNat)
    case atStart => exact ⟨k, k + 1, xs, rfl, rfl, HK.out, HT1.out, HA1.out⟩
    case round =>
      obtain ⟨i, j, T, rfl, rfl, hK, hTT, hA⟩ := hrel
      obtain ⟨wk, rfl⟩ : ∃ wk : World, wk = wr := ⟨_, rfl⟩
      have HK := Lib.hid hK
      have HTT := Lib.hid hTT
      have HA := Lib.hid hA
      have hij := hK.lt
      have hjn := hK.le
      rw [← HN.out] at hjn
      have hTl := hK.len
      rw [← HN.out] at hTl
      have hbl := hTT.lt
      clear hK hTT hA
      by_cases hlt : j < n
      · have hlt' : (j : Int) < n := by omega
        obtain ⟨h, hh⟩ : ∃ h, h = xs.getD j 0 := ⟨_, rfl⟩
        have hcell := HTT.out.cell (i := j) (by omega)
        rw [HK.out.back j (Nat.le_refl _) (by have := HN.out; omega), ← hh] at hcell
        have HH := Lib.hid hh
        have HASK := Lib.hid (HP.out wk HA.out h)
        have HTL := Lib.hid hTl
        clear hh hTl
        go_wp2_with fail
        rw [hF, Oper.upon_enter]
        refine HASK.out.mono ?_
        rintro e w5 ⟨rfl, hB5⟩
        have HA5 := Lib.hid (Aft.below HA.out hB5)
        have hT5 := HTT.out.below hB5 HTT.out.lt
        have HT5 := Lib.hid hT5
        have hbl5 := hT5.lt
        have hc5 := hT5.cell (i := i) (by have := HTL.out; omega)
        have hf5 := hT5.free i
        obtain ⟨d, hd⟩ : ∃ d, d = p h := ⟨_, rfl⟩
        have HD := Lib.hid hd
        rw [← hd]
        clear hB5 hT5 hcell hd HASK
        cases d with
        | false =>
          have HK1 := Lib.hid (HK.out.take (by have := HN.out; omega) (by rw [← HH.out]; exact HD.out.symm))
          have hi' : (i : Int) < n := by omega
          go_wp2_with fail
          go_roundw
          case rel =>
            refine ⟨i + 1, j + 1, _, by simp, by simp, HK1.out, ?_, ?_⟩
            · rw [← HH.out]; exact HT5.out.set (by have := HTL.out; omega) _
            · exact Hold.trans HA5.out (Hold.set _ _ _ _)
          case measure => simp [intOf]; omega
        | true =>
          have HK1 := Lib.hid (HK.out.skip (by have := HN.out; omega) (by rw [← HH.out]; exact HD.out.symm))
          clear hc5 hf5
          go_wp2_with fail
          go_roundw
          case rel => exact ⟨i, j + 1, T, rfl, by simp, HK1.out, HT5.out, HA5.out⟩
          case measure => simp [intOf]; omega
      · obtain rfl : j = n := by omega
        have hin : i ≤ j := by omega
        obtain ⟨T', l1, l2, l3⟩ := tab_zeros g (j - i) i wk T HTT.out (by omega)
        have e1 : R = T'.take i := by rw [l2, HK.out.front, HR.out]
        have e2 : R.length = i := by rw [HK.out.num, HR.out]
        have HTN := Lib.hid l3
        have E1 := Lib.hid e1
        have E2 := Lib.hid e2
        have L1 := Lib.hid l1
        have HTL := Lib.hid hTl
        clear l1 l2 l3 e1 e2 hTl
        go_wp2_with (with_reducible refine wpList_clear_tab rfl _ 31 rfl A_und31 g i (j - i) (j - i) T (by first | rfl | simp [go_sem]) (by omega) HTT.out (by have := HTL.out; omega) ?_)
        go_ret
        refine ⟨by rw [E2.out]; rfl, ?_, Hold.trans HA.out (aft_setCells _ _ _ _)⟩
        have hI := HTN.out.ints
        refine ⟨hI.1, fun q hq => ?_⟩
        rw [E2.out] at hq
        rw [hI.2 q (by have := HTL.out; have := L1.out; omega), E1.out]
        simp [List.getD_eq_getElem?_getD, List.getElem?_take, hq]
end Go.Proofs.Ytimedmkpenbmkaa

/- A region by what each of its operations leaves, over any way in which worlds may go on. -/
namespace Go.Proofs.Ytimedmkpenbmkaa.Rg
set_option linter.unusedSimpArgs false
set_option linter.unusedVariables false
open Go Go.RowKit Go.Proofs.Ytimedmkpenbmkaa.Rs
variable {P : Program} {ops : Array Oper}

/-- a way in which worlds may go on -/
structure IsGr (G : World → World → Prop) : Prop where
  refl : ∀ w, G w w
  trans : ∀ {a b c}, G a b → G b c → G a c
  drew : ∀ w : World, G w { w with drawn := w.drawn + 1 }
/-- what an operation leaves, where it only adds to the memory -/
def GrowAt (G : World → World → Prop) (P : Program) (o : Oper) (a : Act) (w : World) (Φ : Value → World → Prop) : Prop :=
  match (execOp a.eval o).run P w with
  | .ok (.value v) w' => G w w' ∧ Φ v w'
  | .ok .skip w' => G w w' ∧ Φ undef w'
  | .ok (.enter f args) w' => G w w' ∧ Calls P f args w' (fun e w'' => ∃ v, e = .returned v ∧ G w' w'' ∧ Φ v w'')
  | _ => False

/-- what is asked of one operation -/
def StepOk (G : World → World → Prop) (P : Program) (ops : Array Oper) (o : Oper) (a : Act) (w : World) (Φ : Value → World → Prop) : Prop :=
  if Region.wanted o (yielded ops a.tmps) = true then GrowAt G P o a w Φ else Φ undef w

section main
variable {n : Nat} {dl : List (List Nat)} {a0 : Act} {w0 : World} {Q : Exit → Act → World → Prop}

structure Inv (G : World → World → Prop) (ops : Array Oper) (n : Nat) (dl : List (List Nat)) (Spec : Nat → List Value → Value → World → Prop) (a0 : Act) (w0 : World) (V : Nat → Value) (listed : Array Bool) (a : Act) (w : World) : Prop where
  head : HeadInv .any ops n listed
  size : a.tmps.size = a0.tmps.size
  defers : a.defers = a0.defers
  slot : ∀ k, k < n → listed.getD k false = true → ∀ d, dstOf ops k = some d → d < a0.tmps.size → a.tmps[d]? = some (V k)
  other : ∀ d, (∀ k, k < n → listed.getD k false = true → dstOf ops k ≠ some d) → a.tmps[d]? = a0.tmps[d]?
  spec : ∀ k, k < n → listed.getD k false = true → Spec k ((dl.getD k []).map V) (V k) w
  gr : G w0 w

theorem Inv.looks {G : World → World → Prop} {Spec : Nat → List Value → Value → World → Prop} {V : Nat → Value} {listed : Array Bool} {a : Act} {w : World} (inv : Inv G ops n dl Spec a0 w0 V listed a w) {i : Nat} {o : Oper} (hi : ops[i]? = some o) (_hin : i < n) (hiu : listed.getD i false = false)
    (hr : ∀ e ∈ o.after, Region.binds .any e = true → listed.getD e.on false = true)
    (hdl : ∀ k ∈ dl.getD i [], k < n ∧ k ∈ depsOf ops n i)
    (hlook : ∀ k, k < n → ∀ d, dstOf ops k = some d → (d ∈ o.looksAt ops → k ∈ dl.getD i [] ∨ i ∈ depsOf ops n k ∨ i = k) ∧ True)
    (hnd : ∀ j k, j < n → k < n → j ≠ k → ∀ d, dstOf ops k = some d → dstOf ops j ≠ some d) :
    ∀ d ∈ o.looksAt ops, a.tmps[d]? = (canon ops V a0 (dl.getD i [])).tmps[d]? := by
  intro d hd
  have hdep : ∀ k ∈ dl.getD i [], listed.getD k false = true := fun k hk => depsOf_listed inv.head.closed n i (fun o' ho' => by rw [hi] at ho'; cases ho'; exact hr) k (hdl k hk).2
  by_cases hlt : d < a0.tmps.size
  · by_cases hex : ∃ k, k ∈ dl.getD i [] ∧ dstOf ops k = some d
    · obtain ⟨k, hk, hkd⟩ := hex
      rw [inv.slot k (hdl k hk).1 (hdep k hk) d hkd hlt, canon_in V hkd _ _ hk (fun j hj hjk => hnd j k (hdl j hj).1 (hdl k hk).1 hjk d hkd) hlt]
    · rw [canon_out V _ _ (fun k hk e => hex ⟨k, hk, e⟩)]
      refine inv.other d (fun k hk hl e => ?_)
      rcases (hlook k hk d e).1 hd with h | h | h
      · exact hex ⟨k, h, e⟩
      · have := depsOf_listed inv.head.closed n k (fun o' ho' e' he' hb' => inv.head.closed k o' ho' hl e' he' hb') i h
        rw [hiu] at this; cases this
      · subst h; rw [hiu] at hl; cases hl
  · have e1 : a.tmps[d]? = none := Array.getElem?_eq_none (by rw [inv.size]; exact Nat.le_of_not_lt hlt)
    have e2 : (canon ops V a0 (dl.getD i [])).tmps[d]? = none := Array.getElem?_eq_none (by rw [size_canon]; exact Nat.le_of_not_lt hlt)
    rw [e1, e2]

theorem Inv.step {G : World → World → Prop} (hG : IsGr G) {Spec : Nat → List Value → Value → World → Prop} {V : Nat → Value} {listed : Array Bool} {a : Act} {w w' : World} (inv : Inv G ops n dl Spec a0 w0 V listed a w) {i : Nat} {o : Oper} {v : Value} (hi : ops[i]? = some o) (hin : i < n) (hiu : listed.getD i false = false)
    (hri : i ∈ Region.ready .any ops listed)
    (hdl : ∀ j, j < n → ∀ k ∈ dl.getD j [], k < n ∧ k ∈ depsOf ops n j)
    (hnd : ∀ j k, j < n → k < n → j ≠ k → ∀ d, dstOf ops k = some d → dstOf ops j ≠ some d)
    (stable : ∀ i L v w w', Spec i L v w → G w w' → Spec i L v w')
    (hg : G w w') (hs : Spec i ((dl.getD i []).map V) v w') :
    Inv G ops n dl Spec a0 w0 (fun k => if k = i then v else V k) (listed.setIfInBounds i true) (a.put o.dst v) w' := by
  have hisz : i < listed.size := by rw [inv.head.size]; exact (Array.getElem?_eq_some_iff.1 hi).1
  have hdst : dstOf ops i = o.dst := by simp [dstOf, hi]
  have hdep : ∀ k, k < n → (k = i ∨ listed.getD k false = true) → ∀ j ∈ dl.getD k [], j ≠ i := fun k hk hkl j hj e => by
    have hm := (hdl k hk j hj).2
    rw [e] at hm
    have : listed.getD i false = true := by
      rcases hkl with rfl | hkl
      · obtain ⟨_, o', ho', hall⟩ := mem_ready.1 hri
        exact depsOf_listed inv.head.closed n k (fun o'' ho'' => by rw [ho'] at ho''; cases ho''; exact hall) k hm
      · exact depsOf_listed inv.head.closed n k (fun o' ho' e' he' hb' => inv.head.closed k o' ho' hkl e' he' hb') i hm
    rw [hiu] at this; cases this
  have hmap : ∀ k, k < n → (k = i ∨ listed.getD k false = true) → (dl.getD k []).map (fun k => if k = i then v else V k) = (dl.getD k []).map V := fun k hk hkl =>
    List.map_congr_left fun j hj => by rw [if_neg (hdep k hk hkl j hj)]
  refine ⟨inv.head.set hri hin, ?_, ?_, fun k hk hl d hd hlt => ?_, fun d hd => ?_, fun k hk hl => ?_, hG.trans inv.gr hg⟩
  · rw [← inv.size]; cases o.dst <;> simp [Act.put]
  · rw [← inv.defers]; cases o.dst <;> rfl
  · by_cases hki : k = i
    · subst hki
      rw [hdst] at hd
      rw [if_pos rfl, hd]
      simp [Act.put, inv.size, hlt]
    · rw [if_neg hki]
      rw [getD_set_ne false (fun e => hki e.symm)] at hl
      rw [← inv.slot k hk hl d hd hlt]
      cases ho : o.dst with
      | none => rfl
      | some d' =>
        simp only [Act.put]
        exact Array.getElem?_setIfInBounds_ne (fun e => hnd i k hin hk (fun e => hki e.symm) d hd (by rw [hdst, ho, e]))
  · have h1 : dstOf ops i ≠ some d := hd i hin (by simp [hisz])
    rw [hdst] at h1
    rw [← inv.other d (fun k hk hl e => by
      by_cases hki : k = i
      · subst hki; exact h1 (by rw [← hdst]; exact e)
      · exact hd k hk (by rw [getD_set_ne false (fun e => hki e.symm)]; exact hl) e)]
    cases ho : o.dst with
    | none => rfl
    | some d' => simp only [Act.put]; exact Array.getElem?_setIfInBounds_ne (fun e => h1 (by rw [ho, e]))
  · by_cases hki : k = i
    · subst hki
      rw [hmap k hk (.inl rfl)]
      simp only [if_true]
      exact hs
    · rw [getD_set_ne false (fun e => hki e.symm)] at hl
      rw [hmap k hk (.inr hl)]
      simp only [if_neg hki]
      exact stable _ _ _ _ _ (inv.spec k hk hl) hg

theorem head_all {G : World → World → Prop} (hG : IsGr G) {Spec : Nat → List Value → Value → World → Prop} (g : Nat)
    (hsel : ∀ (j : Nat) (o : Oper) cs b, ops[j]? = some o → o.op ≠ .select cs b) (hn : n ≤ ops.size)
    (hsink : n = ops.size ∨ (Region.sinkB .any ops n = true ∧ Region.chainB .any ops n = true))
    (hlow : ∀ i, i < n → ∀ o, ops[i]? = some o → ∀ e ∈ o.after, Region.binds .any e = true → e.on < i)
    (hdl : ∀ j, j < n → ∀ k ∈ dl.getD j [], k < n ∧ k ∈ depsOf ops n j)
    (hlook : ∀ i, i < n → ∀ o, ops[i]? = some o → ∀ k, k < n → ∀ d, dstOf ops k = some d → (d ∈ o.looksAt ops → k ∈ dl.getD i [] ∨ i ∈ depsOf ops n k ∨ i = k) ∧ True)
    (hnd : ∀ j k, j < n → k < n → j ≠ k → ∀ d, dstOf ops k = some d → dstOf ops j ≠ some d)
    (stable : ∀ i L v w w', Spec i L v w → G w w' → Spec i L v w')
    (step : ∀ i o V w, ops[i]? = some o → i < n → G w0 w → (∀ k ∈ dl.getD i [], Spec k ((dl.getD k []).map V) (V k) w) → StepOk G P ops o (canon ops V a0 (dl.getD i [])) w (Spec i ((dl.getD i []).map V)))
    (fin : ∀ V listed a w, Inv G ops n dl Spec a0 w0 V listed a w → (∀ k, k < n → listed.getD k false = true) → wpAny P .any ops Q g listed a w) :
    ∀ (f : Nat) (V : Nat → Value) (listed : Array Bool) (a : Act) (w : World), left n listed = f → Inv G ops n dl Spec a0 w0 V listed a w → wpAny P .any ops Q (f + g) listed a w := by
  intro f
  induction f with
  | zero => intro V listed a w hf inv; rw [Nat.zero_add]; exact fin V listed a w inv (left_zero hf)
  | succ f ih =>
    intro V listed a w hf inv
    have hun : ∃ i, i < n ∧ listed.getD i false = false ∧ ∀ j, j < i → listed.getD j false = true := by
      have hex : ∃ i, i < n ∧ listed.getD i false = false := by
        apply Classical.byContradiction
        intro hno
        have : left n listed = 0 := by
          unfold left
          rw [List.length_eq_zero_iff, List.filter_eq_nil_iff]
          intro i hi
          cases hv : listed.getD i false with
          | true => simp
          | false => exact absurd ⟨i, List.mem_range.1 hi, hv⟩ hno
        omega
      obtain ⟨i, h1, h2⟩ := hex
      induction i using Nat.strongRecOn with
      | _ i ihi =>
        by_cases h3 : ∀ j, j < i → listed.getD j false = true
        · exact ⟨i, h1, h2, h3⟩
        · simp only [Classical.not_forall] at h3
          obtain ⟨j, hj, hj2⟩ := h3
          exact ihi j hj (by omega) (by simpa using hj2)
    obtain ⟨i0, hi0, hi0u, hi0m⟩ := hun
    have hready0 : i0 ∈ Region.ready .any ops listed := by
      rw [mem_ready]
      have hlt : i0 < ops.size := by omega
      refine ⟨getD_in (by rw [inv.head.size]; exact hlt) hi0u, ops[i0], Array.getElem?_eq_getElem hlt, fun e he hb => hi0m _ (hlow i0 hi0 _ (Array.getElem?_eq_getElem hlt) e he hb)⟩
    rw [show f + 1 + g = (f + g) + 1 by omega]
    refine ⟨fun h => (by rw [h] at hready0; cases hready0), fun i hi => ?_⟩
    obtain ⟨hiu, o, ho, hall⟩ := mem_ready.1 hi
    have hiu' := getD_both hiu
    have hilt : i < ops.size := (Array.getElem?_eq_some_iff.1 ho).1
    have hin : i < n := by
      rcases hsink with h | ⟨h1, h2⟩
      · omega
      · by_cases hns : n < ops.size
        · rcases Nat.lt_or_ge i n with h | h
          · exact h
          · exact absurd hi (tail_waits h1 h2 hns inv.head _ i0 rfl hi0 (getD_in (by rw [inv.head.size]; omega) hi0u) i h)
        · omega
    have hso := step i o V w ho hin inv.gr (fun k hk => inv.spec k (hdl i hin k hk).1 (depsOf_listed inv.head.closed n i (fun o' ho' => by rw [ho] at ho'; cases ho'; exact hall) k (hdl i hin k hk).2))
    have hlk := inv.looks ho hin hiu' hall (hdl i hin) (hlook i hin o ho) hnd
    have hw := wanted_congr (ops := ops) o hlk
    have hex := exec_congr (ops := ops) o (fun cs b => hsel i o cs b ho) hlk
    have hnext : ∀ v w', G w w' → Spec i ((dl.getD i []).map V) v w' → wpAny P .any ops Q (f + g) (listed.setIfInBounds i true) (a.put o.dst v) w' := fun v w' hg hs =>
      ih _ _ _ _ (by have := left_set (n := n) hin (by rw [inv.head.size]; exact hilt) hiu'; omega) (inv.step hG ho hin hiu' hi hdl hnd stable hg hs)
    unfold StepOk at hso
    rw [← hw] at hso
    unfold wpOp
    simp only [ho]
    by_cases hwt : Region.wanted o (yielded ops a.tmps) = true
    · rw [if_pos hwt] at hso ⊢
      refine .inl ?_
      unfold GrowAt at hso
      unfold Oper.wp
      rw [← hex] at hso
      generalize (execOp a.eval o).run P w = r at hso
      cases r with
      | halt x w' => exact hso.elim
      | ok nx w' =>
        cases nx with
        | value v => exact hnext v w' hso.1 hso.2
        | skip => exact hnext undef w' hso.1 hso.2
        | enter fn args =>
          refine hso.2.mono ?_
          rintro e w'' ⟨v, rfl, h1, h2⟩
          exact hnext v w'' (hG.trans hso.1 h1) h2
        | _ => exact hso.elim
    · rw [if_neg hwt] at hso ⊢
      exact hnext undef w (hG.refl _) hso

/-- **THE REGION**, by what each operation leaves -/
theorem region_spec {G : World → World → Prop} (hG : IsGr G) {id : Nat} {l : List Oper} {w : World} {a0 : Act} {Q : Exit → Act → World → Prop} (n : Nat) (dl : List (List Nat)) (hm : P.follows .mixedOrders = true) (hB : shapeB l.toArray n dl = true)
    (Spec : Nat → List Value → Value → World → Prop) (stable : ∀ i L v w w', Spec i L v w → G w w' → Spec i L v w')
    (step : ∀ i o V w', l[i]? = some o → i < n → G w w' → (∀ k ∈ dl.getD i [], Spec k ((dl.getD k []).map V) (V k) w') → StepOk G P l.toArray o (canon l.toArray V a0 (dl.getD i [])) w' (Spec i ((dl.getD i []).map V)))
    (fin : ∀ V w', G w w' → (∀ k, k < n → Spec k ((dl.getD k []).map V) (V k) w') → wpList P l.toArray Q (l.drop n) (canon l.toArray V a0 (List.range n)) w') :
    (Code.region id l.toArray true).wp P Q a0 w := by
  simp only [shapeB, Bool.and_eq_true, decide_eq_true_eq, Bool.or_eq_true] at hB
  obtain ⟨⟨⟨⟨⟨hsel, hn⟩, hdlen⟩, hsink⟩, hall⟩, hseq⟩ := hB
  rw [List.all_eq_true] at hall
  have hops : ∀ i, i < n → ∃ o, l.toArray[i]? = some o ∧ (∀ e ∈ o.after, Region.binds .any e = true → e.on < i) ∧ (∀ k ∈ dl.getD i [], k < n ∧ k ∈ depsOf l.toArray n i) ∧
      (∀ k, k < n → ∀ d, dstOf l.toArray k = some d → (d ∈ o.looksAt l.toArray → k ∈ dl.getD i [] ∨ i ∈ depsOf l.toArray n k ∨ i = k) ∧ (k ≠ i → dstOf l.toArray i ≠ some d)) := by
    intro i hi
    have h := hall i (List.mem_range.2 hi)
    cases ho : l.toArray[i]? with
    | none => rw [ho] at h; cases h
    | some o =>
      rw [ho] at h
      simp only [Bool.and_eq_true, List.all_eq_true] at h
      obtain ⟨⟨h1, h2⟩, h3⟩ := h
      refine ⟨o, rfl, fun e he hb => ?_, fun k hk => ?_, fun k hk d hd => ?_⟩
      · have := h1 e (by simpa using he)
        rw [hb] at this; simpa using this
      · have := h2 k hk
        simpa using this
      · have := h3 k (List.mem_range.2 hk)
        rw [hd] at this
        simp only [Bool.and_eq_true, Bool.or_eq_true, Bool.not_eq_true', beq_iff_eq, decide_eq_true_eq, List.contains_iff_mem] at this
        refine ⟨fun hm => ?_, fun hne => ?_⟩
        · rcases this.1 with ((h | h) | h) | h
          · rw [show (o.looksAt l.toArray).contains d = true from List.contains_iff_mem.2 hm] at h; cases h
          · exact .inl h
          · exact .inr (.inl h)
          · exact .inr (.inr h)
        · rcases this.2 with h | h
          · exact absurd h hne
          · exact h
  have hnd : ∀ j k, j < n → k < n → j ≠ k → ∀ d, dstOf l.toArray k = some d → dstOf l.toArray j ≠ some d := fun j k hj hk hne d hd => by
    obtain ⟨o, _, _, _, h⟩ := hops j hj
    exact (h k hk d hd).2 (fun e => hne e.symm)
  refine wp_region_any hm ?_
  have inv0 : Inv G l.toArray n dl Spec a0 w (fun _ => undef) (Array.replicate l.toArray.size false) a0 { w with drawn := w.drawn + 1 } :=
    ⟨⟨by simp, fun j oj _ hl => (by rw [getD_replicate_false] at hl; cases hl), fun t _ ht => getD_in (by simpa using ht) (getD_replicate_false _ _)⟩, rfl, rfl,
      fun k _ hl => (by rw [getD_replicate_false] at hl; cases hl), fun _ _ => rfl, fun k _ hl => (by rw [getD_replicate_false] at hl; cases hl), hG.drew _⟩
  have hleft : left n (Array.replicate l.toArray.size false) = n := by
    unfold left
    rw [List.filter_eq_self.2 (fun i _ => by rw [getD_replicate_false]; rfl)]
    simp
  have := head_all hG (P := P) (Q := Q) (Spec := Spec) (dl := dl) (a0 := a0) (w0 := w) (l.toArray.size - n) (Region.noSelect_spec hsel) hn (by rcases hsink with h | h; exact .inl h; exact .inr h)
    (fun i hi o ho e he hb => by obtain ⟨o', ho', h1, _⟩ := hops i hi; rw [ho] at ho'; cases ho'; exact h1 e he hb)
    (fun j hj => by obtain ⟨_, _, _, h, _⟩ := hops j hj; exact h)
    (fun i hi o ho k hk d hd => by obtain ⟨o', ho', _, _, h⟩ := hops i hi; rw [ho] at ho'; cases ho'; exact ⟨(h k hk d hd).1, trivial⟩)
    hnd stable (fun i o V w' ho => step i o V w' (by simpa using ho)) ?_ n _ _ _ _ hleft inv0
  · rwa [show n + (l.toArray.size - n) = l.toArray.size by omega] at this
  · intro V listed a w' inv hl
    have hld : listed = ((List.range l.toArray.size).map (fun i => decide (i < n))).toArray := by
      apply Array.ext
      · rw [inv.head.size]; simp
      · intro i h1 h2
        have hi : i < l.toArray.size := by rw [inv.head.size] at h1; exact h1
        have e2 : ((List.range l.toArray.size).map (fun i => decide (i < n))).toArray[i] = decide (i < n) := by simp
        rw [e2]
        by_cases hin : i < n
        · have := hl i hin
          simp only [hin, decide_true]
          simpa [h1] using this
        · have := inv.head.tail i (by omega) hi
          simp only [hin, decide_false]
          simpa [h1] using this
    have hact : a = canon l.toArray V a0 (List.range n) := by
      have ht : a.tmps = (canon l.toArray V a0 (List.range n)).tmps := by
        apply Array.ext_getElem?
        intro d
        by_cases hlt : d < a0.tmps.size
        · by_cases hex : ∃ k, k < n ∧ dstOf l.toArray k = some d
          · obtain ⟨k, hk, hd⟩ := hex
            rw [inv.slot k hk (hl k hk) d hd hlt, canon_in V hd _ _ (List.mem_range.2 hk) (fun j hj hjk => hnd j k (List.mem_range.1 hj) hk hjk d hd) hlt]
          · rw [inv.other d (fun k hk _ e => hex ⟨k, hk, e⟩), canon_out V _ _ (fun k hk e => hex ⟨k, List.mem_range.1 hk, e⟩)]
        · have e1 : a.tmps[d]? = none := Array.getElem?_eq_none (by rw [inv.size]; exact Nat.le_of_not_lt hlt)
          have e2 : (canon l.toArray V a0 (List.range n)).tmps[d]? = none := Array.getElem?_eq_none (by rw [size_canon]; exact Nat.le_of_not_lt hlt)
          rw [e1, e2]
      have hdf : a.defers = (canon l.toArray V a0 (List.range n)).defers := by rw [inv.defers, defers_canon]
      obtain ⟨t, d⟩ := a
      generalize canon l.toArray V a0 (List.range n) = b at ht hdf
      obtain ⟨t', d'⟩ := b
      dsimp only at ht hdf
      rw [ht, hdf]
    have hf := fin V w' inv.gr (fun k hk => inv.spec k hk (hl k hk))
    rw [← hact] at hf
    have hdl : (l.drop n).length = l.toArray.size - n := by simp
    have hsq := wpAny_of_seq (P := P) (md := .any) (Q' := Q) (l.drop n) n listed a w' (fun j => by simp [List.getElem?_drop]) (by rw [hdl, hld]; exact hseq) hf
    rwa [hdl] at hsq
/-- what an operation's operand holds: the value of an operation that it knows of, else what the slot held -/
def GrowL (G : World → World → Prop) (P : Program) (o : Oper) (ρ : Operand → Value) (w : World) (Φ : Value → World → Prop) : Prop :=
  match (execOp ρ o).run P w with
  | .ok (.value v) w' => G w w' ∧ Φ v w'
  | .ok .skip w' => G w w' ∧ Φ undef w'
  | .ok (.enter f args) w' => G w w' ∧ Calls P f args w' (fun e w'' => ∃ v, e = .returned v ∧ G w' w'' ∧ Φ v w'')
  | _ => False
theorem GrowL.value {G : World → World → Prop} {o : Oper} {ρ : Operand → Value} {w w' : World} {v : Value} {Φ : Value → World → Prop} (h : (execOp ρ o).run P w = .ok (.value v) w') (hg : G w w') (hv : Φ v w') : GrowL G P o ρ w Φ := by
  unfold GrowL; rw [h]; exact ⟨hg, hv⟩
theorem GrowL.call {G : World → World → Prop} (hG : IsGr G) {o : Oper} {ρ : Operand → Value} {w : World} {Φ : Value → World → Prop} {f : FuncId} {args : Array Value} (h : (execOp ρ o).run P w = .ok (.enter f args) w) (hc : Calls P f args w (fun e w'' => ∃ v, e = .returned v ∧ G w w'' ∧ Φ v w'')) : GrowL G P o ρ w Φ := by
  unfold GrowL; rw [h]; exact ⟨hG.refl _, hc⟩

/-- each operation by what it leaves, which may be told of what the others left -/
def genSteps (G : World → World → Prop) (P : Program) (ds : List (Option Nat)) (a0 : Act) (w : World) (dl0 : List (List Nat)) (Sp : Nat → List Value → Value → World → Prop) : List Oper → Nat → List (List Nat) → Prop
  | o :: l, i, d :: dl => (∀ (V : Nat → Value) w', G w w' → (∀ k ∈ d, Sp k ((dl0.getD k []).map V) (V k) w') → if wantB o V = true then GrowL G P o (Rs.look ds V a0 d) w' (Sp i (d.map V)) else Sp i (d.map V) undef w') ∧ genSteps G P ds a0 w dl0 Sp l (i + 1) dl
  | _, _, _ => True
theorem genSteps_get {G : World → World → Prop} {ds : List (Option Nat)} {a0 : Act} {w : World} {dl0 : List (List Nat)} {Sp : Nat → List Value → Value → World → Prop} : ∀ (l : List Oper) (i : Nat) (dl : List (List Nat)), genSteps G P ds a0 w dl0 Sp l i dl → ∀ (j : Nat) (o : Oper) (d : List Nat), l[j]? = some o → dl[j]? = some d →
    ∀ (V : Nat → Value) w', G w w' → (∀ k ∈ d, Sp k ((dl0.getD k []).map V) (V k) w') → if wantB o V = true then GrowL G P o (Rs.look ds V a0 d) w' (Sp (i + j) (d.map V)) else Sp (i + j) (d.map V) undef w'
  | [], _, _, _, j, o, d, ho, _ => by simp at ho
  | _ :: _, _, [], _, j, o, d, _, hd => by simp at hd
  | o' :: l, i, d' :: dl, h, 0, o, d, ho, hd => by simp at ho hd; subst ho; subst hd; exact h.1
  | o' :: l, i, d' :: dl, h, j + 1, o, d, ho, hd => by
    have := genSteps_get l (i + 1) dl h.2 j o d (by simpa using ho) (by simpa using hd)
    rwa [show i + (j + 1) = i + 1 + j by omega]

/-- **A region by what each of its first operations leaves**, in whatever order. -/
theorem region_gen {G : World → World → Prop} (hG : IsGr G) {id : Nat} {l : List Oper} {w : World} {a0 : Act} {Q : Exit → Act → World → Prop} (n : Nat) (dl : List (List Nat)) (ds : List (Option Nat)) (Sp : Nat → List Value → Value → World → Prop) (hm : P.follows .mixedOrders = true) (hB : shapeB l.toArray n dl = true) (hS : slotsB l.toArray n a0.tmps.size dl ds = true)
    (stable : ∀ i L v w w', Sp i L v w → G w w' → Sp i L v w')
    (step : genSteps G P ds a0 w dl Sp l 0 dl)
    (fin : ∀ V w', G w w' → (∀ k, k < n → Sp k ((dl.getD k []).map V) (V k) w') → wpList P l.toArray Q (l.drop n) (canon l.toArray V a0 (List.range n)) w') :
    (Code.region id l.toArray true).wp P Q a0 w := by
  have hB' := hB
  simp only [shapeB, Bool.and_eq_true, decide_eq_true_eq] at hB'
  obtain ⟨⟨⟨⟨⟨hsel, hn⟩, hdlen⟩, _⟩, hall⟩, _⟩ := hB'
  rw [List.all_eq_true] at hall
  unfold slotsB at hS
  rw [List.all_eq_true] at hS
  have hdst : ∀ i, i < n → dstOf l.toArray i = ds.getD i none ∧ ∀ d, dstOf l.toArray i = some d → d < a0.tmps.size := fun i hi => by
    have h := hS i (List.mem_range.2 hi)
    simp only [Bool.and_eq_true, beq_iff_eq] at h
    refine ⟨h.1.1, fun d hd => ?_⟩
    have h2 := h.1.2
    rw [← h.1.1, hd] at h2
    simpa using h2
  refine region_spec hG n dl hm hB Sp stable (fun i o V w' ho hi hg hs => ?_) fin
  have hst := genSteps_get l 0 dl step i o (dl.getD i []) ho (by simp [List.getElem?_eq_getElem (show i < dl.length by omega)]) V w' hg hs
  rw [Nat.zero_add] at hst
  have hio := hall i (List.mem_range.2 hi)
  have hoo : l.toArray[i]? = some o := by simpa using ho
  rw [hoo] at hio
  simp only [Bool.and_eq_true, List.all_eq_true] at hio
  obtain ⟨⟨_, h2⟩, h3⟩ := hio
  have hdl : ∀ k ∈ dl.getD i [], k < n := fun k hk => by have := h2 k hk; simp only [Bool.and_eq_true, decide_eq_true_eq] at this; exact this.1
  have hnd : ∀ j k, j < n → k < n → j ≠ k → ∀ d, dstOf l.toArray k = some d → dstOf l.toArray j ≠ some d := fun j k hj hk hne d hd => by
    have h := hall j (List.mem_range.2 hj)
    cases hoj : l.toArray[j]? with
    | none => rw [hoj] at h; cases h
    | some oj =>
      rw [hoj] at h
      simp only [Bool.and_eq_true, List.all_eq_true] at h
      have := h.2 k (List.mem_range.2 hk)
      rw [hd] at this
      simp only [Bool.and_eq_true, Bool.or_eq_true, beq_iff_eq, decide_eq_true_eq] at this
      rcases this.2 with h | h
      · exact absurd h.symm hne
      · exact h
  have hslot : ∀ t, (canon l.toArray V a0 (dl.getD i [])).eval (.tmp t) = Rs.look ds V a0 (dl.getD i []) (.tmp t) := fun t => by
    unfold Rs.look
    simp only
    split
    · rename_i k hk
      have hkm := List.mem_of_find?_eq_some hk
      have hkd := List.find?_some hk
      simp only [beq_iff_eq] at hkd
      have hkn := hdl k hkm
      have e : dstOf l.toArray k = some t := by rw [(hdst k hkn).1]; exact hkd
      have := canon_in (ops := l.toArray) V e (dl.getD i []) a0 hkm (fun j hj hjk => hnd j k (hdl j hj) hkn hjk t e) ((hdst k hkn).2 t e)
      simp only [Act.eval, Array.getD_eq_getD_getElem?, this, Option.getD_some]
    · rename_i hk
      have hno : ∀ k ∈ dl.getD i [], dstOf l.toArray k ≠ some t := fun k hkm e => by
        have := List.find?_eq_none.1 hk k hkm
        rw [(hdst k (hdl k hkm)).1] at e
        rw [e] at this; exact this (by simp)
      have := canon_out (ops := l.toArray) V (d := t) (dl.getD i []) a0 hno
      simp only [Act.eval, Array.getD_eq_getD_getElem?, this]
  have hex : execOp (canon l.toArray V a0 (dl.getD i [])).eval o = execOp (Rs.look ds V a0 (dl.getD i [])) o :=
    execOp_congr o (fun c b => Region.noSelect_spec hsel i o c b hoo) fun x _ => by
      cases x with
      | tmp t => exact hslot t
      | _ => rfl
  have hwant : Region.wanted o (yielded l.toArray (canon l.toArray V a0 (dl.getD i [])).tmps) = wantB o V := by
    unfold Region.wanted wantB
    cases hgd : o.guard with
    | none => rfl
    | some gb =>
      obtain ⟨g, b⟩ := gb
      have h := hS i (List.mem_range.2 hi)
      rw [hoo] at h
      simp only [Option.bind_some, hgd, Bool.and_eq_true, List.contains_iff_mem] at h
      obtain ⟨hgm, hgs⟩ := h.2
      obtain ⟨t, ht⟩ := Option.isSome_iff_exists.1 hgs
      have hgn := hdl g hgm
      have hv := canon_in (ops := l.toArray) V ht (dl.getD i []) a0 hgm (fun j hj hjk => hnd j g (hdl j hj) hgn hjk t ht) ((hdst g hgn).2 t ht)
      have hy : yielded l.toArray (canon l.toArray V a0 (dl.getD i [])).tmps g = match V g with | .bool x => some x | _ => none := by
        unfold yielded
        unfold dstOf at ht
        simp only [ht, Option.bind_some, hv]
        cases V g <;> rfl
      simp only [hy]
      cases V g <;> simp
  unfold StepOk
  rw [hwant]
  by_cases hw : wantB o V = true
  · rw [if_pos hw] at hst ⊢
    unfold GrowL at hst
    unfold GrowAt
    rw [hex]
    exact hst
  · rw [if_neg hw] at hst ⊢
    exact hst
end main
end Go.Proofs.Ytimedmkpenbmkaa.Rg

/- A region by what each of its operations leaves, where one of its operations (j0) may spoil what others left. -/
namespace Go.Proofs.Ytimedmkpenbmkaa.Rk
set_option linter.unusedSimpArgs false
set_option linter.unusedVariables false
open Go Go.RowKit Go.Proofs.Ytimedmkpenbmkaa.Rs
open Go.Proofs.Ytimedmkpenbmkaa.Rg (IsGr)
variable {P : Program} {ops : Array Oper}

/-- what an operation leaves, where it only adds to the memory -/
def GrowAt (G : World → World → Prop) (P : Program) (o : Oper) (a : Act) (w : World) (Φ : Value → World → Prop) : Prop :=
  match (execOp a.eval o).run P w with
  | .ok (.value v) w' => G w w' ∧ Φ v w'
  | .ok .skip w' => G w w' ∧ Φ undef w'
  | .ok (.enter f args) w' => w' = w ∧ Calls P f args w' (fun e w'' => ∃ v, e = .returned v ∧ G w w'' ∧ Φ v w'')
  | _ => False

/-- what is asked of one operation -/
def StepOk (G : World → World → Prop) (P : Program) (ops : Array Oper) (o : Oper) (a : Act) (w : World) (Φ : Value → World → Prop) : Prop :=
  if Region.wanted o (yielded ops a.tmps) = true then GrowAt G P o a w Φ else Φ undef w

section main
variable {n : Nat} {dl : List (List Nat)} {a0 : Act} {w0 : World} {Q : Exit → Act → World → Prop}

structure Inv (G : World → World → Prop) (j0 : Nat) (ops : Array Oper) (n : Nat) (dl : List (List Nat)) (Spec : Nat → Bool → List Value → Value → World → Prop) (a0 : Act) (w0 : World) (V : Nat → Value) (listed : Array Bool) (a : Act) (w : World) : Prop where
  head : HeadInv .any ops n listed
  size : a.tmps.size = a0.tmps.size
  defers : a.defers = a0.defers
  slot : ∀ k, k < n → listed.getD k false = true → ∀ d, dstOf ops k = some d → d < a0.tmps.size → a.tmps[d]? = some (V k)
  other : ∀ d, (∀ k, k < n → listed.getD k false = true → dstOf ops k ≠ some d) → a.tmps[d]? = a0.tmps[d]?
  spec : ∀ k, k < n → listed.getD k false = true → Spec k (listed.getD j0 false) ((dl.getD k []).map V) (V k) w
  gr : G w0 w

theorem Inv.looks {G : World → World → Prop} {j0 : Nat} {Spec : Nat → Bool → List Value → Value → World → Prop} {V : Nat → Value} {listed : Array Bool} {a : Act} {w : World} (inv : Inv G j0 ops n dl Spec a0 w0 V listed a w) {i : Nat} {o : Oper} (hi : ops[i]? = some o) (_hin : i < n) (hiu : listed.getD i false = false)
    (hr : ∀ e ∈ o.after, Region.binds .any e = true → listed.getD e.on false = true)
    (hdl : ∀ k ∈ dl.getD i [], k < n ∧ k ∈ depsOf ops n i)
    (hlook : ∀ k, k < n → ∀ d, dstOf ops k = some d → (d ∈ o.looksAt ops → k ∈ dl.getD i [] ∨ i ∈ depsOf ops n k ∨ i = k) ∧ True)
    (hnd : ∀ j k, j < n → k < n → j ≠ k → ∀ d, dstOf ops k = some d → dstOf ops j ≠ some d) :
    ∀ d ∈ o.looksAt ops, a.tmps[d]? = (canon ops V a0 (dl.getD i [])).tmps[d]? := by
  intro d hd
  have hdep : ∀ k ∈ dl.getD i [], listed.getD k false = true := fun k hk => depsOf_listed inv.head.closed n i (fun o' ho' => by rw [hi] at ho'; cases ho'; exact hr) k (hdl k hk).2
  by_cases hlt : d < a0.tmps.size
  · by_cases hex : ∃ k, k ∈ dl.getD i [] ∧ dstOf ops k = some d
    · obtain ⟨k, hk, hkd⟩ := hex
      rw [inv.slot k (hdl k hk).1 (hdep k hk) d hkd hlt, canon_in V hkd _ _ hk (fun j hj hjk => hnd j k (hdl j hj).1 (hdl k hk).1 hjk d hkd) hlt]
    · rw [canon_out V _ _ (fun k hk e => hex ⟨k, hk, e⟩)]
      refine inv.other d (fun k hk hl e => ?_)
      rcases (hlook k hk d e).1 hd with h | h | h
      · exact hex ⟨k, h, e⟩
      · have := depsOf_listed inv.head.closed n k (fun o' ho' e' he' hb' => inv.head.closed k o' ho' hl e' he' hb') i h
        rw [hiu] at this; cases this
      · subst h; rw [hiu] at hl; cases hl
  · have e1 : a.tmps[d]? = none := Array.getElem?_eq_none (by rw [inv.size]; exact Nat.le_of_not_lt hlt)
    have e2 : (canon ops V a0 (dl.getD i [])).tmps[d]? = none := Array.getElem?_eq_none (by rw [size_canon]; exact Nat.le_of_not_lt hlt)
    rw [e1, e2]

theorem Inv.step {G : World → World → Prop} {j0 : Nat} (hG : IsGr G) {Spec : Nat → Bool → List Value → Value → World → Prop} {V : Nat → Value} {listed : Array Bool} {a : Act} {w w' : World} (inv : Inv G j0 ops n dl Spec a0 w0 V listed a w) {i : Nat} {o : Oper} {v : Value} (hi : ops[i]? = some o) (hin : i < n) (hiu : listed.getD i false = false)
    (hri : i ∈ Region.ready .any ops listed)
    (hdl : ∀ j, j < n → ∀ k ∈ dl.getD j [], k < n ∧ k ∈ depsOf ops n j)
    (hnd : ∀ j k, j < n → k < n → j ≠ k → ∀ d, dstOf ops k = some d → dstOf ops j ≠ some d)
    (stable : ∀ k L v, Spec k (listed.getD j0 false) L v w → Spec k (listed.getD j0 false || i == j0) L v w')
    (hg : G w w') (hs : Spec i (listed.getD j0 false || i == j0) ((dl.getD i []).map V) v w') :
    Inv G j0 ops n dl Spec a0 w0 (fun k => if k = i then v else V k) (listed.setIfInBounds i true) (a.put o.dst v) w' := by
  have hisz : i < listed.size := by rw [inv.head.size]; exact (Array.getElem?_eq_some_iff.1 hi).1
  have hdst : dstOf ops i = o.dst := by simp [dstOf, hi]
  have hdep : ∀ k, k < n → (k = i ∨ listed.getD k false = true) → ∀ j ∈ dl.getD k [], j ≠ i := fun k hk hkl j hj e => by
    have hm := (hdl k hk j hj).2
    rw [e] at hm
    have : listed.getD i false = true := by
      rcases hkl with rfl | hkl
      · obtain ⟨_, o', ho', hall⟩ := mem_ready.1 hri
        exact depsOf_listed inv.head.closed n k (fun o'' ho'' => by rw [ho'] at ho''; cases ho''; exact hall) k hm
      · exact depsOf_listed inv.head.closed n k (fun o' ho' e' he' hb' => inv.head.closed k o' ho' hkl e' he' hb') i hm
    rw [hiu] at this; cases this
  have hmap : ∀ k, k < n → (k = i ∨ listed.getD k false = true) → (dl.getD k []).map (fun k => if k = i then v else V k) = (dl.getD k []).map V := fun k hk hkl =>
    List.map_congr_left fun j hj => by rw [if_neg (hdep k hk hkl j hj)]
  have hj0 : (listed.setIfInBounds i true).getD j0 false = (listed.getD j0 false || i == j0) := by
    by_cases e : i = j0
    · subst e; simp [hisz]
    · rw [getD_set_ne false e]; simp [e]
  refine ⟨inv.head.set hri hin, ?_, ?_, fun k hk hl d hd hlt => ?_, fun d hd => ?_, fun k hk hl => ?_, hG.trans inv.gr hg⟩
  · rw [← inv.size]; cases o.dst <;> simp [Act.put]
  · rw [← inv.defers]; cases o.dst <;> rfl
  · by_cases hki : k = i
    · subst hki
      rw [hdst] at hd
      rw [if_pos rfl, hd]
      simp [Act.put, inv.size, hlt]
    · rw [if_neg hki]
      rw [getD_set_ne false (fun e => hki e.symm)] at hl
      rw [← inv.slot k hk hl d hd hlt]
      cases ho : o.dst with
      | none => rfl
      | some d' =>
        simp only [Act.put]
        exact Array.getElem?_setIfInBounds_ne (fun e => hnd i k hin hk (fun e => hki e.symm) d hd (by rw [hdst, ho, e]))
  · have h1 : dstOf ops i ≠ some d := hd i hin (by simp [hisz])
    rw [hdst] at h1
    rw [← inv.other d (fun k hk hl e => by
      by_cases hki : k = i
      · subst hki; exact h1 (by rw [← hdst]; exact e)
      · exact hd k hk (by rw [getD_set_ne false (fun e => hki e.symm)]; exact hl) e)]
    cases ho : o.dst with
    | none => rfl
    | some d' => simp only [Act.put]; exact Array.getElem?_setIfInBounds_ne (fun e => h1 (by rw [ho, e]))
  · by_cases hki : k = i
    · subst hki
      rw [hmap k hk (.inl rfl), hj0]
      simp only [if_true]
      exact hs
    · rw [getD_set_ne false (fun e => hki e.symm)] at hl
      rw [hmap k hk (.inr hl), hj0]
      simp only [if_neg hki]
      exact stable _ _ _ (inv.spec k hk hl)

theorem head_all {G : World → World → Prop} {j0 : Nat} {Gi : Nat → World → World → Prop} (hG : IsGr G) (hA : ∀ i a b, Gi i a b → G a b) (hRf : ∀ i a, Gi i a a) {Spec : Nat → Bool → List Value → Value → World → Prop} (g : Nat)
    (hsel : ∀ (j : Nat) (o : Oper) cs b, ops[j]? = some o → o.op ≠ .select cs b) (hn : n ≤ ops.size)
    (hsink : n = ops.size ∨ (Region.sinkB .any ops n = true ∧ Region.chainB .any ops n = true))
    (hlow : ∀ i, i < n → ∀ o, ops[i]? = some o → ∀ e ∈ o.after, Region.binds .any e = true → e.on < i)
    (hdl : ∀ j, j < n → ∀ k ∈ dl.getD j [], k < n ∧ k ∈ depsOf ops n j)
    (hlook : ∀ i, i < n → ∀ o, ops[i]? = some o → ∀ k, k < n → ∀ d, dstOf ops k = some d → (d ∈ o.looksAt ops → k ∈ dl.getD i [] ∨ i ∈ depsOf ops n k ∨ i = k) ∧ True)
    (hnd : ∀ j k, j < n → k < n → j ≠ k → ∀ d, dstOf ops k = some d → dstOf ops j ≠ some d)
    (stable : ∀ i c w w', (i = j0 → c = false) → Gi i w w' → ∀ k L v, Spec k c L v w → Spec k (c || i == j0) L v w')
    (step : ∀ i o V w c, ops[i]? = some o → i < n → G w0 w → (i = j0 → c = false) → (∀ k ∈ dl.getD i [], Spec k c ((dl.getD k []).map V) (V k) w) → StepOk (Gi i) P ops o (canon ops V a0 (dl.getD i [])) w (Spec i (c || i == j0) ((dl.getD i []).map V)))
    (fin : ∀ V listed a w, Inv G j0 ops n dl Spec a0 w0 V listed a w → (∀ k, k < n → listed.getD k false = true) → wpAny P .any ops Q g listed a w) :
    ∀ (f : Nat) (V : Nat → Value) (listed : Array Bool) (a : Act) (w : World), left n listed = f → Inv G j0 ops n dl Spec a0 w0 V listed a w → wpAny P .any ops Q (f + g) listed a w := by
  intro f
  induction f with
  | zero => intro V listed a w hf inv; rw [Nat.zero_add]; exact fin V listed a w inv (left_zero hf)
  | succ f ih =>
    intro V listed a w hf inv
    have hun : ∃ i, i < n ∧ listed.getD i false = false ∧ ∀ j, j < i → listed.getD j false = true := by
      have hex : ∃ i, i < n ∧ listed.getD i false = false := by
        apply Classical.byContradiction
        intro hno
        have : left n listed = 0 := by
          unfold left
          rw [List.length_eq_zero_iff, List.filter_eq_nil_iff]
          intro i hi
          cases hv : listed.getD i false with
          | true => simp
          | false => exact absurd ⟨i, List.mem_range.1 hi, hv⟩ hno
        omega
      obtain ⟨i, h1, h2⟩ := hex
      induction i using Nat.strongRecOn with
      | _ i ihi =>
        by_cases h3 : ∀ j, j < i → listed.getD j false = true
        · exact ⟨i, h1, h2, h3⟩
        · simp only [Classical.not_forall] at h3
          obtain ⟨j, hj, hj2⟩ := h3
          exact ihi j hj (by omega) (by simpa using hj2)
    obtain ⟨i0, hi0, hi0u, hi0m⟩ := hun
    have hready0 : i0 ∈ Region.ready .any ops listed := by
      rw [mem_ready]
      have hlt : i0 < ops.size := by omega
      refine ⟨getD_in (by rw [inv.head.size]; exact hlt) hi0u, ops[i0], Array.getElem?_eq_getElem hlt, fun e he hb => hi0m _ (hlow i0 hi0 _ (Array.getElem?_eq_getElem hlt) e he hb)⟩
    rw [show f + 1 + g = (f + g) + 1 by omega]
    refine ⟨fun h => (by rw [h] at hready0; cases hready0), fun i hi => ?_⟩
    obtain ⟨hiu, o, ho, hall⟩ := mem_ready.1 hi
    have hiu' := getD_both hiu
    have hilt : i < ops.size := (Array.getElem?_eq_some_iff.1 ho).1
    have hin : i < n := by
      rcases hsink with h | ⟨h1, h2⟩
      · omega
      · by_cases hns : n < ops.size
        · rcases Nat.lt_or_ge i n with h | h
          · exact h
          · exact absurd hi (tail_waits h1 h2 hns inv.head _ i0 rfl hi0 (getD_in (by rw [inv.head.size]; omega) hi0u) i h)
        · omega
    have hc0 : i = j0 → listed.getD j0 false = false := fun e => by rw [← e]; exact hiu'
    have hso := step i o V w (listed.getD j0 false) ho hin inv.gr hc0 (fun k hk => inv.spec k (hdl i hin k hk).1 (depsOf_listed inv.head.closed n i (fun o' ho' => by rw [ho] at ho'; cases ho'; exact hall) k (hdl i hin k hk).2))
    have hlk := inv.looks ho hin hiu' hall (hdl i hin) (hlook i hin o ho) hnd
    have hw := wanted_congr (ops := ops) o hlk
    have hex := exec_congr (ops := ops) o (fun cs b => hsel i o cs b ho) hlk
    have hnext : ∀ v w', Gi i w w' → Spec i (listed.getD j0 false || i == j0) ((dl.getD i []).map V) v w' → wpAny P .any ops Q (f + g) (listed.setIfInBounds i true) (a.put o.dst v) w' := fun v w' hg hs =>
      ih _ _ _ _ (by have := left_set (n := n) hin (by rw [inv.head.size]; exact hilt) hiu'; omega) (inv.step hG ho hin hiu' hi hdl hnd (stable i _ _ _ hc0 hg) (hA _ _ _ hg) hs)
    unfold StepOk at hso
    rw [← hw] at hso
    unfold wpOp
    simp only [ho]
    by_cases hwt : Region.wanted o (yielded ops a.tmps) = true
    · rw [if_pos hwt] at hso ⊢
      refine .inl ?_
      unfold GrowAt at hso
      unfold Oper.wp
      rw [← hex] at hso
      generalize (execOp a.eval o).run P w = r at hso
      cases r with
      | halt x w' => exact hso.elim
      | ok nx w' =>
        cases nx with
        | value v => exact hnext v w' hso.1 hso.2
        | skip => exact hnext undef w' hso.1 hso.2
        | enter fn args =>
          refine hso.2.mono ?_
          rintro e w'' ⟨v, rfl, h1, h2⟩
          exact hnext v w'' h1 h2
        | _ => exact hso.elim
    · rw [if_neg hwt] at hso ⊢
      exact hnext undef w (hRf _ _) hso

/-- **THE REGION**, by what each operation leaves -/
theorem region_spec {G : World → World → Prop} {j0 : Nat} {Gi : Nat → World → World → Prop} (hG : IsGr G) (hA : ∀ i a b, Gi i a b → G a b) (hRf : ∀ i a, Gi i a a) {id : Nat} {l : List Oper} {w : World} {a0 : Act} {Q : Exit → Act → World → Prop} (n : Nat) (dl : List (List Nat)) (hm : P.follows .mixedOrders = true) (hB : shapeB l.toArray n dl = true)
    (hj0 : j0 < n) (Spec : Nat → Bool → List Value → Value → World → Prop) (stable : ∀ i c w w', (i = j0 → c = false) → Gi i w w' → ∀ k L v, Spec k c L v w → Spec k (c || i == j0) L v w')
    (step : ∀ i o V w' c, l[i]? = some o → i < n → G w w' → (i = j0 → c = false) → (∀ k ∈ dl.getD i [], Spec k c ((dl.getD k []).map V) (V k) w') → StepOk (Gi i) P l.toArray o (canon l.toArray V a0 (dl.getD i [])) w' (Spec i (c || i == j0) ((dl.getD i []).map V)))
    (fin : ∀ V w', G w w' → (∀ k, k < n → Spec k true ((dl.getD k []).map V) (V k) w') → wpList P l.toArray Q (l.drop n) (canon l.toArray V a0 (List.range n)) w') :
    (Code.region id l.toArray true).wp P Q a0 w := by
  simp only [shapeB, Bool.and_eq_true, decide_eq_true_eq, Bool.or_eq_true] at hB
  obtain ⟨⟨⟨⟨⟨hsel, hn⟩, hdlen⟩, hsink⟩, hall⟩, hseq⟩ := hB
  rw [List.all_eq_true] at hall
  have hops : ∀ i, i < n → ∃ o, l.toArray[i]? = some o ∧ (∀ e ∈ o.after, Region.binds .any e = true → e.on < i) ∧ (∀ k ∈ dl.getD i [], k < n ∧ k ∈ depsOf l.toArray n i) ∧
      (∀ k, k < n → ∀ d, dstOf l.toArray k = some d → (d ∈ o.looksAt l.toArray → k ∈ dl.getD i [] ∨ i ∈ depsOf l.toArray n k ∨ i = k) ∧ (k ≠ i → dstOf l.toArray i ≠ some d)) := by
    intro i hi
    have h := hall i (List.mem_range.2 hi)
    cases ho : l.toArray[i]? with
    | none => rw [ho] at h; cases h
    | some o =>
      rw [ho] at h
      simp only [Bool.and_eq_true, List.all_eq_true] at h
      obtain ⟨⟨h1, h2⟩, h3⟩ := h
      refine ⟨o, rfl, fun e he hb => ?_, fun k hk => ?_, fun k hk d hd => ?_⟩
      · have := h1 e (by simpa using he)
        rw [hb] at this; simpa using this
      · have := h2 k hk
        simpa using this
      · have := h3 k (List.mem_range.2 hk)
        rw [hd] at this
        simp only [Bool.and_eq_true, Bool.or_eq_true, Bool.not_eq_true', beq_iff_eq, decide_eq_true_eq, List.contains_iff_mem] at this
        refine ⟨fun hm => ?_, fun hne => ?_⟩
        · rcases this.1 with ((h | h) | h) | h
          · rw [show (o.looksAt l.toArray).contains d = true from List.contains_iff_mem.2 hm] at h; cases h
          · exact .inl h
          · exact .inr (.inl h)
          · exact .inr (.inr h)
        · rcases this.2 with h | h
          · exact absurd h hne
          · exact h
  have hnd : ∀ j k, j < n → k < n → j ≠ k → ∀ d, dstOf l.toArray k = some d → dstOf l.toArray j ≠ some d := fun j k hj hk hne d hd => by
    obtain ⟨o, _, _, _, h⟩ := hops j hj
    exact (h k hk d hd).2 (fun e => hne e.symm)
  refine wp_region_any hm ?_
  have inv0 : Inv G j0 l.toArray n dl Spec a0 w (fun _ => undef) (Array.replicate l.toArray.size false) a0 { w with drawn := w.drawn + 1 } :=
    ⟨⟨by simp, fun j oj _ hl => (by rw [getD_replicate_false] at hl; cases hl), fun t _ ht => getD_in (by simpa using ht) (getD_replicate_false _ _)⟩, rfl, rfl,
      fun k _ hl => (by rw [getD_replicate_false] at hl; cases hl), fun _ _ => rfl, fun k _ hl => (by rw [getD_replicate_false] at hl; cases hl), hG.drew _⟩
  have hleft : left n (Array.replicate l.toArray.size false) = n := by
    unfold left
    rw [List.filter_eq_self.2 (fun i _ => by rw [getD_replicate_false]; rfl)]
    simp
  have := head_all hG hA hRf (P := P) (Q := Q) (Spec := Spec) (dl := dl) (a0 := a0) (w0 := w) (l.toArray.size - n) (Region.noSelect_spec hsel) hn (by rcases hsink with h | h; exact .inl h; exact .inr h)
    (fun i hi o ho e he hb => by obtain ⟨o', ho', h1, _⟩ := hops i hi; rw [ho] at ho'; cases ho'; exact h1 e he hb)
    (fun j hj => by obtain ⟨_, _, _, h, _⟩ := hops j hj; exact h)
    (fun i hi o ho k hk d hd => by obtain ⟨o', ho', _, _, h⟩ := hops i hi; rw [ho] at ho'; cases ho'; exact ⟨(h k hk d hd).1, trivial⟩)
    hnd stable (fun i o V w' c ho => step i o V w' c (by simpa using ho)) ?_ n _ _ _ _ hleft inv0
  · rwa [show n + (l.toArray.size - n) = l.toArray.size by omega] at this
  · intro V listed a w' inv hl
    have hld : listed = ((List.range l.toArray.size).map (fun i => decide (i < n))).toArray := by
      apply Array.ext
      · rw [inv.head.size]; simp
      · intro i h1 h2
        have hi : i < l.toArray.size := by rw [inv.head.size] at h1; exact h1
        have e2 : ((List.range l.toArray.size).map (fun i => decide (i < n))).toArray[i] = decide (i < n) := by simp
        rw [e2]
        by_cases hin : i < n
        · have := hl i hin
          simp only [hin, decide_true]
          simpa [h1] using this
        · have := inv.head.tail i (by omega) hi
          simp only [hin, decide_false]
          simpa [h1] using this
    have hact : a = canon l.toArray V a0 (List.range n) := by
      have ht : a.tmps = (canon l.toArray V a0 (List.range n)).tmps := by
        apply Array.ext_getElem?
        intro d
        by_cases hlt : d < a0.tmps.size
        · by_cases hex : ∃ k, k < n ∧ dstOf l.toArray k = some d
          · obtain ⟨k, hk, hd⟩ := hex
            rw [inv.slot k hk (hl k hk) d hd hlt, canon_in V hd _ _ (List.mem_range.2 hk) (fun j hj hjk => hnd j k (List.mem_range.1 hj) hk hjk d hd) hlt]
          · rw [inv.other d (fun k hk _ e => hex ⟨k, hk, e⟩), canon_out V _ _ (fun k hk e => hex ⟨k, List.mem_range.1 hk, e⟩)]
        · have e1 : a.tmps[d]? = none := Array.getElem?_eq_none (by rw [inv.size]; exact Nat.le_of_not_lt hlt)
          have e2 : (canon l.toArray V a0 (List.range n)).tmps[d]? = none := Array.getElem?_eq_none (by rw [size_canon]; exact Nat.le_of_not_lt hlt)
          rw [e1, e2]
      have hdf : a.defers = (canon l.toArray V a0 (List.range n)).defers := by rw [inv.defers, defers_canon]
      obtain ⟨t, d⟩ := a
      generalize canon l.toArray V a0 (List.range n) = b at ht hdf
      obtain ⟨t', d'⟩ := b
      dsimp only at ht hdf
      rw [ht, hdf]
    have hf := fin V w' inv.gr (fun k hk => by have := inv.spec k hk (hl k hk); rwa [hl j0 hj0] at this)
    rw [← hact] at hf
    have hdl : (l.drop n).length = l.toArray.size - n := by simp
    have hsq := wpAny_of_seq (P := P) (md := .any) (Q' := Q) (l.drop n) n listed a w' (fun j => by simp [List.getElem?_drop]) (by rw [hdl, hld]; exact hseq) hf
    rwa [hdl] at hsq
/-- what an operation's operand holds: the value of an operation that it knows of, else what the slot held -/
def GrowL (G : World → World → Prop) (P : Program) (o : Oper) (ρ : Operand → Value) (w : World) (Φ : Value → World → Prop) : Prop :=
  match (execOp ρ o).run P w with
  | .ok (.value v) w' => G w w' ∧ Φ v w'
  | .ok .skip w' => G w w' ∧ Φ undef w'
  | .ok (.enter f args) w' => w' = w ∧ Calls P f args w' (fun e w'' => ∃ v, e = .returned v ∧ G w w'' ∧ Φ v w'')
  | _ => False
theorem GrowL.value {G : World → World → Prop} {o : Oper} {ρ : Operand → Value} {w w' : World} {v : Value} {Φ : Value → World → Prop} (h : (execOp ρ o).run P w = .ok (.value v) w') (hg : G w w') (hv : Φ v w') : GrowL G P o ρ w Φ := by
  unfold GrowL; rw [h]; exact ⟨hg, hv⟩
theorem GrowL.call {G : World → World → Prop} {o : Oper} {ρ : Operand → Value} {w : World} {Φ : Value → World → Prop} {f : FuncId} {args : Array Value} (h : (execOp ρ o).run P w = .ok (.enter f args) w) (hc : Calls P f args w (fun e w'' => ∃ v, e = .returned v ∧ G w w'' ∧ Φ v w'')) : GrowL G P o ρ w Φ := by
  unfold GrowL; rw [h]; exact ⟨rfl, hc⟩

/-- each operation by what it leaves, which may be told of what the others left -/
def genSteps (G : World → World → Prop) (j0 : Nat) (Gi : Nat → World → World → Prop) (P : Program) (ds : List (Option Nat)) (a0 : Act) (w : World) (dl0 : List (List Nat)) (Sp : Nat → Bool → List Value → Value → World → Prop) : List Oper → Nat → List (List Nat) → Prop
  | o :: l, i, d :: dl => (∀ (V : Nat → Value) w' c, G w w' → (i = j0 → c = false) → (∀ k ∈ d, Sp k c ((dl0.getD k []).map V) (V k) w') → if wantB o V = true then GrowL (Gi i) P o (Rs.look ds V a0 d) w' (Sp i (c || i == j0) (d.map V)) else Sp i (c || i == j0) (d.map V) undef w') ∧ genSteps G j0 Gi P ds a0 w dl0 Sp l (i + 1) dl
  | _, _, _ => True
theorem genSteps_get {G : World → World → Prop} {j0 : Nat} {Gi : Nat → World → World → Prop} {ds : List (Option Nat)} {a0 : Act} {w : World} {dl0 : List (List Nat)} {Sp : Nat → Bool → List Value → Value → World → Prop} : ∀ (l : List Oper) (i : Nat) (dl : List (List Nat)), genSteps G j0 Gi P ds a0 w dl0 Sp l i dl → ∀ (j : Nat) (o : Oper) (d : List Nat), l[j]? = some o → dl[j]? = some d →
    ∀ (V : Nat → Value) w' c, G w w' → (i + j = j0 → c = false) → (∀ k ∈ d, Sp k c ((dl0.getD k []).map V) (V k) w') → if wantB o V = true then GrowL (Gi (i + j)) P o (Rs.look ds V a0 d) w' (Sp (i + j) (c || i + j == j0) (d.map V)) else Sp (i + j) (c || i + j == j0) (d.map V) undef w'
  | [], _, _, _, j, o, d, ho, _ => by simp at ho
  | _ :: _, _, [], _, j, o, d, _, hd => by simp at hd
  | o' :: l, i, d' :: dl, h, 0, o, d, ho, hd => by simp at ho hd; subst ho; subst hd; exact h.1
  | o' :: l, i, d' :: dl, h, j + 1, o, d, ho, hd => by
    have := genSteps_get l (i + 1) dl h.2 j o d (by simpa using ho) (by simpa using hd)
    rwa [show i + (j + 1) = i + 1 + j by omega]

/-- **A region by what each of its first operations leaves**, in whatever order. -/
theorem region_gen {G : World → World → Prop} (j0 : Nat) (Gi : Nat → World → World → Prop) (hG : IsGr G) (hA : ∀ i a b, Gi i a b → G a b) (hRf : ∀ i a, Gi i a a) {id : Nat} {l : List Oper} {w : World} {a0 : Act} {Q : Exit → Act → World → Prop} (n : Nat) (dl : List (List Nat)) (ds : List (Option Nat)) (hj0 : j0 < n) (Sp : Nat → Bool → List Value → Value → World → Prop) (hm : P.follows .mixedOrders = true) (hB : shapeB l.toArray n dl = true) (hS : slotsB l.toArray n a0.tmps.size dl ds = true)
    (stable : ∀ i c w w', (i = j0 → c = false) → Gi i w w' → ∀ k L v, Sp k c L v w → Sp k (c || i == j0) L v w')
    (step : genSteps G j0 Gi P ds a0 w dl Sp l 0 dl)
    (fin : ∀ V w', G w w' → (∀ k, k < n → Sp k true ((dl.getD k []).map V) (V k) w') → wpList P l.toArray Q (l.drop n) (canon l.toArray V a0 (List.range n)) w') :
    (Code.region id l.toArray true).wp P Q a0 w := by
  have hB' := hB
  simp only [shapeB, Bool.and_eq_true, decide_eq_true_eq] at hB'
  obtain ⟨⟨⟨⟨⟨hsel, hn⟩, hdlen⟩, _⟩, hall⟩, _⟩ := hB'
  rw [List.all_eq_true] at hall
  unfold slotsB at hS
  rw [List.all_eq_true] at hS
  have hdst : ∀ i, i < n → dstOf l.toArray i = ds.getD i none ∧ ∀ d, dstOf l.toArray i = some d → d < a0.tmps.size := fun i hi => by
    have h := hS i (List.mem_range.2 hi)
    simp only [Bool.and_eq_true, beq_iff_eq] at h
    refine ⟨h.1.1, fun d hd => ?_⟩
    have h2 := h.1.2
    rw [← h.1.1, hd] at h2
    simpa using h2
  refine region_spec hG hA hRf n dl hm hB hj0 Sp stable (fun i o V w' c ho hi hg hc hs => ?_) fin
  have hst := genSteps_get l 0 dl step i o (dl.getD i []) ho (by simp [List.getElem?_eq_getElem (show i < dl.length by omega)]) V w' c hg (by rw [Nat.zero_add]; exact hc) hs
  rw [Nat.zero_add] at hst
  have hio := hall i (List.mem_range.2 hi)
  have hoo : l.toArray[i]? = some o := by simpa using ho
  rw [hoo] at hio
  simp only [Bool.and_eq_true, List.all_eq_true] at hio
  obtain ⟨⟨_, h2⟩, h3⟩ := hio
  have hdl : ∀ k ∈ dl.getD i [], k < n := fun k hk => by have := h2 k hk; simp only [Bool.and_eq_true, decide_eq_true_eq] at this; exact this.1
  have hnd : ∀ j k, j < n → k < n → j ≠ k → ∀ d, dstOf l.toArray k = some d → dstOf l.toArray j ≠ some d := fun j k hj hk hne d hd => by
    have h := hall j (List.mem_range.2 hj)
    cases hoj : l.toArray[j]? with
    | none => rw [hoj] at h; cases h
    | some oj =>
      rw [hoj] at h
      simp only [Bool.and_eq_true, List.all_eq_true] at h
      have := h.2 k (List.mem_range.2 hk)
      rw [hd] at this
      simp only [Bool.and_eq_true, Bool.or_eq_true, beq_iff_eq, decide_eq_true_eq] at this
      rcases this.2 with h | h
      · exact absurd h.symm hne
      · exact h
  have hslot : ∀ t, (canon l.toArray V a0 (dl.getD i [])).eval (.tmp t) = Rs.look ds V a0 (dl.getD i []) (.tmp t) := fun t => by
    unfold Rs.look
    simp only
    split
    · rename_i k hk
      have hkm := List.mem_of_find?_eq_some hk
      have hkd := List.find?_some hk
      simp only [beq_iff_eq] at hkd
      have hkn := hdl k hkm
      have e : dstOf l.toArray k = some t := by rw [(hdst k hkn).1]; exact hkd
      have := canon_in (ops := l.toArray) V e (dl.getD i []) a0 hkm (fun j hj hjk => hnd j k (hdl j hj) hkn hjk t e) ((hdst k hkn).2 t e)
      simp only [Act.eval, Array.getD_eq_getD_getElem?, this, Option.getD_some]
    · rename_i hk
      have hno : ∀ k ∈ dl.getD i [], dstOf l.toArray k ≠ some t := fun k hkm e => by
        have := List.find?_eq_none.1 hk k hkm
        rw [(hdst k (hdl k hkm)).1] at e
        rw [e] at this; exact this (by simp)
      have := canon_out (ops := l.toArray) V (d := t) (dl.getD i []) a0 hno
      simp only [Act.eval, Array.getD_eq_getD_getElem?, this]
  have hex : execOp (canon l.toArray V a0 (dl.getD i [])).eval o = execOp (Rs.look ds V a0 (dl.getD i [])) o :=
    execOp_congr o (fun c b => Region.noSelect_spec hsel i o c b hoo) fun x _ => by
      cases x with
      | tmp t => exact hslot t
      | _ => rfl
  have hwant : Region.wanted o (yielded l.toArray (canon l.toArray V a0 (dl.getD i [])).tmps) = wantB o V := by
    unfold Region.wanted wantB
    cases hgd : o.guard with
    | none => rfl
    | some gb =>
      obtain ⟨g, b⟩ := gb
      have h := hS i (List.mem_range.2 hi)
      rw [hoo] at h
      simp only [Option.bind_some, hgd, Bool.and_eq_true, List.contains_iff_mem] at h
      obtain ⟨hgm, hgs⟩ := h.2
      obtain ⟨t, ht⟩ := Option.isSome_iff_exists.1 hgs
      have hgn := hdl g hgm
      have hv := canon_in (ops := l.toArray) V ht (dl.getD i []) a0 hgm (fun j hj hjk => hnd j g (hdl j hj) hgn hjk t ht) ((hdst g hgn).2 t ht)
      have hy : yielded l.toArray (canon l.toArray V a0 (dl.getD i [])).tmps g = match V g with | .bool x => some x | _ => none := by
        unfold yielded
        unfold dstOf at ht
        simp only [ht, Option.bind_some, hv]
        cases V g <;> rfl
      simp only [hy]
      cases V g <;> simp
  unfold StepOk
  rw [hwant]
  by_cases hw : wantB o V = true
  · rw [if_pos hw] at hst ⊢
    unfold GrowL at hst
    unfold GrowAt
    rw [hex]
    exact hst
  · rw [if_neg hw] at hst ⊢
    exact hst
end main
end Go.Proofs.Ytimedmkpenbmkaa.Rk

namespace Go.Proofs.Ytimedmkpenbmkaa
open Go.RowKit Go.Shelf
set_option linter.unusedSimpArgs false
set_option linter.unusedVariables false

/-! a wall more -/
def wallT (t : Hr.Town) (p : Nat) : Hr.Town := ⟨t.wide, t.plots.set p 2⟩
theorem wall_len (t : Hr.Town) (p : Nat) : (wallT t p).len = t.len := by unfold wallT Hr.Town.len; simp
theorem wall_at (t : Hr.Town) (p q : Nat) : (wallT t p).at q = if p = q ∧ q < t.len then 2 else t.at q := by
  unfold wallT Hr.Town.at Hr.Town.len
  simp only
  rw [List.getD_eq_getElem?_getD, List.getD_eq_getElem?_getD, List.getElem?_set]
  by_cases h : p = q
  · subst h
    by_cases h2 : p < t.plots.length
    · simp [h2]
    · simp [h2, List.getElem?_eq_none (by omega : t.plots.length ≤ p)]
  · simp [h]
theorem wall_at2 {t : Hr.Town} {p q : Nat} (h : (wallT t p).at q ≠ 2) : (wallT t p).at q = t.at q := by
  rw [wall_at] at h ⊢
  split
  · rename_i e; rw [if_pos e] at h; exact absurd rfl h
  · rfl
theorem wall_steps {t : Hr.Town} {p : Nat} {wind : Int} {f q : Nat} {n : Int} (h : (q, n) ∈ (wallT t p).steps wind f) : (q, n) ∈ t.steps wind f := by
  obtain ⟨h1, h2, d, hd, hn, hc⟩ := Hr.mem_steps.1 h
  refine Hr.mem_steps.2 ⟨by rw [← wall_at2 h1]; exact h1, by rw [← wall_at2 h2]; exact h2, d, hd, ?_, ?_⟩
  · rw [← hn]; unfold Hr.Town.nbr Hr.Town.rows; rw [wall_len]; rfl
  · rw [hc]; unfold Hr.Town.cost; rw [wall_at2 h2]
theorem wall_way {t : Hr.Town} {p : Nat} {wind : Int} {s q : Nat} {c : Int} (h : (wallT t p).Way wind s q c) : t.Way wind s q c := by
  induction h with
  | here => exact .here
  | on _ hs ih => exact .on ih (wall_steps hs)
theorem wall_needs {t : Hr.Town} (ok : t.Ok) {p : Nat} (oku : (wallT t p).Ok) (wind : Int) {s : Nat} (hs : s < t.len) {k : Nat} (hk : k < t.len) (h : ((wallT t p).needs wind s).getD k 0 ≠ -1) :
    (t.needs wind s).getD k 0 ≠ -1 ∧ (t.needs wind s).getD k 0 ≤ ((wallT t p).needs wind s).getD k 0 := by
  have hw := (Hr.needs_fix oku wind (by rw [wall_len]; exact hs)).inv.way k (by rw [wall_len]; exact hk) h
  exact (Hr.needs_fix ok wind hs).le ok hs (wall_way hw)
theorem cnt1_set2 : ∀ (xs : List Int) (i : Nat), cnt1 (xs.set i 2) ≤ cnt1 xs
  | [], _ => Nat.le_refl _
  | y :: ys, 0 => by unfold cnt1; simp [List.countP_cons]
  | y :: ys, i + 1 => by
    have := cnt1_set2 ys i
    unfold cnt1 at *
    simp only [List.set_cons_succ, List.countP_cons]
    omega
theorem wall_check {wd : Int} {xs : List Int} (h : checkErr wd xs = 0) (p : Nat) : checkErr wd (xs.set p 2) = 0 := by
  unfold checkErr at h ⊢
  rw [List.length_set]
  split at h
  · omega
  · rename_i h1
    rw [if_neg h1]
    split at h
    · omega
    · rename_i h2
      have hb : ¬ ((xs.set p 2).any badPlot = true) := by
        intro e
        rw [List.any_eq_true] at e
        obtain ⟨z, hz, hb⟩ := e
        rcases List.mem_or_eq_of_mem_set hz with h3 | h3
        · exact h2 (List.any_eq_true.2 ⟨z, h3, hb⟩)
        · subst h3; simp [badPlot] at hb
      rw [if_neg hb]
      split at h
      · omega
      · rename_i h3
        have := cnt1_set2 xs p
        rw [if_neg (by omega)]

/-! every house named -/
def allNm (xs : List Int) (k p : Nat) : Bool := decide (p < k ∧ xs.getD p 0 = 1)
theorem qAll_app (xs : List Int) : ∀ (a b : List Int) (nm : List Bool), (qAll xs nm a).1 = 0 → qAll xs nm (a ++ b) = qAll xs (qAll xs nm a).2 b
  | [], b, nm, _ => rfl
  | h :: r, b, nm, h0 => by
    have e1 : qAll xs nm (h :: r) = if (qStep xs nm h).1 ≠ 0 then qStep xs nm h else qAll xs (qStep xs nm h).2 r := rfl
    have e2 : qAll xs nm (h :: r ++ b) = if (qStep xs nm h).1 ≠ 0 then qStep xs nm h else qAll xs (qStep xs nm h).2 (r ++ b) := rfl
    rw [e1] at h0
    rw [e2, e1]
    by_cases hs : (qStep xs nm h).1 ≠ 0
    · rw [if_pos hs] at h0; exact absurd h0 hs
    · rw [if_neg hs] at h0 ⊢
      rw [if_neg hs]
      exact qAll_app xs r b _ h0
theorem qAll_houses (xs : List Int) (h30 : xs.length ≤ 30) : ∀ k, k ≤ xs.length → (qAll xs (List.replicate 30 false) (kindTo xs 1 k)).1 = 0 ∧ ∀ p, p < 30 → (qAll xs (List.replicate 30 false) (kindTo xs 1 k)).2.getD p false = allNm xs k p
  | 0, _ => ⟨rfl, fun p hp => by
    have : kindTo xs 1 0 = [] := rfl
    rw [this]
    show (List.replicate 30 false).getD p false = _
    rw [List.getD_eq_getElem?_getD, List.getElem?_replicate, if_pos hp]; simp [allNm]⟩
  | k + 1, hk => by
    obtain ⟨h1, h2⟩ := qAll_houses xs h30 k (by omega)
    by_cases e : xs.getD k 0 = 1
    · rw [kindTo_yes (by rw [e]; rfl), qAll_app xs _ _ _ h1]
      obtain ⟨N, hN⟩ : ∃ N, N = (qAll xs (List.replicate 30 false) (kindTo xs 1 k)).2 := ⟨_, rfl⟩
      have hl : N.length = 30 := by rw [hN, qAll_len]; simp
      rw [← hN] at h2 ⊢
      have hq : qStep xs N (k : Int) = (0, N.set k true) := by
        unfold qStep
        have hp : plotErr xs (k : Int) 1 = 0 := by unfold plotErr; rw [if_neg (by omega), Int.toNat_natCast, if_pos e]
        rw [if_neg (by rw [hp]; simp), Int.toNat_natCast, h2 k (by omega)]
        simp [allNm]
      have e3 : qAll xs N [(k : Int)] = (0, N.set k true) := by
        show (if (qStep xs N (k : Int)).1 ≠ 0 then qStep xs N (k : Int) else qAll xs (qStep xs N (k : Int)).2 []) = _
        rw [hq]; rfl
      rw [e3]
      refine ⟨rfl, fun p hp => ?_⟩
      rw [List.getD_eq_getElem?_getD, List.getElem?_set]
      by_cases hkp : k = p
      · subst hkp
        have : k < N.length := by omega
        rw [if_pos rfl, if_pos this]
        have e4 : allNm xs (k + 1) k = true := by unfold allNm; rw [decide_eq_true_iff]; exact ⟨Nat.lt_succ_self _, e⟩
        rw [e4]; rfl
      · rw [if_neg hkp, ← List.getD_eq_getElem?_getD, h2 p hp]
        unfold allNm
        congr 1
        apply propext
        constructor
        · rintro ⟨a, b⟩; exact ⟨by omega, b⟩
        · rintro ⟨a, b⟩; exact ⟨by omega, b⟩
    · rw [kindTo_no (by simpa using e)]
      refine ⟨h1, fun p hp => ?_⟩
      rw [h2 p hp]
      unfold allNm
      congr 1
      apply propext
      constructor
      · rintro ⟨a, b⟩; exact ⟨by omega, b⟩
      · rintro ⟨a, b⟩
        refine ⟨?_, b⟩
        by_cases hpk : p = k
        · subst hpk; exact absurd b e
        · omega
def qNm (xs : List Int) : List Bool := (qAll xs (List.replicate 30 false) (kindIdx xs 1)).2
theorem qNm_len (xs : List Int) : (qNm xs).length = 30 := by unfold qNm; rw [qAll_len]; simp
theorem lis_houses {t : Hr.Town} (ok : t.Ok) (wind voice : Int) : lis t wind voice ((qNm t.plots).getD · false) = lis t wind voice fun _ => true := by
  have h := (qAll_houses t.plots ok.n30 t.plots.length (Nat.le_refl _)).2
  unfold lis lisTo
  congr 1
  apply List.filter_congr
  intro p hp
  have hp := List.mem_range.1 hp
  have h30 : t.len ≤ 30 := ok.n30
  have e : (qNm t.plots).getD p false = allNm t.plots t.plots.length p := h p (by omega)
  show (t.at p == 1 && (qNm t.plots).getD p false) = (t.at p == 1 && true)
  rw [e]
  unfold allNm
  show (t.at p == 1 && decide (p < t.plots.length ∧ t.at p = 1)) = (t.at p == 1 && true)
  by_cases h1 : t.at p = 1
  · have : p < t.plots.length := hp
    simp [h1, this]
  · simp [h1]

/-! who cannot be left out -/
theorem firstE_deaf {t : Hr.Town} (wind voice : Int) : (firstE (lis t wind voice fun _ => true) = 0) ↔ deafOf t wind voice = [] := by
  rw [firstE_eq]
  unfold deafOf deafTo
  rw [List.take_length]
  constructor
  · intro h
    have : ¬ ((lis t wind voice fun _ => true).any (fun x => deafB x.2) = true) := by intro e; rw [if_pos e] at h; exact absurd h (by decide)
    rw [List.map_eq_nil_iff, List.filter_eq_nil_iff]
    intro x hx hd
    exact this (List.any_eq_true.2 ⟨x, hx, hd⟩)
  · intro h
    rw [List.map_eq_nil_iff, List.filter_eq_nil_iff] at h
    rw [if_neg]
    intro e
    obtain ⟨x, hx, hd⟩ := List.any_eq_true.1 e
    exact h x hx hd
theorem firstE_or (l : List (Nat × List Bool)) : firstE l = 0 ∨ firstE l = 6 := by
  rw [firstE_eq]; split
  · exact .inr rfl
  · exact .inl rfl
theorem count_lt {A H : List Int} : countTo A H H.length < H.length ↔ ∃ h ∈ H, h ∉ A := by
  unfold countTo
  rw [List.take_length]
  constructor
  · intro h
    false_or_by_contra
    rename_i h2
    have : H.filter (fun h => decide (h ∈ A)) = H := by
      rw [List.filter_eq_self]
      intro a ha
      rw [decide_eq_true_iff]
      false_or_by_contra
      rename_i h3
      exact h2 ⟨a, ha, h3⟩
    rw [this] at h; omega
  · rintro ⟨h, h1, h2⟩
    refine Nat.lt_of_le_of_ne (List.length_filter_le _ _) fun e => ?_
    have e2 := List.length_filter_eq_length_iff.1 e h h1
    rw [decide_eq_true_iff] at e2
    exact h2 e2
theorem mem_housesOf {t : Hr.Town} {wind voice : Int} {s h : Nat} : (h : Int) ∈ housesOf t wind voice s ↔ h < t.len ∧ t.at h = 1 ∧ hearB t wind voice h s = true := by
  unfold housesOf housesTo
  rw [List.mem_map]
  constructor
  · rintro ⟨p, hp, e⟩
    obtain rfl : p = h := by omega
    rw [List.mem_filter, List.mem_range, Bool.and_eq_true, beq_iff_eq] at hp
    exact ⟨hp.1, hp.2.1, hp.2.2⟩
  · rintro ⟨a, b, c⟩
    exact ⟨h, by rw [List.mem_filter, List.mem_range, Bool.and_eq_true, beq_iff_eq]; exact ⟨a, b, c⟩, rfl⟩
theorem only_iff {t : Hr.Town} {wind voice : Int} {h p : Nat} : onlyB p (ears t wind voice h) = true ↔ ∀ s, s < 30 → hearB t wind voice h s = decide (s = p) := by
  unfold onlyB onlyL
  rw [decide_eq_true_iff]
  constructor
  · intro e s hs
    have h1 : (ears t wind voice h)[s]? = some (hearB t wind voice h s) := by unfold ears; simp [hs]
    rw [e, List.getElem?_set] at h1
    by_cases hps : p = s
    · subst hps
      simp [hs] at h1
      simp [← h1]
    · rw [if_neg hps, List.getElem?_replicate, if_pos hs] at h1
      injection h1 with h1
      rw [← h1]
      simp [Ne.symm hps]
  · intro e
    apply List.ext_getElem?
    intro s
    by_cases hs : s < 30
    · have h1 : (ears t wind voice h)[s]? = some (hearB t wind voice h s) := by unfold ears; simp [hs]
      rw [h1, e s hs, List.getElem?_set]
      by_cases hps : p = s
      · subst hps; simp [hs]
      · rw [if_neg hps, List.getElem?_replicate, if_pos hs]; simp [Ne.symm hps]
    · rw [List.getElem?_eq_none (by unfold ears; simp; omega), List.getElem?_eq_none (by simp; omega)]
theorem deaf_no {t : Hr.Town} {wind voice : Int} {h : Nat} (e : deafB (ears t wind voice h) = false) : ∃ s, s < 30 ∧ hearB t wind voice h s = true := by
  false_or_by_contra
  rename_i h2
  have : deafB (ears t wind voice h) = true := by
    unfold deafB
    rw [decide_eq_true_iff]
    apply List.ext_getElem?
    intro s
    by_cases hs : s < 30
    · have h1 : (ears t wind voice h)[s]? = some (hearB t wind voice h s) := by unfold ears; simp [hs]
      rw [h1, List.getElem?_replicate, if_pos hs]
      congr 1
      cases hh : hearB t wind voice h s
      · rfl
      · exact absurd ⟨s, hs, hh⟩ h2
    · rw [List.getElem?_eq_none (by unfold ears; simp; omega), List.getElem?_replicate, if_neg hs]
  rw [this] at e; cases e
theorem mem_mustTo {l : List (Nat × List Bool)} {k p : Nat} : (p : Int) ∈ mustTo l k ↔ p < k ∧ ∃ x ∈ l, onlyB p x.2 = true := by
  unfold mustTo
  rw [List.mem_map]
  constructor
  · rintro ⟨q, hq, e⟩
    obtain rfl : q = p := by omega
    rw [List.mem_filter, List.mem_range] at hq
    have := hq.2
    unfold anyTo at this
    rw [List.take_length, List.any_eq_true] at this
    exact ⟨hq.1, this⟩
  · rintro ⟨a, b⟩
    refine ⟨p, ?_, rfl⟩
    rw [List.mem_filter, List.mem_range]
    refine ⟨a, ?_⟩
    unfold anyTo
    rw [List.take_length, List.any_eq_true]
    exact b
theorem mem_lis {t : Hr.Town} {wind voice : Int} {x : Nat × List Bool} : x ∈ (lis t wind voice fun _ => true) ↔ x.1 < t.len ∧ t.at x.1 = 1 ∧ x.2 = ears t wind voice x.1 := by
  unfold lis lisTo
  rw [List.mem_map]
  constructor
  · rintro ⟨q, hq, rfl⟩
    rw [List.mem_filter, List.mem_range] at hq
    exact ⟨hq.1, by simpa using hq.2, rfl⟩
  · rintro ⟨a, b, c⟩
    exact ⟨x.1, by rw [List.mem_filter, List.mem_range]; exact ⟨a, by simp [b]⟩, by rw [← c]⟩
/-- a stand cannot be left out if and only if the others do not serve all houses -/
theorem must_law {t : Hr.Town} (ok : t.Ok) (hc : checkErr t.wide t.plots = 0) {wind voice : Int} (ha : airErr wind voice = 0) {p : Nat} (hp : p < t.len) (hd : firstE (lis t wind voice fun _ => true) = 0) (S : List Int)
    (hS : ∀ s : Int, s ∈ S ↔ s ∈ kindIdx t.plots 0 ∧ s ≠ p) :
    (countTo (heardTo t.wide t.plots wind voice S S.length) (kindIdx t.plots 1) (kindIdx t.plots 1).length < (kindIdx t.plots 1).length) ↔ (p : Int) ∈ mustTo (lis t wind voice fun _ => true) t.plots.length := by
  rw [count_lt, mem_mustTo]
  have h30 : t.len ≤ 30 := ok.n30
  have hnd : ∀ h, h < t.len → t.at h = 1 → ∃ s, s < 30 ∧ hearB t wind voice h s = true := fun h hh h1 => by
    refine deaf_no ?_
    cases hb : deafB (ears t wind voice h)
    · rfl
    · rw [firstE_eq, if_pos (List.any_eq_true.2 ⟨(h, ears t wind voice h), mem_lis.2 ⟨hh, h1, rfl⟩, hb⟩)] at hd
      cases hd
  have hA : ∀ h : Nat, (h : Int) ∈ heardTo t.wide t.plots wind voice S S.length ↔ h < t.len ∧ t.at h = 1 ∧ ∃ s : Nat, s ≠ p ∧ hearB t wind voice h s = true := fun h => by
    unfold heardTo
    rw [List.take_length, List.mem_flatMap]
    have hat : ∀ s : Nat, s < t.len → t.at s = 0 → housesL t.wide t.plots wind voice s = housesOf t wind voice s := fun s hs h0 => by
      unfold housesL
      have : atE t.wide t.plots wind voice s 0 = 0 := by
        unfold atE openErr plotErr
        rw [hc, ha]
        have hs' : s < t.plots.length := hs
        have h0' : t.plots.getD s 0 = 0 := h0
        rw [if_neg (by simp), if_neg (by omega), Int.toNat_natCast, if_pos h0']
      rw [if_pos this, townOf_self, Int.toNat_natCast]
    constructor
    · rintro ⟨s, hs, hm⟩
      obtain ⟨h1, h2⟩ := (hS s).1 hs
      obtain ⟨s', rfl, hs1, hs2⟩ := mem_kindIdx.1 h1
      rw [hat s' hs1 hs2, mem_housesOf] at hm
      exact ⟨hm.1, hm.2.1, s', by omega, hm.2.2⟩
    · rintro ⟨a, b, s, hs, hh⟩
      have hh2 := hh
      unfold hearB at hh2
      rw [Bool.and_eq_true, decide_eq_true_iff] at hh2
      obtain ⟨⟨hs1, hs2⟩, _⟩ := hh2
      refine ⟨s, (hS s).2 ⟨mem_kindIdx.2 ⟨s, rfl, hs1, hs2⟩, by omega⟩, ?_⟩
      rw [hat s hs1 hs2, mem_housesOf]
      exact ⟨a, b, hh⟩
  constructor
  · rintro ⟨h, hh, hn⟩
    obtain ⟨h', rfl, h1, h2⟩ := mem_kindIdx.1 hh
    refine ⟨hp, (h', ears t wind voice h'), mem_lis.2 ⟨h1, h2, rfl⟩, ?_⟩
    show onlyB p (ears t wind voice h') = true
    have hoth : ∀ s : Nat, s ≠ p → hearB t wind voice h' s = false := fun s hs => by
      cases hb : hearB t wind voice h' s
      · rfl
      · exact absurd ((hA h').2 ⟨h1, h2, s, hs, hb⟩) hn
    obtain ⟨s, hs, hsh⟩ := hnd h' h1 h2
    have hsp : s = p := by
      false_or_by_contra
      rename_i e
      rw [hoth s e] at hsh; cases hsh
    subst hsp
    refine only_iff.2 fun q hq => ?_
    by_cases e : q = s
    · subst e; rw [hsh]; simp
    · rw [hoth q e]; simp [e]
  · rintro ⟨_, x, hx, ho⟩
    obtain ⟨h1, h2, h3⟩ := mem_lis.1 hx
    refine ⟨x.1, mem_kindIdx.2 ⟨x.1, rfl, h1, h2⟩, fun hm => ?_⟩
    obtain ⟨_, _, s, hs, hsh⟩ := (hA x.1).1 hm
    rw [h3] at ho
    have hs30 : s < 30 := by
      unfold hearB at hsh
      rw [Bool.and_eq_true, decide_eq_true_iff] at hsh
      omega
    have := only_iff.1 ho s hs30
    rw [hsh] at this
    simp [hs] at this

/-! calls of the law -/
def mustL (t : Hr.Town) (wind voice : Int) : List Int := if firstE (lis t wind voice fun _ => true) = 0 then mustTo (lis t wind voice fun _ => true) t.plots.length else []
theorem Must_houses (t : Hr.Town) (ok : t.Ok) (hc : checkErr t.wide t.plots = 0) (wind voice : Int) (ha : airErr wind voice = 0) (b o cap : Nat) (a : Option Addr) (hcap : Nat) (w : World) (hP : RdI w (.slice (some ⟨b, o, none⟩) t.plots.length cap) t.plots)
    (hR : RdI w (.slice a (kindIdx t.plots 1).length hcap) (kindIdx t.plots 1)) :
    Calls Try.prog 48 #[.agg #[.int .i64 t.wide, .slice (some ⟨b, o, none⟩) t.plots.length cap], .agg #[.int .i64 wind, .int .i64 voice], .slice a (kindIdx t.plots 1).length hcap] w fun e w' =>
      ∃ v, e = .returned (.tuple #[v, .int .i64 (firstE (lis t wind voice fun _ => true))]) ∧ Below w.heap.size w w' ∧ RdI w' v (mustL t wind voice) := by
  have hne : t.plots ≠ [] := by intro e; have := (check_len hc).2; rw [e] at this; simp at this
  obtain ⟨b', o', e', -, hI⟩ := rd_ints hP hne
  cases e'
  obtain ⟨w0, w4, v1, v40⟩ := wind_ok ha
  have hn30 : t.plots.length ≤ 30 := ok.n30
  have hk : (kindIdx t.plots 1).length ≤ 30 := Nat.le_trans (kindTo_len _ _ _) hn30
  have hOQ := oq_of t hc wind voice ha b o cap a hcap (kindIdx t.plots 1) (by omega) w (rd_plots hP (by omega)) hI hR (qAll_houses t.plots hn30 t.plots.length (Nat.le_refl _)).1
  refine (Must_ok t ok wind voice w0 w4 b o cap _ (qNm t.plots) (qNm_len _) w hI hOQ).mono ?_
  rintro e w' ⟨v, rfl, hB, h1, h2⟩
  rw [lis_houses ok] at h1 h2 ⊢
  refine ⟨v, rfl, hB, ?_⟩
  unfold mustL
  by_cases h0 : firstE (lis t wind voice fun _ => true) = 0
  · rw [if_pos h0]
    exact RdI.own rfl rfl (h2 h0)
  · rw [if_neg h0, h1 h0]
    exact ⟨by simp, none, 0, rfl, fun h => absurd rfl h⟩
theorem entered73 : Entered 73 := fun args W => by kernel_rfl
set_option maxHeartbeats 1000000 in
theorem ask73 (c9 : Nat) (p : Int) (W : World) (h : W.cell? ⟨c9, 0, none⟩ = some (.int .i64 p)) : AskI 73 (.pointer (some ⟨c9, 0, none⟩)) (fun h => h == p) W := by
  intro x
  have hl : c9 < W.heap.size := by
    rcases Nat.lt_or_ge c9 W.heap.size with h' | h'
    · exact h'
    · simp [World.cell?, Array.getElem?_eq_none h'] at h
  go_enter Try.func73, Try.ntmps73
  go_wp2
  go_ret
  exact ⟨rfl, Below.refl _ _⟩
theorem mem_kept {L : List Int} {p s : Int} : s ∈ keptTo (fun h => h == p) L L.length ↔ s ∈ L ∧ s ≠ p := by
  unfold keptTo
  rw [List.take_length, List.mem_filter]
  simp
theorem contains_rd (v : Value) (M : List Int) (x : Int) (w : World) (h : RdI w v M) : Calls Try.prog 66 #[v, .int .i64 x] w fun e w' => e = .returned (.bool (M.contains x)) ∧ Below w.heap.size w w' := by
  obtain ⟨hl, a, cap, rfl, hI⟩ := h
  by_cases h0 : M = []
  · subst h0
    refine (Try.slices_Contains_int_empty a cap x w).mono ?_
    rintro e w' ⟨rfl, rfl⟩
    exact ⟨rfl, Below.refl _ _⟩
  · obtain ⟨b, o, rfl, hI2⟩ := hI h0
    refine (Try.slices_Contains_int b o M.length cap M x w (Nat.le_refl _) hl (fun j hj => hI2.2 j hj)).mono ?_
    rintro e w' ⟨rfl, rfl⟩
    exact ⟨by rw [List.take_length], Below.refl _ _⟩
theorem rd_aft {g : Nat} {w w' : World} {v : Value} {H : List Int} (h : RdI w v H) (hA : Aft g w w') (ho : H = [] ∨ Off g v) : RdI w' v H := by
  rcases ho with e | ho
  · obtain ⟨hl, a, cap, e1, _⟩ := h
    exact ⟨hl, a, cap, e1, fun hn => absurd e hn⟩
  · exact h.hold hA ho
theorem rd_off {w : World} {v : Value} {H : List Int} (h : RdI w v H) : H = [] ∨ Off w.heap.size v := by
  by_cases h0 : H = []
  · exact .inl h0
  · right
    intro b o n c e
    obtain ⟨hl, a, cap, e1, hI⟩ := h
    obtain ⟨b', o', e2, hI2⟩ := hI h0
    rw [e1] at e
    injection e with e
    rw [e2] at e
    injection e with e
    injection e with e
    have := hI2.1
    omega
/-- what the region of the last count leaves -/
def spD32 (TV AV v8 : Value) (H S : List Int) (nL N c9 B : Nat) (L : List Int) : Nat → Bool → List Value → Value → World → Prop
  | 0, _, _, v, _ => v = TV
  | 1, _, _, v, _ => v = AV
  | 2, _, _, v, _ => v = TV
  | 3, c, _, v, w => c = false → RdI w v H
  | 4, _, _, v, _ => v = v8
  | 5, c, D, v, w => c = false → ∃ g, v = .slice (some ⟨g, 0, none⟩) nL nL ∧ B ≤ g ∧ TabAt w g L ∧ (H = [] ∨ Off g (D.getD 1 undef))
  | 6, _, _, v, _ => v = .func (.func 73) #[] #[.pointer (some ⟨c9, 0, none⟩)]
  | 7, c, D, v, w => c = true ∧ RdI w v S ∧ RdI w (D.getD 1 undef) H
  | 8, c, _, v, _ => c = true ∧ v = .tuple #[.int .i64 N, .bool true]
  | 9, c, _, v, _ => c = true ∧ v = .tuple #[.int .i64 N, .bool true]
  | 10, c, _, v, _ => c = true ∧ v = .int .i64 N
  | 11, c, _, v, _ => c = true ∧ v = .bool true
  | 12, c, _, v, _ => c = true ∧ v = .int .i64 N
  | 13, c, _, v, _ => c = true ∧ v = .bool true
  | _, _, _, _, _ => False
def gD32 (B : Nat) (i : Nat) (a b : World) : Prop := if i = 7 then Below B a b else Below a.heap.size a b ∧ Below B a b
theorem below_isGr (B : Nat) : Rg.IsGr (fun a b => Below B a b) where
  refl w := Below.refl _ _
  drew w := (Below.refl _ _).drew
  trans h k := h.trans k
theorem gD32_all (B i : Nat) (a b : World) (h : gD32 B i a b) : Below B a b := by
  unfold gD32 at h
  split at h
  · exact h
  · exact h.2
theorem gD32_refl (B i : Nat) (a : World) : gD32 B i a a := by
  unfold gD32
  split
  · exact Below.refl _ _
  · exact ⟨Below.refl _ _, Below.refl _ _⟩
theorem gD32_of {B i : Nat} {a b : World} (hi : i ≠ 7) (h : Below a.heap.size a b) (hB : B ≤ a.heap.size) : gD32 B i a b := by
  unfold gD32; rw [if_neg hi]; exact ⟨h, h.mono hB⟩
theorem spD32_stable (TV AV v8 : Value) (H S : List Int) (nL N c9 B : Nat) (L : List Int) : ∀ i c w w', (i = 7 → c = false) → gD32 B i w w' → ∀ k D v, spD32 TV AV v8 H S nL N c9 B L k c D v w → spD32 TV AV v8 H S nL N c9 B L k (c || i == 7) D v w' := by
  intro i c w w' hc hg k D v h
  by_cases hi : i = 7
  · have hcf := hc hi
    subst hcf
    subst hi
    match k with
    | 0 => exact h
    | 1 => exact h
    | 2 => exact h
    | 3 => exact fun e => by cases e
    | 4 => exact h
    | 5 => exact fun e => by cases e
    | 6 => exact h
    | 7 => exact absurd h.1 (by simp)
    | 8 => exact absurd h.1 (by simp)
    | 9 => exact absurd h.1 (by simp)
    | 10 => exact absurd h.1 (by simp)
    | 11 => exact absurd h.1 (by simp)
    | 12 => exact absurd h.1 (by simp)
    | 13 => exact absurd h.1 (by simp)
    | _ + 14 => exact h.elim
  · have e1 : (c || i == 7) = c := by simp [hi]
    rw [e1]
    have hb : Below w.heap.size w w' := by unfold gD32 at hg; rw [if_neg hi] at hg; exact hg.1
    match k with
    | 0 => exact h
    | 1 => exact h
    | 2 => exact h
    | 3 => exact fun e => (h e).below hb
    | 4 => exact h
    | 5 => exact fun e => by obtain ⟨g, h1, h2, h3, h4⟩ := h e; exact ⟨g, h1, h2, h3.below hb h3.lt, h4⟩
    | 6 => exact h
    | 7 => exact ⟨h.1, h.2.1.below hb, h.2.2.below hb⟩
    | 8 => exact h
    | 9 => exact h
    | 10 => exact h
    | 11 => exact h
    | 12 => exact h
    | 13 => exact h
    | _ + 14 => exact h.elim
end Go.Proofs.Ytimedmkpenbmkaa

namespace Go.Proofs.Ytimedmkpenbmkaa
open Go.RowKit Go.Shelf
set_option linter.unusedSimpArgs false
set_option linter.unusedVariables false

/-! together: stands that are used, and those that a house hears -/
def mixTo (us es : List Bool) (k : Nat) : List Bool := (List.range 30).map fun s => us.getD s false || (decide (s < k) && es.getD s false)
def clashTo (us es : List Bool) (k : Nat) : Bool := (List.range k).any fun s => us.getD s false && es.getD s false
theorem clash_next (us es : List Bool) (k : Nat) : clashTo us es (k + 1) = (clashTo us es k || (us.getD k false && es.getD k false)) := by
  unfold clashTo; rw [List.range_succ, List.any_append]; simp
theorem mix_zero {us : List Bool} (es : List Bool) (h : us.length = 30) : mixTo us es 0 = us := by
  apply List.ext_getElem?
  intro s
  unfold mixTo
  by_cases hs : s < 30
  · simp [hs, h]
  · rw [List.getElem?_eq_none (by simp; omega), List.getElem?_eq_none (by omega)]
theorem mix_len (us es : List Bool) (k : Nat) : (mixTo us es k).length = 30 := by unfold mixTo; simp
theorem mix_get (us es : List Bool) (k : Nat) {s : Nat} (hs : s < 30) : (mixTo us es k).getD s false = (us.getD s false || (decide (s < k) && es.getD s false)) := by
  unfold mixTo; rw [List.getD_eq_getElem?_getD]; simp [hs]
theorem mix_set (us es : List Bool) {k : Nat} (hk : k < 30) : (mixTo us es k).set k (us.getD k false || es.getD k false) = mixTo us es (k + 1) := by
  apply List.ext_getElem?
  intro s
  rw [List.getElem?_set]
  unfold mixTo
  by_cases e : k = s
  · subst e; simp [hk]
  · by_cases hs : s < 30
    · have : decide (s < k + 1) = decide (s < k) := by congr 1; apply propext; omega
      simp [e, hs, this]
    · rw [if_neg e, List.getElem?_eq_none (by simp; omega), List.getElem?_eq_none (by simp; omega)]

theorem results_row_tmp {fn : Func} {p u : Tmp} (h : fn.results = #[.cell p 128, .tmp u]) (tmps : Array Value) (w : World) (g : Nat) (t : TypeId) (cs : Array Value) (fr : Nat × Nat)
    (hp : tmps.getD p undef = .pointer (some ⟨g, 0, none⟩)) (hg : w.heap[g]? = some (.cells cs t fr)) (hi : (Try.prog.info? 128).map (·.size) = some cs.size) :
    (results fn tmps).run Try.prog w = .ok (.tuple #[.agg cs, tmps.getD u undef]) w := by
  rw [results_cell_tmp h, hp]
  simp [asAddr, Result.andThen, run_loadVar_row w g t 128 cs fr _ hg und128 rfl hi]
theorem bools_all (l : List Bool) : (l.map Value.bool).toArray.all (·.oneCell') = true := by
  rw [Array.all_eq_true]
  intro i hi
  simp
  rfl
theorem bools_size {l : List Bool} (h : l.length = 30) : (Try.prog.info? 128).map (·.size) = some (l.map Value.bool).toArray.size := by rw [List.size_toArray, List.length_map, h]; exact size128
theorem clash_go {us es : List Bool} {k : Nat} (hk : k < 30) (h : clashTo us es (k + 1) = true) : clashTo us es 30 = true := by
  unfold clashTo at *
  rw [List.any_eq_true] at h ⊢
  obtain ⟨s, hs, h⟩ := h
  exact ⟨s, List.mem_range.2 (by have := List.mem_range.1 hs; omega), h⟩
set_option maxHeartbeats 2000000 in
set_option maxRecDepth 100000 in
theorem together_any (us es : List Bool) (hu : us.length = 30) (he : es.length = 30) (w : World) :
    Calls Try.prog 146 #[.agg (us.map Value.bool).toArray, .agg (es.map Value.bool).toArray] w fun e w' =>
      e = .returned (if clashTo us es 30 then .tuple #[.agg ((List.replicate 30 false).map Value.bool).toArray, .bool false] else .tuple #[.agg ((mixTo us es 30).map Value.bool).toArray, .bool true]) ∧ Below w.heap.size w w' := by
  obtain ⟨A, hA⟩ : ∃ A, A = (if clashTo us es 30 then .tuple #[.agg ((List.replicate 30 false).map Value.bool).toArray, .bool false] else .tuple #[.agg ((mixTo us es 30).map Value.bool).toArray, .bool true] : Value) := ⟨_, rfl⟩
  rw [← hA]
  have HAQ := Lib.hid hA
  clear hA
  have hmz := mix_zero es hu
  obtain ⟨U, hU⟩ : ∃ U, U = us.map Value.bool := ⟨_, rfl⟩
  obtain ⟨Es, hEs⟩ : ∃ Es, Es = es.map Value.bool := ⟨_, rfl⟩
  have hEsz : (Try.prog.info? 128).map (·.size) = some Es.toArray.size := by rw [hEs, List.size_toArray, List.length_map, he]; exact size128
  have hr1 : ∀ o1 o3, (((w.alloc o1).alloc (.cells Es.toArray 128)).alloc o3).heap[w.heap.size + 1]? = some (.cells Es.toArray 128 (0, 0)) := fun o1 o3 => by
    rw [Below.heap_alloc _ _ _ (by simp)]; have := heap_alloc_last (w.alloc o1) (.cells Es.toArray 128); simpa using this
  have hr0 : ∀ o2 o3, (((w.alloc (.cells U.toArray 128)).alloc o2).alloc o3).heap[w.heap.size]? = some (.cells U.toArray 128 (0, 0)) := fun o2 o3 => by
    rw [Below.heap_alloc _ _ _ (by simp; omega), Below.heap_alloc _ _ _ (by simp)]; exact heap_alloc_last _ _
  have HR1 := Lib.hid hr1
  have HR0 := Lib.hid hr0
  have HEZ := Lib.hid hEsz
  have HU := Lib.hid hU
  have HES := Lib.hid hEs
  have HMZ := Lib.hid hmz
  rw [← hU, ← hEs]
  clear hU hEs hEsz hr1 hr0 hmz
  go_enter Try.func146, Try.ntmps146
  go_wp2_with (with_reducible refine wpList_load_row rfl 128 _ rfl (w.heap.size + 1) rfl 128 Es.toArray (0, 0) _ (HR1.out _ _) und128 rfl HEZ.out ?_)
  obtain ⟨W0, hW0⟩ : ∃ W0 : World, W0 = ((w.alloc (Obj.cells U.toArray 128)).alloc (Obj.cells Es.toArray 128)).alloc (.cells ((List.replicate 30 false).map Value.bool).toArray 128) := ⟨_, rfl⟩
  have hb0 : Below w.heap.size w W0 := by rw [hW0]; exact al (al (al (Below.refl _ _) _) _) _
  have hz0 : W0.heap[w.heap.size + 1 + 1]? = some (.cells ((List.replicate 30 false).map Value.bool).toArray 128 (0, 0)) := by
    rw [hW0]; have := heap_alloc_last ((w.alloc (Obj.cells U.toArray 128)).alloc (Obj.cells Es.toArray 128)) (.cells ((List.replicate 30 false).map Value.bool).toArray 128); simpa using this
  have hu0 : W0.heap[w.heap.size]? = some (.cells ((mixTo us es 0).map Value.bool).toArray 128 (0, 0)) := by rw [hW0, HMZ.out, ← HU.out]; exact HR0.out _ _
  have hsw : ((w.alloc (Obj.cells U.toArray 128)).alloc (Obj.cells Es.toArray 128)).alloc (.cells #[Value.bool false, Value.bool false, Value.bool false, Value.bool false, Value.bool false, Value.bool false,
          Value.bool false, Value.bool false, Value.bool false, Value.bool false, Value.bool false, Value.bool false,
          Value.bool false, Value.bool false, Value.bool false, Value.bool false, Value.bool false, Value.bool false,
          Value.bool false, Value.bool false, Value.bool false, Value.bool false, Value.bool false, Value.bool false,
          Value.bool false, Value.bool false, Value.bool false, Value.bool false, Value.bool false, Value.bool false] 128) = W0 := by rw [hW0]; rfl
  rw [hsw]
  have HB0 := Lib.hid hb0
  have HZ0 := Lib.hid hz0
  have HU0 := Lib.hid hu0
  clear hW0 hb0 hz0 hu0 hsw HR1 HR0 HMZ
  go_loopw [9] (fun i wr => ∃ k : Nat, k ≤ 30 ∧ i = .int .i64 k ∧ wr.heap[w.heap.size]? = some (.cells ((mixTo us es k).map Value.bool).toArray 128 (0, 0)) ∧ wr.heap[w.heap.size + 1 + 1]? = some (.cells ((List.replicate 30 false).map Value.bool).toArray 128 (0, 0)) ∧ clashTo us es k = false ∧ Below w.heap.size w wr) (fun i _ => 30 - (intOf i).toNat)
  case atStart => exact ⟨0, by omega, rfl, HU0.out, HZ0.out, rfl, HB0.out⟩
  case round =>
    obtain ⟨k, hk, rfl, hrow, hzr, hcl, hB⟩ := hrel
    obtain ⟨wk, rfl⟩ : ∃ wk : World, wk = wr := ⟨_, rfl⟩
    have HROW := Lib.hid hrow
    have HZR := Lib.hid hzr
    have HCL := Lib.hid hcl
    have HB := Lib.hid hB
    have hzl := (Array.getElem?_eq_some_iff.1 hzr).1
    have hrl := (Array.getElem?_eq_some_iff.1 hrow).1
    clear hrow hzr hcl hB
    by_cases hlt : k < 30
    · have hlt' : (k : Int) < 30 := by omega
      obtain ⟨e, hee⟩ : ∃ e, e = es.getD k false := ⟨_, rfl⟩
      obtain ⟨u, huu⟩ : ∃ u, u = us.getD k false := ⟨_, rfl⟩
      have hix : Es[k]? = some (.bool e) := by
        rw [HES.out, List.getElem?_map, hee, List.getD_eq_getElem?_getD, List.getElem?_eq_getElem (by omega)]; rfl
      have hcell : wk.cell? ⟨w.heap.size, k, none⟩ = some (.bool u) := by
        rw [cell_of_row _ _ _ _ _ _ HROW.out]
        have := mix_get us es k hlt
        rw [show decide (k < k) = false by simp, Bool.false_and, Bool.or_false, ← huu, List.getD_eq_getElem?_getD] at this
        have hl : k < (mixTo us es k).length := by rw [mix_len]; exact hlt
        rw [List.getElem?_eq_getElem hl] at this
        simp [List.getElem?_eq_getElem hl]
        simpa using this
      have hfz := frozen_of_row wk w.heap.size k _ _ HROW.out
      have hset := mix_set us es hlt
      have hcn := clash_next us es k
      rw [← hee, ← huu] at hset hcn
      rw [HCL.out] at hcn
      have HSET := Lib.hid hset
      have HCN := Lib.hid hcn
      have hEl : Es.length = 30 := by rw [HES.out, List.length_map]; exact he
      have hyi : ∀ W, (Instr.index 128 (.agg Es.toArray) (.int .i64 (k : Int))).run Try.prog W = .ok (.bool e) W := fun W => idx_arr und128 agg4 siz4 hlt (by rw [List.getElem?_toArray]; exact hix) W
      clear hset hcn hee huu hix hEl
      have hthere : wk.there (w.heap.size + 1 + 1) 0 ((List.replicate 30 false).map Value.bool).toArray.size := fun j hj => by
        rw [Nat.zero_add, cell_of_row _ _ _ _ _ _ HZR.out, frozen_of_row _ _ _ _ _ HZR.out]
        exact ⟨by simp at hj ⊢; exact hj, rfl⟩
      have HTH := Lib.hid hthere
      have HZI := Lib.hid (bools_size (l := List.replicate 30 false) (by simp))
      have HZA := Lib.hid (bools_all (List.replicate 30 false))
      have hne : w.heap.size + 1 + 1 ≠ w.heap.size := by omega
      clear hthere
      cases e <;> cases u
      case true.true =>
        have HC30 := Lib.hid (clash_go hlt HCN.out)
        go_wp2_with (with_reducible refine wpList_store_mid rfl 128 _ _ rfl (w.heap.size + 1 + 1) 0 ((List.replicate 30 false).map Value.bool).toArray rfl rfl HTH.out HZI.out HZA.out ?_)
        have hh : (wk.setCells (w.heap.size + 1 + 1) 0 ((List.replicate 30 false).map Value.bool).toArray.toList).heap[w.heap.size + 1 + 1]? = some (.cells ((List.replicate 30 false).map Value.bool).toArray 128 (0, 0)) := by
          rw [heap_setCells _ _ _ _ _ _ _ HZR.out, setFrom_all _ _ (by simp)]
        refine bodyPost_ret (results_row_tmp rfl _ _ (w.heap.size + 1 + 1) 128 _ (0, 0) rfl hh HZI.out) rfl ⟨?_, below_setCells' (by omega) _ _ _ HB.out⟩
        rw [HAQ.out, if_pos HC30.out]; rfl
      all_goals
        go_wp2_with fail
        refine ⟨⟨k + 1, by omega, by simp, ?_, (Below.heap_setCell _ _ _ _ hne).trans HZR.out, HCN.out, setc HB.out (Nat.le_refl _)⟩, ?_⟩
        · rw [heap_set_same _ HROW.out, ← HSET.out, List.map_set, List.setIfInBounds_toArray]; rfl
        · simp [intOf]; omega
    · obtain rfl : k = 30 := by omega
      have HMI := Lib.hid (bools_size (mix_len us es 30))
      have hthere : wk.there (w.heap.size + 1 + 1) 0 ((mixTo us es 30).map Value.bool).toArray.size := fun j hj => by
        rw [Nat.zero_add, cell_of_row _ _ _ _ _ _ HZR.out, frozen_of_row _ _ _ _ _ HZR.out]
        exact ⟨by simp [mix_len] at hj ⊢; exact hj, rfl⟩
      have HTH := Lib.hid hthere
      have HMA := Lib.hid (bools_all (mixTo us es 30))
      clear hthere
      go_wp2_with (first
        | (with_reducible refine wpList_load_row rfl 128 _ rfl w.heap.size rfl 128 ((mixTo us es 30).map Value.bool).toArray (0, 0) _ HROW.out und128 rfl HMI.out ?_)
        | (with_reducible refine wpList_store_mid rfl 128 _ _ rfl (w.heap.size + 1 + 1) 0 ((mixTo us es 30).map Value.bool).toArray rfl rfl HTH.out HMI.out HMA.out ?_))
      have hh : (wk.setCells (w.heap.size + 1 + 1) 0 ((mixTo us es 30).map Value.bool).toArray.toList).heap[w.heap.size + 1 + 1]? = some (.cells ((mixTo us es 30).map Value.bool).toArray 128 (0, 0)) := by
        rw [heap_setCells _ _ _ _ _ _ _ HZR.out, setFrom_all _ _ (by simp [mix_len])]
      refine bodyPost_ret (results_row_tmp rfl _ _ (w.heap.size + 1 + 1) 128 _ (0, 0) rfl hh HMI.out) rfl ⟨?_, below_setCells' (by omega) _ _ _ HB.out⟩
      rw [HAQ.out, if_neg (by rw [HCL.out]; simp)]; rfl
end Go.Proofs.Ytimedmkpenbmkaa

namespace Go.Proofs.Ytimedmkpenbmkaa
open Go.RowKit Go.Shelf
set_option linter.unusedSimpArgs false
set_option linter.unusedVariables false

/-! what choose tells: the first of the shortest lists that serve most -/
theorem and_bit (n i : Nat) : (n &&& 2 ^ i ≠ 0) ↔ n.testBit i = true := by
  constructor
  · intro h
    obtain ⟨j, hj⟩ : ∃ j, (n &&& 2 ^ i).testBit j = true := by
      false_or_by_contra
      rename_i hn
      exact h (Nat.eq_of_testBit_eq fun j => by
        cases hb : (n &&& 2 ^ i).testBit j
        · simp
        · exact absurd ⟨j, hb⟩ hn)
    rw [Nat.testBit_and, Nat.testBit_two_pow, Bool.and_eq_true, decide_eq_true_iff] at hj
    obtain ⟨h1, rfl⟩ := hj
    exact h1
  · intro h e
    have : (n &&& 2 ^ i).testBit i = true := by rw [Nat.testBit_and, Nat.testBit_two_pow, h]; simp
    rw [e] at this; simp at this
theorem srv_bit (cs : List Crowd) (s : Nat) : ∀ k i, (srv cs s k).testBit i = (decide (i < k) && (cs.getD i ([], 0)).1.getD s false)
  | 0, i => by simp [srv]
  | k + 1, i => by
    have ih := srv_bit cs s k i
    rw [srv]
    by_cases hik : k = i
    · subst hik
      split
      · rename_i h
        rw [Nat.testBit_or, ih, Nat.testBit_two_pow, h]; simp
      · rename_i h
        rw [ih]; simp at h ⊢; simp [h]
    · have e : decide (i < k + 1) = decide (i < k) := by congr 1; apply propext; omega
      split
      · rw [Nat.testBit_or, ih, Nat.testBit_two_pow, e]; simp [hik]
      · rw [ih, e]
/-- the crowds that hear one of some stands -/
def covS (cs : List Crowd) : List Nat → Nat
  | [] => 0
  | s :: S => srv cs s cs.length ||| covS cs S
/-- how many houses hear one of some stands -/
def valS (cs : List Crowd) (S : List Nat) : Int := mny cs (covS cs S) cs.length
def hit (S : List Nat) (e : List Bool) : Bool := S.any fun s => e.getD s false
theorem cov_bit (cs : List Crowd) : ∀ (S : List Nat) (i : Nat), (covS cs S).testBit i = (decide (i < cs.length) && hit S (cs.getD i ([], 0)).1)
  | [], i => by simp [covS, hit]
  | s :: S, i => by
    rw [covS, Nat.testBit_or, srv_bit, cov_bit cs S i]
    unfold hit
    rw [List.any_cons, Bool.and_or_distrib_left]
theorem cov_app (cs : List Crowd) : ∀ (A B : List Nat), covS cs (A ++ B) = covS cs A ||| covS cs B
  | [], B => by simp [covS]
  | a :: A, B => by rw [List.cons_append, covS, covS, cov_app cs A B, Nat.or_assoc]
theorem hit_congr {S T : List Nat} (h : ∀ s, s ∈ S ↔ s ∈ T) (e : List Bool) : hit S e = hit T e := by
  unfold hit
  rw [Bool.eq_iff_iff, List.any_eq_true, List.any_eq_true]
  constructor
  · rintro ⟨s, h1, h2⟩; exact ⟨s, (h s).1 h1, h2⟩
  · rintro ⟨s, h1, h2⟩; exact ⟨s, (h s).2 h1, h2⟩
theorem cov_congr (cs : List Crowd) {S T : List Nat} (h : ∀ s, s ∈ S ↔ s ∈ T) : covS cs S = covS cs T :=
  Nat.eq_of_testBit_eq fun i => by rw [cov_bit, cov_bit, hit_congr h]
def sumP (p : List Bool → Bool) : List Crowd → Int
  | [] => 0
  | c :: r => (if p c.1 then c.2 else 0) + sumP p r
theorem sumP_app (p : List Bool → Bool) : ∀ (a b : List Crowd), sumP p (a ++ b) = sumP p a + sumP p b
  | [], b => by simp [sumP]
  | c :: a, b => by rw [List.cons_append, sumP, sumP, sumP_app p a b]; omega
theorem mny_cov (cs : List Crowd) (S : List Nat) : ∀ k, k ≤ cs.length → mny cs (covS cs S) k = sumP (hit S) (cs.take k)
  | 0, _ => by simp [mny, sumP]
  | k + 1, hk => by
    have hg : cs.getD k ([], 0) = cs[k]'(by omega) := by rw [List.getD_eq_getElem?_getD, List.getElem?_eq_getElem (by omega)]; rfl
    rw [mny, mny_cov cs S k (by omega), List.take_succ_eq_append_getElem (by omega), sumP_app]
    have hb := cov_bit cs S k
    have hd : decide (k < cs.length) = true := by simp; omega
    rw [hd, Bool.true_and, hg] at hb
    rw [hg]
    by_cases h : hit S (cs[k]'(by omega)).1 = true
    · rw [if_pos ((and_bit _ _).2 (by rw [hb, h]))]; simp [sumP, h]
    · rw [if_neg (fun e => h (by rw [← hb]; exact (and_bit _ _).1 e))]; simp [sumP, h]
theorem sumP_add (p : List Bool → Bool) (e : List Bool) : ∀ (cs : List Crowd), sumP p (addCrowd cs e) = sumP p cs + if p e then 1 else 0
  | [] => by simp [addCrowd, sumP]
  | c :: r => by
    unfold addCrowd
    split
    · rename_i h
      rw [sumP, sumP, ← h]
      simp only
      split <;> omega
    · rw [sumP, sumP, sumP_add p e r]; omega
theorem sumP_to (p : List Bool → Bool) : ∀ (l : List (Nat × List Bool)) (cs : List Crowd), sumP p (crowdsTo cs l) = sumP p cs + (l.filter fun x => p x.2).length
  | [], cs => by simp [crowdsTo]
  | x :: l, cs => by
    have : crowdsTo cs (x :: l) = crowdsTo (addCrowd cs x.2) l := rfl
    rw [this, sumP_to p l, sumP_add, List.filter_cons]
    split <;> simp <;> omega
/-- how many houses of a list hear one of some stands -/
def cntS (l : List (Nat × List Bool)) (S : List Nat) : Nat := (l.filter fun x => hit S x.2).length
theorem val_cnt (l : List (Nat × List Bool)) (S : List Nat) : valS (crowdsP l) S = cntS l S := by
  unfold valS
  rw [mny_cov _ _ _ (Nat.le_refl _), List.take_length]
  unfold crowdsP
  rw [sumP_to]
  simp [sumP, cntS]

/-! the memo's numbers -/
def mstK (cs : List Crowd) (set k : Nat) : Int := (mstL cs set).getD k 0
theorem fold_zero (cs : List Crowd) (set : Nat) : ∀ (ms : List Nat) (b : List Int), b.length = 11 → (ms.foldl (stepM cs set) b).getD 0 0 = b.getD 0 0
  | [], b, _ => rfl
  | m :: ms, b, hb => by
    rw [List.foldl_cons, fold_zero cs set ms _ (stepM_len hb m)]
    unfold stepM
    split
    · rfl
    · rw [bump_get (thn := mstL cs (set ||| m)) hb (mst_len _ _ _) (by omega), if_pos rfl]
theorem fold_succ (cs : List Crowd) (set k : Nat) (hk : k < 10) (x : Int) : ∀ (ms : List Nat) (b : List Int), b.length = 11 → ((ms.foldl (stepM cs set) b).getD (k + 1) 0 ≤ x ↔ b.getD (k + 1) 0 ≤ x ∧ ∀ m ∈ ms, set ||| m ≠ set → mstK cs (set ||| m) k ≤ x)
  | [], b, _ => by simp
  | m :: ms, b, hb => by
    rw [List.foldl_cons, fold_succ cs set k hk x ms _ (stepM_len hb m)]
    have h1 : (stepM cs set b m).getD (k + 1) 0 ≤ x ↔ b.getD (k + 1) 0 ≤ x ∧ (set ||| m ≠ set → mstK cs (set ||| m) k ≤ x) := by
      unfold stepM
      split
      · rename_i h
        constructor
        · intro h2; exact ⟨h2, fun h3 => absurd h h3⟩
        · intro h2; exact h2.1
      · rename_i h
        rw [bump_get (thn := mstL cs (set ||| m)) hb (mst_len _ _ _) (by omega), if_neg (by omega), Nat.add_sub_cancel]
        unfold mstK
        constructor
        · intro h2; exact ⟨by omega, fun _ => by omega⟩
        · intro h2; have := h2.2 h; omega
    rw [h1]
    constructor
    · rintro ⟨⟨a, b⟩, c⟩
      refine ⟨a, fun m' hm => ?_⟩
      rcases List.mem_cons.1 hm with rfl | hm
      · exact b
      · exact c m' hm
    · rintro ⟨a, b⟩
      exact ⟨⟨a, b m (by simp)⟩, fun m' hm => b m' (by simp [hm])⟩
theorem mstK_zero (cs : List Crowd) (set : Nat) : mstK cs set 0 = mny cs set cs.length := by
  unfold mstK
  rw [mstL_eq, fold_zero _ _ _ _ (by simp), getD_rep _ (by omega)]
theorem mstK_succ (cs : List Crowd) (set k : Nat) (hk : k < 10) (x : Int) : mstK cs set (k + 1) ≤ x ↔ mny cs set cs.length ≤ x ∧ ∀ s, s < 30 → set ||| srv cs s cs.length ≠ set → mstK cs (set ||| srv cs s cs.length) k ≤ x := by
  have h : mstK cs set (k + 1) = ((srvs cs).foldl (stepM cs set) (List.replicate 11 (mny cs set cs.length))).getD (k + 1) 0 := by unfold mstK; rw [mstL_eq]
  rw [h, fold_succ cs set k hk x _ _ (by simp), getD_rep _ (by omega)]
  constructor
  · rintro ⟨a, b⟩
    exact ⟨a, fun s hs => b _ (List.mem_map.2 ⟨s, List.mem_range.2 hs, rfl⟩)⟩
  · rintro ⟨a, b⟩
    refine ⟨a, fun m hm => ?_⟩
    obtain ⟨s, hs, rfl⟩ := List.mem_map.1 hm
    exact b s (List.mem_range.1 hs)
theorem miss_lt {cs : List Crowd} {set s : Nat} (h : set ||| srv cs s cs.length ≠ set) : missing cs (set ||| srv cs s cs.length) < missing cs set := missing_lt (srv_lt _ _ _) h
theorem mst_ge (cs : List Crowd) : ∀ n set, missing cs set < n → ∀ S : List Nat, (∀ s ∈ S, s < 30) → ∀ k, S.length ≤ k → k ≤ 10 → mny cs (set ||| covS cs S) cs.length ≤ mstK cs set k
  | 0, _, h => absurd h (by omega)
  | n + 1, set, h => by
    intro S
    induction S with
    | nil =>
      intro _ k _ hk
      rw [show set ||| covS cs [] = set by simp [covS]]
      match k with
      | 0 => rw [mstK_zero]; exact Int.le_refl _
      | k + 1 => exact ((mstK_succ cs set k (by omega) _).1 (Int.le_refl _)).1
    | cons s S ih =>
      intro hs k hl hk
      have e : set ||| covS cs (s :: S) = (set ||| srv cs s cs.length) ||| covS cs S := by rw [covS, Nat.or_assoc]
      rw [e]
      by_cases ha : set ||| srv cs s cs.length = set
      · rw [ha]
        exact ih (fun x hx => hs x (by simp [hx])) k (by rw [List.length_cons] at hl; omega) hk
      · match k, hl with
        | k + 1, hl =>
          have h1 := mst_ge cs n (set ||| srv cs s cs.length) (by have := miss_lt ha; omega) S (fun x hx => hs x (by simp [hx])) k (by rw [List.length_cons] at hl; omega) (by omega)
          exact Int.le_trans h1 (((mstK_succ cs set k (by omega) _).1 (Int.le_refl _)).2 s (hs s (by simp)) ha)
theorem mst_ex (cs : List Crowd) : ∀ n set, missing cs set < n → ∀ k, k ≤ 10 → ∃ S : List Nat, (∀ s ∈ S, s < 30) ∧ S.length ≤ k ∧ mny cs (set ||| covS cs S) cs.length = mstK cs set k
  | 0, _, h => absurd h (by omega)
  | n + 1, set, h => by
    intro k hk
    match k with
    | 0 => exact ⟨[], by simp, by simp, by rw [mstK_zero]; simp [covS]⟩
    | k + 1 =>
      have h1 := (mstK_succ cs set k (by omega) _).1 (Int.le_refl _)
      have h2 : ¬ (mstK cs set (k + 1) ≤ mstK cs set (k + 1) - 1) := by omega
      rw [mstK_succ cs set k (by omega)] at h2
      by_cases h3 : mny cs set cs.length ≤ mstK cs set (k + 1) - 1
      · obtain ⟨s, hs, hne, hv⟩ : ∃ s, s < 30 ∧ set ||| srv cs s cs.length ≠ set ∧ ¬ mstK cs (set ||| srv cs s cs.length) k ≤ mstK cs set (k + 1) - 1 := by
          false_or_by_contra
          rename_i hn
          refine h2 ⟨h3, fun s hs hne => ?_⟩
          false_or_by_contra
          rename_i hv
          exact hn ⟨s, hs, hne, hv⟩
        obtain ⟨S, a, b, c⟩ := mst_ex cs n (set ||| srv cs s cs.length) (by have := miss_lt hne; omega) k (by omega)
        refine ⟨s :: S, fun x hx => ?_, by simp; omega, ?_⟩
        · rcases List.mem_cons.1 hx with rfl | hx
          · exact hs
          · exact a x hx
        · rw [covS, ← Nat.or_assoc, c]
          have := h1.2 s hs hne
          omega
      · exact ⟨[], by simp, by simp, by have := h1.1; simp [covS]; omega⟩
theorem mst0_ge (cs : List Crowd) {S : List Nat} (hS : ∀ s ∈ S, s < 30) {k : Nat} (hk : S.length ≤ k) (hk2 : k ≤ 10) : valS cs S ≤ mstK cs 0 k := by
  have := mst_ge cs _ 0 (Nat.lt_succ_self _) S hS k hk hk2
  rwa [Nat.zero_or] at this
theorem mst0_ex (cs : List Crowd) {k : Nat} (hk2 : k ≤ 10) : ∃ S : List Nat, (∀ s ∈ S, s < 30) ∧ S.length ≤ k ∧ valS cs S = mstK cs 0 k := by
  obtain ⟨S, a, b, c⟩ := mst_ex cs _ 0 (Nat.lt_succ_self _) k hk2
  rw [Nat.zero_or] at c
  exact ⟨S, a, b, c⟩
theorem mst0_mono (cs : List Crowd) {j k : Nat} (h : j ≤ k) (hk : k ≤ 10) : mstK cs 0 j ≤ mstK cs 0 k := by
  obtain ⟨S, a, b, c⟩ := mst0_ex cs (show j ≤ 10 by omega)
  rw [← c]
  exact mst0_ge cs a (by omega) hk

/-! lists that serve as much with fewer stands -/
theorem cov_small (cs : List Crowd) : ∀ (S : List Nat) (set : Nat), ∃ T : List Nat, (∀ s ∈ T, s ∈ S) ∧ T.length ≤ missing cs set ∧ T.length ≤ S.length ∧ set ||| covS cs T = set ||| covS cs S
  | [], set => ⟨[], by simp, by simp, by simp, rfl⟩
  | s :: S, set => by
    have e : set ||| covS cs (s :: S) = (set ||| srv cs s cs.length) ||| covS cs S := by rw [covS, Nat.or_assoc]
    by_cases ha : set ||| srv cs s cs.length = set
    · obtain ⟨T, a, b, c, d⟩ := cov_small cs S set
      exact ⟨T, fun x hx => by simp [a x hx], b, by simp; omega, by rw [d, e, ha]⟩
    · obtain ⟨T, a, b, c, d⟩ := cov_small cs S (set ||| srv cs s cs.length)
      have := miss_lt ha
      refine ⟨s :: T, fun x hx => ?_, by simp; omega, by simp; omega, ?_⟩
      · rcases List.mem_cons.1 hx with rfl | hx
        · simp
        · simp [a x hx]
      · rw [e, ← d, covS, Nat.or_assoc]
theorem len_le_of_sub : ∀ {A B : List Nat}, A.Nodup → (∀ a ∈ A, a ∈ B) → A.length ≤ B.length
  | [], B, _, _ => by simp
  | a :: A, B, hn, hs => by
    rw [List.nodup_cons] at hn
    have h1 := len_le_of_sub (A := A) (B := B.erase a) hn.2 fun x hx => by
      have hne : x ≠ a := fun e => hn.1 (by rw [← e]; exact hx)
      exact (List.mem_erase_of_ne hne).2 (hs x (by simp [hx]))
    have h2 := hs a (by simp)
    rw [List.length_erase_of_mem h2] at h1
    have : 0 < B.length := List.length_pos_of_mem h2
    simp; omega
/-- the same stands in order -/
def normS (S : List Nat) : List Nat := (List.range 30).filter fun s => decide (s ∈ S)
theorem norm_mem {S : List Nat} (hS : ∀ s ∈ S, s < 30) (s : Nat) : s ∈ normS S ↔ s ∈ S := by
  unfold normS
  rw [List.mem_filter, List.mem_range, decide_eq_true_iff]
  exact ⟨fun h => h.2, fun h => ⟨hS s h, h⟩⟩
theorem norm_sorted (S : List Nat) : (normS S).Pairwise (· < ·) := List.Pairwise.filter _ List.pairwise_lt_range
theorem sorted_nodup {S : List Nat} (h : S.Pairwise (· < ·)) : S.Nodup := h.imp fun h => Nat.ne_of_lt h
theorem norm_len {S : List Nat} (hS : ∀ s ∈ S, s < 30) : (normS S).length ≤ S.length := len_le_of_sub (sorted_nodup (norm_sorted S)) fun s hs => (norm_mem hS s).1 hs

/-! fewestFor -/
theorem few_spec (n : List Int) (s : Nat) : ∀ f k, k + f = s → ¬ (n.getD (fewF n s f k) 0 < n.getD s 0) ∧ ∀ j, k ≤ j → j < fewF n s f k → n.getD j 0 < n.getD s 0
  | 0, k, h => by
    rw [fewF]
    obtain rfl : k = s := by omega
    exact ⟨by omega, fun j h1 h2 => by omega⟩
  | f + 1, k, h => by
    rw [fewF]
    split
    · rename_i h1
      obtain ⟨a, b⟩ := few_spec n s f (k + 1) (by omega)
      refine ⟨a, fun j hj hj2 => ?_⟩
      by_cases e : j = k
      · subst e; exact h1
      · exact b j (by omega) hj2
    · rename_i h1
      exact ⟨h1, fun j h1 h2 => by omega⟩
theorem cap_min (cs : List Crowd) (st : Nat) : chCap cs st = min st (min 10 cs.length) := by
  unfold chCap leastL
  simp only [List.foldl_cons, List.foldl_nil]
  split <;> split <;> omega
theorem left_spec (cs : List Crowd) (st : Nat) : chLeft cs st ≤ chCap cs st ∧ mstK cs 0 (chLeft cs st) = chHouses cs st ∧ ∀ j, j < chLeft cs st → mstK cs 0 j < chHouses cs st := by
  have hle : chLeft cs st ≤ chCap cs st := fewP_le _ _
  obtain ⟨a, b⟩ := few_spec (mstL cs 0) (chCap cs st) (chCap cs st) 0 (by omega)
  refine ⟨hle, ?_, fun j hj => b j (by omega) hj⟩
  have h1 := mst0_mono cs hle (by have := cap_min cs st; omega)
  have h2 : ¬ mstK cs 0 (chLeft cs st) < chHouses cs st := a
  have h3 : mstK cs 0 (chCap cs st) = chHouses cs st := rfl
  omega

/-! the choice, from stand to stand -/
structure OptL (cs : List Crowd) (n : Nat) (H : Int) (L : List Nat) : Prop where
  sorted : L.Pairwise (· < ·)
  bd : ∀ s ∈ L, s < 30
  len : L.length = n
  val : valS cs L = H
/-- one list comes before another one, by their first difference -/
def Bef (A B : List Nat) : Prop := ∃ p a b A' B', A = p ++ a :: A' ∧ B = p ++ b :: B' ∧ a < b
theorem Bef.app {A B : List Nat} (h : Bef A B) (C : List Nat) : Bef (A ++ C) B := by
  obtain ⟨p, a, b, A', B', h1, h2, h3⟩ := h
  exact ⟨p, a, b, A' ++ C, B', by rw [h1]; simp, h2, h3⟩
structure ChI (cs : List Crowd) (n : Nat) (H : Int) (k : Nat) (s : ChS) (ch : List Nat) : Prop where
  eq : s.ch = ch.map fun (x : Nat) => (x : Int)
  set : s.set = covS cs ch
  len : ch.length + s.left = n
  sorted : ch.Pairwise (· < ·)
  low : ∀ x ∈ ch, x < k
  all : ∀ L, OptL cs n H L → Bef ch L ∨ ∃ R, L = ch ++ R ∧ ∀ r ∈ R, k ≤ r
  one : ∃ L R, OptL cs n H L ∧ L = ch ++ R ∧ ∀ r ∈ R, k ≤ r
theorem bef_not_sub {A B : List Nat} (hA : A.Pairwise (· < ·)) (hB : B.Pairwise (· < ·)) (hs : ∀ a ∈ A, a ∈ B) : ¬ Bef A B := by
  rintro ⟨p, a, b, A', B', rfl, rfl, hab⟩
  have h1 := hs a (by simp)
  rw [List.pairwise_append] at hA hB
  rcases List.mem_append.1 h1 with h1 | h1
  · have := hA.2.2 a h1 a (by simp); omega
  · rcases List.mem_cons.1 h1 with h1 | h1
    · omega
    · have := (List.pairwise_cons.1 hB.2.1).1 a h1; omega
theorem opt_of {cs : List Crowd} {n : Nat} {H : Int} (hn : n ≤ 10) (hlow : ∀ j, j < n → mstK cs 0 j < H) {S : List Nat} (hS : ∀ s ∈ S, s < 30) (hl : S.length ≤ n) (hv : valS cs S = H) : OptL cs n H (normS S) := by
  have hv' : valS cs (normS S) = H := by rw [← hv]; unfold valS; rw [cov_congr cs (norm_mem hS)]
  have hbd : ∀ s ∈ normS S, s < 30 := fun s hs => hS s ((norm_mem hS s).1 hs)
  have h1 := norm_len hS
  refine ⟨norm_sorted S, hbd, ?_, hv'⟩
  rcases Nat.lt_or_ge (normS S).length n with h | h
  · have := hlow _ h
    have := mst0_ge cs hbd (Nat.le_refl _) (show (normS S).length ≤ 10 by omega)
    omega
  · omega
theorem ch_start {cs : List Crowd} {n : Nat} {H : Int} (hn : n ≤ 10) (hH : mstK cs 0 n = H) (hlow : ∀ j, j < n → mstK cs 0 j < H) : ChI cs n H 0 ⟨[], 0, n⟩ [] := by
  obtain ⟨S, a, b, c⟩ := mst0_ex cs hn
  exact ⟨rfl, rfl, by simp, List.Pairwise.nil, by simp, fun L _ => .inr ⟨L, rfl, by simp⟩, ⟨_, _, opt_of hn hlow a b (c.trans hH), rfl, by simp⟩⟩
theorem ch_step {cs : List Crowd} {n : Nat} {H : Int} (hn : n ≤ 10) (hH : mstK cs 0 n = H) (hlow : ∀ j, j < n → mstK cs 0 j < H) {k : Nat} (hk : k < 30) {s : ChS} {ch : List Nat} (hI : ChI cs n H k s ch) :
    ∃ ch', ChI cs n H (k + 1) (chStep cs H s k) ch' := by
  have hle := hI.len
  have hbd : ∀ x ∈ ch, x < 30 := fun x hx => by have := hI.low x hx; omega
  -- a list that goes on with this stand shows that it is taken
  have key : ∀ R, OptL cs n H (ch ++ k :: R) → 0 < s.left ∧ (mstL cs (s.set ||| srv cs k cs.length)).getD (s.left - 1) 0 = H := fun R hO => by
    have hl : ch.length + (R.length + 1) = n := by have := hO.len; simpa using this
    refine ⟨by omega, ?_⟩
    show mstK cs (s.set ||| srv cs k cs.length) (s.left - 1) = H
    have h1 := mst_ge cs _ (s.set ||| srv cs k cs.length) (Nat.lt_succ_self _) R (fun x hx => hO.bd x (by simp [hx])) (s.left - 1) (by omega) (by omega)
    have e : s.set ||| srv cs k cs.length ||| covS cs R = covS cs (ch ++ k :: R) := by rw [cov_app, covS, hI.set, Nat.or_assoc]
    have h2 : mny cs (covS cs (ch ++ k :: R)) cs.length = H := hO.val
    rw [e, h2] at h1
    obtain ⟨S, a, b, c⟩ := mst_ex cs _ (s.set ||| srv cs k cs.length) (Nat.lt_succ_self _) (s.left - 1) (by omega)
    have e2 : s.set ||| srv cs k cs.length ||| covS cs S = covS cs (ch ++ k :: S) := by rw [cov_app, covS, hI.set, Nat.or_assoc]
    rw [e2] at c
    have h3 : valS cs (ch ++ k :: S) ≤ mstK cs 0 n := mst0_ge cs (fun x hx => by
      rcases List.mem_append.1 hx with hx | hx
      · exact hbd x hx
      · rcases List.mem_cons.1 hx with rfl | hx
        · exact hk
        · exact a x hx) (by simp; omega) hn
    have h4 : valS cs (ch ++ k :: S) = mstK cs (s.set ||| srv cs k cs.length) (s.left - 1) := c
    omega
  unfold chStep
  simp only
  by_cases ht : 0 < s.left ∧ (mstL cs (s.set ||| srv cs k cs.length)).getD (s.left - 1) 0 = H
  · rw [if_pos ht]
    have hall : ∀ L, OptL cs n H L → Bef (ch ++ [k]) L ∨ ∃ R, L = (ch ++ [k]) ++ R ∧ ∀ r ∈ R, k + 1 ≤ r := fun L hO => by
      rcases hI.all L hO with h | ⟨R, rfl, hR⟩
      · exact .inl (h.app _)
      · match R, hR with
        | [], _ => have := hO.len; simp at this; omega
        | r :: R, hR =>
          have hs := hO.sorted
          rw [List.pairwise_append, List.pairwise_cons] at hs
          have hr := hR r (by simp)
          by_cases e : r = k
          · subst e
            exact .inr ⟨R, by simp, fun x hx => hs.2.1.1 x hx⟩
          · exact .inl ⟨ch, k, r, [], R, rfl, rfl, by omega⟩
    refine ⟨ch ++ [k], by simp [hI.eq], by simp only; rw [cov_app, hI.set]; simp [covS], by simp; omega, ?_, ?_, hall, ?_⟩
    · rw [List.pairwise_append]
      exact ⟨hI.sorted, List.pairwise_singleton _ _, fun a ha b hb => by rw [List.mem_singleton.1 hb]; exact hI.low a ha⟩
    · intro x hx
      rcases List.mem_append.1 hx with hx | hx
      · have := hI.low x hx; omega
      · rw [List.mem_singleton.1 hx]; omega
    · obtain ⟨S, a, b, c⟩ := mst_ex cs _ (s.set ||| srv cs k cs.length) (Nat.lt_succ_self _) (s.left - 1) (by omega)
      have e2 : s.set ||| srv cs k cs.length ||| covS cs S = covS cs (ch ++ k :: S) := by rw [cov_app, covS, hI.set, Nat.or_assoc]
      rw [e2] at c
      have hb : ∀ x ∈ ch ++ k :: S, x < 30 := fun x hx => by
        rcases List.mem_append.1 hx with hx | hx
        · exact hbd x hx
        · rcases List.mem_cons.1 hx with rfl | hx
          · exact hk
          · exact a x hx
      have hO := opt_of hn hlow hb (by simp; omega) (c.trans ht.2)
      rcases hall _ hO with h | ⟨R, h1, h2⟩
      · refine absurd h (bef_not_sub ?_ hO.sorted fun x hx => (norm_mem hb x).2 (by simp at hx ⊢; rcases hx with hx | hx <;> simp [hx]))
        rw [List.pairwise_append]
        exact ⟨hI.sorted, List.pairwise_singleton _ _, fun a ha b hb => by rw [List.mem_singleton.1 hb]; exact hI.low a ha⟩
      · exact ⟨_, R, hO, h1, h2⟩
  · rw [if_neg ht]
    have hno : ∀ L R, OptL cs n H L → L = ch ++ R → (∀ r ∈ R, k ≤ r) → ∀ r ∈ R, k + 1 ≤ r := fun L R hO e hR => by
      subst e
      match R, hR with
      | [], _ => simp
      | r :: R, hR =>
        have hs := hO.sorted
        rw [List.pairwise_append, List.pairwise_cons] at hs
        have hr := hR r (by simp)
        have hne : r ≠ k := fun e => by subst e; exact ht (key R hO)
        intro x hx
        rcases List.mem_cons.1 hx with rfl | hx
        · omega
        · have := hs.2.1.1 x hx; omega
    refine ⟨ch, hI.eq, hI.set, hI.len, hI.sorted, fun x hx => by have := hI.low x hx; omega, fun L hO => ?_, ?_⟩
    · rcases hI.all L hO with h | ⟨R, e, hR⟩
      · exact .inl h
      · exact .inr ⟨R, e, hno L R hO e hR⟩
    · obtain ⟨L, R, hO, e, hR⟩ := hI.one
      exact ⟨L, R, hO, e, hno L R hO e hR⟩
theorem ch_all {cs : List Crowd} {n : Nat} {H : Int} (hn : n ≤ 10) (hH : mstK cs 0 n = H) (hlow : ∀ j, j < n → mstK cs 0 j < H) : ∀ k, k ≤ 30 → ∃ ch, ChI cs n H k (chTo cs H n k) ch
  | 0, _ => ⟨[], ch_start hn hH hlow⟩
  | k + 1, hk => by
    obtain ⟨ch, h⟩ := ch_all hn hH hlow k (by omega)
    rw [chTo_succ]
    exact ch_step hn hH hlow (by omega) h

theorem crowds_len (l : List (Nat × List Bool)) : (crowdsP l).length ≤ l.length := by
  unfold crowdsP
  have key : ∀ (l : List (Nat × List Bool)) (cs : List Crowd), (crowdsTo cs l).length ≤ cs.length + l.length := by
    intro l
    induction l with
    | nil => intro cs; simp [crowdsTo]
    | cons x l ih =>
      intro cs
      have h1 := ih (addCrowd cs x.2)
      have h2 : ∀ cs : List Crowd, (addCrowd cs x.2).length ≤ cs.length + 1 := by
        intro cs
        induction cs with
        | nil => simp [addCrowd]
        | cons c r ih2 => unfold addCrowd; split <;> simp <;> omega
      have h3 := h2 cs
      have e : crowdsTo cs (x :: l) = crowdsTo (addCrowd cs x.2) l := rfl
      rw [e]; simp; omega
  have := key l []
  simpa using this
/-- what is chosen: a list in order, no longer than allowed, that serves as many houses as any, the shortest of those, and the first one -/
structure Chosen (l : List (Nat × List Bool)) (st : Nat) (ch : List Nat) (n : Nat) : Prop where
  sorted : ch.Pairwise (· < ·)
  bd : ∀ s ∈ ch, s < 30
  len : ch.length ≤ st
  cnt : cntS l ch = n
  most : ∀ S : List Nat, (∀ s ∈ S, s < 30) → S.length ≤ st → cntS l S ≤ n
  short : ∀ S : List Nat, (∀ s ∈ S, s < 30) → n ≤ cntS l S → ch.length ≤ S.length
  first : ∀ S : List Nat, S.Pairwise (· < ·) → (∀ s ∈ S, s < 30) → S.length = ch.length → cntS l S = n → ch = S ∨ Bef ch S
theorem chosen (l : List (Nat × List Bool)) (hl : l.length ≤ 10) (st : Nat) : ∃ ch n, (chooseP l st).1 = ch.map (fun (x : Nat) => (x : Int)) ∧ (chooseP l st).2 = (n : Nat) ∧ Chosen l st ch n := by
  obtain ⟨cs, hcs⟩ : ∃ cs, cs = crowdsP l := ⟨_, rfl⟩
  have hc := crowds_len l
  rw [← hcs] at hc
  obtain ⟨h1, h2, h3⟩ := left_spec cs st
  have hcap := cap_min cs st
  have hn : chLeft cs st ≤ 10 := by omega
  obtain ⟨ch, hI⟩ := ch_all hn h2 h3 30 (by omega)
  obtain ⟨L, R, hO, e, hR⟩ := hI.one
  have hR0 : R = [] := by
    match R, hR, e with
    | [], _, _ => rfl
    | r :: R, hR, e =>
      have a := hR r (by simp)
      have b := hO.bd r (by rw [e]; simp)
      omega
  subst hR0
  rw [List.append_nil] at e
  subst e
  have hv : ∀ S, valS cs S = cntS l S := fun S => by rw [hcs]; exact val_cnt l S
  have hval := hO.val
  rw [hv] at hval
  have hmost : ∀ S : List Nat, (∀ s ∈ S, s < 30) → S.length ≤ st → (cntS l S : Int) ≤ chHouses cs st := fun S hS hl => by
    obtain ⟨T, a, b, c, d⟩ := cov_small cs S 0
    have hm := missing_le cs 0
    rw [Nat.zero_or, Nat.zero_or] at d
    have h5 := mst0_ge cs (S := T) (fun s hs => hS s (a s hs)) (k := chCap cs st) (by omega) (by omega)
    have h6 : valS cs T = valS cs S := by unfold valS; rw [d]
    rw [h6, hv] at h5
    exact h5
  refine ⟨L, cntS l L, ?_, ?_, hO.sorted, hO.bd, by have := hO.len; omega, rfl, fun S hS hlS => by have := hmost S hS hlS; omega, fun S hS hc2 => ?_, fun S hs hS hlS hc2 => ?_⟩
  · have e : (chooseP l st).1 = (chTo cs (chHouses cs st) (chLeft cs st) 30).ch := by unfold chooseP; rw [← hcs]
    rw [e]; exact hI.eq
  · have e : (chooseP l st).2 = chHouses cs st := by unfold chooseP; rw [← hcs]
    rw [e]; exact hval.symm
  · rcases Nat.lt_or_ge S.length L.length with h | h
    · have h7 := h3 S.length (by have := hO.len; omega)
      have h8 := mst0_ge cs hS (Nat.le_refl _) (show S.length ≤ 10 by have := hO.len; omega)
      rw [hv] at h8
      omega
    · exact h
  · have hOS : OptL cs (chLeft cs st) (chHouses cs st) S := ⟨hs, hS, by have := hO.len; omega, by rw [hv]; omega⟩
    rcases hI.all S hOS with h | ⟨R, e, hR⟩
    · exact .inr h
    · left
      match R, hR, e with
      | [], _, e => simpa using e.symm
      | r :: R, hR, e =>
        have a := hR r (by simp)
        have b := hS r (by rw [e]; simp)
        omega
end Go.Proofs.Ytimedmkpenbmkaa

namespace Go.Proofs.Ytimedmkpenbmkaa
open Go.RowKit Go.Shelf
set_option linter.unusedSimpArgs false
set_option linter.unusedVariables false

/-! houses that are apart -/
def takeP : List (Nat × List Bool) → List Nat → List Bool → List Nat → List Nat
  | [], taken, _, best => if taken.length ≤ best.length then best else taken
  | x :: r, taken, heard, best =>
    if taken.length + (r.length + 1) ≤ best.length then best
    else takeP r taken heard (if clashTo heard x.2 30 then best else takeP r (taken ++ [x.1]) (mixTo heard x.2 30) best)
def apartP (l : List (Nat × List Bool)) : List Nat := takeP l [] (List.replicate 30 false) []
def Sep : List Bool → List (Nat × List Bool) → Prop
  | _, [] => True
  | heard, x :: E => clashTo heard x.2 30 = false ∧ Sep (mixTo heard x.2 30) E
def fsts (E : List (Nat × List Bool)) : List Nat := E.map (·.1)
theorem sub_cons {α : Type} {E r : List α} {x : α} (h : E.Sublist (x :: r)) : E.Sublist r ∨ ∃ E', E = x :: E' ∧ E'.Sublist r := by
  cases h with
  | cons _ h => exact .inl h
  | cons_cons _ h => exact .inr ⟨_, rfl, h⟩
structure TakeS (r : List (Nat × List Bool)) (taken : List Nat) (heard : List Bool) (best res : List Nat) : Prop where
  is : res = best ∨ (best.length < res.length ∧ ∃ E, E.Sublist r ∧ Sep heard E ∧ res = taken ++ fsts E)
  most : ∀ E : List (Nat × List Bool), E.Sublist r → Sep heard E → taken.length + E.length ≤ res.length
  first : best.length < res.length → ∀ E : List (Nat × List Bool), E.Sublist r → Sep heard E → taken.length + E.length = res.length → res = taken ++ fsts E ∨ Bef res (taken ++ fsts E)
theorem TakeS.ge {r : List (Nat × List Bool)} {taken : List Nat} {heard : List Bool} {best res : List Nat} (h : TakeS r taken heard best res) : best.length ≤ res.length := by
  rcases h.is with h | h
  · rw [h]; exact Nat.le_refl _
  · omega
theorem take_spec : ∀ (r : List (Nat × List Bool)), (fsts r).Pairwise (· < ·) → ∀ (taken : List Nat) (heard : List Bool) (best : List Nat), TakeS r taken heard best (takeP r taken heard best)
  | [], _, taken, heard, best => by
    have hE : ∀ E : List (Nat × List Bool), E.Sublist [] → E = [] := fun E h => List.sublist_nil.1 h
    unfold takeP
    split
    · rename_i h
      exact ⟨.inl rfl, fun E hs _ => by rw [hE E hs]; simpa using h, fun h2 => absurd h2 (by omega)⟩
    · rename_i h
      refine ⟨.inr ⟨by omega, [], List.Sublist.refl _, trivial, by simp [fsts]⟩, fun E hs _ => by rw [hE E hs]; simp, fun _ E hs _ _ => ?_⟩
      rw [hE E hs]; left; simp [fsts]
  | x :: r, hs, taken, heard, best => by
    unfold fsts at hs
    rw [List.map_cons, List.pairwise_cons] at hs
    unfold takeP
    split
    · rename_i h
      refine ⟨.inl rfl, fun E hE _ => ?_, fun h2 => absurd h2 (by omega)⟩
      have := hE.length_le
      simp at this; omega
    · rename_i h
      clear h
      obtain ⟨b1, hb1⟩ : ∃ b1, b1 = if clashTo heard x.2 30 then best else takeP r (taken ++ [x.1]) (mixTo heard x.2 30) best := ⟨_, rfl⟩
      rw [← hb1]
      have ih2 := take_spec r hs.2 taken heard b1
      have hge2 := ih2.ge
      have h1 : clashTo heard x.2 30 = true ∧ b1 = best ∨ clashTo heard x.2 30 = false ∧ TakeS r (taken ++ [x.1]) (mixTo heard x.2 30) best b1 := by
        cases hc : clashTo heard x.2 30
        · right; rw [hc] at hb1; refine ⟨rfl, ?_⟩; rw [hb1]; exact take_spec r hs.2 _ _ _
        · left; rw [hc] at hb1; exact ⟨rfl, hb1⟩
      obtain ⟨res, hres⟩ : ∃ res, res = takeP r taken heard b1 := ⟨_, rfl⟩
      rw [← hres] at ih2 hge2 ⊢
      clear hres hb1
      have hge1 : best.length ≤ b1.length := by
        rcases h1 with ⟨_, h⟩ | ⟨_, h⟩
        · rw [h]; exact Nat.le_refl _
        · exact h.ge
      refine ⟨?_, fun E hE hS => ?_, fun hlt E hE hS hl => ?_⟩
      · rcases ih2.is with h | ⟨h, E, h2, h3, h4⟩
        · rcases h1 with ⟨_, h5⟩ | ⟨hc, h5⟩
          · left; rw [h, h5]
          · rcases h5.is with h6 | ⟨h6, E, h7, h8, h9⟩
            · left; rw [h, h6]
            · right
              refine ⟨by rw [h]; exact h6, x :: E, h7.cons_cons _, ⟨hc, h8⟩, ?_⟩
              rw [h, h9]; simp [fsts]
        · right
          exact ⟨by omega, E, h2.cons _, h3, h4⟩
      · rcases sub_cons hE with hE | ⟨E', rfl, hE'⟩
        · exact ih2.most E hE hS
        · rcases h1 with ⟨hc, _⟩ | ⟨hc, h5⟩
          · exact absurd hS.1 (by rw [hc]; simp)
          · have := h5.most E' hE' hS.2
            simp at this ⊢; omega
      · rcases sub_cons hE with hE | ⟨E', rfl, hE'⟩
        · rcases ih2.is with h | ⟨h, _⟩
          · rcases h1 with ⟨_, h5⟩ | ⟨hc, h5⟩
            · rw [h, h5] at hlt; omega
            · rcases h5.is with h6 | ⟨h6, E2, h7, h8, h9⟩
              · rw [h, h6] at hlt; omega
              · right
                rw [h, h9]
                match E, hE, hl with
                | [], _, hl => rw [h, h9] at hl; simp at hl
                | y :: E, hE, hl =>
                  have hy : y ∈ r := hE.subset (by simp)
                  refine ⟨taken, x.1, y.1, fsts E2, fsts E, by simp, by simp [fsts], hs.1 y.1 (List.mem_map.2 ⟨y, hy, rfl⟩)⟩
          · exact ih2.first h E hE hS hl
        · rcases h1 with ⟨hc, _⟩ | ⟨hc, h5⟩
          · exact absurd hS.1 (by rw [hc]; simp)
          · have hm := h5.most E' hE' hS.2
            have hl' : (taken ++ [x.1]).length + E'.length = b1.length := by simp at hl hm ⊢; omega
            have he : res = b1 := by
              rcases ih2.is with h | ⟨h, _⟩
              · exact h
              · simp at hl hl'; omega
            rw [he]
            have := h5.first (by rw [← he]; exact hlt) E' hE' hS.2 hl'
            simpa [fsts] using this

theorem clash_iff (us es : List Bool) (k : Nat) : clashTo us es k = true ↔ ∃ s, s < k ∧ us.getD s false = true ∧ es.getD s false = true := by
  unfold clashTo
  rw [List.any_eq_true]
  constructor
  · rintro ⟨s, h1, h2⟩; rw [Bool.and_eq_true] at h2; exact ⟨s, List.mem_range.1 h1, h2.1, h2.2⟩
  · rintro ⟨s, h1, h2, h3⟩; exact ⟨s, List.mem_range.2 h1, by rw [h2, h3]; rfl⟩
theorem clash_no {us es : List Bool} {k : Nat} : clashTo us es k = false ↔ ∀ s, s < k → us.getD s false = true → es.getD s false = false := by
  rw [← Bool.not_eq_true, clash_iff]
  constructor
  · intro h s h1 h2
    cases h3 : es.getD s false
    · rfl
    · exact absurd ⟨s, h1, h2, h3⟩ h
  · rintro h ⟨s, h1, h2, h3⟩
    rw [h s h1 h2] at h3; cases h3
theorem clash_mix {us es xs : List Bool} : clashTo (mixTo us es 30) xs 30 = false ↔ clashTo us xs 30 = false ∧ clashTo es xs 30 = false := by
  rw [clash_no, clash_no, clash_no]
  constructor
  · intro h
    refine ⟨fun s h1 h2 => h s h1 ?_, fun s h1 h2 => h s h1 ?_⟩
    · rw [mix_get us es 30 h1, h2]; simp
    · rw [mix_get us es 30 h1, h2]; simp [h1]
  · rintro ⟨h1, h2⟩ s hs h3
    rw [mix_get us es 30 hs, Bool.or_eq_true, Bool.and_eq_true] at h3
    rcases h3 with h3 | h3
    · exact h1 s hs h3
    · exact h2 s hs h3.2
def Apt (E : List (Nat × List Bool)) : Prop := E.Pairwise fun x y => clashTo x.2 y.2 30 = false
theorem sep_iff : ∀ (E : List (Nat × List Bool)) (heard : List Bool), Sep heard E ↔ (∀ x ∈ E, clashTo heard x.2 30 = false) ∧ Apt E
  | [], _ => by simp [Sep, Apt]
  | x :: E, heard => by
    unfold Sep
    rw [sep_iff E (mixTo heard x.2 30)]
    unfold Apt
    rw [List.pairwise_cons]
    constructor
    · rintro ⟨a, b, c⟩
      refine ⟨fun y hy => ?_, fun y hy => (clash_mix.1 (b y hy)).2, c⟩
      rcases List.mem_cons.1 hy with rfl | hy
      · exact a
      · exact (clash_mix.1 (b y hy)).1
    · rintro ⟨a, b, c⟩
      exact ⟨a x (by simp), fun y hy => clash_mix.2 ⟨a y (by simp [hy]), b y hy⟩, c⟩
theorem sep_none (E : List (Nat × List Bool)) : Sep (List.replicate 30 false) E ↔ Apt E := by
  rw [sep_iff]
  refine ⟨fun h => h.2, fun h => ⟨fun x _ => ?_, h⟩⟩
  rw [clash_no]
  intro s hs h2
  rw [List.getD_eq_getElem?_getD, List.getElem?_replicate, if_pos hs] at h2; cases h2
/-- as many houses as can be no two of which hear the same stand, and of several such lists the first one -/
structure Aparts (l E : List (Nat × List Bool)) : Prop where
  sub : E.Sublist l
  apt : Apt E
  most : ∀ F : List (Nat × List Bool), F.Sublist l → Apt F → F.length ≤ E.length
  first : ∀ F : List (Nat × List Bool), F.Sublist l → Apt F → F.length = E.length → fsts E = fsts F ∨ Bef (fsts E) (fsts F)
theorem aparts (l : List (Nat × List Bool)) (hs : (fsts l).Pairwise (· < ·)) : ∃ E, apartP l = fsts E ∧ Aparts l E := by
  have h := take_spec l hs [] (List.replicate 30 false) []
  have hm : ∀ F : List (Nat × List Bool), F.Sublist l → Apt F → F.length ≤ (apartP l).length := fun F hF hA => by
    have := h.most F hF ((sep_none F).2 hA)
    rw [List.length_nil, Nat.zero_add] at this
    exact this
  rcases h.is with h1 | ⟨h1, E, h2, h3, h4⟩
  · have e : apartP l = [] := h1
    refine ⟨[], by rw [e]; rfl, List.nil_sublist _, List.Pairwise.nil, fun F hF hA => by have := hm F hF hA; rw [e] at this; exact this, fun F hF hA hl => ?_⟩
    left
    have : F = [] := List.length_eq_zero_iff.1 hl
    rw [this]
  · have e : apartP l = fsts E := by rw [List.nil_append] at h4; exact h4
    have hl : (apartP l).length = E.length := by rw [e]; simp [fsts]
    refine ⟨E, e, h2, (sep_none E).1 h3, fun F hF hA => by have := hm F hF hA; omega, fun F hF hA hl2 => ?_⟩
    have := h.first h1 F hF ((sep_none F).2 hA) (by show 0 + F.length = (apartP l).length; rw [hl, hl2]; omega)
    rw [← e]
    rw [List.nil_append] at this
    exact this
theorem take_len : ∀ (r : List (Nat × List Bool)) (taken : List Nat) (heard : List Bool) (best : List Nat), (takeP r taken heard best).length ≤ max best.length (taken.length + r.length)
  | [], taken, heard, best => by unfold takeP; split <;> simp <;> omega
  | x :: r, taken, heard, best => by
    unfold takeP
    split
    · omega
    · have h2 := take_len r taken heard (if clashTo heard x.2 30 then best else takeP r (taken ++ [x.1]) (mixTo heard x.2 30) best)
      have h1 := take_len r (taken ++ [x.1]) (mixTo heard x.2 30) best
      rw [List.length_append, List.length_singleton] at h1
      rw [List.length_cons]
      split at h2
      · rename_i hc; rw [if_pos hc]; omega
      · rename_i hc; rw [if_neg hc]; omega
end Go.Proofs.Ytimedmkpenbmkaa

namespace Go.Proofs.Ytimedmkpenbmkaa
open Go.RowKit Go.Shelf
set_option linter.unusedSimpArgs false
set_option linter.unusedVariables false

/-! houses that are named, in whatever order -/
def inL (hs : List Int) (p : Nat) : Bool := decide ((p : Int) ∈ hs)
theorem qAll_named (xs : List Int) (h30 : xs.length ≤ 30) : ∀ (hs : List Int) (nm : List Bool), nm.length = 30 → (∀ h ∈ hs, ∃ p : Nat, h = p ∧ p < xs.length ∧ xs.getD p 0 = 1 ∧ nm.getD p false = false) → hs.Nodup →
    (qAll xs nm hs).1 = 0 ∧ (qAll xs nm hs).2.length = 30 ∧ ∀ p, p < 30 → (qAll xs nm hs).2.getD p false = (nm.getD p false || inL hs p)
  | [], nm, hl, _, _ => ⟨rfl, hl, fun p hp => by
    show nm.getD p false = _
    simp [inL]⟩
  | h :: r, nm, hl, hh, hn => by
    rw [List.nodup_cons] at hn
    obtain ⟨p, rfl, hp, h1, h0⟩ := hh h (by simp)
    have hq : qStep xs nm (p : Int) = (0, nm.set p true) := by
      unfold qStep
      have hpe : plotErr xs (p : Int) 1 = 0 := by unfold plotErr; rw [if_neg (by omega), Int.toNat_natCast, if_pos h1]
      rw [if_neg (by rw [hpe]; simp), Int.toNat_natCast, h0]
      simp
    have e1 : qAll xs nm ((p : Int) :: r) = qAll xs (nm.set p true) r := by
      show (if (qStep xs nm (p : Int)).1 ≠ 0 then qStep xs nm (p : Int) else qAll xs (qStep xs nm (p : Int)).2 r) = _
      rw [hq]; rfl
    have hset : ∀ q, q < 30 → (nm.set p true).getD q false = (nm.getD q false || decide (p = q)) := fun q hq2 => by
      rw [List.getD_eq_getElem?_getD, List.getElem?_set]
      by_cases e : p = q
      · subst e; rw [if_pos rfl, if_pos (by omega)]; simp
      · rw [if_neg e, ← List.getD_eq_getElem?_getD]; simp [e]
    obtain ⟨a, b, c⟩ := qAll_named xs h30 r (nm.set p true) (by simp [hl]) (fun k hk => by
      obtain ⟨q, rfl, hq1, hq2, hq3⟩ := hh k (by simp [hk])
      refine ⟨q, rfl, hq1, hq2, ?_⟩
      rw [hset q (by omega), hq3]
      have : p ≠ q := fun e => hn.1 (by rw [e]; exact hk)
      simp [this]) hn.2
    rw [e1]
    refine ⟨a, b, fun q hq2 => ?_⟩
    rw [c q hq2, hset q hq2]
    unfold inL
    by_cases e : p = q
    · subst e; simp
    · have e2 : ¬ ((q : Int) = (p : Int)) := by omega
      simp [e, e2]
theorem lis_named {t : Hr.Town} (ok : t.Ok) (wind voice : Int) {hs : List Int} (hv : ∀ h ∈ hs, h ∈ kindIdx t.plots 1) (hn : hs.Nodup) :
    (qAll t.plots (List.replicate 30 false) hs).1 = 0 ∧ (qAll t.plots (List.replicate 30 false) hs).2.length = 30 ∧ lis t wind voice ((qAll t.plots (List.replicate 30 false) hs).2.getD · false) = lis t wind voice (inL hs) := by
  have hp30 : t.plots.length ≤ 30 := ok.n30
  obtain ⟨a, b, c⟩ := qAll_named t.plots hp30 hs (List.replicate 30 false) (by simp) (fun h hh => by
    obtain ⟨p, e, h1, h2⟩ := mem_kindIdx.1 (hv h hh)
    refine ⟨p, e, h1, h2, ?_⟩
    rw [List.getD_eq_getElem?_getD, List.getElem?_replicate, if_pos (by omega)]; rfl) hn
  refine ⟨a, b, ?_⟩
  unfold lis lisTo
  congr 1
  apply List.filter_congr
  intro p hp
  have hp := List.mem_range.1 hp
  have : t.len ≤ 30 := ok.n30
  show (t.at p == 1 && (qAll t.plots (List.replicate 30 false) hs).2.getD p false) = (t.at p == 1 && inL hs p)
  rw [c p (by omega), List.getD_eq_getElem?_getD, List.getElem?_replicate, if_pos (by omega)]
  simp
theorem mem_lisN {t : Hr.Town} {wind voice : Int} {hs : List Int} {x : Nat × List Bool} : x ∈ lis t wind voice (inL hs) ↔ x.1 < t.len ∧ t.at x.1 = 1 ∧ (x.1 : Int) ∈ hs ∧ x.2 = ears t wind voice x.1 := by
  unfold lis lisTo
  rw [List.mem_map]
  constructor
  · rintro ⟨q, hq, rfl⟩
    rw [List.mem_filter, List.mem_range, Bool.and_eq_true, beq_iff_eq] at hq
    exact ⟨hq.1, hq.2.1, by simpa [inL] using hq.2.2, rfl⟩
  · rintro ⟨a, b, c, d⟩
    exact ⟨x.1, by rw [List.mem_filter, List.mem_range, Bool.and_eq_true, beq_iff_eq]; exact ⟨a, b, by simpa [inL] using c⟩, by rw [← d]⟩
theorem lis_fsts (t : Hr.Town) (wind voice : Int) (cnt : Nat → Bool) : fsts (lis t wind voice cnt) = (List.range t.len).filter fun p => t.at p == 1 && cnt p := by
  unfold fsts lis lisTo
  rw [List.map_map]
  have : ((fun x : Nat × List Bool => x.1) ∘ fun p => (p, ears t wind voice p)) = id := rfl
  rw [this, List.map_id]
theorem lis_sorted (t : Hr.Town) (wind voice : Int) (cnt : Nat → Bool) : (fsts (lis t wind voice cnt)).Pairwise (· < ·) := by
  rw [lis_fsts]; exact List.Pairwise.filter _ List.pairwise_lt_range
theorem lis_congr {t : Hr.Town} {wind voice : Int} {hs ks : List Int} (h : ∀ x, x ∈ hs ↔ x ∈ ks) : lis t wind voice (inL hs) = lis t wind voice (inL ks) := by
  have : inL hs = inL ks := by funext p; unfold inL; congr 1; exact propext (h _)
  rw [this]
theorem lis_sub {t : Hr.Town} {wind voice : Int} {hs ks : List Int} (h : ∀ x ∈ hs, x ∈ ks) : (lis t wind voice (inL hs)).Sublist (lis t wind voice (inL ks)) := by
  unfold lis lisTo
  refine List.Sublist.map _ ?_
  have e : (List.range t.len).filter (fun p => t.at p == 1 && inL hs p) = ((List.range t.len).filter fun p => t.at p == 1 && inL ks p).filter fun p => inL hs p := by
    rw [List.filter_filter]
    apply List.filter_congr
    intro p _
    unfold inL
    by_cases hp : (p : Int) ∈ hs
    · simp [hp, h _ hp]
    · simp [hp]
  rw [e]
  exact List.filter_sublist
theorem lis_count {t : Hr.Town} {wind voice : Int} {hs : List Int} (hv : ∀ h ∈ hs, h ∈ kindIdx t.plots 1) (hn : hs.Nodup) : (lis t wind voice (inL hs)).length = hs.length := by
  have e1 : (lis t wind voice (inL hs)).length = ((fsts (lis t wind voice (inL hs))).map fun (p : Nat) => (p : Int)).length := by simp [fsts]
  have hnd : ((fsts (lis t wind voice (inL hs))).map fun (p : Nat) => (p : Int)).Nodup := by
    unfold List.Nodup
    rw [List.pairwise_map]
    exact (lis_sorted t wind voice _).imp fun h => by omega
  have hmem : ∀ h : Int, h ∈ ((fsts (lis t wind voice (inL hs))).map fun (p : Nat) => (p : Int)) ↔ h ∈ hs := fun h => by
    rw [List.mem_map]
    constructor
    · rintro ⟨p, hp, rfl⟩
      obtain ⟨x, hx, rfl⟩ := List.mem_map.1 hp
      exact (mem_lisN.1 hx).2.2.1
    · intro hh
      obtain ⟨p, rfl, h1, h2⟩ := mem_kindIdx.1 (hv h hh)
      exact ⟨p, List.mem_map.2 ⟨(p, ears t wind voice p), mem_lisN.2 ⟨h1, h2, hh, rfl⟩, rfl⟩, rfl⟩
  have le : ∀ {A B : List Int}, A.Nodup → (∀ a ∈ A, a ∈ B) → A.length ≤ B.length := by
    intro A
    induction A with
    | nil => intro B _ _; simp
    | cons a A ih =>
      intro B hn hs
      rw [List.nodup_cons] at hn
      have h1 := ih (B := B.erase a) hn.2 fun x hx => by
        have hne : x ≠ a := fun e => hn.1 (by rw [← e]; exact hx)
        exact (List.mem_erase_of_ne hne).2 (hs x (by simp [hx]))
      have h2 := hs a (by simp)
      rw [List.length_erase_of_mem h2] at h1
      have : 0 < B.length := List.length_pos_of_mem h2
      simp; omega
  rw [e1]
  exact Nat.le_antisymm (le hnd fun a ha => (hmem a).1 ha) (le hn fun a ha => (hmem a).2 ha)

/-! who is not deaf -/
theorem deaf_hit {e : List Bool} (hl : e.length = 30) (h : deafB e = false) : ∃ s, s < 30 ∧ e.getD s false = true := by
  false_or_by_contra
  rename_i h2
  have : deafB e = true := by
    unfold deafB
    rw [decide_eq_true_iff]
    apply List.ext_getElem?
    intro s
    by_cases hs : s < 30
    · rw [List.getElem?_eq_getElem (by omega), List.getElem?_replicate, if_pos hs]
      congr 1
      cases hh : e[s]'(by omega)
      · rfl
      · exact absurd ⟨s, hs, by rw [List.getD_eq_getElem?_getD, List.getElem?_eq_getElem (by omega), hh]; rfl⟩ h2
    · rw [List.getElem?_eq_none (by omega), List.getElem?_replicate, if_neg hs]
  rw [this] at h; cases h
theorem cnt_all {l : List (Nat × List Bool)} {S : List Nat} : cntS l S = l.length ↔ ∀ x ∈ l, hit S x.2 = true := by
  unfold cntS
  exact List.length_filter_eq_length_iff
theorem cnt_le (l : List (Nat × List Bool)) (S : List Nat) : cntS l S ≤ l.length := List.length_filter_le _ _
def Heard (l : List (Nat × List Bool)) : Prop := ∀ x ∈ l, x.2.length = 30 ∧ deafB x.2 = false
theorem heard_err {l : List (Nat × List Bool)} (h : Heard l) : firstE l = 0 := by
  rw [firstE_eq, if_neg]
  intro e
  obtain ⟨x, hx, hd⟩ := List.any_eq_true.1 e
  rw [(h x hx).2] at hd; cases hd
theorem err_heard {l : List (Nat × List Bool)} (hl : ∀ x ∈ l, x.2.length = 30) (h : firstE l = 0) : Heard l := fun x hx => by
  refine ⟨hl x hx, ?_⟩
  cases hd : deafB x.2
  · rfl
  · rw [firstE_eq, if_pos (List.any_eq_true.2 ⟨x, hx, hd⟩)] at h; cases h
theorem heard_sub {l m : List (Nat × List Bool)} (h : Heard m) (hs : l.Sublist m) : Heard l := fun x hx => h x (hs.subset hx)
theorem chosen_all {l : List (Nat × List Bool)} (h : Heard l) {st : Nat} (hst : 30 ≤ st) {ch : List Nat} {n : Nat} (hc : Chosen l st ch n) : n = l.length := by
  have h1 := hc.most (List.range 30) (fun s hs => List.mem_range.1 hs) (by simp; exact hst)
  have h2 : cntS l (List.range 30) = l.length := cnt_all.2 fun x hx => by
    obtain ⟨s, hs, he⟩ := deaf_hit (h x hx).1 (h x hx).2
    exact List.any_eq_true.2 ⟨s, List.mem_range.2 hs, he⟩
  have h3 := cnt_le l ch
  rw [hc.cnt] at h3
  omega
theorem chosen_serves {l : List (Nat × List Bool)} (h : Heard l) {st : Nat} (hst : 30 ≤ st) {ch : List Nat} {n : Nat} (hc : Chosen l st ch n) : ∀ x ∈ l, hit ch x.2 = true := by
  rw [← cnt_all, hc.cnt]; exact chosen_all h hst hc
theorem must_in {l : List (Nat × List Bool)} (h : Heard l) {st : Nat} (hst : 30 ≤ st) {ch : List Nat} {n : Nat} (hc : Chosen l st ch n) {k s : Nat} (hm : (s : Int) ∈ mustTo l k) : s ∈ ch := by
  obtain ⟨_, x, hx, ho⟩ := mem_mustTo.1 hm
  have h1 := chosen_serves h hst hc x hx
  obtain ⟨c, hc1, hc2⟩ := List.any_eq_true.1 h1
  unfold onlyB at ho
  rw [decide_eq_true_iff] at ho
  rw [ho] at hc2
  have hcb := hc.bd c hc1
  unfold onlyL at hc2
  rw [List.getD_eq_getElem?_getD, List.getElem?_set] at hc2
  by_cases e : s = c
  · rw [e]; exact hc1
  · rw [if_neg e, List.getElem?_replicate, if_pos hcb] at hc2; cases hc2
/-- a house more -/
theorem more_few {l m : List (Nat × List Bool)} (hs : l.Sublist m) (hm : Heard m) {x0 : Nat × List Bool} (h0 : ∀ x ∈ m, x ∈ l ∨ x = x0) (hx : x0 ∈ m) {ch ch2 : List Nat} {n n2 : Nat} (hc : Chosen m 30 ch n) (hc2 : Chosen l 30 ch2 n2) : ch2.length ≤ ch.length ∧ ch.length ≤ ch2.length + 1 := by
  have a := chosen_all hm (Nat.le_refl _) hc
  have b := chosen_all (heard_sub hm hs) (Nat.le_refl _) hc2
  have sa := chosen_serves hm (Nat.le_refl _) hc
  have sb := chosen_serves (heard_sub hm hs) (Nat.le_refl _) hc2
  constructor
  · refine hc2.short ch hc.bd ?_
    rw [b, cnt_all.2 fun x hx => sa x (hs.subset hx)]; exact Nat.le_refl _
  · obtain ⟨s, hs1, hs2⟩ := deaf_hit (hm x0 hx).1 (hm x0 hx).2
    have h1 := hc.short (s :: ch2) (fun z hz => by
      rcases List.mem_cons.1 hz with rfl | hz
      · exact hs1
      · exact hc2.bd z hz) (by
      rw [a, cnt_all.2 fun x hx => ?_]; · exact Nat.le_refl _
      unfold hit
      rw [List.any_cons, Bool.or_eq_true]
      rcases h0 x hx with h | rfl
      · right; exact sb x h
      · left; exact hs2)
    simpa using h1
theorem more_apart {l m E F : List (Nat × List Bool)} (hs : l.Sublist m) {x0 : Nat × List Bool} (hn : m.Nodup) (h0 : l = m.filter fun x => decide (x ≠ x0)) (hE : Aparts m E) (hF : Aparts l F) : F.length ≤ E.length ∧ E.length ≤ F.length + 1 := by
  constructor
  · exact hE.most F (hF.sub.trans hs) hF.apt
  · have h1 := hF.most (E.filter fun x => decide (x ≠ x0)) (by rw [h0]; exact hE.sub.filter _) (hE.apt.filter _)
    have hEn := hE.sub.nodup hn
    have h2 : ∀ {E : List (Nat × List Bool)}, E.Nodup → E.length ≤ (E.filter fun x => decide (x ≠ x0)).length + 1 := by
      intro E
      induction E with
      | nil => simp
      | cons y E ih =>
        intro hn
        rw [List.nodup_cons] at hn
        rw [List.filter_cons]
        by_cases e : y = x0
        · subst e
          have : E.filter (fun x => decide (x ≠ y)) = E := by
            rw [List.filter_eq_self]
            intro z hz
            rw [decide_eq_true_iff]
            exact fun e => hn.1 (by rw [← e]; exact hz)
          rw [this]; simp
        · have := ih hn.2
          rw [if_pos (by simpa using e)]
          simp at this ⊢; omega
    exact Nat.le_trans (h2 hEn) (by omega)
theorem must_sub {l m : List (Nat × List Bool)} (hs : l.Sublist m) {k : Nat} : ∀ s ∈ mustTo l k, s ∈ mustTo m k := fun s h => by
  obtain ⟨p, rfl⟩ : ∃ p : Nat, s = p := by
    unfold mustTo at h
    obtain ⟨p, _, e⟩ := List.mem_map.1 h
    exact ⟨p, e.symm⟩
  rw [mem_mustTo] at h ⊢
  obtain ⟨a, x, hx, ho⟩ := h
  exact ⟨a, x, hs.subset hx, ho⟩
theorem chosen_enough {l : List (Nat × List Bool)} (h : Heard l) {st : Nat} (hst : 30 ≤ st) {ch ch2 : List Nat} {n n2 : Nat} (hc : Chosen l st ch n) (hc2 : Chosen l ch.length ch2 n2) : n2 = l.length := by
  have h1 := hc2.most ch hc.bd (Nat.le_refl _)
  rw [hc.cnt, chosen_all h hst hc] at h1
  have h3 := cnt_le l ch2
  rw [hc2.cnt] at h3
  omega
end Go.Proofs.Ytimedmkpenbmkaa
