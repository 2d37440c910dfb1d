/- Contracts and mathematics, part 2. -/
import Derived.Test.YtimedmkpenbmkaaGreatRaa
section
namespace Go.Proofs.YtimedmkpenbmkaaGreat
open Go.RowKit Go.Shelf
set_option linter.unusedSimpArgs false
set_option linter.unusedVariables false
/-- the stands that a house hears -/
def standsTo (t : Hr.Town) (wind voice : Int) (h k : Nat) : List Int := ((List.range k).filter fun s => hearB t wind voice h s).map fun (p : Nat) => (p : Int)
def standsOf (t : Hr.Town) (wind voice : Int) (h : Nat) : List Int := standsTo t wind voice h 30
theorem standsTo_yes {t : Hr.Town} {wind voice : Int} {h k : Nat} (e : hearB t wind voice h k = true) : standsTo t wind voice h (k + 1) = standsTo t wind voice h k ++ [(k : Int)] := by
  unfold standsTo; rw [List.range_succ, List.filter_append]; simp [e]
theorem standsTo_no {t : Hr.Town} {wind voice : Int} {h k : Nat} (e : hearB t wind voice h k = false) : standsTo t wind voice h (k + 1) = standsTo t wind voice h k := by
  unfold standsTo; rw [List.range_succ, List.filter_append]; simp [e]
theorem standsTo_len (t : Hr.Town) (wind voice : Int) (h k : Nat) : (standsTo t wind voice h k).length ≤ k := by
  unfold standsTo
  have := List.length_filter_le (fun s => hearB t wind voice h s) (List.range k)
  simp at this ⊢; omega
set_option maxHeartbeats 1000000 in
set_option maxRecDepth 100000 in
theorem Stands_no (wd wind voice s : Int) (a : Option Addr) (cap : Nat) (xs : List Int) (hl : xs.length ≤ 1000000) (w : World) (hR : RdI w (.slice a xs.length cap) xs) (h : atE wd xs wind voice s 1 ≠ 0) :
    Calls Tryz.prog 22 #[.agg #[.int .i64 wd, .slice a xs.length cap], .agg #[.int .i64 wind, .int .i64 voice], .int .i64 s] w fun e w' => e = .returned (.tuple #[.slice none 0 0, .int .i64 (atE wd xs wind voice s 1)]) ∧ Below w.heap.size w w' := by
  have HB := Lib.hid (al (below1 w (.cells #[.int .i64 wd, .slice a xs.length cap] 25)) (.cells #[.int .i64 wind, .int .i64 voice] 29))
  have HP := Lib.hid (openAt_bad wd wind voice s 1 a cap xs hl _ (hR.below HB.out) h)
  unfold zeroWork at HP
  generalize atE wd xs wind voice s 1 = E at h HP ⊢
  have h1 : (E != 0) = true := by simpa using h
  clear h hR
  go_enter Tryz.func22, Tryz.ntmps22
  go_wp2_with fail
  refine HP.out.mono ?_
  rintro e w1 ⟨rfl, hB⟩
  have HB1 := Lib.hid (join HB.out hB)
  clear hB HP
  go_wp2
  go_ret2
  exact ⟨rfl, by first | (with_reducible exact al HB1.out _) | (with_reducible refine setc6 HB1.out ?_; omega)⟩
def spSd (wk : Value) (t : Hr.Town) (wind voice : Int) (h : Nat) : Nat → List Value → Value → World → Prop
  | 0, _, v, _ => v = wk
  | 1, _, v, _ => v = wk
  | 2, _, v, w => ∃ vs, v = .agg vs ∧ TabsTo t wind 30 w vs
  | 3, _, v, _ => v = .int .i64 h
  | 4, _, v, _ => v = .agg ((ears t wind voice h).map Value.bool).toArray
  | 5, _, v, _ => v = .int .i64 0
  | _, _, _, _ => False
theorem spSd_stable (wk : Value) (t : Hr.Town) (wind voice : Int) (h : Nat) : ∀ i L v w w', spSd wk t wind voice h i L v w → Rs.Gr w w' → spSd wk t wind voice h i L v w' := by
  intro i L v w w' h hg
  match i with
  | 0 => exact h
  | 1 => exact h
  | 2 => obtain ⟨vs, h1, h2⟩ := h; exact ⟨vs, h1, h2.below hg⟩
  | 3 => exact h
  | 4 => exact h
  | 5 => exact h
set_option maxHeartbeats 2000000 in
set_option maxRecDepth 100000 in
theorem Stands_yes (t : Hr.Town) (ok : t.Ok) (wind voice : Int) (h : Nat) (he : atE t.wide t.plots wind voice h 1 = 0) (b o cap : Nat) (w : World) (hI : Ints w b o t.plots) :
    Calls Tryz.prog 22 #[.agg #[.int .i64 t.wide, .slice (some ⟨b, o, none⟩) t.plots.length cap], .agg #[.int .i64 wind, .int .i64 voice], .int .i64 h] w fun e w' => ∃ v, e = .returned (.tuple #[v, .int .i64 0]) ∧ w'.ownsRow w.heap.size 3 1 v (standsOf t wind voice h).length ((standsOf t wind voice h).map (Value.int .i64)) ∧ Below w.heap.size w w' := by
  obtain ⟨i0, hi, hz0, hz1, hz2⟩ := info_parts A_info3
  obtain ⟨hc, ha, hp⟩ := atE_ok he
  obtain ⟨w0, w4, v1, v40⟩ := wind_ok ha
  obtain ⟨s', hs', hs, hst⟩ := plot_ok hp
  obtain rfl : h = s' := by omega
  have h30 : t.plots.length ≤ 30 := ok.n30
  have HB := Lib.hid (al (below1 w (.cells #[.int .i64 t.wide, .slice (some ⟨b, o, none⟩) t.plots.length cap] 25)) (.cells #[.int .i64 wind, .int .i64 voice] 29))
  have hIb := hI.below HB.out hI.1
  have HP := Lib.hid (openAt_ok t.wide wind voice h 1 b o cap t.plots _ ⟨fun _ => ⟨b, o, rfl, hIb⟩, by omega⟩ hIb (by omega) hc ha hp)
  have HI := Lib.hid hI
  have hh2 : h < t.len := hs
  clear he hc ha hp hI hIb hst hs'
  go_enter Tryz.func22, Tryz.ntmps22
  go_wp2_with fail
  refine HP.out.mono ?_
  rintro e w1 ⟨r, rfl, hD, hr, hB⟩
  have HB1 := Lib.hid (join HB.out hB)
  have hrl : r < w1.heap.size := dir_lt hD
  have HD := Lib.hid hD
  clear hB hD HP HB hr
  go_wp2_with fail
  obtain ⟨W2, hW2⟩ : ∃ W2, W2 = w1.alloc (.cells #[.int .i64 t.wide, .slice (some ⟨b, o, none⟩) t.plots.length cap, .int .i64 wind, .int .i64 voice, .map (some r), .func (.func 121) #[] #[]] 117) := ⟨_, rfl⟩
  have hbx : W2.heap[w1.heap.size]? = some (.cells #[.int .i64 t.wide, .slice (some ⟨b, o, none⟩) t.plots.length cap, .int .i64 wind, .int .i64 voice, .map (some r), .func (.func 121) #[] #[]] 117 (0, 0)) := by rw [hW2]; exact heap_alloc_last _ _
  have HB2 : Hid (Below w.heap.size w W2) := Lib.hid (by rw [hW2]; exact al HB1.out _)
  have HD2 : Hid (DirMap W2 r) := Lib.hid (by rw [hW2]; exact dir_al HD.out hrl _)
  rw [← hW2]
  have HBX := Lib.hid hbx
  have hbl2 : w1.heap.size < W2.heap.size := (Array.getElem?_eq_some_iff.1 hbx).1
  clear hW2 hbx HB1 HD hrl
  refine Rs.region_gen 6 [[], [], [1], [], [0, 1, 2, 3], []] [some 23, some 24, some 25, some 26, some 27, some 28] (spSd (.agg #[.int .i64 t.wide, .slice (some ⟨b, o, none⟩) t.plots.length cap, .int .i64 wind, .int .i64 voice, .map (some r), .func (.func 121) #[] #[]]) t wind voice h) (by kernel_rfl) (by kernel_rfl) rfl (spSd_stable _ _ _ _ _) ?_ ?_
  · refine ⟨fun V w' hG hs => ?_, fun V w' hG hs => ?_, fun V w' hG hs => ?_, fun V w' hG hs => ?_, fun V w' hG hs => ?_, fun V w' hG hs => ?_, trivial⟩
    all_goals
      obtain ⟨c0, c1, c2, c3, c4, c5⟩ := voice_cells ((hG.block _ hbl2).trans HBX.out)
      rw [if_pos (by rfl)]
    · exact Rs.GrowL.value (v := .agg #[.int .i64 t.wide, .slice (some ⟨b, o, none⟩) t.plots.length cap, .int .i64 wind, .int .i64 voice, .map (some r), .func (.func 121) #[] #[]]) (w' := w') (by simp [go_sem, Rs.look, c0, c1, c2, c3, c4, c5]) (Rs.Gr.refl _) rfl
    · exact Rs.GrowL.value (v := .agg #[.int .i64 t.wide, .slice (some ⟨b, o, none⟩) t.plots.length cap, .int .i64 wind, .int .i64 voice, .map (some r), .func (.func 121) #[] #[]]) (w' := w') (by simp [go_sem, Rs.look, c0, c1, c2, c3, c4, c5]) (Rs.Gr.refl _) rfl
    · have e1 : V 1 = .agg #[.int .i64 t.wide, .slice (some ⟨b, o, none⟩) t.plots.length cap, .int .i64 wind, .int .i64 voice, .map (some r), .func (.func 121) #[] #[]] := hs 1 (by simp)
      refine Rs.GrowL.call (f := 74) (args := #[.agg #[.int .i64 t.wide, .slice (some ⟨b, o, none⟩) t.plots.length cap, .int .i64 wind, .int .i64 voice, .map (some r), .func (.func 121) #[] #[]]]) (by simp [go_sem, Rs.look, e1]) ?_
      refine (tables_any t ok wind voice w0 w4 b o cap r _ _ _ w' (HI.out.below (join HB2.out hG) HI.out.1) ((hG.block r (dir_lt HD2.out)).trans HD2.out)).mono ?_
      rintro e w2 ⟨vs, rfl, hT, hB2⟩
      exact ⟨_, rfl, hB2, vs, rfl, hT⟩
    · exact Rs.GrowL.value (v := .int .i64 h) (w' := w') (by simp [go_sem, Rs.look]) (Rs.Gr.refl _) rfl
    · have e0 : V 0 = .agg #[.int .i64 t.wide, .slice (some ⟨b, o, none⟩) t.plots.length cap, .int .i64 wind, .int .i64 voice, .map (some r), .func (.func 121) #[] #[]] := hs 0 (by simp)
      obtain ⟨vs, e2, hT⟩ : ∃ vs, V 2 = .agg vs ∧ TabsTo t wind 30 w' vs := hs 2 (by simp)
      have e3 : V 3 = .int .i64 h := hs 3 (by simp)
      refine Rs.GrowL.call (f := 79) (args := #[.agg #[.int .i64 t.wide, .slice (some ⟨b, o, none⟩) t.plots.length cap, .int .i64 wind, .int .i64 voice, .map (some r), .func (.func 121) #[] #[]], .agg vs, .int .i64 h]) (by simp [go_sem, Rs.look, e0, e2, e3]) ?_
      refine (hears_any t ok wind voice h hh2 _ _ _ vs w' hT).mono ?_
      rintro e w2 ⟨rfl, hB2⟩
      exact ⟨_, rfl, hB2, rfl⟩
    · exact Rs.GrowL.value (v := .int .i64 0) (w' := w') (by simp [go_sem, Rs.look]) (Rs.Gr.refl _) rfl
  · intro V w5 hG hs
    have e0 : V 0 = .agg #[.int .i64 t.wide, .slice (some ⟨b, o, none⟩) t.plots.length cap, .int .i64 wind, .int .i64 voice, .map (some r), .func (.func 121) #[] #[]] := hs 0 (by omega)
    have e1 : V 1 = .agg #[.int .i64 t.wide, .slice (some ⟨b, o, none⟩) t.plots.length cap, .int .i64 wind, .int .i64 voice, .map (some r), .func (.func 121) #[] #[]] := hs 1 (by omega)
    have e3 : V 3 = .int .i64 h := hs 3 (by omega)
    have e4 : V 4 = .agg ((ears t wind voice h).map Value.bool).toArray := hs 4 (by omega)
    have e5 : V 5 = .int .i64 0 := hs 5 (by omega)
    simp only [Rs.canon, Rs.dstOf, List.range_succ, List.range_zero, List.nil_append, List.cons_append, List.foldl_cons, List.foldl_nil, List.drop_succ_cons, List.drop_zero, List.drop_nil, List.getElem?_toArray, List.getElem?_cons_succ, List.getElem?_cons_zero, Option.bind_some, Act.put, List.getD_cons_succ, List.getD_cons_zero, List.setIfInBounds_toArray, List.set_cons_succ, List.set_cons_zero]
    rw [e0, e1, e3, e4, e5]
    generalize V 2 = v2
    have HB5 := Lib.hid (join HB2.out hG)
    obtain ⟨EA, hEA⟩ : ∃ EA, EA = ((ears t wind voice h).map Value.bool).toArray := ⟨_, rfl⟩
    rw [← hEA]
    have hget : ∀ k, k < 30 → EA[k]? = some (.bool (hearB t wind voice h k)) := fun k hk => by rw [hEA]; unfold ears; simp [hk]
    have HGET := Lib.hid hget
    clear e0 e1 e3 e4 e5 hs hG hEA hget HD2 HBX hbl2 HB2 HI
    go_wp2
    go_loopw [10, 11, 12, 28] (fun v u u' i wr => ∃ k : Nat, k ≤ 30 ∧ i = .int .i64 k ∧ wr.ownsRow w5.heap.size 3 1 v (standsTo t wind voice h k).length ((standsTo t wind voice h k).map (Value.int .i64)) ∧ Below w5.heap.size w5 wr) (fun _ _ _ i _ => 30 - (intOf i).toNat)
    case atStart => exact ⟨0, by omega, rfl, own_none _ _ _ _, Below.refl _ _⟩
    case round =>
      obtain ⟨k, hk, rfl, hown, hBr⟩ := hrel
      have HO := Lib.hid hown
      have HBr := Lib.hid hBr
      have hlen := standsTo_len t wind voice h k
      have hz := hBr.size
      clear hown hBr
      by_cases hlt : k < 30
      · have hidx := fun W => idx_arr und128 agg4 siz4 hlt (HGET.out k hlt) W
        generalize hen : hearB t wind voice h k = en at hidx
        have HEN := Lib.hid hen
        clear hen
        cases en with
        | false =>
          go_wp2
          go_roundw
          case rel => exact ⟨k + 1, by omega, by simp, by rw [standsTo_no HEN.out]; exact HO.out, HBr.out⟩
          case measure => simp [intOf]; omega
        | true =>
          go_wp2_with (at_builtin; refine wpList_append_own _ rfl _ _ 22 rfl w5.heap.size 3 i0 (.int .i64 0) 1 8 A_und31 hi hz0 hz1 hz2 rfl (by decide) _ _ _ rfl (HO.out.alloc _) ⟨wr.heap.size, 0, none⟩ 1 1 [.int .i64 (k : Int)] rfl rfl ?d1 ?d2 ?d3 ?d4 ?d5 ?_)
          case d1 =>
            intro j u hj
            match j, hj with
            | 0, hj => simp at hj; subst hj; simp [Addr.add]
          case d2 => intro u hu; simp at hu; subst hu; rfl
          case d3 => unfold maxLen; omega
          case d4 => omega
          case d5 => simp; omega
          intro v' w8 hown8 hgrow _
          have hB8 := below_grown (al2 HBr.out (by omega) _) (HO.out.alloc _) (Nat.le_refl _) (by simp; omega) hgrow
          have HO8 := Lib.hid hown8
          have HB8 := Lib.hid hB8
          clear hgrow hown8 hB8
          go_wp2
          go_roundw
          case rel => exact ⟨k + 1, by omega, by simp, by rw [standsTo_yes HEN.out]; simpa using HO8.out, HB8.out⟩
          case measure => simp [intOf]; omega
      · obtain rfl : k = 30 := by omega
        go_wp2
        go_ret2
        exact ⟨_, rfl, own_base HO.out HB5.out.size, join HB5.out HBr.out⟩
/-- what Stands tells -/
def standsL (wd : Int) (xs : List Int) (wind voice h : Int) : List Int := if atE wd xs wind voice h 1 = 0 then standsOf (townOf wd xs) wind voice h.toNat else []
theorem Stands_any (wd wind voice s : Int) (a : Option Addr) (cap : Nat) (xs : List Int) (hl : xs.length ≤ 1000000) (w : World) (hR : RdI w (.slice a xs.length cap) xs) :
    Calls Tryz.prog 22 #[.agg #[.int .i64 wd, .slice a xs.length cap], .agg #[.int .i64 wind, .int .i64 voice], .int .i64 s] w fun e w' => ∃ v, e = .returned (.tuple #[v, .int .i64 (atE wd xs wind voice s 1)]) ∧ w'.ownsRow w.heap.size 3 1 v (standsL wd xs wind voice s).length ((standsL wd xs wind voice s).map (Value.int .i64)) ∧ Below w.heap.size w w' := by
  by_cases h : atE wd xs wind voice s 1 = 0
  · obtain ⟨h1, h2, h3⟩ := atE_ok h
    have hne : xs ≠ [] := by rintro rfl; have := (check_len h1).2; simp at this
    obtain ⟨b, o, rfl, _, hI⟩ := rd_ints hR hne
    obtain ⟨t, -, hw', hx, ok⟩ := town_name h1
    subst hw' hx
    obtain ⟨p, rfl, hp, _⟩ := plot_ok h3
    have e1 : standsL t.wide t.plots wind voice p = standsOf t wind voice p := by unfold standsL; rw [if_pos h, townOf_self]; simp
    rw [e1, h]
    exact Stands_yes t ok wind voice p h b o cap w hI
  · have e1 : standsL wd xs wind voice s = [] := if_neg h
    rw [e1]
    refine (Stands_no wd wind voice s a cap xs hl w hR h).mono ?_
    rintro e w' ⟨rfl, hB⟩
    exact ⟨_, rfl, own_none _ _ _ _, hB⟩
end Go.Proofs.YtimedmkpenbmkaaGreat
end
section
namespace Go.Proofs.YtimedmkpenbmkaaGreat
open Go.RowKit Go.Shelf
set_option linter.unusedSimpArgs false
set_option linter.unusedVariables false
/-- the deaf ones of the first houses -/
def deafTo (l : List (Nat × List Bool)) (k : Nat) : List Int := ((l.take k).filter fun x => deafB x.2).map fun x => (x.1 : Int)
theorem deafTo_yes {l : List (Nat × List Bool)} {k : Nat} {x : Nat × List Bool} (hx : l[k]? = some x) (h : deafB x.2 = true) : deafTo l (k + 1) = deafTo l k ++ [(x.1 : Int)] := by
  unfold deafTo; rw [List.take_add_one, hx, List.filter_append]; simp [h]
theorem deafTo_no {l : List (Nat × List Bool)} {k : Nat} {x : Nat × List Bool} (hx : l[k]? = some x) (h : deafB x.2 = false) : deafTo l (k + 1) = deafTo l k := by
  unfold deafTo; rw [List.take_add_one, hx, List.filter_append]; simp [h]
theorem deafTo_len (l : List (Nat × List Bool)) (k : Nat) : (deafTo l k).length ≤ k := by
  unfold deafTo
  have h1 := List.length_filter_le (fun x : Nat × List Bool => deafB x.2) (l.take k)
  have h2 := List.length_take_le k l
  simp only [List.length_map]; omega
/-- the houses that hear no stand -/
def deafOf (t : Hr.Town) (wind voice : Int) : List Int := deafTo (lis t wind voice fun _ => true) (lis t wind voice fun _ => true).length
theorem lis_30 (t : Hr.Town) (wind voice : Int) (cnt : Nat → Bool) : ∀ y ∈ lis t wind voice cnt, y.2.length = 30 := by
  intro y hy
  unfold lis lisTo at hy
  obtain ⟨p, _, rfl⟩ := List.mem_map.1 hy
  simp [ears]
set_option maxHeartbeats 1000000 in
set_option maxRecDepth 100000 in
theorem Deaf_no (wd wind voice : Int) (a : Option Addr) (cap : Nat) (xs : List Int) (hl : xs.length ≤ 1000000) (w : World) (hR : RdI w (.slice a xs.length cap) xs) (h : openErr wd xs wind voice ≠ 0) :
    Calls Tryz.prog 20 #[.agg #[.int .i64 wd, .slice a xs.length cap], .agg #[.int .i64 wind, .int .i64 voice]] w fun e w' => e = .returned (.tuple #[.slice none 0 0, .int .i64 (openErr wd xs wind voice)]) ∧ Below w.heap.size w w' := by
  have HB := Lib.hid (al (below1 w (.cells #[.int .i64 wd, .slice a xs.length cap] 25)) (.cells #[.int .i64 wind, .int .i64 voice] 29))
  have HP := Lib.hid (open_err wd wind voice a cap xs _ (rd_plots (hR.below HB.out) hl) h)
  unfold zeroWork at HP
  generalize openErr wd xs wind voice = E at h HP ⊢
  have h1 : (E != 0) = true := by simpa using h
  clear h hR
  go_enter Tryz.func20, Tryz.ntmps20
  go_wp2_with fail
  refine HP.out.mono ?_
  rintro e w1 ⟨rfl, hB⟩
  have HB1 := Lib.hid (join HB.out hB)
  clear hB HP
  go_wp2
  go_ret2
  exact ⟨rfl, by first | (with_reducible exact al HB1.out _) | (with_reducible refine setc6 HB1.out ?_; omega)⟩
def spDe (wk : Value) (t : Hr.Town) (wind voice : Int) (B : Nat) : Nat → List Value → Value → World → Prop
  | 0, _, v, _ => v = wk
  | 1, _, v, _ => v = wk
  | 2, _, v, w => ∃ vs, v = .agg vs ∧ TabsTo t wind 30 w vs
  | 3, _, v, w => ∃ ob cp, v = .slice ob (lis t wind voice fun _ => true).length cp ∧ w.ownsRow B 126 31 (.slice ob (lis t wind voice fun _ => true).length cp) (lis t wind voice fun _ => true).length (lisV (lis t wind voice fun _ => true))
  | 4, _, v, _ => v = .int .i64 (lis t wind voice fun _ => true).length
  | 5, _, v, _ => v = .int .i64 0
  | _, _, _, _ => False
theorem spDe_stable (wk : Value) (t : Hr.Town) (wind voice : Int) (B : Nat) : ∀ i L v w w', spDe wk t wind voice B i L v w → Rs.Gr w w' → spDe wk t wind voice B i L v w' := by
  intro i L v w w' h hg
  match i with
  | 0 => exact h
  | 1 => exact h
  | 2 => obtain ⟨vs, h1, h2⟩ := h; exact ⟨vs, h1, h2.below hg⟩
  | 3 => obtain ⟨ob, cp, h1, h2⟩ := h; exact ⟨ob, cp, h1, own_below h2 hg⟩
  | 4 => exact h
  | 5 => exact h
set_option maxHeartbeats 2000000 in
set_option maxRecDepth 100000 in
theorem Deaf_yes (t : Hr.Town) (ok : t.Ok) (wind voice : Int) (he : openErr t.wide t.plots wind voice = 0) (b o cap : Nat) (w : World) (hI : Ints w b o t.plots) :
    Calls Tryz.prog 20 #[.agg #[.int .i64 t.wide, .slice (some ⟨b, o, none⟩) t.plots.length cap], .agg #[.int .i64 wind, .int .i64 voice]] w fun e w' => ∃ v, e = .returned (.tuple #[v, .int .i64 0]) ∧ w'.ownsRow w.heap.size 3 1 v (deafOf t wind voice).length ((deafOf t wind voice).map (Value.int .i64)) ∧ Below w.heap.size w w' := by
  obtain ⟨i0, hi, hz0, hz1, hz2⟩ := info_parts A_info3
  obtain ⟨hc, ha⟩ := openErr_ok he
  obtain ⟨w0, w4, v1, v40⟩ := wind_ok ha
  have h30 : t.plots.length ≤ 30 := ok.n30
  have HB := Lib.hid (al (below1 w (.cells #[.int .i64 t.wide, .slice (some ⟨b, o, none⟩) t.plots.length cap] 25)) (.cells #[.int .i64 wind, .int .i64 voice] 29))
  have hIb := hI.below HB.out hI.1
  have HP := Lib.hid (open_ok t.wide wind voice b o cap t.plots _ ⟨fun _ => ⟨b, o, rfl, hIb⟩, by omega⟩ hc ha)
  have HI := Lib.hid hI
  clear he hc ha hI hIb
  go_enter Tryz.func20, Tryz.ntmps20
  go_wp2_with fail
  refine HP.out.mono ?_
  rintro e w1 ⟨r, rfl, hD, hr, hB⟩
  have HB1 := Lib.hid (join HB.out hB)
  have hrl : r < w1.heap.size := dir_lt hD
  have HD := Lib.hid hD
  clear hB hD HP HB hr
  go_wp2_with fail
  obtain ⟨W2, hW2⟩ : ∃ W2, W2 = w1.alloc (.cells #[.int .i64 t.wide, .slice (some ⟨b, o, none⟩) t.plots.length cap, .int .i64 wind, .int .i64 voice, .map (some r), .func (.func 121) #[] #[]] 117) := ⟨_, rfl⟩
  have hbx : W2.heap[w1.heap.size]? = some (.cells #[.int .i64 t.wide, .slice (some ⟨b, o, none⟩) t.plots.length cap, .int .i64 wind, .int .i64 voice, .map (some r), .func (.func 121) #[] #[]] 117 (0, 0)) := by rw [hW2]; exact heap_alloc_last _ _
  have HB2 : Hid (Below w.heap.size w W2) := Lib.hid (by rw [hW2]; exact al HB1.out _)
  have HD2 : Hid (DirMap W2 r) := Lib.hid (by rw [hW2]; exact dir_al HD.out hrl _)
  rw [← hW2]
  have HBX := Lib.hid hbx
  have hbl2 : w1.heap.size < W2.heap.size := (Array.getElem?_eq_some_iff.1 hbx).1
  clear hW2 hbx HB1 HD hrl
  refine Rs.region_gen 6 [[], [], [1], [0, 1, 2], [0, 1, 2, 3], []] [some 20, some 21, some 22, some 23, some 24, some 25] (spDe (.agg #[.int .i64 t.wide, .slice (some ⟨b, o, none⟩) t.plots.length cap, .int .i64 wind, .int .i64 voice, .map (some r), .func (.func 121) #[] #[]]) t wind voice W2.heap.size) (by kernel_rfl) (by kernel_rfl) rfl (spDe_stable _ _ _ _ _) ?_ ?_
  · refine ⟨fun V w' hG hs => ?_, fun V w' hG hs => ?_, fun V w' hG hs => ?_, fun V w' hG hs => ?_, fun V w' hG hs => ?_, fun V w' hG hs => ?_, trivial⟩
    all_goals
      obtain ⟨c0, c1, c2, c3, c4, c5⟩ := voice_cells ((hG.block _ hbl2).trans HBX.out)
      rw [if_pos (by rfl)]
    · exact Rs.GrowL.value (v := .agg #[.int .i64 t.wide, .slice (some ⟨b, o, none⟩) t.plots.length cap, .int .i64 wind, .int .i64 voice, .map (some r), .func (.func 121) #[] #[]]) (w' := w') (by simp [go_sem, Rs.look, c0, c1, c2, c3, c4, c5]) (Rs.Gr.refl _) rfl
    · exact Rs.GrowL.value (v := .agg #[.int .i64 t.wide, .slice (some ⟨b, o, none⟩) t.plots.length cap, .int .i64 wind, .int .i64 voice, .map (some r), .func (.func 121) #[] #[]]) (w' := w') (by simp [go_sem, Rs.look, c0, c1, c2, c3, c4, c5]) (Rs.Gr.refl _) rfl
    · have e1 : V 1 = .agg #[.int .i64 t.wide, .slice (some ⟨b, o, none⟩) t.plots.length cap, .int .i64 wind, .int .i64 voice, .map (some r), .func (.func 121) #[] #[]] := hs 1 (by simp)
      refine Rs.GrowL.call (f := 74) (args := #[.agg #[.int .i64 t.wide, .slice (some ⟨b, o, none⟩) t.plots.length cap, .int .i64 wind, .int .i64 voice, .map (some r), .func (.func 121) #[] #[]]]) (by simp [go_sem, Rs.look, e1]) ?_
      refine (tables_any t ok wind voice w0 w4 b o cap r _ _ _ w' (HI.out.below (join HB2.out hG) HI.out.1) ((hG.block r (dir_lt HD2.out)).trans HD2.out)).mono ?_
      rintro e w2 ⟨vs, rfl, hT, hB2⟩
      exact ⟨_, rfl, hB2, vs, rfl, hT⟩
    · have e0 : V 0 = .agg #[.int .i64 t.wide, .slice (some ⟨b, o, none⟩) t.plots.length cap, .int .i64 wind, .int .i64 voice, .map (some r), .func (.func 121) #[] #[]] := hs 0 (by simp)
      obtain ⟨vs, e2, hT⟩ : ∃ vs, V 2 = .agg vs ∧ TabsTo t wind 30 w' vs := hs 2 (by simp)
      refine Rs.GrowL.call (f := 73) (args := #[.agg #[.int .i64 t.wide, .slice (some ⟨b, o, none⟩) t.plots.length cap, .int .i64 wind, .int .i64 voice, .map (some r), .func (.func 121) #[] #[]], .agg vs]) (by simp [go_sem, Rs.look, e0, e2]) ?_
      refine (listeners_any t ok wind voice b o cap _ 121 #[] (fun _ => true) vs w' (HI.out.below (join HB2.out hG) HI.out.1) hT (fun args W => rfl) (fun p hp W hW => (all_any p W).mono fun e w' ⟨h1, h2⟩ => ⟨h1, h2 ▸ Below.refl _ _⟩)).mono ?_
      rintro e w2 ⟨v, rfl, ho, hB2⟩
      obtain ⟨ob, cp, rfl⟩ := own_slice ho
      exact ⟨_, rfl, hB2, ob, cp, rfl, own_base ho (by have := hG.size; omega)⟩
    · obtain ⟨ob, cp, e3, ho⟩ : ∃ ob cp, V 3 = .slice ob (lis t wind voice fun _ => true).length cp ∧ w'.ownsRow W2.heap.size 126 31 (.slice ob (lis t wind voice fun _ => true).length cp) (lis t wind voice fun _ => true).length (lisV (lis t wind voice fun _ => true)) := hs 3 (by simp)
      exact Rs.GrowL.value (v := .int .i64 (lis t wind voice fun _ => true).length) (w' := w') (by simp [go_sem, Rs.look, e3]) (Rs.Gr.refl _) rfl
    · exact Rs.GrowL.value (v := .int .i64 0) (w' := w') (by simp [go_sem, Rs.look]) (Rs.Gr.refl _) rfl
  · intro V w5 hG hs
    have e0 : V 0 = .agg #[.int .i64 t.wide, .slice (some ⟨b, o, none⟩) t.plots.length cap, .int .i64 wind, .int .i64 voice, .map (some r), .func (.func 121) #[] #[]] := hs 0 (by omega)
    have e1 : V 1 = .agg #[.int .i64 t.wide, .slice (some ⟨b, o, none⟩) t.plots.length cap, .int .i64 wind, .int .i64 voice, .map (some r), .func (.func 121) #[] #[]] := hs 1 (by omega)
    obtain ⟨ob, cp, e3, ho⟩ : ∃ ob cp, V 3 = .slice ob (lis t wind voice fun _ => true).length cp ∧ w5.ownsRow W2.heap.size 126 31 (.slice ob (lis t wind voice fun _ => true).length cp) (lis t wind voice fun _ => true).length (lisV (lis t wind voice fun _ => true)) := hs 3 (by omega)
    have e4 : V 4 = .int .i64 (lis t wind voice fun _ => true).length := hs 4 (by omega)
    have e5 : V 5 = .int .i64 0 := hs 5 (by omega)
    simp only [Rs.canon, Rs.dstOf, List.range_succ, List.range_zero, List.nil_append, List.cons_append, List.foldl_cons, List.foldl_nil, List.drop_succ_cons, List.drop_zero, List.drop_nil, List.getElem?_toArray, List.getElem?_cons_succ, List.getElem?_cons_zero, Option.bind_some, Act.put, List.getD_cons_succ, List.getD_cons_zero, List.setIfInBounds_toArray, List.set_cons_succ, List.set_cons_zero]
    rw [e0, e1, e3, e4, e5]
    generalize V 2 = v2
    have HB5 := Lib.hid (join HB2.out hG)
    have hL30 := lis_30 t wind voice fun _ => true
    have hin := LiIn.of_own hL30 ho
    have hLl : (lis t wind voice fun _ => true).length ≤ 30 := by have := lisTo_len t wind voice (fun _ => true) t.len; have e : t.len = t.plots.length := rfl; unfold lis; omega
    obtain ⟨L, hL⟩ : ∃ L, L = lis t wind voice fun _ => true := ⟨_, rfl⟩
    have HD0 : Hid (deafOf t wind voice = deafTo L L.length) := Lib.hid (by rw [hL]; rfl)
    rw [← hL] at hin hLl hL30 ⊢
    have HIN := Lib.hid hin
    have HL30 := Lib.hid hL30
    clear e0 e1 e3 e4 e5 hs hG hL hin ho HD2 HBX hbl2 HB2 HI hL30
    go_wp2_with fail
    go_loopw [8, 25] (fun v i wr => ∃ k : Nat, k ≤ L.length ∧ i = .int .i64 k ∧ wr.ownsRow w5.heap.size 3 1 v (deafTo L k).length ((deafTo L k).map (Value.int .i64)) ∧ Below w5.heap.size w5 wr) (fun _ i _ => L.length - (intOf i).toNat)
    case atStart => exact ⟨0, by omega, rfl, own_none _ _ _ _, Below.refl _ _⟩
    case round =>
      obtain ⟨k, hk, rfl, hown, hB⟩ := hrel
      have HO := Lib.hid hown
      have HB := Lib.hid hB
      have hlen := deafTo_len L k
      have hz := hB.size
      by_cases hlt : k < L.length
      · obtain ⟨x, hx⟩ : ∃ x, L[k]? = some x := ⟨_, List.getElem?_eq_getElem hlt⟩
        have hx30 := HL30.out x (List.mem_of_getElem? hx)
        obtain ⟨g, rfl, hgl, hrg⟩ := (HIN.out.below hB) k x hx
        have HXK := Lib.hid hx
        obtain ⟨row, hrow⟩ : ∃ row, row = lisRow x := ⟨_, rfl⟩
        have hsz : (Tryz.prog.info? 126).map (·.size) = some row.length := by rw [hrow, lisRow_len hx30]; exact size135
        have hsz2 : (Tryz.prog.info? 126).map (·.size) = some row.toArray.size := by rw [hrow, List.size_toArray, lisRow_len hx30]; exact size135
        have hask := fun W => deaf_any x.1 x.2 hx30 W
        change ∀ W, Calls Tryz.prog 75 #[.agg (lisRow x).toArray] W _ at hask
        rw [← hrow] at hrg hask
        have hone : row.toArray.all (·.oneCell') = true := by
          rw [hrow, Array.all_eq_true]; intro i hi
          have : (lisRow x).toArray[i] ∈ lisRow x := by simp
          unfold lisRow at this
          rcases List.mem_cons.1 this with h | h
          · rw [show (lisRow x).toArray[i] = _ from h]; rfl
          · obtain ⟨b', _, hb⟩ := List.mem_map.1 h; rw [show (lisRow x).toArray[i] = _ from hb.symm]; rfl
        have hrow0 : row.toArray[0]? = some (.int .i64 x.1) := by rw [hrow]; rfl
        have HR0 := Lib.hid hrow0
        have HRG := Lib.hid hrg
        have HASK := Lib.hid hask
        have HSZ := Lib.hid hsz
        have HSZ2 := Lib.hid hsz2
        have hsz3 : row.toArray.size = 31 := by rw [hrow, List.size_toArray, lisRow_len hx30]
        have HSZ3 := Lib.hid hsz3
        have HON := Lib.hid hone
        have hlt' : (k : Int) < L.length := by omega
        generalize hdf : deafB x.2 = df at HASK
        have HDF := Lib.hid hdf
        clear hx hrow hsz3 hsz hsz2 hrg hask hone hown hB hdf hrow0
        have hll := fun W => heap_alloc_last W (.cells row.toArray 126)
        have HLL := Lib.hid hll
        clear hll
        go_wp2_with (first
          | (with_reducible refine wpList_load_mid rfl 126 _ rfl g (k * 31) rfl row _ HRG.out und135 rfl HSZ.out ?_)
          | (with_reducible refine wpList_store_new rfl 126 _ _ rfl _ row.toArray rfl rfl HSZ2.out ?hs HON.out ?_)
          | (with_reducible refine wpList_load_row rfl 126 _ rfl wr.heap.size rfl 126 row.toArray (0, 0) _ (HLL.out _) und135 rfl HSZ2.out ?_))
        case hs => exact (Hid.out HSZ3).symm
        refine (HASK.out _).mono ?_
        rintro e w6 ⟨rfl, hB5⟩
        have HB5' := Lib.hid (join (al HB.out _) hB5)
        have hc6 : w6.cell? ⟨wr.heap.size, 0, none⟩ = some (.int .i64 x.1) := by
          have := (hB5.block wr.heap.size (by simp)).trans (HLL.out wr)
          rw [cell_of_row _ _ _ _ _ _ this]; exact HR0.out
        have hl6 : wr.heap.size < w6.heap.size := Nat.lt_of_lt_of_le (by simp) hB5.size
        have HO6 := Lib.hid (own_below (own_below HO.out (below1 wr _)) hB5)
        clear hB5
        cases df with
        | false =>
          go_wp2_with fail
          go_roundw
          case rel => exact ⟨k + 1, by omega, by simp, by rw [deafTo_no HXK.out HDF.out]; exact HO6.out, HB5'.out⟩
          case measure => simp [intOf]; omega
        | true =>
          go_wp2_with (at_builtin; refine wpList_append_own _ rfl _ _ 22 rfl w5.heap.size 3 i0 (.int .i64 0) 1 8 A_und31 hi hz0 hz1 hz2 rfl (by decide) _ _ _ rfl (HO6.out.alloc _) ⟨w6.heap.size, 0, none⟩ 1 1 [.int .i64 (x.1 : Int)] rfl rfl ?d1 ?d2 ?d3 ?d4 ?d5 ?_)
          case d1 =>
            intro j u hj
            match j, hj with
            | 0, hj => simp at hj; subst hj; simp [Addr.add]
          case d2 => intro u hu; simp at hu; subst hu; rfl
          case d3 => unfold maxLen; omega
          case d4 => omega
          case d5 => simp; omega
          intro v' w8 hown8 hgrow _
          have hB8 := below_grown (al2 HB5'.out (by omega) _) (HO6.out.alloc _) (Nat.le_refl _) (by simp; omega) hgrow
          have HO8 := Lib.hid hown8
          have HB8 := Lib.hid hB8
          clear hgrow hown8 hB8
          go_wp2_with fail
          go_roundw
          case rel => exact ⟨k + 1, by omega, by simp, by rw [deafTo_yes HXK.out HDF.out]; simpa using HO8.out, HB8.out⟩
          case measure => simp [intOf]; omega
      · obtain rfl : k = L.length := by omega
        clear hown hB
        go_wp2_with fail
        go_ret2
        exact ⟨_, rfl, by rw [HD0.out]; exact own_base HO.out HB5.out.size, join HB5.out HB.out⟩
/-- what Deaf tells -/
def deafL (wd : Int) (xs : List Int) (wind voice : Int) : List Int := if openErr wd xs wind voice = 0 then deafOf (townOf wd xs) wind voice else []
theorem Deaf_any (wd wind voice : Int) (a : Option Addr) (cap : Nat) (xs : List Int) (hl : xs.length ≤ 1000000) (w : World) (hR : RdI w (.slice a xs.length cap) xs) :
    Calls Tryz.prog 20 #[.agg #[.int .i64 wd, .slice a xs.length cap], .agg #[.int .i64 wind, .int .i64 voice]] w fun e w' => ∃ v, e = .returned (.tuple #[v, .int .i64 (openErr wd xs wind voice)]) ∧ w'.ownsRow w.heap.size 3 1 v (deafL wd xs wind voice).length ((deafL wd xs wind voice).map (Value.int .i64)) ∧ Below w.heap.size w w' := by
  by_cases h : openErr wd xs wind voice = 0
  · obtain ⟨h1, h2⟩ := openErr_ok h
    have hne : xs ≠ [] := by rintro rfl; have := (check_len h1).2; simp at this
    obtain ⟨b, o, rfl, _, hI⟩ := rd_ints hR hne
    obtain ⟨t, -, hw', hx, ok⟩ := town_name h1
    subst hw' hx
    have e1 : deafL t.wide t.plots wind voice = deafOf t wind voice := by unfold deafL; rw [if_pos h, townOf_self]
    rw [e1, h]
    exact Deaf_yes t ok wind voice h b o cap w hI
  · have e1 : deafL wd xs wind voice = [] := if_neg h
    rw [e1]
    refine (Deaf_no wd wind voice a cap xs hl w hR h).mono ?_
    rintro e w' ⟨rfl, hB⟩
    exact ⟨_, rfl, own_none _ _ _ _, hB⟩
end Go.Proofs.YtimedmkpenbmkaaGreat
end
section
namespace Go.Proofs.YtimedmkpenbmkaaGreat
open Go.RowKit Go.Shelf
set_option linter.unusedSimpArgs false
set_option linter.unusedVariables false
/-- whether a house hears one stand and no other one -/
def onlyL (s : Nat) : List Bool := (List.replicate 30 false).set s true
def OnlyAt (w : World) (M s : Nat) : Prop := w.heap[M]? = some (.cells ((onlyL s).map Value.bool).toArray 124 (0, 0))
theorem OnlyAt.below {w w' : World} {M s : Nat} (h : OnlyAt w M s) (hB : Below w.heap.size w w') : OnlyAt w' M s := (hB.block _ (Array.getElem?_eq_some_iff.1 h).1).trans h
end Go.Proofs.YtimedmkpenbmkaaGreat
end
section
namespace Go.Proofs.YtimedmkpenbmkaaGreat
open Go.RowKit Go.Shelf
set_option linter.unusedSimpArgs false
set_option linter.unusedVariables false
theorem und154 : Tryz.prog.underlying 131 = some (.map 3 4) := by kernel_rfl
theorem zero4 (w : World) : (zeroValue 4).run Tryz.prog w = .ok (.bool false) w := by kernel_rfl
def SetM (w : World) (r : Nat) (A : List Int) : Prop := ∃ es c, w.heap[r]? = some (.map es c) ∧ (∀ e ∈ es.toList, e.val = .bool true ∧ ∃ h : Int, e.key = .int .i64 h ∧ h ∈ A) ∧ ∀ h ∈ A, ∃ e ∈ es.toList, e.key = .int .i64 h
theorem SetM.lt {w : World} {r : Nat} {A : List Int} (h : SetM w r A) : r < w.heap.size := by
  obtain ⟨es, c, h1, _⟩ := h
  exact (Array.getElem?_eq_some_iff.1 h1).1
theorem SetM.below {w w' : World} {r : Nat} {A : List Int} (h : SetM w r A) (hB : Below w.heap.size w w') : SetM w' r A := by
  have hl := h.lt
  obtain ⟨es, c, h1, h2⟩ := h
  exact ⟨es, c, (hB.block _ hl).trans h1, h2⟩
theorem SetM.congr {w : World} {r : Nat} {A B : List Int} (h : SetM w r A) (e : A = B) : SetM w r B := e ▸ h
theorem find_set (s : Int) : ∀ (es : List MapEntry) (i : Nat), (∀ e ∈ es, ∃ h : Int, e.key = .int .i64 h) → (Instr.findNow (.int .i64) (.int .i64 s) es i = some none ∧ ∀ e ∈ es, e.key ≠ .int .i64 s) ∨ ∃ j e, e ∈ es ∧ e.key = .int .i64 s ∧ es[j]? = some e ∧ Instr.findNow (.int .i64) (.int .i64 s) es i = some (some (i + j, e.val))
  | [], i, _ => .inl ⟨rfl, fun _ h => by simp at h⟩
  | e :: es, i, h => by
    obtain ⟨h0, hk⟩ := h e (by simp)
    rcases find_set s es (i + 1) (fun e' he => h e' (by simp [he])) with ⟨h1, h1'⟩ | ⟨j, e', h1, h2, h3, h4⟩
    · by_cases hs : s = h0
      · refine .inr ⟨0, e, by simp, by rw [hs]; exact hk, rfl, ?_⟩
        simp [Instr.findNow, hk, Instr.sameNow, hs]
      · refine .inl ⟨?_, ?_⟩
        · have : (s == h0) = false := by simpa using hs
          simp [Instr.findNow, hk, Instr.sameNow, this, h1]
        · intro e' he'
          rcases List.mem_cons.1 he' with rfl | he'
          · rw [hk]; intro e2; exact hs (Value.int.inj e2).2.symm
          · exact h1' e' he'
    · by_cases hs : s = h0
      · refine .inr ⟨0, e, by simp, by rw [hs]; exact hk, rfl, ?_⟩
        simp [Instr.findNow, hk, Instr.sameNow, hs]
      · refine .inr ⟨j + 1, e', by simp [h1], h2, by simpa using h3, ?_⟩
        have : (s == h0) = false := by simpa using hs
        simp [Instr.findNow, hk, Instr.sameNow, this, h4]; omega
theorem run_findKeyI {s : Int} {es : List MapEntry} {r : Option (Nat × Value)} (h : Instr.findNow (.int .i64) (.int .i64 s) es 0 = some r) (w : World) : (Instr.findKey 3 (.int .i64 s) es).run Tryz.prog w = .ok r w := by
  unfold Instr.findKey
  simp only [Sem.run_bind, run_underlying und3, Result.andThen_ok, h, Sem.run_pure]
theorem look_set {w : World} {r : Nat} {A : List Int} (h : SetM w r A) (s : Int) :
    (Instr.lookup 131 (.map (some r)) (.int .i64 s) false).run Tryz.prog w = .ok (.bool (decide (s ∈ A))) w := by
  obtain ⟨es, c, h0, hg, hA⟩ := h
  have hgo := run_getObj_map (P := Tryz.prog) h0
  have hck : ∀ e d, (Instr.checkKey e 10000 3 (.int .i64 d)).run Tryz.prog w = .ok () w := fun e d => check3 _ _ _
  unfold Instr.lookup
  rcases find_set s es.toList 0 (fun e he => ⟨(hg e he).2.choose, (hg e he).2.choose_spec.1⟩) with ⟨h1, h1'⟩ | ⟨j, e, h1, h2, h3, h4⟩
  · have hf := run_findKeyI h1 w
    have hn : s ∉ A := fun hs => by obtain ⟨e, he, hk⟩ := hA s hs; exact h1' e he hk
    simp only [Sem.run_bind, run_underlying und154, Result.andThen_ok, hgo, hck, hf, Sem.run_pure, zero4, if_false, decide_eq_false hn]
    simp
  · have hf := run_findKeyI h4 w
    obtain ⟨hv, s', hk, hs'⟩ := hg e h1
    have : s = s' := (Value.int.inj (h2.symm.trans hk)).2
    subst this
    simp only [Sem.run_bind, run_underlying und154, Result.andThen_ok, hgo, hck, hf, Sem.run_pure, hv, if_false, decide_eq_true hs']
    simp
theorem aft_map {w : World} {r : Nat} {o o' : Obj} (h : w.heap[r]? = some o) : Aft r w { w with heap := w.heap.setIfInBounds r o' } ∧ ({ w with heap := w.heap.setIfInBounds r o' } : World).heap[r]? = some o' := by
  have hl := (Array.getElem?_eq_some_iff.1 h).1
  refine ⟨⟨rfl, rfl, rfl, by simp, fun k hk _ => ?_⟩, ?_⟩
  · show (w.heap.setIfInBounds r o')[k]? = _
    rw [Array.getElem?_setIfInBounds_ne (Ne.symm hk)]
  · show (w.heap.setIfInBounds r o')[r]? = _
    rw [Array.getElem?_setIfInBounds_self_of_lt hl]
theorem same_keyI (s : Int) : Instr.sameBits 10000 (.int .i64 s) (.int .i64 s) = true := by simp [Instr.sameBits]
theorem upd_set {w : World} {r : Nat} {A : List Int} (h : SetM w r A) (s : Int) :
    ∃ w', (Instr.mapUpdate 131 (.map (some r)) (.int .i64 s) (.bool true)).run Tryz.prog w = .ok () w' ∧ SetM w' r (A ++ [s]) ∧ Aft r w w' := by
  obtain ⟨es, c, h0, hg, hA⟩ := h
  have hgo := run_getObj_map (P := Tryz.prog) h0
  have hck : ∀ e d, (Instr.checkKey e 10000 3 (.int .i64 d)).run Tryz.prog w = .ok () w := fun e d => check3 _ _ _
  have hset := fun o => Go.MapKept.run_setObj_map (P := Tryz.prog) o h0
  unfold Instr.mapUpdate
  rcases find_set s es.toList 0 (fun e he => ⟨(hg e he).2.choose, (hg e he).2.choose_spec.1⟩) with ⟨h1, h1'⟩ | ⟨j, e, h1, h2, h3, h4⟩
  · have hf := run_findKeyI h1 w
    obtain ⟨a1, a2⟩ := aft_map (o' := .map (es.push ⟨.int .i64 s, .bool true, c⟩) (c + 1)) h0
    refine ⟨_, ?_, ⟨_, _, a2, ?_, ?_⟩, a1⟩
    · simp only [Sem.run_bind, run_underlying und154, Result.andThen_ok, hgo, hck, hf, Sem.run_pure]
      exact hset _
    · intro e he
      rw [Array.toList_push] at he
      rcases List.mem_append.1 he with he | he
      · obtain ⟨x1, x, x2, x3⟩ := hg e he
        exact ⟨x1, x, x2, by simp [x3]⟩
      · rw [List.mem_singleton.1 he]; exact ⟨rfl, s, rfl, by simp⟩
    · intro x hx
      rw [Array.toList_push]
      rcases List.mem_append.1 hx with hx | hx
      · obtain ⟨e, he, hk⟩ := hA x hx
        exact ⟨e, by simp only [List.mem_append]; exact .inl he, hk⟩
      · rw [List.mem_singleton.1 hx]
        exact ⟨⟨.int .i64 s, .bool true, c⟩, by simp, rfl⟩
  · have hf := run_findKeyI h4 w
    have hk : ((es[0 + j]?).map (·.key)).getD (.int .i64 s) = .int .i64 s := by
      rw [Nat.zero_add, ← Array.getElem?_toList, h3]; exact h2
    have hkt : (Instr.keyThatStays (((es[0 + j]?).map (·.key)).getD (.int .i64 s)) (.int .i64 s)).run Tryz.prog w = .ok (.int .i64 s) w := by
      rw [hk]; unfold Instr.keyThatStays; rw [if_pos (same_keyI s)]; rfl
    obtain ⟨a1, a2⟩ := aft_map (o' := .map (es.modify j fun e => { e with key := .int .i64 s, val := .bool true }) c) h0
    obtain ⟨hjl, hje⟩ := List.getElem?_eq_some_iff.1 h3
    refine ⟨_, ?_, ⟨_, _, a2, ?_, ?_⟩, a1⟩
    · simp only [Sem.run_bind, run_underlying und154, Result.andThen_ok, hgo, hck, hf, hkt]
      rw [Nat.zero_add]
      exact hset _
    · intro e' he'
      obtain ⟨i, hi, rfl⟩ := List.getElem_of_mem he'
      have hi' : i < es.size := by simpa using hi
      by_cases hj : j = i
      · subst hj; exact ⟨by simp [Array.getElem_modify], s, by simp [Array.getElem_modify], by simp⟩
      · have : (es.modify j fun e => { e with key := .int .i64 s, val := .bool true }).toList[i] = es.toList[i]'(by simpa using hi') := by simp [Array.getElem_modify, hj]
        rw [this]
        obtain ⟨x1, x, x2, x3⟩ := hg _ (List.getElem_mem (by simpa using hi'))
        exact ⟨x1, x, x2, by simp [x3]⟩
    · intro x hx
      have hs : ∃ e' ∈ es.toList, e'.key = .int .i64 x := by
        rcases List.mem_append.1 hx with hx | hx
        · exact hA x hx
        · rw [List.mem_singleton.1 hx]; exact ⟨e, h1, h2⟩
      obtain ⟨e', he', hk'⟩ := hs
      obtain ⟨i, hi, rfl⟩ := List.getElem_of_mem he'
      have hi' : i < es.size := by simpa using hi
      refine ⟨(es.modify j fun e => { e with key := .int .i64 s, val := .bool true }).toList[i]'(by simpa using hi'), List.getElem_mem _, ?_⟩
      by_cases hj : j = i
      · subst hj
        rw [hje, h2] at hk'
        simp [Array.getElem_modify, hk']
      · have : (es.modify j fun e => { e with key := .int .i64 s, val := .bool true }).toList[i]'(by simpa using hi') = es.toList[i]'hi := by simp [Array.getElem_modify, hj]
        rw [this]; exact hk'
theorem wpList_make {P : Program} {ops : Array Oper} {rest : List Oper} {o : Oper} {a : Act} {w w' : World} {Q : Exit → Act → World → Prop} (hgd : o.guard = none) (t : TypeId) (ho : o.op = .makeMap t none) (v : Value)
    (hr : (Instr.makeMap t none).run P w = .ok v w') (h : wpList P ops Q rest (a.put o.dst v) w') : wpList P ops Q (o :: rest) a w :=
  wpList_plain hgd fun K hK => by
    unfold Oper.wp execOp
    simp only [ho, Option.map_none, Sem.run_bind, hr, Result.andThen_ok, Sem.run_pure]
    exact hK _ _ h
theorem make154 (w : World) : (Instr.makeMap 131 none).run Tryz.prog w = .ok (.map (some w.heap.size)) (w.alloc (.map #[] 0)) := by kernel_rfl
def heardTo (wd : Int) (xs : List Int) (wind voice : Int) (S : List Int) (k : Nat) : List Int := (S.take k).flatMap fun s => housesL wd xs wind voice s
def countTo (A H : List Int) (k : Nat) : Nat := ((H.take k).filter fun h => decide (h ∈ A)).length
theorem heardTo_next {wd : Int} {xs : List Int} {wind voice : Int} {S : List Int} {k : Nat} (h : k < S.length) : heardTo wd xs wind voice S (k + 1) = heardTo wd xs wind voice S k ++ housesL wd xs wind voice (S.getD k 0) := by
  unfold heardTo
  rw [List.take_add_one, List.getElem?_eq_getElem h, List.flatMap_append, List.getD_eq_getElem?_getD, List.getElem?_eq_getElem h]
  simp
theorem countTo_yes {A H : List Int} {k : Nat} (h : k < H.length) (e : decide (H.getD k 0 ∈ A) = true) : countTo A H (k + 1) = countTo A H k + 1 := by
  unfold countTo
  rw [List.getD_eq_getElem?_getD, List.getElem?_eq_getElem h] at e
  rw [List.take_add_one, List.getElem?_eq_getElem h, List.filter_append]
  simp at e
  simp [e]
theorem countTo_no {A H : List Int} {k : Nat} (h : k < H.length) (e : decide (H.getD k 0 ∈ A) = false) : countTo A H (k + 1) = countTo A H k := by
  unfold countTo
  rw [List.getD_eq_getElem?_getD, List.getElem?_eq_getElem h] at e
  rw [List.take_add_one, List.getElem?_eq_getElem h, List.filter_append]
  simp at e
  simp [e]
theorem countTo_le (A H : List Int) (k : Nat) : countTo A H k ≤ k := by
  unfold countTo
  refine Nat.le_trans (List.length_filter_le _ _) ?_
  rw [List.length_take]; omega
theorem housesL_len (wd : Int) (xs : List Int) (wind voice s : Int) : (housesL wd xs wind voice s).length ≤ 30 := by
  unfold housesL
  split
  · rename_i h
    obtain ⟨h1, h2, h3⟩ := atE_ok h
    obtain ⟨t, -, hw', hx, ok⟩ := town_name h1
    subst hw' hx
    rw [townOf_self]
    exact Nat.le_trans (housesTo_len _ _ _ _ _) ok.n30
  · simp
set_option maxHeartbeats 4000000 in
set_option maxRecDepth 100000 in
theorem served_ok (wd wind voice : Int) (a : Option Addr) (cap : Nat) (xs : List Int) (hl : xs.length ≤ 1000000) (ah sa : Option Addr) (ch cs : Nat) (H S : List Int) (hH : H.length ≤ 1000000) (hS : S.length ≤ 1000000) (w : World)
    (hR : RdI w (.slice a xs.length cap) xs) (hRH : RdI w (.slice ah H.length ch) H) (hRS : RdI w (.slice sa S.length cs) S) (hok : ∀ s ∈ S, atE wd xs wind voice s 0 = 0) :
    Calls Tryz.prog 23 #[.agg #[.int .i64 wd, .slice a xs.length cap], .agg #[.int .i64 wind, .int .i64 voice], .slice ah H.length ch, .slice sa S.length cs] w fun e w' =>
      e = .returned (.tuple #[.int .i64 (countTo (heardTo wd xs wind voice S S.length) H H.length), .bool true]) ∧ Below w.heap.size w w' := by
  have HR := Lib.hid hR
  have HH := Lib.hid hRH
  have HS := Lib.hid hRS
  have HOK := Lib.hid hok
  have hb0 : ∀ o1 o2 o3, Below w.heap.size w (((w.alloc o1).alloc o2).alloc o3) := fun o1 o2 o3 => al (al (al (Below.refl _ _) _) _) _
  have hmp : ∀ o1 o2, SetM (((w.alloc o1).alloc o2).alloc (.map #[] 0)) (w.heap.size + 1 + 1) [] := fun o1 o2 => ⟨#[], 0, by have := heap_alloc_last ((w.alloc o1).alloc o2) (.map #[] 0); simpa using this, by simp, by simp⟩
  have hx0 : ∀ o3, (((w.alloc (.cells #[.int .i64 wd, .slice a xs.length cap] 25)).alloc (.cells #[.int .i64 wind, .int .i64 voice] 29)).alloc o3).heap[w.heap.size]? = some (.cells #[.int .i64 wd, .slice a xs.length cap] 25 (0, 0)) := fun o3 => by
    rw [Below.heap_alloc _ _ _ (by simp; omega), Below.heap_alloc _ _ _ (by simp)]; exact heap_alloc_last _ _
  have hx1 : ∀ o1 o3, (((w.alloc o1).alloc (.cells #[.int .i64 wind, .int .i64 voice] 29)).alloc o3).heap[w.heap.size + 1]? = some (.cells #[.int .i64 wind, .int .i64 voice] 29 (0, 0)) := fun o1 o3 => by
    rw [Below.heap_alloc _ _ _ (by simp)]; have := heap_alloc_last (w.alloc o1) (.cells #[.int .i64 wind, .int .i64 voice] 29); simpa using this
  have HB0 := Lib.hid hb0
  have HMP := Lib.hid hmp
  have HX0 := Lib.hid hx0
  have HX1 := Lib.hid hx1
  have hsl : S.length < 9223372036854775807 := by omega
  have hhl : H.length < 9223372036854775807 := by omega
  obtain ⟨A, hA⟩ : ∃ A, A = heardTo wd xs wind voice S S.length := ⟨_, rfl⟩
  rw [← hA]
  have HAQ := Lib.hid hA
  clear hR hRH hRS hok hb0 hmp hx0 hx1 hA
  go_enter Tryz.func23, Tryz.ntmps23
  go_wp2_with (with_reducible refine wpList_make rfl 131 rfl _ (make154 _) ?_)
  obtain ⟨W0, hW0⟩ : ∃ W0 : World, W0 = ((w.alloc (Obj.cells #[Value.int IntKind.i64 wd, Value.slice a xs.length cap] 25)).alloc (Obj.cells #[Value.int IntKind.i64 wind, Value.int IntKind.i64 voice] 29)).alloc (Obj.map #[] 0) := ⟨_, rfl⟩
  have hs0 : W0.heap.size = w.heap.size + 1 + 1 + 1 := by rw [hW0]; simp
  have HS0 := Lib.hid hs0
  have HB := Lib.hid (show Below w.heap.size w W0 by rw [hW0]; exact HB0.out _ _ _)
  have HM0 := Lib.hid (show SetM W0 (w.heap.size + 1 + 1) [] by rw [hW0]; exact HMP.out _ _)
  have HXA := Lib.hid (show W0.heap[w.heap.size]? = some (.cells #[.int .i64 wd, .slice a xs.length cap] 25 (0, 0)) by rw [hW0]; exact HX0.out _)
  have HXB := Lib.hid (show W0.heap[w.heap.size + 1]? = some (.cells #[.int .i64 wind, .int .i64 voice] 29 (0, 0)) by rw [hW0]; exact HX1.out _ _)
  rw [← hW0]
  clear hW0 hs0 HB0 HMP HX0 HX1
  go_loopw [23] (fun i wr => ∃ k : Nat, k ≤ S.length ∧ i = .int .i64 k ∧ SetM wr (w.heap.size + 1 + 1) (heardTo wd xs wind voice S k) ∧ Below (w.heap.size + 1 + 1) W0 wr) (fun i _ => S.length - (intOf i).toNat)
  case atStart => exact ⟨0, Nat.zero_le _, rfl, HM0.out.congr (by unfold heardTo; simp), Below.refl _ _⟩
  case round =>
    obtain ⟨k, hk, rfl, hM, hBk⟩ := hrel
    obtain ⟨wk, rfl⟩ : ∃ wk : World, wk = wr := ⟨_, rfl⟩
    have HM := Lib.hid hM
    have HBk := Lib.hid hBk
    have HBw := Lib.hid (HB.out.trans (hBk.mono (by omega)))
    have hszk : w.heap.size + 1 + 1 + 1 ≤ wk.heap.size := by have := hBk.size; have := HS0.out; omega
    obtain ⟨k0, k1⟩ := blk_cells2 ((hBk.block w.heap.size (by omega)).trans HXA.out)
    obtain ⟨j0, j1⟩ := blk_cells2 ((hBk.block (w.heap.size + 1) (by omega)).trans HXB.out)
    have hl0 : w.heap.size < wk.heap.size := by omega
    have hl1 : w.heap.size + 1 < wk.heap.size := by omega
    clear hM hBk
    by_cases hlt : k < S.length
    · have hne : S ≠ [] := by intro e; rw [e] at hlt; simp at hlt
      obtain ⟨b, o, rfl, -, hIS⟩ := rd_ints (HS.out.below HBw.out) hne
      obtain ⟨s, hs⟩ : ∃ s, s = S.getD k 0 := ⟨_, rfl⟩
      have hcell := hIS.2 k hlt
      have hbl := hIS.1
      rw [← hs] at hcell
      have hat : atE wd xs wind voice s 0 = 0 := HOK.out s (by rw [hs, List.getD_eq_getElem?_getD, List.getElem?_eq_getElem hlt]; simp)
      have hlt' : (k : Int) < S.length := by omega
      have HHO := Lib.hid (Houses_any wd wind voice s a cap xs hl wk (HR.out.below HBw.out))
      rw [hat] at HHO
      have HNX : Hid (heardTo wd xs wind voice S (k + 1) = heardTo wd xs wind voice S k ++ housesL wd xs wind voice s) := Lib.hid (by rw [heardTo_next hlt, hs])
      obtain ⟨L, hL⟩ : ∃ L, L = housesL wd xs wind voice s := ⟨_, rfl⟩
      rw [← hL] at HHO HNX
      clear hIS hs hat
      go_wp2_with fail
      refine HHO.out.mono ?_
      rintro e w5 ⟨v, rfl, hown, hB5⟩
      have HL := Lib.hid (RdI.own rfl rfl hown)
      have HOWN := Lib.hid hown
      have HB5 := Lib.hid hB5
      have hs5 := hB5.size
      have HM5 := Lib.hid (HM.out.below hB5)
      obtain ⟨ob, cp, rfl⟩ := own_slice hown
      have hLl : L.length < 9223372036854775807 := by
        have h1 := housesL_len wd xs wind voice s
        rw [← hL] at h1
        omega
      clear hown hB5 HHO hL
      go_wp2_with fail
      clear k0 k1 j0 j1 hcell
      go_loopw [38] (fun i wr => ∃ j : Nat, j ≤ L.length ∧ i = .int .i64 j ∧ SetM wr (w.heap.size + 1 + 1) (heardTo wd xs wind voice S k ++ L.take j) ∧ Aft (w.heap.size + 1 + 1) w5 wr) (fun i _ => L.length - (intOf i).toNat)
      case atStart => exact ⟨0, Nat.zero_le _, rfl, HM5.out.congr (by simp), Aft.of (Hold.refl _ _)⟩
      case round =>
        obtain ⟨j, hj, rfl, hM, hA⟩ := hrel
        obtain ⟨wj, rfl⟩ : ∃ wj : World, wj = wr := ⟨_, rfl⟩
        have HMj := Lib.hid hM
        have HA := Lib.hid hA
        clear hM hA
        by_cases hjl : j < L.length
        · have hjl' : (j : Int) < L.length := by omega
          have hneL : L ≠ [] := by intro e; rw [e] at hjl; simp at hjl
          have hLj := HL.out.hold HA.out (own_off HOWN.out (QB := w.heap.size + 1 + 1) (by omega))
          obtain ⟨b2, o2, rfl, -, hIL⟩ := rd_ints hLj hneL
          obtain ⟨h, hh⟩ : ∃ h, h = L.getD j 0 := ⟨_, rfl⟩
          have hcell := hIL.2 j hjl
          have hbl2 := hIL.1
          rw [← hh] at hcell
          obtain ⟨w8, hupd, hM8, hA8⟩ := upd_set HMj.out h
          have HUPD := Lib.hid hupd
          have HM8 := Lib.hid (hM8.congr (B := heardTo wd xs wind voice S k ++ L.take (j + 1)) (by rw [List.take_add_one, List.append_assoc, hh, List.getD_eq_getElem?_getD, List.getElem?_eq_getElem hjl]; simp))
          have HA8 := Lib.hid (Hold.trans HA.out hA8)
          clear hupd hM8 hA8 hLj hIL hh
          go_wp2_with (with_reducible refine wpList_upd rfl 131 _ _ _ rfl (.map (some (w.heap.size + 1 + 1))) (.int .i64 h) (.bool true) rfl rfl rfl HUPD.out ?_)
          go_roundw
          case rel => exact ⟨j + 1, by omega, by simp, HM8.out, HA8.out⟩
          case measure => simp [intOf]; omega
        · obtain rfl : j = L.length := by omega
          have HMN := Lib.hid (HMj.out.congr (B := heardTo wd xs wind voice S (k + 1)) (by rw [HNX.out, List.take_length]))
          have HBN := Lib.hid (HBk.out.trans ((HB5.out.mono (by omega)).trans (Aft.low HA.out (Nat.le_refl _) (by omega))))
          go_wp2_with fail
          go_roundw
          case rel => exact ⟨k + 1, by omega, by simp, HMN.out, HBN.out⟩
          case measure => simp [intOf]; omega
    · obtain rfl : k = S.length := by omega
      have hM := HM.out
      rw [← HAQ.out] at hM
      have HM := Lib.hid hM
      have HHk := Lib.hid (HH.out.below HBw.out)
      clear k0 k1 j0 j1 hM
      go_wp2_with fail
      go_loopw [17, 48] (fun n i wr => ∃ j : Nat, j ≤ H.length ∧ i = .int .i64 j ∧ n = .int .i64 (countTo A H j) ∧ wr = wk) (fun _ i _ => H.length - (intOf i).toNat)
      case atStart => exact ⟨0, Nat.zero_le _, rfl, rfl, rfl⟩
      case round =>
        obtain ⟨j, hj, rfl, rfl, rfl⟩ := hrel
        obtain ⟨wk, rfl⟩ : ∃ wk : World, wk = wr := ⟨_, rfl⟩
        by_cases hjl : j < H.length
        · have hjl' : (j : Int) < H.length := by omega
          have hneL : H ≠ [] := by intro e; rw [e] at hjl; simp at hjl
          obtain ⟨b2, o2, rfl, -, hIL⟩ := rd_ints HHk.out hneL
          obtain ⟨h, hh⟩ : ∃ h, h = H.getD j 0 := ⟨_, rfl⟩
          have hcell := hIL.2 j hjl
          have hbl2 := hIL.1
          rw [← hh] at hcell
          have hlook := look_set HM.out h
          have hyes := fun e => countTo_yes (A := A) hjl (by rw [← hh]; exact e)
          have hno := fun e => countTo_no (A := A) hjl (by rw [← hh]; exact e)
          have hle := countTo_le A H j
          generalize hd : decide (h ∈ A) = d at hlook hyes hno
          have HLK := Lib.hid hlook
          have HY := Lib.hid (And.intro hyes hno)
          obtain ⟨n, hn⟩ : ∃ n, n = countTo A H j := ⟨_, rfl⟩
          rw [← hn] at hle HY ⊢
          clear hlook hyes hno hIL hh hd hn
          cases d with
          | true =>
            go_wp2_with (with_reducible refine wpList_look rfl 131 _ _ false rfl (.map (some (w.heap.size + 1 + 1))) (.int .i64 h) _ rfl rfl HLK.out ?_)
            go_roundw
            case rel => exact ⟨j + 1, by omega, by simp, by rw [HY.out.1 rfl]; simp, trivial⟩
            case measure => simp [intOf]; omega
          | false =>
            go_wp2_with (with_reducible refine wpList_look rfl 131 _ _ false rfl (.map (some (w.heap.size + 1 + 1))) (.int .i64 h) _ rfl rfl HLK.out ?_)
            go_roundw
            case rel => exact ⟨j + 1, by omega, by simp, by rw [HY.out.2 rfl], trivial⟩
            case measure => simp [intOf]; omega
        · obtain rfl : j = H.length := by omega
          go_wp2_with fail
          go_ret2
          exact ⟨rfl, HBw.out⟩
end Go.Proofs.YtimedmkpenbmkaaGreat
end
section
namespace Go.Proofs.YtimedmkpenbmkaaGreat
open Go.RowKit Go.Shelf
set_option linter.unusedSimpArgs false
set_option linter.unusedVariables false
/-- a closure that tells a bool of a number, and writes nothing below -/
def Entered (F : FuncId) : Prop := ∀ args w, (callFunc F args).run Tryz.prog w = .ok (.enter F args) w
def AskI (F : FuncId) (E : Value) (p : Int → Bool) (w : World) : Prop := ∀ h : Int, Calls Tryz.prog F #[.int .i64 h, E] w fun e w' => e = .returned (.bool (p h)) ∧ Below w.heap.size w w'
def idxOk (p : Int → Bool) (xs : List Int) (z : Int) : Prop := (z = -1 ∧ ∀ i, i < xs.length → p (xs.getD i 0) = false) ∨ ∃ k : Nat, z = k ∧ k < xs.length ∧ p (xs.getD k 0) = true ∧ ∀ i, i < k → p (xs.getD i 0) = false
set_option maxHeartbeats 1000000 in
set_option maxRecDepth 100000 in
theorem indexFuncI (F : FuncId) (hF : Entered F) (E : Value) (p : Int → Bool) (b o n cap : Nat) (xs : List Int) (hn : n = xs.length) (hl : xs.length ≤ 1000000) (w : World) (hI : Ints w b o xs) (hp : ∀ W, Below w.heap.size w W → AskI F E p W) :
    Calls Tryz.prog 85 #[.slice (some ⟨b, o, none⟩) n cap, .func (.func F) #[] #[E]] w fun e w' => ∃ z : Int, e = .returned (.int .i64 z) ∧ idxOk p xs z ∧ Below w.heap.size w w' := by
  have HI := Lib.hid hI
  have HP := Lib.hid hp
  have HN := Lib.hid hn
  rw [← hn] at hl
  clear hI hp hn
  go_enter Tryz.func85, Tryz.ntmps85
  go_wp2_with fail
  go_loopw [8] (fun i wr => ∃ k : Nat, k ≤ n ∧ i = .int .i64 k ∧ (∀ i, i < k → p (xs.getD i 0) = false) ∧ Below w.heap.size w wr) (fun i _ => n - (intOf i).toNat)
  case atStart => exact ⟨0, Nat.zero_le _, rfl, fun i hi => absurd hi (Nat.not_lt_zero _), Below.refl _ _⟩
  case round =>
    obtain ⟨k, hk, rfl, hA, hB⟩ := hrel
    obtain ⟨wk, rfl⟩ : ∃ wk : World, wk = wr := ⟨_, rfl⟩
    have HA := Lib.hid hA
    have HB := Lib.hid hB
    by_cases hlt : k < n
    · have hlt' : (k : Int) < n := by omega
      have hI := HI.out.below hB HI.out.1
      have hcell := hI.2 k (by have := HN.out; omega)
      have hbl := hI.1
      obtain ⟨h, hh⟩ : ∃ h, h = xs.getD k 0 := ⟨_, rfl⟩
      rw [← hh] at hcell
      have HH := Lib.hid hh
      have HASK := Lib.hid (HP.out wk hB h)
      clear hA hB hI hh
      go_wp2_with fail
      rw [hF, Oper.upon_enter]
      refine HASK.out.mono ?_
      rintro e w5 ⟨rfl, hB5⟩
      have HB5 := Lib.hid (join HB.out hB5)
      clear hB5 hcell hbl
      obtain ⟨d, hd⟩ : ∃ d, d = p h := ⟨_, rfl⟩
      have HD := Lib.hid hd
      rw [← hd]
      clear hd HASK
      cases d with
      | false =>
        go_wp2_with fail
        go_roundw
        case rel =>
          refine ⟨k + 1, by omega, by simp, fun i hi => ?_, HB5.out⟩
          by_cases hik : i = k
          · rw [hik, ← HH.out]; exact HD.out.symm
          · exact HA.out i (by omega)
        case measure => simp [intOf]; omega
      | true =>
        go_wp2_with fail
        go_ret
        exact ⟨k, rfl, .inr ⟨k, rfl, by have := HN.out; omega, by rw [← HH.out]; exact HD.out.symm, HA.out⟩, HB5.out⟩
    · obtain rfl : k = n := by omega
      clear hA hB
      go_wp2_with fail
      go_ret
      exact ⟨-1, rfl, .inl ⟨rfl, by rw [← HN.out]; exact HA.out⟩, HB.out⟩
end Go.Proofs.YtimedmkpenbmkaaGreat
end
section
namespace Go.Proofs.YtimedmkpenbmkaaGreat.Rg
set_option linter.unusedSimpArgs false
set_option linter.unusedVariables false
open Go Go.RowKit Go.Proofs.YtimedmkpenbmkaaGreat.Rs
variable {P : Program} {ops : Array Oper}
/-- a way in which worlds may go on -/
structure IsGr (G : World → World → Prop) : Prop where
  refl : ∀ w, G w w
  trans : ∀ {a b c}, G a b → G b c → G a c
  drew : ∀ w : World, G w { w with drawn := w.drawn + 1 }
/-- what an operation leaves, where it only adds to the memory -/
def GrowAt (G : World → World → Prop) (P : Program) (o : Oper) (a : Act) (w : World) (Φ : Value → World → Prop) : Prop :=
  match (execOp a.eval o).run P w with
  | .ok (.value v) w' => G w w' ∧ Φ v w'
  | .ok .skip w' => G w w' ∧ Φ undef w'
  | .ok (.enter f args) w' => G w w' ∧ Calls P f args w' (fun e w'' => ∃ v, e = .returned v ∧ G w' w'' ∧ Φ v w'')
  | _ => False
/-- what is asked of one operation -/
def StepOk (G : World → World → Prop) (P : Program) (ops : Array Oper) (o : Oper) (a : Act) (w : World) (Φ : Value → World → Prop) : Prop :=
  if Region.wanted o (yielded ops a.tmps) = true then GrowAt G P o a w Φ else Φ undef w
section main
variable {n : Nat} {dl : List (List Nat)} {a0 : Act} {w0 : World} {Q : Exit → Act → World → Prop}
structure Inv (G : World → World → Prop) (ops : Array Oper) (n : Nat) (dl : List (List Nat)) (Spec : Nat → List Value → Value → World → Prop) (a0 : Act) (w0 : World) (V : Nat → Value) (listed : Array Bool) (a : Act) (w : World) : Prop where
  head : HeadInv .any ops n listed
  size : a.tmps.size = a0.tmps.size
  defers : a.defers = a0.defers
  slot : ∀ k, k < n → listed.getD k false = true → ∀ d, dstOf ops k = some d → d < a0.tmps.size → a.tmps[d]? = some (V k)
  other : ∀ d, (∀ k, k < n → listed.getD k false = true → dstOf ops k ≠ some d) → a.tmps[d]? = a0.tmps[d]?
  spec : ∀ k, k < n → listed.getD k false = true → Spec k ((dl.getD k []).map V) (V k) w
  gr : G w0 w
theorem Inv.looks {G : World → World → Prop} {Spec : Nat → List Value → Value → World → Prop} {V : Nat → Value} {listed : Array Bool} {a : Act} {w : World} (inv : Inv G ops n dl Spec a0 w0 V listed a w) {i : Nat} {o : Oper} (hi : ops[i]? = some o) (_hin : i < n) (hiu : listed.getD i false = false)
    (hr : ∀ e ∈ o.after, Region.binds .any e = true → listed.getD e.on false = true)
    (hdl : ∀ k ∈ dl.getD i [], k < n ∧ k ∈ depsOf ops n i)
    (hlook : ∀ k, k < n → ∀ d, dstOf ops k = some d → (d ∈ o.looksAt ops → k ∈ dl.getD i [] ∨ i ∈ depsOf ops n k ∨ i = k) ∧ True)
    (hnd : ∀ j k, j < n → k < n → j ≠ k → ∀ d, dstOf ops k = some d → dstOf ops j ≠ some d) :
    ∀ d ∈ o.looksAt ops, a.tmps[d]? = (canon ops V a0 (dl.getD i [])).tmps[d]? := by
  intro d hd
  have hdep : ∀ k ∈ dl.getD i [], listed.getD k false = true := fun k hk => depsOf_listed inv.head.closed n i (fun o' ho' => by rw [hi] at ho'; cases ho'; exact hr) k (hdl k hk).2
  by_cases hlt : d < a0.tmps.size
  · by_cases hex : ∃ k, k ∈ dl.getD i [] ∧ dstOf ops k = some d
    · obtain ⟨k, hk, hkd⟩ := hex
      rw [inv.slot k (hdl k hk).1 (hdep k hk) d hkd hlt, canon_in V hkd _ _ hk (fun j hj hjk => hnd j k (hdl j hj).1 (hdl k hk).1 hjk d hkd) hlt]
    · rw [canon_out V _ _ (fun k hk e => hex ⟨k, hk, e⟩)]
      refine inv.other d (fun k hk hl e => ?_)
      rcases (hlook k hk d e).1 hd with h | h | h
      · exact hex ⟨k, h, e⟩
      · have := depsOf_listed inv.head.closed n k (fun o' ho' e' he' hb' => inv.head.closed k o' ho' hl e' he' hb') i h
        rw [hiu] at this; cases this
      · subst h; rw [hiu] at hl; cases hl
  · have e1 : a.tmps[d]? = none := Array.getElem?_eq_none (by rw [inv.size]; exact Nat.le_of_not_lt hlt)
    have e2 : (canon ops V a0 (dl.getD i [])).tmps[d]? = none := Array.getElem?_eq_none (by rw [size_canon]; exact Nat.le_of_not_lt hlt)
    rw [e1, e2]
theorem Inv.step {G : World → World → Prop} (hG : IsGr G) {Spec : Nat → List Value → Value → World → Prop} {V : Nat → Value} {listed : Array Bool} {a : Act} {w w' : World} (inv : Inv G ops n dl Spec a0 w0 V listed a w) {i : Nat} {o : Oper} {v : Value} (hi : ops[i]? = some o) (hin : i < n) (hiu : listed.getD i false = false)
    (hri : i ∈ Region.ready .any ops listed)
    (hdl : ∀ j, j < n → ∀ k ∈ dl.getD j [], k < n ∧ k ∈ depsOf ops n j)
    (hnd : ∀ j k, j < n → k < n → j ≠ k → ∀ d, dstOf ops k = some d → dstOf ops j ≠ some d)
    (stable : ∀ i L v w w', Spec i L v w → G w w' → Spec i L v w')
    (hg : G w w') (hs : Spec i ((dl.getD i []).map V) v w') :
    Inv G ops n dl Spec a0 w0 (fun k => if k = i then v else V k) (listed.setIfInBounds i true) (a.put o.dst v) w' := by
  have hisz : i < listed.size := by rw [inv.head.size]; exact (Array.getElem?_eq_some_iff.1 hi).1
  have hdst : dstOf ops i = o.dst := by simp [dstOf, hi]
  have hdep : ∀ k, k < n → (k = i ∨ listed.getD k false = true) → ∀ j ∈ dl.getD k [], j ≠ i := fun k hk hkl j hj e => by
    have hm := (hdl k hk j hj).2
    rw [e] at hm
    have : listed.getD i false = true := by
      rcases hkl with rfl | hkl
      · obtain ⟨_, o', ho', hall⟩ := mem_ready.1 hri
        exact depsOf_listed inv.head.closed n k (fun o'' ho'' => by rw [ho'] at ho''; cases ho''; exact hall) k hm
      · exact depsOf_listed inv.head.closed n k (fun o' ho' e' he' hb' => inv.head.closed k o' ho' hkl e' he' hb') i hm
    rw [hiu] at this; cases this
  have hmap : ∀ k, k < n → (k = i ∨ listed.getD k false = true) → (dl.getD k []).map (fun k => if k = i then v else V k) = (dl.getD k []).map V := fun k hk hkl =>
    List.map_congr_left fun j hj => by rw [if_neg (hdep k hk hkl j hj)]
  refine ⟨inv.head.set hri hin, ?_, ?_, fun k hk hl d hd hlt => ?_, fun d hd => ?_, fun k hk hl => ?_, hG.trans inv.gr hg⟩
  · rw [← inv.size]; cases o.dst <;> simp [Act.put]
  · rw [← inv.defers]; cases o.dst <;> rfl
  · by_cases hki : k = i
    · subst hki
      rw [hdst] at hd
      rw [if_pos rfl, hd]
      simp [Act.put, inv.size, hlt]
    · rw [if_neg hki]
      rw [getD_set_ne false (fun e => hki e.symm)] at hl
      rw [← inv.slot k hk hl d hd hlt]
      cases ho : o.dst with
      | none => rfl
      | some d' =>
        simp only [Act.put]
        exact Array.getElem?_setIfInBounds_ne (fun e => hnd i k hin hk (fun e => hki e.symm) d hd (by rw [hdst, ho, e]))
  · have h1 : dstOf ops i ≠ some d := hd i hin (by simp [hisz])
    rw [hdst] at h1
    rw [← inv.other d (fun k hk hl e => by
      by_cases hki : k = i
      · subst hki; exact h1 (by rw [← hdst]; exact e)
      · exact hd k hk (by rw [getD_set_ne false (fun e => hki e.symm)]; exact hl) e)]
    cases ho : o.dst with
    | none => rfl
    | some d' => simp only [Act.put]; exact Array.getElem?_setIfInBounds_ne (fun e => h1 (by rw [ho, e]))
  · by_cases hki : k = i
    · subst hki
      rw [hmap k hk (.inl rfl)]
      simp only [if_true]
      exact hs
    · rw [getD_set_ne false (fun e => hki e.symm)] at hl
      rw [hmap k hk (.inr hl)]
      simp only [if_neg hki]
      exact stable _ _ _ _ _ (inv.spec k hk hl) hg
theorem head_all {G : World → World → Prop} (hG : IsGr G) {Spec : Nat → List Value → Value → World → Prop} (g : Nat)
    (hsel : ∀ (j : Nat) (o : Oper) cs b, ops[j]? = some o → o.op ≠ .select cs b) (hn : n ≤ ops.size)
    (hsink : n = ops.size ∨ (Region.sinkB .any ops n = true ∧ Region.chainB .any ops n = true))
    (hlow : ∀ i, i < n → ∀ o, ops[i]? = some o → ∀ e ∈ o.after, Region.binds .any e = true → e.on < i)
    (hdl : ∀ j, j < n → ∀ k ∈ dl.getD j [], k < n ∧ k ∈ depsOf ops n j)
    (hlook : ∀ i, i < n → ∀ o, ops[i]? = some o → ∀ k, k < n → ∀ d, dstOf ops k = some d → (d ∈ o.looksAt ops → k ∈ dl.getD i [] ∨ i ∈ depsOf ops n k ∨ i = k) ∧ True)
    (hnd : ∀ j k, j < n → k < n → j ≠ k → ∀ d, dstOf ops k = some d → dstOf ops j ≠ some d)
    (stable : ∀ i L v w w', Spec i L v w → G w w' → Spec i L v w')
    (step : ∀ i o V w, ops[i]? = some o → i < n → G w0 w → (∀ k ∈ dl.getD i [], Spec k ((dl.getD k []).map V) (V k) w) → StepOk G P ops o (canon ops V a0 (dl.getD i [])) w (Spec i ((dl.getD i []).map V)))
    (fin : ∀ V listed a w, Inv G ops n dl Spec a0 w0 V listed a w → (∀ k, k < n → listed.getD k false = true) → wpAny P .any ops Q g listed a w) :
    ∀ (f : Nat) (V : Nat → Value) (listed : Array Bool) (a : Act) (w : World), left n listed = f → Inv G ops n dl Spec a0 w0 V listed a w → wpAny P .any ops Q (f + g) listed a w := by
  intro f
  induction f with
  | zero => intro V listed a w hf inv; rw [Nat.zero_add]; exact fin V listed a w inv (left_zero hf)
  | succ f ih =>
    intro V listed a w hf inv
    have hun : ∃ i, i < n ∧ listed.getD i false = false ∧ ∀ j, j < i → listed.getD j false = true := by
      have hex : ∃ i, i < n ∧ listed.getD i false = false := by
        apply Classical.byContradiction
        intro hno
        have : left n listed = 0 := by
          unfold left
          rw [List.length_eq_zero_iff, List.filter_eq_nil_iff]
          intro i hi
          cases hv : listed.getD i false with
          | true => simp
          | false => exact absurd ⟨i, List.mem_range.1 hi, hv⟩ hno
        omega
      obtain ⟨i, h1, h2⟩ := hex
      induction i using Nat.strongRecOn with
      | _ i ihi =>
        by_cases h3 : ∀ j, j < i → listed.getD j false = true
        · exact ⟨i, h1, h2, h3⟩
        · simp only [Classical.not_forall] at h3
          obtain ⟨j, hj, hj2⟩ := h3
          exact ihi j hj (by omega) (by simpa using hj2)
    obtain ⟨i0, hi0, hi0u, hi0m⟩ := hun
    have hready0 : i0 ∈ Region.ready .any ops listed := by
      rw [mem_ready]
      have hlt : i0 < ops.size := by omega
      refine ⟨getD_in (by rw [inv.head.size]; exact hlt) hi0u, ops[i0], Array.getElem?_eq_getElem hlt, fun e he hb => hi0m _ (hlow i0 hi0 _ (Array.getElem?_eq_getElem hlt) e he hb)⟩
    rw [show f + 1 + g = (f + g) + 1 by omega]
    refine ⟨fun h => (by rw [h] at hready0; cases hready0), fun i hi => ?_⟩
    obtain ⟨hiu, o, ho, hall⟩ := mem_ready.1 hi
    have hiu' := getD_both hiu
    have hilt : i < ops.size := (Array.getElem?_eq_some_iff.1 ho).1
    have hin : i < n := by
      rcases hsink with h | ⟨h1, h2⟩
      · omega
      · by_cases hns : n < ops.size
        · rcases Nat.lt_or_ge i n with h | h
          · exact h
          · exact absurd hi (tail_waits h1 h2 hns inv.head _ i0 rfl hi0 (getD_in (by rw [inv.head.size]; omega) hi0u) i h)
        · omega
    have hso := step i o V w ho hin inv.gr (fun k hk => inv.spec k (hdl i hin k hk).1 (depsOf_listed inv.head.closed n i (fun o' ho' => by rw [ho] at ho'; cases ho'; exact hall) k (hdl i hin k hk).2))
    have hlk := inv.looks ho hin hiu' hall (hdl i hin) (hlook i hin o ho) hnd
    have hw := wanted_congr (ops := ops) o hlk
    have hex := exec_congr (ops := ops) o (fun cs b => hsel i o cs b ho) hlk
    have hnext : ∀ v w', G w w' → Spec i ((dl.getD i []).map V) v w' → wpAny P .any ops Q (f + g) (listed.setIfInBounds i true) (a.put o.dst v) w' := fun v w' hg hs =>
      ih _ _ _ _ (by have := left_set (n := n) hin (by rw [inv.head.size]; exact hilt) hiu'; omega) (inv.step hG ho hin hiu' hi hdl hnd stable hg hs)
    unfold StepOk at hso
    rw [← hw] at hso
    unfold wpOp
    simp only [ho]
    by_cases hwt : Region.wanted o (yielded ops a.tmps) = true
    · rw [if_pos hwt] at hso ⊢
      refine .inl ?_
      unfold GrowAt at hso
      unfold Oper.wp
      rw [← hex] at hso
      generalize (execOp a.eval o).run P w = r at hso
      cases r with
      | halt x w' => exact hso.elim
      | ok nx w' =>
        cases nx with
        | value v => exact hnext v w' hso.1 hso.2
        | skip => exact hnext undef w' hso.1 hso.2
        | enter fn args =>
          refine hso.2.mono ?_
          rintro e w'' ⟨v, rfl, h1, h2⟩
          exact hnext v w'' (hG.trans hso.1 h1) h2
        | _ => exact hso.elim
    · rw [if_neg hwt] at hso ⊢
      exact hnext undef w (hG.refl _) hso
/-- **THE REGION**, by what each operation leaves -/
theorem region_spec {G : World → World → Prop} (hG : IsGr G) {id : Nat} {l : List Oper} {w : World} {a0 : Act} {Q : Exit → Act → World → Prop} (n : Nat) (dl : List (List Nat)) (hm : P.follows .mixedOrders = true) (hB : shapeB l.toArray n dl = true)
    (Spec : Nat → List Value → Value → World → Prop) (stable : ∀ i L v w w', Spec i L v w → G w w' → Spec i L v w')
    (step : ∀ i o V w', l[i]? = some o → i < n → G w w' → (∀ k ∈ dl.getD i [], Spec k ((dl.getD k []).map V) (V k) w') → StepOk G P l.toArray o (canon l.toArray V a0 (dl.getD i [])) w' (Spec i ((dl.getD i []).map V)))
    (fin : ∀ V w', G w w' → (∀ k, k < n → Spec k ((dl.getD k []).map V) (V k) w') → wpList P l.toArray Q (l.drop n) (canon l.toArray V a0 (List.range n)) w') :
    (Code.region id l.toArray true).wp P Q a0 w := by
  simp only [shapeB, Bool.and_eq_true, decide_eq_true_eq, Bool.or_eq_true] at hB
  obtain ⟨⟨⟨⟨⟨hsel, hn⟩, hdlen⟩, hsink⟩, hall⟩, hseq⟩ := hB
  rw [List.all_eq_true] at hall
  have hops : ∀ i, i < n → ∃ o, l.toArray[i]? = some o ∧ (∀ e ∈ o.after, Region.binds .any e = true → e.on < i) ∧ (∀ k ∈ dl.getD i [], k < n ∧ k ∈ depsOf l.toArray n i) ∧
      (∀ k, k < n → ∀ d, dstOf l.toArray k = some d → (d ∈ o.looksAt l.toArray → k ∈ dl.getD i [] ∨ i ∈ depsOf l.toArray n k ∨ i = k) ∧ (k ≠ i → dstOf l.toArray i ≠ some d)) := by
    intro i hi
    have h := hall i (List.mem_range.2 hi)
    cases ho : l.toArray[i]? with
    | none => rw [ho] at h; cases h
    | some o =>
      rw [ho] at h
      simp only [Bool.and_eq_true, List.all_eq_true] at h
      obtain ⟨⟨h1, h2⟩, h3⟩ := h
      refine ⟨o, rfl, fun e he hb => ?_, fun k hk => ?_, fun k hk d hd => ?_⟩
      · have := h1 e (by simpa using he)
        rw [hb] at this; simpa using this
      · have := h2 k hk
        simpa using this
      · have := h3 k (List.mem_range.2 hk)
        rw [hd] at this
        simp only [Bool.and_eq_true, Bool.or_eq_true, Bool.not_eq_true', beq_iff_eq, decide_eq_true_eq, List.contains_iff_mem] at this
        refine ⟨fun hm => ?_, fun hne => ?_⟩
        · rcases this.1 with ((h | h) | h) | h
          · rw [show (o.looksAt l.toArray).contains d = true from List.contains_iff_mem.2 hm] at h; cases h
          · exact .inl h
          · exact .inr (.inl h)
          · exact .inr (.inr h)
        · rcases this.2 with h | h
          · exact absurd h hne
          · exact h
  have hnd : ∀ j k, j < n → k < n → j ≠ k → ∀ d, dstOf l.toArray k = some d → dstOf l.toArray j ≠ some d := fun j k hj hk hne d hd => by
    obtain ⟨o, _, _, _, h⟩ := hops j hj
    exact (h k hk d hd).2 (fun e => hne e.symm)
  refine wp_region_any hm ?_
  have inv0 : Inv G l.toArray n dl Spec a0 w (fun _ => undef) (Array.replicate l.toArray.size false) a0 { w with drawn := w.drawn + 1 } :=
    ⟨⟨by simp, fun j oj _ hl => (by rw [getD_replicate_false] at hl; cases hl), fun t _ ht => getD_in (by simpa using ht) (getD_replicate_false _ _)⟩, rfl, rfl,
      fun k _ hl => (by rw [getD_replicate_false] at hl; cases hl), fun _ _ => rfl, fun k _ hl => (by rw [getD_replicate_false] at hl; cases hl), hG.drew _⟩
  have hleft : left n (Array.replicate l.toArray.size false) = n := by
    unfold left
    rw [List.filter_eq_self.2 (fun i _ => by rw [getD_replicate_false]; rfl)]
    simp
  have := head_all hG (P := P) (Q := Q) (Spec := Spec) (dl := dl) (a0 := a0) (w0 := w) (l.toArray.size - n) (Region.noSelect_spec hsel) hn (by rcases hsink with h | h; exact .inl h; exact .inr h)
    (fun i hi o ho e he hb => by obtain ⟨o', ho', h1, _⟩ := hops i hi; rw [ho] at ho'; cases ho'; exact h1 e he hb)
    (fun j hj => by obtain ⟨_, _, _, h, _⟩ := hops j hj; exact h)
    (fun i hi o ho k hk d hd => by obtain ⟨o', ho', _, _, h⟩ := hops i hi; rw [ho] at ho'; cases ho'; exact ⟨(h k hk d hd).1, trivial⟩)
    hnd stable (fun i o V w' ho => step i o V w' (by simpa using ho)) ?_ n _ _ _ _ hleft inv0
  · rwa [show n + (l.toArray.size - n) = l.toArray.size by omega] at this
  · intro V listed a w' inv hl
    have hld : listed = ((List.range l.toArray.size).map (fun i => decide (i < n))).toArray := by
      apply Array.ext
      · rw [inv.head.size]; simp
      · intro i h1 h2
        have hi : i < l.toArray.size := by rw [inv.head.size] at h1; exact h1
        have e2 : ((List.range l.toArray.size).map (fun i => decide (i < n))).toArray[i] = decide (i < n) := by simp
        rw [e2]
        by_cases hin : i < n
        · have := hl i hin
          simp only [hin, decide_true]
          simpa [h1] using this
        · have := inv.head.tail i (by omega) hi
          simp only [hin, decide_false]
          simpa [h1] using this
    have hact : a = canon l.toArray V a0 (List.range n) := by
      have ht : a.tmps = (canon l.toArray V a0 (List.range n)).tmps := by
        apply Array.ext_getElem?
        intro d
        by_cases hlt : d < a0.tmps.size
        · by_cases hex : ∃ k, k < n ∧ dstOf l.toArray k = some d
          · obtain ⟨k, hk, hd⟩ := hex
            rw [inv.slot k hk (hl k hk) d hd hlt, canon_in V hd _ _ (List.mem_range.2 hk) (fun j hj hjk => hnd j k (List.mem_range.1 hj) hk hjk d hd) hlt]
          · rw [inv.other d (fun k hk _ e => hex ⟨k, hk, e⟩), canon_out V _ _ (fun k hk e => hex ⟨k, List.mem_range.1 hk, e⟩)]
        · have e1 : a.tmps[d]? = none := Array.getElem?_eq_none (by rw [inv.size]; exact Nat.le_of_not_lt hlt)
          have e2 : (canon l.toArray V a0 (List.range n)).tmps[d]? = none := Array.getElem?_eq_none (by rw [size_canon]; exact Nat.le_of_not_lt hlt)
          rw [e1, e2]
      have hdf : a.defers = (canon l.toArray V a0 (List.range n)).defers := by rw [inv.defers, defers_canon]
      obtain ⟨t, d⟩ := a
      generalize canon l.toArray V a0 (List.range n) = b at ht hdf
      obtain ⟨t', d'⟩ := b
      dsimp only at ht hdf
      rw [ht, hdf]
    have hf := fin V w' inv.gr (fun k hk => inv.spec k hk (hl k hk))
    rw [← hact] at hf
    have hdl : (l.drop n).length = l.toArray.size - n := by simp
    have hsq := wpAny_of_seq (P := P) (md := .any) (Q' := Q) (l.drop n) n listed a w' (fun j => by simp [List.getElem?_drop]) (by rw [hdl, hld]; exact hseq) hf
    rwa [hdl] at hsq
/-- what an operation's operand holds: the value of an operation that it knows of, else what the slot held -/
def GrowL (G : World → World → Prop) (P : Program) (o : Oper) (ρ : Operand → Value) (w : World) (Φ : Value → World → Prop) : Prop :=
  match (execOp ρ o).run P w with
  | .ok (.value v) w' => G w w' ∧ Φ v w'
  | .ok .skip w' => G w w' ∧ Φ undef w'
  | .ok (.enter f args) w' => G w w' ∧ Calls P f args w' (fun e w'' => ∃ v, e = .returned v ∧ G w' w'' ∧ Φ v w'')
  | _ => False
theorem GrowL.value {G : World → World → Prop} {o : Oper} {ρ : Operand → Value} {w w' : World} {v : Value} {Φ : Value → World → Prop} (h : (execOp ρ o).run P w = .ok (.value v) w') (hg : G w w') (hv : Φ v w') : GrowL G P o ρ w Φ := by
  unfold GrowL; rw [h]; exact ⟨hg, hv⟩
theorem GrowL.call {G : World → World → Prop} (hG : IsGr G) {o : Oper} {ρ : Operand → Value} {w : World} {Φ : Value → World → Prop} {f : FuncId} {args : Array Value} (h : (execOp ρ o).run P w = .ok (.enter f args) w) (hc : Calls P f args w (fun e w'' => ∃ v, e = .returned v ∧ G w w'' ∧ Φ v w'')) : GrowL G P o ρ w Φ := by
  unfold GrowL; rw [h]; exact ⟨hG.refl _, hc⟩
/-- each operation by what it leaves, which may be told of what the others left -/
def genSteps (G : World → World → Prop) (P : Program) (ds : List (Option Nat)) (a0 : Act) (w : World) (dl0 : List (List Nat)) (Sp : Nat → List Value → Value → World → Prop) : List Oper → Nat → List (List Nat) → Prop
  | o :: l, i, d :: dl => (∀ (V : Nat → Value) w', G w w' → (∀ k ∈ d, Sp k ((dl0.getD k []).map V) (V k) w') → if wantB o V = true then GrowL G P o (Rs.look ds V a0 d) w' (Sp i (d.map V)) else Sp i (d.map V) undef w') ∧ genSteps G P ds a0 w dl0 Sp l (i + 1) dl
  | _, _, _ => True
theorem genSteps_get {G : World → World → Prop} {ds : List (Option Nat)} {a0 : Act} {w : World} {dl0 : List (List Nat)} {Sp : Nat → List Value → Value → World → Prop} : ∀ (l : List Oper) (i : Nat) (dl : List (List Nat)), genSteps G P ds a0 w dl0 Sp l i dl → ∀ (j : Nat) (o : Oper) (d : List Nat), l[j]? = some o → dl[j]? = some d →
    ∀ (V : Nat → Value) w', G w w' → (∀ k ∈ d, Sp k ((dl0.getD k []).map V) (V k) w') → if wantB o V = true then GrowL G P o (Rs.look ds V a0 d) w' (Sp (i + j) (d.map V)) else Sp (i + j) (d.map V) undef w'
  | [], _, _, _, j, o, d, ho, _ => by simp at ho
  | _ :: _, _, [], _, j, o, d, _, hd => by simp at hd
  | o' :: l, i, d' :: dl, h, 0, o, d, ho, hd => by simp at ho hd; subst ho; subst hd; exact h.1
  | o' :: l, i, d' :: dl, h, j + 1, o, d, ho, hd => by
    have := genSteps_get l (i + 1) dl h.2 j o d (by simpa using ho) (by simpa using hd)
    rwa [show i + (j + 1) = i + 1 + j by omega]
/-- **A region by what each of its first operations leaves**, in whatever order. -/
theorem region_gen {G : World → World → Prop} (hG : IsGr G) {id : Nat} {l : List Oper} {w : World} {a0 : Act} {Q : Exit → Act → World → Prop} (n : Nat) (dl : List (List Nat)) (ds : List (Option Nat)) (Sp : Nat → List Value → Value → World → Prop) (hm : P.follows .mixedOrders = true) (hB : shapeB l.toArray n dl = true) (hS : slotsB l.toArray n a0.tmps.size dl ds = true)
    (stable : ∀ i L v w w', Sp i L v w → G w w' → Sp i L v w')
    (step : genSteps G P ds a0 w dl Sp l 0 dl)
    (fin : ∀ V w', G w w' → (∀ k, k < n → Sp k ((dl.getD k []).map V) (V k) w') → wpList P l.toArray Q (l.drop n) (canon l.toArray V a0 (List.range n)) w') :
    (Code.region id l.toArray true).wp P Q a0 w := by
  have hB' := hB
  simp only [shapeB, Bool.and_eq_true, decide_eq_true_eq] at hB'
  obtain ⟨⟨⟨⟨⟨hsel, hn⟩, hdlen⟩, _⟩, hall⟩, _⟩ := hB'
  rw [List.all_eq_true] at hall
  unfold slotsB at hS
  rw [List.all_eq_true] at hS
  have hdst : ∀ i, i < n → dstOf l.toArray i = ds.getD i none ∧ ∀ d, dstOf l.toArray i = some d → d < a0.tmps.size := fun i hi => by
    have h := hS i (List.mem_range.2 hi)
    simp only [Bool.and_eq_true, beq_iff_eq] at h
    refine ⟨h.1.1, fun d hd => ?_⟩
    have h2 := h.1.2
    rw [← h.1.1, hd] at h2
    simpa using h2
  refine region_spec hG n dl hm hB Sp stable (fun i o V w' ho hi hg hs => ?_) fin
  have hst := genSteps_get l 0 dl step i o (dl.getD i []) ho (by simp [List.getElem?_eq_getElem (show i < dl.length by omega)]) V w' hg hs
  rw [Nat.zero_add] at hst
  have hio := hall i (List.mem_range.2 hi)
  have hoo : l.toArray[i]? = some o := by simpa using ho
  rw [hoo] at hio
  simp only [Bool.and_eq_true, List.all_eq_true] at hio
  obtain ⟨⟨_, h2⟩, h3⟩ := hio
  have hdl : ∀ k ∈ dl.getD i [], k < n := fun k hk => by have := h2 k hk; simp only [Bool.and_eq_true, decide_eq_true_eq] at this; exact this.1
  have hnd : ∀ j k, j < n → k < n → j ≠ k → ∀ d, dstOf l.toArray k = some d → dstOf l.toArray j ≠ some d := fun j k hj hk hne d hd => by
    have h := hall j (List.mem_range.2 hj)
    cases hoj : l.toArray[j]? with
    | none => rw [hoj] at h; cases h
    | some oj =>
      rw [hoj] at h
      simp only [Bool.and_eq_true, List.all_eq_true] at h
      have := h.2 k (List.mem_range.2 hk)
      rw [hd] at this
      simp only [Bool.and_eq_true, Bool.or_eq_true, beq_iff_eq, decide_eq_true_eq] at this
      rcases this.2 with h | h
      · exact absurd h.symm hne
      · exact h
  have hslot : ∀ t, (canon l.toArray V a0 (dl.getD i [])).eval (.tmp t) = Rs.look ds V a0 (dl.getD i []) (.tmp t) := fun t => by
    unfold Rs.look
    simp only
    split
    · rename_i k hk
      have hkm := List.mem_of_find?_eq_some hk
      have hkd := List.find?_some hk
      simp only [beq_iff_eq] at hkd
      have hkn := hdl k hkm
      have e : dstOf l.toArray k = some t := by rw [(hdst k hkn).1]; exact hkd
      have := canon_in (ops := l.toArray) V e (dl.getD i []) a0 hkm (fun j hj hjk => hnd j k (hdl j hj) hkn hjk t e) ((hdst k hkn).2 t e)
      simp only [Act.eval, Array.getD_eq_getD_getElem?, this, Option.getD_some]
    · rename_i hk
      have hno : ∀ k ∈ dl.getD i [], dstOf l.toArray k ≠ some t := fun k hkm e => by
        have := List.find?_eq_none.1 hk k hkm
        rw [(hdst k (hdl k hkm)).1] at e
        rw [e] at this; exact this (by simp)
      have := canon_out (ops := l.toArray) V (d := t) (dl.getD i []) a0 hno
      simp only [Act.eval, Array.getD_eq_getD_getElem?, this]
  have hex : execOp (canon l.toArray V a0 (dl.getD i [])).eval o = execOp (Rs.look ds V a0 (dl.getD i [])) o :=
    execOp_congr o (fun c b => Region.noSelect_spec hsel i o c b hoo) fun x _ => by
      cases x with
      | tmp t => exact hslot t
      | _ => rfl
  have hwant : Region.wanted o (yielded l.toArray (canon l.toArray V a0 (dl.getD i [])).tmps) = wantB o V := by
    unfold Region.wanted wantB
    cases hgd : o.guard with
    | none => rfl
    | some gb =>
      obtain ⟨g, b⟩ := gb
      have h := hS i (List.mem_range.2 hi)
      rw [hoo] at h
      simp only [Option.bind_some, hgd, Bool.and_eq_true, List.contains_iff_mem] at h
      obtain ⟨hgm, hgs⟩ := h.2
      obtain ⟨t, ht⟩ := Option.isSome_iff_exists.1 hgs
      have hgn := hdl g hgm
      have hv := canon_in (ops := l.toArray) V ht (dl.getD i []) a0 hgm (fun j hj hjk => hnd j g (hdl j hj) hgn hjk t ht) ((hdst g hgn).2 t ht)
      have hy : yielded l.toArray (canon l.toArray V a0 (dl.getD i [])).tmps g = match V g with | .bool x => some x | _ => none := by
        unfold yielded
        unfold dstOf at ht
        simp only [ht, Option.bind_some, hv]
        cases V g <;> rfl
      simp only [hy]
      cases V g <;> simp
  unfold StepOk
  rw [hwant]
  by_cases hw : wantB o V = true
  · rw [if_pos hw] at hst ⊢
    unfold GrowL at hst
    unfold GrowAt
    rw [hex]
    exact hst
  · rw [if_neg hw] at hst ⊢
    exact hst
end main
end Go.Proofs.YtimedmkpenbmkaaGreat.Rg
end
