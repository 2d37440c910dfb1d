import Derived.Test.YtimedmkpenbmkaaHo
namespace Go.Proofs.Ytimedmkpenbmkaa
open Go.RowKit Go.Shelf
set_option linter.unusedSimpArgs false
set_option linter.unusedVariables false

/-- the stands that a house hears -/
def standsTo (t : Hr.Town) (wind voice : Int) (h k : Nat) : List Int := ((List.range k).filter fun s => hearB t wind voice h s).map fun (p : Nat) => (p : Int)
def standsOf (t : Hr.Town) (wind voice : Int) (h : Nat) : List Int := standsTo t wind voice h 30
theorem standsTo_yes {t : Hr.Town} {wind voice : Int} {h k : Nat} (e : hearB t wind voice h k = true) : standsTo t wind voice h (k + 1) = standsTo t wind voice h k ++ [(k : Int)] := by
  unfold standsTo; rw [List.range_succ, List.filter_append]; simp [e]
theorem standsTo_no {t : Hr.Town} {wind voice : Int} {h k : Nat} (e : hearB t wind voice h k = false) : standsTo t wind voice h (k + 1) = standsTo t wind voice h k := by
  unfold standsTo; rw [List.range_succ, List.filter_append]; simp [e]
theorem standsTo_len (t : Hr.Town) (wind voice : Int) (h k : Nat) : (standsTo t wind voice h k).length ≤ k := by
  unfold standsTo
  have := List.length_filter_le (fun s => hearB t wind voice h s) (List.range k)
  simp at this ⊢; omega

set_option maxHeartbeats 1000000 in
set_option maxRecDepth 100000 in
theorem Stands_no (wd wind voice s : Int) (a : Option Addr) (cap : Nat) (xs : List Int) (hl : xs.length ≤ 1000000) (w : World) (hR : RdI w (.slice a xs.length cap) xs) (h : atE wd xs wind voice s 1 ≠ 0) :
    Calls Try.prog 40 #[.agg #[.int .i64 wd, .slice a xs.length cap], .agg #[.int .i64 wind, .int .i64 voice], .int .i64 s] w fun e w' => e = .returned (.tuple #[.slice none 0 0, .int .i64 (atE wd xs wind voice s 1)]) ∧ Below w.heap.size w w' := by
  have HB := Lib.hid (al (below1 w (.cells #[.int .i64 wd, .slice a xs.length cap] 24)) (.cells #[.int .i64 wind, .int .i64 voice] 27))
  have HP := Lib.hid (openAt_bad wd wind voice s 1 a cap xs hl _ (hR.below HB.out) h)
  unfold zeroWork at HP
  generalize atE wd xs wind voice s 1 = E at h HP ⊢
  have h1 : (E != 0) = true := by simpa using h
  clear h hR
  go_enter Try.func40, Try.ntmps40
  go_wp2_with fail
  refine HP.out.mono ?_
  rintro e w1 ⟨rfl, hB⟩
  have HB1 := Lib.hid (join HB.out hB)
  clear hB HP
  go_wp2
  go_ret2
  exact ⟨rfl, by first | (with_reducible exact al HB1.out _) | (with_reducible refine setc6 HB1.out ?_; omega)⟩

def spSd (wk : Value) (t : Hr.Town) (wind voice : Int) (h : Nat) : Nat → List Value → Value → World → Prop
  | 0, _, v, _ => v = wk
  | 1, _, v, _ => v = wk
  | 2, _, v, w => ∃ vs, v = .agg vs ∧ TabsTo t wind 30 w vs
  | 3, _, v, _ => v = .int .i64 h
  | 4, _, v, _ => v = .agg ((ears t wind voice h).map Value.bool).toArray
  | 5, _, v, _ => v = .int .i64 0
  | _, _, _, _ => False
theorem spSd_stable (wk : Value) (t : Hr.Town) (wind voice : Int) (h : Nat) : ∀ i L v w w', spSd wk t wind voice h i L v w → Rs.Gr w w' → spSd wk t wind voice h i L v w' := by
  intro i L v w w' h hg
  match i with
  | 0 => exact h
  | 1 => exact h
  | 2 => obtain ⟨vs, h1, h2⟩ := h; exact ⟨vs, h1, h2.below hg⟩
  | 3 => exact h
  | 4 => exact h
  | 5 => exact h

set_option maxHeartbeats 2000000 in
set_option maxRecDepth 100000 in
theorem Stands_yes (t : Hr.Town) (ok : t.Ok) (wind voice : Int) (h : Nat) (he : atE t.wide t.plots wind voice h 1 = 0) (b o cap : Nat) (w : World) (hI : Ints w b o t.plots) :
    Calls Try.prog 40 #[.agg #[.int .i64 t.wide, .slice (some ⟨b, o, none⟩) t.plots.length cap], .agg #[.int .i64 wind, .int .i64 voice], .int .i64 h] w fun e w' => ∃ v, e = .returned (.tuple #[v, .int .i64 0]) ∧ w'.ownsRow w.heap.size 3 1 v (standsOf t wind voice h).length ((standsOf t wind voice h).map (Value.int .i64)) ∧ Below w.heap.size w w' := by
  obtain ⟨i0, hi, hz0, hz1, hz2⟩ := info_parts A_info3
  obtain ⟨hc, ha, hp⟩ := atE_ok he
  obtain ⟨w0, w4, v1, v40⟩ := wind_ok ha
  obtain ⟨s', hs', hs, hst⟩ := plot_ok hp
  obtain rfl : h = s' := by omega
  have h30 : t.plots.length ≤ 30 := ok.n30
  have HB := Lib.hid (al (below1 w (.cells #[.int .i64 t.wide, .slice (some ⟨b, o, none⟩) t.plots.length cap] 24)) (.cells #[.int .i64 wind, .int .i64 voice] 27))
  have hIb := hI.below HB.out hI.1
  have HP := Lib.hid (openAt_ok t.wide wind voice h 1 b o cap t.plots _ ⟨fun _ => ⟨b, o, rfl, hIb⟩, by omega⟩ hIb (by omega) hc ha hp)
  have HI := Lib.hid hI
  have hh2 : h < t.len := hs
  clear he hc ha hp hI hIb hst hs'
  go_enter Try.func40, Try.ntmps40
  go_wp2_with fail
  refine HP.out.mono ?_
  rintro e w1 ⟨r, rfl, hD, hr, hB⟩
  have HB1 := Lib.hid (join HB.out hB)
  have hrl : r < w1.heap.size := dir_lt hD
  have HD := Lib.hid hD
  clear hB hD HP HB hr
  go_wp2_with fail
  obtain ⟨W2, hW2⟩ : ∃ W2, W2 = w1.alloc (.cells #[.int .i64 t.wide, .slice (some ⟨b, o, none⟩) t.plots.length cap, .int .i64 wind, .int .i64 voice, .map (some r), .func (.func 128) #[] #[]] 119) := ⟨_, rfl⟩
  have hbx : W2.heap[w1.heap.size]? = some (.cells #[.int .i64 t.wide, .slice (some ⟨b, o, none⟩) t.plots.length cap, .int .i64 wind, .int .i64 voice, .map (some r), .func (.func 128) #[] #[]] 119 (0, 0)) := by rw [hW2]; exact heap_alloc_last _ _
  have HB2 : Hid (Below w.heap.size w W2) := Lib.hid (by rw [hW2]; exact al HB1.out _)
  have HD2 : Hid (DirMap W2 r) := Lib.hid (by rw [hW2]; exact dir_al HD.out hrl _)
  rw [← hW2]
  have HBX := Lib.hid hbx
  have hbl2 : w1.heap.size < W2.heap.size := (Array.getElem?_eq_some_iff.1 hbx).1
  clear hW2 hbx HB1 HD hrl
  refine Rs.region_gen 6 [[], [], [1], [], [0, 1, 2, 3], []] [some 23, some 24, some 25, some 26, some 27, some 28] (spSd (.agg #[.int .i64 t.wide, .slice (some ⟨b, o, none⟩) t.plots.length cap, .int .i64 wind, .int .i64 voice, .map (some r), .func (.func 128) #[] #[]]) t wind voice h) (by kernel_rfl) (by kernel_rfl) rfl (spSd_stable _ _ _ _ _) ?_ ?_
  · refine ⟨fun V w' hG hs => ?_, fun V w' hG hs => ?_, fun V w' hG hs => ?_, fun V w' hG hs => ?_, fun V w' hG hs => ?_, fun V w' hG hs => ?_, trivial⟩
    all_goals
      obtain ⟨c0, c1, c2, c3, c4, c5⟩ := voice_cells ((hG.block _ hbl2).trans HBX.out)
      rw [if_pos (by rfl)]
    · exact Rs.GrowL.value (v := .agg #[.int .i64 t.wide, .slice (some ⟨b, o, none⟩) t.plots.length cap, .int .i64 wind, .int .i64 voice, .map (some r), .func (.func 128) #[] #[]]) (w' := w') (by simp [go_sem, Rs.look, c0, c1, c2, c3, c4, c5]) (Rs.Gr.refl _) rfl
    · exact Rs.GrowL.value (v := .agg #[.int .i64 t.wide, .slice (some ⟨b, o, none⟩) t.plots.length cap, .int .i64 wind, .int .i64 voice, .map (some r), .func (.func 128) #[] #[]]) (w' := w') (by simp [go_sem, Rs.look, c0, c1, c2, c3, c4, c5]) (Rs.Gr.refl _) rfl
    · have e1 : V 1 = .agg #[.int .i64 t.wide, .slice (some ⟨b, o, none⟩) t.plots.length cap, .int .i64 wind, .int .i64 voice, .map (some r), .func (.func 128) #[] #[]] := hs 1 (by simp)
      refine Rs.GrowL.call (f := 101) (args := #[.agg #[.int .i64 t.wide, .slice (some ⟨b, o, none⟩) t.plots.length cap, .int .i64 wind, .int .i64 voice, .map (some r), .func (.func 128) #[] #[]]]) (by simp [go_sem, Rs.look, e1]) ?_
      refine (tables_any t ok wind voice w0 w4 b o cap r _ _ _ w' (HI.out.below (join HB2.out hG) HI.out.1) ((hG.block r (dir_lt HD2.out)).trans HD2.out)).mono ?_
      rintro e w2 ⟨vs, rfl, hT, hB2⟩
      exact ⟨_, rfl, hB2, vs, rfl, hT⟩
    · exact Rs.GrowL.value (v := .int .i64 h) (w' := w') (by simp [go_sem, Rs.look]) (Rs.Gr.refl _) rfl
    · have e0 : V 0 = .agg #[.int .i64 t.wide, .slice (some ⟨b, o, none⟩) t.plots.length cap, .int .i64 wind, .int .i64 voice, .map (some r), .func (.func 128) #[] #[]] := hs 0 (by simp)
      obtain ⟨vs, e2, hT⟩ : ∃ vs, V 2 = .agg vs ∧ TabsTo t wind 30 w' vs := hs 2 (by simp)
      have e3 : V 3 = .int .i64 h := hs 3 (by simp)
      refine Rs.GrowL.call (f := 100) (args := #[.agg #[.int .i64 t.wide, .slice (some ⟨b, o, none⟩) t.plots.length cap, .int .i64 wind, .int .i64 voice, .map (some r), .func (.func 128) #[] #[]], .agg vs, .int .i64 h]) (by simp [go_sem, Rs.look, e0, e2, e3]) ?_
      refine (hears_any t ok wind voice h hh2 _ _ _ vs w' hT).mono ?_
      rintro e w2 ⟨rfl, hB2⟩
      exact ⟨_, rfl, hB2, rfl⟩
    · exact Rs.GrowL.value (v := .int .i64 0) (w' := w') (by simp [go_sem, Rs.look]) (Rs.Gr.refl _) rfl
  · intro V w5 hG hs
    have e0 : V 0 = .agg #[.int .i64 t.wide, .slice (some ⟨b, o, none⟩) t.plots.length cap, .int .i64 wind, .int .i64 voice, .map (some r), .func (.func 128) #[] #[]] := hs 0 (by omega)
    have e1 : V 1 = .agg #[.int .i64 t.wide, .slice (some ⟨b, o, none⟩) t.plots.length cap, .int .i64 wind, .int .i64 voice, .map (some r), .func (.func 128) #[] #[]] := hs 1 (by omega)
    have e3 : V 3 = .int .i64 h := hs 3 (by omega)
    have e4 : V 4 = .agg ((ears t wind voice h).map Value.bool).toArray := hs 4 (by omega)
    have e5 : V 5 = .int .i64 0 := hs 5 (by omega)
    simp only [Rs.canon, Rs.dstOf, List.range_succ, List.range_zero, List.nil_append, List.cons_append, List.foldl_cons, List.foldl_nil, List.drop_succ_cons, List.drop_zero, List.drop_nil, List.getElem?_toArray, List.getElem?_cons_succ, List.getElem?_cons_zero, Option.bind_some, Act.put, List.getD_cons_succ, List.getD_cons_zero, List.setIfInBounds_toArray, List.set_cons_succ, List.set_cons_zero]
    rw [e0, e1, e3, e4, e5]
    generalize V 2 = v2
    have HB5 := Lib.hid (join HB2.out hG)
    obtain ⟨EA, hEA⟩ : ∃ EA, EA = ((ears t wind voice h).map Value.bool).toArray := ⟨_, rfl⟩
    rw [← hEA]
    have hget : ∀ k, k < 30 → EA[k]? = some (.bool (hearB t wind voice h k)) := fun k hk => by rw [hEA]; unfold ears; simp [hk]
    have HGET := Lib.hid hget
    clear e0 e1 e3 e4 e5 hs hG hEA hget HD2 HBX hbl2 HB2 HI
    go_wp2
    go_loopw [10, 11, 12, 28] (fun v u u' i wr => ∃ k : Nat, k ≤ 30 ∧ i = .int .i64 k ∧ wr.ownsRow w5.heap.size 3 1 v (standsTo t wind voice h k).length ((standsTo t wind voice h k).map (Value.int .i64)) ∧ Below w5.heap.size w5 wr) (fun _ _ _ i _ => 30 - (intOf i).toNat)
    case atStart => exact ⟨0, by omega, rfl, own_none _ _ _ _, Below.refl _ _⟩
    case round =>
      obtain ⟨k, hk, rfl, hown, hBr⟩ := hrel
      have HO := Lib.hid hown
      have HBr := Lib.hid hBr
      have hlen := standsTo_len t wind voice h k
      have hz := hBr.size
      clear hown hBr
      by_cases hlt : k < 30
      · have hidx := fun W => idx_arr und128 agg4 siz4 hlt (HGET.out k hlt) W
        generalize hen : hearB t wind voice h k = en at hidx
        have HEN := Lib.hid hen
        clear hen
        cases en with
        | false =>
          go_wp2
          go_roundw
          case rel => exact ⟨k + 1, by omega, by simp, by rw [standsTo_no HEN.out]; exact HO.out, HBr.out⟩
          case measure => simp [intOf]; omega
        | true =>
          go_wp2_with (at_builtin; refine wpList_append_own _ rfl _ _ 31 rfl w5.heap.size 3 i0 (.int .i64 0) 1 8 A_und31 hi hz0 hz1 hz2 rfl (by decide) _ _ _ rfl (HO.out.alloc _) ⟨wr.heap.size, 0, none⟩ 1 1 [.int .i64 (k : Int)] rfl rfl ?d1 ?d2 ?d3 ?d4 ?d5 ?_)
          case d1 =>
            intro j u hj
            match j, hj with
            | 0, hj => simp at hj; subst hj; simp [Addr.add]
          case d2 => intro u hu; simp at hu; subst hu; rfl
          case d3 => unfold maxLen; omega
          case d4 => omega
          case d5 => simp; omega
          intro v' w8 hown8 hgrow _
          have hB8 := below_grown (al2 HBr.out (by omega) _) (HO.out.alloc _) (Nat.le_refl _) (by simp; omega) hgrow
          have HO8 := Lib.hid hown8
          have HB8 := Lib.hid hB8
          clear hgrow hown8 hB8
          go_wp2
          go_roundw
          case rel => exact ⟨k + 1, by omega, by simp, by rw [standsTo_yes HEN.out]; simpa using HO8.out, HB8.out⟩
          case measure => simp [intOf]; omega
      · obtain rfl : k = 30 := by omega
        go_wp2
        go_ret2
        exact ⟨_, rfl, own_base HO.out HB5.out.size, join HB5.out HBr.out⟩
/-- what Stands tells -/
def standsL (wd : Int) (xs : List Int) (wind voice h : Int) : List Int := if atE wd xs wind voice h 1 = 0 then standsOf (townOf wd xs) wind voice h.toNat else []
theorem Stands_any (wd wind voice s : Int) (a : Option Addr) (cap : Nat) (xs : List Int) (hl : xs.length ≤ 1000000) (w : World) (hR : RdI w (.slice a xs.length cap) xs) :
    Calls Try.prog 40 #[.agg #[.int .i64 wd, .slice a xs.length cap], .agg #[.int .i64 wind, .int .i64 voice], .int .i64 s] w fun e w' => ∃ v, e = .returned (.tuple #[v, .int .i64 (atE wd xs wind voice s 1)]) ∧ w'.ownsRow w.heap.size 3 1 v (standsL wd xs wind voice s).length ((standsL wd xs wind voice s).map (Value.int .i64)) ∧ Below w.heap.size w w' := by
  by_cases h : atE wd xs wind voice s 1 = 0
  · obtain ⟨h1, h2, h3⟩ := atE_ok h
    have hne : xs ≠ [] := by rintro rfl; have := (check_len h1).2; simp at this
    obtain ⟨b, o, rfl, _, hI⟩ := rd_ints hR hne
    obtain ⟨t, -, hw', hx, ok⟩ := town_name h1
    subst hw' hx
    obtain ⟨p, rfl, hp, _⟩ := plot_ok h3
    have e1 : standsL t.wide t.plots wind voice p = standsOf t wind voice p := by unfold standsL; rw [if_pos h, townOf_self]; simp
    rw [e1, h]
    exact Stands_yes t ok wind voice p h b o cap w hI
  · have e1 : standsL wd xs wind voice s = [] := if_neg h
    rw [e1]
    refine (Stands_no wd wind voice s a cap xs hl w hR h).mono ?_
    rintro e w' ⟨rfl, hB⟩
    exact ⟨_, rfl, own_none _ _ _ _, hB⟩
end Go.Proofs.Ytimedmkpenbmkaa
