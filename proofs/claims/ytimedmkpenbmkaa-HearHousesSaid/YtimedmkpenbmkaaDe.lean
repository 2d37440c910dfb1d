import Derived.Test.YtimedmkpenbmkaaSd
namespace Go.Proofs.Ytimedmkpenbmkaa
open Go.RowKit Go.Shelf
set_option linter.unusedSimpArgs false
set_option linter.unusedVariables false

/-- the deaf ones of the first houses -/
def deafTo (l : List (Nat × List Bool)) (k : Nat) : List Int := ((l.take k).filter fun x => deafB x.2).map fun x => (x.1 : Int)
theorem deafTo_yes {l : List (Nat × List Bool)} {k : Nat} {x : Nat × List Bool} (hx : l[k]? = some x) (h : deafB x.2 = true) : deafTo l (k + 1) = deafTo l k ++ [(x.1 : Int)] := by
  unfold deafTo; rw [List.take_add_one, hx, List.filter_append]; simp [h]
theorem deafTo_no {l : List (Nat × List Bool)} {k : Nat} {x : Nat × List Bool} (hx : l[k]? = some x) (h : deafB x.2 = false) : deafTo l (k + 1) = deafTo l k := by
  unfold deafTo; rw [List.take_add_one, hx, List.filter_append]; simp [h]
theorem deafTo_len (l : List (Nat × List Bool)) (k : Nat) : (deafTo l k).length ≤ k := by
  unfold deafTo
  have h1 := List.length_filter_le (fun x : Nat × List Bool => deafB x.2) (l.take k)
  have h2 := List.length_take_le k l
  simp only [List.length_map]; omega
/-- the houses that hear no stand -/
def deafOf (t : Hr.Town) (wind voice : Int) : List Int := deafTo (lis t wind voice fun _ => true) (lis t wind voice fun _ => true).length
theorem lis_30 (t : Hr.Town) (wind voice : Int) (cnt : Nat → Bool) : ∀ y ∈ lis t wind voice cnt, y.2.length = 30 := by
  intro y hy
  unfold lis lisTo at hy
  obtain ⟨p, _, rfl⟩ := List.mem_map.1 hy
  simp [ears]

set_option maxHeartbeats 1000000 in
set_option maxRecDepth 100000 in
theorem Deaf_no (wd wind voice : Int) (a : Option Addr) (cap : Nat) (xs : List Int) (hl : xs.length ≤ 1000000) (w : World) (hR : RdI w (.slice a xs.length cap) xs) (h : openErr wd xs wind voice ≠ 0) :
    Calls Try.prog 41 #[.agg #[.int .i64 wd, .slice a xs.length cap], .agg #[.int .i64 wind, .int .i64 voice]] w fun e w' => e = .returned (.tuple #[.slice none 0 0, .int .i64 (openErr wd xs wind voice)]) ∧ Below w.heap.size w w' := by
  have HB := Lib.hid (al (below1 w (.cells #[.int .i64 wd, .slice a xs.length cap] 24)) (.cells #[.int .i64 wind, .int .i64 voice] 27))
  have HP := Lib.hid (open_err wd wind voice a cap xs _ (rd_plots (hR.below HB.out) hl) h)
  unfold zeroWork at HP
  generalize openErr wd xs wind voice = E at h HP ⊢
  have h1 : (E != 0) = true := by simpa using h
  clear h hR
  go_enter Try.func41, Try.ntmps41
  go_wp2_with fail
  refine HP.out.mono ?_
  rintro e w1 ⟨rfl, hB⟩
  have HB1 := Lib.hid (join HB.out hB)
  clear hB HP
  go_wp2
  go_ret2
  exact ⟨rfl, by first | (with_reducible exact al HB1.out _) | (with_reducible refine setc6 HB1.out ?_; omega)⟩

def spDe (wk : Value) (t : Hr.Town) (wind voice : Int) (B : Nat) : Nat → List Value → Value → World → Prop
  | 0, _, v, _ => v = wk
  | 1, _, v, _ => v = wk
  | 2, _, v, w => ∃ vs, v = .agg vs ∧ TabsTo t wind 30 w vs
  | 3, _, v, w => ∃ ob cp, v = .slice ob (lis t wind voice fun _ => true).length cp ∧ w.ownsRow B 135 31 (.slice ob (lis t wind voice fun _ => true).length cp) (lis t wind voice fun _ => true).length (lisV (lis t wind voice fun _ => true))
  | 4, _, v, _ => v = .int .i64 (lis t wind voice fun _ => true).length
  | 5, _, v, _ => v = .int .i64 0
  | _, _, _, _ => False
theorem spDe_stable (wk : Value) (t : Hr.Town) (wind voice : Int) (B : Nat) : ∀ i L v w w', spDe wk t wind voice B i L v w → Rs.Gr w w' → spDe wk t wind voice B i L v w' := by
  intro i L v w w' h hg
  match i with
  | 0 => exact h
  | 1 => exact h
  | 2 => obtain ⟨vs, h1, h2⟩ := h; exact ⟨vs, h1, h2.below hg⟩
  | 3 => obtain ⟨ob, cp, h1, h2⟩ := h; exact ⟨ob, cp, h1, own_below h2 hg⟩
  | 4 => exact h
  | 5 => exact h

set_option maxHeartbeats 2000000 in
set_option maxRecDepth 100000 in
theorem Deaf_yes (t : Hr.Town) (ok : t.Ok) (wind voice : Int) (he : openErr t.wide t.plots wind voice = 0) (b o cap : Nat) (w : World) (hI : Ints w b o t.plots) :
    Calls Try.prog 41 #[.agg #[.int .i64 t.wide, .slice (some ⟨b, o, none⟩) t.plots.length cap], .agg #[.int .i64 wind, .int .i64 voice]] w fun e w' => ∃ v, e = .returned (.tuple #[v, .int .i64 0]) ∧ w'.ownsRow w.heap.size 3 1 v (deafOf t wind voice).length ((deafOf t wind voice).map (Value.int .i64)) ∧ Below w.heap.size w w' := by
  obtain ⟨i0, hi, hz0, hz1, hz2⟩ := info_parts A_info3
  obtain ⟨hc, ha⟩ := openErr_ok he
  obtain ⟨w0, w4, v1, v40⟩ := wind_ok ha
  have h30 : t.plots.length ≤ 30 := ok.n30
  have HB := Lib.hid (al (below1 w (.cells #[.int .i64 t.wide, .slice (some ⟨b, o, none⟩) t.plots.length cap] 24)) (.cells #[.int .i64 wind, .int .i64 voice] 27))
  have hIb := hI.below HB.out hI.1
  have HP := Lib.hid (open_ok t.wide wind voice b o cap t.plots _ ⟨fun _ => ⟨b, o, rfl, hIb⟩, by omega⟩ hc ha)
  have HI := Lib.hid hI
  clear he hc ha hI hIb
  go_enter Try.func41, Try.ntmps41
  go_wp2_with fail
  refine HP.out.mono ?_
  rintro e w1 ⟨r, rfl, hD, hr, hB⟩
  have HB1 := Lib.hid (join HB.out hB)
  have hrl : r < w1.heap.size := dir_lt hD
  have HD := Lib.hid hD
  clear hB hD HP HB hr
  go_wp2_with fail
  obtain ⟨W2, hW2⟩ : ∃ W2, W2 = w1.alloc (.cells #[.int .i64 t.wide, .slice (some ⟨b, o, none⟩) t.plots.length cap, .int .i64 wind, .int .i64 voice, .map (some r), .func (.func 128) #[] #[]] 119) := ⟨_, rfl⟩
  have hbx : W2.heap[w1.heap.size]? = some (.cells #[.int .i64 t.wide, .slice (some ⟨b, o, none⟩) t.plots.length cap, .int .i64 wind, .int .i64 voice, .map (some r), .func (.func 128) #[] #[]] 119 (0, 0)) := by rw [hW2]; exact heap_alloc_last _ _
  have HB2 : Hid (Below w.heap.size w W2) := Lib.hid (by rw [hW2]; exact al HB1.out _)
  have HD2 : Hid (DirMap W2 r) := Lib.hid (by rw [hW2]; exact dir_al HD.out hrl _)
  rw [← hW2]
  have HBX := Lib.hid hbx
  have hbl2 : w1.heap.size < W2.heap.size := (Array.getElem?_eq_some_iff.1 hbx).1
  clear hW2 hbx HB1 HD hrl
  refine Rs.region_gen 6 [[], [], [1], [0, 1, 2], [0, 1, 2, 3], []] [some 20, some 21, some 22, some 23, some 24, some 25] (spDe (.agg #[.int .i64 t.wide, .slice (some ⟨b, o, none⟩) t.plots.length cap, .int .i64 wind, .int .i64 voice, .map (some r), .func (.func 128) #[] #[]]) t wind voice W2.heap.size) (by kernel_rfl) (by kernel_rfl) rfl (spDe_stable _ _ _ _ _) ?_ ?_
  · refine ⟨fun V w' hG hs => ?_, fun V w' hG hs => ?_, fun V w' hG hs => ?_, fun V w' hG hs => ?_, fun V w' hG hs => ?_, fun V w' hG hs => ?_, trivial⟩
    all_goals
      obtain ⟨c0, c1, c2, c3, c4, c5⟩ := voice_cells ((hG.block _ hbl2).trans HBX.out)
      rw [if_pos (by rfl)]
    · exact Rs.GrowL.value (v := .agg #[.int .i64 t.wide, .slice (some ⟨b, o, none⟩) t.plots.length cap, .int .i64 wind, .int .i64 voice, .map (some r), .func (.func 128) #[] #[]]) (w' := w') (by simp [go_sem, Rs.look, c0, c1, c2, c3, c4, c5]) (Rs.Gr.refl _) rfl
    · exact Rs.GrowL.value (v := .agg #[.int .i64 t.wide, .slice (some ⟨b, o, none⟩) t.plots.length cap, .int .i64 wind, .int .i64 voice, .map (some r), .func (.func 128) #[] #[]]) (w' := w') (by simp [go_sem, Rs.look, c0, c1, c2, c3, c4, c5]) (Rs.Gr.refl _) rfl
    · have e1 : V 1 = .agg #[.int .i64 t.wide, .slice (some ⟨b, o, none⟩) t.plots.length cap, .int .i64 wind, .int .i64 voice, .map (some r), .func (.func 128) #[] #[]] := hs 1 (by simp)
      refine Rs.GrowL.call (f := 101) (args := #[.agg #[.int .i64 t.wide, .slice (some ⟨b, o, none⟩) t.plots.length cap, .int .i64 wind, .int .i64 voice, .map (some r), .func (.func 128) #[] #[]]]) (by simp [go_sem, Rs.look, e1]) ?_
      refine (tables_any t ok wind voice w0 w4 b o cap r _ _ _ w' (HI.out.below (join HB2.out hG) HI.out.1) ((hG.block r (dir_lt HD2.out)).trans HD2.out)).mono ?_
      rintro e w2 ⟨vs, rfl, hT, hB2⟩
      exact ⟨_, rfl, hB2, vs, rfl, hT⟩
    · have e0 : V 0 = .agg #[.int .i64 t.wide, .slice (some ⟨b, o, none⟩) t.plots.length cap, .int .i64 wind, .int .i64 voice, .map (some r), .func (.func 128) #[] #[]] := hs 0 (by simp)
      obtain ⟨vs, e2, hT⟩ : ∃ vs, V 2 = .agg vs ∧ TabsTo t wind 30 w' vs := hs 2 (by simp)
      refine Rs.GrowL.call (f := 102) (args := #[.agg #[.int .i64 t.wide, .slice (some ⟨b, o, none⟩) t.plots.length cap, .int .i64 wind, .int .i64 voice, .map (some r), .func (.func 128) #[] #[]], .agg vs]) (by simp [go_sem, Rs.look, e0, e2]) ?_
      refine (listeners_any t ok wind voice b o cap _ 128 #[] (fun _ => true) vs w' (HI.out.below (join HB2.out hG) HI.out.1) hT (fun args W => rfl) (fun p hp W hW => (all_any p W).mono fun e w' ⟨h1, h2⟩ => ⟨h1, h2 ▸ Below.refl _ _⟩)).mono ?_
      rintro e w2 ⟨v, rfl, ho, hB2⟩
      obtain ⟨ob, cp, rfl⟩ := own_slice ho
      exact ⟨_, rfl, hB2, ob, cp, rfl, own_base ho (by have := hG.size; omega)⟩
    · obtain ⟨ob, cp, e3, ho⟩ : ∃ ob cp, V 3 = .slice ob (lis t wind voice fun _ => true).length cp ∧ w'.ownsRow W2.heap.size 135 31 (.slice ob (lis t wind voice fun _ => true).length cp) (lis t wind voice fun _ => true).length (lisV (lis t wind voice fun _ => true)) := hs 3 (by simp)
      exact Rs.GrowL.value (v := .int .i64 (lis t wind voice fun _ => true).length) (w' := w') (by simp [go_sem, Rs.look, e3]) (Rs.Gr.refl _) rfl
    · exact Rs.GrowL.value (v := .int .i64 0) (w' := w') (by simp [go_sem, Rs.look]) (Rs.Gr.refl _) rfl
  · intro V w5 hG hs
    have e0 : V 0 = .agg #[.int .i64 t.wide, .slice (some ⟨b, o, none⟩) t.plots.length cap, .int .i64 wind, .int .i64 voice, .map (some r), .func (.func 128) #[] #[]] := hs 0 (by omega)
    have e1 : V 1 = .agg #[.int .i64 t.wide, .slice (some ⟨b, o, none⟩) t.plots.length cap, .int .i64 wind, .int .i64 voice, .map (some r), .func (.func 128) #[] #[]] := hs 1 (by omega)
    obtain ⟨ob, cp, e3, ho⟩ : ∃ ob cp, V 3 = .slice ob (lis t wind voice fun _ => true).length cp ∧ w5.ownsRow W2.heap.size 135 31 (.slice ob (lis t wind voice fun _ => true).length cp) (lis t wind voice fun _ => true).length (lisV (lis t wind voice fun _ => true)) := hs 3 (by omega)
    have e4 : V 4 = .int .i64 (lis t wind voice fun _ => true).length := hs 4 (by omega)
    have e5 : V 5 = .int .i64 0 := hs 5 (by omega)
    simp only [Rs.canon, Rs.dstOf, List.range_succ, List.range_zero, List.nil_append, List.cons_append, List.foldl_cons, List.foldl_nil, List.drop_succ_cons, List.drop_zero, List.drop_nil, List.getElem?_toArray, List.getElem?_cons_succ, List.getElem?_cons_zero, Option.bind_some, Act.put, List.getD_cons_succ, List.getD_cons_zero, List.setIfInBounds_toArray, List.set_cons_succ, List.set_cons_zero]
    rw [e0, e1, e3, e4, e5]
    generalize V 2 = v2
    have HB5 := Lib.hid (join HB2.out hG)
    have hL30 := lis_30 t wind voice fun _ => true
    have hin := LiIn.of_own hL30 ho
    have hLl : (lis t wind voice fun _ => true).length ≤ 30 := by have := lisTo_len t wind voice (fun _ => true) t.len; have e : t.len = t.plots.length := rfl; unfold lis; omega
    obtain ⟨L, hL⟩ : ∃ L, L = lis t wind voice fun _ => true := ⟨_, rfl⟩
    have HD0 : Hid (deafOf t wind voice = deafTo L L.length) := Lib.hid (by rw [hL]; rfl)
    rw [← hL] at hin hLl hL30 ⊢
    have HIN := Lib.hid hin
    have HL30 := Lib.hid hL30
    clear e0 e1 e3 e4 e5 hs hG hL hin ho HD2 HBX hbl2 HB2 HI hL30
    go_wp2_with fail
    go_loopw [8, 25] (fun v i wr => ∃ k : Nat, k ≤ L.length ∧ i = .int .i64 k ∧ wr.ownsRow w5.heap.size 3 1 v (deafTo L k).length ((deafTo L k).map (Value.int .i64)) ∧ Below w5.heap.size w5 wr) (fun _ i _ => L.length - (intOf i).toNat)
    case atStart => exact ⟨0, by omega, rfl, own_none _ _ _ _, Below.refl _ _⟩
    case round =>
      obtain ⟨k, hk, rfl, hown, hB⟩ := hrel
      have HO := Lib.hid hown
      have HB := Lib.hid hB
      have hlen := deafTo_len L k
      have hz := hB.size
      by_cases hlt : k < L.length
      · obtain ⟨x, hx⟩ : ∃ x, L[k]? = some x := ⟨_, List.getElem?_eq_getElem hlt⟩
        have hx30 := HL30.out x (List.mem_of_getElem? hx)
        obtain ⟨g, rfl, hgl, hrg⟩ := (HIN.out.below hB) k x hx
        have HXK := Lib.hid hx
        obtain ⟨row, hrow⟩ : ∃ row, row = lisRow x := ⟨_, rfl⟩
        have hsz : (Try.prog.info? 135).map (·.size) = some row.length := by rw [hrow, lisRow_len hx30]; exact size135
        have hsz2 : (Try.prog.info? 135).map (·.size) = some row.toArray.size := by rw [hrow, List.size_toArray, lisRow_len hx30]; exact size135
        have hask := fun W => deaf_any x.1 x.2 hx30 W
        change ∀ W, Calls Try.prog 103 #[.agg (lisRow x).toArray] W _ at hask
        rw [← hrow] at hrg hask
        have hone : row.toArray.all (·.oneCell') = true := by
          rw [hrow, Array.all_eq_true]; intro i hi
          have : (lisRow x).toArray[i] ∈ lisRow x := by simp
          unfold lisRow at this
          rcases List.mem_cons.1 this with h | h
          · rw [show (lisRow x).toArray[i] = _ from h]; rfl
          · obtain ⟨b', _, hb⟩ := List.mem_map.1 h; rw [show (lisRow x).toArray[i] = _ from hb.symm]; rfl
        have hrow0 : row.toArray[0]? = some (.int .i64 x.1) := by rw [hrow]; rfl
        have HR0 := Lib.hid hrow0
        have HRG := Lib.hid hrg
        have HASK := Lib.hid hask
        have HSZ := Lib.hid hsz
        have HSZ2 := Lib.hid hsz2
        have hsz3 : row.toArray.size = 31 := by rw [hrow, List.size_toArray, lisRow_len hx30]
        have HSZ3 := Lib.hid hsz3
        have HON := Lib.hid hone
        have hlt' : (k : Int) < L.length := by omega
        generalize hdf : deafB x.2 = df at HASK
        have HDF := Lib.hid hdf
        clear hx hrow hsz3 hsz hsz2 hrg hask hone hown hB hdf hrow0
        have hll := fun W => heap_alloc_last W (.cells row.toArray 135)
        have HLL := Lib.hid hll
        clear hll
        go_wp2_with (first
          | (with_reducible refine wpList_load_mid rfl 135 _ rfl g (k * 31) rfl row _ HRG.out und135 rfl HSZ.out ?_)
          | (with_reducible refine wpList_store_new rfl 135 _ _ rfl _ row.toArray rfl rfl HSZ2.out ?hs HON.out ?_)
          | (with_reducible refine wpList_load_row rfl 135 _ rfl wr.heap.size rfl 135 row.toArray (0, 0) _ (HLL.out _) und135 rfl HSZ2.out ?_))
        case hs => exact (Hid.out HSZ3).symm
        refine (HASK.out _).mono ?_
        rintro e w6 ⟨rfl, hB5⟩
        have HB5' := Lib.hid (join (al HB.out _) hB5)
        have hc6 : w6.cell? ⟨wr.heap.size, 0, none⟩ = some (.int .i64 x.1) := by
          have := (hB5.block wr.heap.size (by simp)).trans (HLL.out wr)
          rw [cell_of_row _ _ _ _ _ _ this]; exact HR0.out
        have hl6 : wr.heap.size < w6.heap.size := Nat.lt_of_lt_of_le (by simp) hB5.size
        have HO6 := Lib.hid (own_below (own_below HO.out (below1 wr _)) hB5)
        clear hB5
        cases df with
        | false =>
          go_wp2_with fail
          go_roundw
          case rel => exact ⟨k + 1, by omega, by simp, by rw [deafTo_no HXK.out HDF.out]; exact HO6.out, HB5'.out⟩
          case measure => simp [intOf]; omega
        | true =>
          go_wp2_with (at_builtin; refine wpList_append_own _ rfl _ _ 31 rfl w5.heap.size 3 i0 (.int .i64 0) 1 8 A_und31 hi hz0 hz1 hz2 rfl (by decide) _ _ _ rfl (HO6.out.alloc _) ⟨w6.heap.size, 0, none⟩ 1 1 [.int .i64 (x.1 : Int)] rfl rfl ?d1 ?d2 ?d3 ?d4 ?d5 ?_)
          case d1 =>
            intro j u hj
            match j, hj with
            | 0, hj => simp at hj; subst hj; simp [Addr.add]
          case d2 => intro u hu; simp at hu; subst hu; rfl
          case d3 => unfold maxLen; omega
          case d4 => omega
          case d5 => simp; omega
          intro v' w8 hown8 hgrow _
          have hB8 := below_grown (al2 HB5'.out (by omega) _) (HO6.out.alloc _) (Nat.le_refl _) (by simp; omega) hgrow
          have HO8 := Lib.hid hown8
          have HB8 := Lib.hid hB8
          clear hgrow hown8 hB8
          go_wp2_with fail
          go_roundw
          case rel => exact ⟨k + 1, by omega, by simp, by rw [deafTo_yes HXK.out HDF.out]; simpa using HO8.out, HB8.out⟩
          case measure => simp [intOf]; omega
      · obtain rfl : k = L.length := by omega
        clear hown hB
        go_wp2_with fail
        go_ret2
        exact ⟨_, rfl, by rw [HD0.out]; exact own_base HO.out HB5.out.size, join HB5.out HB.out⟩
/-- what Deaf tells -/
def deafL (wd : Int) (xs : List Int) (wind voice : Int) : List Int := if openErr wd xs wind voice = 0 then deafOf (townOf wd xs) wind voice else []
theorem Deaf_any (wd wind voice : Int) (a : Option Addr) (cap : Nat) (xs : List Int) (hl : xs.length ≤ 1000000) (w : World) (hR : RdI w (.slice a xs.length cap) xs) :
    Calls Try.prog 41 #[.agg #[.int .i64 wd, .slice a xs.length cap], .agg #[.int .i64 wind, .int .i64 voice]] w fun e w' => ∃ v, e = .returned (.tuple #[v, .int .i64 (openErr wd xs wind voice)]) ∧ w'.ownsRow w.heap.size 3 1 v (deafL wd xs wind voice).length ((deafL wd xs wind voice).map (Value.int .i64)) ∧ Below w.heap.size w w' := by
  by_cases h : openErr wd xs wind voice = 0
  · obtain ⟨h1, h2⟩ := openErr_ok h
    have hne : xs ≠ [] := by rintro rfl; have := (check_len h1).2; simp at this
    obtain ⟨b, o, rfl, _, hI⟩ := rd_ints hR hne
    obtain ⟨t, -, hw', hx, ok⟩ := town_name h1
    subst hw' hx
    have e1 : deafL t.wide t.plots wind voice = deafOf t wind voice := by unfold deafL; rw [if_pos h, townOf_self]
    rw [e1, h]
    exact Deaf_yes t ok wind voice h b o cap w hI
  · have e1 : deafL wd xs wind voice = [] := if_neg h
    rw [e1]
    refine (Deaf_no wd wind voice a cap xs hl w hR h).mono ?_
    rintro e w' ⟨rfl, hB⟩
    exact ⟨_, rfl, own_none _ _ _ _, hB⟩
end Go.Proofs.Ytimedmkpenbmkaa
