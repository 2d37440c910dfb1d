/- HearWalled holds: for any numbers and any street the law returns true, and what was passed in reads as before. No conditions. -/
import Derived.Test.YtimedmkpenbmkaaSd
import Derived.Test.YtimedmkpenbmkaaPh
import Derived.Test.YtimedmkpenbmkaaB5
import Derived.Test.YtimedmkpenbmkaaRg
import Derived.Test.YtimedmkpenbmkaaE5
import Derived.Deep.CutRange
import Derived.Deep.DeepCutAuto
import Derived.Test.YtimedmkpenbmkaaRows
import Derived.ProofKit
import Derived.OpenShut
import Derived.ShutString
import Derived.ChangeOld
import Derived.Below
import Derived.Lib.SmallJoins
namespace Go.Proofs.Ytimedmkpenbmkaa
open Go.RowKit Go.Shelf
set_option linter.unusedSimpArgs false
set_option linter.unusedVariables false

/-- the deaf ones of the first houses -/
def deafTo (l : List (Nat × List Bool)) (k : Nat) : List Int := ((l.take k).filter fun x => deafB x.2).map fun x => (x.1 : Int)
theorem deafTo_yes {l : List (Nat × List Bool)} {k : Nat} {x : Nat × List Bool} (hx : l[k]? = some x) (h : deafB x.2 = true) : deafTo l (k + 1) = deafTo l k ++ [(x.1 : Int)] := by
  unfold deafTo; rw [List.take_add_one, hx, List.filter_append]; simp [h]
theorem deafTo_no {l : List (Nat × List Bool)} {k : Nat} {x : Nat × List Bool} (hx : l[k]? = some x) (h : deafB x.2 = false) : deafTo l (k + 1) = deafTo l k := by
  unfold deafTo; rw [List.take_add_one, hx, List.filter_append]; simp [h]
theorem deafTo_len (l : List (Nat × List Bool)) (k : Nat) : (deafTo l k).length ≤ k := by
  unfold deafTo
  have h1 := List.length_filter_le (fun x : Nat × List Bool => deafB x.2) (l.take k)
  have h2 := List.length_take_le k l
  simp only [List.length_map]; omega
/-- the houses that hear no stand -/
def deafOf (t : Hr.Town) (wind voice : Int) : List Int := deafTo (lis t wind voice fun _ => true) (lis t wind voice fun _ => true).length
theorem lis_30 (t : Hr.Town) (wind voice : Int) (cnt : Nat → Bool) : ∀ y ∈ lis t wind voice cnt, y.2.length = 30 := by
  intro y hy
  unfold lis lisTo at hy
  obtain ⟨p, _, rfl⟩ := List.mem_map.1 hy
  simp [ears]

set_option maxHeartbeats 1000000 in
set_option maxRecDepth 100000 in
theorem Deaf_no (wd wind voice : Int) (a : Option Addr) (cap : Nat) (xs : List Int) (hl : xs.length ≤ 1000000) (w : World) (hR : RdI w (.slice a xs.length cap) xs) (h : openErr wd xs wind voice ≠ 0) :
    Calls Try.prog 41 #[.agg #[.int .i64 wd, .slice a xs.length cap], .agg #[.int .i64 wind, .int .i64 voice]] w fun e w' => e = .returned (.tuple #[.slice none 0 0, .int .i64 (openErr wd xs wind voice)]) ∧ Below w.heap.size w w' := by
  have HB := Lib.hid (al (below1 w (.cells #[.int .i64 wd, .slice a xs.length cap] 24)) (.cells #[.int .i64 wind, .int .i64 voice] 27))
  have HP := Lib.hid (open_err wd wind voice a cap xs _ (rd_plots (hR.below HB.out) hl) h)
  unfold zeroWork at HP
  generalize openErr wd xs wind voice = E at h HP ⊢
  have h1 : (E != 0) = true := by simpa using h
  clear h hR
  go_enter Try.func41, Try.ntmps41
  go_wp2_with fail
  refine HP.out.mono ?_
  rintro e w1 ⟨rfl, hB⟩
  have HB1 := Lib.hid (join HB.out hB)
  clear hB HP
  go_wp2
  go_ret2
  exact ⟨rfl, by first | (with_reducible exact al HB1.out _) | (with_reducible refine setc6 HB1.out ?_; omega)⟩

def spDe (wk : Value) (t : Hr.Town) (wind voice : Int) (B : Nat) : Nat → List Value → Value → World → Prop
  | 0, _, v, _ => v = wk
  | 1, _, v, _ => v = wk
  | 2, _, v, w => ∃ vs, v = .agg vs ∧ TabsTo t wind 30 w vs
  | 3, _, v, w => ∃ ob cp, v = .slice ob (lis t wind voice fun _ => true).length cp ∧ w.ownsRow B 135 31 (.slice ob (lis t wind voice fun _ => true).length cp) (lis t wind voice fun _ => true).length (lisV (lis t wind voice fun _ => true))
  | 4, _, v, _ => v = .int .i64 (lis t wind voice fun _ => true).length
  | 5, _, v, _ => v = .int .i64 0
  | _, _, _, _ => False
theorem spDe_stable (wk : Value) (t : Hr.Town) (wind voice : Int) (B : Nat) : ∀ i L v w w', spDe wk t wind voice B i L v w → Rs.Gr w w' → spDe wk t wind voice B i L v w' := by
  intro i L v w w' h hg
  match i with
  | 0 => exact h
  | 1 => exact h
  | 2 => obtain ⟨vs, h1, h2⟩ := h; exact ⟨vs, h1, h2.below hg⟩
  | 3 => obtain ⟨ob, cp, h1, h2⟩ := h; exact ⟨ob, cp, h1, own_below h2 hg⟩
  | 4 => exact h
  | 5 => exact h

set_option maxHeartbeats 2000000 in
set_option maxRecDepth 100000 in
theorem Deaf_yes (t : Hr.Town) (ok : t.Ok) (wind voice : Int) (he : openErr t.wide t.plots wind voice = 0) (b o cap : Nat) (w : World) (hI : Ints w b o t.plots) :
    Calls Try.prog 41 #[.agg #[.int .i64 t.wide, .slice (some ⟨b, o, none⟩) t.plots.length cap], .agg #[.int .i64 wind, .int .i64 voice]] w fun e w' => ∃ v, e = .returned (.tuple #[v, .int .i64 0]) ∧ w'.ownsRow w.heap.size 3 1 v (deafOf t wind voice).length ((deafOf t wind voice).map (Value.int .i64)) ∧ Below w.heap.size w w' := by
  obtain ⟨i0, hi, hz0, hz1, hz2⟩ := info_parts A_info3
  obtain ⟨hc, ha⟩ := openErr_ok he
  obtain ⟨w0, w4, v1, v40⟩ := wind_ok ha
  have h30 : t.plots.length ≤ 30 := ok.n30
  have HB := Lib.hid (al (below1 w (.cells #[.int .i64 t.wide, .slice (some ⟨b, o, none⟩) t.plots.length cap] 24)) (.cells #[.int .i64 wind, .int .i64 voice] 27))
  have hIb := hI.below HB.out hI.1
  have HP := Lib.hid (open_ok t.wide wind voice b o cap t.plots _ ⟨fun _ => ⟨b, o, rfl, hIb⟩, by omega⟩ hc ha)
  have HI := Lib.hid hI
  clear he hc ha hI hIb
  go_enter Try.func41, Try.ntmps41
  go_wp2_with fail
  refine HP.out.mono ?_
  rintro e w1 ⟨r, rfl, hD, hr, hB⟩
  have HB1 := Lib.hid (join HB.out hB)
  have hrl : r < w1.heap.size := dir_lt hD
  have HD := Lib.hid hD
  clear hB hD HP HB hr
  go_wp2_with fail
  obtain ⟨W2, hW2⟩ : ∃ W2, W2 = w1.alloc (.cells #[.int .i64 t.wide, .slice (some ⟨b, o, none⟩) t.plots.length cap, .int .i64 wind, .int .i64 voice, .map (some r), .func (.func 128) #[] #[]] 119) := ⟨_, rfl⟩
  have hbx : W2.heap[w1.heap.size]? = some (.cells #[.int .i64 t.wide, .slice (some ⟨b, o, none⟩) t.plots.length cap, .int .i64 wind, .int .i64 voice, .map (some r), .func (.func 128) #[] #[]] 119 (0, 0)) := by rw [hW2]; exact heap_alloc_last _ _
  have HB2 : Hid (Below w.heap.size w W2) := Lib.hid (by rw [hW2]; exact al HB1.out _)
  have HD2 : Hid (DirMap W2 r) := Lib.hid (by rw [hW2]; exact dir_al HD.out hrl _)
  rw [← hW2]
  have HBX := Lib.hid hbx
  have hbl2 : w1.heap.size < W2.heap.size := (Array.getElem?_eq_some_iff.1 hbx).1
  clear hW2 hbx HB1 HD hrl
  refine Rs.region_gen 6 [[], [], [1], [0, 1, 2], [0, 1, 2, 3], []] [some 20, some 21, some 22, some 23, some 24, some 25] (spDe (.agg #[.int .i64 t.wide, .slice (some ⟨b, o, none⟩) t.plots.length cap, .int .i64 wind, .int .i64 voice, .map (some r), .func (.func 128) #[] #[]]) t wind voice W2.heap.size) (by kernel_rfl) (by kernel_rfl) rfl (spDe_stable _ _ _ _ _) ?_ ?_
  · refine ⟨fun V w' hG hs => ?_, fun V w' hG hs => ?_, fun V w' hG hs => ?_, fun V w' hG hs => ?_, fun V w' hG hs => ?_, fun V w' hG hs => ?_, trivial⟩
    all_goals
      obtain ⟨c0, c1, c2, c3, c4, c5⟩ := voice_cells ((hG.block _ hbl2).trans HBX.out)
      rw [if_pos (by rfl)]
    · exact Rs.GrowL.value (v := .agg #[.int .i64 t.wide, .slice (some ⟨b, o, none⟩) t.plots.length cap, .int .i64 wind, .int .i64 voice, .map (some r), .func (.func 128) #[] #[]]) (w' := w') (by simp [go_sem, Rs.look, c0, c1, c2, c3, c4, c5]) (Rs.Gr.refl _) rfl
    · exact Rs.GrowL.value (v := .agg #[.int .i64 t.wide, .slice (some ⟨b, o, none⟩) t.plots.length cap, .int .i64 wind, .int .i64 voice, .map (some r), .func (.func 128) #[] #[]]) (w' := w') (by simp [go_sem, Rs.look, c0, c1, c2, c3, c4, c5]) (Rs.Gr.refl _) rfl
    · have e1 : V 1 = .agg #[.int .i64 t.wide, .slice (some ⟨b, o, none⟩) t.plots.length cap, .int .i64 wind, .int .i64 voice, .map (some r), .func (.func 128) #[] #[]] := hs 1 (by simp)
      refine Rs.GrowL.call (f := 101) (args := #[.agg #[.int .i64 t.wide, .slice (some ⟨b, o, none⟩) t.plots.length cap, .int .i64 wind, .int .i64 voice, .map (some r), .func (.func 128) #[] #[]]]) (by simp [go_sem, Rs.look, e1]) ?_
      refine (tables_any t ok wind voice w0 w4 b o cap r _ _ _ w' (HI.out.below (join HB2.out hG) HI.out.1) ((hG.block r (dir_lt HD2.out)).trans HD2.out)).mono ?_
      rintro e w2 ⟨vs, rfl, hT, hB2⟩
      exact ⟨_, rfl, hB2, vs, rfl, hT⟩
    · have e0 : V 0 = .agg #[.int .i64 t.wide, .slice (some ⟨b, o, none⟩) t.plots.length cap, .int .i64 wind, .int .i64 voice, .map (some r), .func (.func 128) #[] #[]] := hs 0 (by simp)
      obtain ⟨vs, e2, hT⟩ : ∃ vs, V 2 = .agg vs ∧ TabsTo t wind 30 w' vs := hs 2 (by simp)
      refine Rs.GrowL.call (f := 102) (args := #[.agg #[.int .i64 t.wide, .slice (some ⟨b, o, none⟩) t.plots.length cap, .int .i64 wind, .int .i64 voice, .map (some r), .func (.func 128) #[] #[]], .agg vs]) (by simp [go_sem, Rs.look, e0, e2]) ?_
      refine (listeners_any t ok wind voice b o cap _ 128 #[] (fun _ => true) vs w' (HI.out.below (join HB2.out hG) HI.out.1) hT (fun args W => rfl) (fun p hp W hW => (all_any p W).mono fun e w' ⟨h1, h2⟩ => ⟨h1, h2 ▸ Below.refl _ _⟩)).mono ?_
      rintro e w2 ⟨v, rfl, ho, hB2⟩
      obtain ⟨ob, cp, rfl⟩ := own_slice ho
      exact ⟨_, rfl, hB2, ob, cp, rfl, own_base ho (by have := hG.size; omega)⟩
    · obtain ⟨ob, cp, e3, ho⟩ : ∃ ob cp, V 3 = .slice ob (lis t wind voice fun _ => true).length cp ∧ w'.ownsRow W2.heap.size 135 31 (.slice ob (lis t wind voice fun _ => true).length cp) (lis t wind voice fun _ => true).length (lisV (lis t wind voice fun _ => true)) := hs 3 (by simp)
      exact Rs.GrowL.value (v := .int .i64 (lis t wind voice fun _ => true).length) (w' := w') (by simp [go_sem, Rs.look, e3]) (Rs.Gr.refl _) rfl
    · exact Rs.GrowL.value (v := .int .i64 0) (w' := w') (by simp [go_sem, Rs.look]) (Rs.Gr.refl _) rfl
  · intro V w5 hG hs
    have e0 : V 0 = .agg #[.int .i64 t.wide, .slice (some ⟨b, o, none⟩) t.plots.length cap, .int .i64 wind, .int .i64 voice, .map (some r), .func (.func 128) #[] #[]] := hs 0 (by omega)
    have e1 : V 1 = .agg #[.int .i64 t.wide, .slice (some ⟨b, o, none⟩) t.plots.length cap, .int .i64 wind, .int .i64 voice, .map (some r), .func (.func 128) #[] #[]] := hs 1 (by omega)
    obtain ⟨ob, cp, e3, ho⟩ : ∃ ob cp, V 3 = .slice ob (lis t wind voice fun _ => true).length cp ∧ w5.ownsRow W2.heap.size 135 31 (.slice ob (lis t wind voice fun _ => true).length cp) (lis t wind voice fun _ => true).length (lisV (lis t wind voice fun _ => true)) := hs 3 (by omega)
    have e4 : V 4 = .int .i64 (lis t wind voice fun _ => true).length := hs 4 (by omega)
    have e5 : V 5 = .int .i64 0 := hs 5 (by omega)
    simp only [Rs.canon, Rs.dstOf, List.range_succ, List.range_zero, List.nil_append, List.cons_append, List.foldl_cons, List.foldl_nil, List.drop_succ_cons, List.drop_zero, List.drop_nil, List.getElem?_toArray, List.getElem?_cons_succ, List.getElem?_cons_zero, Option.bind_some, Act.put, List.getD_cons_succ, List.getD_cons_zero, List.setIfInBounds_toArray, List.set_cons_succ, List.set_cons_zero]
    rw [e0, e1, e3, e4, e5]
    generalize V 2 = v2
    have HB5 := Lib.hid (join HB2.out hG)
    have hL30 := lis_30 t wind voice fun _ => true
    have hin := LiIn.of_own hL30 ho
    have hLl : (lis t wind voice fun _ => true).length ≤ 30 := by have := lisTo_len t wind voice (fun _ => true) t.len; have e : t.len = t.plots.length := rfl; unfold lis; omega
    obtain ⟨L, hL⟩ : ∃ L, L = lis t wind voice fun _ => true := ⟨_, rfl⟩
    have HD0 : Hid (deafOf t wind voice = deafTo L L.length) := Lib.hid (by rw [hL]; rfl)
    rw [← hL] at hin hLl hL30 ⊢
    have HIN := Lib.hid hin
    have HL30 := Lib.hid hL30
    clear e0 e1 e3 e4 e5 hs hG hL hin ho HD2 HBX hbl2 HB2 HI hL30
    go_wp2_with fail
    go_loopw [8, 25] (fun v i wr => ∃ k : Nat, k ≤ L.length ∧ i = .int .i64 k ∧ wr.ownsRow w5.heap.size 3 1 v (deafTo L k).length ((deafTo L k).map (Value.int .i64)) ∧ Below w5.heap.size w5 wr) (fun _ i _ => L.length - (intOf i).toNat)
    case atStart => exact ⟨0, by omega, rfl, own_none _ _ _ _, Below.refl _ _⟩
    case round =>
      obtain ⟨k, hk, rfl, hown, hB⟩ := hrel
      have HO := Lib.hid hown
      have HB := Lib.hid hB
      have hlen := deafTo_len L k
      have hz := hB.size
      by_cases hlt : k < L.length
      · obtain ⟨x, hx⟩ : ∃ x, L[k]? = some x := ⟨_, List.getElem?_eq_getElem hlt⟩
        have hx30 := HL30.out x (List.mem_of_getElem? hx)
        obtain ⟨g, rfl, hgl, hrg⟩ := (HIN.out.below hB) k x hx
        have HXK := Lib.hid hx
        obtain ⟨row, hrow⟩ : ∃ row, row = lisRow x := ⟨_, rfl⟩
        have hsz : (Try.prog.info? 135).map (·.size) = some row.length := by rw [hrow, lisRow_len hx30]; exact size135
        have hsz2 : (Try.prog.info? 135).map (·.size) = some row.toArray.size := by rw [hrow, List.size_toArray, lisRow_len hx30]; exact size135
        have hask := fun W => deaf_any x.1 x.2 hx30 W
        change ∀ W, Calls Try.prog 103 #[.agg (lisRow x).toArray] W _ at hask
        rw [← hrow] at hrg hask
        have hone : row.toArray.all (·.oneCell') = true := by
          rw [hrow, Array.all_eq_true]; intro i hi
          have : (lisRow x).toArray[i] ∈ lisRow x := by simp
          unfold lisRow at this
          rcases List.mem_cons.1 this with h | h
          · rw [show (lisRow x).toArray[i] = _ from h]; rfl
          · obtain ⟨b', _, hb⟩ := List.mem_map.1 h; rw [show (lisRow x).toArray[i] = _ from hb.symm]; rfl
        have hrow0 : row.toArray[0]? = some (.int .i64 x.1) := by rw [hrow]; rfl
        have HR0 := Lib.hid hrow0
        have HRG := Lib.hid hrg
        have HASK := Lib.hid hask
        have HSZ := Lib.hid hsz
        have HSZ2 := Lib.hid hsz2
        have hsz3 : row.toArray.size = 31 := by rw [hrow, List.size_toArray, lisRow_len hx30]
        have HSZ3 := Lib.hid hsz3
        have HON := Lib.hid hone
        have hlt' : (k : Int) < L.length := by omega
        generalize hdf : deafB x.2 = df at HASK
        have HDF := Lib.hid hdf
        clear hx hrow hsz3 hsz hsz2 hrg hask hone hown hB hdf hrow0
        have hll := fun W => heap_alloc_last W (.cells row.toArray 135)
        have HLL := Lib.hid hll
        clear hll
        go_wp2_with (first
          | (with_reducible refine wpList_load_mid rfl 135 _ rfl g (k * 31) rfl row _ HRG.out und135 rfl HSZ.out ?_)
          | (with_reducible refine wpList_store_new rfl 135 _ _ rfl _ row.toArray rfl rfl HSZ2.out ?hs HON.out ?_)
          | (with_reducible refine wpList_load_row rfl 135 _ rfl wr.heap.size rfl 135 row.toArray (0, 0) _ (HLL.out _) und135 rfl HSZ2.out ?_))
        case hs => exact (Hid.out HSZ3).symm
        refine (HASK.out _).mono ?_
        rintro e w6 ⟨rfl, hB5⟩
        have HB5' := Lib.hid (join (al HB.out _) hB5)
        have hc6 : w6.cell? ⟨wr.heap.size, 0, none⟩ = some (.int .i64 x.1) := by
          have := (hB5.block wr.heap.size (by simp)).trans (HLL.out wr)
          rw [cell_of_row _ _ _ _ _ _ this]; exact HR0.out
        have hl6 : wr.heap.size < w6.heap.size := Nat.lt_of_lt_of_le (by simp) hB5.size
        have HO6 := Lib.hid (own_below (own_below HO.out (below1 wr _)) hB5)
        clear hB5
        cases df with
        | false =>
          go_wp2_with fail
          go_roundw
          case rel => exact ⟨k + 1, by omega, by simp, by rw [deafTo_no HXK.out HDF.out]; exact HO6.out, HB5'.out⟩
          case measure => simp [intOf]; omega
        | true =>
          go_wp2_with (at_builtin; refine wpList_append_own _ rfl _ _ 31 rfl w5.heap.size 3 i0 (.int .i64 0) 1 8 A_und31 hi hz0 hz1 hz2 rfl (by decide) _ _ _ rfl (HO6.out.alloc _) ⟨w6.heap.size, 0, none⟩ 1 1 [.int .i64 (x.1 : Int)] rfl rfl ?d1 ?d2 ?d3 ?d4 ?d5 ?_)
          case d1 =>
            intro j u hj
            match j, hj with
            | 0, hj => simp at hj; subst hj; simp [Addr.add]
          case d2 => intro u hu; simp at hu; subst hu; rfl
          case d3 => unfold maxLen; omega
          case d4 => omega
          case d5 => simp; omega
          intro v' w8 hown8 hgrow _
          have hB8 := below_grown (al2 HB5'.out (by omega) _) (HO6.out.alloc _) (Nat.le_refl _) (by simp; omega) hgrow
          have HO8 := Lib.hid hown8
          have HB8 := Lib.hid hB8
          clear hgrow hown8 hB8
          go_wp2_with fail
          go_roundw
          case rel => exact ⟨k + 1, by omega, by simp, by rw [deafTo_yes HXK.out HDF.out]; simpa using HO8.out, HB8.out⟩
          case measure => simp [intOf]; omega
      · obtain rfl : k = L.length := by omega
        clear hown hB
        go_wp2_with fail
        go_ret2
        exact ⟨_, rfl, by rw [HD0.out]; exact own_base HO.out HB5.out.size, join HB5.out HB.out⟩
/-- what Deaf tells -/
def deafL (wd : Int) (xs : List Int) (wind voice : Int) : List Int := if openErr wd xs wind voice = 0 then deafOf (townOf wd xs) wind voice else []
theorem Deaf_any (wd wind voice : Int) (a : Option Addr) (cap : Nat) (xs : List Int) (hl : xs.length ≤ 1000000) (w : World) (hR : RdI w (.slice a xs.length cap) xs) :
    Calls Try.prog 41 #[.agg #[.int .i64 wd, .slice a xs.length cap], .agg #[.int .i64 wind, .int .i64 voice]] w fun e w' => ∃ v, e = .returned (.tuple #[v, .int .i64 (openErr wd xs wind voice)]) ∧ w'.ownsRow w.heap.size 3 1 v (deafL wd xs wind voice).length ((deafL wd xs wind voice).map (Value.int .i64)) ∧ Below w.heap.size w w' := by
  by_cases h : openErr wd xs wind voice = 0
  · obtain ⟨h1, h2⟩ := openErr_ok h
    have hne : xs ≠ [] := by rintro rfl; have := (check_len h1).2; simp at this
    obtain ⟨b, o, rfl, _, hI⟩ := rd_ints hR hne
    obtain ⟨t, -, hw', hx, ok⟩ := town_name h1
    subst hw' hx
    have e1 : deafL t.wide t.plots wind voice = deafOf t wind voice := by unfold deafL; rw [if_pos h, townOf_self]
    rw [e1, h]
    exact Deaf_yes t ok wind voice h b o cap w hI
  · have e1 : deafL wd xs wind voice = [] := if_neg h
    rw [e1]
    refine (Deaf_no wd wind voice a cap xs hl w hR h).mono ?_
    rintro e w' ⟨rfl, hB⟩
    exact ⟨_, rfl, own_none _ _ _ _, hB⟩
end Go.Proofs.Ytimedmkpenbmkaa

namespace Go.Proofs.Ytimedmkpenbmkaa
open Go.RowKit Go.Shelf
set_option linter.unusedSimpArgs false
set_option linter.unusedVariables false

/-- the error of a town, an air, and houses -/
def quarterE (wd : Int) (xs : List Int) (wind voice : Int) (hs : List Int) : Int := if openErr wd xs wind voice ≠ 0 then openErr wd xs wind voice else (qAll xs (List.replicate 30 false) hs).1
theorem oq_err (wd wind voice : Int) (a a2 : Option Addr) (cap hcap : Nat) (xs hs : List Int) (hl : xs.length ≤ 1000000) (w : World) (hR : RdI w (.slice a xs.length cap) xs) (hH : RdI w (.slice a2 hs.length hcap) hs) (hq : quarterE wd xs wind voice hs ≠ 0) :
    OQerr w wd wind voice (.slice a xs.length cap) (.slice a2 hs.length hcap) (quarterE wd xs wind voice hs) := by
  refine ⟨hq, fun W hB => ?_⟩
  unfold quarterE at *
  by_cases h0 : openErr wd xs wind voice = 0
  · rw [if_neg (by rw [h0]; simp)] at hq ⊢
    obtain ⟨hc, ha⟩ := openErr_ok h0
    have hn := (check_len hc).1
    have hne : xs ≠ [] := by rintro rfl; have := (check_len hc).2; simp at this
    obtain ⟨b, o, rfl, -, hI⟩ := rd_ints hR hne
    refine openQ_q wd wind voice b o cap xs _ _ (qAll xs (List.replicate 30 false) hs).2 W (rd_plots (hR.below hB) hl) (hI.below hB hI.1) ?_ hc ha hq
    intro A N W' hQ hB' hN
    by_cases h1 : hs = []
    · subst h1; exact absurd rfl hq
    · obtain ⟨hb, ho, rfl, -, hI2⟩ := rd_ints hH h1
      have hB2 := join hB (hB'.mono (Nat.le_refl _))
      refine (firstQ_any wd b o cap xs hn A N hb ho hcap hs (by have := hH.1; omega) _ W' hQ (hI2.below hB2 hI2.1) (by have := hI2.1; have := hB.size; omega)).mono ?_
      rintro e w' ⟨rfl, h1, h2⟩
      exact ⟨rfl, h1, h2⟩
  · rw [if_pos h0]
    exact openQ_err wd wind voice a cap xs _ W (rd_plots (hR.below hB) hl) h0

/-- whether a house hears one stand and no other one -/
def onlyL (s : Nat) : List Bool := (List.replicate 30 false).set s true
def onlyB (s : Nat) (es : List Bool) : Bool := decide (es = onlyL s)
def OnlyAt (w : World) (M s : Nat) : Prop := w.heap[M]? = some (.cells ((onlyL s).map Value.bool).toArray 128 (0, 0))
theorem OnlyAt.below {w w' : World} {M s : Nat} (h : OnlyAt w M s) (hB : Below w.heap.size w w') : OnlyAt w' M s := (hB.block _ (Array.getElem?_eq_some_iff.1 h).1).trans h
theorem onlyL_len (s : Nat) : (onlyL s).length = 30 := by unfold onlyL; simp

set_option maxHeartbeats 1000000 in
set_option maxRecDepth 100000 in
theorem onlyHears_any (s : Nat) (hs : s < 30) (w : World) :
    Calls Try.prog 112 #[.int .i64 s] w fun e w' => e = .returned (.func (.func 142) #[] #[.pointer (some ⟨w.heap.size, 0, none⟩)]) ∧ OnlyAt w' w.heap.size s ∧ Below w.heap.size w w' := by
  have hs' : (s : Int) < 30 := by omega
  go_enter Try.func112, Try.ntmps112
  go_wp2
  go_ret
  refine ⟨rfl, ?_, below1 _ _⟩
  unfold OnlyAt onlyL
  rw [heap_alloc_last, List.map_set]
  rfl

set_option maxHeartbeats 1000000 in
set_option maxRecDepth 100000 in
theorem only_any (h : Int) (es : List Bool) (hel : es.length = 30) (s M : Nat) (w : World) (hM : OnlyAt w M s) :
    Calls Try.prog 142 #[.agg (Value.int .i64 h :: es.map .bool).toArray, .pointer (some ⟨M, 0, none⟩)] w fun e w' => e = .returned (.bool (onlyB s es)) ∧ Below w.heap.size w w' := by
  obtain ⟨cs, hcs⟩ : ∃ cs, cs = es.map Value.bool := ⟨_, rfl⟩
  obtain ⟨ms, hms⟩ : ∃ ms, ms = (onlyL s).map Value.bool := ⟨_, rfl⟩
  have hcl : (Try.prog.info? 128).map (·.size) = some cs.length := by rw [hcs, List.length_map, hel]; exact size128
  have hml : (Try.prog.info? 128).map (·.size) = some ms.toArray.size := by rw [hms, List.size_toArray, List.length_map, onlyL_len]; exact size128
  have hr : ∀ W o1, W = w → (W.alloc (.cells (Value.int .i64 h :: cs).toArray o1)).rangeAt w.heap.size 1 cs := fun W o1 hW j v hv => by
    subst hW
    rw [cell_of_row _ _ _ _ _ _ (heap_alloc_last _ _), Nat.add_comm]; simpa using hv
  have hM2 : ∀ o1, (w.alloc o1).heap[M]? = some (.cells ms.toArray 128 (0, 0)) := fun o1 => by
    rw [hms]; exact (Below.heap_alloc _ _ _ (Array.getElem?_eq_some_iff.1 hM).1).trans hM
  have HCL := Lib.hid hcl
  have HML := Lib.hid hml
  have HCS := Lib.hid hcs
  have HMS := Lib.hid hms
  have HM2 := Lib.hid hM2
  rw [← hcs]
  clear hcl hcs hml hms hM hM2
  go_enter Try.func142, Try.ntmps142
  have hq : ∀ W, (binOp .eql 128 (.agg cs.toArray) (.agg ms.toArray)).run Try.prog W = .ok (.bool (onlyB s es)) W := fun W => by
    rw [HCS.out, HMS.out]; exact run_eq128 es (onlyL s) hel (onlyL_len s) W
  have hg : ∀ (x y : Operand) u v W, (eqGuard .eql 128 x y (.agg u) (.agg v)).run Try.prog W = .ok () W := fun x y u v W => run_eqGuard_agg W .eql 128 x y u v guard128
  have HQ := Lib.hid hq
  have HG := Lib.hid hg
  clear hq hg
  go_wp2_with (first
    | (with_reducible refine wpList_load_mid rfl 128 _ rfl w.heap.size 1 rfl cs _ (hr _ _ rfl) und128 rfl HCL.out ?_)
    | (with_reducible refine wpList_load_row rfl 128 _ rfl M rfl 128 ms.toArray (0, 0) _ (HM2.out _) und128 rfl HML.out ?_)
    | (refine wpList_bin rfl .eql 128 128 _ _ rfl (.agg cs.toArray) (.agg ms.toArray) (.bool (onlyB s es)) rfl rfl (HG.out _ _ _ _ _) (HQ.out _) ?_))
  go_ret
  exact ⟨rfl, below1 _ _⟩

/-- whether one of the first houses hears that stand alone -/
def anyTo (s : Nat) (l : List (Nat × List Bool)) (k : Nat) : Bool := (l.take k).any fun x => onlyB s x.2
def IdxOnly (s : Nat) (l : List (Nat × List Bool)) (w : World) (e : Ending) (w' : World) : Prop := ∃ z : Int, e = .returned (.int .i64 z) ∧ decide (z ≥ 0) = anyTo s l l.length ∧ Below w.heap.size w w'
set_option maxHeartbeats 1000000 in
set_option maxRecDepth 100000 in
theorem indexOnly_any (ob : Option Addr) (cap : Nat) (l : List (Nat × List Bool)) (hl : ∀ y ∈ l, y.2.length = 30) (hlen : l.length ≤ 30) (s M : Nat) (w : World) (hI : LiIn w ob l) (hM : OnlyAt w M s) :
    Calls Try.prog 141 #[.slice ob l.length cap, .func (.func 142) #[] #[.pointer (some ⟨M, 0, none⟩)]] w (IdxOnly s l w) := by
  have HIN := Lib.hid hI
  have HM := Lib.hid hM
  have HL30 := Lib.hid hl
  clear hI hM hl
  go_enter Try.func141, Try.ntmps141
  go_wp2_with fail
  go_loopw [8] (fun i wr => ∃ k : Nat, k ≤ l.length ∧ i = .int .i64 k ∧ anyTo s l k = false ∧ Below w.heap.size w wr) (fun i _ => l.length - (intOf i).toNat)
  case atStart => exact ⟨0, Nat.zero_le _, rfl, by unfold anyTo; simp, Below.refl _ _⟩
  case round =>
    obtain ⟨k, hk, rfl, hA, hB⟩ := hrel
    have HA := Lib.hid hA
    have HB := Lib.hid hB
    by_cases hlt : k < l.length
    · obtain ⟨x, hx⟩ : ∃ x, l[k]? = some x := ⟨_, List.getElem?_eq_getElem hlt⟩
      have hx30 := HL30.out x (List.mem_of_getElem? hx)
      obtain ⟨g, rfl, hgl, hrg⟩ := (HIN.out.below hB) k x hx
      have hstep : anyTo s l (k + 1) = (anyTo s l k || onlyB s x.2) := by unfold anyTo; rw [List.take_add_one, hx, List.any_append]; simp
      have hmon : anyTo s l (k + 1) = true → anyTo s l l.length = true := fun h => by
        unfold anyTo at *
        rw [List.any_eq_true] at h ⊢
        obtain ⟨y, hy, h2⟩ := h
        exact ⟨y, by rw [List.take_length]; exact List.mem_of_mem_take hy, h2⟩
      have HST := Lib.hid (And.intro hstep hmon)
      obtain ⟨row, hrow⟩ : ∃ row, row = lisRow x := ⟨_, rfl⟩
      have hsz : (Try.prog.info? 135).map (·.size) = some row.length := by rw [hrow, lisRow_len hx30]; exact size135
      have hask := fun W (hW : OnlyAt W M s) => only_any x.1 x.2 hx30 s M W hW
      change ∀ W, OnlyAt W M s → Calls Try.prog 142 #[.agg (lisRow x).toArray, .pointer (some ⟨M, 0, none⟩)] W _ at hask
      rw [← hrow] at hrg hask
      have HRG := Lib.hid hrg
      have HASK := Lib.hid hask
      have HSZ := Lib.hid hsz
      have hlt' : (k : Int) < l.length := by omega
      generalize hdf : onlyB s x.2 = df at HASK HST
      clear hx hrow hsz hrg hask hstep hmon hA hB hdf
      go_wp2_with (with_reducible refine wpList_load_mid rfl 135 _ rfl g (k * 31) rfl row _ HRG.out und135 rfl HSZ.out ?_)
      refine (HASK.out _ (HM.out.below HB.out)).mono ?_
      rintro e w5 ⟨rfl, hB5⟩
      have HB5 := Lib.hid (join HB.out hB5)
      clear hB5
      cases df with
      | false =>
        have HA1 : Hid (anyTo s l (k + 1) = false) := Lib.hid (by rw [HST.out.1, HA.out]; rfl)
        go_wp2_with fail
        go_roundw
        case rel => exact ⟨k + 1, by omega, by simp, HA1.out, HB5.out⟩
        case measure => simp [intOf]; omega
      | true =>
        have HA1 : Hid (anyTo s l l.length = true) := Lib.hid (HST.out.2 (by rw [HST.out.1, HA.out]; rfl))
        go_wp2_with fail
        go_ret
        exact ⟨k, rfl, by rw [HA1.out]; simp, HB5.out⟩
    · obtain rfl : k = l.length := by omega
      clear hA hB
      go_wp2_with fail
      go_ret
      exact ⟨-1, rfl, by rw [HA.out]; rfl, HB.out⟩
set_option maxHeartbeats 1000000 in
theorem containsOnly_any (ob : Option Addr) (cap : Nat) (l : List (Nat × List Bool)) (hl : ∀ y ∈ l, y.2.length = 30) (hlen : l.length ≤ 30) (s M : Nat) (w : World) (hI : LiIn w ob l) (hM : OnlyAt w M s) :
    Calls Try.prog 111 #[.slice ob l.length cap, .func (.func 142) #[] #[.pointer (some ⟨M, 0, none⟩)]] w fun e w' => e = .returned (.bool (anyTo s l l.length)) ∧ Below w.heap.size w w' := by
  have HX := Lib.hid (indexOnly_any ob cap l hl hlen s M w hI hM)
  clear hl hI hM
  go_enter Try.func111, Try.ntmps111
  go_wp2_with fail
  refine HX.out.mono ?_
  rintro e w1 ⟨z, rfl, hz, hB⟩
  have HZ := Lib.hid hz
  have HB := Lib.hid hB
  clear hz hB HX
  go_wp2
  go_ret
  exact ⟨by show Ending.returned (.bool (decide (z ≥ 0))) = _; rw [HZ.out], HB.out⟩

/-- the stands that a house hears alone -/
def mustTo (l : List (Nat × List Bool)) (k : Nat) : List Int := ((List.range k).filter fun s => anyTo s l l.length).map fun (p : Nat) => (p : Int)
theorem mustTo_yes {l : List (Nat × List Bool)} {k : Nat} (e : anyTo k l l.length = true) : mustTo l (k + 1) = mustTo l k ++ [(k : Int)] := by
  unfold mustTo; rw [List.range_succ, List.filter_append, List.filter_cons, if_pos e]; simp
theorem mustTo_no {l : List (Nat × List Bool)} {k : Nat} (e : anyTo k l l.length = false) : mustTo l (k + 1) = mustTo l k := by
  unfold mustTo; rw [List.range_succ, List.filter_append, List.filter_cons, if_neg (by rw [e]; simp)]; simp
theorem mustTo_len (l : List (Nat × List Bool)) (k : Nat) : (mustTo l k).length ≤ k := by
  unfold mustTo
  have := List.length_filter_le (fun s => anyTo s l l.length) (List.range k)
  simp at this ⊢; omega

set_option maxHeartbeats 1000000 in
set_option maxRecDepth 100000 in
theorem Must_err (wd wind voice : Int) (pl : Value) (hv : Value) (E : Int) (w : World) (hOQ : OQerr w wd wind voice pl hv E) :
    Calls Try.prog 48 #[.agg #[.int .i64 wd, pl], .agg #[.int .i64 wind, .int .i64 voice], hv] w fun e w' => e = .returned (.tuple #[.slice none 0 0, .int .i64 E]) ∧ Below w.heap.size w w' := by
  have hE : (E != 0) = true := by simpa using hOQ.1
  have HOQ := Lib.hid hOQ
  clear hOQ
  have hB2 : ∀ o1 o2, Below w.heap.size w ((w.alloc o1).alloc o2) := fun o1 o2 => al (al (Below.refl _ _) _) _
  go_enter Try.func48, Try.ntmps48
  go_wp2_with fail
  refine (hearers_err wd wind voice pl hv E _ (HOQ.out.below (hB2 _ _))).mono ?_
  rintro e w1 ⟨rfl, hB⟩
  have HB := Lib.hid (join (hB2 _ _) hB)
  clear hB hB2
  go_wp2
  go_ret2
  exact ⟨rfl, HB.out⟩

set_option maxHeartbeats 4000000 in
set_option maxRecDepth 100000 in
theorem Must_ok (t : Hr.Town) (hok : t.Ok) (wind voice : Int) (hw0 : 0 ≤ wind) (hw4 : wind ≤ 4) (b o cap : Nat) (hv : Value) (nm : List Bool) (hnl : nm.length = 30) (w : World) (hI : Ints w b o t.plots)
    (hOQ : OQ w t.wide wind voice (.slice (some ⟨b, o, none⟩) t.plots.length cap) hv nm) :
    Calls Try.prog 48 #[.agg #[.int .i64 t.wide, .slice (some ⟨b, o, none⟩) t.plots.length cap], .agg #[.int .i64 wind, .int .i64 voice], hv] w fun e w' =>
      ∃ v, e = .returned (.tuple #[v, .int .i64 (firstE (lis t wind voice (nm.getD · false)))]) ∧ Below w.heap.size w w' ∧ (firstE (lis t wind voice (nm.getD · false)) ≠ 0 → v = .slice none 0 0) ∧
        (firstE (lis t wind voice (nm.getD · false)) = 0 → w'.ownsRow w.heap.size 3 1 v (mustTo (lis t wind voice (nm.getD · false)) t.plots.length).length ((mustTo (lis t wind voice (nm.getD · false)) t.plots.length).map (Value.int .i64))) := by
  obtain ⟨i0, hi, hz0, hz1, hz2⟩ := info_parts A_info3
  have HI := Lib.hid hI
  have HOQ := Lib.hid hOQ
  have hbl := hI.1
  have h30 : t.plots.length ≤ 30 := hok.n30
  have hlen : (lis t wind voice (nm.getD · false)).length ≤ 30 := Nat.le_trans (lisTo_len t wind voice _ t.len) hok.n30
  obtain ⟨hl1, hl2⟩ := lis_row t wind voice (nm.getD · false)
  have hHR := fun w2 (h1 : Below w.heap.size w w2) => hearers_ok t hok wind voice hw0 hw4 b o cap hv nm hnl w2 (hI.below h1 hbl) (hOQ.below h1)
  obtain ⟨L, hL⟩ : ∃ L, L = lis t wind voice (nm.getD · false) := ⟨_, rfl⟩
  rw [← hL] at hlen hl1 hl2 hHR ⊢
  have HHR := Lib.hid hHR
  have HL1 := Lib.hid hl1
  have hB2 : ∀ o1 o2, Below w.heap.size w ((w.alloc o1).alloc o2) := fun o1 o2 => al (al (Below.refl _ _) _) _
  have hx0 : ((w.alloc (.cells #[.int .i64 t.wide, .slice (some ⟨b, o, none⟩) t.plots.length cap] 24)).alloc (.cells #[.int .i64 wind, .int .i64 voice] 27)).heap[w.heap.size]? = some (.cells #[.int .i64 t.wide, .slice (some ⟨b, o, none⟩) t.plots.length cap] 24 (0, 0)) := (Below.heap_alloc _ _ _ (by simp)).trans (heap_alloc_last _ _)
  have HX0 := Lib.hid hx0
  clear hI hOQ hHR hl1 hl2 hL hx0
  go_enter Try.func48, Try.ntmps48
  go_wp2_with fail
  refine (HHR.out _ (hB2 _ _)).mono ?_
  rintro e w1 ⟨v, rfl, hB, hne, hz⟩
  have hzb : w.heap.size ≤ w1.heap.size := by have := (join (hB2 (.cells #[.int .i64 t.wide, .slice (some ⟨b, o, none⟩) t.plots.length cap] 24) (.cells #[.int .i64 wind, .int .i64 voice] 27)) hB).size; exact this
  have hx1 := (hB.block w.heap.size (by simp; omega)).trans HX0.out
  obtain ⟨k0, k1⟩ := blk_cells2 hx1
  have hx1l : w.heap.size < w1.heap.size := (Array.getElem?_eq_some_iff.1 hx1).1
  have HB := Lib.hid (join (hB2 _ _) hB)
  obtain ⟨E, hE⟩ : ∃ E, E = firstE L := ⟨_, rfl⟩
  rw [← hE] at hne hz
  have HZ := Lib.hid hz
  have HN := Lib.hid hne
  have HEQ := Lib.hid hE
  rw [← hE]
  clear hB hB2 hne hz hE hx1 HX0
  by_cases h0 : E = 0
  · subst h0
    have hown := HZ.out rfl
    obtain ⟨ob, cp, rfl⟩ := own_slice hown
    have hin := LiIn.of_own HL1.out hown
    have HIN := Lib.hid hin
    clear hown hin HZ HN
    go_wp2_with fail
    clear k0 k1 hx1l
    go_loopw [10, 25] (fun s10 i wr => ∃ (k : Nat) (c : Value), k ≤ t.plots.length ∧ i = .int .i64 k ∧ c = s10 ∧ wr.ownsRow w1.heap.size 3 1 c (mustTo L k).length ((mustTo L k).map (Value.int .i64)) ∧ Below w1.heap.size w1 wr) (fun _ i _ => t.plots.length - (intOf i).toNat)
    case atStart => exact ⟨0, _, Nat.zero_le _, rfl, rfl, own_none _ _ _ _, Below.refl _ _⟩
    case round =>
      obtain ⟨k, c, hk, rfl, rfl, hown, hB⟩ := hrel
      have HO := Lib.hid hown
      have HBr := Lib.hid hB
      have hlm := mustTo_len L k
      have hsz := hB.size
      clear hown hB
      by_cases hlt : k < t.plots.length
      · have hlt' : (k : Int) < t.plots.length := by omega
        go_wp2_with fail
        refine (onlyHears_any k (by omega) wr).mono ?_
        rintro e w5 ⟨rfl, hM, hB5⟩
        have HM := Lib.hid hM
        have HB5 := Lib.hid (HBr.out.trans (hB5.mono hsz))
        have HO5 := Lib.hid (own_below HO.out hB5)
        have hsz5 := Nat.le_trans hsz hB5.size
        clear hM hB5
        go_wp2_with fail
        refine (containsOnly_any ob cp L HL1.out hlen k _ w5 (HIN.out.below HB5.out) HM.out).mono ?_
        rintro e w6 ⟨rfl, hB6⟩
        have HB6 := Lib.hid (HB5.out.trans (hB6.mono hsz5))
        have HO6 := Lib.hid (own_below HO5.out hB6)
        have hsz6 := Nat.le_trans hsz5 hB6.size
        generalize han : anyTo k L L.length = an
        have HAN := Lib.hid han
        clear hB6 han
        cases an with
        | false =>
          go_wp2_with fail
          go_roundw
          case rel => exact ⟨k + 1, _, by omega, by simp, rfl, by rw [mustTo_no HAN.out]; exact HO6.out, HB6.out⟩
          case measure => simp [intOf]; omega
        | true =>
          go_wp2_with (at_builtin; refine wpList_append_own _ rfl _ _ 31 rfl w1.heap.size 3 i0 (.int .i64 0) 1 8 A_und31 hi hz0 hz1 hz2 rfl (by decide) _ _ _ rfl (HO6.out.alloc _) ⟨w6.heap.size, 0, none⟩ 1 1 [.int .i64 (k : Int)] rfl rfl ?d1 ?d2 ?d3 ?d4 ?d5 ?_)
          (try (case d1 => intro j u hj; match j, hj with | 0, hj => simp at hj; subst hj; simp [Addr.add]))
          case d2 => first | rfl | (intro u hu; simp at hu; subst hu; rfl)
          case d3 => unfold maxLen; omega
          case d4 => omega
          case d5 => first | omega | (simp; omega)
          intro v' w8 hown8 hgrow _
          have HB8 := Lib.hid (below_grown (al2 HB6.out hsz6 (.cells #[.int .i64 (k : Int)] 3)) (HO6.out.alloc _) (Nat.le_refl _) (by simp; omega) hgrow)
          have HO8 := Lib.hid hown8
          clear hown8 hgrow
          go_wp2_with fail
          go_roundw
          case rel => exact ⟨k + 1, _, by omega, by simp, rfl, by rw [mustTo_yes HAN.out]; simpa using HO8.out, HB8.out⟩
          case measure => simp [intOf]; omega
      · obtain rfl : k = t.plots.length := by omega
        have HBE := Lib.hid (join HB.out HBr.out)
        go_wp2_with fail
        go_ret2
        exact ⟨_, by rw [← HEQ.out]; rfl, HBE.out, fun h => absurd HEQ.out.symm h, fun _ => own_base HO.out hzb⟩
  · have h0' : (E != 0) = true := by simpa using h0
    have H0 := Lib.hid h0
    have hv0 := HN.out h0
    clear h0 HZ HN
    go_wp2_with fail
    go_ret2
    exact ⟨.slice none 0 0, by rw [← HEQ.out]; rfl, HB.out, fun _ => rfl, fun h => absurd (HEQ.out.trans h) H0.out⟩
end Go.Proofs.Ytimedmkpenbmkaa

namespace Go.Proofs.Ytimedmkpenbmkaa
open Go.RowKit Go.Shelf
set_option linter.unusedSimpArgs false
set_option linter.unusedVariables false

/-! DeleteFunc of ints -/
/-- a closure that tells a bool of a number, and writes nothing below -/
def Entered (F : FuncId) : Prop := ∀ args w, (callFunc F args).run Try.prog w = .ok (.enter F args) w
def AskI (F : FuncId) (E : Value) (p : Int → Bool) (w : World) : Prop := ∀ h : Int, Calls Try.prog F #[.int .i64 h, E] w fun e w' => e = .returned (.bool (p h)) ∧ Below w.heap.size w w'

def idxOk (p : Int → Bool) (xs : List Int) (z : Int) : Prop := (z = -1 ∧ ∀ i, i < xs.length → p (xs.getD i 0) = false) ∨ ∃ k : Nat, z = k ∧ k < xs.length ∧ p (xs.getD k 0) = true ∧ ∀ i, i < k → p (xs.getD i 0) = false

set_option maxHeartbeats 1000000 in
set_option maxRecDepth 100000 in
theorem indexFuncI (F : FuncId) (hF : Entered F) (E : Value) (p : Int → Bool) (b o n cap : Nat) (xs : List Int) (hn : n = xs.length) (hl : xs.length ≤ 1000000) (w : World) (hI : Ints w b o xs) (hp : ∀ W, Below w.heap.size w W → AskI F E p W) :
    Calls Try.prog 119 #[.slice (some ⟨b, o, none⟩) n cap, .func (.func F) #[] #[E]] w fun e w' => ∃ z : Int, e = .returned (.int .i64 z) ∧ idxOk p xs z ∧ Below w.heap.size w w' := by
  have HI := Lib.hid hI
  have HP := Lib.hid hp
  have HN := Lib.hid hn
  rw [← hn] at hl
  clear hI hp hn
  go_enter Try.func119, Try.ntmps119
  go_wp2_with fail
  go_loopw [8] (fun i wr => ∃ k : Nat, k ≤ n ∧ i = .int .i64 k ∧ (∀ i, i < k → p (xs.getD i 0) = false) ∧ Below w.heap.size w wr) (fun i _ => n - (intOf i).toNat)
  case atStart => exact ⟨0, Nat.zero_le _, rfl, fun i hi => absurd hi (Nat.not_lt_zero _), Below.refl _ _⟩
  case round =>
    obtain ⟨k, hk, rfl, hA, hB⟩ := hrel
    obtain ⟨wk, rfl⟩ : ∃ wk : World, wk = wr := ⟨_, rfl⟩
    have HA := Lib.hid hA
    have HB := Lib.hid hB
    by_cases hlt : k < n
    · have hlt' : (k : Int) < n := by omega
      have hI := HI.out.below hB HI.out.1
      have hcell := hI.2 k (by have := HN.out; omega)
      have hbl := hI.1
      obtain ⟨h, hh⟩ : ∃ h, h = xs.getD k 0 := ⟨_, rfl⟩
      rw [← hh] at hcell
      have HH := Lib.hid hh
      have HASK := Lib.hid (HP.out wk hB h)
      clear hA hB hI hh
      go_wp2_with fail
      rw [hF, Oper.upon_enter]
      refine HASK.out.mono ?_
      rintro e w5 ⟨rfl, hB5⟩
      have HB5 := Lib.hid (join HB.out hB5)
      clear hB5 hcell hbl
      obtain ⟨d, hd⟩ : ∃ d, d = p h := ⟨_, rfl⟩
      have HD := Lib.hid hd
      rw [← hd]
      clear hd HASK
      cases d with
      | false =>
        go_wp2_with fail
        go_roundw
        case rel =>
          refine ⟨k + 1, by omega, by simp, fun i hi => ?_, HB5.out⟩
          by_cases hik : i = k
          · rw [hik, ← HH.out]; exact HD.out.symm
          · exact HA.out i (by omega)
        case measure => simp [intOf]; omega
      | true =>
        go_wp2_with fail
        go_ret
        exact ⟨k, rfl, .inr ⟨k, rfl, by have := HN.out; omega, by rw [← HH.out]; exact HD.out.symm, HA.out⟩, HB5.out⟩
    · obtain rfl : k = n := by omega
      clear hA hB
      go_wp2_with fail
      go_ret
      exact ⟨-1, rfl, .inl ⟨rfl, by rw [← HN.out]; exact HA.out⟩, HB.out⟩

def keptTo (p : Int → Bool) (xs : List Int) (j : Nat) : List Int := (xs.take j).filter fun h => !(p h)
theorem keptTo_yes {p : Int → Bool} {xs : List Int} {j : Nat} (h : j < xs.length) (e : p (xs.getD j 0) = false) : keptTo p xs (j + 1) = keptTo p xs j ++ [xs.getD j 0] := by
  unfold keptTo
  rw [List.getD_eq_getElem?_getD, List.getElem?_eq_getElem h] at e ⊢
  rw [List.take_add_one, List.getElem?_eq_getElem h, List.filter_append]
  simp at e
  simp [e]
theorem keptTo_no {p : Int → Bool} {xs : List Int} {j : Nat} (h : j < xs.length) (e : p (xs.getD j 0) = true) : keptTo p xs (j + 1) = keptTo p xs j := by
  unfold keptTo
  rw [List.getD_eq_getElem?_getD, List.getElem?_eq_getElem h] at e
  rw [List.take_add_one, List.getElem?_eq_getElem h, List.filter_append]
  simp at e
  simp [e]
theorem keptTo_all {p : Int → Bool} {xs : List Int} {k : Nat} (hk : k ≤ xs.length) (h : ∀ i, i < k → p (xs.getD i 0) = false) : keptTo p xs k = xs.take k := by
  unfold keptTo
  rw [List.filter_eq_self]
  intro a ha
  obtain ⟨i, hi, rfl⟩ := List.getElem_of_mem ha
  have hi' : i < k := by simp at hi; omega
  have := h i hi'
  rw [List.getD_eq_getElem?_getD, List.getElem?_eq_getElem (by omega)] at this
  simp at this
  simp [this]
/-- what the row holds when kept of the first j are moved to its front -/
structure KeptAt2 (p : Int → Bool) (xs T : List Int) (i j : Nat) : Prop where
  len : T.length = xs.length
  lt : i < j
  le : j ≤ xs.length
  num : i = (keptTo p xs j).length
  front : T.take i = keptTo p xs j
  back : ∀ q, j ≤ q → q < xs.length → T.getD q 0 = xs.getD q 0
theorem KeptAt2.start {p : Int → Bool} {xs : List Int} {k : Nat} (hk : k < xs.length) (h1 : p (xs.getD k 0) = true) (h0 : ∀ i, i < k → p (xs.getD i 0) = false) : KeptAt2 p xs xs k (k + 1) := by
  have e : keptTo p xs (k + 1) = xs.take k := by rw [keptTo_no hk h1, keptTo_all (by omega) h0]
  exact ⟨rfl, by omega, by omega, by rw [e, List.length_take]; omega, e.symm, fun _ _ _ => rfl⟩
theorem KeptAt2.skip {p : Int → Bool} {xs T : List Int} {i j : Nat} (h : KeptAt2 p xs T i j) (hj : j < xs.length) (e : p (xs.getD j 0) = true) : KeptAt2 p xs T i (j + 1) := by
  have e := keptTo_no hj e
  exact ⟨h.len, by have := h.lt; omega, by omega, by rw [e]; exact h.num, by rw [e]; exact h.front, fun q hq hq2 => h.back q (by omega) hq2⟩
theorem KeptAt2.take {p : Int → Bool} {xs T : List Int} {i j : Nat} (h : KeptAt2 p xs T i j) (hj : j < xs.length) (e : p (xs.getD j 0) = false) : KeptAt2 p xs (T.set i (xs.getD j 0)) (i + 1) (j + 1) := by
  have e := keptTo_yes hj e
  have hlt := h.lt
  have hle := h.le
  have hlen := h.len
  refine ⟨by rw [List.length_set]; exact h.len, by omega, by omega, by rw [e, List.length_append, ← h.num]; rfl, ?_, fun q hq hq2 => ?_⟩
  · rw [e, ← h.front, List.take_add_one, List.getElem?_set_self (by omega), List.take_set_of_le (Nat.le_refl _)]; rfl
  · have := h.back q (by omega) hq2
    rw [List.getD_eq_getElem?_getD] at this ⊢
    rw [List.getElem?_set_ne (by omega)]
    exact this
theorem tab_zeros (g : Nat) : ∀ (l o : Nat) (w : World) (T : List Int), TabAt w g T → o + l ≤ T.length → ∃ T', T'.length = T.length ∧ T'.take o = T.take o ∧ TabAt (w.setCells g o (List.replicate l (.int .i64 0))) g T'
  | 0, o, w, T, h, _ => ⟨T, rfl, rfl, h⟩
  | l + 1, o, w, T, h, hl => by
    obtain ⟨T', h1, h2, h3⟩ := tab_zeros g l (o + 1) _ _ (h.set (i := o) (by omega) 0) (by rw [List.length_set]; omega)
    refine ⟨T', by rw [h1, List.length_set], ?_, h3⟩
    have := congrArg (List.take o) h2
    rw [List.take_take, List.take_take, Nat.min_eq_left (by omega), List.take_set_of_le (Nat.le_refl _)] at this
    exact this
theorem aft_setCells (g : Nat) : ∀ (vs : List Value) (o : Nat) (w : World), Aft g w (w.setCells g o vs)
  | [], _, w => Hold.refl _ _
  | v :: r, o, w => Hold.trans (Hold.set w g o v) (aft_setCells g r (o + 1) _)

theorem wpList_clear_tab {ops : Array Oper} {rest : List Oper} {op : Oper} {a : Act} {w : World} {Q : Exit → Act → World → Prop} (hgd : op.guard = none) (x : Operand) (t : TypeId) (ho : op.op = .call { callee := .builtin .clear, args := #[x], argTypes := #[t] })
    (ht : Try.prog.underlying t = some (.slice 3)) (g o n c : Nat) (T : List Int) (hx : a.eval x = .slice (some ⟨g, o, none⟩) n c) (hn : 0 < n) (hT : TabAt w g T) (hb : o + n ≤ T.length)
    (h : wpList Try.prog ops Q rest (a.put op.dst (.tuple #[])) (w.setCells g o (List.replicate n (.int .i64 0)))) : wpList Try.prog ops Q (op :: rest) a w := by
  refine wpList_plain hgd fun K hK => ?_
  have hrun := Lib.run_clear_slice (P := Try.prog) w t 3 op.type (.int .i64 0) ht (fun w => by kernel_rfl) rfl rfl g o n c hn (fun j hj => by rw [hT.cell (by omega)]; rfl) (fun j hj => hT.free _)
  unfold Oper.wp
  simp [execOp, ho, resolve, invoke, builtin, hx, hrun, Result.andThen]
  exact hK _ _ h

set_option maxHeartbeats 2000000 in
set_option maxRecDepth 100000 in
theorem deleteFuncI (F : FuncId) (hF : Entered F) (E : Value) (p : Int → Bool) (g n : Nat) (xs : List Int) (hn : n = xs.length) (hl : xs.length ≤ 1000000) (w : World) (hT : TabAt w g xs) (hp : ∀ W, Aft g w W → AskI F E p W) :
    Calls Try.prog 72 #[.slice (some ⟨g, 0, none⟩) n n, .func (.func F) #[] #[E]] w fun e w' => e = .returned (.slice (some ⟨g, 0, none⟩) (keptTo p xs n).length n) ∧ Ints w' g 0 (keptTo p xs n) ∧ Aft g w w' := by
  have HT := Lib.hid hT
  have HP := Lib.hid hp
  have HN := Lib.hid hn
  have HIX := Lib.hid (indexFuncI F hF E p g 0 n n xs hn hl w hT.ints (fun W hB => hp W (Aft.below (Aft.of (Hold.refl _ _)) hB)))
  rw [← hn] at hl
  obtain ⟨R, hR⟩ : ∃ R, R = keptTo p xs n := ⟨_, rfl⟩
  rw [← hR]
  have HR := Lib.hid hR
  clear hT hp hn hR
  go_enter Try.func72, Try.ntmps72
  go_wp2_with fail
  refine HIX.out.mono ?_
  rintro e w1 ⟨z, rfl, hz, hB⟩
  have HB := Lib.hid hB
  have hT1 := HT.out.below hB HT.out.lt
  have HT1 := Lib.hid hT1
  have HA1 : Hid (Aft g w w1) := Lib.hid (Aft.below (Aft.of (Hold.refl _ _)) hB)
  clear hB hT1 HIX
  rcases hz with ⟨hz0, hz⟩ | ⟨k, rfl, hk, hk1, hk0⟩
  · have e1 : R = xs := by rw [HR.out, HN.out, keptTo_all (Nat.le_refl _) hz, List.take_length]
    have e2 : R.length = n := by rw [e1, HN.out]
    have E1 := Lib.hid e1
    have E2 := Lib.hid e2
    have hkz : (z == -1) = true := by rw [hz0]; rfl
    clear hz e1 e2 hz0
    go_wp2_with fail
    go_ret
    exact ⟨by rw [E2.out]; rfl, by rw [E1.out]; exact HT1.out.ints, HA1.out⟩
  · have HK := Lib.hid (KeptAt2.start hk hk1 hk0)
    rw [← HN.out] at hk
    clear hk1 hk0
    have hkz : ((k : Int) == -1) = false := by simp
    go_wp2_with fail
    go_loopw [5, 6] (fun i5 i6 wr => ∃ (i j : Nat) (T : List Int), i5 = .int .i64 i ∧ i6 = .int .i64 j ∧ KeptAt2 p xs T i j ∧ TabAt wr g T ∧ Aft g w wr) (fun _ i6 _ => n - (intOf i6).toNat)
    case atStart => exact ⟨k, k + 1, xs, rfl, rfl, HK.out, HT1.out, HA1.out⟩
    case round =>
      obtain ⟨i, j, T, rfl, rfl, hK, hTT, hA⟩ := hrel
      obtain ⟨wk, rfl⟩ : ∃ wk : World, wk = wr := ⟨_, rfl⟩
      have HK := Lib.hid hK
      have HTT := Lib.hid hTT
      have HA := Lib.hid hA
      have hij := hK.lt
      have hjn := hK.le
      rw [← HN.out] at hjn
      have hTl := hK.len
      rw [← HN.out] at hTl
      have hbl := hTT.lt
      clear hK hTT hA
      by_cases hlt : j < n
      · have hlt' : (j : Int) < n := by omega
        obtain ⟨h, hh⟩ : ∃ h, h = xs.getD j 0 := ⟨_, rfl⟩
        have hcell := HTT.out.cell (i := j) (by omega)
        rw [HK.out.back j (Nat.le_refl _) (by have := HN.out; omega), ← hh] at hcell
        have HH := Lib.hid hh
        have HASK := Lib.hid (HP.out wk HA.out h)
        have HTL := Lib.hid hTl
        clear hh hTl
        go_wp2_with fail
        rw [hF, Oper.upon_enter]
        refine HASK.out.mono ?_
        rintro e w5 ⟨rfl, hB5⟩
        have HA5 := Lib.hid (Aft.below HA.out hB5)
        have hT5 := HTT.out.below hB5 HTT.out.lt
        have HT5 := Lib.hid hT5
        have hbl5 := hT5.lt
        have hc5 := hT5.cell (i := i) (by have := HTL.out; omega)
        have hf5 := hT5.free i
        obtain ⟨d, hd⟩ : ∃ d, d = p h := ⟨_, rfl⟩
        have HD := Lib.hid hd
        rw [← hd]
        clear hB5 hT5 hcell hd HASK
        cases d with
        | false =>
          have HK1 := Lib.hid (HK.out.take (by have := HN.out; omega) (by rw [← HH.out]; exact HD.out.symm))
          have hi' : (i : Int) < n := by omega
          go_wp2_with fail
          go_roundw
          case rel =>
            refine ⟨i + 1, j + 1, _, by simp, by simp, HK1.out, ?_, ?_⟩
            · rw [← HH.out]; exact HT5.out.set (by have := HTL.out; omega) _
            · exact Hold.trans HA5.out (Hold.set _ _ _ _)
          case measure => simp [intOf]; omega
        | true =>
          have HK1 := Lib.hid (HK.out.skip (by have := HN.out; omega) (by rw [← HH.out]; exact HD.out.symm))
          clear hc5 hf5
          go_wp2_with fail
          go_roundw
          case rel => exact ⟨i, j + 1, T, rfl, by simp, HK1.out, HT5.out, HA5.out⟩
          case measure => simp [intOf]; omega
      · obtain rfl : j = n := by omega
        have hin : i ≤ j := by omega
        obtain ⟨T', l1, l2, l3⟩ := tab_zeros g (j - i) i wk T HTT.out (by omega)
        have e1 : R = T'.take i := by rw [l2, HK.out.front, HR.out]
        have e2 : R.length = i := by rw [HK.out.num, HR.out]
        have HTN := Lib.hid l3
        have E1 := Lib.hid e1
        have E2 := Lib.hid e2
        have L1 := Lib.hid l1
        have HTL := Lib.hid hTl
        clear l1 l2 l3 e1 e2 hTl
        go_wp2_with (with_reducible refine wpList_clear_tab rfl _ 31 rfl A_und31 g i (j - i) (j - i) T (by first | rfl | simp [go_sem]) (by omega) HTT.out (by have := HTL.out; omega) ?_)
        go_ret
        refine ⟨by rw [E2.out]; rfl, ?_, Hold.trans HA.out (aft_setCells _ _ _ _)⟩
        have hI := HTN.out.ints
        refine ⟨hI.1, fun q hq => ?_⟩
        rw [E2.out] at hq
        rw [hI.2 q (by have := HTL.out; have := L1.out; omega), E1.out]
        simp [List.getD_eq_getElem?_getD, List.getElem?_take, hq]
end Go.Proofs.Ytimedmkpenbmkaa

namespace Go.Proofs.Ytimedmkpenbmkaa
open Go.RowKit Go.Shelf
set_option linter.unusedSimpArgs false
set_option linter.unusedVariables false

/-! a map that is a set of numbers -/
theorem und154 : Try.prog.underlying 154 = some (.map 3 4) := by kernel_rfl
theorem zero4 (w : World) : (zeroValue 4).run Try.prog w = .ok (.bool false) w := by kernel_rfl
def SetM (w : World) (r : Nat) (A : List Int) : Prop := ∃ es c, w.heap[r]? = some (.map es c) ∧ (∀ e ∈ es.toList, e.val = .bool true ∧ ∃ h : Int, e.key = .int .i64 h ∧ h ∈ A) ∧ ∀ h ∈ A, ∃ e ∈ es.toList, e.key = .int .i64 h
theorem SetM.lt {w : World} {r : Nat} {A : List Int} (h : SetM w r A) : r < w.heap.size := by
  obtain ⟨es, c, h1, _⟩ := h
  exact (Array.getElem?_eq_some_iff.1 h1).1
theorem SetM.below {w w' : World} {r : Nat} {A : List Int} (h : SetM w r A) (hB : Below w.heap.size w w') : SetM w' r A := by
  have hl := h.lt
  obtain ⟨es, c, h1, h2⟩ := h
  exact ⟨es, c, (hB.block _ hl).trans h1, h2⟩
theorem SetM.congr {w : World} {r : Nat} {A B : List Int} (h : SetM w r A) (e : A = B) : SetM w r B := e ▸ h
theorem find_set (s : Int) : ∀ (es : List MapEntry) (i : Nat), (∀ e ∈ es, ∃ h : Int, e.key = .int .i64 h) → (Instr.findNow (.int .i64) (.int .i64 s) es i = some none ∧ ∀ e ∈ es, e.key ≠ .int .i64 s) ∨ ∃ j e, e ∈ es ∧ e.key = .int .i64 s ∧ es[j]? = some e ∧ Instr.findNow (.int .i64) (.int .i64 s) es i = some (some (i + j, e.val))
  | [], i, _ => .inl ⟨rfl, fun _ h => by simp at h⟩
  | e :: es, i, h => by
    obtain ⟨h0, hk⟩ := h e (by simp)
    rcases find_set s es (i + 1) (fun e' he => h e' (by simp [he])) with ⟨h1, h1'⟩ | ⟨j, e', h1, h2, h3, h4⟩
    · by_cases hs : s = h0
      · refine .inr ⟨0, e, by simp, by rw [hs]; exact hk, rfl, ?_⟩
        simp [Instr.findNow, hk, Instr.sameNow, hs]
      · refine .inl ⟨?_, ?_⟩
        · have : (s == h0) = false := by simpa using hs
          simp [Instr.findNow, hk, Instr.sameNow, this, h1]
        · intro e' he'
          rcases List.mem_cons.1 he' with rfl | he'
          · rw [hk]; intro e2; exact hs (Value.int.inj e2).2.symm
          · exact h1' e' he'
    · by_cases hs : s = h0
      · refine .inr ⟨0, e, by simp, by rw [hs]; exact hk, rfl, ?_⟩
        simp [Instr.findNow, hk, Instr.sameNow, hs]
      · refine .inr ⟨j + 1, e', by simp [h1], h2, by simpa using h3, ?_⟩
        have : (s == h0) = false := by simpa using hs
        simp [Instr.findNow, hk, Instr.sameNow, this, h4]; omega
theorem run_findKeyI {s : Int} {es : List MapEntry} {r : Option (Nat × Value)} (h : Instr.findNow (.int .i64) (.int .i64 s) es 0 = some r) (w : World) : (Instr.findKey 3 (.int .i64 s) es).run Try.prog w = .ok r w := by
  unfold Instr.findKey
  simp only [Sem.run_bind, run_underlying und3, Result.andThen_ok, h, Sem.run_pure]
theorem look_set {w : World} {r : Nat} {A : List Int} (h : SetM w r A) (s : Int) :
    (Instr.lookup 154 (.map (some r)) (.int .i64 s) false).run Try.prog w = .ok (.bool (decide (s ∈ A))) w := by
  obtain ⟨es, c, h0, hg, hA⟩ := h
  have hgo := run_getObj_map (P := Try.prog) h0
  have hck : ∀ e d, (Instr.checkKey e 10000 3 (.int .i64 d)).run Try.prog w = .ok () w := fun e d => check3 _ _ _
  unfold Instr.lookup
  rcases find_set s es.toList 0 (fun e he => ⟨(hg e he).2.choose, (hg e he).2.choose_spec.1⟩) with ⟨h1, h1'⟩ | ⟨j, e, h1, h2, h3, h4⟩
  · have hf := run_findKeyI h1 w
    have hn : s ∉ A := fun hs => by obtain ⟨e, he, hk⟩ := hA s hs; exact h1' e he hk
    simp only [Sem.run_bind, run_underlying und154, Result.andThen_ok, hgo, hck, hf, Sem.run_pure, zero4, if_false, decide_eq_false hn]
    simp
  · have hf := run_findKeyI h4 w
    obtain ⟨hv, s', hk, hs'⟩ := hg e h1
    have : s = s' := (Value.int.inj (h2.symm.trans hk)).2
    subst this
    simp only [Sem.run_bind, run_underlying und154, Result.andThen_ok, hgo, hck, hf, Sem.run_pure, hv, if_false, decide_eq_true hs']
    simp
theorem aft_map {w : World} {r : Nat} {o o' : Obj} (h : w.heap[r]? = some o) : Aft r w { w with heap := w.heap.setIfInBounds r o' } ∧ ({ w with heap := w.heap.setIfInBounds r o' } : World).heap[r]? = some o' := by
  have hl := (Array.getElem?_eq_some_iff.1 h).1
  refine ⟨⟨rfl, rfl, rfl, by simp, fun k hk _ => ?_⟩, ?_⟩
  · show (w.heap.setIfInBounds r o')[k]? = _
    rw [Array.getElem?_setIfInBounds_ne (Ne.symm hk)]
  · show (w.heap.setIfInBounds r o')[r]? = _
    rw [Array.getElem?_setIfInBounds_self_of_lt hl]
theorem same_keyI (s : Int) : Instr.sameBits 10000 (.int .i64 s) (.int .i64 s) = true := by simp [Instr.sameBits]
theorem upd_set {w : World} {r : Nat} {A : List Int} (h : SetM w r A) (s : Int) :
    ∃ w', (Instr.mapUpdate 154 (.map (some r)) (.int .i64 s) (.bool true)).run Try.prog w = .ok () w' ∧ SetM w' r (A ++ [s]) ∧ Aft r w w' := by
  obtain ⟨es, c, h0, hg, hA⟩ := h
  have hgo := run_getObj_map (P := Try.prog) h0
  have hck : ∀ e d, (Instr.checkKey e 10000 3 (.int .i64 d)).run Try.prog w = .ok () w := fun e d => check3 _ _ _
  have hset := fun o => Go.MapKept.run_setObj_map (P := Try.prog) o h0
  unfold Instr.mapUpdate
  rcases find_set s es.toList 0 (fun e he => ⟨(hg e he).2.choose, (hg e he).2.choose_spec.1⟩) with ⟨h1, h1'⟩ | ⟨j, e, h1, h2, h3, h4⟩
  · have hf := run_findKeyI h1 w
    obtain ⟨a1, a2⟩ := aft_map (o' := .map (es.push ⟨.int .i64 s, .bool true, c⟩) (c + 1)) h0
    refine ⟨_, ?_, ⟨_, _, a2, ?_, ?_⟩, a1⟩
    · simp only [Sem.run_bind, run_underlying und154, Result.andThen_ok, hgo, hck, hf, Sem.run_pure]
      exact hset _
    · intro e he
      rw [Array.toList_push] at he
      rcases List.mem_append.1 he with he | he
      · obtain ⟨x1, x, x2, x3⟩ := hg e he
        exact ⟨x1, x, x2, by simp [x3]⟩
      · rw [List.mem_singleton.1 he]; exact ⟨rfl, s, rfl, by simp⟩
    · intro x hx
      rw [Array.toList_push]
      rcases List.mem_append.1 hx with hx | hx
      · obtain ⟨e, he, hk⟩ := hA x hx
        exact ⟨e, by simp only [List.mem_append]; exact .inl he, hk⟩
      · rw [List.mem_singleton.1 hx]
        exact ⟨⟨.int .i64 s, .bool true, c⟩, by simp, rfl⟩
  · have hf := run_findKeyI h4 w
    have hk : ((es[0 + j]?).map (·.key)).getD (.int .i64 s) = .int .i64 s := by
      rw [Nat.zero_add, ← Array.getElem?_toList, h3]; exact h2
    have hkt : (Instr.keyThatStays (((es[0 + j]?).map (·.key)).getD (.int .i64 s)) (.int .i64 s)).run Try.prog w = .ok (.int .i64 s) w := by
      rw [hk]; unfold Instr.keyThatStays; rw [if_pos (same_keyI s)]; rfl
    obtain ⟨a1, a2⟩ := aft_map (o' := .map (es.modify j fun e => { e with key := .int .i64 s, val := .bool true }) c) h0
    obtain ⟨hjl, hje⟩ := List.getElem?_eq_some_iff.1 h3
    refine ⟨_, ?_, ⟨_, _, a2, ?_, ?_⟩, a1⟩
    · simp only [Sem.run_bind, run_underlying und154, Result.andThen_ok, hgo, hck, hf, hkt]
      rw [Nat.zero_add]
      exact hset _
    · intro e' he'
      obtain ⟨i, hi, rfl⟩ := List.getElem_of_mem he'
      have hi' : i < es.size := by simpa using hi
      by_cases hj : j = i
      · subst hj; exact ⟨by simp [Array.getElem_modify], s, by simp [Array.getElem_modify], by simp⟩
      · have : (es.modify j fun e => { e with key := .int .i64 s, val := .bool true }).toList[i] = es.toList[i]'(by simpa using hi') := by simp [Array.getElem_modify, hj]
        rw [this]
        obtain ⟨x1, x, x2, x3⟩ := hg _ (List.getElem_mem (by simpa using hi'))
        exact ⟨x1, x, x2, by simp [x3]⟩
    · intro x hx
      have hs : ∃ e' ∈ es.toList, e'.key = .int .i64 x := by
        rcases List.mem_append.1 hx with hx | hx
        · exact hA x hx
        · rw [List.mem_singleton.1 hx]; exact ⟨e, h1, h2⟩
      obtain ⟨e', he', hk'⟩ := hs
      obtain ⟨i, hi, rfl⟩ := List.getElem_of_mem he'
      have hi' : i < es.size := by simpa using hi
      refine ⟨(es.modify j fun e => { e with key := .int .i64 s, val := .bool true }).toList[i]'(by simpa using hi'), List.getElem_mem _, ?_⟩
      by_cases hj : j = i
      · subst hj
        rw [hje, h2] at hk'
        simp [Array.getElem_modify, hk']
      · have : (es.modify j fun e => { e with key := .int .i64 s, val := .bool true }).toList[i]'(by simpa using hi') = es.toList[i]'hi := by simp [Array.getElem_modify, hj]
        rw [this]; exact hk'

/-! served -/
theorem wpList_make {P : Program} {ops : Array Oper} {rest : List Oper} {o : Oper} {a : Act} {w w' : World} {Q : Exit → Act → World → Prop} (hgd : o.guard = none) (t : TypeId) (ho : o.op = .makeMap t none) (v : Value)
    (hr : (Instr.makeMap t none).run P w = .ok v w') (h : wpList P ops Q rest (a.put o.dst v) w') : wpList P ops Q (o :: rest) a w :=
  wpList_plain hgd fun K hK => by
    unfold Oper.wp execOp
    simp only [ho, Option.map_none, Sem.run_bind, hr, Result.andThen_ok, Sem.run_pure]
    exact hK _ _ h
theorem make154 (w : World) : (Instr.makeMap 154 none).run Try.prog w = .ok (.map (some w.heap.size)) (w.alloc (.map #[] 0)) := by kernel_rfl
def heardTo (wd : Int) (xs : List Int) (wind voice : Int) (S : List Int) (k : Nat) : List Int := (S.take k).flatMap fun s => housesL wd xs wind voice s
def countTo (A H : List Int) (k : Nat) : Nat := ((H.take k).filter fun h => decide (h ∈ A)).length
theorem heardTo_next {wd : Int} {xs : List Int} {wind voice : Int} {S : List Int} {k : Nat} (h : k < S.length) : heardTo wd xs wind voice S (k + 1) = heardTo wd xs wind voice S k ++ housesL wd xs wind voice (S.getD k 0) := by
  unfold heardTo
  rw [List.take_add_one, List.getElem?_eq_getElem h, List.flatMap_append, List.getD_eq_getElem?_getD, List.getElem?_eq_getElem h]
  simp
theorem countTo_yes {A H : List Int} {k : Nat} (h : k < H.length) (e : decide (H.getD k 0 ∈ A) = true) : countTo A H (k + 1) = countTo A H k + 1 := by
  unfold countTo
  rw [List.getD_eq_getElem?_getD, List.getElem?_eq_getElem h] at e
  rw [List.take_add_one, List.getElem?_eq_getElem h, List.filter_append]
  simp at e
  simp [e]
theorem countTo_no {A H : List Int} {k : Nat} (h : k < H.length) (e : decide (H.getD k 0 ∈ A) = false) : countTo A H (k + 1) = countTo A H k := by
  unfold countTo
  rw [List.getD_eq_getElem?_getD, List.getElem?_eq_getElem h] at e
  rw [List.take_add_one, List.getElem?_eq_getElem h, List.filter_append]
  simp at e
  simp [e]
theorem countTo_le (A H : List Int) (k : Nat) : countTo A H k ≤ k := by
  unfold countTo
  refine Nat.le_trans (List.length_filter_le _ _) ?_
  rw [List.length_take]; omega

theorem housesL_len (wd : Int) (xs : List Int) (wind voice s : Int) : (housesL wd xs wind voice s).length ≤ 30 := by
  unfold housesL
  split
  · rename_i h
    obtain ⟨h1, h2, h3⟩ := atE_ok h
    obtain ⟨t, -, hw', hx, ok⟩ := town_name h1
    subst hw' hx
    rw [townOf_self]
    exact Nat.le_trans (housesTo_len _ _ _ _ _) ok.n30
  · simp

set_option maxHeartbeats 4000000 in
set_option maxRecDepth 100000 in
theorem served_ok (wd wind voice : Int) (a : Option Addr) (cap : Nat) (xs : List Int) (hl : xs.length ≤ 1000000) (ah sa : Option Addr) (ch cs : Nat) (H S : List Int) (hH : H.length ≤ 1000000) (hS : S.length ≤ 1000000) (w : World)
    (hR : RdI w (.slice a xs.length cap) xs) (hRH : RdI w (.slice ah H.length ch) H) (hRS : RdI w (.slice sa S.length cs) S) (hok : ∀ s ∈ S, atE wd xs wind voice s 0 = 0) :
    Calls Try.prog 67 #[.agg #[.int .i64 wd, .slice a xs.length cap], .agg #[.int .i64 wind, .int .i64 voice], .slice ah H.length ch, .slice sa S.length cs] w fun e w' =>
      e = .returned (.tuple #[.int .i64 (countTo (heardTo wd xs wind voice S S.length) H H.length), .bool true]) ∧ Below w.heap.size w w' := by
  have HR := Lib.hid hR
  have HH := Lib.hid hRH
  have HS := Lib.hid hRS
  have HOK := Lib.hid hok
  have hb0 : ∀ o1 o2 o3, Below w.heap.size w (((w.alloc o1).alloc o2).alloc o3) := fun o1 o2 o3 => al (al (al (Below.refl _ _) _) _) _
  have hmp : ∀ o1 o2, SetM (((w.alloc o1).alloc o2).alloc (.map #[] 0)) (w.heap.size + 1 + 1) [] := fun o1 o2 => ⟨#[], 0, by have := heap_alloc_last ((w.alloc o1).alloc o2) (.map #[] 0); simpa using this, by simp, by simp⟩
  have hx0 : ∀ o3, (((w.alloc (.cells #[.int .i64 wd, .slice a xs.length cap] 24)).alloc (.cells #[.int .i64 wind, .int .i64 voice] 27)).alloc o3).heap[w.heap.size]? = some (.cells #[.int .i64 wd, .slice a xs.length cap] 24 (0, 0)) := fun o3 => by
    rw [Below.heap_alloc _ _ _ (by simp; omega), Below.heap_alloc _ _ _ (by simp)]; exact heap_alloc_last _ _
  have hx1 : ∀ o1 o3, (((w.alloc o1).alloc (.cells #[.int .i64 wind, .int .i64 voice] 27)).alloc o3).heap[w.heap.size + 1]? = some (.cells #[.int .i64 wind, .int .i64 voice] 27 (0, 0)) := fun o1 o3 => by
    rw [Below.heap_alloc _ _ _ (by simp)]; have := heap_alloc_last (w.alloc o1) (.cells #[.int .i64 wind, .int .i64 voice] 27); simpa using this
  have HB0 := Lib.hid hb0
  have HMP := Lib.hid hmp
  have HX0 := Lib.hid hx0
  have HX1 := Lib.hid hx1
  have hsl : S.length < 9223372036854775807 := by omega
  have hhl : H.length < 9223372036854775807 := by omega
  obtain ⟨A, hA⟩ : ∃ A, A = heardTo wd xs wind voice S S.length := ⟨_, rfl⟩
  rw [← hA]
  have HAQ := Lib.hid hA
  clear hR hRH hRS hok hb0 hmp hx0 hx1 hA
  go_enter Try.func67, Try.ntmps67
  go_wp2_with (with_reducible refine wpList_make rfl 154 rfl _ (make154 _) ?_)
  obtain ⟨W0, hW0⟩ : ∃ W0 : World, W0 = ((w.alloc (Obj.cells #[Value.int IntKind.i64 wd, Value.slice a xs.length cap] 24)).alloc (Obj.cells #[Value.int IntKind.i64 wind, Value.int IntKind.i64 voice] 27)).alloc (Obj.map #[] 0) := ⟨_, rfl⟩
  have hs0 : W0.heap.size = w.heap.size + 1 + 1 + 1 := by rw [hW0]; simp
  have HS0 := Lib.hid hs0
  have HB := Lib.hid (show Below w.heap.size w W0 by rw [hW0]; exact HB0.out _ _ _)
  have HM0 := Lib.hid (show SetM W0 (w.heap.size + 1 + 1) [] by rw [hW0]; exact HMP.out _ _)
  have HXA := Lib.hid (show W0.heap[w.heap.size]? = some (.cells #[.int .i64 wd, .slice a xs.length cap] 24 (0, 0)) by rw [hW0]; exact HX0.out _)
  have HXB := Lib.hid (show W0.heap[w.heap.size + 1]? = some (.cells #[.int .i64 wind, .int .i64 voice] 27 (0, 0)) by rw [hW0]; exact HX1.out _ _)
  rw [← hW0]
  clear hW0 hs0 HB0 HMP HX0 HX1
  go_loopw [23] (fun i wr => ∃ k : Nat, k ≤ S.length ∧ i = .int .i64 k ∧ SetM wr (w.heap.size + 1 + 1) (heardTo wd xs wind voice S k) ∧ Below (w.heap.size + 1 + 1) W0 wr) (fun i _ => S.length - (intOf i).toNat)
  case atStart => exact ⟨0, Nat.zero_le _, rfl, HM0.out.congr (by unfold heardTo; simp), Below.refl _ _⟩
  case round =>
    obtain ⟨k, hk, rfl, hM, hBk⟩ := hrel
    obtain ⟨wk, rfl⟩ : ∃ wk : World, wk = wr := ⟨_, rfl⟩
    have HM := Lib.hid hM
    have HBk := Lib.hid hBk
    have HBw := Lib.hid (HB.out.trans (hBk.mono (by omega)))
    have hszk : w.heap.size + 1 + 1 + 1 ≤ wk.heap.size := by have := hBk.size; have := HS0.out; omega
    obtain ⟨k0, k1⟩ := blk_cells2 ((hBk.block w.heap.size (by omega)).trans HXA.out)
    obtain ⟨j0, j1⟩ := blk_cells2 ((hBk.block (w.heap.size + 1) (by omega)).trans HXB.out)
    have hl0 : w.heap.size < wk.heap.size := by omega
    have hl1 : w.heap.size + 1 < wk.heap.size := by omega
    clear hM hBk
    by_cases hlt : k < S.length
    · have hne : S ≠ [] := by intro e; rw [e] at hlt; simp at hlt
      obtain ⟨b, o, rfl, -, hIS⟩ := rd_ints (HS.out.below HBw.out) hne
      obtain ⟨s, hs⟩ : ∃ s, s = S.getD k 0 := ⟨_, rfl⟩
      have hcell := hIS.2 k hlt
      have hbl := hIS.1
      rw [← hs] at hcell
      have hat : atE wd xs wind voice s 0 = 0 := HOK.out s (by rw [hs, List.getD_eq_getElem?_getD, List.getElem?_eq_getElem hlt]; simp)
      have hlt' : (k : Int) < S.length := by omega
      have HHO := Lib.hid (Houses_any wd wind voice s a cap xs hl wk (HR.out.below HBw.out))
      rw [hat] at HHO
      have HNX : Hid (heardTo wd xs wind voice S (k + 1) = heardTo wd xs wind voice S k ++ housesL wd xs wind voice s) := Lib.hid (by rw [heardTo_next hlt, hs])
      obtain ⟨L, hL⟩ : ∃ L, L = housesL wd xs wind voice s := ⟨_, rfl⟩
      rw [← hL] at HHO HNX
      clear hIS hs hat
      go_wp2_with fail
      refine HHO.out.mono ?_
      rintro e w5 ⟨v, rfl, hown, hB5⟩
      have HL := Lib.hid (RdI.own rfl rfl hown)
      have HOWN := Lib.hid hown
      have HB5 := Lib.hid hB5
      have hs5 := hB5.size
      have HM5 := Lib.hid (HM.out.below hB5)
      obtain ⟨ob, cp, rfl⟩ := own_slice hown
      have hLl : L.length < 9223372036854775807 := by
        have h1 := housesL_len wd xs wind voice s
        rw [← hL] at h1
        omega
      clear hown hB5 HHO hL
      go_wp2_with fail
      clear k0 k1 j0 j1 hcell
      go_loopw [38] (fun i wr => ∃ j : Nat, j ≤ L.length ∧ i = .int .i64 j ∧ SetM wr (w.heap.size + 1 + 1) (heardTo wd xs wind voice S k ++ L.take j) ∧ Aft (w.heap.size + 1 + 1) w5 wr) (fun i _ => L.length - (intOf i).toNat)
      case atStart => exact ⟨0, Nat.zero_le _, rfl, HM5.out.congr (by simp), Aft.of (Hold.refl _ _)⟩
      case round =>
        obtain ⟨j, hj, rfl, hM, hA⟩ := hrel
        obtain ⟨wj, rfl⟩ : ∃ wj : World, wj = wr := ⟨_, rfl⟩
        have HMj := Lib.hid hM
        have HA := Lib.hid hA
        clear hM hA
        by_cases hjl : j < L.length
        · have hjl' : (j : Int) < L.length := by omega
          have hneL : L ≠ [] := by intro e; rw [e] at hjl; simp at hjl
          have hLj := HL.out.hold HA.out (own_off HOWN.out (QB := w.heap.size + 1 + 1) (by omega))
          obtain ⟨b2, o2, rfl, -, hIL⟩ := rd_ints hLj hneL
          obtain ⟨h, hh⟩ : ∃ h, h = L.getD j 0 := ⟨_, rfl⟩
          have hcell := hIL.2 j hjl
          have hbl2 := hIL.1
          rw [← hh] at hcell
          obtain ⟨w8, hupd, hM8, hA8⟩ := upd_set HMj.out h
          have HUPD := Lib.hid hupd
          have HM8 := Lib.hid (hM8.congr (B := heardTo wd xs wind voice S k ++ L.take (j + 1)) (by rw [List.take_add_one, List.append_assoc, hh, List.getD_eq_getElem?_getD, List.getElem?_eq_getElem hjl]; simp))
          have HA8 := Lib.hid (Hold.trans HA.out hA8)
          clear hupd hM8 hA8 hLj hIL hh
          go_wp2_with (with_reducible refine wpList_upd rfl 154 _ _ _ rfl (.map (some (w.heap.size + 1 + 1))) (.int .i64 h) (.bool true) rfl rfl rfl HUPD.out ?_)
          go_roundw
          case rel => exact ⟨j + 1, by omega, by simp, HM8.out, HA8.out⟩
          case measure => simp [intOf]; omega
        · obtain rfl : j = L.length := by omega
          have HMN := Lib.hid (HMj.out.congr (B := heardTo wd xs wind voice S (k + 1)) (by rw [HNX.out, List.take_length]))
          have HBN := Lib.hid (HBk.out.trans ((HB5.out.mono (by omega)).trans (Aft.low HA.out (Nat.le_refl _) (by omega))))
          go_wp2_with fail
          go_roundw
          case rel => exact ⟨k + 1, by omega, by simp, HMN.out, HBN.out⟩
          case measure => simp [intOf]; omega
    · obtain rfl : k = S.length := by omega
      have hM := HM.out
      rw [← HAQ.out] at hM
      have HM := Lib.hid hM
      have HHk := Lib.hid (HH.out.below HBw.out)
      clear k0 k1 j0 j1 hM
      go_wp2_with fail
      go_loopw [17, 48] (fun n i wr => ∃ j : Nat, j ≤ H.length ∧ i = .int .i64 j ∧ n = .int .i64 (countTo A H j) ∧ wr = wk) (fun _ i _ => H.length - (intOf i).toNat)
      case atStart => exact ⟨0, Nat.zero_le _, rfl, rfl, rfl⟩
      case round =>
        obtain ⟨j, hj, rfl, rfl, rfl⟩ := hrel
        obtain ⟨wk, rfl⟩ : ∃ wk : World, wk = wr := ⟨_, rfl⟩
        by_cases hjl : j < H.length
        · have hjl' : (j : Int) < H.length := by omega
          have hneL : H ≠ [] := by intro e; rw [e] at hjl; simp at hjl
          obtain ⟨b2, o2, rfl, -, hIL⟩ := rd_ints HHk.out hneL
          obtain ⟨h, hh⟩ : ∃ h, h = H.getD j 0 := ⟨_, rfl⟩
          have hcell := hIL.2 j hjl
          have hbl2 := hIL.1
          rw [← hh] at hcell
          have hlook := look_set HM.out h
          have hyes := fun e => countTo_yes (A := A) hjl (by rw [← hh]; exact e)
          have hno := fun e => countTo_no (A := A) hjl (by rw [← hh]; exact e)
          have hle := countTo_le A H j
          generalize hd : decide (h ∈ A) = d at hlook hyes hno
          have HLK := Lib.hid hlook
          have HY := Lib.hid (And.intro hyes hno)
          obtain ⟨n, hn⟩ : ∃ n, n = countTo A H j := ⟨_, rfl⟩
          rw [← hn] at hle HY ⊢
          clear hlook hyes hno hIL hh hd hn
          cases d with
          | true =>
            go_wp2_with (with_reducible refine wpList_look rfl 154 _ _ false rfl (.map (some (w.heap.size + 1 + 1))) (.int .i64 h) _ rfl rfl HLK.out ?_)
            go_roundw
            case rel => exact ⟨j + 1, by omega, by simp, by rw [HY.out.1 rfl]; simp, trivial⟩
            case measure => simp [intOf]; omega
          | false =>
            go_wp2_with (with_reducible refine wpList_look rfl 154 _ _ false rfl (.map (some (w.heap.size + 1 + 1))) (.int .i64 h) _ rfl rfl HLK.out ?_)
            go_roundw
            case rel => exact ⟨j + 1, by omega, by simp, by rw [HY.out.2 rfl], trivial⟩
            case measure => simp [intOf]; omega
        · obtain rfl : j = H.length := by omega
          go_wp2_with fail
          go_ret2
          exact ⟨rfl, HBw.out⟩
end Go.Proofs.Ytimedmkpenbmkaa

/- The first region of a law: an air of a bell into its box, streets of a town: worlds go on by new memory, by the bell, and by filling a box. -/
namespace Go.Proofs.Ytimedmkpenbmkaa.Rg
open Go
theorem GrowL.skipA {P : Program} {G : World → World → Prop} {o : Oper} {ρ : Operand → Value} {w w' : World} {Φ : Value → World → Prop} (h : (execOp ρ o).run P w = .ok .skip w') (hg : G w w') (hv : Φ undef w') : GrowL G P o ρ w Φ := by
  unfold GrowL; rw [h]; exact ⟨hg, hv⟩
end Go.Proofs.Ytimedmkpenbmkaa.Rg
namespace Go.Proofs.Ytimedmkpenbmkaa
open Go.RowKit Go.Shelf
set_option linter.unusedSimpArgs false
set_option linter.unusedVariables false

def AirV (wind voice : Int) : Prop := 0 ≤ wind ∧ wind ≤ 4 ∧ 1 ≤ voice ∧ voice ≤ 16
structure Ax (QB : Nat) (ma : Option Addr) (n mc : Nat) (B : Nat) (a b : World) : Prop where
  os : b.os = a.os
  tape : b.tape = a.tape
  output : b.output = a.output
  size : a.heap.size ≤ b.heap.size
  bell : BellOk a QB ma n mc → BellOk b QB ma n mc
  same : ∀ k, k < a.heap.size → k ≠ QB → b.heap[k]? = a.heap[k]? ∨ (B ≤ k ∧ ∃ cs wind voice, AirV wind voice ∧ a.heap[k]? = some (.cells cs 27 (0, 0)) ∧ b.heap[k]? = some (.cells #[.int .i64 wind, .int .i64 voice] 27 (0, 0)))
section
variable {QB : Nat} {ma : Option Addr} {n mc B : Nat} {a b : World}
theorem Ax.of_gr (h : Below a.heap.size a b) : Ax QB ma n mc B a b := ⟨h.os, h.tape, h.output, h.size, fun hb => hb.below h, fun k hk _ => .inl (h.block k hk)⟩
theorem Ax.of_bell (h : Hold (fun k => k ≠ QB) a b) (hb : BellOk b QB ma n mc) : Ax QB ma n mc B a b := ⟨h.os, h.tape, h.output, h.size, fun _ => hb, fun k hk hn => .inl (h.same k hn hk)⟩
theorem Ax.aft (h : Ax QB ma n mc a.heap.size a b) : Aft QB a b := ⟨h.os, h.tape, h.output, h.size, fun k hk hl => by
  rcases h.same k hl hk with e | ⟨e, _⟩
  · exact e
  · omega⟩
theorem Ax.row {B0 : Nat} (h : Ax QB ma n mc B a b) (hq : QB < B0) {v : Value} {m : Nat} {l : List Value} (ho : a.ownsRow B0 3 1 v m l) : b.ownsRow B0 3 1 v m l := by
  refine ⟨ho.1, ?_⟩
  rcases ho.2 with h1 | ⟨g, cap, cur, h1, h2, h3, h4⟩
  · exact .inl h1
  · refine .inr ⟨g, cap, cur, h1, h2, ?_, h4⟩
    rcases h.same g (Array.getElem?_eq_some_iff.1 h3).1 (by omega) with e1 | ⟨_, cs, wind, voice, _, e1, _⟩
    · rw [e1]; exact h3
    · rw [h3] at e1
      injection e1 with e1
      injection e1 with _ e1
      cases e1
theorem Ax.isGr (QB : Nat) (ma : Option Addr) (n mc B : Nat) : Rg.IsGr (Ax QB ma n mc B) where
  refl w := .of_gr (Below.refl _ _)
  drew w := .of_gr ((Below.refl _ _).drew)
  trans {a b c} h k := ⟨k.os.trans h.os, k.tape.trans h.tape, k.output.trans h.output, Nat.le_trans h.size k.size, fun hb => k.bell (h.bell hb), fun i hi hn => by
    rcases k.same i (Nat.lt_of_lt_of_le hi h.size) hn with e1 | ⟨hB, cs, wd, vc, hA, e1, e2⟩
    · rcases h.same i hi hn with e2 | ⟨hB, cs, wd, vc, hA, e2, e3⟩
      · exact .inl (e1.trans e2)
      · exact .inr ⟨hB, cs, wd, vc, hA, e2, e1.trans e3⟩
    · rcases h.same i hi hn with e4 | ⟨_, cs', wd', vc', hA', e4, e5⟩
      · exact .inr ⟨hB, cs, wd, vc, hA, e4.symm.trans e1, e2⟩
      · exact .inr ⟨hB, cs', wd, vc, hA, e4, e2⟩⟩
theorem Ax.fill {p : Nat} {c0 c1 : Value} {wind voice : Int} (hA : AirV wind voice) (hQ : QB < B) (hm : n ≠ 0 → ∀ mb mo, ma = some ⟨mb, mo, none⟩ → mb < B) (hp : B ≤ p) (hb : a.heap[p]? = some (.cells #[c0, c1] 27 (0, 0))) :
    Ax QB ma n mc B a ((a.setCell ⟨p, 0, none⟩ (.int .i64 wind)).setCell ⟨p, 1, none⟩ (.int .i64 voice)) ∧ ((a.setCell ⟨p, 0, none⟩ (.int .i64 wind)).setCell ⟨p, 1, none⟩ (.int .i64 voice)).heap[p]? = some (.cells #[.int .i64 wind, .int .i64 voice] 27 (0, 0)) := by
  have h1 := heap_set_same (o := 0) (.int .i64 wind) hb
  have h2 := heap_set_same (o := 1) (.int .i64 voice) h1
  have h3 : ((a.setCell ⟨p, 0, none⟩ (.int .i64 wind)).setCell ⟨p, 1, none⟩ (.int .i64 voice)).heap[p]? = some (.cells #[.int .i64 wind, .int .i64 voice] 27 (0, 0)) := h2
  have hS : Hold (fun k => k ≠ p) a ((a.setCell ⟨p, 0, none⟩ (.int .i64 wind)).setCell ⟨p, 1, none⟩ (.int .i64 voice)) := (Hold.set _ _ _ _).trans (Hold.set _ _ _ _)
  refine ⟨⟨rfl, rfl, rfl, by simp, fun hbl => hbl.hold hS (by omega) (fun hn mb mo e => by have := hm hn mb mo e; show mb ≠ p; omega), fun k hk _ => ?_⟩, h3⟩
  by_cases e2 : k = p
  · subst e2
    exact .inr ⟨hp, _, wind, voice, hA, hb, h3⟩
  · exact .inl (hS.same k e2 hk)

def spA3 (t : Hr.Town) (pv : Value) (QB B : Nat) : Nat → List Value → Value → World → Prop
  | 0, _, v, _ => v = .pointer (some ⟨QB, 0, none⟩)
  | 1, _, v, _ => ∃ wind voice, AirV wind voice ∧ v = .agg #[.int .i64 wind, .int .i64 voice]
  | 2, _, v, _ => v = .agg #[.int .i64 t.wide, pv]
  | 3, _, v, w => QB < B ∧ w.ownsRow B 3 1 v (kindIdx t.plots 0).length ((kindIdx t.plots 0).map (Value.int .i64))
  | 4, _, v, w => ∃ p c0 c1, v = .pointer (some ⟨p, 0, none⟩) ∧ QB < B ∧ B ≤ p ∧ w.heap[p]? = some (.cells #[c0, c1] 27 (0, 0))
  | 5, L, v, w => ∃ p wind voice, L.getD 4 undef = .pointer (some ⟨p, 0, none⟩) ∧ AirV wind voice ∧ QB < B ∧ B ≤ p ∧ w.heap[p]? = some (.cells #[.int .i64 wind, .int .i64 voice] 27 (0, 0))
  | _, _, _, _ => False
theorem spA3_stable (t : Hr.Town) (pv : Value) (QB : Nat) (ma : Option Addr) (n mc B : Nat) : ∀ i L v w w', spA3 t pv QB B i L v w → Ax QB ma n mc B w w' → spA3 t pv QB B i L v w' := by
  intro i L v w w' h hg
  match i with
  | 0 => exact h
  | 1 => exact h
  | 2 => exact h
  | 3 => exact ⟨h.1, hg.row h.1 h.2⟩
  | 4 =>
    obtain ⟨p, c0, c1, h1, hq, h2, h3⟩ := h
    rcases hg.same p (Array.getElem?_eq_some_iff.1 h3).1 (by omega) with e | ⟨_, cs, wd, vc, _, e1, e2⟩
    · exact ⟨p, c0, c1, h1, hq, h2, e.trans h3⟩
    · exact ⟨p, _, _, h1, hq, h2, e2⟩
  | 5 =>
    obtain ⟨p, c0, c1, h1, hA, hq, h2, h3⟩ := h
    rcases hg.same p (Array.getElem?_eq_some_iff.1 h3).1 (by omega) with e | ⟨_, cs, wd, vc, hA', e1, e2⟩
    · exact ⟨p, c0, c1, h1, hA, hq, h2, e.trans h3⟩
    · exact ⟨p, _, _, h1, hA', hq, h2, e2⟩
end
end Go.Proofs.Ytimedmkpenbmkaa

/- A region by what each of its operations leaves, where one of its operations (j0) may spoil what others left. -/
namespace Go.Proofs.Ytimedmkpenbmkaa.Rk
set_option linter.unusedSimpArgs false
set_option linter.unusedVariables false
open Go Go.RowKit Go.Proofs.Ytimedmkpenbmkaa.Rs
open Go.Proofs.Ytimedmkpenbmkaa.Rg (IsGr)
variable {P : Program} {ops : Array Oper}

/-- what an operation leaves, where it only adds to the memory -/
def GrowAt (G : World → World → Prop) (P : Program) (o : Oper) (a : Act) (w : World) (Φ : Value → World → Prop) : Prop :=
  match (execOp a.eval o).run P w with
  | .ok (.value v) w' => G w w' ∧ Φ v w'
  | .ok .skip w' => G w w' ∧ Φ undef w'
  | .ok (.enter f args) w' => w' = w ∧ Calls P f args w' (fun e w'' => ∃ v, e = .returned v ∧ G w w'' ∧ Φ v w'')
  | _ => False

/-- what is asked of one operation -/
def StepOk (G : World → World → Prop) (P : Program) (ops : Array Oper) (o : Oper) (a : Act) (w : World) (Φ : Value → World → Prop) : Prop :=
  if Region.wanted o (yielded ops a.tmps) = true then GrowAt G P o a w Φ else Φ undef w

section main
variable {n : Nat} {dl : List (List Nat)} {a0 : Act} {w0 : World} {Q : Exit → Act → World → Prop}

structure Inv (G : World → World → Prop) (j0 : Nat) (ops : Array Oper) (n : Nat) (dl : List (List Nat)) (Spec : Nat → Bool → List Value → Value → World → Prop) (a0 : Act) (w0 : World) (V : Nat → Value) (listed : Array Bool) (a : Act) (w : World) : Prop where
  head : HeadInv .any ops n listed
  size : a.tmps.size = a0.tmps.size
  defers : a.defers = a0.defers
  slot : ∀ k, k < n → listed.getD k false = true → ∀ d, dstOf ops k = some d → d < a0.tmps.size → a.tmps[d]? = some (V k)
  other : ∀ d, (∀ k, k < n → listed.getD k false = true → dstOf ops k ≠ some d) → a.tmps[d]? = a0.tmps[d]?
  spec : ∀ k, k < n → listed.getD k false = true → Spec k (listed.getD j0 false) ((dl.getD k []).map V) (V k) w
  gr : G w0 w

theorem Inv.looks {G : World → World → Prop} {j0 : Nat} {Spec : Nat → Bool → List Value → Value → World → Prop} {V : Nat → Value} {listed : Array Bool} {a : Act} {w : World} (inv : Inv G j0 ops n dl Spec a0 w0 V listed a w) {i : Nat} {o : Oper} (hi : ops[i]? = some o) (_hin : i < n) (hiu : listed.getD i false = false)
    (hr : ∀ e ∈ o.after, Region.binds .any e = true → listed.getD e.on false = true)
    (hdl : ∀ k ∈ dl.getD i [], k < n ∧ k ∈ depsOf ops n i)
    (hlook : ∀ k, k < n → ∀ d, dstOf ops k = some d → (d ∈ o.looksAt ops → k ∈ dl.getD i [] ∨ i ∈ depsOf ops n k ∨ i = k) ∧ True)
    (hnd : ∀ j k, j < n → k < n → j ≠ k → ∀ d, dstOf ops k = some d → dstOf ops j ≠ some d) :
    ∀ d ∈ o.looksAt ops, a.tmps[d]? = (canon ops V a0 (dl.getD i [])).tmps[d]? := by
  intro d hd
  have hdep : ∀ k ∈ dl.getD i [], listed.getD k false = true := fun k hk => depsOf_listed inv.head.closed n i (fun o' ho' => by rw [hi] at ho'; cases ho'; exact hr) k (hdl k hk).2
  by_cases hlt : d < a0.tmps.size
  · by_cases hex : ∃ k, k ∈ dl.getD i [] ∧ dstOf ops k = some d
    · obtain ⟨k, hk, hkd⟩ := hex
      rw [inv.slot k (hdl k hk).1 (hdep k hk) d hkd hlt, canon_in V hkd _ _ hk (fun j hj hjk => hnd j k (hdl j hj).1 (hdl k hk).1 hjk d hkd) hlt]
    · rw [canon_out V _ _ (fun k hk e => hex ⟨k, hk, e⟩)]
      refine inv.other d (fun k hk hl e => ?_)
      rcases (hlook k hk d e).1 hd with h | h | h
      · exact hex ⟨k, h, e⟩
      · have := depsOf_listed inv.head.closed n k (fun o' ho' e' he' hb' => inv.head.closed k o' ho' hl e' he' hb') i h
        rw [hiu] at this; cases this
      · subst h; rw [hiu] at hl; cases hl
  · have e1 : a.tmps[d]? = none := Array.getElem?_eq_none (by rw [inv.size]; exact Nat.le_of_not_lt hlt)
    have e2 : (canon ops V a0 (dl.getD i [])).tmps[d]? = none := Array.getElem?_eq_none (by rw [size_canon]; exact Nat.le_of_not_lt hlt)
    rw [e1, e2]

theorem Inv.step {G : World → World → Prop} {j0 : Nat} (hG : IsGr G) {Spec : Nat → Bool → List Value → Value → World → Prop} {V : Nat → Value} {listed : Array Bool} {a : Act} {w w' : World} (inv : Inv G j0 ops n dl Spec a0 w0 V listed a w) {i : Nat} {o : Oper} {v : Value} (hi : ops[i]? = some o) (hin : i < n) (hiu : listed.getD i false = false)
    (hri : i ∈ Region.ready .any ops listed)
    (hdl : ∀ j, j < n → ∀ k ∈ dl.getD j [], k < n ∧ k ∈ depsOf ops n j)
    (hnd : ∀ j k, j < n → k < n → j ≠ k → ∀ d, dstOf ops k = some d → dstOf ops j ≠ some d)
    (stable : ∀ k L v, Spec k (listed.getD j0 false) L v w → Spec k (listed.getD j0 false || i == j0) L v w')
    (hg : G w w') (hs : Spec i (listed.getD j0 false || i == j0) ((dl.getD i []).map V) v w') :
    Inv G j0 ops n dl Spec a0 w0 (fun k => if k = i then v else V k) (listed.setIfInBounds i true) (a.put o.dst v) w' := by
  have hisz : i < listed.size := by rw [inv.head.size]; exact (Array.getElem?_eq_some_iff.1 hi).1
  have hdst : dstOf ops i = o.dst := by simp [dstOf, hi]
  have hdep : ∀ k, k < n → (k = i ∨ listed.getD k false = true) → ∀ j ∈ dl.getD k [], j ≠ i := fun k hk hkl j hj e => by
    have hm := (hdl k hk j hj).2
    rw [e] at hm
    have : listed.getD i false = true := by
      rcases hkl with rfl | hkl
      · obtain ⟨_, o', ho', hall⟩ := mem_ready.1 hri
        exact depsOf_listed inv.head.closed n k (fun o'' ho'' => by rw [ho'] at ho''; cases ho''; exact hall) k hm
      · exact depsOf_listed inv.head.closed n k (fun o' ho' e' he' hb' => inv.head.closed k o' ho' hkl e' he' hb') i hm
    rw [hiu] at this; cases this
  have hmap : ∀ k, k < n → (k = i ∨ listed.getD k false = true) → (dl.getD k []).map (fun k => if k = i then v else V k) = (dl.getD k []).map V := fun k hk hkl =>
    List.map_congr_left fun j hj => by rw [if_neg (hdep k hk hkl j hj)]
  have hj0 : (listed.setIfInBounds i true).getD j0 false = (listed.getD j0 false || i == j0) := by
    by_cases e : i = j0
    · subst e; simp [hisz]
    · rw [getD_set_ne false e]; simp [e]
  refine ⟨inv.head.set hri hin, ?_, ?_, fun k hk hl d hd hlt => ?_, fun d hd => ?_, fun k hk hl => ?_, hG.trans inv.gr hg⟩
  · rw [← inv.size]; cases o.dst <;> simp [Act.put]
  · rw [← inv.defers]; cases o.dst <;> rfl
  · by_cases hki : k = i
    · subst hki
      rw [hdst] at hd
      rw [if_pos rfl, hd]
      simp [Act.put, inv.size, hlt]
    · rw [if_neg hki]
      rw [getD_set_ne false (fun e => hki e.symm)] at hl
      rw [← inv.slot k hk hl d hd hlt]
      cases ho : o.dst with
      | none => rfl
      | some d' =>
        simp only [Act.put]
        exact Array.getElem?_setIfInBounds_ne (fun e => hnd i k hin hk (fun e => hki e.symm) d hd (by rw [hdst, ho, e]))
  · have h1 : dstOf ops i ≠ some d := hd i hin (by simp [hisz])
    rw [hdst] at h1
    rw [← inv.other d (fun k hk hl e => by
      by_cases hki : k = i
      · subst hki; exact h1 (by rw [← hdst]; exact e)
      · exact hd k hk (by rw [getD_set_ne false (fun e => hki e.symm)]; exact hl) e)]
    cases ho : o.dst with
    | none => rfl
    | some d' => simp only [Act.put]; exact Array.getElem?_setIfInBounds_ne (fun e => h1 (by rw [ho, e]))
  · by_cases hki : k = i
    · subst hki
      rw [hmap k hk (.inl rfl), hj0]
      simp only [if_true]
      exact hs
    · rw [getD_set_ne false (fun e => hki e.symm)] at hl
      rw [hmap k hk (.inr hl), hj0]
      simp only [if_neg hki]
      exact stable _ _ _ (inv.spec k hk hl)

theorem head_all {G : World → World → Prop} {j0 : Nat} {Gi : Nat → World → World → Prop} (hG : IsGr G) (hA : ∀ i a b, Gi i a b → G a b) (hRf : ∀ i a, Gi i a a) {Spec : Nat → Bool → List Value → Value → World → Prop} (g : Nat)
    (hsel : ∀ (j : Nat) (o : Oper) cs b, ops[j]? = some o → o.op ≠ .select cs b) (hn : n ≤ ops.size)
    (hsink : n = ops.size ∨ (Region.sinkB .any ops n = true ∧ Region.chainB .any ops n = true))
    (hlow : ∀ i, i < n → ∀ o, ops[i]? = some o → ∀ e ∈ o.after, Region.binds .any e = true → e.on < i)
    (hdl : ∀ j, j < n → ∀ k ∈ dl.getD j [], k < n ∧ k ∈ depsOf ops n j)
    (hlook : ∀ i, i < n → ∀ o, ops[i]? = some o → ∀ k, k < n → ∀ d, dstOf ops k = some d → (d ∈ o.looksAt ops → k ∈ dl.getD i [] ∨ i ∈ depsOf ops n k ∨ i = k) ∧ True)
    (hnd : ∀ j k, j < n → k < n → j ≠ k → ∀ d, dstOf ops k = some d → dstOf ops j ≠ some d)
    (stable : ∀ i c w w', (i = j0 → c = false) → Gi i w w' → ∀ k L v, Spec k c L v w → Spec k (c || i == j0) L v w')
    (step : ∀ i o V w c, ops[i]? = some o → i < n → G w0 w → (i = j0 → c = false) → (∀ k ∈ dl.getD i [], Spec k c ((dl.getD k []).map V) (V k) w) → StepOk (Gi i) P ops o (canon ops V a0 (dl.getD i [])) w (Spec i (c || i == j0) ((dl.getD i []).map V)))
    (fin : ∀ V listed a w, Inv G j0 ops n dl Spec a0 w0 V listed a w → (∀ k, k < n → listed.getD k false = true) → wpAny P .any ops Q g listed a w) :
    ∀ (f : Nat) (V : Nat → Value) (listed : Array Bool) (a : Act) (w : World), left n listed = f → Inv G j0 ops n dl Spec a0 w0 V listed a w → wpAny P .any ops Q (f + g) listed a w := by
  intro f
  induction f with
  | zero => intro V listed a w hf inv; rw [Nat.zero_add]; exact fin V listed a w inv (left_zero hf)
  | succ f ih =>
    intro V listed a w hf inv
    have hun : ∃ i, i < n ∧ listed.getD i false = false ∧ ∀ j, j < i → listed.getD j false = true := by
      have hex : ∃ i, i < n ∧ listed.getD i false = false := by
        apply Classical.byContradiction
        intro hno
        have : left n listed = 0 := by
          unfold left
          rw [List.length_eq_zero_iff, List.filter_eq_nil_iff]
          intro i hi
          cases hv : listed.getD i false with
          | true => simp
          | false => exact absurd ⟨i, List.mem_range.1 hi, hv⟩ hno
        omega
      obtain ⟨i, h1, h2⟩ := hex
      induction i using Nat.strongRecOn with
      | _ i ihi =>
        by_cases h3 : ∀ j, j < i → listed.getD j false = true
        · exact ⟨i, h1, h2, h3⟩
        · simp only [Classical.not_forall] at h3
          obtain ⟨j, hj, hj2⟩ := h3
          exact ihi j hj (by omega) (by simpa using hj2)
    obtain ⟨i0, hi0, hi0u, hi0m⟩ := hun
    have hready0 : i0 ∈ Region.ready .any ops listed := by
      rw [mem_ready]
      have hlt : i0 < ops.size := by omega
      refine ⟨getD_in (by rw [inv.head.size]; exact hlt) hi0u, ops[i0], Array.getElem?_eq_getElem hlt, fun e he hb => hi0m _ (hlow i0 hi0 _ (Array.getElem?_eq_getElem hlt) e he hb)⟩
    rw [show f + 1 + g = (f + g) + 1 by omega]
    refine ⟨fun h => (by rw [h] at hready0; cases hready0), fun i hi => ?_⟩
    obtain ⟨hiu, o, ho, hall⟩ := mem_ready.1 hi
    have hiu' := getD_both hiu
    have hilt : i < ops.size := (Array.getElem?_eq_some_iff.1 ho).1
    have hin : i < n := by
      rcases hsink with h | ⟨h1, h2⟩
      · omega
      · by_cases hns : n < ops.size
        · rcases Nat.lt_or_ge i n with h | h
          · exact h
          · exact absurd hi (tail_waits h1 h2 hns inv.head _ i0 rfl hi0 (getD_in (by rw [inv.head.size]; omega) hi0u) i h)
        · omega
    have hc0 : i = j0 → listed.getD j0 false = false := fun e => by rw [← e]; exact hiu'
    have hso := step i o V w (listed.getD j0 false) ho hin inv.gr hc0 (fun k hk => inv.spec k (hdl i hin k hk).1 (depsOf_listed inv.head.closed n i (fun o' ho' => by rw [ho] at ho'; cases ho'; exact hall) k (hdl i hin k hk).2))
    have hlk := inv.looks ho hin hiu' hall (hdl i hin) (hlook i hin o ho) hnd
    have hw := wanted_congr (ops := ops) o hlk
    have hex := exec_congr (ops := ops) o (fun cs b => hsel i o cs b ho) hlk
    have hnext : ∀ v w', Gi i w w' → Spec i (listed.getD j0 false || i == j0) ((dl.getD i []).map V) v w' → wpAny P .any ops Q (f + g) (listed.setIfInBounds i true) (a.put o.dst v) w' := fun v w' hg hs =>
      ih _ _ _ _ (by have := left_set (n := n) hin (by rw [inv.head.size]; exact hilt) hiu'; omega) (inv.step hG ho hin hiu' hi hdl hnd (stable i _ _ _ hc0 hg) (hA _ _ _ hg) hs)
    unfold StepOk at hso
    rw [← hw] at hso
    unfold wpOp
    simp only [ho]
    by_cases hwt : Region.wanted o (yielded ops a.tmps) = true
    · rw [if_pos hwt] at hso ⊢
      refine .inl ?_
      unfold GrowAt at hso
      unfold Oper.wp
      rw [← hex] at hso
      generalize (execOp a.eval o).run P w = r at hso
      cases r with
      | halt x w' => exact hso.elim
      | ok nx w' =>
        cases nx with
        | value v => exact hnext v w' hso.1 hso.2
        | skip => exact hnext undef w' hso.1 hso.2
        | enter fn args =>
          refine hso.2.mono ?_
          rintro e w'' ⟨v, rfl, h1, h2⟩
          exact hnext v w'' h1 h2
        | _ => exact hso.elim
    · rw [if_neg hwt] at hso ⊢
      exact hnext undef w (hRf _ _) hso

/-- **THE REGION**, by what each operation leaves -/
theorem region_spec {G : World → World → Prop} {j0 : Nat} {Gi : Nat → World → World → Prop} (hG : IsGr G) (hA : ∀ i a b, Gi i a b → G a b) (hRf : ∀ i a, Gi i a a) {id : Nat} {l : List Oper} {w : World} {a0 : Act} {Q : Exit → Act → World → Prop} (n : Nat) (dl : List (List Nat)) (hm : P.follows .mixedOrders = true) (hB : shapeB l.toArray n dl = true)
    (hj0 : j0 < n) (Spec : Nat → Bool → List Value → Value → World → Prop) (stable : ∀ i c w w', (i = j0 → c = false) → Gi i w w' → ∀ k L v, Spec k c L v w → Spec k (c || i == j0) L v w')
    (step : ∀ i o V w' c, l[i]? = some o → i < n → G w w' → (i = j0 → c = false) → (∀ k ∈ dl.getD i [], Spec k c ((dl.getD k []).map V) (V k) w') → StepOk (Gi i) P l.toArray o (canon l.toArray V a0 (dl.getD i [])) w' (Spec i (c || i == j0) ((dl.getD i []).map V)))
    (fin : ∀ V w', G w w' → (∀ k, k < n → Spec k true ((dl.getD k []).map V) (V k) w') → wpList P l.toArray Q (l.drop n) (canon l.toArray V a0 (List.range n)) w') :
    (Code.region id l.toArray true).wp P Q a0 w := by
  simp only [shapeB, Bool.and_eq_true, decide_eq_true_eq, Bool.or_eq_true] at hB
  obtain ⟨⟨⟨⟨⟨hsel, hn⟩, hdlen⟩, hsink⟩, hall⟩, hseq⟩ := hB
  rw [List.all_eq_true] at hall
  have hops : ∀ i, i < n → ∃ o, l.toArray[i]? = some o ∧ (∀ e ∈ o.after, Region.binds .any e = true → e.on < i) ∧ (∀ k ∈ dl.getD i [], k < n ∧ k ∈ depsOf l.toArray n i) ∧
      (∀ k, k < n → ∀ d, dstOf l.toArray k = some d → (d ∈ o.looksAt l.toArray → k ∈ dl.getD i [] ∨ i ∈ depsOf l.toArray n k ∨ i = k) ∧ (k ≠ i → dstOf l.toArray i ≠ some d)) := by
    intro i hi
    have h := hall i (List.mem_range.2 hi)
    cases ho : l.toArray[i]? with
    | none => rw [ho] at h; cases h
    | some o =>
      rw [ho] at h
      simp only [Bool.and_eq_true, List.all_eq_true] at h
      obtain ⟨⟨h1, h2⟩, h3⟩ := h
      refine ⟨o, rfl, fun e he hb => ?_, fun k hk => ?_, fun k hk d hd => ?_⟩
      · have := h1 e (by simpa using he)
        rw [hb] at this; simpa using this
      · have := h2 k hk
        simpa using this
      · have := h3 k (List.mem_range.2 hk)
        rw [hd] at this
        simp only [Bool.and_eq_true, Bool.or_eq_true, Bool.not_eq_true', beq_iff_eq, decide_eq_true_eq, List.contains_iff_mem] at this
        refine ⟨fun hm => ?_, fun hne => ?_⟩
        · rcases this.1 with ((h | h) | h) | h
          · rw [show (o.looksAt l.toArray).contains d = true from List.contains_iff_mem.2 hm] at h; cases h
          · exact .inl h
          · exact .inr (.inl h)
          · exact .inr (.inr h)
        · rcases this.2 with h | h
          · exact absurd h hne
          · exact h
  have hnd : ∀ j k, j < n → k < n → j ≠ k → ∀ d, dstOf l.toArray k = some d → dstOf l.toArray j ≠ some d := fun j k hj hk hne d hd => by
    obtain ⟨o, _, _, _, h⟩ := hops j hj
    exact (h k hk d hd).2 (fun e => hne e.symm)
  refine wp_region_any hm ?_
  have inv0 : Inv G j0 l.toArray n dl Spec a0 w (fun _ => undef) (Array.replicate l.toArray.size false) a0 { w with drawn := w.drawn + 1 } :=
    ⟨⟨by simp, fun j oj _ hl => (by rw [getD_replicate_false] at hl; cases hl), fun t _ ht => getD_in (by simpa using ht) (getD_replicate_false _ _)⟩, rfl, rfl,
      fun k _ hl => (by rw [getD_replicate_false] at hl; cases hl), fun _ _ => rfl, fun k _ hl => (by rw [getD_replicate_false] at hl; cases hl), hG.drew _⟩
  have hleft : left n (Array.replicate l.toArray.size false) = n := by
    unfold left
    rw [List.filter_eq_self.2 (fun i _ => by rw [getD_replicate_false]; rfl)]
    simp
  have := head_all hG hA hRf (P := P) (Q := Q) (Spec := Spec) (dl := dl) (a0 := a0) (w0 := w) (l.toArray.size - n) (Region.noSelect_spec hsel) hn (by rcases hsink with h | h; exact .inl h; exact .inr h)
    (fun i hi o ho e he hb => by obtain ⟨o', ho', h1, _⟩ := hops i hi; rw [ho] at ho'; cases ho'; exact h1 e he hb)
    (fun j hj => by obtain ⟨_, _, _, h, _⟩ := hops j hj; exact h)
    (fun i hi o ho k hk d hd => by obtain ⟨o', ho', _, _, h⟩ := hops i hi; rw [ho] at ho'; cases ho'; exact ⟨(h k hk d hd).1, trivial⟩)
    hnd stable (fun i o V w' c ho => step i o V w' c (by simpa using ho)) ?_ n _ _ _ _ hleft inv0
  · rwa [show n + (l.toArray.size - n) = l.toArray.size by omega] at this
  · intro V listed a w' inv hl
    have hld : listed = ((List.range l.toArray.size).map (fun i => decide (i < n))).toArray := by
      apply Array.ext
      · rw [inv.head.size]; simp
      · intro i h1 h2
        have hi : i < l.toArray.size := by rw [inv.head.size] at h1; exact h1
        have e2 : ((List.range l.toArray.size).map (fun i => decide (i < n))).toArray[i] = decide (i < n) := by simp
        rw [e2]
        by_cases hin : i < n
        · have := hl i hin
          simp only [hin, decide_true]
          simpa [h1] using this
        · have := inv.head.tail i (by omega) hi
          simp only [hin, decide_false]
          simpa [h1] using this
    have hact : a = canon l.toArray V a0 (List.range n) := by
      have ht : a.tmps = (canon l.toArray V a0 (List.range n)).tmps := by
        apply Array.ext_getElem?
        intro d
        by_cases hlt : d < a0.tmps.size
        · by_cases hex : ∃ k, k < n ∧ dstOf l.toArray k = some d
          · obtain ⟨k, hk, hd⟩ := hex
            rw [inv.slot k hk (hl k hk) d hd hlt, canon_in V hd _ _ (List.mem_range.2 hk) (fun j hj hjk => hnd j k (List.mem_range.1 hj) hk hjk d hd) hlt]
          · rw [inv.other d (fun k hk _ e => hex ⟨k, hk, e⟩), canon_out V _ _ (fun k hk e => hex ⟨k, List.mem_range.1 hk, e⟩)]
        · have e1 : a.tmps[d]? = none := Array.getElem?_eq_none (by rw [inv.size]; exact Nat.le_of_not_lt hlt)
          have e2 : (canon l.toArray V a0 (List.range n)).tmps[d]? = none := Array.getElem?_eq_none (by rw [size_canon]; exact Nat.le_of_not_lt hlt)
          rw [e1, e2]
      have hdf : a.defers = (canon l.toArray V a0 (List.range n)).defers := by rw [inv.defers, defers_canon]
      obtain ⟨t, d⟩ := a
      generalize canon l.toArray V a0 (List.range n) = b at ht hdf
      obtain ⟨t', d'⟩ := b
      dsimp only at ht hdf
      rw [ht, hdf]
    have hf := fin V w' inv.gr (fun k hk => by have := inv.spec k hk (hl k hk); rwa [hl j0 hj0] at this)
    rw [← hact] at hf
    have hdl : (l.drop n).length = l.toArray.size - n := by simp
    have hsq := wpAny_of_seq (P := P) (md := .any) (Q' := Q) (l.drop n) n listed a w' (fun j => by simp [List.getElem?_drop]) (by rw [hdl, hld]; exact hseq) hf
    rwa [hdl] at hsq
/-- what an operation's operand holds: the value of an operation that it knows of, else what the slot held -/
def GrowL (G : World → World → Prop) (P : Program) (o : Oper) (ρ : Operand → Value) (w : World) (Φ : Value → World → Prop) : Prop :=
  match (execOp ρ o).run P w with
  | .ok (.value v) w' => G w w' ∧ Φ v w'
  | .ok .skip w' => G w w' ∧ Φ undef w'
  | .ok (.enter f args) w' => w' = w ∧ Calls P f args w' (fun e w'' => ∃ v, e = .returned v ∧ G w w'' ∧ Φ v w'')
  | _ => False
theorem GrowL.value {G : World → World → Prop} {o : Oper} {ρ : Operand → Value} {w w' : World} {v : Value} {Φ : Value → World → Prop} (h : (execOp ρ o).run P w = .ok (.value v) w') (hg : G w w') (hv : Φ v w') : GrowL G P o ρ w Φ := by
  unfold GrowL; rw [h]; exact ⟨hg, hv⟩
theorem GrowL.call {G : World → World → Prop} {o : Oper} {ρ : Operand → Value} {w : World} {Φ : Value → World → Prop} {f : FuncId} {args : Array Value} (h : (execOp ρ o).run P w = .ok (.enter f args) w) (hc : Calls P f args w (fun e w'' => ∃ v, e = .returned v ∧ G w w'' ∧ Φ v w'')) : GrowL G P o ρ w Φ := by
  unfold GrowL; rw [h]; exact ⟨rfl, hc⟩

/-- each operation by what it leaves, which may be told of what the others left -/
def genSteps (G : World → World → Prop) (j0 : Nat) (Gi : Nat → World → World → Prop) (P : Program) (ds : List (Option Nat)) (a0 : Act) (w : World) (dl0 : List (List Nat)) (Sp : Nat → Bool → List Value → Value → World → Prop) : List Oper → Nat → List (List Nat) → Prop
  | o :: l, i, d :: dl => (∀ (V : Nat → Value) w' c, G w w' → (i = j0 → c = false) → (∀ k ∈ d, Sp k c ((dl0.getD k []).map V) (V k) w') → if wantB o V = true then GrowL (Gi i) P o (Rs.look ds V a0 d) w' (Sp i (c || i == j0) (d.map V)) else Sp i (c || i == j0) (d.map V) undef w') ∧ genSteps G j0 Gi P ds a0 w dl0 Sp l (i + 1) dl
  | _, _, _ => True
theorem genSteps_get {G : World → World → Prop} {j0 : Nat} {Gi : Nat → World → World → Prop} {ds : List (Option Nat)} {a0 : Act} {w : World} {dl0 : List (List Nat)} {Sp : Nat → Bool → List Value → Value → World → Prop} : ∀ (l : List Oper) (i : Nat) (dl : List (List Nat)), genSteps G j0 Gi P ds a0 w dl0 Sp l i dl → ∀ (j : Nat) (o : Oper) (d : List Nat), l[j]? = some o → dl[j]? = some d →
    ∀ (V : Nat → Value) w' c, G w w' → (i + j = j0 → c = false) → (∀ k ∈ d, Sp k c ((dl0.getD k []).map V) (V k) w') → if wantB o V = true then GrowL (Gi (i + j)) P o (Rs.look ds V a0 d) w' (Sp (i + j) (c || i + j == j0) (d.map V)) else Sp (i + j) (c || i + j == j0) (d.map V) undef w'
  | [], _, _, _, j, o, d, ho, _ => by simp at ho
  | _ :: _, _, [], _, j, o, d, _, hd => by simp at hd
  | o' :: l, i, d' :: dl, h, 0, o, d, ho, hd => by simp at ho hd; subst ho; subst hd; exact h.1
  | o' :: l, i, d' :: dl, h, j + 1, o, d, ho, hd => by
    have := genSteps_get l (i + 1) dl h.2 j o d (by simpa using ho) (by simpa using hd)
    rwa [show i + (j + 1) = i + 1 + j by omega]

/-- **A region by what each of its first operations leaves**, in whatever order. -/
theorem region_gen {G : World → World → Prop} (j0 : Nat) (Gi : Nat → World → World → Prop) (hG : IsGr G) (hA : ∀ i a b, Gi i a b → G a b) (hRf : ∀ i a, Gi i a a) {id : Nat} {l : List Oper} {w : World} {a0 : Act} {Q : Exit → Act → World → Prop} (n : Nat) (dl : List (List Nat)) (ds : List (Option Nat)) (hj0 : j0 < n) (Sp : Nat → Bool → List Value → Value → World → Prop) (hm : P.follows .mixedOrders = true) (hB : shapeB l.toArray n dl = true) (hS : slotsB l.toArray n a0.tmps.size dl ds = true)
    (stable : ∀ i c w w', (i = j0 → c = false) → Gi i w w' → ∀ k L v, Sp k c L v w → Sp k (c || i == j0) L v w')
    (step : genSteps G j0 Gi P ds a0 w dl Sp l 0 dl)
    (fin : ∀ V w', G w w' → (∀ k, k < n → Sp k true ((dl.getD k []).map V) (V k) w') → wpList P l.toArray Q (l.drop n) (canon l.toArray V a0 (List.range n)) w') :
    (Code.region id l.toArray true).wp P Q a0 w := by
  have hB' := hB
  simp only [shapeB, Bool.and_eq_true, decide_eq_true_eq] at hB'
  obtain ⟨⟨⟨⟨⟨hsel, hn⟩, hdlen⟩, _⟩, hall⟩, _⟩ := hB'
  rw [List.all_eq_true] at hall
  unfold slotsB at hS
  rw [List.all_eq_true] at hS
  have hdst : ∀ i, i < n → dstOf l.toArray i = ds.getD i none ∧ ∀ d, dstOf l.toArray i = some d → d < a0.tmps.size := fun i hi => by
    have h := hS i (List.mem_range.2 hi)
    simp only [Bool.and_eq_true, beq_iff_eq] at h
    refine ⟨h.1.1, fun d hd => ?_⟩
    have h2 := h.1.2
    rw [← h.1.1, hd] at h2
    simpa using h2
  refine region_spec hG hA hRf n dl hm hB hj0 Sp stable (fun i o V w' c ho hi hg hc hs => ?_) fin
  have hst := genSteps_get l 0 dl step i o (dl.getD i []) ho (by simp [List.getElem?_eq_getElem (show i < dl.length by omega)]) V w' c hg (by rw [Nat.zero_add]; exact hc) hs
  rw [Nat.zero_add] at hst
  have hio := hall i (List.mem_range.2 hi)
  have hoo : l.toArray[i]? = some o := by simpa using ho
  rw [hoo] at hio
  simp only [Bool.and_eq_true, List.all_eq_true] at hio
  obtain ⟨⟨_, h2⟩, h3⟩ := hio
  have hdl : ∀ k ∈ dl.getD i [], k < n := fun k hk => by have := h2 k hk; simp only [Bool.and_eq_true, decide_eq_true_eq] at this; exact this.1
  have hnd : ∀ j k, j < n → k < n → j ≠ k → ∀ d, dstOf l.toArray k = some d → dstOf l.toArray j ≠ some d := fun j k hj hk hne d hd => by
    have h := hall j (List.mem_range.2 hj)
    cases hoj : l.toArray[j]? with
    | none => rw [hoj] at h; cases h
    | some oj =>
      rw [hoj] at h
      simp only [Bool.and_eq_true, List.all_eq_true] at h
      have := h.2 k (List.mem_range.2 hk)
      rw [hd] at this
      simp only [Bool.and_eq_true, Bool.or_eq_true, beq_iff_eq, decide_eq_true_eq] at this
      rcases this.2 with h | h
      · exact absurd h.symm hne
      · exact h
  have hslot : ∀ t, (canon l.toArray V a0 (dl.getD i [])).eval (.tmp t) = Rs.look ds V a0 (dl.getD i []) (.tmp t) := fun t => by
    unfold Rs.look
    simp only
    split
    · rename_i k hk
      have hkm := List.mem_of_find?_eq_some hk
      have hkd := List.find?_some hk
      simp only [beq_iff_eq] at hkd
      have hkn := hdl k hkm
      have e : dstOf l.toArray k = some t := by rw [(hdst k hkn).1]; exact hkd
      have := canon_in (ops := l.toArray) V e (dl.getD i []) a0 hkm (fun j hj hjk => hnd j k (hdl j hj) hkn hjk t e) ((hdst k hkn).2 t e)
      simp only [Act.eval, Array.getD_eq_getD_getElem?, this, Option.getD_some]
    · rename_i hk
      have hno : ∀ k ∈ dl.getD i [], dstOf l.toArray k ≠ some t := fun k hkm e => by
        have := List.find?_eq_none.1 hk k hkm
        rw [(hdst k (hdl k hkm)).1] at e
        rw [e] at this; exact this (by simp)
      have := canon_out (ops := l.toArray) V (d := t) (dl.getD i []) a0 hno
      simp only [Act.eval, Array.getD_eq_getD_getElem?, this]
  have hex : execOp (canon l.toArray V a0 (dl.getD i [])).eval o = execOp (Rs.look ds V a0 (dl.getD i [])) o :=
    execOp_congr o (fun c b => Region.noSelect_spec hsel i o c b hoo) fun x _ => by
      cases x with
      | tmp t => exact hslot t
      | _ => rfl
  have hwant : Region.wanted o (yielded l.toArray (canon l.toArray V a0 (dl.getD i [])).tmps) = wantB o V := by
    unfold Region.wanted wantB
    cases hgd : o.guard with
    | none => rfl
    | some gb =>
      obtain ⟨g, b⟩ := gb
      have h := hS i (List.mem_range.2 hi)
      rw [hoo] at h
      simp only [Option.bind_some, hgd, Bool.and_eq_true, List.contains_iff_mem] at h
      obtain ⟨hgm, hgs⟩ := h.2
      obtain ⟨t, ht⟩ := Option.isSome_iff_exists.1 hgs
      have hgn := hdl g hgm
      have hv := canon_in (ops := l.toArray) V ht (dl.getD i []) a0 hgm (fun j hj hjk => hnd j g (hdl j hj) hgn hjk t ht) ((hdst g hgn).2 t ht)
      have hy : yielded l.toArray (canon l.toArray V a0 (dl.getD i [])).tmps g = match V g with | .bool x => some x | _ => none := by
        unfold yielded
        unfold dstOf at ht
        simp only [ht, Option.bind_some, hv]
        cases V g <;> rfl
      simp only [hy]
      cases V g <;> simp
  unfold StepOk
  rw [hwant]
  by_cases hw : wantB o V = true
  · rw [if_pos hw] at hst ⊢
    unfold GrowL at hst
    unfold GrowAt
    rw [hex]
    exact hst
  · rw [if_neg hw] at hst ⊢
    exact hst
end main
end Go.Proofs.Ytimedmkpenbmkaa.Rk

namespace Go.Proofs.Ytimedmkpenbmkaa
open Go.RowKit Go.Shelf
set_option linter.unusedSimpArgs false
set_option linter.unusedVariables false

/-! a wall more -/
def wallT (t : Hr.Town) (p : Nat) : Hr.Town := ⟨t.wide, t.plots.set p 2⟩
theorem wall_len (t : Hr.Town) (p : Nat) : (wallT t p).len = t.len := by unfold wallT Hr.Town.len; simp
theorem wall_at (t : Hr.Town) (p q : Nat) : (wallT t p).at q = if p = q ∧ q < t.len then 2 else t.at q := by
  unfold wallT Hr.Town.at Hr.Town.len
  simp only
  rw [List.getD_eq_getElem?_getD, List.getD_eq_getElem?_getD, List.getElem?_set]
  by_cases h : p = q
  · subst h
    by_cases h2 : p < t.plots.length
    · simp [h2]
    · simp [h2, List.getElem?_eq_none (by omega : t.plots.length ≤ p)]
  · simp [h]
theorem wall_at2 {t : Hr.Town} {p q : Nat} (h : (wallT t p).at q ≠ 2) : (wallT t p).at q = t.at q := by
  rw [wall_at] at h ⊢
  split
  · rename_i e; rw [if_pos e] at h; exact absurd rfl h
  · rfl
theorem wall_steps {t : Hr.Town} {p : Nat} {wind : Int} {f q : Nat} {n : Int} (h : (q, n) ∈ (wallT t p).steps wind f) : (q, n) ∈ t.steps wind f := by
  obtain ⟨h1, h2, d, hd, hn, hc⟩ := Hr.mem_steps.1 h
  refine Hr.mem_steps.2 ⟨by rw [← wall_at2 h1]; exact h1, by rw [← wall_at2 h2]; exact h2, d, hd, ?_, ?_⟩
  · rw [← hn]; unfold Hr.Town.nbr Hr.Town.rows; rw [wall_len]; rfl
  · rw [hc]; unfold Hr.Town.cost; rw [wall_at2 h2]
theorem wall_way {t : Hr.Town} {p : Nat} {wind : Int} {s q : Nat} {c : Int} (h : (wallT t p).Way wind s q c) : t.Way wind s q c := by
  induction h with
  | here => exact .here
  | on _ hs ih => exact .on ih (wall_steps hs)
theorem wall_needs {t : Hr.Town} (ok : t.Ok) {p : Nat} (oku : (wallT t p).Ok) (wind : Int) {s : Nat} (hs : s < t.len) {k : Nat} (hk : k < t.len) (h : ((wallT t p).needs wind s).getD k 0 ≠ -1) :
    (t.needs wind s).getD k 0 ≠ -1 ∧ (t.needs wind s).getD k 0 ≤ ((wallT t p).needs wind s).getD k 0 := by
  have hw := (Hr.needs_fix oku wind (by rw [wall_len]; exact hs)).inv.way k (by rw [wall_len]; exact hk) h
  exact (Hr.needs_fix ok wind hs).le ok hs (wall_way hw)
theorem cnt1_set2 : ∀ (xs : List Int) (i : Nat), cnt1 (xs.set i 2) ≤ cnt1 xs
  | [], _ => Nat.le_refl _
  | y :: ys, 0 => by unfold cnt1; simp [List.countP_cons]
  | y :: ys, i + 1 => by
    have := cnt1_set2 ys i
    unfold cnt1 at *
    simp only [List.set_cons_succ, List.countP_cons]
    omega
theorem wall_check {wd : Int} {xs : List Int} (h : checkErr wd xs = 0) (p : Nat) : checkErr wd (xs.set p 2) = 0 := by
  unfold checkErr at h ⊢
  rw [List.length_set]
  split at h
  · omega
  · rename_i h1
    rw [if_neg h1]
    split at h
    · omega
    · rename_i h2
      have hb : ¬ ((xs.set p 2).any badPlot = true) := by
        intro e
        rw [List.any_eq_true] at e
        obtain ⟨z, hz, hb⟩ := e
        rcases List.mem_or_eq_of_mem_set hz with h3 | h3
        · exact h2 (List.any_eq_true.2 ⟨z, h3, hb⟩)
        · subst h3; simp [badPlot] at hb
      rw [if_neg hb]
      split at h
      · omega
      · rename_i h3
        have := cnt1_set2 xs p
        rw [if_neg (by omega)]

/-! every house named -/
def allNm (xs : List Int) (k p : Nat) : Bool := decide (p < k ∧ xs.getD p 0 = 1)
theorem qAll_app (xs : List Int) : ∀ (a b : List Int) (nm : List Bool), (qAll xs nm a).1 = 0 → qAll xs nm (a ++ b) = qAll xs (qAll xs nm a).2 b
  | [], b, nm, _ => rfl
  | h :: r, b, nm, h0 => by
    have e1 : qAll xs nm (h :: r) = if (qStep xs nm h).1 ≠ 0 then qStep xs nm h else qAll xs (qStep xs nm h).2 r := rfl
    have e2 : qAll xs nm (h :: r ++ b) = if (qStep xs nm h).1 ≠ 0 then qStep xs nm h else qAll xs (qStep xs nm h).2 (r ++ b) := rfl
    rw [e1] at h0
    rw [e2, e1]
    by_cases hs : (qStep xs nm h).1 ≠ 0
    · rw [if_pos hs] at h0; exact absurd h0 hs
    · rw [if_neg hs] at h0 ⊢
      rw [if_neg hs]
      exact qAll_app xs r b _ h0
theorem qAll_houses (xs : List Int) (h30 : xs.length ≤ 30) : ∀ k, k ≤ xs.length → (qAll xs (List.replicate 30 false) (kindTo xs 1 k)).1 = 0 ∧ ∀ p, p < 30 → (qAll xs (List.replicate 30 false) (kindTo xs 1 k)).2.getD p false = allNm xs k p
  | 0, _ => ⟨rfl, fun p hp => by
    have : kindTo xs 1 0 = [] := rfl
    rw [this]
    show (List.replicate 30 false).getD p false = _
    rw [List.getD_eq_getElem?_getD, List.getElem?_replicate, if_pos hp]; simp [allNm]⟩
  | k + 1, hk => by
    obtain ⟨h1, h2⟩ := qAll_houses xs h30 k (by omega)
    by_cases e : xs.getD k 0 = 1
    · rw [kindTo_yes (by rw [e]; rfl), qAll_app xs _ _ _ h1]
      obtain ⟨N, hN⟩ : ∃ N, N = (qAll xs (List.replicate 30 false) (kindTo xs 1 k)).2 := ⟨_, rfl⟩
      have hl : N.length = 30 := by rw [hN, qAll_len]; simp
      rw [← hN] at h2 ⊢
      have hq : qStep xs N (k : Int) = (0, N.set k true) := by
        unfold qStep
        have hp : plotErr xs (k : Int) 1 = 0 := by unfold plotErr; rw [if_neg (by omega), Int.toNat_natCast, if_pos e]
        rw [if_neg (by rw [hp]; simp), Int.toNat_natCast, h2 k (by omega)]
        simp [allNm]
      have e3 : qAll xs N [(k : Int)] = (0, N.set k true) := by
        show (if (qStep xs N (k : Int)).1 ≠ 0 then qStep xs N (k : Int) else qAll xs (qStep xs N (k : Int)).2 []) = _
        rw [hq]; rfl
      rw [e3]
      refine ⟨rfl, fun p hp => ?_⟩
      rw [List.getD_eq_getElem?_getD, List.getElem?_set]
      by_cases hkp : k = p
      · subst hkp
        have : k < N.length := by omega
        rw [if_pos rfl, if_pos this]
        have e4 : allNm xs (k + 1) k = true := by unfold allNm; rw [decide_eq_true_iff]; exact ⟨Nat.lt_succ_self _, e⟩
        rw [e4]; rfl
      · rw [if_neg hkp, ← List.getD_eq_getElem?_getD, h2 p hp]
        unfold allNm
        congr 1
        apply propext
        constructor
        · rintro ⟨a, b⟩; exact ⟨by omega, b⟩
        · rintro ⟨a, b⟩; exact ⟨by omega, b⟩
    · rw [kindTo_no (by simpa using e)]
      refine ⟨h1, fun p hp => ?_⟩
      rw [h2 p hp]
      unfold allNm
      congr 1
      apply propext
      constructor
      · rintro ⟨a, b⟩; exact ⟨by omega, b⟩
      · rintro ⟨a, b⟩
        refine ⟨?_, b⟩
        by_cases hpk : p = k
        · subst hpk; exact absurd b e
        · omega
def qNm (xs : List Int) : List Bool := (qAll xs (List.replicate 30 false) (kindIdx xs 1)).2
theorem qNm_len (xs : List Int) : (qNm xs).length = 30 := by unfold qNm; rw [qAll_len]; simp
theorem lis_houses {t : Hr.Town} (ok : t.Ok) (wind voice : Int) : lis t wind voice ((qNm t.plots).getD · false) = lis t wind voice fun _ => true := by
  have h := (qAll_houses t.plots ok.n30 t.plots.length (Nat.le_refl _)).2
  unfold lis lisTo
  congr 1
  apply List.filter_congr
  intro p hp
  have hp := List.mem_range.1 hp
  have h30 : t.len ≤ 30 := ok.n30
  have e : (qNm t.plots).getD p false = allNm t.plots t.plots.length p := h p (by omega)
  show (t.at p == 1 && (qNm t.plots).getD p false) = (t.at p == 1 && true)
  rw [e]
  unfold allNm
  show (t.at p == 1 && decide (p < t.plots.length ∧ t.at p = 1)) = (t.at p == 1 && true)
  by_cases h1 : t.at p = 1
  · have : p < t.plots.length := hp
    simp [h1, this]
  · simp [h1]

/-! who cannot be left out -/
theorem firstE_deaf {t : Hr.Town} (wind voice : Int) : (firstE (lis t wind voice fun _ => true) = 0) ↔ deafOf t wind voice = [] := by
  rw [firstE_eq]
  unfold deafOf deafTo
  rw [List.take_length]
  constructor
  · intro h
    have : ¬ ((lis t wind voice fun _ => true).any (fun x => deafB x.2) = true) := by intro e; rw [if_pos e] at h; exact absurd h (by decide)
    rw [List.map_eq_nil_iff, List.filter_eq_nil_iff]
    intro x hx hd
    exact this (List.any_eq_true.2 ⟨x, hx, hd⟩)
  · intro h
    rw [List.map_eq_nil_iff, List.filter_eq_nil_iff] at h
    rw [if_neg]
    intro e
    obtain ⟨x, hx, hd⟩ := List.any_eq_true.1 e
    exact h x hx hd
theorem firstE_or (l : List (Nat × List Bool)) : firstE l = 0 ∨ firstE l = 6 := by
  rw [firstE_eq]; split
  · exact .inr rfl
  · exact .inl rfl
theorem count_lt {A H : List Int} : countTo A H H.length < H.length ↔ ∃ h ∈ H, h ∉ A := by
  unfold countTo
  rw [List.take_length]
  constructor
  · intro h
    false_or_by_contra
    rename_i h2
    have : H.filter (fun h => decide (h ∈ A)) = H := by
      rw [List.filter_eq_self]
      intro a ha
      rw [decide_eq_true_iff]
      false_or_by_contra
      rename_i h3
      exact h2 ⟨a, ha, h3⟩
    rw [this] at h; omega
  · rintro ⟨h, h1, h2⟩
    refine Nat.lt_of_le_of_ne (List.length_filter_le _ _) fun e => ?_
    have e2 := List.length_filter_eq_length_iff.1 e h h1
    rw [decide_eq_true_iff] at e2
    exact h2 e2
theorem mem_housesOf {t : Hr.Town} {wind voice : Int} {s h : Nat} : (h : Int) ∈ housesOf t wind voice s ↔ h < t.len ∧ t.at h = 1 ∧ hearB t wind voice h s = true := by
  unfold housesOf housesTo
  rw [List.mem_map]
  constructor
  · rintro ⟨p, hp, e⟩
    obtain rfl : p = h := by omega
    rw [List.mem_filter, List.mem_range, Bool.and_eq_true, beq_iff_eq] at hp
    exact ⟨hp.1, hp.2.1, hp.2.2⟩
  · rintro ⟨a, b, c⟩
    exact ⟨h, by rw [List.mem_filter, List.mem_range, Bool.and_eq_true, beq_iff_eq]; exact ⟨a, b, c⟩, rfl⟩
theorem only_iff {t : Hr.Town} {wind voice : Int} {h p : Nat} : onlyB p (ears t wind voice h) = true ↔ ∀ s, s < 30 → hearB t wind voice h s = decide (s = p) := by
  unfold onlyB onlyL
  rw [decide_eq_true_iff]
  constructor
  · intro e s hs
    have h1 : (ears t wind voice h)[s]? = some (hearB t wind voice h s) := by unfold ears; simp [hs]
    rw [e, List.getElem?_set] at h1
    by_cases hps : p = s
    · subst hps
      simp [hs] at h1
      simp [← h1]
    · rw [if_neg hps, List.getElem?_replicate, if_pos hs] at h1
      injection h1 with h1
      rw [← h1]
      simp [Ne.symm hps]
  · intro e
    apply List.ext_getElem?
    intro s
    by_cases hs : s < 30
    · have h1 : (ears t wind voice h)[s]? = some (hearB t wind voice h s) := by unfold ears; simp [hs]
      rw [h1, e s hs, List.getElem?_set]
      by_cases hps : p = s
      · subst hps; simp [hs]
      · rw [if_neg hps, List.getElem?_replicate, if_pos hs]; simp [Ne.symm hps]
    · rw [List.getElem?_eq_none (by unfold ears; simp; omega), List.getElem?_eq_none (by simp; omega)]
theorem deaf_no {t : Hr.Town} {wind voice : Int} {h : Nat} (e : deafB (ears t wind voice h) = false) : ∃ s, s < 30 ∧ hearB t wind voice h s = true := by
  false_or_by_contra
  rename_i h2
  have : deafB (ears t wind voice h) = true := by
    unfold deafB
    rw [decide_eq_true_iff]
    apply List.ext_getElem?
    intro s
    by_cases hs : s < 30
    · have h1 : (ears t wind voice h)[s]? = some (hearB t wind voice h s) := by unfold ears; simp [hs]
      rw [h1, List.getElem?_replicate, if_pos hs]
      congr 1
      cases hh : hearB t wind voice h s
      · rfl
      · exact absurd ⟨s, hs, hh⟩ h2
    · rw [List.getElem?_eq_none (by unfold ears; simp; omega), List.getElem?_replicate, if_neg hs]
  rw [this] at e; cases e
theorem mem_mustTo {l : List (Nat × List Bool)} {k p : Nat} : (p : Int) ∈ mustTo l k ↔ p < k ∧ ∃ x ∈ l, onlyB p x.2 = true := by
  unfold mustTo
  rw [List.mem_map]
  constructor
  · rintro ⟨q, hq, e⟩
    obtain rfl : q = p := by omega
    rw [List.mem_filter, List.mem_range] at hq
    have := hq.2
    unfold anyTo at this
    rw [List.take_length, List.any_eq_true] at this
    exact ⟨hq.1, this⟩
  · rintro ⟨a, b⟩
    refine ⟨p, ?_, rfl⟩
    rw [List.mem_filter, List.mem_range]
    refine ⟨a, ?_⟩
    unfold anyTo
    rw [List.take_length, List.any_eq_true]
    exact b
theorem mem_lis {t : Hr.Town} {wind voice : Int} {x : Nat × List Bool} : x ∈ (lis t wind voice fun _ => true) ↔ x.1 < t.len ∧ t.at x.1 = 1 ∧ x.2 = ears t wind voice x.1 := by
  unfold lis lisTo
  rw [List.mem_map]
  constructor
  · rintro ⟨q, hq, rfl⟩
    rw [List.mem_filter, List.mem_range] at hq
    exact ⟨hq.1, by simpa using hq.2, rfl⟩
  · rintro ⟨a, b, c⟩
    exact ⟨x.1, by rw [List.mem_filter, List.mem_range]; exact ⟨a, by simp [b]⟩, by rw [← c]⟩
/-- a stand cannot be left out if and only if the others do not serve all houses -/
theorem must_law {t : Hr.Town} (ok : t.Ok) (hc : checkErr t.wide t.plots = 0) {wind voice : Int} (ha : airErr wind voice = 0) {p : Nat} (hp : p < t.len) (hd : firstE (lis t wind voice fun _ => true) = 0) (S : List Int)
    (hS : ∀ s : Int, s ∈ S ↔ s ∈ kindIdx t.plots 0 ∧ s ≠ p) :
    (countTo (heardTo t.wide t.plots wind voice S S.length) (kindIdx t.plots 1) (kindIdx t.plots 1).length < (kindIdx t.plots 1).length) ↔ (p : Int) ∈ mustTo (lis t wind voice fun _ => true) t.plots.length := by
  rw [count_lt, mem_mustTo]
  have h30 : t.len ≤ 30 := ok.n30
  have hnd : ∀ h, h < t.len → t.at h = 1 → ∃ s, s < 30 ∧ hearB t wind voice h s = true := fun h hh h1 => by
    refine deaf_no ?_
    cases hb : deafB (ears t wind voice h)
    · rfl
    · rw [firstE_eq, if_pos (List.any_eq_true.2 ⟨(h, ears t wind voice h), mem_lis.2 ⟨hh, h1, rfl⟩, hb⟩)] at hd
      cases hd
  have hA : ∀ h : Nat, (h : Int) ∈ heardTo t.wide t.plots wind voice S S.length ↔ h < t.len ∧ t.at h = 1 ∧ ∃ s : Nat, s ≠ p ∧ hearB t wind voice h s = true := fun h => by
    unfold heardTo
    rw [List.take_length, List.mem_flatMap]
    have hat : ∀ s : Nat, s < t.len → t.at s = 0 → housesL t.wide t.plots wind voice s = housesOf t wind voice s := fun s hs h0 => by
      unfold housesL
      have : atE t.wide t.plots wind voice s 0 = 0 := by
        unfold atE openErr plotErr
        rw [hc, ha]
        have hs' : s < t.plots.length := hs
        have h0' : t.plots.getD s 0 = 0 := h0
        rw [if_neg (by simp), if_neg (by omega), Int.toNat_natCast, if_pos h0']
      rw [if_pos this, townOf_self, Int.toNat_natCast]
    constructor
    · rintro ⟨s, hs, hm⟩
      obtain ⟨h1, h2⟩ := (hS s).1 hs
      obtain ⟨s', rfl, hs1, hs2⟩ := mem_kindIdx.1 h1
      rw [hat s' hs1 hs2, mem_housesOf] at hm
      exact ⟨hm.1, hm.2.1, s', by omega, hm.2.2⟩
    · rintro ⟨a, b, s, hs, hh⟩
      have hh2 := hh
      unfold hearB at hh2
      rw [Bool.and_eq_true, decide_eq_true_iff] at hh2
      obtain ⟨⟨hs1, hs2⟩, _⟩ := hh2
      refine ⟨s, (hS s).2 ⟨mem_kindIdx.2 ⟨s, rfl, hs1, hs2⟩, by omega⟩, ?_⟩
      rw [hat s hs1 hs2, mem_housesOf]
      exact ⟨a, b, hh⟩
  constructor
  · rintro ⟨h, hh, hn⟩
    obtain ⟨h', rfl, h1, h2⟩ := mem_kindIdx.1 hh
    refine ⟨hp, (h', ears t wind voice h'), mem_lis.2 ⟨h1, h2, rfl⟩, ?_⟩
    show onlyB p (ears t wind voice h') = true
    have hoth : ∀ s : Nat, s ≠ p → hearB t wind voice h' s = false := fun s hs => by
      cases hb : hearB t wind voice h' s
      · rfl
      · exact absurd ((hA h').2 ⟨h1, h2, s, hs, hb⟩) hn
    obtain ⟨s, hs, hsh⟩ := hnd h' h1 h2
    have hsp : s = p := by
      false_or_by_contra
      rename_i e
      rw [hoth s e] at hsh; cases hsh
    subst hsp
    refine only_iff.2 fun q hq => ?_
    by_cases e : q = s
    · subst e; rw [hsh]; simp
    · rw [hoth q e]; simp [e]
  · rintro ⟨_, x, hx, ho⟩
    obtain ⟨h1, h2, h3⟩ := mem_lis.1 hx
    refine ⟨x.1, mem_kindIdx.2 ⟨x.1, rfl, h1, h2⟩, fun hm => ?_⟩
    obtain ⟨_, _, s, hs, hsh⟩ := (hA x.1).1 hm
    rw [h3] at ho
    have hs30 : s < 30 := by
      unfold hearB at hsh
      rw [Bool.and_eq_true, decide_eq_true_iff] at hsh
      omega
    have := only_iff.1 ho s hs30
    rw [hsh] at this
    simp [hs] at this

/-! calls of the law -/
def mustL (t : Hr.Town) (wind voice : Int) : List Int := if firstE (lis t wind voice fun _ => true) = 0 then mustTo (lis t wind voice fun _ => true) t.plots.length else []
theorem Must_houses (t : Hr.Town) (ok : t.Ok) (hc : checkErr t.wide t.plots = 0) (wind voice : Int) (ha : airErr wind voice = 0) (b o cap : Nat) (a : Option Addr) (hcap : Nat) (w : World) (hP : RdI w (.slice (some ⟨b, o, none⟩) t.plots.length cap) t.plots)
    (hR : RdI w (.slice a (kindIdx t.plots 1).length hcap) (kindIdx t.plots 1)) :
    Calls Try.prog 48 #[.agg #[.int .i64 t.wide, .slice (some ⟨b, o, none⟩) t.plots.length cap], .agg #[.int .i64 wind, .int .i64 voice], .slice a (kindIdx t.plots 1).length hcap] w fun e w' =>
      ∃ v, e = .returned (.tuple #[v, .int .i64 (firstE (lis t wind voice fun _ => true))]) ∧ Below w.heap.size w w' ∧ RdI w' v (mustL t wind voice) := by
  have hne : t.plots ≠ [] := by intro e; have := (check_len hc).2; rw [e] at this; simp at this
  obtain ⟨b', o', e', -, hI⟩ := rd_ints hP hne
  cases e'
  obtain ⟨w0, w4, v1, v40⟩ := wind_ok ha
  have hn30 : t.plots.length ≤ 30 := ok.n30
  have hk : (kindIdx t.plots 1).length ≤ 30 := Nat.le_trans (kindTo_len _ _ _) hn30
  have hOQ := oq_of t hc wind voice ha b o cap a hcap (kindIdx t.plots 1) (by omega) w (rd_plots hP (by omega)) hI hR (qAll_houses t.plots hn30 t.plots.length (Nat.le_refl _)).1
  refine (Must_ok t ok wind voice w0 w4 b o cap _ (qNm t.plots) (qNm_len _) w hI hOQ).mono ?_
  rintro e w' ⟨v, rfl, hB, h1, h2⟩
  rw [lis_houses ok] at h1 h2 ⊢
  refine ⟨v, rfl, hB, ?_⟩
  unfold mustL
  by_cases h0 : firstE (lis t wind voice fun _ => true) = 0
  · rw [if_pos h0]
    exact RdI.own rfl rfl (h2 h0)
  · rw [if_neg h0, h1 h0]
    exact ⟨by simp, none, 0, rfl, fun h => absurd rfl h⟩
theorem entered73 : Entered 73 := fun args W => by kernel_rfl
set_option maxHeartbeats 1000000 in
theorem ask73 (c9 : Nat) (p : Int) (W : World) (h : W.cell? ⟨c9, 0, none⟩ = some (.int .i64 p)) : AskI 73 (.pointer (some ⟨c9, 0, none⟩)) (fun h => h == p) W := by
  intro x
  have hl : c9 < W.heap.size := by
    rcases Nat.lt_or_ge c9 W.heap.size with h' | h'
    · exact h'
    · simp [World.cell?, Array.getElem?_eq_none h'] at h
  go_enter Try.func73, Try.ntmps73
  go_wp2
  go_ret
  exact ⟨rfl, Below.refl _ _⟩
theorem mem_kept {L : List Int} {p s : Int} : s ∈ keptTo (fun h => h == p) L L.length ↔ s ∈ L ∧ s ≠ p := by
  unfold keptTo
  rw [List.take_length, List.mem_filter]
  simp
theorem contains_rd (v : Value) (M : List Int) (x : Int) (w : World) (h : RdI w v M) : Calls Try.prog 66 #[v, .int .i64 x] w fun e w' => e = .returned (.bool (M.contains x)) ∧ Below w.heap.size w w' := by
  obtain ⟨hl, a, cap, rfl, hI⟩ := h
  by_cases h0 : M = []
  · subst h0
    refine (Try.slices_Contains_int_empty a cap x w).mono ?_
    rintro e w' ⟨rfl, rfl⟩
    exact ⟨rfl, Below.refl _ _⟩
  · obtain ⟨b, o, rfl, hI2⟩ := hI h0
    refine (Try.slices_Contains_int b o M.length cap M x w (Nat.le_refl _) hl (fun j hj => hI2.2 j hj)).mono ?_
    rintro e w' ⟨rfl, rfl⟩
    exact ⟨by rw [List.take_length], Below.refl _ _⟩
theorem rd_aft {g : Nat} {w w' : World} {v : Value} {H : List Int} (h : RdI w v H) (hA : Aft g w w') (ho : H = [] ∨ Off g v) : RdI w' v H := by
  rcases ho with e | ho
  · obtain ⟨hl, a, cap, e1, _⟩ := h
    exact ⟨hl, a, cap, e1, fun hn => absurd e hn⟩
  · exact h.hold hA ho
theorem rd_off {w : World} {v : Value} {H : List Int} (h : RdI w v H) : H = [] ∨ Off w.heap.size v := by
  by_cases h0 : H = []
  · exact .inl h0
  · right
    intro b o n c e
    obtain ⟨hl, a, cap, e1, hI⟩ := h
    obtain ⟨b', o', e2, hI2⟩ := hI h0
    rw [e1] at e
    injection e with e
    rw [e2] at e
    injection e with e
    injection e with e
    have := hI2.1
    omega
/-- what the region of the last count leaves -/
def spD32 (TV AV v8 : Value) (H S : List Int) (nL N c9 B : Nat) (L : List Int) : Nat → Bool → List Value → Value → World → Prop
  | 0, _, _, v, _ => v = TV
  | 1, _, _, v, _ => v = AV
  | 2, _, _, v, _ => v = TV
  | 3, c, _, v, w => c = false → RdI w v H
  | 4, _, _, v, _ => v = v8
  | 5, c, D, v, w => c = false → ∃ g, v = .slice (some ⟨g, 0, none⟩) nL nL ∧ B ≤ g ∧ TabAt w g L ∧ (H = [] ∨ Off g (D.getD 1 undef))
  | 6, _, _, v, _ => v = .func (.func 73) #[] #[.pointer (some ⟨c9, 0, none⟩)]
  | 7, c, D, v, w => c = true ∧ RdI w v S ∧ RdI w (D.getD 1 undef) H
  | 8, c, _, v, _ => c = true ∧ v = .tuple #[.int .i64 N, .bool true]
  | 9, c, _, v, _ => c = true ∧ v = .tuple #[.int .i64 N, .bool true]
  | 10, c, _, v, _ => c = true ∧ v = .int .i64 N
  | 11, c, _, v, _ => c = true ∧ v = .bool true
  | 12, c, _, v, _ => c = true ∧ v = .int .i64 N
  | 13, c, _, v, _ => c = true ∧ v = .bool true
  | _, _, _, _, _ => False
def gD32 (B : Nat) (i : Nat) (a b : World) : Prop := if i = 7 then Below B a b else Below a.heap.size a b ∧ Below B a b
theorem below_isGr (B : Nat) : Rg.IsGr (fun a b => Below B a b) where
  refl w := Below.refl _ _
  drew w := (Below.refl _ _).drew
  trans h k := h.trans k
theorem gD32_all (B i : Nat) (a b : World) (h : gD32 B i a b) : Below B a b := by
  unfold gD32 at h
  split at h
  · exact h
  · exact h.2
theorem gD32_refl (B i : Nat) (a : World) : gD32 B i a a := by
  unfold gD32
  split
  · exact Below.refl _ _
  · exact ⟨Below.refl _ _, Below.refl _ _⟩
theorem gD32_of {B i : Nat} {a b : World} (hi : i ≠ 7) (h : Below a.heap.size a b) (hB : B ≤ a.heap.size) : gD32 B i a b := by
  unfold gD32; rw [if_neg hi]; exact ⟨h, h.mono hB⟩
theorem spD32_stable (TV AV v8 : Value) (H S : List Int) (nL N c9 B : Nat) (L : List Int) : ∀ i c w w', (i = 7 → c = false) → gD32 B i w w' → ∀ k D v, spD32 TV AV v8 H S nL N c9 B L k c D v w → spD32 TV AV v8 H S nL N c9 B L k (c || i == 7) D v w' := by
  intro i c w w' hc hg k D v h
  by_cases hi : i = 7
  · have hcf := hc hi
    subst hcf
    subst hi
    match k with
    | 0 => exact h
    | 1 => exact h
    | 2 => exact h
    | 3 => exact fun e => by cases e
    | 4 => exact h
    | 5 => exact fun e => by cases e
    | 6 => exact h
    | 7 => exact absurd h.1 (by simp)
    | 8 => exact absurd h.1 (by simp)
    | 9 => exact absurd h.1 (by simp)
    | 10 => exact absurd h.1 (by simp)
    | 11 => exact absurd h.1 (by simp)
    | 12 => exact absurd h.1 (by simp)
    | 13 => exact absurd h.1 (by simp)
    | _ + 14 => exact h.elim
  · have e1 : (c || i == 7) = c := by simp [hi]
    rw [e1]
    have hb : Below w.heap.size w w' := by unfold gD32 at hg; rw [if_neg hi] at hg; exact hg.1
    match k with
    | 0 => exact h
    | 1 => exact h
    | 2 => exact h
    | 3 => exact fun e => (h e).below hb
    | 4 => exact h
    | 5 => exact fun e => by obtain ⟨g, h1, h2, h3, h4⟩ := h e; exact ⟨g, h1, h2, h3.below hb h3.lt, h4⟩
    | 6 => exact h
    | 7 => exact ⟨h.1, h.2.1.below hb, h.2.2.below hb⟩
    | 8 => exact h
    | 9 => exact h
    | 10 => exact h
    | 11 => exact h
    | 12 => exact h
    | 13 => exact h
    | _ + 14 => exact h.elim
end Go.Proofs.Ytimedmkpenbmkaa

namespace Go.Proofs.Ytimedmkpenbmkaa
open Go.RowKit Go.Shelf
set_option linter.unusedSimpArgs false
set_option linter.unusedVariables false

/-- what stands in the law when the wall is there -/
structure Wl (t : Hr.Town) (pv : Value) (c6 c7 c9 c10 : Nat) (wind voice : Int) (p : Nat) (v8 v10 : Value) (w W : World) : Prop where
  b6 : W.heap[c6]? = some (.cells #[.int .i64 t.wide, pv] 24 (0, 0))
  b7 : W.heap[c7]? = some (.cells #[.int .i64 wind, .int .i64 voice] 27 (0, 0))
  b9 : W.heap[c9]? = some (.cells #[.int .i64 p] 3 (0, 0))
  b10 : W.heap[c10]? = some (.cells #[.int .i64 t.wide, v10] 24 (0, 0))
  rp : RdI W pv t.plots
  rl : RdI W v8 (kindIdx t.plots 0)
  ru : RdI W v10 (t.plots.set p 2)
  bel : Below w.heap.size w W
theorem Wl.below {t : Hr.Town} {pv : Value} {c6 c7 c9 c10 : Nat} {wind voice : Int} {p : Nat} {v8 v10 : Value} {w W W' : World} (h : Wl t pv c6 c7 c9 c10 wind voice p v8 v10 w W) (hB : Below W.heap.size W W') : Wl t pv c6 c7 c9 c10 wind voice p v8 v10 w W' :=
  ⟨(hB.block _ (Array.getElem?_eq_some_iff.1 h.b6).1).trans h.b6, (hB.block _ (Array.getElem?_eq_some_iff.1 h.b7).1).trans h.b7, (hB.block _ (Array.getElem?_eq_some_iff.1 h.b9).1).trans h.b9, (hB.block _ (Array.getElem?_eq_some_iff.1 h.b10).1).trans h.b10, h.rp.below hB, h.rl.below hB, h.ru.below hB, join h.bel hB⟩
theorem Wl.cs {t : Hr.Town} {pv : Value} {c6 c7 c9 c10 : Nat} {wind voice : Int} {p : Nat} {v8 v10 : Value} {w W : World} (h : Wl t pv c6 c7 c9 c10 wind voice p v8 v10 w W) :
    W.cell? ⟨c6, 0, none⟩ = some (.int .i64 t.wide) ∧ W.cell? ⟨c6, 1, none⟩ = some pv ∧ W.cell? ⟨c7, 0, none⟩ = some (.int .i64 wind) ∧ W.cell? ⟨c7, 1, none⟩ = some (.int .i64 voice) ∧ W.cell? ⟨c9, 0, none⟩ = some (.int .i64 p) ∧ W.cell? ⟨c10, 0, none⟩ = some (.int .i64 t.wide) ∧ W.cell? ⟨c10, 1, none⟩ = some v10 ∧ c6 < W.heap.size ∧ c7 < W.heap.size ∧ c9 < W.heap.size ∧ c10 < W.heap.size := by
  obtain ⟨a, b⟩ := blk_cells2 h.b6
  obtain ⟨c, d⟩ := blk_cells2 h.b7
  obtain ⟨e, f⟩ := blk_cells2 h.b10
  exact ⟨a, b, c, d, by rw [cell_of_row _ _ _ _ _ _ h.b9]; rfl, e, f, (Array.getElem?_eq_some_iff.1 h.b6).1, (Array.getElem?_eq_some_iff.1 h.b7).1, (Array.getElem?_eq_some_iff.1 h.b9).1, (Array.getElem?_eq_some_iff.1 h.b10).1⟩

def spD26 (TV AV : Value) (H M : List Int) (E : Int) (B : Nat) : Nat → List Value → Value → World → Prop
  | 0, _, v, _ => v = TV
  | 1, _, v, _ => v = AV
  | 2, _, v, _ => v = TV
  | 3, L, v, w => w.ownsRow B 3 1 v H.length (H.map (Value.int .i64))
  | 4, L, v, w => ∃ u, v = .tuple #[u, .int .i64 E] ∧ RdI w u M
  | 5, L, v, w => ∃ u, v = .tuple #[u, .int .i64 E] ∧ RdI w u M
  | 6, L, v, w => RdI w v M
  | 7, _, v, _ => v = .int .i64 E
  | 8, L, v, w => RdI w v M
  | 9, _, v, _ => v = .int .i64 E
  | _, _, _, _ => False
theorem spD26_stable (TV AV : Value) (H M : List Int) (E : Int) (B : Nat) : ∀ i L v w w', spD26 TV AV H M E B i L v w → Rs.Gr w w' → spD26 TV AV H M E B i L v w' := by
  intro i L v w w' h hg
  match i with
  | 0 => exact h
  | 1 => exact h
  | 2 => exact h
  | 3 => exact own_below h hg
  | 4 => obtain ⟨u, h1, h2⟩ := h; exact ⟨u, h1, h2.below hg⟩
  | 5 => obtain ⟨u, h1, h2⟩ := h; exact ⟨u, h1, h2.below hg⟩
  | 6 => exact RdI.below h hg
  | 7 => exact h
  | 8 => exact RdI.below h hg
  | 9 => exact h

def spD33 (TV v21 : Value) (H : List Int) (N p : Int) (dB : Bool) (B : Nat) : Nat → List Value → Value → World → Prop
  | 0, _, v, _ => v = .bool true
  | 1, _, v, _ => v = .bool true
  | 2, _, v, _ => v = .int .i64 N
  | 3, _, v, _ => v = TV
  | 4, L, v, w => w.ownsRow B 3 1 v H.length (H.map (Value.int .i64))
  | 5, _, v, _ => v = .int .i64 H.length
  | 6, _, v, _ => v = .bool dB
  | 7, _, v, _ => v = v21
  | 8, _, v, _ => v = .int .i64 p
  | 9, _, v, _ => v = .bool dB
  | 10, _, v, _ => v = .bool true
  | 11, _, v, _ => v = .bool true
  | 12, _, v, _ => v = .bool true
  | 13, _, v, _ => v = .bool true
  | 14, _, v, _ => v = .bool true
  | 15, _, v, _ => v = .bool true
  | _, _, _, _ => False
theorem spD33_stable (TV v21 : Value) (H : List Int) (N p : Int) (dB : Bool) (B : Nat) : ∀ i L v w w', spD33 TV v21 H N p dB B i L v w → Rs.Gr w w' → spD33 TV v21 H N p dB B i L v w' := by
  intro i L v w w' h hg
  match i with
  | 0 => exact h
  | 1 => exact h
  | 2 => exact h
  | 3 => exact h
  | 4 => exact own_below h hg
  | 5 => exact h
  | 6 => exact h
  | 7 => exact h
  | 8 => exact h
  | 9 => exact h
  | 10 => exact h
  | 11 => exact h
  | 12 => exact h
  | 13 => exact h
  | 14 => exact h
  | 15 => exact h

set_option maxHeartbeats 8000000 in
set_option maxRecDepth 100000 in
theorem HearWalled_any (ma : Option Addr) (n mc : Nat) (wh : Int) (hw0 : 0 ≤ wh) (hw8 : wh < 256) (w : World) (hM : RdB w ma n) :
    Calls Try.prog 12 #[.slice ma n mc, .int .u8 wh] w fun e w' => e = .returned (.bool true) ∧ Below w.heap.size w w' := by
  have HBL := Lib.hid (bell_hung (mc := mc) hM)
  have HM := Lib.hid hM
  have HB0 := Lib.hid (below1 w (.cells #[.slice ma n mc, .int .i64 0, .int .u32 0] 150))
  clear hM
  go_enter Try.func12, Try.ntmps12
  go_wp2_with fail
  refine (hang_any ma n mc w).mono ?_
  rintro e w1 ⟨rfl, rfl⟩
  go_wp2_with fail
  refine (made_any w.heap.size ma n mc 24 (by omega) (by omega) _ HBL.out (fun hn mb mo e => by have := HM.out.2.1 hn mb mo e; simp; omega)).mono ?_
  rintro e w2 ⟨t, v, p0, rfl, ho, hc, h24, hp, hp0, hbl, hh⟩
  have ok : t.Ok := by have := (town_ok hc).1; rwa [townOf_self] at this
  have HOK := Lib.hid ok
  have HC := Lib.hid hc
  have hsz2 := hh.size
  simp only [World.size_alloc] at hsz2 ho
  have hoffB := own_off (QB := w.heap.size) ho (by omega)
  have hB2 : Below w.heap.size w w2 := HB0.out.trans ((hh.mono (Kq := fun k => k < w.heap.size) (fun k (hk : k < w.heap.size) _ => show k ≠ w.heap.size by omega)).to_below (by simp))
  obtain ⟨pa, pc, rfl⟩ := own_slice ho
  obtain ⟨W1, hW1⟩ : ∃ W1 : World, W1 = w2.alloc (.cells #[.int .i64 t.wide, .slice pa t.plots.length pc] 24) := ⟨_, rfl⟩
  have hs1 : W1.heap.size = w2.heap.size + 1 := by rw [hW1]; simp
  have hS2 : PvS t w2.heap.size (.slice pa t.plots.length pc) w.heap.size ma n mc W1 := by
    rw [hW1]; exact ⟨heap_alloc_last _ _, (RdI.own rfl rfl ho).below (below1 _ _), hbl.below (below1 _ _), by omega, hoffB⟩
  have HS2 := Lib.hid hS2
  have HB2 := Lib.hid (show Below w.heap.size w W1 by rw [hW1]; exact al hB2 (.cells #[.int .i64 t.wide, .slice pa t.plots.length pc] 24))
  have HP0 := Lib.hid (And.intro hp hp0)
  have HMA : Hid (n ≠ 0 → ∀ mb mo, ma = some ⟨mb, mo, none⟩ → mb < W1.heap.size) := Lib.hid (fun hn mb mo e => by have := HM.out.2.1 hn mb mo e; omega)
  have hqb : w.heap.size < W1.heap.size := by omega
  have hl30 : t.plots.length ≤ 30 := HOK.out.n30
  have HW1 := Lib.hid hW1
  clear HBL ho hc hbl hh hB2 ok hp hp0 h24 HB0 hS2 hoffB HM hW1 hsz2
  go_wp2_with fail
  rw [← HW1.out]
  refine Rg.region_gen (Ax.isGr w.heap.size ma n mc W1.heap.size) 6 [[], [0], [], [0, 1, 2], [], [0, 1, 2, 3, 4]] [some 30, some 31, some 32, some 33, some 7, none] (spA3 t (.slice pa t.plots.length pc) w.heap.size W1.heap.size) (by kernel_rfl) (by kernel_rfl) rfl (spA3_stable _ _ _ _ _ _ _) ?_ ?_
  · refine ⟨fun V w' hG hs => ?_, fun V w' hG hs => ?_, fun V w' hG hs => ?_, fun V w' hG hs => ?_, fun V w' hG hs => ?_, fun V w' hG hs => ?_, trivial⟩
    all_goals
      have hSr := HS2.out.ring (hG.bell HS2.out.bell) hG.aft
      obtain ⟨k0, k1⟩ := hSr.cs
    · rw [if_pos (by rfl)]
      exact Rg.GrowL.value (v := .pointer (some ⟨w.heap.size, 0, none⟩)) (w' := w') (by simp [go_sem, Rs.look]) ((Ax.isGr w.heap.size ma n mc W1.heap.size).refl _) rfl
    · have e0 : V 0 = .pointer (some ⟨w.heap.size, 0, none⟩) := hs 0 (by simp)
      rw [if_pos (by rfl)]
      refine Rg.GrowL.call (Ax.isGr w.heap.size ma n mc W1.heap.size) (f := 59) (args := #[.pointer (some ⟨w.heap.size, 0, none⟩)]) (by simp [go_sem, Rs.look, e0]) ?_
      refine (aired_any w.heap.size ma n mc trivial w' hSr.bell (fun hn mb mo e => Nat.lt_of_lt_of_le (HMA.out hn mb mo e) hG.size)).mono ?_
      rintro e w3 ⟨wind, voice, g0, g4, v1, v16, rfl, hbl, hH⟩
      exact ⟨_, rfl, .of_bell hH.out hbl.out, wind, voice, ⟨g0, g4, v1, v16⟩, rfl⟩
    · rw [if_pos (by rfl)]
      exact Rg.GrowL.value (v := .agg #[.int .i64 t.wide, .slice pa t.plots.length pc]) (w' := w') (by simp [go_sem, Rs.look, k0, k1]) ((Ax.isGr w.heap.size ma n mc W1.heap.size).refl _) rfl
    · have e2 : V 2 = .agg #[.int .i64 t.wide, .slice pa t.plots.length pc] := hs 2 (by simp)
      rw [if_pos (by rfl)]
      refine Rg.GrowL.call (Ax.isGr w.heap.size ma n mc W1.heap.size) (f := 60) (args := #[.agg #[.int .i64 t.wide, .slice pa t.plots.length pc]]) (by simp [go_sem, Rs.look, e2]) ?_
      refine (streets_any t.wide pa pc t.plots (by omega) w' hSr.rp).mono ?_
      rintro e w3 ⟨u, rfl, ho, hB⟩
      exact ⟨_, rfl, .of_gr hB, hqb, own_base ho hG.size⟩
    · rw [if_pos (by rfl)]
      exact Rg.GrowL.value (v := .pointer (some ⟨w'.heap.size, 0, none⟩)) (w' := w'.alloc (.cells #[.int .i64 0, .int .i64 0] 27)) (by simp [go_sem, Rs.look]) (.of_gr (below1 _ _)) ⟨_, _, _, rfl, hqb, hG.size, heap_alloc_last _ _⟩
    · have r1 := hs 1 (by simp)
      have r4 := hs 4 (by simp)
      rw [if_pos (by rfl)]
      obtain ⟨wind, voice, hA, e1⟩ : ∃ wind voice, AirV wind voice ∧ V 1 = .agg #[.int .i64 wind, .int .i64 voice] := r1
      obtain ⟨p, c0, c1, e4, hq, hpB, hb⟩ : ∃ p c0 c1, V 4 = .pointer (some ⟨p, 0, none⟩) ∧ w.heap.size < W1.heap.size ∧ W1.heap.size ≤ p ∧ w'.heap[p]? = some (.cells #[c0, c1] 27 (0, 0)) := r4
      obtain ⟨q0, q1⟩ := blk_cells2 hb
      have f0 := frozen_of_row w' p 0 _ _ hb
      have f1 := frozen_of_row w' p 1 _ _ hb
      have hf := Ax.fill (QB := w.heap.size) (ma := ma) (n := n) (mc := mc) hA hq HMA.out hpB hb
      exact Rg.GrowL.skipA (w' := (w'.setCell ⟨p, 0, none⟩ (.int .i64 wind)).setCell ⟨p, 1, none⟩ (.int .i64 voice)) (by simp [go_sem, Rs.look, e1, e4, q0, q1, f0, f1]) hf.1 ⟨p, wind, voice, e4, hA, hq, hpB, hf.2⟩
  · intro V w' hG hs
    have e0 : V 0 = .pointer (some ⟨w.heap.size, 0, none⟩) := hs 0 (by omega)
    have e2 : V 2 = .agg #[.int .i64 t.wide, .slice pa t.plots.length pc] := hs 2 (by omega)
    have r3 : _ ∧ w'.ownsRow W1.heap.size 3 1 (V 3) (kindIdx t.plots 0).length ((kindIdx t.plots 0).map (Value.int .i64)) := hs 3 (by omega)
    obtain ⟨c7, wind, voice, e4, hA, -, hc7, hb7⟩ : ∃ p wind voice, V 4 = .pointer (some ⟨p, 0, none⟩) ∧ AirV wind voice ∧ w.heap.size < W1.heap.size ∧ W1.heap.size ≤ p ∧ w'.heap[p]? = some (.cells #[.int .i64 wind, .int .i64 voice] 27 (0, 0)) := hs 5 (by omega)
    have hSr := HS2.out.ring (hG.bell HS2.out.bell) hG.aft
    have hBw := HB2.out.trans (Aft.low hG.aft (Nat.le_refl _) (by omega))
    simp only [Rs.canon, Rs.dstOf, List.range_succ, List.range_zero, List.nil_append, List.cons_append, List.foldl_cons, List.foldl_nil, List.drop_succ_cons, List.drop_zero, List.drop_nil, List.getElem?_toArray, List.getElem?_cons_succ, List.getElem?_cons_zero, Option.bind_some, Act.put, List.getD_cons_succ, List.getD_cons_zero, List.setIfInBounds_toArray, List.set_cons_succ, List.set_cons_zero]
    rw [e0, e2, e4]
    generalize V 3 = v8 at r3 ⊢
    generalize V 1 = y1
    have hl8 := RdI.own rfl rfl r3.2
    obtain ⟨a8, p8, rfl⟩ := own_slice r3.2
    have HRP := Lib.hid hSr.rp
    have HRL := Lib.hid hl8
    have HB6 := Lib.hid hSr.b7
    have HB7 := Lib.hid hb7
    have HBW := Lib.hid hBw
    have HAV := Lib.hid hA
    obtain ⟨k0, k1⟩ := hSr.cs
    have hc6l := hSr.lt
    have hc7l := (Array.getElem?_eq_some_iff.1 hb7).1
    clear e0 e2 e4 hs r3 hb7 hc7 hSr hBw hl8 hG hA HS2 HB2 HMA hqb hs1 HW1
    obtain ⟨c6, hc6⟩ : ∃ c6, c6 = w2.heap.size := ⟨_, rfl⟩
    rw [← hc6] at HB6 k0 k1 hc6l ⊢
    clear hc6
    obtain ⟨L, hL⟩ : ∃ L, L = kindIdx t.plots 0 := ⟨_, rfl⟩
    have hLne : L ≠ [] := by
      intro e
      have : ((p0 : Nat) : Int) ∈ L := by rw [hL]; exact mem_kindIdx.2 ⟨p0, rfl, HP0.out.1, HP0.out.2⟩
      rw [e] at this; cases this
    have hL0 : 0 < L.length := List.length_pos_iff.2 hLne
    have hL30 : L.length ≤ 30 := by rw [hL]; have := kindTo_len t.plots 0 t.plots.length; unfold kindIdx; omega
    rw [← hL] at HRL ⊢
    obtain ⟨lb, lo, rfl, -, hI⟩ := rd_ints HRL.out hLne
    obtain ⟨x, hx⟩ : ∃ x : Int, x = wh % (L.length : Int) := ⟨_, rfl⟩
    have hx0 : 0 ≤ x := by rw [hx]; exact Int.emod_nonneg _ (by omega)
    have hx1 : x < L.length := by rw [hx]; exact Int.emod_lt_of_pos _ (by omega)
    obtain ⟨p, hps, hpl, hpa⟩ : ∃ p : Nat, L.getD x.toNat 0 = p ∧ p < t.len ∧ t.at p = 0 := by
      have := mem_getD (show x.toNat < L.length by omega)
      rw [hL] at this
      obtain ⟨s, e, h1, h2⟩ := mem_kindIdx.1 this
      exact ⟨s, by rw [hL]; exact e, h1, h2⟩
    have hcx := hI.2 x.toNat (by omega)
    rw [hps] at hcx
    have hlb := hI.1
    have hm1 : wh.tmod (L.length : Int) = x := by rw [hx]; exact Int.tmod_eq_emod_of_nonneg hw0
    have HPL := Lib.hid (And.intro hpl hpa)
    have HLQ := Lib.hid hL
    have HLNE := Lib.hid hLne
    clear hx hps hpl hpa hL hLne hI
    go_wp2_with fail
    have hwE : walledE t.wide t.plots p = 0 := by
      unfold walledE plotErr
      rw [if_neg (by rw [HC.out]; simp), if_neg (by have := HPL.out.1; unfold Hr.Town.len at this; omega), Int.toNat_natCast]
      exact if_pos HPL.out.2
    have hwW : walledW t.wide t.plots p = t.wide := by unfold walledW; rw [if_pos hwE]
    have hwP : walledP t.wide t.plots p = t.plots.set p 2 := by unfold walledP; rw [if_pos hwE, Int.toNat_natCast]
    have HWA := Lib.hid (Walled_any t.wide pa pc t.plots p (by omega) (w'.alloc (.cells #[.int .i64 p] 3)) (HRP.out.below (below1 _ _)))
    rw [hwE, hwW, hwP] at HWA
    clear hwE hwW hwP
    refine HWA.out.mono ?_
    rintro e w5 ⟨v10, rfl, ho, hB⟩
    have hB5 : Below w'.heap.size w' w5 := (below1 w' (.cells #[.int .i64 p] 3)).trans (hB.mono (by simp))
    have hb9 := (hB.block w'.heap.size (by simp)).trans (heap_alloc_last w' (.cells #[.int .i64 p] 3))
    have hun : (t.plots.set p 2).length = t.plots.length := List.length_set ..
    have hru := RdI.own rfl rfl ho
    obtain ⟨ua, uc, rfl⟩ := own_slice ho
    obtain ⟨W6, hW6⟩ : ∃ W6 : World, W6 = w5.alloc (.cells #[.int .i64 t.wide, .slice ua (t.plots.set p 2).length uc] 24) := ⟨_, rfl⟩
    have h6 : Below w5.heap.size w5 W6 := by rw [hW6]; exact below1 _ _
    have hb56 : Below w'.heap.size w' W6 := join hB5 h6
    have HH : Hid (Wl t (.slice pa t.plots.length pc) c6 c7 w'.heap.size w5.heap.size wind voice p (.slice (some ⟨lb, lo, none⟩) L.length p8) (.slice ua t.plots.length uc) w W6) := Lib.hid
      ⟨(hb56.block _ hc6l).trans HB6.out, (hb56.block _ hc7l).trans HB7.out, (h6.block _ (Array.getElem?_eq_some_iff.1 hb9).1).trans hb9, by rw [hW6, ← hun]; exact heap_alloc_last _ _,
        HRP.out.below hb56, by rw [← HLQ.out]; exact HRL.out.below hb56, by rw [← hun]; exact hru.below h6, join HBW.out hb56⟩
    obtain ⟨c9, hc9⟩ : ∃ c9, c9 = w'.heap.size := ⟨_, rfl⟩
    obtain ⟨c10, hc10⟩ : ∃ c10, c10 = w5.heap.size := ⟨_, rfl⟩
    rw [← hc9, ← hc10] at HH
    have HW6 := Lib.hid hW6
    have HC9 := Lib.hid hc9
    have HC10 := Lib.hid hc10
    rw [hun] at HW6 ⊢
    have hune : t.plots.set p 2 ≠ [] := by intro e; rw [e] at hun; have := HPL.out.1; unfold Hr.Town.len at this; simp at hun; omega
    have HUN := Lib.hid (And.intro hun hune)
    clear hB5 hb9 hun hru ho hB hW6 h6 hb56 hc9 hc10 hune HWA HBW HB6 HB7 HRP HRL hc6l hc7l hcx hlb hm1 hx0 hx1 k0 k1
    go_upto_region 6 with fail
    rw [← HW6.out, ← HC10.out, ← HC9.out]
    obtain ⟨k0, k1, k2, k3, k4, k5, k6, j0, j1, j2, j3⟩ := HH.out.cs
    obtain ⟨ub, uo, rfl, -, hIu⟩ : ∃ b o, ua = some ⟨b, o, none⟩ ∧ t.plots.length = (t.plots.set p 2).length ∧ Ints W6 b o (t.plots.set p 2) := rd_ints HH.out.ru HUN.out.2
    have hpp : p < t.plots.length := HPL.out.1
    have hcu := hIu.2 p (by rw [HUN.out.1]; exact hpp)
    have e2 : (t.plots.set p 2).getD p 0 = 2 := by rw [List.getD_eq_getElem?_getD, List.getElem?_set_self hpp]; rfl
    rw [e2] at hcu
    have hub := hIu.1
    have hpp' : (p : Int) < t.plots.length := by omega
    clear e2 hIu
    generalize w'.alloc (.cells #[.int .i64 p] 3) = w3' 
    clear HW6 HC9 HC10
    go_wp2_with fail
    clear k0 k1 k2 k3 k4 k5 k6 j0 j1 j2 j3 hcu hub hpp hpp'
    go_loopw [69] (fun i wr => ∃ k : Nat, k ≤ L.length ∧ i = .int .i64 k ∧ Below W6.heap.size W6 wr) (fun i _ => L.length - (intOf i).toNat)
    case atStart => exact ⟨0, Nat.zero_le _, rfl, Below.refl _ _⟩
    case round =>
      obtain ⟨k, hk, rfl, hBk⟩ := hrel
      obtain ⟨wk, rfl⟩ : ∃ wk : World, wk = wr := ⟨_, rfl⟩
      have HHk := Lib.hid (HH.out.below hBk)
      have HBk := Lib.hid hBk
      clear hBk
      obtain ⟨k0, k1, k2, k3, k4, k5, k6, j0, j1, j2, j3⟩ := HHk.out.cs
      by_cases hlt : k < L.length
      · have hlt' : (k : Int) < L.length := by omega
        obtain ⟨s, hs, hsl, hs0⟩ : ∃ s : Nat, L.getD k 0 = s ∧ s < t.len ∧ t.at s = 0 := by
          have := mem_getD hlt
          rw [HLQ.out] at this
          obtain ⟨s, e, h1, h2⟩ := mem_kindIdx.1 this
          exact ⟨s, by rw [HLQ.out]; exact e, h1, h2⟩
        obtain ⟨b', o', e', -, hIL⟩ := rd_ints HHk.out.rl (by rw [← HLQ.out]; exact HLNE.out)
        cases e'
        rw [← HLQ.out] at hIL
        have hcs := hIL.2 k hlt
        rw [hs] at hcs
        have hlb := hIL.1
        have HSS := Lib.hid (And.intro hsl hs0)
        have hcu := wall_check HC.out p
        have HCU := Lib.hid hcu
        clear hs hsl hs0 hIL hcu
        by_cases hsp : s = p
        · subst hsp
          have hE : needsErr t.wide (t.plots.set s 2) wind s = 8 := by
            have ha : airErr wind 40 = 0 := by unfold airErr; rw [if_neg (by have := HAV.out; unfold AirV at this; omega)]
            have hp2 : plotErr (t.plots.set s 2) s 0 = 8 := by
              unfold plotErr
              have := HPL.out.1
              have h3 : t.len = t.plots.length := rfl
              rw [if_neg (by rw [HUN.out.1]; omega), Int.toNat_natCast, List.getD_eq_getElem?_getD, List.getElem?_set_self (by omega)]
              rfl
            unfold needsErr openErr
            rw [HCU.out, ha, hp2]; rfl
          have HNE := Lib.hid (Needs_any t.wide wind s (some ⟨ub, uo, none⟩) uc (t.plots.set s 2) (by rw [HUN.out.1]; omega) wk (by rw [HUN.out.1]; exact HHk.out.ru))
          rw [hE, HUN.out.1] at HNE
          clear hE
          go_wp2_with fail
          refine HNE.out.mono ?_
          rintro e w5' ⟨v, rfl, -, hB⟩
          have HB5 := Lib.hid (join HBk.out hB)
          clear hB HNE
          go_wp2_with fail
          go_roundw
          case rel => exact ⟨k + 1, by omega, by simp, HB5.out⟩
          case measure => simp [intOf]; omega
        · have hsp' : ((s : Int) == (p : Int)) = false := by simp; omega
          have oku : (wallT t p).Ok := (town_ok (wd := (t.wide : Int)) HCU.out).1
          have e1 := needs_err0 HC.out HAV.out.1 HAV.out.2.1 HSS.out.1 HSS.out.2
          have hsu : s < (wallT t p).len := by rw [wall_len]; exact HSS.out.1
          have hau : (wallT t p).at s = 0 := by rw [wall_at, if_neg (by omega)]; exact HSS.out.2
          have e2 := needs_err0 (t := wallT t p) HCU.out HAV.out.1 HAV.out.2.1 hsu hau
          have HN1 := Lib.hid (Needs_yes t HOK.out wind s HSS.out.1 e1 pa pc wk HHk.out.rp)
          have HN2 := Lib.hid (fun W (hR : RdI W (.slice (some ⟨ub, uo, none⟩) t.plots.length uc) (t.plots.set p 2)) => Needs_yes (wallT t p) oku wind s hsu e2 (some ⟨ub, uo, none⟩) uc W (by show RdI W (.slice _ (t.plots.set p 2).length uc) (t.plots.set p 2); rw [HUN.out.1]; exact hR))
          have hX1 := needs_len HOK.out wind HSS.out.1
          have hX2 := needs_len oku wind hsu
          rw [wall_len] at hX2
          have HLE := Lib.hid (fun k (hk : k < t.len) => wall_needs HOK.out oku wind HSS.out.1 (k := k) hk)
          have HBD := Lib.hid (fun k (hk : k < t.len) => needs_bd HOK.out wind HSS.out.1 k hk)
          have HBD2 := Lib.hid (fun k (hk : k < t.len) => needs_bd oku wind hsu k (by rw [wall_len]; exact hk))
          have e3 : (wallT t p).plots.length = t.plots.length := HUN.out.1
          rw [e3] at HN2
          change Hid (∀ W, RdI W (.slice (some ⟨ub, uo, none⟩) t.plots.length uc) (t.plots.set p 2) → Calls Try.prog 30 #[.agg #[.int .i64 t.wide, .slice (some ⟨ub, uo, none⟩) t.plots.length uc], .int .i64 wind, .int .i64 s] W _) at HN2
          obtain ⟨X, hX⟩ : ∃ X, X = t.needs wind s := ⟨_, rfl⟩
          obtain ⟨Y, hY⟩ : ∃ Y, Y = (wallT t p).needs wind s := ⟨_, rfl⟩
          rw [← hX] at HN1 HLE HBD hX1
          rw [← hY] at HN2 HLE HBD2 hX2
          change X.length = t.plots.length at hX1
          change Y.length = t.plots.length at hX2
          rw [hX1] at HN1
          rw [hX2] at HN2
          have HX1 := Lib.hid hX1
          have HX2 := Lib.hid hX2
          clear e1 e2 e3 hsu hau oku hX hY hX1 hX2
          go_wp2_with fail
          refine HN1.out.mono ?_
          rintro e w5' ⟨tb, rfl, hT, -, hB⟩
          have HT := Lib.hid hT
          have HHk := Lib.hid (HHk.out.below hB)
          have HBk := Lib.hid (join HBk.out hB)
          obtain ⟨k0, k1, k2, k3, k4, k5, k6, j0, j1, j2, j3⟩ := HHk.out.cs
          clear hT hB HN1 hcs hlb
          go_wp2_with fail
          refine (HN2.out _ HHk.out.ru).mono ?_
          rintro e w6' ⟨tb2, rfl, hT2, -, hB⟩
          have HT2 := Lib.hid hT2
          have HT := Lib.hid (HT.out.below hB HT.out.lt)
          have HHk := Lib.hid (HHk.out.below hB)
          have HBk := Lib.hid (join HBk.out hB)
          obtain ⟨k0, k1, k2, k3, k4, k5, k6, j0, j1, j2, j3⟩ := HHk.out.cs
          clear hT2 hB HN2
          go_wp2_with fail
          clear k0 k1 k2 k3 k4 k5 k6 j0 j1 j2 j3
          go_loopw [126] (fun i wr => ∃ j : Nat, j ≤ t.plots.length ∧ i = .int .i64 j ∧ Below w6'.heap.size w6' wr) (fun i _ => t.plots.length - (intOf i).toNat)
          case atStart => exact ⟨0, Nat.zero_le _, rfl, Below.refl _ _⟩
          case round =>
            obtain ⟨j, hj, rfl, hBj⟩ := hrel
            have HBj := Lib.hid hBj
            obtain ⟨wj, rfl⟩ : ∃ wj : World, wj = wr := ⟨_, rfl⟩
            by_cases hjl : j < t.plots.length
            · have hjl' : (j : Int) < t.plots.length := by omega
              obtain ⟨xk, hxk⟩ : ∃ xk, X.getD j 0 = xk := ⟨_, rfl⟩
              obtain ⟨yk, hyk⟩ : ∃ yk, Y.getD j 0 = yk := ⟨_, rfl⟩
              have HTj := Lib.hid (HT.out.below hBj HT.out.lt)
              have HT2j := Lib.hid (HT2.out.below hBj HT2.out.lt)
              have cx := HTj.out.cell (i := j) (by rw [HX1.out]; exact hjl)
              have cy := HT2j.out.cell (i := j) (by rw [HX2.out]; exact hjl)
              have hle := HLE.out j hjl
              rw [hxk] at cx
              rw [hyk] at cy
              rw [hxk, hyk] at hle
              have htb := HTj.out.lt
              have htb2 := HT2j.out.lt
              clear hxk hyk hBj
              by_cases hy : yk = -1
              · have d1 : (yk != -1) = false := by rw [hy]; rfl
                clear hle
                go_wp2_with fail
                go_quiet (fail)
                go_wp2_with fail
                go_roundw
                case rel => exact ⟨j + 1, by omega, by simp, ⟨HBj.out.os, HBj.out.tape, HBj.out.output, HBj.out.size, HBj.out.block⟩⟩
                case measure => simp [intOf]; omega
              · have d1 : (yk != -1) = true := by simpa using hy
                have d2 : (xk == -1) = false := by simpa using (hle hy).1
                have d3 : decide (yk < xk) = false := by have := (hle hy).2; simp; omega
                clear hle
                go_wp2_with fail
                go_quiet (fail)
                go_wp2_with fail
                go_roundw
                case rel => exact ⟨j + 1, by omega, by simp, ⟨HBj.out.os, HBj.out.tape, HBj.out.output, HBj.out.size, HBj.out.block⟩⟩
                case measure => simp [intOf]; omega
            · obtain rfl : j = t.plots.length := by omega
              go_wp2_with fail
              go_roundw
              case rel => exact ⟨k + 1, by omega, by simp, join HBk.out HBj.out⟩
              case measure => simp [intOf]; omega
      · obtain rfl : k = L.length := by omega
        have hne : t.plots ≠ [] := by intro e; have := (check_len HC.out).2; rw [e] at this; simp at this
        obtain ⟨pb, po, rfl, -, hIp⟩ := rd_ints HHk.out.rp hne
        have ha : airErr wind voice = 0 := by unfold airErr; rw [if_neg (by have := HAV.out; unfold AirV at this; omega)]
        have HHO := Lib.hid (fun W hR => houses_any t.wide (some ⟨pb, po, none⟩) pc t.plots (by omega) W hR)
        have HMU := Lib.hid (fun W a hcap hP hR => Must_houses t HOK.out HC.out wind voice ha pb po pc a hcap W hP hR)
        have HDE := Lib.hid (fun W hR => Deaf_any t.wide wind voice (some ⟨pb, po, none⟩) pc t.plots (by omega) W hR)
        have hoE : openErr t.wide t.plots wind voice = 0 := by unfold openErr; rw [HC.out]; exact ha
        have hdl : deafL t.wide t.plots wind voice = deafOf t wind voice := by unfold deafL; rw [if_pos hoE, townOf_self]
        rw [hoE, hdl] at HDE
        have HML := Lib.hid (fun S hS => must_law HOK.out HC.out ha HPL.out.1 (wind := wind) (voice := voice) (S := S) (hS := hS))
        have HSE := Lib.hid (fun W ah sa ch cs S hS hR hH hSS hok => served_ok t.wide wind voice (some ⟨pb, po, none⟩) pc t.plots (by omega) ah sa ch cs (kindIdx t.plots 1) S (by have := kindTo_len t.plots 1 t.plots.length; unfold kindIdx; omega) hS W hR hH hSS hok)
        have hat : ∀ s ∈ L, atE t.wide t.plots wind voice s 0 = 0 := fun s hs => by
          rw [HLQ.out] at hs
          obtain ⟨s', rfl, h1, h2⟩ := mem_kindIdx.1 hs
          unfold atE
          rw [if_neg (by rw [hoE]; simp)]
          unfold plotErr
          rw [if_neg (by omega), Int.toNat_natCast]
          exact if_pos h2
        have HAT := Lib.hid hat
        obtain ⟨H, hH⟩ : ∃ H, H = kindIdx t.plots 1 := ⟨_, rfl⟩
        obtain ⟨M, hM⟩ : ∃ M, M = mustL t wind voice := ⟨_, rfl⟩
        obtain ⟨E, hE⟩ : ∃ E, E = firstE (lis t wind voice fun _ => true) := ⟨_, rfl⟩
        rw [← hH] at HHO HMU HSE HML
        rw [← hM, ← hE] at HMU
        have hHl : H.length ≤ 30 := by rw [hH]; have := kindTo_len t.plots 1 t.plots.length; unfold kindIdx; omega
        have HHQ := Lib.hid hH
        have HMQ := Lib.hid hM
        have HEQ := Lib.hid hE
        have hE06 : E = 0 ∨ E = 6 := by rw [hE]; exact firstE_or _
        have HDD := Lib.hid (firstE_deaf (t := t) wind voice)
        rw [← hE] at HDD
        obtain ⟨D, hD⟩ : ∃ D, D = deafOf t wind voice := ⟨_, rfl⟩
        rw [← hD] at HDE HDD
        clear hne hIp ha hoE hdl hat hH hM hE hD
        go_upto_region 26 with fail
        refine Rs.region_gen 10 [[], [], [], [2], [0, 1, 2, 3], [0, 1, 2, 3, 4], [0, 1, 2, 3, 4, 5], [0, 1, 2, 3, 4, 5], [0, 1, 2, 3, 4, 5, 6], [0, 1, 2, 3, 4, 5, 6, 7, 8]] [some 155, some 156, some 157, some 158, some 159, some 154, some 160, some 161, some 21, some 11] (spD26 (.agg #[.int .i64 t.wide, .slice (some ⟨pb, po, none⟩) t.plots.length pc]) (.agg #[.int .i64 wind, .int .i64 voice]) H M E wk.heap.size) (by kernel_rfl) (by kernel_rfl) rfl (spD26_stable _ _ _ _ _ _) ?_ ?_
        · refine ⟨fun V w' hG hs => ?_, fun V w' hG hs => ?_, fun V w' hG hs => ?_, fun V w' hG hs => ?_, fun V w' hG hs => ?_, fun V w' hG hs => ?_, fun V w' hG hs => ?_, fun V w' hG hs => ?_, fun V w' hG hs => ?_, fun V w' hG hs => ?_, trivial⟩
          all_goals
            have hHr := HHk.out.below hG
            obtain ⟨k0, k1, k2, k3, k4, k5, k6, j0, j1, j2, j3⟩ := hHr.cs
          · rw [if_pos (by rfl)]
            exact Rs.GrowL.value (v := (.agg #[.int .i64 t.wide, .slice (some ⟨pb, po, none⟩) t.plots.length pc])) (w' := w') (by simp [go_sem, Rs.look, k0, k1]) (Rs.Gr.refl _) rfl
          · rw [if_pos (by rfl)]
            exact Rs.GrowL.value (v := (.agg #[.int .i64 wind, .int .i64 voice])) (w' := w') (by simp [go_sem, Rs.look, k2, k3]) (Rs.Gr.refl _) rfl
          · rw [if_pos (by rfl)]
            exact Rs.GrowL.value (v := (.agg #[.int .i64 t.wide, .slice (some ⟨pb, po, none⟩) t.plots.length pc])) (w' := w') (by simp [go_sem, Rs.look, k0, k1]) (Rs.Gr.refl _) rfl
          · have e2 : V 2 = (.agg #[.int .i64 t.wide, .slice (some ⟨pb, po, none⟩) t.plots.length pc]) := hs 2 (by simp)
            rw [if_pos (by rfl)]
            refine Rs.GrowL.call (f := 63) (args := #[.agg #[.int .i64 t.wide, .slice (some ⟨pb, po, none⟩) t.plots.length pc]]) (by simp [go_sem, Rs.look, e2]) ?_
            refine (HHO.out w' hHr.rp).mono ?_
            rintro e w3 ⟨u, rfl, ho, hB⟩
            exact ⟨_, rfl, hB, own_base ho hG.size⟩
          · have e0 : V 0 = (.agg #[.int .i64 t.wide, .slice (some ⟨pb, po, none⟩) t.plots.length pc]) := hs 0 (by simp)
            have e1 : V 1 = (.agg #[.int .i64 wind, .int .i64 voice]) := hs 1 (by simp)
            have e2 : V 2 = (.agg #[.int .i64 t.wide, .slice (some ⟨pb, po, none⟩) t.plots.length pc]) := hs 2 (by simp)
            have r3 := hs 3 (by simp)
            rw [if_pos (by rfl)]
            obtain ⟨ah, ch, e3⟩ := own_slice r3
            have hr3 := RdI.own rfl rfl r3
            rw [e3] at hr3
            refine Rs.GrowL.call (f := 48) (args := #[.agg #[.int .i64 t.wide, .slice (some ⟨pb, po, none⟩) t.plots.length pc], .agg #[.int .i64 wind, .int .i64 voice], .slice ah H.length ch]) (by simp [go_sem, Rs.look, e0, e1, e3]) ?_
            refine (HMU.out w' ah ch hHr.rp hr3).mono ?_
            rintro e w3 ⟨u, rfl, hB, hm⟩
            exact ⟨_, rfl, hB, u, rfl, hm⟩
          · have e0 : V 0 = (.agg #[.int .i64 t.wide, .slice (some ⟨pb, po, none⟩) t.plots.length pc]) := hs 0 (by simp)
            have e1 : V 1 = (.agg #[.int .i64 wind, .int .i64 voice]) := hs 1 (by simp)
            have e2 : V 2 = (.agg #[.int .i64 t.wide, .slice (some ⟨pb, po, none⟩) t.plots.length pc]) := hs 2 (by simp)
            have r3 := hs 3 (by simp)
            have r4 := hs 4 (by simp)
            rw [if_pos (by rfl)]
            obtain ⟨u, e4, hu⟩ : ∃ u, V 4 = .tuple #[u, .int .i64 E] ∧ RdI w' u M := r4
            exact Rs.GrowL.value (v := .tuple #[u, .int .i64 E]) (w' := w') (by simp [go_sem, Rs.look, e4]) (Rs.Gr.refl _) ⟨u, rfl, hu⟩
          · have e0 : V 0 = (.agg #[.int .i64 t.wide, .slice (some ⟨pb, po, none⟩) t.plots.length pc]) := hs 0 (by simp)
            have e1 : V 1 = (.agg #[.int .i64 wind, .int .i64 voice]) := hs 1 (by simp)
            have e2 : V 2 = (.agg #[.int .i64 t.wide, .slice (some ⟨pb, po, none⟩) t.plots.length pc]) := hs 2 (by simp)
            have r3 := hs 3 (by simp)
            have r4 := hs 4 (by simp)
            have r5 := hs 5 (by simp)
            rw [if_pos (by rfl)]
            obtain ⟨u, e5, hu⟩ : ∃ u, V 5 = .tuple #[u, .int .i64 E] ∧ RdI w' u M := r5
            exact Rs.GrowL.value (v := u) (w' := w') (by simp [go_sem, Rs.look, e5]) (Rs.Gr.refl _) hu
          · have e0 : V 0 = (.agg #[.int .i64 t.wide, .slice (some ⟨pb, po, none⟩) t.plots.length pc]) := hs 0 (by simp)
            have e1 : V 1 = (.agg #[.int .i64 wind, .int .i64 voice]) := hs 1 (by simp)
            have e2 : V 2 = (.agg #[.int .i64 t.wide, .slice (some ⟨pb, po, none⟩) t.plots.length pc]) := hs 2 (by simp)
            have r3 := hs 3 (by simp)
            have r4 := hs 4 (by simp)
            have r5 := hs 5 (by simp)
            rw [if_pos (by rfl)]
            obtain ⟨u, e5, hu⟩ : ∃ u, V 5 = .tuple #[u, .int .i64 E] ∧ RdI w' u M := r5
            exact Rs.GrowL.value (v := .int .i64 E) (w' := w') (by simp [go_sem, Rs.look, e5]) (Rs.Gr.refl _) rfl
          · have e0 : V 0 = (.agg #[.int .i64 t.wide, .slice (some ⟨pb, po, none⟩) t.plots.length pc]) := hs 0 (by simp)
            have e1 : V 1 = (.agg #[.int .i64 wind, .int .i64 voice]) := hs 1 (by simp)
            have e2 : V 2 = (.agg #[.int .i64 t.wide, .slice (some ⟨pb, po, none⟩) t.plots.length pc]) := hs 2 (by simp)
            have r3 := hs 3 (by simp)
            have r4 := hs 4 (by simp)
            have r5 := hs 5 (by simp)
            have r6 := hs 6 (by simp)
            rw [if_pos (by rfl)]
            exact Rs.GrowL.value (v := V 6) (w' := w') (by simp [go_sem, Rs.look]) (Rs.Gr.refl _) r6
          · have e0 : V 0 = (.agg #[.int .i64 t.wide, .slice (some ⟨pb, po, none⟩) t.plots.length pc]) := hs 0 (by simp)
            have e1 : V 1 = (.agg #[.int .i64 wind, .int .i64 voice]) := hs 1 (by simp)
            have e2 : V 2 = (.agg #[.int .i64 t.wide, .slice (some ⟨pb, po, none⟩) t.plots.length pc]) := hs 2 (by simp)
            have r3 := hs 3 (by simp)
            have r4 := hs 4 (by simp)
            have r5 := hs 5 (by simp)
            have r6 := hs 6 (by simp)
            have e7 : V 7 = .int .i64 E := hs 7 (by simp)
            have r8 := hs 8 (by simp)
            rw [if_pos (by rfl)]
            exact Rs.GrowL.value (v := .int .i64 E) (w' := w') (by simp [go_sem, Rs.look, e0, e1, e2, e7]) (Rs.Gr.refl _) rfl
        · intro V w' hG hs
          have e0 : V 0 = (.agg #[.int .i64 t.wide, .slice (some ⟨pb, po, none⟩) t.plots.length pc]) := hs 0 (by omega)
          have e1 : V 1 = (.agg #[.int .i64 wind, .int .i64 voice]) := hs 1 (by omega)
          have e2 : V 2 = (.agg #[.int .i64 t.wide, .slice (some ⟨pb, po, none⟩) t.plots.length pc]) := hs 2 (by omega)
          have r3 := hs 3 (by omega)
          have r4 := hs 4 (by omega)
          have r5 := hs 5 (by omega)
          have r6 := hs 6 (by omega)
          have e7 : V 7 = .int .i64 E := hs 7 (by omega)
          have r8 := hs 8 (by omega)
          have e9 : V 9 = .int .i64 E := hs 9 (by omega)
          have r8 : RdI w' (V 8) M := r8
          obtain ⟨_, am, cm, e8, -⟩ := id r8
          rw [e8] at r8
          simp only [Rs.canon, Rs.dstOf, List.range_succ, List.range_zero, List.nil_append, List.cons_append, List.foldl_cons, List.foldl_nil, List.drop_succ_cons, List.drop_zero, List.drop_nil, List.getElem?_toArray, List.getElem?_cons_succ, List.getElem?_cons_zero, Option.bind_some, Act.put, List.getD_cons_succ, List.getD_cons_zero, List.setIfInBounds_toArray, List.set_cons_succ, List.set_cons_zero]
          rw [e0, e1, e2, e7, e8, e9]
          generalize V 3 = y3
          generalize V 4 = y4
          generalize V 5 = y5
          generalize V 6 = y6
          have HRM := Lib.hid r8
          have HHc := Lib.hid (HHk.out.below hG)
          clear k0 k1 k2 k3 k4 k5 k6 j0 j1 j2 j3 r3 r4 r5 r6 r8 e0 e1 e2 e7 e8 e9 hs hG
          obtain ⟨k0, k1, k2, k3, k4, k5, k6, j0, j1, j2, j3⟩ := HHc.out.cs
          go_wp2_with fail
          refine (HDE.out _ HHc.out.rp).mono ?_
          rintro e w10 ⟨vd, rfl, ho, hB⟩
          have HRM := Lib.hid (HRM.out.below hB)
          have HHd := Lib.hid (HHc.out.below hB)
          obtain ⟨ad, cd, rfl⟩ := own_slice ho
          obtain ⟨k0, k1, k2, k3, k4, k5, k6, j0, j1, j2, j3⟩ := HHd.out.cs
          clear ho hB HDE
          rcases hE06 with hE0 | hE6
          · have hD0 := HDD.out.1 hE0
            have d1 : (E == 0) = true := by rw [hE0]; rfl
            have d1' : (E != 0) = false := by rw [hE0]; rfl
            have hDl : ((D.length : Int) == 0) = true := by rw [hD0]; rfl
            have hM1 : M = mustTo (lis t wind voice fun _ => true) t.plots.length := by rw [HMQ.out]; unfold mustL; rw [if_pos (by rw [← HEQ.out]; exact hE0)]
            have HM1 := Lib.hid hM1
            have HE0 := Lib.hid (HEQ.out.symm.trans hE0)
            clear hE0 hD0 hM1
            go_upto_region 32 with fail
            obtain ⟨S, hS⟩ : ∃ S, S = keptTo (fun h => h == (p : Int)) L L.length := ⟨_, rfl⟩
            have hmem : ∀ s : Int, s ∈ S ↔ s ∈ L ∧ s ≠ p := fun s => by rw [hS]; exact mem_kept
            have hSl : S.length ≤ 30 := by rw [hS]; unfold keptTo; refine Nat.le_trans (List.length_filter_le _ _) ?_; rw [List.length_take]; omega
            have hlaw := HML.out S (fun s => by rw [← HLQ.out]; exact hmem s) HE0.out
            rw [← HM1.out] at hlaw
            obtain ⟨N, hN⟩ : ∃ N, N = countTo (heardTo t.wide t.plots wind voice S S.length) H H.length := ⟨_, rfl⟩
            rw [← hN] at hlaw
            have HNQ := Lib.hid hN
            have HSQ := Lib.hid hS
            have HLAW := Lib.hid hlaw
            have HOS : Hid (∀ s ∈ S, atE t.wide t.plots wind voice s 0 = 0) := Lib.hid (fun s hs => HAT.out s ((hmem s).1 hs).1)
            have hSb : S.length ≤ 1000000 := by omega
            clear hS hmem hlaw hN k0 k1 k2 k3 k4 k5 k6 j0 j1 j2 j3
            refine Rk.region_gen 7 (gD32 w10.heap.size) (below_isGr w10.heap.size) (fun i a b h => gD32_all _ i a b h) (fun i a => gD32_refl _ i a) 14 [[], [], [], [2], [], [2, 3, 4], [], [2, 3, 4, 5, 6], [0, 1, 2, 3, 4, 5, 6, 7], [0, 1, 2, 3, 4, 5, 6, 7, 8], [0, 1, 2, 3, 4, 5, 6, 7, 8, 9], [0, 1, 2, 3, 4, 5, 6, 7, 8, 9], [0, 1, 2, 3, 4, 5, 6, 7, 8, 9, 10], [0, 1, 2, 3, 4, 5, 6, 7, 8, 9, 10, 11, 12]] [some 186, some 187, some 188, some 189, some 190, some 191, some 192, some 193, some 194, some 185, some 195, some 196, some 24, some 25] (by omega) (spD32 (.agg #[.int .i64 t.wide, .slice (some ⟨pb, po, none⟩) t.plots.length pc]) (.agg #[.int .i64 wind, .int .i64 voice]) (.slice (some ⟨lb, lo, none⟩) L.length p8) H S L.length N c9 w10.heap.size L) (by kernel_rfl) (by kernel_rfl) rfl (spD32_stable _ _ _ _ _ _ _ _ _ _) ?_ ?_
            · refine ⟨fun V w' c hG hc hs => ?_, fun V w' c hG hc hs => ?_, fun V w' c hG hc hs => ?_, fun V w' c hG hc hs => ?_, fun V w' c hG hc hs => ?_, fun V w' c hG hc hs => ?_, fun V w' c hG hc hs => ?_, fun V w' c hG hc hs => ?_, fun V w' c hG hc hs => ?_, fun V w' c hG hc hs => ?_, fun V w' c hG hc hs => ?_, fun V w' c hG hc hs => ?_, fun V w' c hG hc hs => ?_, fun V w' c hG hc hs => ?_, trivial⟩
              all_goals
                have hHr := HHd.out.below hG
                obtain ⟨k0, k1, k2, k3, k4, k5, k6, j0, j1, j2, j3⟩ := hHr.cs
                rw [if_pos (by rfl)]
              · exact Rk.GrowL.value (v := (.agg #[.int .i64 t.wide, .slice (some ⟨pb, po, none⟩) t.plots.length pc])) (w' := w') (by simp [go_sem, Rs.look, k0, k1]) (gD32_refl _ _ _) rfl
              · exact Rk.GrowL.value (v := (.agg #[.int .i64 wind, .int .i64 voice])) (w' := w') (by simp [go_sem, Rs.look, k2, k3]) (gD32_refl _ _ _) rfl
              · exact Rk.GrowL.value (v := (.agg #[.int .i64 t.wide, .slice (some ⟨pb, po, none⟩) t.plots.length pc])) (w' := w') (by simp [go_sem, Rs.look, k0, k1]) (gD32_refl _ _ _) rfl
              · have e2 : V 2 = (.agg #[.int .i64 t.wide, .slice (some ⟨pb, po, none⟩) t.plots.length pc]) := hs 2 (by simp)
                refine Rk.GrowL.call (f := 63) (args := #[(.agg #[.int .i64 t.wide, .slice (some ⟨pb, po, none⟩) t.plots.length pc])]) (by simp [go_sem, Rs.look, e2]) ?_
                refine (HHO.out w' hHr.rp).mono ?_
                rintro e w3 ⟨u, rfl, ho, hB⟩
                exact ⟨_, rfl, gD32_of (by decide) hB hG.size, fun _ => RdI.own rfl rfl ho⟩
              · exact Rk.GrowL.value (v := (.slice (some ⟨lb, lo, none⟩) L.length p8)) (w' := w') (by simp [go_sem, Rs.look]) (gD32_refl _ _ _) rfl
              · have e4 : V 4 = (.slice (some ⟨lb, lo, none⟩) L.length p8) := hs 4 (by simp)
                have r3 : c = false → RdI w' (V 3) H := hs 3 (by simp)
                have hl8 : RdI w' (.slice (some ⟨lb, lo, none⟩) L.length p8) L := by have := hHr.rl; rw [← HLQ.out] at this; exact this
                refine Rk.GrowL.call (f := 27) (args := #[(.slice (some ⟨lb, lo, none⟩) L.length p8)]) (by simp [go_sem, Rs.look, e4]) ?_
                refine (copy_full (.slice (some ⟨lb, lo, none⟩) L.length p8) L (by omega) w' hl8).mono ?_
                rintro e w3 ⟨rfl, hT, hB⟩
                exact ⟨_, rfl, gD32_of (by decide) hB hG.size, fun hcf => ⟨w'.heap.size, rfl, hG.size, hT, rd_off (r3 (by simpa using hcf))⟩⟩
              · exact Rk.GrowL.value (v := (.func (.func 73) #[] #[.pointer (some ⟨c9, 0, none⟩)])) (w' := w') (by simp [go_sem, Rs.look]) (gD32_refl _ _ _) rfl
              · have hcf := hc rfl
                have e6 : V 6 = (.func (.func 73) #[] #[.pointer (some ⟨c9, 0, none⟩)]) := hs 6 (by simp)
                have r3 : c = false → RdI w' (V 3) H := hs 3 (by simp)
                have r5 : c = false → ∃ g, V 5 = .slice (some ⟨g, 0, none⟩) L.length L.length ∧ w10.heap.size ≤ g ∧ TabAt w' g L ∧ (H = [] ∨ Off g (V 3)) := hs 5 (by simp)
                have r3 := r3 hcf
                obtain ⟨g, e5, hgB, hT, hof⟩ := r5 hcf
                have hdel := deleteFuncI 73 entered73 (.pointer (some ⟨c9, 0, none⟩)) (fun h => h == (p : Int)) g L.length L rfl (by omega) w' hT (fun W hA => ask73 c9 p W (by rw [cell_of_row _ _ _ _ _ _ (((Aft.low hA hgB hG.size).block c9 (Nat.lt_of_lt_of_le (Array.getElem?_eq_some_iff.1 HHd.out.b9).1 (Nat.le_refl _))).trans hHr.b9)]; rfl))
                rw [← HSQ.out] at hdel
                refine Rk.GrowL.call (f := 72) (args := #[.slice (some ⟨g, 0, none⟩) L.length L.length, (.func (.func 73) #[] #[.pointer (some ⟨c9, 0, none⟩)])]) (by simp [go_sem, Rs.look, e5, e6]) ?_
                refine hdel.mono ?_
                rintro e w3 ⟨rfl, hI, hA⟩
                exact ⟨_, rfl, by unfold gD32; rw [if_pos rfl]; exact Aft.low hA hgB hG.size, by simp, RdI.mk' hI (by omega), rd_aft r3 hA hof⟩
              · have e0 : V 0 = (.agg #[.int .i64 t.wide, .slice (some ⟨pb, po, none⟩) t.plots.length pc]) := hs 0 (by simp)
                have e1 : V 1 = (.agg #[.int .i64 wind, .int .i64 voice]) := hs 1 (by simp)
                obtain ⟨hct, r7, r3⟩ : c = true ∧ RdI w' (V 7) S ∧ RdI w' (V 3) H := hs 7 (by simp)
                obtain ⟨_, sa, cs, e7, -⟩ := id r7
                obtain ⟨_, ah, ch, e3, -⟩ := id r3
                rw [e7] at r7
                rw [e3] at r3
                refine Rk.GrowL.call (f := 67) (args := #[(.agg #[.int .i64 t.wide, .slice (some ⟨pb, po, none⟩) t.plots.length pc]), (.agg #[.int .i64 wind, .int .i64 voice]), .slice ah H.length ch, .slice sa S.length cs]) (by simp [go_sem, Rs.look, e0, e1, e3, e7]) ?_
                refine (HSE.out w' ah sa ch cs S hSb hHr.rp r3 r7 HOS.out).mono ?_
                rintro e w3 ⟨rfl, hB⟩
                exact ⟨_, rfl, gD32_of (by decide) hB hG.size, by simp [hct], by rw [HNQ.out]⟩
              · obtain ⟨hct, e8⟩ : c = true ∧ V 8 = (.tuple #[.int .i64 N, .bool true]) := hs 8 (by simp)
                exact Rk.GrowL.value (v := (.tuple #[.int .i64 N, .bool true])) (w' := w') (by simp [go_sem, Rs.look, e8]) (gD32_refl _ _ _) ⟨by simp [hct], rfl⟩
              · obtain ⟨hct, e9⟩ : c = true ∧ V 9 = (.tuple #[.int .i64 N, .bool true]) := hs 9 (by simp)
                exact Rk.GrowL.value (v := .int .i64 N) (w' := w') (by simp [go_sem, Rs.look, e9]) (gD32_refl _ _ _) ⟨by simp [hct], rfl⟩
              · obtain ⟨hct, e9⟩ : c = true ∧ V 9 = (.tuple #[.int .i64 N, .bool true]) := hs 9 (by simp)
                exact Rk.GrowL.value (v := .bool true) (w' := w') (by simp [go_sem, Rs.look, e9]) (gD32_refl _ _ _) ⟨by simp [hct], rfl⟩
              · obtain ⟨hct, e10⟩ : c = true ∧ V 10 = .int .i64 N := hs 10 (by simp)
                exact Rk.GrowL.value (v := .int .i64 N) (w' := w') (by simp [go_sem, Rs.look, e10]) (gD32_refl _ _ _) ⟨by simp [hct], rfl⟩
              · obtain ⟨hct, e11⟩ : c = true ∧ V 11 = .bool true := hs 11 (by simp)
                exact Rk.GrowL.value (v := .bool true) (w' := w') (by simp [go_sem, Rs.look, e11]) (gD32_refl _ _ _) ⟨by simp [hct], rfl⟩
            · intro V w' hG hs
              have e0 : V 0 = (.agg #[.int .i64 t.wide, .slice (some ⟨pb, po, none⟩) t.plots.length pc]) := hs 0 (by omega)
              have e1 : V 1 = (.agg #[.int .i64 wind, .int .i64 voice]) := hs 1 (by omega)
              have e2 : V 2 = (.agg #[.int .i64 t.wide, .slice (some ⟨pb, po, none⟩) t.plots.length pc]) := hs 2 (by omega)
              have e4 : V 4 = (.slice (some ⟨lb, lo, none⟩) L.length p8) := hs 4 (by omega)
              have e6 : V 6 = (.func (.func 73) #[] #[.pointer (some ⟨c9, 0, none⟩)]) := hs 6 (by omega)
              have e8 : V 8 = (.tuple #[.int .i64 N, .bool true]) := (show true = true ∧ V 8 = (.tuple #[.int .i64 N, .bool true]) from hs 8 (by omega)).2
              have e9 : V 9 = (.tuple #[.int .i64 N, .bool true]) := (show true = true ∧ V 9 = (.tuple #[.int .i64 N, .bool true]) from hs 9 (by omega)).2
              have e10 : V 10 = .int .i64 N := (show true = true ∧ V 10 = .int .i64 N from hs 10 (by omega)).2
              have e11 : V 11 = .bool true := (show true = true ∧ V 11 = .bool true from hs 11 (by omega)).2
              have e12 : V 12 = .int .i64 N := (show true = true ∧ V 12 = .int .i64 N from hs 12 (by omega)).2
              have e13 : V 13 = .bool true := (show true = true ∧ V 13 = .bool true from hs 13 (by omega)).2
              simp only [Rs.canon, Rs.dstOf, List.range_succ, List.range_zero, List.nil_append, List.cons_append, List.foldl_cons, List.foldl_nil, List.drop_succ_cons, List.drop_zero, List.drop_nil, List.getElem?_toArray, List.getElem?_cons_succ, List.getElem?_cons_zero, Option.bind_some, Act.put, List.getD_cons_succ, List.getD_cons_zero, List.setIfInBounds_toArray, List.set_cons_succ, List.set_cons_zero]
              rw [e0, e1, e2, e4, e6, e8, e9, e10, e11, e12, e13]
              generalize V 3 = y3
              generalize V 5 = y5
              generalize V 7 = y7
              clear e0 e1 e2 e4 e6 e8 e9 e10 e11 e12 e13 hs
              obtain ⟨w12, rfl⟩ : ∃ w12 : World, w12 = w' := ⟨_, rfl⟩
              have HHe := Lib.hid (HHd.out.below hG)
              have HRM := Lib.hid (HRM.out.below hG)
              have HBE := Lib.hid hG
              obtain ⟨dB, hd6⟩ : ∃ dB, decide ((N : Int) < (H.length : Int)) = dB := ⟨_, rfl⟩
              have hd6' : decide (N < H.length) = dB := by rw [← hd6]; congr 1; apply propext; omega
              have hd9 : M.contains (p : Int) = dB := by rw [← hd6', Bool.eq_iff_iff, decide_eq_true_iff, HLAW.out, List.contains_iff_mem]
              clear hG
              go_wp2_with fail
              refine Rs.region_gen 16 [[], [0], [0, 1], [0, 1], [0, 1, 3], [0, 1, 3, 4], [0, 1, 2, 3, 4, 5], [0, 1], [0, 1], [0, 1, 3, 4, 7, 8], [0, 1, 2, 3, 4, 5, 6, 7, 8, 9], [0, 1, 2, 3, 4, 5, 6, 7, 8, 9, 10], [0, 1, 2, 3, 4, 5, 6, 7, 8, 9, 10, 11], [0, 1, 2, 3, 4, 5, 6, 7, 8, 9, 10, 11, 12], [0, 1, 2, 3, 4, 5, 6, 7, 8, 9, 10, 11, 12, 13], [0, 1, 2, 3, 4, 5, 6, 7, 8, 9, 10, 11, 12, 13, 14]] [some 197, some 198, some 199, some 200, some 201, some 202, some 203, some 204, some 205, some 206, some 207, some 208, some 209, some 210, some 211, some 4] (spD33 (.agg #[.int .i64 t.wide, .slice (some ⟨pb, po, none⟩) t.plots.length pc]) (.slice am M.length cm) H (N : Nat) (p : Nat) dB w12.heap.size) (by kernel_rfl) (by kernel_rfl) rfl (spD33_stable _ _ _ _ _ _ _) ?_ ?_
              · refine ⟨fun V w' hG hs => ?_, fun V w' hG hs => ?_, fun V w' hG hs => ?_, fun V w' hG hs => ?_, fun V w' hG hs => ?_, fun V w' hG hs => ?_, fun V w' hG hs => ?_, fun V w' hG hs => ?_, fun V w' hG hs => ?_, fun V w' hG hs => ?_, fun V w' hG hs => ?_, fun V w' hG hs => ?_, fun V w' hG hs => ?_, fun V w' hG hs => ?_, fun V w' hG hs => ?_, fun V w' hG hs => ?_, trivial⟩
                all_goals
                  have hHr := HHe.out.below hG
                  obtain ⟨k0, k1, k2, k3, k4, k5, k6, j0, j1, j2, j3⟩ := hHr.cs
                · rw [if_pos (by rfl)]
                  exact Rs.GrowL.value (v := .bool true) (w' := w') (by simp [go_sem, Rs.look]) (Rs.Gr.refl _) rfl
                · have e0 : V 0 = .bool true := hs 0 (by simp)
                  rw [if_pos (by rfl)]
                  exact Rs.GrowL.value (v := .bool true) (w' := w') (by simp [go_sem, Rs.look, e0]) (Rs.Gr.refl _) rfl
                · have e0 : V 0 = .bool true := hs 0 (by simp)
                  have e1 : V 1 = .bool true := hs 1 (by simp)
                  rw [if_pos (by simp [Rs.wantB, e1])]
                  exact Rs.GrowL.value (v := .int .i64 (N : Nat)) (w' := w') (by simp [go_sem, Rs.look, e0, e1]) (Rs.Gr.refl _) rfl
                · have e0 : V 0 = .bool true := hs 0 (by simp)
                  have e1 : V 1 = .bool true := hs 1 (by simp)
                  rw [if_pos (by simp [Rs.wantB, e1])]
                  exact Rs.GrowL.value (v := (.agg #[.int .i64 t.wide, .slice (some ⟨pb, po, none⟩) t.plots.length pc])) (w' := w') (by simp [go_sem, Rs.look, e0, e1, k0, k1]) (Rs.Gr.refl _) rfl
                · have e0 : V 0 = .bool true := hs 0 (by simp)
                  have e1 : V 1 = .bool true := hs 1 (by simp)
                  have e3 : V 3 = (.agg #[.int .i64 t.wide, .slice (some ⟨pb, po, none⟩) t.plots.length pc]) := hs 3 (by simp)
                  rw [if_pos (by simp [Rs.wantB, e1])]
                  refine Rs.GrowL.call (f := 63) (args := #[.agg #[.int .i64 t.wide, .slice (some ⟨pb, po, none⟩) t.plots.length pc]]) (by simp [go_sem, Rs.look, e3]) ?_
                  refine (HHO.out w' hHr.rp).mono ?_
                  rintro e w3 ⟨u, rfl, ho, hB⟩
                  exact ⟨_, rfl, hB, own_base ho hG.size⟩
                · have e0 : V 0 = .bool true := hs 0 (by simp)
                  have e1 : V 1 = .bool true := hs 1 (by simp)
                  have e3 : V 3 = (.agg #[.int .i64 t.wide, .slice (some ⟨pb, po, none⟩) t.plots.length pc]) := hs 3 (by simp)
                  have r4 := hs 4 (by simp)
                  rw [if_pos (by simp [Rs.wantB, e1])]
                  obtain ⟨ah, ch, e4⟩ := own_slice r4
                  exact Rs.GrowL.value (v := .int .i64 H.length) (w' := w') (by simp [go_sem, Rs.look, e4]) (Rs.Gr.refl _) rfl
                · have e0 : V 0 = .bool true := hs 0 (by simp)
                  have e1 : V 1 = .bool true := hs 1 (by simp)
                  have e2 : V 2 = .int .i64 (N : Nat) := hs 2 (by simp)
                  have e3 : V 3 = (.agg #[.int .i64 t.wide, .slice (some ⟨pb, po, none⟩) t.plots.length pc]) := hs 3 (by simp)
                  have r4 := hs 4 (by simp)
                  have e5 : V 5 = .int .i64 H.length := hs 5 (by simp)
                  rw [if_pos (by simp [Rs.wantB, e1])]
                  exact Rs.GrowL.value (v := .bool dB) (w' := w') (by simp [go_sem, Rs.look, e0, e1, e2, e3, e5, hd6, hd6']) (Rs.Gr.refl _) rfl
                · have e0 : V 0 = .bool true := hs 0 (by simp)
                  have e1 : V 1 = .bool true := hs 1 (by simp)
                  rw [if_pos (by simp [Rs.wantB, e1])]
                  exact Rs.GrowL.value (v := (.slice am M.length cm)) (w' := w') (by simp [go_sem, Rs.look, e0, e1]) (Rs.Gr.refl _) rfl
                · have e0 : V 0 = .bool true := hs 0 (by simp)
                  have e1 : V 1 = .bool true := hs 1 (by simp)
                  rw [if_pos (by simp [Rs.wantB, e1])]
                  exact Rs.GrowL.value (v := .int .i64 (p : Nat)) (w' := w') (by simp [go_sem, Rs.look, e0, e1, k4]) (Rs.Gr.refl _) rfl
                · have e0 : V 0 = .bool true := hs 0 (by simp)
                  have e1 : V 1 = .bool true := hs 1 (by simp)
                  have e3 : V 3 = (.agg #[.int .i64 t.wide, .slice (some ⟨pb, po, none⟩) t.plots.length pc]) := hs 3 (by simp)
                  have r4 := hs 4 (by simp)
                  have e7 : V 7 = (.slice am M.length cm) := hs 7 (by simp)
                  have e8 : V 8 = .int .i64 (p : Nat) := hs 8 (by simp)
                  rw [if_pos (by simp [Rs.wantB, e1])]
                  refine Rs.GrowL.call (f := 66) (args := #[.slice am M.length cm, .int .i64 p]) (by simp [go_sem, Rs.look, e7, e8]) ?_
                  refine (contains_rd _ M p w' (HRM.out.below hG)).mono ?_
                  rintro e w3 ⟨rfl, hB⟩
                  rw [hd9]
                  exact ⟨_, rfl, hB, rfl⟩
                · have e0 : V 0 = .bool true := hs 0 (by simp)
                  have e1 : V 1 = .bool true := hs 1 (by simp)
                  have e2 : V 2 = .int .i64 (N : Nat) := hs 2 (by simp)
                  have e3 : V 3 = (.agg #[.int .i64 t.wide, .slice (some ⟨pb, po, none⟩) t.plots.length pc]) := hs 3 (by simp)
                  have r4 := hs 4 (by simp)
                  have e5 : V 5 = .int .i64 H.length := hs 5 (by simp)
                  have e6 : V 6 = .bool dB := hs 6 (by simp)
                  have e7 : V 7 = (.slice am M.length cm) := hs 7 (by simp)
                  have e8 : V 8 = .int .i64 (p : Nat) := hs 8 (by simp)
                  have e9 : V 9 = .bool dB := hs 9 (by simp)
                  rw [if_pos (by simp [Rs.wantB, e1])]
                  exact Rs.GrowL.value (v := .bool true) (w' := w') (by simp [go_sem, Rs.look, e0, e1, e2, e3, e5, e6, e7, e8, e9]) (Rs.Gr.refl _) rfl
                · have e0 : V 0 = .bool true := hs 0 (by simp)
                  have e1 : V 1 = .bool true := hs 1 (by simp)
                  have e2 : V 2 = .int .i64 (N : Nat) := hs 2 (by simp)
                  have e3 : V 3 = (.agg #[.int .i64 t.wide, .slice (some ⟨pb, po, none⟩) t.plots.length pc]) := hs 3 (by simp)
                  have r4 := hs 4 (by simp)
                  have e5 : V 5 = .int .i64 H.length := hs 5 (by simp)
                  have e6 : V 6 = .bool dB := hs 6 (by simp)
                  have e7 : V 7 = (.slice am M.length cm) := hs 7 (by simp)
                  have e8 : V 8 = .int .i64 (p : Nat) := hs 8 (by simp)
                  have e9 : V 9 = .bool dB := hs 9 (by simp)
                  have e10 : V 10 = .bool true := hs 10 (by simp)
                  rw [if_pos (by rfl)]
                  exact Rs.GrowL.value (v := .bool true) (w' := w') (by simp [go_sem, Rs.look, e0, e1, e2, e3, e5, e6, e7, e8, e9, e10]) (Rs.Gr.refl _) rfl
                · have e0 : V 0 = .bool true := hs 0 (by simp)
                  have e1 : V 1 = .bool true := hs 1 (by simp)
                  have e2 : V 2 = .int .i64 (N : Nat) := hs 2 (by simp)
                  have e3 : V 3 = (.agg #[.int .i64 t.wide, .slice (some ⟨pb, po, none⟩) t.plots.length pc]) := hs 3 (by simp)
                  have r4 := hs 4 (by simp)
                  have e5 : V 5 = .int .i64 H.length := hs 5 (by simp)
                  have e6 : V 6 = .bool dB := hs 6 (by simp)
                  have e7 : V 7 = (.slice am M.length cm) := hs 7 (by simp)
                  have e8 : V 8 = .int .i64 (p : Nat) := hs 8 (by simp)
                  have e9 : V 9 = .bool dB := hs 9 (by simp)
                  have e10 : V 10 = .bool true := hs 10 (by simp)
                  have e11 : V 11 = .bool true := hs 11 (by simp)
                  rw [if_pos (by rfl)]
                  exact Rs.GrowL.value (v := .bool true) (w' := w') (by simp [go_sem, Rs.look, e0, e1, e2, e3, e5, e6, e7, e8, e9, e10, e11]) (Rs.Gr.refl _) rfl
                · have e0 : V 0 = .bool true := hs 0 (by simp)
                  have e1 : V 1 = .bool true := hs 1 (by simp)
                  have e2 : V 2 = .int .i64 (N : Nat) := hs 2 (by simp)
                  have e3 : V 3 = (.agg #[.int .i64 t.wide, .slice (some ⟨pb, po, none⟩) t.plots.length pc]) := hs 3 (by simp)
                  have r4 := hs 4 (by simp)
                  have e5 : V 5 = .int .i64 H.length := hs 5 (by simp)
                  have e6 : V 6 = .bool dB := hs 6 (by simp)
                  have e7 : V 7 = (.slice am M.length cm) := hs 7 (by simp)
                  have e8 : V 8 = .int .i64 (p : Nat) := hs 8 (by simp)
                  have e9 : V 9 = .bool dB := hs 9 (by simp)
                  have e10 : V 10 = .bool true := hs 10 (by simp)
                  have e11 : V 11 = .bool true := hs 11 (by simp)
                  have e12 : V 12 = .bool true := hs 12 (by simp)
                  rw [if_pos (by simp [Rs.wantB, e12])]
                  refine Rs.GrowL.call (f := 16) (args := #[]) (by simp [go_sem, Rs.look]) ?_
                  refine (awake_any w').mono ?_
                  rintro e w3 ⟨rfl, hB⟩
                  exact ⟨_, rfl, hB, rfl⟩
                · have e0 : V 0 = .bool true := hs 0 (by simp)
                  have e1 : V 1 = .bool true := hs 1 (by simp)
                  have e2 : V 2 = .int .i64 (N : Nat) := hs 2 (by simp)
                  have e3 : V 3 = (.agg #[.int .i64 t.wide, .slice (some ⟨pb, po, none⟩) t.plots.length pc]) := hs 3 (by simp)
                  have r4 := hs 4 (by simp)
                  have e5 : V 5 = .int .i64 H.length := hs 5 (by simp)
                  have e6 : V 6 = .bool dB := hs 6 (by simp)
                  have e7 : V 7 = (.slice am M.length cm) := hs 7 (by simp)
                  have e8 : V 8 = .int .i64 (p : Nat) := hs 8 (by simp)
                  have e9 : V 9 = .bool dB := hs 9 (by simp)
                  have e10 : V 10 = .bool true := hs 10 (by simp)
                  have e11 : V 11 = .bool true := hs 11 (by simp)
                  have e12 : V 12 = .bool true := hs 12 (by simp)
                  have e13 : V 13 = .bool true := hs 13 (by simp)
                  rw [if_pos (by rfl)]
                  exact Rs.GrowL.value (v := .bool true) (w' := w') (by simp [go_sem, Rs.look, e0, e1, e2, e3, e5, e6, e7, e8, e9, e10, e11, e12, e13]) (Rs.Gr.refl _) rfl
                · have e0 : V 0 = .bool true := hs 0 (by simp)
                  have e1 : V 1 = .bool true := hs 1 (by simp)
                  have e2 : V 2 = .int .i64 (N : Nat) := hs 2 (by simp)
                  have e3 : V 3 = (.agg #[.int .i64 t.wide, .slice (some ⟨pb, po, none⟩) t.plots.length pc]) := hs 3 (by simp)
                  have r4 := hs 4 (by simp)
                  have e5 : V 5 = .int .i64 H.length := hs 5 (by simp)
                  have e6 : V 6 = .bool dB := hs 6 (by simp)
                  have e7 : V 7 = (.slice am M.length cm) := hs 7 (by simp)
                  have e8 : V 8 = .int .i64 (p : Nat) := hs 8 (by simp)
                  have e9 : V 9 = .bool dB := hs 9 (by simp)
                  have e10 : V 10 = .bool true := hs 10 (by simp)
                  have e11 : V 11 = .bool true := hs 11 (by simp)
                  have e12 : V 12 = .bool true := hs 12 (by simp)
                  have e13 : V 13 = .bool true := hs 13 (by simp)
                  have e14 : V 14 = .bool true := hs 14 (by simp)
                  rw [if_pos (by rfl)]
                  exact Rs.GrowL.value (v := .bool true) (w' := w') (by simp [go_sem, Rs.look, e0, e1, e2, e3, e5, e6, e7, e8, e9, e10, e11, e12, e13, e14]) (Rs.Gr.refl _) rfl
              · intro V w' hG hs
                have e0 : V 0 = .bool true := hs 0 (by omega)
                have e1 : V 1 = .bool true := hs 1 (by omega)
                have e2 : V 2 = .int .i64 (N : Nat) := hs 2 (by omega)
                have e3 : V 3 = (.agg #[.int .i64 t.wide, .slice (some ⟨pb, po, none⟩) t.plots.length pc]) := hs 3 (by omega)
                have r4 := hs 4 (by omega)
                have e5 : V 5 = .int .i64 H.length := hs 5 (by omega)
                have e6 : V 6 = .bool dB := hs 6 (by omega)
                have e7 : V 7 = (.slice am M.length cm) := hs 7 (by omega)
                have e8 : V 8 = .int .i64 (p : Nat) := hs 8 (by omega)
                have e9 : V 9 = .bool dB := hs 9 (by omega)
                have e10 : V 10 = .bool true := hs 10 (by omega)
                have e11 : V 11 = .bool true := hs 11 (by omega)
                have e12 : V 12 = .bool true := hs 12 (by omega)
                have e13 : V 13 = .bool true := hs 13 (by omega)
                have e14 : V 14 = .bool true := hs 14 (by omega)
                have e15 : V 15 = .bool true := hs 15 (by omega)
                simp only [Rs.canon, Rs.dstOf, List.range_succ, List.range_zero, List.nil_append, List.cons_append, List.foldl_cons, List.foldl_nil, List.drop_succ_cons, List.drop_zero, List.drop_nil, List.getElem?_toArray, List.getElem?_cons_succ, List.getElem?_cons_zero, Option.bind_some, Act.put, List.getD_cons_succ, List.getD_cons_zero, List.setIfInBounds_toArray, List.set_cons_succ, List.set_cons_zero]
                rw [e0, e1, e2, e3, e5, e6, e7, e8, e9, e10, e11, e12, e13, e14, e15]
                generalize V 4 = y4
                go_wp2_with fail
                go_ret
                exact ⟨rfl, (HHe.out.below hG).bel⟩
          · have hD0 : D ≠ [] := fun e => by have := HDD.out.2 e; omega
            have d1 : (E == 0) = false := by rw [hE6]; rfl
            have d1' : (E != 0) = true := by rw [hE6]; rfl
            have d6 : (E == 6) = true := by rw [hE6]; rfl
            have hDl : ((D.length : Int) == 0) = false := by have := List.length_pos_iff.2 hD0; simp; omega
            clear hE6 hD0
            go_wp2_with fail
            refine (awake_any _).mono ?_
            rintro e w11 ⟨rfl, hB⟩
            have HBE := Lib.hid (HHd.out.below hB).bel
            clear hB
            go_wp2_with fail
            go_ret
            exact ⟨rfl, HBE.out⟩
end Go.Proofs.Ytimedmkpenbmkaa

/- What came in, as what the contracts ask for: helpers of the lifted theorems. -/
namespace Go.Proofs.Ytimedmkpenbmkaa
open Go.ChangeShapes Go.WideShapes Go.ChangeAt Go.RowKit Go.Joins
set_option linter.unusedVariables false
set_option linter.unusedSimpArgs false

theorem Try.own : ownKnob Try.prog.godebug = none := by kernel_rfl
theorem Try.laidOut : laidOutB Try.prog = true := by kernel_rfl

theorem cells24 : Try.prog.cellsOf 24 = 2 := by kernel_rfl
theorem cells27 : Try.prog.cellsOf 27 = 2 := by kernel_rfl
theorem cells102 : Try.prog.cellsOf 102 = 1 := by kernel_rfl
theorem cells3 : Try.prog.cellsOf 3 = 1 := by kernel_rfl
section
variable {H : Type} {enc : TypeId × Value → H} {W : World} {base : Nat} {spare : Nat → Bool} {held : Bool}
set_option maxRecDepth 100000 in
/-- a slice of numbers that came in, as a list that is read -/
theorem rd_of_trod {t e : TypeId} (hsp : ∀ b, spare b = true) (ht : Try.prog.underlying t = some (.slice e)) (he : Try.prog.underlying e = some (.int .i64)) (hc : Try.prog.cellsOf e = 1) {fuel : Nat} {v : Value} {x : DataW H × List MemPlace}
    (h : DataW.trod enc Try.prog W base spare held fuel t [v] = some x) : ∃ a cap, ∃ xs : List Int, v = .slice a xs.length cap ∧ RdI W v xs := by
  rcases open_ints ht he hc h with ⟨hcs, _⟩ | ⟨a, l, c, zs, hcs, _, hl, hm, hz, _, hcell, hwz⟩
  · injection hcs with hcs
    subst hcs
    exact ⟨none, 0, [], rfl, by simp, none, 0, rfl, fun h => absurd rfl h⟩
  · injection hcs with hcs
    subst hcs
    rw [hsp, if_pos rfl] at hz
    have hxl : (zs.take l).length = l := by rw [List.length_take]; omega
    have hm' : l ≤ 9223372036854775807 := by have : maxLen = 9223372036854775807 := rfl; omega
    refine ⟨some a, c, zs.take l, by rw [hxl], by omega, some a, c, by rw [hxl], fun hne => ?_⟩
    have hl0 : 0 < l := by
      rcases Nat.eq_zero_or_pos l with h0 | h0
      · subst h0; simp at hne
      · exact h0
    obtain ⟨b, off, rfl, hc⟩ := ints_at hcell (by omega)
    refine ⟨b, off, rfl, ?_, fun i hi => ?_⟩
    · have := hc 0 (by omega)
      rcases Nat.lt_or_ge b W.heap.size with h' | h'
      · exact h'
      · simp [World.cell?, Array.getElem?_eq_none h'] at this
    · have hi2 : i < l := by omega
      rw [hc i (by omega)]
      congr 2
      simp only [List.getD_eq_getElem?_getD, List.getElem?_take, hi2, if_true]

set_option maxRecDepth 100000 in
/-- a town that came in -/
theorem town_of_trod (hsp : ∀ b, spare b = true) {v : Value} {d : DataW H} {p : List MemPlace} {r : Reach} {b0 : Nat} (hv : Value.okWide Try.prog W r b0 24 v) (h : DataW.Trod enc Try.prog W base spare held 24 v d p) :
    ∃ wd a cap, ∃ xs : List Int, v = .agg #[.int .i64 wd, .slice a xs.length cap] ∧ RdI W (.slice a xs.length cap) xs := by
  obtain ⟨c0, c1, y0, y1, m, rfl, rfl, rfl, hy0, hy1⟩ := open_agg2 Try.underlying24 (by kernel_rfl) cells24 hv h
  obtain ⟨wd, e0, _, _⟩ := DataW.trod_int Try.underlying3 hy0
  obtain ⟨a, cap, xs, e1, hR⟩ := rd_of_trod hsp Try.underlying22 Try.underlying102 cells102 hy1
  simp at e0
  subst e0
  subst e1
  exact ⟨wd, a, cap, xs, rfl, hR⟩
set_option maxRecDepth 100000 in
/-- an air that came in -/
theorem air_of_trod {v : Value} {d : DataW H} {p : List MemPlace} {r : Reach} {b0 : Nat} (hv : Value.okWide Try.prog W r b0 27 v) (h : DataW.Trod enc Try.prog W base spare held 27 v d p) :
    ∃ wind voice : Int, v = .agg #[.int .i64 wind, .int .i64 voice] := by
  obtain ⟨c0, c1, y0, y1, m, rfl, rfl, rfl, hy0, hy1⟩ := open_agg2 Try.underlying27 (by kernel_rfl) cells27 hv h
  obtain ⟨x, e0, _, _⟩ := DataW.trod_int Try.underlying25 hy0
  obtain ⟨y, e1, _, _⟩ := DataW.trod_int Try.underlying3 hy1
  simp at e0 e1
  subst e0
  subst e1
  exact ⟨x, y, rfl⟩
theorem lt_of_trod {t : TypeId} {v : Value} {d : DataW H} {p : List MemPlace} (h : DataW.Trod enc Try.prog W 0 spare held t v d p) : ∀ x ∈ p, x.block < W.heap.size := by obtain ⟨m, hm⟩ := h; exact DataW.trod_lt m _ _ _ hm
end

theorem cells5 : Try.prog.cellsOf 5 = 1 := by kernel_rfl
section
variable {H : Type} {enc : TypeId × Value → H} {W : World} {base : Nat} {spare : Nat → Bool} {held : Bool}
set_option maxRecDepth 100000 in
/-- bytes that came in -/
theorem rdB_of_trod {t e : TypeId} (hsp : ∀ b, spare b = true) (ht : Try.prog.underlying t = some (.slice e)) (he : Try.prog.underlying e = some (.int .u8)) (hc : Try.prog.cellsOf e = 1) {fuel : Nat} {v : Value} {x : DataW H × List MemPlace}
    (h : DataW.trod enc Try.prog W base spare held fuel t [v] = some x) : ∃ ma n mc, v = .slice ma n mc ∧ RdB W ma n := by
  rcases open_ints ht he hc h with ⟨hcs, _⟩ | ⟨a, l, c, zs, hcs, _, hl, hm, hz, _, hcell, hwz⟩
  · injection hcs with hcs
    subst hcs
    exact ⟨none, 0, 0, rfl, by omega, fun h => absurd rfl h, fun h => absurd rfl h⟩
  · injection hcs with hcs
    subst hcs
    rw [hsp, if_pos rfl] at hz
    have hm' : l ≤ 9223372036854775807 := by have : maxLen = 9223372036854775807 := rfl; omega
    have key : l ≠ 0 → ∃ b off, a = ⟨b, off, none⟩ ∧ b < W.heap.size ∧ ∀ i, i < l → ∃ x : Int, 0 ≤ x ∧ x ≤ 255 ∧ W.cell? ⟨b, off + i, none⟩ = some (.int .u8 x) := fun hn => by
      obtain ⟨b, off, rfl, hc⟩ := ints_at hcell (by omega)
      refine ⟨b, off, rfl, ?_, fun i hi => ?_⟩
      · have := hc 0 (by omega)
        rcases Nat.lt_or_ge b W.heap.size with h' | h'
        · exact h'
        · simp [World.cell?, Array.getElem?_eq_none h'] at this
      · have hw : (Lit.int .u8 (zs.getD i 0)).wf = true := by
          have hi2 : i < zs.length := by omega
          rw [List.getD_eq_getElem?_getD, List.getElem?_eq_getElem hi2]
          exact hwz _ (List.getElem_mem hi2)
        have := bounds_u8 hw
        exact ⟨_, this.1, this.2, hc i (by omega)⟩
    refine ⟨some a, l, c, rfl, hm', fun hn mb mo e => ?_, fun hn => ?_⟩
    · obtain ⟨b, off, e2, h1, _⟩ := key hn
      rw [e2] at e
      injection e with e
      injection e with e
      omega
    · obtain ⟨b, off, e2, h1, h2⟩ := key hn
      exact ⟨b, off, by rw [e2], h1, h2⟩
end

end Go.Proofs.Ytimedmkpenbmkaa

namespace Go.Proofs.Ytimedmkpenbmkaa
open Go.ChangeShapes Go.WideShapes Go.ChangeAt Go.RowKit Go.Joins
set_option linter.unusedVariables false
set_option linter.unusedSimpArgs false

set_option maxHeartbeats 1000000 in
set_option maxRecDepth 100000 in
theorem HearWalled_lifted (os : Os) (started : os.Started) (H : Type) (enc : TypeId × Value → H) :
    ReturnsInHanded {} Try.checked os 12 .any (Rows.hearWalledSpec.pre6 enc Try.prog Try.f12 Rows.hearWalledRow.domain false) (Rows.hearWalledSpec.post enc Try.prog Try.f12 false true false false) := by
  refine returnsInHanded_of_change (C := Try.checked) Try.own started (by kernel_rfl) Try.func12
    (ChangeSpec.witness6 (enc := enc) (C := Try.checked) false ⟨#[], #[.slice none 0 0, .int .u8 0], []⟩ 8 (by kernel_rfl) (by kernel_rfl) (by kernel_rfl) (by kernel_rfl)) ?_
  intro W base args ds gs before hval0 hW hcnd _
  have hval : ∀ (j : Nat) t v, Try.f12.params[j]? = some t → args[j]? = some v → Value.okWide Try.prog W .any base t v := hval0
  have hW' := hW
  obtain ⟨p, q, hA0, hV, rfl, hfz, hnd⟩ := hW
  have hA : DataW.TrodAll enc Try.prog W 0 (fun _ => true) true Try.f12.params.toList args.toList ds p := hA0
  rw [Try.params12] at hA hval
  obtain ⟨v0, vs0, d0, ds0, p0, q0, hargs, rfl, rfl, h0, r0⟩ := trodAll_cons hA
  obtain ⟨v1, vs1, d1, ds1, p1, q1, rfl, rfl, rfl, h1, r1⟩ := trodAll_cons r0
  obtain ⟨rfl, rfl, rfl⟩ := trodAll_nil r1
  obtain rfl : args = #[v0, v1] := by cases args; simp_all
  obtain ⟨rfl, rfl⟩ := trodVars_none hV
  have lt0 := lt_of_trod h0
  have k0 := h0
  obtain ⟨m0, hm0⟩ := h0
  obtain ⟨x0, x1, x2, rfl⟩ := okWide_slice Try.underlying84 (hval 0 84 v0 rfl rfl)
  obtain ⟨ma, n, mc, e0, hM⟩ := rdB_of_trod (fun _ => rfl) Try.underlying84 Try.underlying5 cells5 hm0
  obtain ⟨wh, rfl, rfl, rfl, w1⟩ := open_int Try.underlying5 (hval 1 5 v1 rfl rfl) h1
  have hwb := bounds_u8 w1
  clear hA0 hval0
  injection e0 with q1 q2 q3
  subst q1 q2 q3
  refine (HearWalled_any _ _ _ wh hwb.1 (by omega) W hM).mono fun e W' ⟨he, bel⟩ => ?_
  subst he
  exact ⟨_, rfl, _, _, _, [], _, [], hW', trodAll_mk1 (shut_bool Try.underlying4 _), (trodAll_cons_mk (Below.trod Try.laidOut (by kernel_rfl) (of_decide_eq_true (by kernel_rfl)) k0 bel lt0) (trodAll_cons_mk (shut_int Try.underlying5 w1) trodAll_mk0)), rfl, bel.frame _, fun h => by cases h⟩

theorem HearWalled_holds : Rows.HearWalledSaid :=
  OpenClaim.holds_of_wide 12 Try.f12 rfl rfl rfl rfl rfl rfl rfl ⟨rfl, rfl, rfl, rfl, rfl⟩ rfl rfl rfl rfl rfl (by kernel_rfl) Try.func12 (by kernel_rfl)
    (of_decide_eq_true (by kernel_rfl)) (by unfold Func.isWrapper; first | (rw [if_pos (by decide +kernel)]; kernel_rfl) | (rw [if_neg (by decide +kernel)]; exact ⟨rfl, rfl⟩))
    (fun os started H enc _ => HearWalled_lifted os started H enc)
end Go.Proofs.Ytimedmkpenbmkaa
