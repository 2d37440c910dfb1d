import Derived.Test.YtimedmkpenbmkaaGreatB4
namespace Go.Proofs.YtimedmkpenbmkaaGreat
open Go.RowKit Go.Shelf
set_option linter.unusedSimpArgs false
set_option linter.unusedVariables false

theorem wpList_look {P : Program} {ops : Array Oper} {rest : List Oper} {o : Oper} {a : Act} {w : World} {Q : Exit → Act → World → Prop} (hgd : o.guard = none) (t : TypeId) (m x : Operand) (b : Bool) (ho : o.op = .lookup t m x b) (u v r : Value)
    (hm : a.eval m = u) (hx : a.eval x = v) (hr : (Instr.lookup t u v b).run P w = .ok r w) (h : wpList P ops Q rest (a.put o.dst r) w) : wpList P ops Q (o :: rest) a w :=
  wpList_plain hgd fun K hK => by
    unfold Oper.wp execOp
    simp only [ho, hm, hx, Sem.run_bind, hr, Result.andThen_ok, Sem.run_pure]
    exact hK _ _ h
theorem wpList_upd {P : Program} {ops : Array Oper} {rest : List Oper} {o : Oper} {a : Act} {w w' : World} {Q : Exit → Act → World → Prop} (hgd : o.guard = none) (t : TypeId) (m x y : Operand) (ho : o.op = .mapUpdate t m x y) (u v z : Value)
    (hm : a.eval m = u) (hx : a.eval x = v) (hy : a.eval y = z) (hr : (Instr.mapUpdate t u v z).run P w = .ok () w') (h : wpList P ops Q rest (a.put o.dst undef) w') : wpList P ops Q (o :: rest) a w :=
  wpList_plain hgd fun K hK => by
    unfold Oper.wp execOp
    simp only [ho, hm, hx, hy, Sem.run_bind, hr, Result.andThen_ok, Sem.run_pure]
    exact hK _ _ h
theorem wpList_store_new2 {P : Program} {ops : Array Oper} {rest : List Oper} {op : Oper} {a : Act} {w : World} {Q : Exit → Act → World → Prop} (hgd : op.guard = none) (ty : TypeId) (x y : Operand) (ho : op.op = .store ty x y) (b : Nat)
    (c c' : Array Value) (hx : a.eval x = .pointer (some ⟨b, 0, none⟩)) (hb : b = w.heap.size) (hy : a.eval y = .agg c')
    (hi : (P.info? ty).map (·.size) = some c'.size) (hs : c.size = c'.size) (h1 : c'.all (·.oneCell') = true)
    (h : wpList P ops Q rest (a.put op.dst undef) (w.alloc (.cells c' ty))) : wpList P ops Q (op :: rest) a (w.alloc (.cells c ty)) := by
  subst hb
  exact wpList_store_new hgd ty x y ho c c' hx hy hi hs h1 h
def z11 : Array Value := #[.int .i64 0, .int .i64 0, .int .i64 0, .int .i64 0, .int .i64 0, .int .i64 0, .int .i64 0, .int .i64 0, .int .i64 0, .int .i64 0, .int .i64 0]
theorem z11_eq : Array.replicate 11 (.int .i64 0) = z11 := rfl
theorem numV_z : numV (fun _ => 0) = z11 := by rw [numV_zero, z11_eq]

theorem upto_ne (N : Int) {s k : Nat} (hs : s ≠ k) : (if s < k + 1 then N else 0) = if s < k then N else 0 := by
  by_cases h : s < k
  · rw [if_pos h, if_pos (by omega)]
  · rw [if_neg h, if_neg (by omega)]
/-- the inner loop is at k -/
def bumpAt (best thn : List Int) (k i : Nat) : Int := if 0 < i ∧ i < k then max (best.getD i 0) (thn.getD (i - 1) 0) else best.getD i 0
theorem bumpAt_one (best thn : List Int) : numV (bumpAt best thn 1) = numV fun i => best.getD i 0 := numV_congr fun i _ => by unfold bumpAt; rw [if_neg (by omega)]
theorem bumpAt_end {best thn : List Int} (h : best.length = 11) (h2 : thn.length = 11) : numV (bumpAt best thn 11) = numV fun i => (bump best thn).getD i 0 := numV_congr fun i hi => by
  rw [bump_get h h2 hi]
  unfold bumpAt
  by_cases h0 : i = 0
  · rw [if_pos h0, if_neg (by omega), h0]
  · rw [if_neg h0, if_pos (by omega)]
theorem bumpAt_set (best thn : List Int) {k : Nat} (h0 : 0 < k) (hk : k < 11) : (numV (bumpAt best thn k)).setIfInBounds k (.int .i64 (max (best.getD k 0) (thn.getD (k - 1) 0))) = numV (bumpAt best thn (k + 1)) := by
  refine numV_set hk (by unfold bumpAt; rw [if_pos (by omega)]) (fun s _ hs => ?_)
  unfold bumpAt
  by_cases h : 0 < s ∧ s < k
  · rw [if_pos h, if_pos (by omega)]
  · rw [if_neg h, if_neg (by omega)]

theorem max_if (a b : Int) : (if b > a then b else a) = max a b := by omega

/-- what a call of the memo is good for -/
def MemoCall (KB AB SB MB r : Nat) (ob : Option Addr) (cap : Nat) (cs : List Crowd) (set : Nat) : Prop :=
  ∀ W, Memo W KB AB SB MB r ob cap cs → Calls Tryz.prog 139 #[.int .i64 set, .pointer (some ⟨KB, 0, none⟩), .pointer (some ⟨AB, 0, none⟩), .pointer (some ⟨SB, 0, none⟩), .pointer (some ⟨MB, 0, none⟩)] W fun e w' =>
    e = .returned (.agg (mstV cs set)) ∧ Memo w' KB AB SB MB r ob cap cs ∧ W.grownBy w' (some r)

set_option maxHeartbeats 2000000 in
set_option maxRecDepth 100000 in
theorem memo_step (KB AB SB MB r : Nat) (ob : Option Addr) (cap : Nat) (cs : List Crowd) (hok : CrOk cs) (set : Nat) (hset : set < 2 ^ 30) (ih : ∀ m ∈ srvs cs, set ||| m ≠ set → MemoCall KB AB SB MB r ob cap cs (set ||| m)) : MemoCall KB AB SB MB r ob cap cs set := by
  intro w hM
  have HM := Lib.hid hM
  have HIH := Lib.hid ih
  have HOK := Lib.hid hok
  have HSET := Lib.hid hset
  obtain ⟨l1, l2, l3, l4, l5⟩ := hM.lt
  have hM1 := hM.below (below1 w (.cells z11 165))
  obtain ⟨es, c, hmp, hge⟩ := hM1.mp
  have hlook := look_memo hmp hge set
  rw [z11_eq] at hlook
  have c1 : w.cell? ⟨KB, 0, none⟩ = some (.map (some r)) := by rw [cell_of_row _ _ _ _ _ _ hM.kb]; rfl
  have c2 : w.cell? ⟨AB, 0, none⟩ = some (.slice ob cs.length cap) := by rw [cell_of_row _ _ _ _ _ _ hM.ab]; rfl
  have c4 : w.cell? ⟨MB, 0, none⟩ = some (.func (.func 139) #[] #[.pointer (some ⟨KB, 0, none⟩), .pointer (some ⟨AB, 0, none⟩), .pointer (some ⟨SB, 0, none⟩), .pointer (some ⟨MB, 0, none⟩)]) := by rw [cell_of_row _ _ _ _ _ _ hM.mb]; rfl
  have C2 := Lib.hid c2
  have C4 := Lib.hid c4
  clear ih hok hset hM hM1 hmp hge es c c2 c4
  rcases hlook with hlook | hlook
  · obtain ⟨A, hA⟩ : ∃ A, A = mstV cs set := ⟨_, rfl⟩
    rw [← hA] at hlook ⊢
    have hAsz : A.size = 11 := by rw [hA]; exact numV_size _
    have hone : A.all (·.oneCell') = true := by rw [hA]; exact numV_one _
    have hi := size176
    rw [← hAsz] at hi
    have hrow : ((w.alloc (.cells z11 165)).alloc (.cells A 165)).heap[w.heap.size + 1]? = some (.cells A 165 (0, 0)) := by
      have := heap_alloc_last (w.alloc (.cells z11 165)) (.cells A 165); simpa using this
    have hres : ((w.alloc (.cells z11 165)).alloc (.cells A 165)).heap[w.heap.size]? = some (.cells z11 165 (0, 0)) := by
      rw [Below.heap_alloc _ _ _ (by simp)]; exact heap_alloc_last _ _
    have hthere : ((w.alloc (.cells z11 165)).alloc (.cells A 165)).there w.heap.size 0 A.size := fun j hj => by
      rw [Nat.zero_add, cell_of_row _ _ _ _ _ _ hres, frozen_of_row _ _ _ _ _ hres]
      exact ⟨by simp; show j < 11; omega, rfl⟩
    have HROW := Lib.hid hrow
    have HRES := Lib.hid hres
    have HI := Lib.hid hi
    have HTH := Lib.hid hthere
    have HON := Lib.hid hone
    have HSZ := Lib.hid hAsz
    have HLK := Lib.hid hlook
    clear hA hAsz hone hi hrow hres hthere hlook
    unfold z11 at HLK HROW HRES HTH
    go_enter Tryz.func139, Tryz.ntmps139
    go_wp2_with (first
      | (with_reducible refine wpList_look rfl 182 _ _ true rfl (.map (some r)) (.int .i64 set) _ rfl rfl HLK.out ?_)
      | (with_reducible refine wpList_store_new2 rfl 165 _ _ rfl (w.heap.size + 1) _ A rfl ?hb rfl HI.out ?hs HON.out ?_)
      | (with_reducible refine wpList_load_row rfl 165 _ rfl (w.heap.size + 1) rfl 165 A (0, 0) _ HROW.out und176 rfl HI.out ?_)
      | (with_reducible refine wpList_store_mid rfl 165 _ _ rfl w.heap.size 0 A rfl rfl HTH.out HI.out HON.out ?_))
    case hs => exact HSZ.out.symm
    case hb => simp
    have hh : (((w.alloc (.cells z11 165)).alloc (.cells A 165)).setCells w.heap.size 0 A.toList).heap[w.heap.size]? = some (.cells A 165 (0, 0)) := by
      unfold z11
      rw [heap_setCells _ _ _ _ _ _ _ HRES.out, setFrom_all _ _ (by rw [Array.length_toList, HSZ.out]; rfl)]
    have hbel : Below w.heap.size w (((w.alloc (.cells z11 165)).alloc (.cells A 165)).setCells w.heap.size 0 A.toList) := below_setCells' (Nat.le_refl _) _ _ _ (al (al (Below.refl _ _) _) _)
    exact bodyPost_ret (results_cell_row rfl _ _ w.heap.size 165 A (0, 0) _ rfl hh und176 rfl HI.out) rfl ⟨rfl, HM.out.below hbel, grown_of_below hbel _⟩
  · obtain ⟨N, hN⟩ : ∃ N, N = mny cs set cs.length := ⟨_, rfl⟩
    have hNV : numV (fun i => if i < 0 then N else 0) = z11 := by rw [← numV_z]; exact numV_congr fun _ _ => rfl
    have HLK := Lib.hid hlook
    have HN := Lib.hid hN
    have HNV := Lib.hid hNV
    have hb0 : ∀ o1 o2, (((w.alloc o1).alloc o2).alloc (.cells z11 165)).heap[w.heap.size + 1 + 1]? = some (.cells z11 165 (0, 0)) := fun o1 o2 => by
      have := heap_alloc_last ((w.alloc o1).alloc o2) (.cells z11 165); simpa using this
    have hr0 : ∀ o2 o3, (((w.alloc (.cells z11 165)).alloc o2).alloc o3).heap[w.heap.size]? = some (.cells z11 165 (0, 0)) := fun o2 o3 => by
      rw [Below.heap_alloc _ _ _ (by simp; omega), Below.heap_alloc _ _ _ (by simp)]; exact heap_alloc_last _ _
    have hbl0 : ∀ o1 o2 o3, Below w.heap.size w (((w.alloc o1).alloc o2).alloc o3) := fun _ _ _ => al (al (al (Below.refl _ _) _) _) _
    have HB0 := Lib.hid hb0
    have HR0 := Lib.hid hr0
    have HBL0 := Lib.hid hbl0
    clear hlook hN hNV hb0 hr0 hbl0
    unfold z11 at HLK HB0 HR0 HNV
    go_enter Tryz.func139, Tryz.ntmps139
    go_wp2_with (with_reducible refine wpList_look rfl 182 _ _ true rfl (.map (some r)) (.int .i64 set) _ rfl rfl HLK.out ?_)
    go_loopg [10, 23] 11 (fun gk a i wr => ∃ k : Nat, gk + k = 11 ∧ i = .int .i64 k ∧ wr.heap[w.heap.size + 1 + 1]? = some (.cells (numV fun i => if i < k then N else 0) 165 (0, 0)) ∧ wr.heap[w.heap.size]? = some (.cells z11 165 (0, 0)) ∧ Below w.heap.size w wr)
    case atStart => exact ⟨0, by omega, rfl, by rw [HNV.out]; exact HB0.out _ _, HR0.out _ _, HBL0.out _ _ _⟩
    case round =>
      clear HB0 HR0 HBL0 HLK
      obtain ⟨k, hk, rfl, hrow, hres, hB⟩ := hrel
      have hslt : w.heap.size + 1 + 1 < wr.heap.size := (Array.getElem?_eq_some_iff.1 hrow).1
      have hMw := HM.out.below hB
      have HROW := Lib.hid hrow
      have HRES := Lib.hid hres
      have HB := Lib.hid hB
      have hcr := hMw.cr
      have HCR := Lib.hid hcr
      have c2 : wr.cell? ⟨AB, 0, none⟩ = some (.slice ob cs.length cap) := by rw [cell_of_row _ _ _ _ _ _ hMw.ab]; rfl
      have hsb := hMw.sb
      have HSB := Lib.hid hsb
      clear hrow hres hB hMw hcr hsb
      by_cases hlt : k < 11
      · have hlt' : (k : Int) < 11 := by omega
        go_wp2_with fail
        refine (many_any ob cap cs HOK.out set (by have := HSET.out; omega) wr HCR.out).mono ?_
        rintro e w5 ⟨rfl, hB5⟩
        have hrow5 := (hB5.block _ hslt).trans HROW.out
        have hcell : w5.cell? ⟨w.heap.size + 1 + 1, k, none⟩ = some (.int .i64 (if k < k then N else 0)) := by rw [cell_of_row _ _ _ _ _ _ hrow5, numV_get _ hlt]
        have hfz := frozen_of_row w5 (w.heap.size + 1 + 1) k _ 165 hrow5
        have hs5 : w.heap.size + 1 + 1 < w5.heap.size := (Array.getElem?_eq_some_iff.1 hrow5).1
        have HR5 := Lib.hid hrow5
        have HB5 := Lib.hid hB5
        have HNN := Lib.hid HN.out.symm
        rw [HN.out.symm]
        clear hrow5 hB5
        go_wp2
        go_roundg (gk - 1)
        case rel =>
          refine ⟨k + 1, by omega, by simp, ?_, ?_, setc (join HB.out HB5.out) (by show w.heap.size ≤ w.heap.size + 1 + 1; omega)⟩
          · rw [heap_set_same _ HR5.out, numV_set (g := fun i => if i < k + 1 then N else 0) hlt (by simp) (fun s _ hs => upto_ne N hs)]
          · rw [Below.heap_setCell _ _ _ _ (by show w.heap.size ≠ w.heap.size + 1 + 1; omega), HB5.out.block _ (by omega)]; exact HRES.out
        case measure => omega
      · have hkk : k = 11 := by omega
        subst hkk
        obtain ⟨V, hV⟩ : ∃ V, V = setV fun s => srv cs s cs.length := ⟨_, rfl⟩
        rw [← hV] at HSB
        have hVsz : (Tryz.prog.info? 160).map (·.size) = some V.size := by rw [hV, setV_size]; exact size171
        have hrow := HROW.out
        rw [numV_congr (g := fun i => (((srvs cs).take 0).foldl (stepM cs set) (List.replicate 11 N)).getD i 0) (fun s hs => by rw [if_pos hs, List.take_zero, List.foldl_nil, getD_rep _ hs])] at hrow
        have HROW2 := Lib.hid hrow
        have HV := Lib.hid hV
        have HVS := Lib.hid hVsz
        have hMw := HM.out.below HB.out
        have HMW := Lib.hid hMw
        clear hrow hV hVsz hMw HROW
        go_wp2_with (with_reducible refine wpList_load_row rfl 160 _ rfl SB rfl 160 V (0, 0) _ HSB.out und171 rfl HVS.out ?_)
        go_loopg [12, 13, 14, 33] 30 (fun gk a b c i wr => ∃ j : Nat, gk + j = 30 ∧ i = .int .i64 j ∧ wr.heap[w.heap.size + 1 + 1]? = some (.cells (numV fun i => (((srvs cs).take j).foldl (stepM cs set) (List.replicate 11 N)).getD i 0) 165 (0, 0)) ∧ wr.heap[w.heap.size]? = some (.cells z11 165 (0, 0)) ∧ Memo wr KB AB SB MB r ob cap cs ∧ w.grownBy wr (some r))
        case atStart => exact ⟨0, by omega, rfl, HROW2.out, HRES.out, HMW.out, grown_of_below HB.out _⟩
        case round =>
          clear HROW2 HRES HMW HB HCR HSB HVS
          obtain ⟨wo, rfl⟩ : ∃ wo : World, wo = wr := ⟨_, rfl⟩
          obtain ⟨go, rfl⟩ : ∃ x : Nat, x = gk := ⟨_, rfl⟩
          obtain ⟨j, hj, rfl, hrow, hres, hMw, hgr⟩ := hrel
          obtain ⟨best, hbest⟩ : ∃ best, best = ((srvs cs).take j).foldl (stepM cs set) (List.replicate 11 N) := ⟨_, rfl⟩
          rw [← hbest] at hrow
          have hslt : w.heap.size + 1 + 1 < wo.heap.size := (Array.getElem?_eq_some_iff.1 hrow).1
          have hbl : best.length = 11 := by rw [hbest]; exact foldM_len _ _ _ _ (by simp)
          have HBL := Lib.hid hbl
          have HBEST := Lib.hid hbest
          have HROW := Lib.hid hrow
          have HRES := Lib.hid hres
          have HMW := Lib.hid hMw
          have HGR := Lib.hid hgr
          have c4 : wo.cell? ⟨MB, 0, none⟩ = some (.func (.func 139) #[] #[.pointer (some ⟨KB, 0, none⟩), .pointer (some ⟨AB, 0, none⟩), .pointer (some ⟨SB, 0, none⟩), .pointer (some ⟨MB, 0, none⟩)]) := by rw [cell_of_row _ _ _ _ _ _ hMw.mb]; rfl
          clear hrow hres hMw hgr hbl hbest c2
          by_cases hjl : j < 30
          · obtain ⟨m, hm⟩ : ∃ m, m = srv cs j cs.length := ⟨_, rfl⟩
            have hjl' : (j : Int) < 30 := by omega
            have hVj : V[j]? = some (.int .i64 (m : Nat)) := by rw [HV.out, setV_get _ hjl, hm]
            have hidx := fun W => idx_arr und171 agg3 siz3 hjl hVj W
            have hsj : (srvs cs)[j]? = some m := by unfold srvs; rw [hm]; simp [hjl]
            have hmem : m ∈ srvs cs := List.mem_of_getElem? hsj
            have hm30 : m < 2 ^ 30 := Nat.lt_of_lt_of_le (srvs_lt cs m hmem) (Nat.pow_le_pow_right (by omega) HOK.out.len)
            have htk : ((srvs cs).take (j + 1)).foldl (stepM cs set) (List.replicate 11 N) = stepM cs set best m := by
              rw [List.take_add_one, hsj, Option.toList_some, List.foldl_append, ← HBEST.out]; rfl
            have HTK := Lib.hid htk
            have HMEM := Lib.hid hmem
            obtain ⟨x, hx⟩ : ∃ x, x = set ||| m := ⟨_, rfl⟩
            have hrun : ∀ W, (binOp .or 3 (.int .i64 set) (.int .i64 m)).run Tryz.prog W = .ok (.int .i64 x) W := fun W => by rw [hx]; exact run_or (by have := HSET.out; omega) (by omega) 3 W
            have hx30 : x < 2 ^ 30 := by rw [hx]; exact Nat.or_lt_two_pow HSET.out hm30
            have HRUN := Lib.hid hrun
            have HX := Lib.hid hx
            clear hm hVj hsj hmem hm30 htk hrun hx
            by_cases hq : x = set
            · have hstep : stepM cs set best m = best := by unfold stepM; rw [if_pos (by rw [← HX.out]; exact hq)]
              have HST := Lib.hid hstep
              subst hq
              clear hstep
              go_wp2_with (with_reducible refine wpList_bin rfl .or 3 3 _ _ rfl (.int .i64 x) (.int .i64 m) _ rfl rfl rfl (HRUN.out _) ?_)
              go_roundg (go - 1)
              case rel => exact ⟨j + 1, by omega, by simp, by rw [HTK.out, HST.out]; exact HROW.out, HRES.out, HMW.out, HGR.out⟩
              case measure => omega
            · have hstep : stepM cs set best m = bump best (mstL cs x) := by unfold stepM; rw [if_neg (by rw [← HX.out]; exact hq), ← HX.out]
              have HST := Lib.hid hstep
              have hne : ((x : Int) == (set : Int)) = false := by simp; omega
              have hC := HIH.out m HMEM.out (by rw [← HX.out]; exact hq)
              rw [← HX.out] at hC
              have HC := Lib.hid hC
              have HQ := Lib.hid hq
              clear hstep hC hq
              go_wp2_with (with_reducible refine wpList_bin rfl .or 3 3 _ _ rfl (.int .i64 set) (.int .i64 m) _ rfl rfl rfl (HRUN.out _) ?_)
              refine (HC.out wo HMW.out).mono ?_
              rintro e w5 ⟨rfl, hM5, hg5⟩
              have hz5 := hg5.size
              have hrow5 := (hg5.block _ hslt (fun e => by injection e; omega)).trans HROW.out
              have hres5 := (hg5.block w.heap.size (by omega) (fun e => by injection e; omega)).trans HRES.out
              have hg5' := grown_trans HGR.out hg5
              obtain ⟨thn, hthn⟩ : ∃ thn, thn = mstL cs x := ⟨_, rfl⟩
              obtain ⟨T, hT⟩ : ∃ T, T = numV fun i => thn.getD i 0 := ⟨_, rfl⟩
              have hTV : mstV cs x = T := by rw [hT, hthn]; rfl
              rw [hTV]
              have hTsz : T.size = 11 := by rw [hT]; exact numV_size _
              have hone : T.all (·.oneCell') = true := by rw [hT]; exact numV_one _
              have hi := size176
              rw [← hTsz] at hi
              have htl : thn.length = 11 := by rw [hthn]; exact mst_len _ _ _
              have HTL := Lib.hid htl
              have HTHN := Lib.hid hthn
              have HT := Lib.hid hT
              have HTS := Lib.hid hTsz
              have HON := Lib.hid hone
              have HI := Lib.hid hi
              have HM5 := Lib.hid hM5
              have HG5 := Lib.hid hg5'
              have hrow6 := (below1 w5 (.cells T 165)).block _ (show w.heap.size + 1 + 1 < w5.heap.size by omega)
              rw [hrow5] at hrow6
              have hres6 := (below1 w5 (.cells T 165)).block w.heap.size (by omega)
              rw [hres5] at hres6
              have hthn6 : (w5.alloc (.cells T 165)).heap[w5.heap.size]? = some (.cells T 165 (0, 0)) := heap_alloc_last _ _
              have hbl6 : Below w.heap.size w5 (w5.alloc (.cells T 165)) := al2 (Below.refl _ _) (by omega) _
              have HROW6 := Lib.hid hrow6
              have HRES6 := Lib.hid hres6
              have HTH6 := Lib.hid hthn6
              have HBL6 := Lib.hid hbl6
              clear hM5 hg5 hrow5 hres5 hg5' hTV hTsz hone hi htl hthn hT hrow6 hres6 hthn6 hbl6 HROW HRES
              go_wp2_with (with_reducible refine wpList_store_new rfl 165 _ _ rfl _ T rfl rfl HI.out ?hs HON.out ?_)
              case hs => exact HTS.out.symm
              go_loopg [14] 10 (fun gk2 i wi => ∃ k K : Nat, K = k + 1 ∧ gk2 + k = 10 ∧ i = .int .i64 K ∧ wi.heap[w.heap.size + 1 + 1]? = some (.cells (numV (bumpAt best thn K)) 165 (0, 0)) ∧ wi.heap[w.heap.size]? = some (.cells z11 165 (0, 0)) ∧ wi.heap[w5.heap.size]? = some (.cells T 165 (0, 0)) ∧ Below w.heap.size w5 wi)
              case atStart => exact ⟨0, 1, rfl, rfl, rfl, by rw [bumpAt_one]; exact HROW6.out, HRES6.out, HTH6.out, HBL6.out⟩
              case round =>
                clear HROW6 HRES6 HTH6 HBL6
                obtain ⟨k, K, hK, hgk, rfl, hrow, hres, hth, hB⟩ := hrel
                have HROW := Lib.hid hrow
                have HRES := Lib.hid hres
                have HTH := Lib.hid hth
                have HB := Lib.hid hB
                have hs1 : w.heap.size + 1 + 1 < wr.heap.size := (Array.getElem?_eq_some_iff.1 hrow).1
                have hs2 : w5.heap.size < wr.heap.size := (Array.getElem?_eq_some_iff.1 hth).1
                by_cases hkl : k < 10
                · have hKl : K < 11 := by omega
                  have hKl' : (K : Int) < 11 := by omega
                  have hKk : (K : Int) - 1 = k := by omega
                  have hk11 : k < 11 := by omega
                  have hk11' : (k : Int) < 11 := by omega
                  have hwk : IntKind.wrap .i64 (k : Int) = k := wrap_nat (by omega)
                  obtain ⟨u, hu⟩ : ∃ u, best.getD K 0 = u := ⟨_, rfl⟩
                  obtain ⟨v, hv⟩ : ∃ v, thn.getD k 0 = v := ⟨_, rfl⟩
                  have hc1 : wr.cell? ⟨w.heap.size + 1 + 1, K, none⟩ = some (.int .i64 u) := by
                    rw [cell_of_row _ _ _ _ _ _ hrow, numV_get _ hKl]; unfold bumpAt; rw [if_neg (by omega), hu]
                  have hc2 : wr.cell? ⟨w5.heap.size, k, none⟩ = some (.int .i64 v) := by
                    rw [cell_of_row _ _ _ _ _ _ hth, HT.out, numV_get _ hk11, hv]
                  have hset : (numV (bumpAt best thn K)).setIfInBounds K (.int .i64 (max u v)) = numV (bumpAt best thn (K + 1)) := by
                    rw [← bumpAt_set best thn (show 0 < K by omega) hKl, hu, show K - 1 = k by omega, hv]
                  have HC1 := Lib.hid hc1
                  have HC2 := Lib.hid hc2
                  have HSETQ := Lib.hid hset
                  have HKK := Lib.hid hK
                  clear hrow hres hth hB hu hv hc1 hc2 hset hK
                  go_wp2_with fail
                  refine Rs.region_det 10 [[], [], [1], [1, 2], [], [4], [4, 5], [4, 5, 6], [1, 2, 3, 4, 5, 6, 7], [0, 1, 2, 3, 4, 5, 6, 7, 8]] [some 50, some 51, some 52, some 53, some 54, some 55, some 56, some 57, some 58, some 59]
                    (fun i => [.int .i64 K, .int .i64 K, .pointer (some ⟨w.heap.size + 1 + 1, K, none⟩), .int .i64 u, .int .i64 K, .int .i64 k, .pointer (some ⟨w5.heap.size, k, none⟩), .int .i64 v, .int .i64 (max u v), .pointer (some ⟨w.heap.size + 1 + 1, K, none⟩)].getD i undef) (by kernel_rfl) (by kernel_rfl) rfl ?_ ?_
                  · refine ⟨.plain rfl ?_, .plain rfl ?_, .plain rfl ?_, .plain rfl ?_, .plain rfl ?_, .plain rfl ?_, .plain rfl ?_, .plain rfl ?_, .plain rfl ?_, .plain rfl ?_, trivial⟩
                    all_goals
                      intro w' hG
                      have hc1 := (hG.cell (p := ⟨w.heap.size + 1 + 1, K, none⟩) hs1).trans HC1.out
                      have hc2 := (hG.cell (p := ⟨w5.heap.size, k, none⟩) hs2).trans HC2.out
                      simp [go_sem, Rs.look, hKl, hKl', hk11, hk11', hKk, hwk, hc1, hc2, max_if, Builtin.max_, Builtin.max2]
                  · intro w' hG
                    simp only [Rs.canon, Rs.dstOf, List.range_succ, List.range_zero, List.nil_append, List.cons_append, List.foldl_cons, List.foldl_nil, List.drop_succ_cons, List.drop_zero, List.drop_nil, List.getElem?_toArray, List.getElem?_cons_succ, List.getElem?_cons_zero, Option.bind_some, Act.put, List.getD_cons_succ, List.getD_cons_zero, List.setIfInBounds_toArray, List.set_cons_succ, List.set_cons_zero]
                    have hzG := hG.size
                    have HG := Lib.hid hG
                    have hc1 := (hG.cell (p := ⟨w.heap.size + 1 + 1, K, none⟩) hs1).trans HC1.out
                    have hf1 : w'.frozen? ⟨w.heap.size + 1 + 1, K, none⟩ = false := frozen_of_row _ _ _ _ _ ((HG.out.block _ hs1).trans HROW.out)
                    clear hG hKk hwk
                    go_wp2
                    go_roundg (gk - 1)
                    case rel =>
                      refine ⟨k + 1, K + 1, by have := HKK.out; omega, by omega, by simp, ?_, ?_, ?_, Below.setCell (HB.out.trans ((HG.out : Below _ _ _).mono (by omega))) (by show w.heap.size ≤ w.heap.size + 1 + 1; omega) _⟩
                      · rw [heap_set_same _ ((HG.out.block _ hs1).trans HROW.out), HSETQ.out]
                      · rw [Below.heap_setCell _ _ _ _ (by show w.heap.size ≠ w.heap.size + 1 + 1; omega), HG.out.block _ (by omega)]; exact HRES.out
                      · rw [Below.heap_setCell _ _ _ _ (by show w5.heap.size ≠ w.heap.size + 1 + 1; omega), HG.out.block _ (by omega)]; exact HTH.out
                    case measure => omega
                · have hkk : K = 11 := by omega
                  subst hkk
                  rw [bumpAt_end HBL.out HTL.out] at hrow
                  have HROW2 := Lib.hid hrow
                  clear hrow hres hth hB HROW
                  go_wp2
                  go_roundg (go - 1)
                  case rel =>
                    refine ⟨j + 1, by omega, by simp, by rw [HTK.out, HST.out, ← HTHN.out]; exact HROW2.out, HRES.out, HM5.out.belowB HB.out l1 l2 l3 l4 l5 (HM.out.obl), ?_⟩
                    exact ⟨HB.out.os.trans HG5.out.os, HB.out.tape.trans HG5.out.tape, HB.out.output.trans HG5.out.output, Nat.le_trans HG5.out.size HB.out.size, fun i hi hn => (HB.out.block i hi).trans (HG5.out.block i hi hn)⟩
                  case measure => omega
          · have hjj : j = 30 := by omega
            subst hjj
            have hfin : best = mstL cs set := by rw [HBEST.out, List.take_of_length_le (Nat.le_of_eq (srvs_len _)), HN.out, ← mstL_eq]
            obtain ⟨A, hA⟩ : ∃ A, A = mstV cs set := ⟨_, rfl⟩
            have hrow := HROW.out
            rw [hfin, show numV (fun i => (mstL cs set).getD i 0) = A from hA.symm] at hrow
            have hAsz : A.size = 11 := by rw [hA]; exact numV_size _
            have hone : A.all (·.oneCell') = true := by rw [hA]; exact numV_one _
            have hi := size176
            rw [← hAsz] at hi
            have c1' : wo.cell? ⟨KB, 0, none⟩ = some (.map (some r)) := by rw [cell_of_row _ _ _ _ _ _ HMW.out.kb]; rfl
            obtain ⟨es, c, hmp, hge⟩ := HMW.out.mp
            obtain ⟨es', c', hge', hupd⟩ := upd_memo hmp hge set
            obtain ⟨w2, hw2⟩ : ∃ w2 : World, w2 = { wo with heap := wo.heap.setIfInBounds r (.map es' c') } := ⟨_, rfl⟩
            rw [← hw2, ← hA] at hupd
            obtain ⟨hg2, hm2⟩ : wo.grownBy w2 (some r) ∧ w2.heap[r]? = some (.map es' c') := by rw [hw2]; exact grown_setmap hmp
            have hM2 := HMW.out.grown hg2 ⟨es', c', hm2, hge'⟩
            have hrow2 := (hg2.block _ hslt (fun e => by injection e; omega)).trans hrow
            have hres2 := (hg2.block w.heap.size (by omega) (fun e => by injection e; omega)).trans HRES.out
            have hthere : w2.there w.heap.size 0 A.size := fun j hj => by
              rw [Nat.zero_add, cell_of_row _ _ _ _ _ _ hres2, frozen_of_row _ _ _ _ _ hres2]
              exact ⟨by simp; show j < 11; omega, rfl⟩
            have HROW1 := Lib.hid hrow
            have HROW2 := Lib.hid hrow2
            have HRES2 := Lib.hid hres2
            have HI := Lib.hid hi
            have HTH := Lib.hid hthere
            have HON := Lib.hid hone
            have HSZ := Lib.hid hAsz
            have HUPD := Lib.hid hupd
            have HM2 := Lib.hid hM2
            have HG2 := Lib.hid (grown_trans HGR.out hg2)
            have HA := Lib.hid hA
            clear hfin hrow hAsz hone hi hmp hge hge' hupd hw2 hg2 hm2 hM2 hrow2 hres2 hthere hA HROW HRES
            go_wp2_with (first
              | (with_reducible refine wpList_load_row rfl 165 _ rfl (w.heap.size + 1 + 1) rfl 165 A (0, 0) _ HROW1.out und176 rfl HI.out ?_)
              | (with_reducible refine wpList_upd rfl 182 _ _ _ rfl (.map (some r)) (.int .i64 set) (.agg A) rfl rfl rfl HUPD.out ?_)
              | (with_reducible refine wpList_load_row rfl 165 _ rfl (w.heap.size + 1 + 1) rfl 165 A (0, 0) _ HROW2.out und176 rfl HI.out ?_)
              | (with_reducible refine wpList_store_mid rfl 165 _ _ rfl w.heap.size 0 A rfl rfl HTH.out HI.out HON.out ?_))
            have hh : (w2.setCells w.heap.size 0 A.toList).heap[w.heap.size]? = some (.cells A 165 (0, 0)) := by
              rw [heap_setCells _ _ _ _ _ _ _ HRES2.out, setFrom_all _ _ (by rw [Array.length_toList, HSZ.out]; rfl)]
            have hbel : Below w.heap.size w2 (w2.setCells w.heap.size 0 A.toList) := below_setCells' (Nat.le_refl _) _ _ _ (Below.refl _ _)
            try rw [Exit.noGoto_ret]
            refine bodyPost_ret (results_cell_row rfl _ _ w.heap.size 165 A (0, 0) _ rfl hh und176 rfl HI.out) rfl ⟨by rw [HA.out], HM2.out.belowB hbel l1 l2 l3 l4 l5 (HM.out.obl), ?_⟩
            exact ⟨hbel.os.trans HG2.out.os, hbel.tape.trans HG2.out.tape, hbel.output.trans HG2.out.output, Nat.le_trans HG2.out.size hbel.size, fun i hi hn => (hbel.block i hi).trans (HG2.out.block i hi hn)⟩

theorem memo_call (KB AB SB MB r : Nat) (ob : Option Addr) (cap : Nat) (cs : List Crowd) (hok : CrOk cs) : ∀ n set, missing cs set ≤ n → set < 2 ^ 30 → MemoCall KB AB SB MB r ob cap cs set := by
  intro n
  induction n with
  | zero =>
    intro set h0 hs
    refine memo_step KB AB SB MB r ob cap cs hok set hs fun m hm hne => ?_
    have := missing_lt (srvs_lt cs m hm) hne
    omega
  | succ n ih =>
    intro set h0 hs
    refine memo_step KB AB SB MB r ob cap cs hok set hs fun m hm hne => ?_
    have := missing_lt (srvs_lt cs m hm) hne
    exact ih _ (by omega) (Nat.or_lt_two_pow hs (Nat.lt_of_lt_of_le (srvs_lt cs m hm) (Nat.pow_le_pow_right (by omega) hok.len)))
theorem memo_any (KB AB SB MB r : Nat) (ob : Option Addr) (cap : Nat) (cs : List Crowd) (hok : CrOk cs) (set : Nat) (hs : set < 2 ^ 30) : MemoCall KB AB SB MB r ob cap cs set :=
  memo_call KB AB SB MB r ob cap cs hok _ set (Nat.le_refl _) hs
end Go.Proofs.YtimedmkpenbmkaaGreat

namespace Go.Proofs.YtimedmkpenbmkaaGreat
open Go.RowKit Go.Shelf
set_option linter.unusedSimpArgs false
set_option linter.unusedVariables false

def mostF (KB AB SB MB : Nat) : Value := .func (.func 139) #[] #[.pointer (some ⟨KB, 0, none⟩), .pointer (some ⟨AB, 0, none⟩), .pointer (some ⟨SB, 0, none⟩), .pointer (some ⟨MB, 0, none⟩)]

set_option maxHeartbeats 2000000 in
set_option maxRecDepth 100000 in
theorem mostServed_any (ob : Option Addr) (cap : Nat) (cs : List Crowd) (hok : CrOk cs) (w : World) (hI : CrIn w ob cs) :
    Calls Tryz.prog 117 #[.slice ob cs.length cap] w fun e w' => ∃ KB AB SB MB r, e = .returned (mostF KB AB SB MB) ∧ Memo w' KB AB SB MB r ob cap cs ∧ Below w.heap.size w w' ∧ w.heap.size ≤ r := by
  have HI := Lib.hid hI
  have HOK := Lib.hid hok
  have hbox : ∀ R, (w.alloc (.cells R 156)).heap[w.heap.size]? = some (.cells R 156 (0, 0)) := fun R => heap_alloc_last _ _
  have hI1 : ∀ o, CrIn (w.alloc o) ob cs := fun o k c hc => by
    obtain ⟨g, h1, h2, h3⟩ := hI k c hc
    exact ⟨g, h1, by simp; omega, fun j u hu => (World.cell?_of_block (a := ⟨g, k * 31 + j, none⟩) (Below.heap_alloc _ _ _ h2)).trans (h3 j u hu)⟩
  have HI1 := Lib.hid hI1
  have HBOX := Lib.hid hbox
  obtain ⟨A, hA⟩ : ∃ A, A = setV fun s => srv cs s cs.length := ⟨_, rfl⟩
  have hAsz : A.size = 30 := by rw [hA, setV_size]
  have hone : A.all (·.oneCell') = true := by rw [hA]; exact setV_one _
  have hi := size171
  rw [← hAsz] at hi
  have HA := Lib.hid hA
  have HSZ := Lib.hid hAsz
  have HON := Lib.hid hone
  have HS := Lib.hid hi
  have hmm := @run_makeMap Tryz.prog
  clear hI hok hbox hI1 hA hAsz hone hi
  go_enter Tryz.func117, Tryz.ntmps117
  go_wp2_with fail
  refine (served_any ob cap cs HOK.out _ (HI1.out _)).mono ?_
  rintro e w5 ⟨rfl, hB5⟩
  rw [← HA.out]
  have hbx := (hB5.block w.heap.size (by simp)).trans (HBOX.out _)
  have HBX := Lib.hid hbx
  have HB5 := Lib.hid (join (al (Below.refl _ _) _) hB5)
  have hz5 : w.heap.size + 1 ≤ w5.heap.size := by have := hB5.size; simpa using this
  clear hB5 hbx
  go_wp2_with (with_reducible refine wpList_store_new rfl 160 _ _ rfl _ A rfl rfl HS.out ?hs HON.out ?_)
  case hs => rw [HSZ.out]; rfl
  go_ret
  refine ⟨w5.heap.size + 1 + 1, w.heap.size, w5.heap.size, w5.heap.size + 1 + 1 + 1, w5.heap.size + 1, rfl, ⟨?_, ?_, ?_, ?_, ?_, ?_, ?_⟩, ?_, by omega⟩
  · rw [Below.heap_alloc _ _ _ (by simp), ← show (((w5.alloc (.cells A 160)).alloc (.map #[] 0)).heap.size) = w5.heap.size + 1 + 1 by simp]; exact heap_alloc_last _ _
  · rw [Below.heap_alloc _ _ _ (by simp; omega), Below.heap_alloc _ _ _ (by simp; omega), Below.heap_alloc _ _ _ (by simp; omega), Below.heap_alloc _ _ _ (by omega)]; exact HBX.out
  · rw [Below.heap_alloc _ _ _ (by simp; omega), Below.heap_alloc _ _ _ (by simp; omega), Below.heap_alloc _ _ _ (by simp), ← HA.out]; exact heap_alloc_last _ _
  · rw [← show ((((w5.alloc (.cells A 160)).alloc (.map #[] 0)).alloc (.cells #[.map (some (w5.heap.size + 1))] 182)).heap.size) = w5.heap.size + 1 + 1 + 1 by simp]; exact heap_alloc_last _ _
  · intro k c hc
    obtain ⟨g, h1, h2, h3⟩ := HI.out k c hc
    have hB : Below w.heap.size w ((((w5.alloc (.cells A 160)).alloc (.map #[] 0)).alloc (.cells #[.map (some (w5.heap.size + 1))] 182)).alloc (.cells #[mostF (w5.heap.size + 1 + 1) w.heap.size w5.heap.size (w5.heap.size + 1 + 1 + 1)] 158)) := al (al (al (al HB5.out _) _) _) _
    exact ⟨g, h1, Nat.lt_of_lt_of_le h2 hB.size, fun j u hu => (World.cell?_of_block (a := ⟨g, k * 31 + j, none⟩) (hB.block g h2)).trans (h3 j u hu)⟩
  · intro g h1 h2
    obtain ⟨c, hc⟩ : ∃ c, cs[0]? = some c := by cases cs with
      | nil => exact absurd rfl h2
      | cons c l => exact ⟨c, rfl⟩
    obtain ⟨g', e1, e2, _⟩ := HI.out 0 c hc
    rw [h1] at e1; injection e1 with e1; injection e1 with e1; omega
  · refine ⟨#[], 0, ?_, fun e he => by simp at he⟩
    rw [Below.heap_alloc _ _ _ (by simp), Below.heap_alloc _ _ _ (by simp), ← show (w5.alloc (.cells A 160)).heap.size = w5.heap.size + 1 by simp]; exact heap_alloc_last _ _
  · exact al (al (al (al HB5.out _) _) _) _

/-! fewestFor -/
/-- the first number that is no less than the one for so many stands -/
def fewF (n : List Int) (s : Nat) : Nat → Nat → Nat
  | 0, k => k
  | f + 1, k => if n.getD k 0 < n.getD s 0 then fewF n s f (k + 1) else k
def fewP (n : List Int) (s : Nat) : Nat := fewF n s s 0
theorem fewF_le (n : List Int) (s : Nat) : ∀ f k, k + f = s → k ≤ fewF n s f k ∧ fewF n s f k ≤ s
  | 0, k, h => by rw [fewF]; omega
  | f + 1, k, h => by
    rw [fewF]
    split
    · have := fewF_le n s f (k + 1) (by omega); omega
    · omega
theorem fewP_le (n : List Int) (s : Nat) : fewP n s ≤ s := (fewF_le n s s 0 (by omega)).2

set_option maxHeartbeats 2000000 in
set_option maxRecDepth 100000 in
theorem fewestFor_any (n : List Int) (hn : n.length = 11) (s : Nat) (hs : s < 11) (w : World) :
    Calls Tryz.prog 119 #[.agg (numV fun i => n.getD i 0), .int .i64 s] w fun e w' => e = .returned (.tuple #[.int .i64 (fewP n s), .int .i64 (n.getD s 0)]) ∧ Below w.heap.size w w' := by
  have hrow0 := heap_alloc_last w (.cells (numV fun i => n.getD i 0) 165)
  have hB0 := below1 w (.cells (numV fun i => n.getD i 0) 165)
  have HROW0 := Lib.hid hrow0
  have HB0 := Lib.hid hB0
  obtain ⟨A, hA⟩ : ∃ A, A = numV fun i => n.getD i 0 := ⟨_, rfl⟩
  rw [← hA] at HROW0 HB0 ⊢
  have hAsz : A.size = 11 := by rw [hA]; exact numV_size _
  have HA := Lib.hid hA
  clear hrow0 hB0 hA
  go_enter Tryz.func119, Tryz.ntmps119
  go_wp2_with fail
  go_loopg [6] s (fun gk i wr => ∃ k : Nat, k + gk = s ∧ i = .int .i64 k ∧ fewF n s gk k = fewP n s ∧ wr.heap[w.heap.size]? = some (.cells A 165 (0, 0)) ∧ Below w.heap.size w wr)
  case atStart => exact ⟨0, by omega, rfl, rfl, HROW0.out, HB0.out⟩
  case round =>
    clear HROW0 HB0
    obtain ⟨k, hk, rfl, hf, hrow, hB⟩ := hrel
    have HROW := Lib.hid hrow
    have HB := Lib.hid hB
    have HF := Lib.hid hf
    have hs1 : w.heap.size < wr.heap.size := (Array.getElem?_eq_some_iff.1 hrow).1
    obtain ⟨u, hu⟩ : ∃ u, n.getD k 0 = u := ⟨_, rfl⟩
    obtain ⟨v, hv⟩ : ∃ v, n.getD s 0 = v := ⟨_, rfl⟩
    have hk11 : k < 11 := by omega
    have hk11' : (k : Int) < 11 := by omega
    have hs11' : (s : Int) < 11 := by omega
    have hc1 : wr.cell? ⟨w.heap.size, k, none⟩ = some (.int .i64 u) := by rw [cell_of_row _ _ _ _ _ _ hrow, HA.out, numV_get _ hk11, hu]
    have hc2 : wr.cell? ⟨w.heap.size, s, none⟩ = some (.int .i64 v) := by rw [cell_of_row _ _ _ _ _ _ hrow, HA.out, numV_get _ hs, hv]
    have HC1 := Lib.hid hc1
    have HC2 := Lib.hid hc2
    have HU := Lib.hid hu
    have HV := Lib.hid hv
    have HKK := Lib.hid hk
    clear hrow hB hf hc1 hc2 hu hv
    go_wp2_with fail
    refine Rs.region_det 7 [[], [0], [0, 1], [], [3], [3, 4], [0, 1, 2, 3, 4, 5]] [some 7, some 8, some 9, some 10, some 11, some 12, some 13]
      (fun i => [.int .i64 k, .pointer (some ⟨w.heap.size, k, none⟩), .int .i64 u, .int .i64 s, .pointer (some ⟨w.heap.size, s, none⟩), .int .i64 v, .bool (decide (u < v))].getD i undef) (by kernel_rfl) (by kernel_rfl) rfl ?_ ?_
    · refine ⟨.plain rfl ?_, .plain rfl ?_, .plain rfl ?_, .plain rfl ?_, .plain rfl ?_, .plain rfl ?_, .plain rfl ?_, trivial⟩
      all_goals
        intro w' hG
        have hc1 := (hG.cell (p := ⟨w.heap.size, k, none⟩) hs1).trans HC1.out
        have hc2 := (hG.cell (p := ⟨w.heap.size, s, none⟩) hs1).trans HC2.out
        simp [go_sem, Rs.look, hk11, hk11', hs, hs11', hc1, hc2]
    · intro w' hG
      simp only [Rs.canon, Rs.dstOf, List.range_succ, List.range_zero, List.nil_append, List.cons_append, List.foldl_cons, List.foldl_nil, List.drop_succ_cons, List.drop_zero, List.drop_nil, List.getElem?_toArray, List.getElem?_cons_succ, List.getElem?_cons_zero, Option.bind_some, Act.put, List.getD_cons_succ, List.getD_cons_zero, List.setIfInBounds_toArray, List.set_cons_succ, List.set_cons_zero]
      have hzG := hG.size
      have HROW2 := Lib.hid ((hG.block _ hs1).trans HROW.out)
      have HB2 := Lib.hid (join HB.out hG)
      have HG := Lib.hid hG
      clear hG
      by_cases hlt : u < v
      · have HLT := Lib.hid hlt
        go_wp2
        go_roundg (gk - 1)
        case rel =>
          have hlt := HLT.out
          rw [← HU.out, ← HV.out] at hlt
          have hks : k ≠ s := fun e => by rw [e] at hlt; omega
          have hg : gk = gk - 1 + 1 := by omega
          refine ⟨k + 1, by omega, by simp, ?_, HROW2.out, HB2.out⟩
          rw [← HF.out, hg, fewF, if_pos hlt]; simp
        case measure =>
          have hlt := HLT.out
          rw [← HU.out, ← HV.out] at hlt
          have hks : k ≠ s := fun e => by rw [e] at hlt; omega
          omega
      · have hres : fewP n s = k := by
          rw [← HF.out]
          cases gk with
          | zero => rfl
          | succ g => rw [fewF, if_neg (by rw [HU.out, HV.out]; exact hlt)]
        have HRES := Lib.hid hres
        have hc2 := (HG.out.cell (p := ⟨w.heap.size, s, none⟩) hs1).trans HC2.out
        have hs2 : w.heap.size < w'.heap.size := by omega
        clear hres
        go_wp2_with fail
        refine Rs.region_det 5 [[], [], [1], [1, 2], [0]] [some 16, some 17, some 18, some 19, some 4]
          (fun i => [.int .i64 k, .int .i64 s, .pointer (some ⟨w.heap.size, s, none⟩), .int .i64 v, .int .i64 k].getD i undef) (by kernel_rfl) (by kernel_rfl) rfl ?_ ?_
        · refine ⟨.plain rfl ?_, .plain rfl ?_, .plain rfl ?_, .plain rfl ?_, .plain rfl ?_, trivial⟩
          all_goals
            intro w2 hG
            have hc2 := (hG.cell (p := ⟨w.heap.size, s, none⟩) hs2).trans hc2
            simp [go_sem, Rs.look, hs, hs11', hc2]
        · intro w2 hG
          simp only [Rs.canon, Rs.dstOf, List.range_succ, List.range_zero, List.nil_append, List.cons_append, List.foldl_cons, List.foldl_nil, List.drop_succ_cons, List.drop_zero, List.drop_nil, List.getElem?_toArray, List.getElem?_cons_succ, List.getElem?_cons_zero, Option.bind_some, Act.put, List.getD_cons_succ, List.getD_cons_zero, List.setIfInBounds_toArray, List.set_cons_succ, List.set_cons_zero]
          have HB3 := Lib.hid (join HB2.out hG)
          clear hG
          go_wp2
          try rw [Exit.noGoto_ret]
          go_ret2
          exact ⟨by rw [HRES.out, HV.out]; rfl, HB3.out⟩
end Go.Proofs.YtimedmkpenbmkaaGreat

namespace Go.Proofs.YtimedmkpenbmkaaGreat
open Go.RowKit Go.Shelf
set_option linter.unusedSimpArgs false
set_option linter.unusedVariables false

def leastL (a : Int) (xs : List Int) : Int := xs.foldl (fun a n => if n < a then n else a) a

set_option maxHeartbeats 2000000 in
set_option maxRecDepth 100000 in
theorem leastL_any (a : Int) (b cap : Nat) (xs : List Int) (w : World) (hlen : xs.length ≤ 60) (hI : Ints w b 0 xs) :
    Calls Tryz.prog 120 #[.int .i64 a, .slice (some ⟨b, 0, none⟩) xs.length cap] w fun e w' => e = .returned (.int .i64 (leastL a xs)) ∧ w' = w := by
  have hbl := hI.1
  have HI := Lib.hid hI
  clear hI
  go_enter Tryz.func120, Tryz.ntmps120
  go_wp2_with fail
  go_loopg [0, 6, 9] xs.length (fun gk c d i wr => ∃ k : Nat, k + gk = xs.length ∧ i = .int .i64 k ∧ c = .int .i64 (leastL a (xs.take k)) ∧ wr = w)
  case atStart => exact ⟨0, by omega, rfl, rfl, rfl⟩
  case round =>
    obtain ⟨k, hk, rfl, rfl, rfl⟩ := hrel
    obtain ⟨m, hm⟩ : ∃ m, m = leastL a (xs.take k) := ⟨_, rfl⟩
    have HM := Lib.hid hm
    rw [← hm]
    clear hm
    by_cases hlt : k < xs.length
    · obtain ⟨x, hx⟩ : ∃ x, xs.getD k 0 = x := ⟨_, rfl⟩
      have hlt' : (k : Int) < xs.length := by omega
      have hc := HI.out.2 k hlt
      rw [hx, Nat.zero_add] at hc
      have hnx : leastL a (xs.take (k + 1)) = if x < m then x else m := by
        rw [List.take_succ_eq_append_getElem hlt]
        unfold leastL at HM ⊢
        rw [List.foldl_append, ← HM.out, ← hx, List.getD_eq_getElem?_getD, List.getElem?_eq_getElem hlt]; rfl
      have HNX := Lib.hid hnx
      clear hx hnx
      by_cases hxm : x < m
      · go_wp2
        go_roundg (gk - 1)
        case rel => exact ⟨k + 1, by omega, by simp, by rw [HNX.out, if_pos hxm], rfl⟩
        case measure => omega
      · go_wp2
        go_roundg (gk - 1)
        case rel => exact ⟨k + 1, by omega, by simp, by rw [HNX.out, if_neg (by omega)], rfl⟩
        case measure => omega
    · have hkk : k = xs.length := by omega
      subst hkk
      go_wp2
      try rw [Exit.noGoto_ret]
      go_ret
      have := HM.out
      rw [List.take_length] at this
      exact ⟨by rw [← this]; rfl, rfl⟩
end Go.Proofs.YtimedmkpenbmkaaGreat
