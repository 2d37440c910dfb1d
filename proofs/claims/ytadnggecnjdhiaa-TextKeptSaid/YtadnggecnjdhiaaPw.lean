/- oyezlaw02.TextKept, for any input. No condition. -/
import Derived.Test.YtadnggecnjdhiaaPu
set_option linter.unusedSimpArgs false
set_option linter.unusedVariables false
namespace Go.Proofs.Ytadnggecnjdhiaa
open Go.RowKit Tx
attribute [local go_sem] Oper.semAt_some

theorem own_blockS {w : World} {base : Nat} {e : TypeId} {s g n c k : Nat} {xs : List Value} (h : w.ownsRow base e s (.slice (some ⟨g, 0, none⟩) n c) k xs) : base ≤ g ∧ g < w.heap.size := by
  rcases h.2 with ⟨h1, _⟩ | ⟨g', cap, cur, hv, hb, hg, _⟩
  · cases h1
  · injection hv with e1 _ _
    injection e1 with e1; injection e1 with e1
    subst e1
    exact ⟨hb, (Array.getElem?_eq_some_iff.1 hg).1⟩
set_option maxHeartbeats 16000000 in
set_option maxRecDepth 100000 in
theorem TextKept_any (pn pq : Option Addr) (nn cn nq cq : Nat) (pc : Int) (hp0 : 0 ≤ pc) (hp1 : pc ≤ 255) (hnn : nn ≤ 9223372036854775807) (hnq : nq ≤ 9223372036854775807) (w : World) (hN : Bytes w pn nn) (hQ : Bytes w pq nq) :
    Calls Try.prog 13 #[.slice pn nn cn, .slice pq nq cq, .int .u8 pc] w fun e w' => e = .returned (.bool true) ∧ Below w.heap.size w w' := by
  obtain ⟨pm, rfl⟩ : ∃ n : Nat, pc = n := ⟨pc.toNat, by omega⟩
  have hprem : Int.tmod (pm : Int) 40 = ((pm % 40 : Nat) : Int) := by
    rw [Int.tmod_eq_emod_of_nonneg hp0]; rfl
  obtain ⟨wt, hwt⟩ : ∃ wt : Int, wt = ((pm % 40 : Nat) : Int) := ⟨_, rfl⟩
  have hwt0 : 0 ≤ wt := by omega
  rw [← hwt] at hprem
  have hpc1 : IntKind.wrap .i64 (pm : Int) = (pm : Int) := by rw [IntWalk.i64_in _ (by omega)]
  have hpc2 : IntKind.wrap .i64 wt = wt := by rw [IntWalk.i64_in _ (by omega)]
  clear hwt hp0 hp1
  have hmf := mf
  obtain ⟨hb0, hm0⟩ := hang_made pn nn cn hnn w hN
  have HB0 := Lib.hid hb0
  have HM0 := Lib.hid hm0
  have HQ := Lib.hid hQ
  have hal := below1 w (.cells #[.slice pn nn cn, .int .i64 0, .int .u32 0] 159)
  have HAL := Lib.hid hal
  have hz1 : (w.alloc (.cells #[.slice pn nn cn, .int .i64 0, .int .u32 0] 159)).heap.size = w.heap.size + 1 := by simp
  clear hb0 hm0 hN hQ hal
  go_enter Try.func13, Try.ntmps13
  go_wp2_with fail
  refine (hang_any _ _ _ _).mono ?_
  rintro e w1 ⟨rfl, rfl⟩
  generalize w.alloc (.cells #[.slice pn nn cn, .int .i64 0, .int .u32 0] 159) = W1 at HB0 HM0 HAL hz1 ⊢
  go_wp2_with fail
  refine (made_ok (words := 9) (turns := 3) (by omega) (by omega) (by omega) _ HB0.out HM0.out).mono ?_
  rintro e W2 ⟨t, p, q, c, d, rfl, HT, HC, HD, HE, HOK, HW9, HT3, -, HH⟩
  have HQ2 := Lib.hid (HQ.out.below (HAL.out.trans (hold_below HH.out (by omega))))
  have HWA := Lib.hid (HAL.out.trans (hold_below HH.out (by omega)))
  have hwA : w.heap.size ≤ W2.heap.size := by have := HH.out.size; omega
  clear HB0 HM0 HAL HQ HH hz1
  have HT2 := Lib.hid (HT.out.below (below1 W2 (.cells #[.slice p t.words.length c, .slice q t.turns.length d, .int .i64 t.breath] 25)))
  have HQ3 := Lib.hid (HQ2.out.below (below1 W2 (.cells #[.slice p t.words.length c, .slice q t.turns.length d, .int .i64 t.breath] 25)))
  have HBX := Lib.hid (heap_last W2 (.cells #[.slice p t.words.length c, .slice q t.turns.length d, .int .i64 t.breath] 25))
  obtain ⟨T, hTT⟩ : ∃ T, T = W2.heap.size := ⟨_, rfl⟩
  have hz3 : (W2.alloc (.cells #[.slice p t.words.length c, .slice q t.turns.length d, .int .i64 t.breath] 25)).heap.size = T + 1 := by rw [hTT]; simp
  have HW3 := Lib.hid (HWA.out.trans ((below1 W2 (.cells #[.slice p t.words.length c, .slice q t.turns.length d, .int .i64 t.breath] 25)).mono hwA))
  rw [← hTT] at HBX hwA
  clear HT HQ2 HWA
  go_wp2_with fail
  rw [← hTT]
  clear hTT
  generalize W2.alloc (.cells #[.slice p t.words.length c, .slice q t.turns.length d, .int .i64 t.breath] 25) = W3 at HT2 HQ3 HBX hz3 HW3 ⊢
  refine (hang_any _ _ _ _).mono ?_
  rintro e w4 ⟨rfl, rfl⟩
  obtain ⟨hbq, hmq⟩ := hang_made pq nq cq hnq W3 HQ3.out
  have HBQ := Lib.hid hbq
  have HMQ := Lib.hid hmq
  have ha4 := below1 W3 (.cells #[.slice pq nq cq, .int .i64 0, .int .u32 0] 159)
  have HT4 := Lib.hid (HT2.out.below ha4)
  have HBX4 := Lib.hid ((ha4.block T (by omega)).trans HBX.out)
  have hz4 : (W3.alloc (.cells #[.slice pq nq cq, .int .i64 0, .int .u32 0] 159)).heap.size = T + 2 := by simp; omega
  have hB : W3.heap.size = T + 1 := hz3
  have HTT := Lib.hid (show ∀ W, Below (T + 1) W3 W → TxAt W t p q from fun W h => HT2.out.below (by rw [hB]; exact h))
  have HB34 := Lib.hid (show Below (T + 1) W3 (W3.alloc (.cells #[.slice pq nq cq, .int .i64 0, .int .u32 0] 159)) by rw [← hB]; exact ha4)
  rw [hB] at HBQ
  rw [hB]
  clear hbq hmq ha4 HQ3
  generalize W3.alloc (.cells #[.slice pq nq cq, .int .i64 0, .int .u32 0] 159) = W4 at HBQ HMQ HT4 HBX4 hz4 HB34 ⊢
  obtain ⟨k0, k1, k2⟩ := blk3 HBX4.out
  have hn9 : t.words.length ≤ 1000000 := by have := HW9.out; omega
  have hn3 : t.turns.length ≤ 1000000 := by have := HT3.out; omega
  have HPW := Lib.hid (show ∀ b o, p = some ⟨b, o, none⟩ → b ≠ T + 1 from fun b o e => by
    rcases HT2.out.words with h | ⟨b', o', e', l', _⟩
    · have := HOK.out.n1; rw [h] at this; simp at this
    · rw [e'] at e; injection e with e; injection e with e _ _; omega)
  clear hB hz3 HT2 HBX W2
  have HMX := Lib.hid (show nq ≠ 0 → ∀ mb mo, pq = some ⟨mb, mo, none⟩ → mb < T + 2 from fun h mb mo e => by have := HMQ.out h mb mo e; omega)
  go_wp2_with fail
  clear hpc1 hpc2 hprem
  refine (Least_any t wt hn9 hn3 p q c d HC.out _ HT4.out).mono ?_
  rintro e W5 ⟨v, rfl, hown, hB5⟩
  clear k0 k1 k2
  have hb4 : T + 2 ≤ W4.heap.size := by omega
  have hWB5 : T + 2 ≤ W5.heap.size := by have := hB5.size; omega
  have HBL := Lib.hid (HBQ.out.below hB5)
  have HT5 := Lib.hid (HT4.out.below hB5)
  have HX5 := Lib.hid ((hB5.block T (by omega)).trans HBX4.out)
  have HB35 := Lib.hid (HB34.out.trans (hB5.mono (by omega)))
  obtain ⟨pL, cL, rfl, -⟩ := own_rd hown rfl
  have HOL := Lib.hid hown
  have HTK := HTT
  clear hown hB5 HBQ HMQ HT4 HBX4 HB34 HTT
  have hLen : (leaL t wt).length ≤ 1000000 ∨ True := .inr trivial
  have LAW := least_law HE.out HOK.out hwt0
  have HKS := Lib.hid (fun (l : List Int) (hl : l.length ≤ 1000000) pl cl W (h : TxAt W t p q) (hL : Ints W pl l) => Keeps_any t l hn9 hn3 hl p q pl c d cl W h hL)
  generalize leaE t wt = er at LAW ⊢
  generalize leaL t wt = L at LAW HOL ⊢
  clear hLen
  rcases LAW with ⟨hE, hLA, hL0, hLW, hLK, hLP⟩ | ⟨hE, hLP⟩
  · have HLP := Lib.hid (show ∀ l, Asc l t.words.length → l.length ≠ 0 → t.keeps l = true → wt ≤ t.wtOf l → er = 0 ∧ ¬ l.length < L.length ∧ (l.length = L.length → lexB l L = false) from fun l a b c d => ⟨hE, hLP l a b c d⟩)
    have hq1 : (er == 0) = true := by simpa using hE
    have hLl : L.length ≤ 1000000 := by have := asc_len hLA; omega
    have hke := keptE_ok HE.out hL0 hLA
    have CKL := Lib.hid (HKS.out L hLl pL cL)
    have hkb : keeB t L = true := (if_pos hke).trans hLK
    have hkn : keeN t L = t.wtOf L := if_pos hke
    rw [hkb, hkn, hke] at CKL
    have hlw : ¬ t.wtOf L < wt := by omega
    generalize t.wtOf L = wl at CKL hlw
    clear hLP hke hkb hkn hLA hL0 hLW hLK
    have HE0 := Lib.hid hE
    clear hE
    obtain ⟨pL', cL', eL, hIL, -⟩ := own_rd HOL.out rfl
    injection eL with eL _ ec; subst eL; subst ec
    obtain ⟨k0, k1, k2⟩ := blk3 HX5.out
    have hlT := (Array.getElem?_eq_some_iff.1 HX5.out).1
    go_wp2_with fail
    refine (CKL.out _ HT5.out hIL).mono ?_
    rintro e W6 ⟨rfl, hB⟩
    have HBL := Lib.hid (HBL.out.below hB)
    have HT5 := Lib.hid (HT5.out.below hB)
    have HX5 := Lib.hid ((hB.block T hlT).trans HX5.out)
    have HOL := Lib.hid (own_below HOL.out hB)
    have HB35 := Lib.hid (HB35.out.trans (hB.mono (by omega)))
    have hzB : T + 2 ≤ W6.heap.size := by have := hB.size; omega
    clear hB hIL CKL k0 k1 k2 hlT
    obtain ⟨k0, k1, k2⟩ := blk3 HX5.out
    have hlT := (Array.getElem?_eq_some_iff.1 HX5.out).1
    go_wp2_with fail
    clear hlw
    refine (Spare_any t hn9 hn3 p q c d _ HT5.out).mono ?_
    rintro e WB ⟨v, rfl, hown, hB⟩
    obtain ⟨pS, cS, rfl, -⟩ := own_rd hown rfl
    have HOS := Lib.hid hown
    have HBL := Lib.hid (HBL.out.below hB)
    have HOL := Lib.hid (own_below HOL.out hB)
    have HT5 := Lib.hid (HT5.out.below hB)
    have HX5 := Lib.hid ((hB.block T hlT).trans HX5.out)
    have HB35 := Lib.hid (HB35.out.trans (hB.mono (by omega)))
    have hzW : T + 2 ≤ WB.heap.size := by have := hB.size; omega
    clear hB hown k0 k1 k2 hlT
    rw [HE.out]
    have HSP := Lib.hid (fun x hx => spare_has (t := t) (x := x) HE.out hx)
    have hSl : (spaL t).length ≤ 1000000 := by
      unfold spaL
      split
      · have := spareTo_len t t.words.length; omega
      · simp
    generalize spaL t = SP at HSP hSl HOS ⊢
    have HK := Lib.hid (show ∀ W, Hold (fun k => k ≠ T + 1) WB W → TxAt W t p q ∧ W.heap[T]? = some (.cells #[.slice p t.words.length c, .slice q t.turns.length d, .int .i64 t.breath] 25 (0, 0)) ∧ Ints W pL L ∧ Ints W pS SP ∧ Below w.heap.size w W from fun W h => by
      have o1 := own_hold HOL.out h (fun k hk => by show k ≠ T + 1; omega)
      have o2 := own_hold HOS.out h (fun k hk => by show k ≠ T + 1; omega)
      obtain ⟨_, _, f1, g1, -⟩ := own_rd o1 rfl
      injection f1 with f1 _ _; subst f1
      obtain ⟨_, _, f2, g2, -⟩ := own_rd o2 rfl
      injection f2 with f2 _ _; subst f2
      have hb : Below (T + 1) W3 W := HB35.out.trans (hold_below h (by omega))
      refine ⟨HTK.out _ hb, (h.same T (show T ≠ T + 1 by omega) (by omega)).trans HX5.out, g1, g2, HW3.out.trans (hb.mono (by omega))⟩)
    have HH := Lib.hid (Hold.refl (fun k => k ≠ T + 1) WB)
    clear HOL HOS HT5 HX5 HB35 HTK HW3 HPW HD
    have hw9 : t.words.length ≤ 9 := HW9.out
    have ht3 : t.turns.length ≤ 3 := HT3.out
    go_wp2_with fail
    go_loopw [86] (fun i wr => ∃ k : Nat, k ≤ 8 ∧ i = .int .i64 k ∧ Hid (BellOk wr (T + 1) pq nq cq) ∧ Hid (Hold (fun k => k ≠ T + 1) WB wr)) (fun i _ => 8 - (intOf i).toNat)
    case atStart => exact ⟨0, by omega, rfl, HBL, HH⟩
    case round => as_aux_lemma =>
      clear HBL HH
      obtain ⟨k, hk, rfl, HBL, HH⟩ := hrel
      have hz3 : T + 2 ≤ wr.heap.size := by have := HH.out.size; omega
      by_cases hlt : k < 8
      · have hlt' : (k : Int) < 8 := by omega
        go_wp2_with fail
        refine (strike_any (T + 1) pq nq cq 2 4 2 (by omega) (by omega) (by omega) (by omega) _ HBL.out).mono ?_
        rintro e w2 ⟨x, x0, x1, rfl, hB, hH⟩
        obtain ⟨of', rfl⟩ := Int.eq_ofNat_of_zero_le (show 0 ≤ x by omega)
        have HBL := Lib.hid hB
        have HH := Lib.hid (HH.out.trans hH)
        have hz2 : T + 2 ≤ w2.heap.size := by have := HH.out.size; omega
        clear hB hH
        obtain ⟨hT, hX, hIL, hIS, -⟩ := HK.out _ HH.out
        have HT := Lib.hid hT
        have HIL := Lib.hid hIL
        have HIS := Lib.hid hIS
        obtain ⟨k0, k1, k2⟩ := blk3 hX
        have hlT := (Array.getElem?_eq_some_iff.1 hX).1
        clear hT hX hIL hIS
        go_wp2_with fail
        clear k0 k1 k2 hlT HT HIL HIS
        have HR0 := Lib.hid (show RowsB w2 T w2.heap.size pq nq cq (.slice none 0 0) [] (.slice none 0 0) [] w2 from ⟨Two.start _ _, HBL.out, Hold.refl _ _, hz2⟩)
        clear HBL
        go_loopw [17, 93] (fun va i wr => ∃ (j : Nat) (l : List Int), j ≤ t.words.length ∧ i = .int .i64 j ∧ Hid (Asc l j) ∧ Hid (RowsB w2 T w2.heap.size pq nq cq va l (.slice none 0 0) [] wr)) (fun _ i _ => t.words.length - (intOf i).toNat)
        case atStart => exact ⟨0, [], Nat.zero_le _, rfl, Lib.hid ⟨List.Pairwise.nil, by simp⟩, HR0⟩
        case round => as_aux_lemma =>
          clear HR0
          obtain ⟨j, l, hj, rfl, HA, HR⟩ := hrel
          obtain ⟨p17, c17, rfl⟩ := own_val HR.out.two.oa
          have hjl := asc_len HA.out
          by_cases hltj : j < t.words.length
          · have hltj' : (j : Int) < t.words.length := by omega
            go_wp2_with fail
            refine (seldom_any (T + 1) pq nq cq of' (by omega) (by omega) _ HR.out.bell).mono ?_
            rintro e wB ⟨b, rfl, hB, hH⟩
            have HR := Lib.hid (HR.out.ring hB hH)
            have hzB2 : w2.heap.size ≤ wB.heap.size := HR.out.hold.size
            clear hB hH
            cases b with
            | true =>
              go_wp2
              go_roundw
              case rel => exact ⟨j + 1, l, by omega, by go_num, Lib.hid (asc_mono HA.out (by omega)), HR⟩
              case measure => simp [intOf]; omega
            | false =>
              have HR1 := Lib.hid (HR.out.below (below1 wB (.cells #[.int .i64 (j : Int)] 3)))
              go_wp2_with (at_builtin; refine wpList_append_whichI rfl _ _ rfl w2.heap.size _ _ _ rfl HR1.out.two.oa ⟨wB.heap.size, 0, none⟩ _ rfl (cell_one_new _ _ _ 0 _ rfl) rfl ?y1 ?y2 ?_)
              case y1 => simp; omega
              case y2 => omega
              intro v' wC hown hgrow hwhich
              have hwhich : v'.ownBlock = (Value.slice p17 l.length c17).ownBlock ∨ v'.ownBlock = some (wB.alloc (.cells #[.int .i64 (j : Int)] 3)).heap.size := by rw [World.size_alloc]; simpa using hwhich
              obtain ⟨pB, cB, rfl⟩ := own_val hown
              have HR2 := Lib.hid (RowsB.app HMX.out (Nat.le_refl _) HR1.out hown hgrow hwhich)
              clear hown hgrow hwhich HR HR1
              go_wp2
              go_roundw
              case rel => exact ⟨j + 1, l ++ [(j : Int)], by omega, by go_num, Lib.hid (asc_snoc HA.out), HR2⟩
              case measure => simp [intOf]; omega
          · obtain rfl : j = t.words.length := by omega
            clear hj hltj
            have hzr : w2.heap.size ≤ wr.heap.size := HR.out.hold.size
            have HK2 := Lib.hid (show ∀ W, Hold (fun k => k ≠ T + 1) wr W → Ints W p17 l from fun W h => by
              have o1 := own_hold HR.out.two.oa h (fun k hk => by show k ≠ T + 1; omega)
              obtain ⟨_, _, f1, g1, -⟩ := own_rd o1 rfl
              injection f1 with f1 _ _; subst f1
              exact g1)
            have HBL := Lib.hid HR.out.bell
            have HH := Lib.hid (HH.out.trans HR.out.hold)
            have HIl := Lib.hid (HK2.out wr (Hold.refl _ _))
            clear HR HK2
            by_cases hl0 : l.length = 0
            · have hl0' : (l.length : Int) = 0 := by omega
              go_wp2
              go_roundw
              case rel => exact ⟨k + 1, by omega, by go_num, HBL, HH⟩
              case measure => simp [intOf]; omega
            · have hl0' : ¬ (l.length : Int) = 0 := by omega
              have hl0q : ((l.length : Int) == 0) = false := by simpa using hl0'
              have hlw9 := asc_len HA.out
              have hke := keptE_ok HE.out hl0 HA.out
              have CK := Lib.hid (HKS.out l (by omega) p17 c17)
              have hkb : keeB t l = t.keeps l := if_pos hke
              have hkn : keeN t l = t.wtOf l := if_pos hke
              rw [hkb, hkn, hke] at CK
              clear hke hkb hkn
              obtain ⟨hT, hX, hIL, hIS, -⟩ := HK.out _ HH.out
              have HT := Lib.hid hT
              have HIL := Lib.hid hIL
              have HIS := Lib.hid hIS
              obtain ⟨k0, k1, k2⟩ := blk3 hX
              have hlT := (Array.getElem?_eq_some_iff.1 hX).1
              clear hT hX hIL hIS
              go_wp2_with fail
              refine (CK.out _ HT.out HIl.out).mono ?_
              rintro e w8 ⟨rfl, hB⟩
              have HBL := Lib.hid (HBL.out.below hB)
              have HH := Lib.hid (HH.out.trans (Hold.below hB))
              have HIl := Lib.hid (HIl.out.below hB)
              clear hB CK
              clear k0 k1 k2 hlT HT HIL HIS
              obtain ⟨lb, lo0, _, rfl, -, -, -⟩ := HIl.out.at (i := 0) (by omega)
              obtain ⟨hT, hX, hIL, hIS, -⟩ := HK.out _ HH.out
              have HT := Lib.hid hT
              have HIL := Lib.hid hIL
              have HIS := Lib.hid hIS
              obtain ⟨k0, k1, k2⟩ := blk3 hX
              have hlT := (Array.getElem?_eq_some_iff.1 hX).1
              clear hT hX hIL hIS
              go_wp2_with fail
              have HW8 := Lib.hid HT.out.words
              go_loop [23, 117] (fun sv i => ∃ j : Nat, j ≤ l.length ∧ i = .int .i64 j ∧ sv = .int .i64 (isum ((l.take j).map fun i => (t.words.getD i.toNat default).wt))) (fun _ i => l.length - (intOf i).toNat)
              case atStart => exact ⟨0, Nat.zero_le _, rfl, rfl⟩
              case round => as_aux_lemma =>
                obtain ⟨j, hj, rfl, rfl⟩ := hrel
                have hbd := isum_bd ((l.take j).map fun i => (t.words.getD i.toNat default).wt) 0 20 (fun y hy => by
                  obtain ⟨i, hi, rfl⟩ := List.mem_map.1 hy
                  have hi2 := HA.out.rng i (List.mem_of_mem_take hi)
                  have := HOK.out.word (t.words.getD i.toNat default) (getD_mem default (by omega))
                  exact ⟨this.2.2.1, this.2.2.2⟩)
                rw [List.length_map, List.length_take] at hbd
                by_cases hjl : j < l.length
                · have hjl' : (j : Int) < l.length := by omega
                  have hj0 : (0 : Int) ≤ (j : Int) := by omega
                  obtain ⟨_, _, x, hqq, _, hxx, c1⟩ := HIl.out.at hjl
                  injection hqq with hqq; injection hqq with hq1 hq2 _
                  subst hq1; subst hq2
                  have hxb := HA.out.rng x (by rw [hxx]; exact getD_mem 0 hjl)
                  obtain ⟨y, rfl⟩ := Int.eq_ofNat_of_zero_le hxb.1
                  have hyn : y < t.words.length := by omega
                  have hyn' : (y : Int) < t.words.length := by omega
                  have hy0 : (0 : Int) ≤ (y : Int) := by omega
                  obtain ⟨wb, wo', z, hqq, _, hzz, d0, d1, d2⟩ := HW8.out.at hyn
                  subst hqq
                  have hzw := HOK.out.word z (by rw [hzz]; exact getD_mem default hyn)
                  have HSN := Lib.hid (show isum ((l.take (j + 1)).map fun i => (t.words.getD i.toNat default).wt) = isum ((l.take j).map fun i => (t.words.getD i.toNat default).wt) + z.wt by
                    rw [take_snocD 0 hjl, ← hxx, List.map_append, List.map_cons, List.map_nil, isum_snoc, show ((y : Int)).toNat = y by omega, ← hzz])
                  generalize isum ((l.take j).map fun i => (t.words.getD i.toNat default).wt) = sm0 at HSN hbd ⊢
                  have hadd : IntKind.wrap .i64 (sm0 + z.wt) = sm0 + z.wt := IntWalk.i64_in _ (by omega)
                  clear hxx hzz
                  go_wp2
                  go_round
                  case rel => exact ⟨j + 1, by omega, by go_num, by rw [HSN.out]⟩
                  case measure => simp only [intOf]; omega
                · obtain rfl : j = l.length := by omega
                  rw [List.take_length]
                  clear hbd hj hjl
                  have HSM := Lib.hid (show isum (l.map fun i => (t.words.getD i.toNat default).wt) = t.wtOf l from rfl)
                  rw [HSM.out]
                  clear HSM HW8
                  have HKP := Lib.hid (keeps_fold t l)
                  have HLl := Lib.hid (HLP.out l HA.out hl0)
                  generalize t.wtOf l = sm at HLl ⊢
                  go_wp2_with fail
                  have HX8 := Lib.hid (HK.out _ HH.out).2.1
                  clear k0 k1 k2 hlT
                  go_loopw [24, 133] (fun kb i wr => ∃ j : Nat, j ≤ t.turns.length ∧ i = .int .i64 j ∧ kb = .bool ((t.turns.take j).all fun u => !coreIn u l || l.contains u.word) ∧ Hid (Below w8.heap.size w8 wr)) (fun _ i _ => t.turns.length - (intOf i).toNat)
                  case atStart => exact ⟨0, Nat.zero_le _, rfl, rfl, Lib.hid (Below.refl _ _)⟩
                  case round => as_aux_lemma =>
                    obtain ⟨j, hj, rfl, rfl, HB4⟩ := hrel
                    by_cases hjl : j < t.turns.length
                    · have hjl' : (j : Int) < t.turns.length := by omega
                      obtain ⟨tb, to', u, hqq, _, hxx, d0, d1, d2⟩ := (HT.out.below HB4.out).turns.at hjl
                      subst hqq
                      have hur := HOK.out.turn u (by rw [hxx]; exact getD_mem default hjl)
                      have HSN := Lib.hid (show ((t.turns.take (j + 1)).all fun u => !coreIn u l || l.contains u.word) = (((t.turns.take j).all fun u => !coreIn u l || l.contains u.word) && (!coreIn u l || l.contains u.word)) by
                        rw [take_snocD default hjl, ← hxx, List.all_append]; simp)
                      generalize ((t.turns.take j).all fun u => !coreIn u l || l.contains u.word) = kb0 at HSN ⊢
                      clear hxx
                      obtain ⟨uw, ul, uh⟩ := u
                      dsimp only at d0 d1 d2 hur HSN
                      obtain ⟨ul', rfl⟩ := Int.eq_ofNat_of_zero_le hur.2.2.1
                      obtain ⟨uh', rfl⟩ := Int.eq_ofNat_of_zero_le (show 0 ≤ uh by omega)
                      have huu : ul' ≤ uh' := by omega
                      have huh : uh' ≤ 20 := by omega
                      obtain ⟨c28, hc28⟩ : ∃ c, c = wr.heap.size := ⟨_, rfl⟩
                      have hX28 := heap_last wr (.cells #[.int .i64 uw, .int .i64 (ul' : Int), .int .i64 (uh' : Int)] 80)
                      have hal := below1 wr (.cells #[.int .i64 uw, .int .i64 (ul' : Int), .int .i64 (uh' : Int)] 80)
                      have HB9 := Lib.hid (HB4.out.trans (hal.mono HB4.out.size))
                      go_wp2_with fail
                      clear d0 d1 d2 hal hur
                      generalize wr.alloc (.cells #[.int .i64 uw, .int .i64 (ul' : Int), .int .i64 (uh' : Int)] 80) = W9 at hX28 HB9 ⊢
                      rw [← hc28] at hX28 ⊢
                      clear hc28
                      have HCT := Lib.hid (fun x => contains_any l (by omega) (some ⟨lb, lo0, none⟩) c17 x W9 (HIl.out.below HB9.out))
                      obtain ⟨n0, n1, n2⟩ := blk3 hX28
                      have hl28 := (Array.getElem?_eq_some_iff.1 hX28).1
                      clear hX28 HT HIL HIS
                      go_loop [29, 30] (fun cv i => ∃ a : Nat, ul' + a ≤ uh' + 1 ∧ i = .int .i64 ((ul' : Int) + (a : Int)) ∧ cv = .bool ((List.range a).all fun i => l.contains ((ul' : Int) + (i : Int)))) (fun _ i => uh' + 1 - (intOf i).toNat)
                      case atStart => exact ⟨0, by omega, by simp, rfl⟩
                      case round => as_aux_lemma =>
                        obtain ⟨a, ha, rfl, rfl⟩ := hrel
                        by_cases hac : ul' + a ≤ uh'
                        · have hac' : (ul' : Int) + (a : Int) ≤ (uh' : Int) := by omega
                          have HUP := Lib.hid (show ((List.range (a + 1)).all fun i => l.contains ((ul' : Int) + (i : Int))) = (((List.range a).all fun i => l.contains ((ul' : Int) + (i : Int))) && l.contains ((ul' : Int) + (a : Int))) by
                            rw [List.range_succ, List.all_append]; simp)
                          have hadd : IntKind.wrap .i64 ((ul' : Int) + (a : Int) + 1) = (ul' : Int) + (a : Int) + 1 := IntWalk.i64_in _ (by omega)
                          have HCJ := Lib.hid (HCT.out ((ul' : Int) + (a : Int)))
                          generalize ((List.range a).all fun i => l.contains ((ul' : Int) + (i : Int))) = al2 at HUP ⊢
                          generalize l.contains ((ul' : Int) + (a : Int)) = cj at HUP HCJ
                          cases al2 with
                          | true =>
                            go_wp2_with fail
                            refine HCJ.out.mono ?_
                            rintro e wj ⟨rfl, rfl⟩
                            go_wp2
                            go_round
                            case rel => exact ⟨a + 1, by omega, by push_cast; rw [Int.add_assoc], by rw [HUP.out, Bool.true_and]⟩
                            case measure => simp only [intOf]; omega
                          | false =>
                            go_wp2
                            go_round
                            case rel => exact ⟨a + 1, by omega, by push_cast; rw [Int.add_assoc], by rw [HUP.out, Bool.false_and]⟩
                            case measure => simp only [intOf]; omega
                        · have hac' : ¬ (ul' : Int) + (a : Int) ≤ (uh' : Int) := by omega
                          have HAL := Lib.hid (show ((List.range a).all fun i => l.contains ((ul' : Int) + (i : Int))) = coreIn ⟨uw, (ul' : Int), (uh' : Int)⟩ l by
                            unfold coreIn
                            rw [show ((uh' : Int) + 1 - (ul' : Int)).toNat = a by omega])
                          rw [HAL.out]
                          clear HAL
                          have HCQ := Lib.hid (HCT.out uw)
                          generalize coreIn ⟨uw, (ul' : Int), (uh' : Int)⟩ l = co at HSN ⊢
                          generalize l.contains uw = cw2 at HSN HCQ
                          cases kb0 with
                          | false =>
                            go_wp2
                            go_roundw
                            case rel => exact ⟨j + 1, by omega, by go_num, by rw [HSN.out]; rfl, HB9⟩
                            case measure => simp [intOf]; omega
                          | true =>
                            cases co with
                            | false =>
                              go_wp2
                              go_roundw
                              case rel => exact ⟨j + 1, by omega, by go_num, by rw [HSN.out]; rfl, HB9⟩
                              case measure => simp [intOf]; omega
                            | true =>
                              go_wp2_with fail
                              refine HCQ.out.mono ?_
                              rintro e wj ⟨rfl, rfl⟩
                              go_wp2
                              go_roundw
                              case rel => exact ⟨j + 1, by omega, by go_num, by rw [HSN.out]; simp, HB9⟩
                              case measure => simp [intOf]; omega
                    · have hkt : ((t.turns.take j).all fun u => !coreIn u l || l.contains u.word) = t.keeps l := by
                        rw [show j = t.turns.length by omega, List.take_length]; exact HKP.out
                      have hirr : ¬ ((j : Int) < (t.turns.length : Int)) := by omega
                      rw [hkt]
                      clear hkt hj hjl
                      obtain ⟨kp, hkp⟩ : ∃ kp, kp = t.keeps l := ⟨_, rfl⟩
                      rw [← hkp] at HLl ⊢
                      cases kp with
                      | false =>
                        clear HT HIL HIS hkp
                        go_wp2
                        go_roundw
                        case rel => exact ⟨k + 1, by omega, by go_num, Lib.hid (HBL.out.below HB4.out), Lib.hid (HH.out.trans (Hold.below HB4.out))⟩
                        case measure => simp [intOf]; omega
                      | true =>
                        have HKP := Lib.hid hkp.symm
                        clear hkp
                        have HIL := Lib.hid (HIL.out.below HB4.out)
                        clear HT HIS
                        by_cases hge : wt ≤ sm
                        · have hll := HLl.out rfl hge
                          have hnl : ¬ (l.length : Int) < (L.length : Int) := by have := hll.2.1; omega
                          have her : (er != 0) = false := by rw [hll.1]; rfl
                          have HLE := Lib.hid hll.2.2
                          clear hll HLl
                          by_cases heq : l.length = L.length
                          · have heq' : ((l.length : Int) == (L.length : Int)) = true := by rw [beq_iff_eq]; omega
                            have HCM := Lib.hid (compare_any l L heq (by omega) (some ⟨lb, lo0, none⟩) pL c17 cL wr (HIl.out.below HB4.out) HIL.out)
                            rw [HLE.out heq] at HCM
                            have HEQ := Lib.hid heq
                            clear heq HLE
                            go_wp2_with fail
                            refine HCM.out.mono ?_
                            rintro e wq ⟨z, rfl, hz, rfl⟩
                            have hz' : ¬ z < 0 := by simpa using hz
                            clear hz HCM
                            by_cases h2 : l.length < 2
                            · have h2' : (l.length : Int) < 2 := by omega
                              go_wp2
                              go_roundw
                              case rel => exact ⟨k + 1, by omega, by go_num, Lib.hid (HBL.out.below HB4.out), Lib.hid (HH.out.trans (Hold.below HB4.out))⟩
                              case measure => simp [intOf]; omega
                            · have h2' : ¬ (l.length : Int) < 2 := by omega
                              have HBL := Lib.hid (HBL.out.below HB4.out)
                              have HH := Lib.hid (HH.out.trans (Hold.below HB4.out))
                              have HIl := Lib.hid (HIl.out.below HB4.out)
                              clear HB4
                              obtain ⟨w9, hw9'⟩ : ∃ W, W = wr := ⟨_, rfl⟩
                              rw [← hw9'] at HBL HH HIl ⊢
                              clear hw9'
                              go_wp2_with fail
                              go_loopw [218] (fun i wr => ∃ j : Nat, j ≤ l.length ∧ i = .int .i64 j ∧ Hid (Below w9.heap.size w9 wr)) (fun i _ => l.length - (intOf i).toNat)
                              case atStart => exact ⟨0, Nat.zero_le _, rfl, Lib.hid (Below.refl _ _)⟩
                              case round => as_aux_lemma =>
                                obtain ⟨j, hj, rfl, HB6⟩ := hrel
                                have HH6 := Lib.hid (HH.out.trans (Hold.below HB6.out))
                                by_cases hjl : j < l.length
                                · have hjl' : (j : Int) < l.length := by omega
                                  have hj0 : (0 : Int) ≤ (j : Int) := by omega
                                  obtain ⟨_, _, x, hqq, _, hxx, c1⟩ := (HIl.out.below HB6.out).at hjl
                                  injection hqq with hqq; injection hqq with hq1 hq2 _
                                  subst hq1; subst hq2
                                  have HXX := Lib.hid hxx
                                  have hb32 := below1 wr (.cells #[.int .i64 x] 3)
                                  have HX32 := Lib.hid (heap_last wr (.cells #[.int .i64 x] 3))
                                  have HI6 := Lib.hid ((HIl.out.below HB6.out).below hb32)
                                  have HB6 := Lib.hid (HB6.out.trans (hb32.mono HB6.out.size))
                                  have hs1 : IntKind.wrap .i64 ((j : Int) + 1) = ((j + 1 : Nat) : Int) := by rw [show (j : Int) + 1 = ((j + 1 : Nat) : Int) by omega]; exact IntWalk.i64_in _ (by omega)
                                  have hdel : (l.eraseIdx j).length = l.length - 1 := List.length_eraseIdx_of_lt hjl
                                  have hke := keptE_ok HE.out (show (l.eraseIdx j).length ≠ 0 by omega) (asc_erase HA.out j)
                                  have CKE := Lib.hid (fun g c' => HKS.out (l.eraseIdx j) (by omega) (some ⟨g, 0, none⟩) c')
                                  have hkb : keeB t (l.eraseIdx j) = t.keeps (l.eraseIdx j) := if_pos hke
                                  rw [hkb, hke, hdel] at CKE
                                  have HDR := Lib.hid (fun hw => keeps_drop HA.out HKP.out hjl hw)
                                  rw [← hxx] at HDR
                                  generalize keeN t (l.eraseIdx j) = kn6 at CKE
                                  clear hxx hke hkb hdel
                                  go_wp2_with fail
                                  clear c1
                                  generalize wr.alloc (.cells #[.int .i64 x] 3) = w10 at HX32 HI6 HB6 ⊢
                                  obtain ⟨c32, hc32⟩ : ∃ c, c = wr.heap.size := ⟨_, rfl⟩
                                  rw [← hc32] at HX32 ⊢
                                  clear hc32 hb32
                                  refine (clone_any l (by omega) (some ⟨lb, lo0, none⟩) c17 hl0 _ HI6.out).mono ?_
                                  rintro e w11 ⟨g, c', rfl, ho, hB⟩
                                  have hz910 := HB6.out.size
                                  have h32l := (Array.getElem?_eq_some_iff.1 HX32.out).1
                                  have HX32 := Lib.hid ((hB.block _ h32l).trans HX32.out)
                                  have HB6 := Lib.hid (HB6.out.trans (hB.mono HB6.out.size))
                                  have hg10 : w10.heap.size ≤ g := (own_blockS ho).1
                                  have hz10 : w10.heap.size ≤ w11.heap.size := hB.size
                                  have HO11 := Lib.hid ho
                                  clear hB ho
                                  go_wp2_with fail
                                  refine (delete_any l (by omega) j hjl w10.heap.size g c' w11 HO11.out).mono ?_
                                  rintro e w12 ⟨rfl, hI12, hB⟩
                                  have HI12 := Lib.hid hI12
                                  have HX32 := Lib.hid ((hB.block _ h32l).trans HX32.out)
                                  have HB6 := Lib.hid (HB6.out.trans (hB.mono hz910))
                                  have HH6 := Lib.hid (HH.out.trans (Hold.below HB6.out))
                                  have h32m := (Array.getElem?_eq_some_iff.1 HX32.out).1
                                  clear hB hI12 HO11 hg10 h32l hz10 HI6 hz910
                                  obtain ⟨hT, hX, -, -, -⟩ := HK.out _ HH6.out
                                  have HT := Lib.hid hT
                                  have HX := Lib.hid hX
                                  obtain ⟨k0, k1, k2⟩ := blk3 hX
                                  have hlT := (Array.getElem?_eq_some_iff.1 hX).1
                                  clear hT hX
                                  go_wp2_with fail
                                  refine (CKE.out g c' _ HT.out HI12.out).mono ?_
                                  rintro e w13 ⟨rfl, hB⟩
                                  have HX32 := Lib.hid ((hB.block _ h32m).trans HX32.out)
                                  have HX := Lib.hid ((hB.block _ hlT).trans HX.out)
                                  have HT := Lib.hid (HT.out.below hB)
                                  have HB6 := Lib.hid (HB6.out.trans (hB.mono HB6.out.size))
                                  clear k0 k1 k2 hlT hB CKE HI12 h32m
                                  obtain ⟨ke, hke'⟩ : ∃ ke, ke = t.keeps (l.eraseIdx j) := ⟨_, rfl⟩
                                  rw [← hke']
                                  have HKE := Lib.hid hke'
                                  clear hke'
                                  cases ke with
                                  | true =>
                                    clear HKE HDR HX HT HX32
                                    go_wp2
                                    go_roundw
                                    case rel => exact ⟨j + 1, by omega, by go_num, HB6⟩
                                    case measure => simp [intOf]; omega
                                  | false =>
                                    have HANY := Lib.hid (show t.turns.any (fun u => u.word == x) = true by
                                      rw [← Bool.not_eq_false]
                                      intro hn
                                      have := HDR.out (fun u hu e => by
                                        have h2 := List.any_eq_false.1 hn u hu
                                        simp [e] at h2)
                                      rw [← HKE.out] at this
                                      cases this)
                                    clear HKE HDR
                                    obtain ⟨k0, k1, k2⟩ := blk3 HX.out
                                    have hlT := (Array.getElem?_eq_some_iff.1 HX.out).1
                                    have hmf2 := hmf
                                    go_wp2_with fail
                                    refine (containsFuncT 74 entered_keptK1 (.pointer (some ⟨c32, 0, none⟩)) (fun u => u.word == x) t.turns q d _ hn3 HT.out.turns (fun W hW u _ => keptK1_any u x c32 W ((hW.block c32 (Array.getElem?_eq_some_iff.1 HX32.out).1).trans HX32.out))).mono ?_
                                    rintro e w14 ⟨rfl, hB⟩
                                    rw [HANY.out]
                                    have HB6 := Lib.hid (HB6.out.trans (hB.mono HB6.out.size))
                                    clear hB k0 k1 k2 hlT HT HX HX32
                                    go_wp2
                                    go_roundw
                                    case rel => exact ⟨j + 1, by omega, by go_num, HB6⟩
                                    case measure => simp [intOf]; omega
                                · have hirr6 : ¬ ((j : Int) < (l.length : Int)) := by omega
                                  go_wp2
                                  go_roundw
                                  case rel => exact ⟨k + 1, by omega, by go_num, Lib.hid (HBL.out.below HB6.out), Lib.hid (HH.out.trans (Hold.below HB6.out))⟩
                                  case measure => simp [intOf]; omega
                          · have heq' : ((l.length : Int) == (L.length : Int)) = false := by rw [beq_eq_false_iff_ne]; omega
                            clear HLE heq
                            by_cases h2 : l.length < 2
                            · have h2' : (l.length : Int) < 2 := by omega
                              go_wp2
                              go_roundw
                              case rel => exact ⟨k + 1, by omega, by go_num, Lib.hid (HBL.out.below HB4.out), Lib.hid (HH.out.trans (Hold.below HB4.out))⟩
                              case measure => simp [intOf]; omega
                            · have h2' : ¬ (l.length : Int) < 2 := by omega
                              have HBL := Lib.hid (HBL.out.below HB4.out)
                              have HH := Lib.hid (HH.out.trans (Hold.below HB4.out))
                              have HIl := Lib.hid (HIl.out.below HB4.out)
                              clear HB4
                              obtain ⟨w9, hw9'⟩ : ∃ W, W = wr := ⟨_, rfl⟩
                              rw [← hw9'] at HBL HH HIl ⊢
                              clear hw9'
                              go_wp2_with fail
                              go_loopw [218] (fun i wr => ∃ j : Nat, j ≤ l.length ∧ i = .int .i64 j ∧ Hid (Below w9.heap.size w9 wr)) (fun i _ => l.length - (intOf i).toNat)
                              case atStart => exact ⟨0, Nat.zero_le _, rfl, Lib.hid (Below.refl _ _)⟩
                              case round => as_aux_lemma =>
                                obtain ⟨j, hj, rfl, HB6⟩ := hrel
                                have HH6 := Lib.hid (HH.out.trans (Hold.below HB6.out))
                                by_cases hjl : j < l.length
                                · have hjl' : (j : Int) < l.length := by omega
                                  have hj0 : (0 : Int) ≤ (j : Int) := by omega
                                  obtain ⟨_, _, x, hqq, _, hxx, c1⟩ := (HIl.out.below HB6.out).at hjl
                                  injection hqq with hqq; injection hqq with hq1 hq2 _
                                  subst hq1; subst hq2
                                  have HXX := Lib.hid hxx
                                  have hb32 := below1 wr (.cells #[.int .i64 x] 3)
                                  have HX32 := Lib.hid (heap_last wr (.cells #[.int .i64 x] 3))
                                  have HI6 := Lib.hid ((HIl.out.below HB6.out).below hb32)
                                  have HB6 := Lib.hid (HB6.out.trans (hb32.mono HB6.out.size))
                                  have hs1 : IntKind.wrap .i64 ((j : Int) + 1) = ((j + 1 : Nat) : Int) := by rw [show (j : Int) + 1 = ((j + 1 : Nat) : Int) by omega]; exact IntWalk.i64_in _ (by omega)
                                  have hdel : (l.eraseIdx j).length = l.length - 1 := List.length_eraseIdx_of_lt hjl
                                  have hke := keptE_ok HE.out (show (l.eraseIdx j).length ≠ 0 by omega) (asc_erase HA.out j)
                                  have CKE := Lib.hid (fun g c' => HKS.out (l.eraseIdx j) (by omega) (some ⟨g, 0, none⟩) c')
                                  have hkb : keeB t (l.eraseIdx j) = t.keeps (l.eraseIdx j) := if_pos hke
                                  rw [hkb, hke, hdel] at CKE
                                  have HDR := Lib.hid (fun hw => keeps_drop HA.out HKP.out hjl hw)
                                  rw [← hxx] at HDR
                                  generalize keeN t (l.eraseIdx j) = kn6 at CKE
                                  clear hxx hke hkb hdel
                                  go_wp2_with fail
                                  clear c1
                                  generalize wr.alloc (.cells #[.int .i64 x] 3) = w10 at HX32 HI6 HB6 ⊢
                                  obtain ⟨c32, hc32⟩ : ∃ c, c = wr.heap.size := ⟨_, rfl⟩
                                  rw [← hc32] at HX32 ⊢
                                  clear hc32 hb32
                                  refine (clone_any l (by omega) (some ⟨lb, lo0, none⟩) c17 hl0 _ HI6.out).mono ?_
                                  rintro e w11 ⟨g, c', rfl, ho, hB⟩
                                  have hz910 := HB6.out.size
                                  have h32l := (Array.getElem?_eq_some_iff.1 HX32.out).1
                                  have HX32 := Lib.hid ((hB.block _ h32l).trans HX32.out)
                                  have HB6 := Lib.hid (HB6.out.trans (hB.mono HB6.out.size))
                                  have hg10 : w10.heap.size ≤ g := (own_blockS ho).1
                                  have hz10 : w10.heap.size ≤ w11.heap.size := hB.size
                                  have HO11 := Lib.hid ho
                                  clear hB ho
                                  go_wp2_with fail
                                  refine (delete_any l (by omega) j hjl w10.heap.size g c' w11 HO11.out).mono ?_
                                  rintro e w12 ⟨rfl, hI12, hB⟩
                                  have HI12 := Lib.hid hI12
                                  have HX32 := Lib.hid ((hB.block _ h32l).trans HX32.out)
                                  have HB6 := Lib.hid (HB6.out.trans (hB.mono hz910))
                                  have HH6 := Lib.hid (HH.out.trans (Hold.below HB6.out))
                                  have h32m := (Array.getElem?_eq_some_iff.1 HX32.out).1
                                  clear hB hI12 HO11 hg10 h32l hz10 HI6 hz910
                                  obtain ⟨hT, hX, -, -, -⟩ := HK.out _ HH6.out
                                  have HT := Lib.hid hT
                                  have HX := Lib.hid hX
                                  obtain ⟨k0, k1, k2⟩ := blk3 hX
                                  have hlT := (Array.getElem?_eq_some_iff.1 hX).1
                                  clear hT hX
                                  go_wp2_with fail
                                  refine (CKE.out g c' _ HT.out HI12.out).mono ?_
                                  rintro e w13 ⟨rfl, hB⟩
                                  have HX32 := Lib.hid ((hB.block _ h32m).trans HX32.out)
                                  have HX := Lib.hid ((hB.block _ hlT).trans HX.out)
                                  have HT := Lib.hid (HT.out.below hB)
                                  have HB6 := Lib.hid (HB6.out.trans (hB.mono HB6.out.size))
                                  clear k0 k1 k2 hlT hB CKE HI12 h32m
                                  obtain ⟨ke, hke'⟩ : ∃ ke, ke = t.keeps (l.eraseIdx j) := ⟨_, rfl⟩
                                  rw [← hke']
                                  have HKE := Lib.hid hke'
                                  clear hke'
                                  cases ke with
                                  | true =>
                                    clear HKE HDR HX HT HX32
                                    go_wp2
                                    go_roundw
                                    case rel => exact ⟨j + 1, by omega, by go_num, HB6⟩
                                    case measure => simp [intOf]; omega
                                  | false =>
                                    have HANY := Lib.hid (show t.turns.any (fun u => u.word == x) = true by
                                      rw [← Bool.not_eq_false]
                                      intro hn
                                      have := HDR.out (fun u hu e => by
                                        have h2 := List.any_eq_false.1 hn u hu
                                        simp [e] at h2)
                                      rw [← HKE.out] at this
                                      cases this)
                                    clear HKE HDR
                                    obtain ⟨k0, k1, k2⟩ := blk3 HX.out
                                    have hlT := (Array.getElem?_eq_some_iff.1 HX.out).1
                                    have hmf2 := hmf
                                    go_wp2_with fail
                                    refine (containsFuncT 74 entered_keptK1 (.pointer (some ⟨c32, 0, none⟩)) (fun u => u.word == x) t.turns q d _ hn3 HT.out.turns (fun W hW u _ => keptK1_any u x c32 W ((hW.block c32 (Array.getElem?_eq_some_iff.1 HX32.out).1).trans HX32.out))).mono ?_
                                    rintro e w14 ⟨rfl, hB⟩
                                    rw [HANY.out]
                                    have HB6 := Lib.hid (HB6.out.trans (hB.mono HB6.out.size))
                                    clear hB k0 k1 k2 hlT HT HX HX32
                                    go_wp2
                                    go_roundw
                                    case rel => exact ⟨j + 1, by omega, by go_num, HB6⟩
                                    case measure => simp [intOf]; omega
                                · have hirr6 : ¬ ((j : Int) < (l.length : Int)) := by omega
                                  go_wp2
                                  go_roundw
                                  case rel => exact ⟨k + 1, by omega, by go_num, Lib.hid (HBL.out.below HB6.out), Lib.hid (HH.out.trans (Hold.below HB6.out))⟩
                                  case measure => simp [intOf]; omega
                        · clear HLl
                          have hge' : ¬ sm ≥ wt := by omega
                          by_cases h2 : l.length < 2
                          · have h2' : (l.length : Int) < 2 := by omega
                            go_wp2
                            go_roundw
                            case rel => exact ⟨k + 1, by omega, by go_num, Lib.hid (HBL.out.below HB4.out), Lib.hid (HH.out.trans (Hold.below HB4.out))⟩
                            case measure => simp [intOf]; omega
                          · have h2' : ¬ (l.length : Int) < 2 := by omega
                            have HBL := Lib.hid (HBL.out.below HB4.out)
                            have HH := Lib.hid (HH.out.trans (Hold.below HB4.out))
                            have HIl := Lib.hid (HIl.out.below HB4.out)
                            clear HB4
                            obtain ⟨w9, hw9'⟩ : ∃ W, W = wr := ⟨_, rfl⟩
                            rw [← hw9'] at HBL HH HIl ⊢
                            clear hw9'
                            go_wp2_with fail
                            go_loopw [218] (fun i wr => ∃ j : Nat, j ≤ l.length ∧ i = .int .i64 j ∧ Hid (Below w9.heap.size w9 wr)) (fun i _ => l.length - (intOf i).toNat)
                            case atStart => exact ⟨0, Nat.zero_le _, rfl, Lib.hid (Below.refl _ _)⟩
                            case round => as_aux_lemma =>
                              obtain ⟨j, hj, rfl, HB6⟩ := hrel
                              have HH6 := Lib.hid (HH.out.trans (Hold.below HB6.out))
                              by_cases hjl : j < l.length
                              · have hjl' : (j : Int) < l.length := by omega
                                have hj0 : (0 : Int) ≤ (j : Int) := by omega
                                obtain ⟨_, _, x, hqq, _, hxx, c1⟩ := (HIl.out.below HB6.out).at hjl
                                injection hqq with hqq; injection hqq with hq1 hq2 _
                                subst hq1; subst hq2
                                have HXX := Lib.hid hxx
                                have hb32 := below1 wr (.cells #[.int .i64 x] 3)
                                have HX32 := Lib.hid (heap_last wr (.cells #[.int .i64 x] 3))
                                have HI6 := Lib.hid ((HIl.out.below HB6.out).below hb32)
                                have HB6 := Lib.hid (HB6.out.trans (hb32.mono HB6.out.size))
                                have hs1 : IntKind.wrap .i64 ((j : Int) + 1) = ((j + 1 : Nat) : Int) := by rw [show (j : Int) + 1 = ((j + 1 : Nat) : Int) by omega]; exact IntWalk.i64_in _ (by omega)
                                have hdel : (l.eraseIdx j).length = l.length - 1 := List.length_eraseIdx_of_lt hjl
                                have hke := keptE_ok HE.out (show (l.eraseIdx j).length ≠ 0 by omega) (asc_erase HA.out j)
                                have CKE := Lib.hid (fun g c' => HKS.out (l.eraseIdx j) (by omega) (some ⟨g, 0, none⟩) c')
                                have hkb : keeB t (l.eraseIdx j) = t.keeps (l.eraseIdx j) := if_pos hke
                                rw [hkb, hke, hdel] at CKE
                                have HDR := Lib.hid (fun hw => keeps_drop HA.out HKP.out hjl hw)
                                rw [← hxx] at HDR
                                generalize keeN t (l.eraseIdx j) = kn6 at CKE
                                clear hxx hke hkb hdel
                                go_wp2_with fail
                                clear c1
                                generalize wr.alloc (.cells #[.int .i64 x] 3) = w10 at HX32 HI6 HB6 ⊢
                                obtain ⟨c32, hc32⟩ : ∃ c, c = wr.heap.size := ⟨_, rfl⟩
                                rw [← hc32] at HX32 ⊢
                                clear hc32 hb32
                                refine (clone_any l (by omega) (some ⟨lb, lo0, none⟩) c17 hl0 _ HI6.out).mono ?_
                                rintro e w11 ⟨g, c', rfl, ho, hB⟩
                                have hz910 := HB6.out.size
                                have h32l := (Array.getElem?_eq_some_iff.1 HX32.out).1
                                have HX32 := Lib.hid ((hB.block _ h32l).trans HX32.out)
                                have HB6 := Lib.hid (HB6.out.trans (hB.mono HB6.out.size))
                                have hg10 : w10.heap.size ≤ g := (own_blockS ho).1
                                have hz10 : w10.heap.size ≤ w11.heap.size := hB.size
                                have HO11 := Lib.hid ho
                                clear hB ho
                                go_wp2_with fail
                                refine (delete_any l (by omega) j hjl w10.heap.size g c' w11 HO11.out).mono ?_
                                rintro e w12 ⟨rfl, hI12, hB⟩
                                have HI12 := Lib.hid hI12
                                have HX32 := Lib.hid ((hB.block _ h32l).trans HX32.out)
                                have HB6 := Lib.hid (HB6.out.trans (hB.mono hz910))
                                have HH6 := Lib.hid (HH.out.trans (Hold.below HB6.out))
                                have h32m := (Array.getElem?_eq_some_iff.1 HX32.out).1
                                clear hB hI12 HO11 hg10 h32l hz10 HI6 hz910
                                obtain ⟨hT, hX, -, -, -⟩ := HK.out _ HH6.out
                                have HT := Lib.hid hT
                                have HX := Lib.hid hX
                                obtain ⟨k0, k1, k2⟩ := blk3 hX
                                have hlT := (Array.getElem?_eq_some_iff.1 hX).1
                                clear hT hX
                                go_wp2_with fail
                                refine (CKE.out g c' _ HT.out HI12.out).mono ?_
                                rintro e w13 ⟨rfl, hB⟩
                                have HX32 := Lib.hid ((hB.block _ h32m).trans HX32.out)
                                have HX := Lib.hid ((hB.block _ hlT).trans HX.out)
                                have HT := Lib.hid (HT.out.below hB)
                                have HB6 := Lib.hid (HB6.out.trans (hB.mono HB6.out.size))
                                clear k0 k1 k2 hlT hB CKE HI12 h32m
                                obtain ⟨ke, hke'⟩ : ∃ ke, ke = t.keeps (l.eraseIdx j) := ⟨_, rfl⟩
                                rw [← hke']
                                have HKE := Lib.hid hke'
                                clear hke'
                                cases ke with
                                | true =>
                                  clear HKE HDR HX HT HX32
                                  go_wp2
                                  go_roundw
                                  case rel => exact ⟨j + 1, by omega, by go_num, HB6⟩
                                  case measure => simp [intOf]; omega
                                | false =>
                                  have HANY := Lib.hid (show t.turns.any (fun u => u.word == x) = true by
                                    rw [← Bool.not_eq_false]
                                    intro hn
                                    have := HDR.out (fun u hu e => by
                                      have h2 := List.any_eq_false.1 hn u hu
                                      simp [e] at h2)
                                    rw [← HKE.out] at this
                                    cases this)
                                  clear HKE HDR
                                  obtain ⟨k0, k1, k2⟩ := blk3 HX.out
                                  have hlT := (Array.getElem?_eq_some_iff.1 HX.out).1
                                  have hmf2 := hmf
                                  go_wp2_with fail
                                  refine (containsFuncT 74 entered_keptK1 (.pointer (some ⟨c32, 0, none⟩)) (fun u => u.word == x) t.turns q d _ hn3 HT.out.turns (fun W hW u _ => keptK1_any u x c32 W ((hW.block c32 (Array.getElem?_eq_some_iff.1 HX32.out).1).trans HX32.out))).mono ?_
                                  rintro e w14 ⟨rfl, hB⟩
                                  rw [HANY.out]
                                  have HB6 := Lib.hid (HB6.out.trans (hB.mono HB6.out.size))
                                  clear hB k0 k1 k2 hlT HT HX HX32
                                  go_wp2
                                  go_roundw
                                  case rel => exact ⟨j + 1, by omega, by go_num, HB6⟩
                                  case measure => simp [intOf]; omega
                              · have hirr6 : ¬ ((j : Int) < (l.length : Int)) := by omega
                                go_wp2
                                go_roundw
                                case rel => exact ⟨k + 1, by omega, by go_num, Lib.hid (HBL.out.below HB6.out), Lib.hid (HH.out.trans (Hold.below HB6.out))⟩
                                case measure => simp [intOf]; omega
      · obtain rfl : k = 8 := by omega
        clear hk hlt
        obtain ⟨hT, hX, hIL, hIS, -⟩ := HK.out _ HH.out
        have HT := Lib.hid hT
        have HIL := Lib.hid hIL
        have HIS := Lib.hid hIS
        obtain ⟨k0, k1, k2⟩ := blk3 hX
        have hlT := (Array.getElem?_eq_some_iff.1 hX).1
        clear hT hX hIL hIS
        go_wp2_with fail
        clear k0 k1 k2 hlT HT HIL HIS
        go_loopw [254] (fun i wr => ∃ j : Nat, j ≤ t.words.length ∧ i = .int .i64 j ∧ Hid (BellOk wr (T + 1) pq nq cq) ∧ Hid (Hold (fun k => k ≠ T + 1) WB wr)) (fun i _ => t.words.length - (intOf i).toNat)
        case atStart => exact ⟨0, Nat.zero_le _, rfl, HBL, HH⟩
        case round => as_aux_lemma =>
          clear HBL HH
          obtain ⟨j, hj, rfl, HBL, HH⟩ := hrel
          by_cases hjl : j < t.words.length
          · have hjl' : (j : Int) < t.words.length := by omega
            obtain ⟨w7, hw7⟩ : ∃ W, W = wr := ⟨_, rfl⟩
            rw [← hw7] at HBL HH ⊢
            clear hw7
            obtain ⟨hT, hX, hIL, hIS, -⟩ := HK.out _ HH.out
            have HT := Lib.hid hT
            have HIL := Lib.hid hIL
            have HIS := Lib.hid hIS
            obtain ⟨k0, k1, k2⟩ := blk3 hX
            have hlT := (Array.getElem?_eq_some_iff.1 hX).1
            clear hT hX hIL hIS
            have HX7 := Lib.hid (HK.out _ HH.out).2.1
            go_wp2_with fail
            clear k0 k1 k2 hlT
            obtain ⟨i0, hi0, hz0, hz1, hz2'⟩ := info_parts A_infoI
            go_loopw [38, 260] (fun v i wr => ∃ m : Nat, m ≤ t.words.length ∧ i = .int .i64 m ∧ Hid (wr.ownsRow w7.heap.size 3 1 v (wo m j).length ((wo m j).map (Value.int .i64))) ∧ Hid (Below w7.heap.size w7 wr)) (fun _ i _ => t.words.length - (intOf i).toNat)
            case atStart => exact ⟨0, Nat.zero_le _, rfl, Lib.hid (own_none _ _ _ _), Lib.hid (Below.refl _ _)⟩
            case round => as_aux_lemma =>
              obtain ⟨m, hm, rfl, HO, HB8⟩ := hrel
              obtain ⟨p38, c38, rfl⟩ := own_val HO.out
              have hzz := HB8.out.size
              have hwl := wo_len m j
              have HSN := Lib.hid (wo_succ m j)
              by_cases hml : m < t.words.length
              · have hml' : (m : Int) < t.words.length := by omega
                by_cases hmj : m = j
                · subst hmj
                  have HSM := Lib.hid (show wo (m + 1) m = wo m m by rw [HSN.out, if_pos rfl, List.append_nil])
                  clear HSN
                  go_wp2
                  go_roundw
                  case rel => first | exact ⟨m + 1, by omega, by go_num, Lib.hid (by rw [HSM.out]; exact HO.out), HB8⟩ | ((repeat apply Exists.intro); exact ⟨⟨m + 1, by omega, by go_num, Lib.hid (by rw [HSM.out]; exact HO.out), HB8⟩, rfl⟩)
                  case measure => simp [intOf]; omega
                · have hmj' : ((m : Int) != (j : Int)) = true := by rw [bne_iff_ne]; omega
                  have HSM := Lib.hid (show wo (m + 1) j = wo m j ++ [(m : Int)] by rw [HSN.out, if_neg hmj])
                  clear hmj HSN
                  go_wp2_with (at_builtin; refine wpList_append_own _ rfl _ _ 28 rfl w7.heap.size 3 i0 (.int .i64 0) 1 8 A_undI hi0 hz0 hz1 hz2' rfl (by decide) _ _ _ rfl (HO.out.alloc _) ⟨wr.heap.size, 0, none⟩ 1 1 [.int .i64 (m : Int)] rfl rfl ?d1 ?d2 ?d3 ?d4 ?d5 ?_)
                  case d1 => exact cell_one_new _ _ _
                  case d2 => first | rfl | (intro u hu; simp at hu; subst hu; rfl)
                  case d3 => unfold maxLen; omega
                  case d4 => omega
                  case d5 => first | omega | (simp; omega)
                  intro v' w8 hown8 hgrow _
                  have HB9 := Lib.hid (below_grown (al2 HB8.out (by omega) _) (HO.out.alloc _) (Nat.le_refl _) (by simp; omega) hgrow)
                  have HO9 := Lib.hid hown8
                  clear hgrow hown8
                  go_wp2
                  go_roundw
                  case rel => first | exact ⟨m + 1, by omega, by go_num, Lib.hid (by rw [HSM.out]; simpa using HO9.out), HB9⟩ | ((repeat apply Exists.intro); exact ⟨⟨m + 1, by omega, by go_num, Lib.hid (by rw [HSM.out]; simpa using HO9.out), HB9⟩, rfl⟩)
                  case measure => simp [intOf]; omega
              · have hmn : m = t.words.length := by omega
                have hirr : ¬ ((m : Int) < (t.words.length : Int)) := by omega
                have HSPJ := Lib.hid (HSP.out j hjl)
                have HWL2 := Lib.hid (wo_len2 t.words.length j hjl)
                have HAW := Lib.hid (asc_wo t.words.length j)
                have HSD := Lib.hid (show spareP t j = (decide (0 < (wo t.words.length j).length) && t.keeps (wo t.words.length j)) from rfl)
                rw [hmn] at HO
                rw [hmn]
                clear HSN hwl
                generalize wo t.words.length j = ol at HO HSPJ HWL2 HAW HSD ⊢
                have hol : ol.length ≤ 1000000 := by have := HWL2.out; omega
                have CKO := Lib.hid (HKS.out ol hol p38 c38)
                obtain ⟨_, _, f1, hIo, -⟩ := own_rd HO.out rfl
                injection f1 with f1 _ f3; subst f1; subst f3
                have HIo := Lib.hid hIo
                clear hIo HO
                have HIS := Lib.hid (HIS.out.below HB8.out)
                have HBL := Lib.hid (HBL.out.below HB8.out)
                have HH := Lib.hid (HH.out.trans (Hold.below HB8.out))
                have HT := Lib.hid (HT.out.below HB8.out)
                have HX7 := (HB8.out.block T (Array.getElem?_eq_some_iff.1 HX7.out).1).trans HX7.out
                obtain ⟨k0, k1, k2⟩ := blk3 HX7
                have hlT := (Array.getElem?_eq_some_iff.1 HX7).1
                clear HX7 hmn HB8
                by_cases ho0 : ol.length = 0
                · have hke : t.keptE ol = 2 := by rw [keptE_eq, if_neg (by simpa using HE.out), if_pos ho0]
                  have hkb : keeB t ol = false := if_neg (by rw [hke]; decide)
                  have hsp : spareP t j = false := by rw [HSD.out, ho0]; rfl
                  rw [hkb, hke] at CKO
                  rw [hsp] at HSPJ
                  clear hke hkb hsp HSD HAW HWL2 ho0
                  go_wp2_with fail
                  refine (CKO.out _ HT.out HIo.out).mono ?_
                  rintro e w14 ⟨rfl, hB⟩
                  have HBL := Lib.hid (HBL.out.below hB)
                  have HH := Lib.hid (HH.out.trans (Hold.below hB))
                  have HIS := Lib.hid (HIS.out.below hB)
                  clear hB k0 k1 k2 hlT HT HIo CKO
                  go_wp2_with fail
                  refine (contains_any SP hSl pS cS (j : Int) w14 HIS.out).mono ?_
                  rintro e w15 ⟨rfl, rfl⟩
                  rw [HSPJ.out]
                  go_wp2
                  go_roundw
                  case rel => first | exact ⟨j + 1, by omega, by go_num, HBL, HH⟩ | ((repeat apply Exists.intro); exact ⟨⟨j + 1, by omega, by go_num, HBL, HH⟩, rfl⟩)
                  case measure => simp [intOf]; omega
                · have hke := keptE_ok HE.out ho0 HAW.out
                  have hkb : keeB t ol = t.keeps ol := if_pos hke
                  have hsp : spareP t j = t.keeps ol := by rw [HSD.out, decide_eq_true (by omega), Bool.true_and]
                  rw [hkb, hke] at CKO
                  rw [hsp] at HSPJ
                  generalize t.keeps ol = kb at CKO HSPJ
                  clear hke hkb hsp HSD HAW HWL2 ho0
                  go_wp2_with fail
                  refine (CKO.out _ HT.out HIo.out).mono ?_
                  rintro e w14 ⟨rfl, hB⟩
                  have HBL := Lib.hid (HBL.out.below hB)
                  have HH := Lib.hid (HH.out.trans (Hold.below hB))
                  have HIS := Lib.hid (HIS.out.below hB)
                  clear hB k0 k1 k2 hlT HT HIo CKO
                  go_wp2_with fail
                  refine (contains_any SP hSl pS cS (j : Int) w14 HIS.out).mono ?_
                  rintro e w15 ⟨rfl, rfl⟩
                  rw [HSPJ.out]
                  go_wp2
                  go_roundw
                  case rel => first | exact ⟨j + 1, by omega, by go_num, HBL, HH⟩ | ((repeat apply Exists.intro); exact ⟨⟨j + 1, by omega, by go_num, HBL, HH⟩, rfl⟩)
                  case measure => simp [intOf]; omega
          · have hirr : ¬ ((j : Int) < (t.words.length : Int)) := by omega
            go_wp2_with fail
            refine (awake_any _).mono ?_
            rintro e wz ⟨rfl, hB⟩
            have HBF := Lib.hid (HK.out _ (HH.out.trans (Hold.below hB))).2.2.2.2
            clear hB
            go_wp2
            go_ret
            exact ⟨rfl, HBF.out⟩
  · have HLP := Lib.hid (show ∀ l, Asc l t.words.length → l.length ≠ 0 → t.keeps l = true → wt ≤ t.wtOf l → er = 0 ∧ ¬ l.length < L.length ∧ (l.length = L.length → lexB l L = false) from fun l a b c d => (hLP l a b c d).elim)
    have hq1 : (er == 0) = false := by rw [hE]; rfl
    have hq2 : (er != 6) = false := by rw [hE]; rfl
    clear hLP hE
    have hzB := hWB5
    have hlw := hWB5
    obtain ⟨k0, k1, k2⟩ := blk3 HX5.out
    have hlT := (Array.getElem?_eq_some_iff.1 HX5.out).1
    go_wp2_with fail
    clear hlw
    refine (Spare_any t hn9 hn3 p q c d _ HT5.out).mono ?_
    rintro e WB ⟨v, rfl, hown, hB⟩
    obtain ⟨pS, cS, rfl, -⟩ := own_rd hown rfl
    have HOS := Lib.hid hown
    have HBL := Lib.hid (HBL.out.below hB)
    have HOL := Lib.hid (own_below HOL.out hB)
    have HT5 := Lib.hid (HT5.out.below hB)
    have HX5 := Lib.hid ((hB.block T hlT).trans HX5.out)
    have HB35 := Lib.hid (HB35.out.trans (hB.mono (by omega)))
    have hzW : T + 2 ≤ WB.heap.size := by have := hB.size; omega
    clear hB hown k0 k1 k2 hlT
    rw [HE.out]
    have HSP := Lib.hid (fun x hx => spare_has (t := t) (x := x) HE.out hx)
    have hSl : (spaL t).length ≤ 1000000 := by
      unfold spaL
      split
      · have := spareTo_len t t.words.length; omega
      · simp
    generalize spaL t = SP at HSP hSl HOS ⊢
    have HK := Lib.hid (show ∀ W, Hold (fun k => k ≠ T + 1) WB W → TxAt W t p q ∧ W.heap[T]? = some (.cells #[.slice p t.words.length c, .slice q t.turns.length d, .int .i64 t.breath] 25 (0, 0)) ∧ Ints W pL L ∧ Ints W pS SP ∧ Below w.heap.size w W from fun W h => by
      have o1 := own_hold HOL.out h (fun k hk => by show k ≠ T + 1; omega)
      have o2 := own_hold HOS.out h (fun k hk => by show k ≠ T + 1; omega)
      obtain ⟨_, _, f1, g1, -⟩ := own_rd o1 rfl
      injection f1 with f1 _ _; subst f1
      obtain ⟨_, _, f2, g2, -⟩ := own_rd o2 rfl
      injection f2 with f2 _ _; subst f2
      have hb : Below (T + 1) W3 W := HB35.out.trans (hold_below h (by omega))
      refine ⟨HTK.out _ hb, (h.same T (show T ≠ T + 1 by omega) (by omega)).trans HX5.out, g1, g2, HW3.out.trans (hb.mono (by omega))⟩)
    have HH := Lib.hid (Hold.refl (fun k => k ≠ T + 1) WB)
    clear HOL HOS HT5 HX5 HB35 HTK HW3 HPW HD
    have hw9 : t.words.length ≤ 9 := HW9.out
    have ht3 : t.turns.length ≤ 3 := HT3.out
    go_wp2_with fail
    go_loopw [86] (fun i wr => ∃ k : Nat, k ≤ 8 ∧ i = .int .i64 k ∧ Hid (BellOk wr (T + 1) pq nq cq) ∧ Hid (Hold (fun k => k ≠ T + 1) WB wr)) (fun i _ => 8 - (intOf i).toNat)
    case atStart => exact ⟨0, by omega, rfl, HBL, HH⟩
    case round => as_aux_lemma =>
      clear HBL HH
      obtain ⟨k, hk, rfl, HBL, HH⟩ := hrel
      have hz3 : T + 2 ≤ wr.heap.size := by have := HH.out.size; omega
      by_cases hlt : k < 8
      · have hlt' : (k : Int) < 8 := by omega
        go_wp2_with fail
        refine (strike_any (T + 1) pq nq cq 2 4 2 (by omega) (by omega) (by omega) (by omega) _ HBL.out).mono ?_
        rintro e w2 ⟨x, x0, x1, rfl, hB, hH⟩
        obtain ⟨of', rfl⟩ := Int.eq_ofNat_of_zero_le (show 0 ≤ x by omega)
        have HBL := Lib.hid hB
        have HH := Lib.hid (HH.out.trans hH)
        have hz2 : T + 2 ≤ w2.heap.size := by have := HH.out.size; omega
        clear hB hH
        obtain ⟨hT, hX, hIL, hIS, -⟩ := HK.out _ HH.out
        have HT := Lib.hid hT
        have HIL := Lib.hid hIL
        have HIS := Lib.hid hIS
        obtain ⟨k0, k1, k2⟩ := blk3 hX
        have hlT := (Array.getElem?_eq_some_iff.1 hX).1
        clear hT hX hIL hIS
        go_wp2_with fail
        clear k0 k1 k2 hlT HT HIL HIS
        have HR0 := Lib.hid (show RowsB w2 T w2.heap.size pq nq cq (.slice none 0 0) [] (.slice none 0 0) [] w2 from ⟨Two.start _ _, HBL.out, Hold.refl _ _, hz2⟩)
        clear HBL
        go_loopw [17, 93] (fun va i wr => ∃ (j : Nat) (l : List Int), j ≤ t.words.length ∧ i = .int .i64 j ∧ Hid (Asc l j) ∧ Hid (RowsB w2 T w2.heap.size pq nq cq va l (.slice none 0 0) [] wr)) (fun _ i _ => t.words.length - (intOf i).toNat)
        case atStart => exact ⟨0, [], Nat.zero_le _, rfl, Lib.hid ⟨List.Pairwise.nil, by simp⟩, HR0⟩
        case round => as_aux_lemma =>
          clear HR0
          obtain ⟨j, l, hj, rfl, HA, HR⟩ := hrel
          obtain ⟨p17, c17, rfl⟩ := own_val HR.out.two.oa
          have hjl := asc_len HA.out
          by_cases hltj : j < t.words.length
          · have hltj' : (j : Int) < t.words.length := by omega
            go_wp2_with fail
            refine (seldom_any (T + 1) pq nq cq of' (by omega) (by omega) _ HR.out.bell).mono ?_
            rintro e wB ⟨b, rfl, hB, hH⟩
            have HR := Lib.hid (HR.out.ring hB hH)
            have hzB2 : w2.heap.size ≤ wB.heap.size := HR.out.hold.size
            clear hB hH
            cases b with
            | true =>
              go_wp2
              go_roundw
              case rel => exact ⟨j + 1, l, by omega, by go_num, Lib.hid (asc_mono HA.out (by omega)), HR⟩
              case measure => simp [intOf]; omega
            | false =>
              have HR1 := Lib.hid (HR.out.below (below1 wB (.cells #[.int .i64 (j : Int)] 3)))
              go_wp2_with (at_builtin; refine wpList_append_whichI rfl _ _ rfl w2.heap.size _ _ _ rfl HR1.out.two.oa ⟨wB.heap.size, 0, none⟩ _ rfl (cell_one_new _ _ _ 0 _ rfl) rfl ?y1 ?y2 ?_)
              case y1 => simp; omega
              case y2 => omega
              intro v' wC hown hgrow hwhich
              have hwhich : v'.ownBlock = (Value.slice p17 l.length c17).ownBlock ∨ v'.ownBlock = some (wB.alloc (.cells #[.int .i64 (j : Int)] 3)).heap.size := by rw [World.size_alloc]; simpa using hwhich
              obtain ⟨pB, cB, rfl⟩ := own_val hown
              have HR2 := Lib.hid (RowsB.app HMX.out (Nat.le_refl _) HR1.out hown hgrow hwhich)
              clear hown hgrow hwhich HR HR1
              go_wp2
              go_roundw
              case rel => exact ⟨j + 1, l ++ [(j : Int)], by omega, by go_num, Lib.hid (asc_snoc HA.out), HR2⟩
              case measure => simp [intOf]; omega
          · obtain rfl : j = t.words.length := by omega
            clear hj hltj
            have hzr : w2.heap.size ≤ wr.heap.size := HR.out.hold.size
            have HK2 := Lib.hid (show ∀ W, Hold (fun k => k ≠ T + 1) wr W → Ints W p17 l from fun W h => by
              have o1 := own_hold HR.out.two.oa h (fun k hk => by show k ≠ T + 1; omega)
              obtain ⟨_, _, f1, g1, -⟩ := own_rd o1 rfl
              injection f1 with f1 _ _; subst f1
              exact g1)
            have HBL := Lib.hid HR.out.bell
            have HH := Lib.hid (HH.out.trans HR.out.hold)
            have HIl := Lib.hid (HK2.out wr (Hold.refl _ _))
            clear HR HK2
            by_cases hl0 : l.length = 0
            · have hl0' : (l.length : Int) = 0 := by omega
              go_wp2
              go_roundw
              case rel => exact ⟨k + 1, by omega, by go_num, HBL, HH⟩
              case measure => simp [intOf]; omega
            · have hl0' : ¬ (l.length : Int) = 0 := by omega
              have hl0q : ((l.length : Int) == 0) = false := by simpa using hl0'
              have hlw9 := asc_len HA.out
              have hke := keptE_ok HE.out hl0 HA.out
              have CK := Lib.hid (HKS.out l (by omega) p17 c17)
              have hkb : keeB t l = t.keeps l := if_pos hke
              have hkn : keeN t l = t.wtOf l := if_pos hke
              rw [hkb, hkn, hke] at CK
              clear hke hkb hkn
              obtain ⟨hT, hX, hIL, hIS, -⟩ := HK.out _ HH.out
              have HT := Lib.hid hT
              have HIL := Lib.hid hIL
              have HIS := Lib.hid hIS
              obtain ⟨k0, k1, k2⟩ := blk3 hX
              have hlT := (Array.getElem?_eq_some_iff.1 hX).1
              clear hT hX hIL hIS
              go_wp2_with fail
              refine (CK.out _ HT.out HIl.out).mono ?_
              rintro e w8 ⟨rfl, hB⟩
              have HBL := Lib.hid (HBL.out.below hB)
              have HH := Lib.hid (HH.out.trans (Hold.below hB))
              have HIl := Lib.hid (HIl.out.below hB)
              clear hB CK
              clear k0 k1 k2 hlT HT HIL HIS
              obtain ⟨lb, lo0, _, rfl, -, -, -⟩ := HIl.out.at (i := 0) (by omega)
              obtain ⟨hT, hX, hIL, hIS, -⟩ := HK.out _ HH.out
              have HT := Lib.hid hT
              have HIL := Lib.hid hIL
              have HIS := Lib.hid hIS
              obtain ⟨k0, k1, k2⟩ := blk3 hX
              have hlT := (Array.getElem?_eq_some_iff.1 hX).1
              clear hT hX hIL hIS
              go_wp2_with fail
              have HW8 := Lib.hid HT.out.words
              go_loop [23, 117] (fun sv i => ∃ j : Nat, j ≤ l.length ∧ i = .int .i64 j ∧ sv = .int .i64 (isum ((l.take j).map fun i => (t.words.getD i.toNat default).wt))) (fun _ i => l.length - (intOf i).toNat)
              case atStart => exact ⟨0, Nat.zero_le _, rfl, rfl⟩
              case round => as_aux_lemma =>
                obtain ⟨j, hj, rfl, rfl⟩ := hrel
                have hbd := isum_bd ((l.take j).map fun i => (t.words.getD i.toNat default).wt) 0 20 (fun y hy => by
                  obtain ⟨i, hi, rfl⟩ := List.mem_map.1 hy
                  have hi2 := HA.out.rng i (List.mem_of_mem_take hi)
                  have := HOK.out.word (t.words.getD i.toNat default) (getD_mem default (by omega))
                  exact ⟨this.2.2.1, this.2.2.2⟩)
                rw [List.length_map, List.length_take] at hbd
                by_cases hjl : j < l.length
                · have hjl' : (j : Int) < l.length := by omega
                  have hj0 : (0 : Int) ≤ (j : Int) := by omega
                  obtain ⟨_, _, x, hqq, _, hxx, c1⟩ := HIl.out.at hjl
                  injection hqq with hqq; injection hqq with hq1 hq2 _
                  subst hq1; subst hq2
                  have hxb := HA.out.rng x (by rw [hxx]; exact getD_mem 0 hjl)
                  obtain ⟨y, rfl⟩ := Int.eq_ofNat_of_zero_le hxb.1
                  have hyn : y < t.words.length := by omega
                  have hyn' : (y : Int) < t.words.length := by omega
                  have hy0 : (0 : Int) ≤ (y : Int) := by omega
                  obtain ⟨wb, wo', z, hqq, _, hzz, d0, d1, d2⟩ := HW8.out.at hyn
                  subst hqq
                  have hzw := HOK.out.word z (by rw [hzz]; exact getD_mem default hyn)
                  have HSN := Lib.hid (show isum ((l.take (j + 1)).map fun i => (t.words.getD i.toNat default).wt) = isum ((l.take j).map fun i => (t.words.getD i.toNat default).wt) + z.wt by
                    rw [take_snocD 0 hjl, ← hxx, List.map_append, List.map_cons, List.map_nil, isum_snoc, show ((y : Int)).toNat = y by omega, ← hzz])
                  generalize isum ((l.take j).map fun i => (t.words.getD i.toNat default).wt) = sm0 at HSN hbd ⊢
                  have hadd : IntKind.wrap .i64 (sm0 + z.wt) = sm0 + z.wt := IntWalk.i64_in _ (by omega)
                  clear hxx hzz
                  go_wp2
                  go_round
                  case rel => exact ⟨j + 1, by omega, by go_num, by rw [HSN.out]⟩
                  case measure => simp only [intOf]; omega
                · obtain rfl : j = l.length := by omega
                  rw [List.take_length]
                  clear hbd hj hjl
                  have HSM := Lib.hid (show isum (l.map fun i => (t.words.getD i.toNat default).wt) = t.wtOf l from rfl)
                  rw [HSM.out]
                  clear HSM HW8
                  have HKP := Lib.hid (keeps_fold t l)
                  have HLl := Lib.hid (HLP.out l HA.out hl0)
                  generalize t.wtOf l = sm at HLl ⊢
                  go_wp2_with fail
                  have HX8 := Lib.hid (HK.out _ HH.out).2.1
                  clear k0 k1 k2 hlT
                  go_loopw [24, 133] (fun kb i wr => ∃ j : Nat, j ≤ t.turns.length ∧ i = .int .i64 j ∧ kb = .bool ((t.turns.take j).all fun u => !coreIn u l || l.contains u.word) ∧ Hid (Below w8.heap.size w8 wr)) (fun _ i _ => t.turns.length - (intOf i).toNat)
                  case atStart => exact ⟨0, Nat.zero_le _, rfl, rfl, Lib.hid (Below.refl _ _)⟩
                  case round => as_aux_lemma =>
                    obtain ⟨j, hj, rfl, rfl, HB4⟩ := hrel
                    by_cases hjl : j < t.turns.length
                    · have hjl' : (j : Int) < t.turns.length := by omega
                      obtain ⟨tb, to', u, hqq, _, hxx, d0, d1, d2⟩ := (HT.out.below HB4.out).turns.at hjl
                      subst hqq
                      have hur := HOK.out.turn u (by rw [hxx]; exact getD_mem default hjl)
                      have HSN := Lib.hid (show ((t.turns.take (j + 1)).all fun u => !coreIn u l || l.contains u.word) = (((t.turns.take j).all fun u => !coreIn u l || l.contains u.word) && (!coreIn u l || l.contains u.word)) by
                        rw [take_snocD default hjl, ← hxx, List.all_append]; simp)
                      generalize ((t.turns.take j).all fun u => !coreIn u l || l.contains u.word) = kb0 at HSN ⊢
                      clear hxx
                      obtain ⟨uw, ul, uh⟩ := u
                      dsimp only at d0 d1 d2 hur HSN
                      obtain ⟨ul', rfl⟩ := Int.eq_ofNat_of_zero_le hur.2.2.1
                      obtain ⟨uh', rfl⟩ := Int.eq_ofNat_of_zero_le (show 0 ≤ uh by omega)
                      have huu : ul' ≤ uh' := by omega
                      have huh : uh' ≤ 20 := by omega
                      obtain ⟨c28, hc28⟩ : ∃ c, c = wr.heap.size := ⟨_, rfl⟩
                      have hX28 := heap_last wr (.cells #[.int .i64 uw, .int .i64 (ul' : Int), .int .i64 (uh' : Int)] 80)
                      have hal := below1 wr (.cells #[.int .i64 uw, .int .i64 (ul' : Int), .int .i64 (uh' : Int)] 80)
                      have HB9 := Lib.hid (HB4.out.trans (hal.mono HB4.out.size))
                      go_wp2_with fail
                      clear d0 d1 d2 hal hur
                      generalize wr.alloc (.cells #[.int .i64 uw, .int .i64 (ul' : Int), .int .i64 (uh' : Int)] 80) = W9 at hX28 HB9 ⊢
                      rw [← hc28] at hX28 ⊢
                      clear hc28
                      have HCT := Lib.hid (fun x => contains_any l (by omega) (some ⟨lb, lo0, none⟩) c17 x W9 (HIl.out.below HB9.out))
                      obtain ⟨n0, n1, n2⟩ := blk3 hX28
                      have hl28 := (Array.getElem?_eq_some_iff.1 hX28).1
                      clear hX28 HT HIL HIS
                      go_loop [29, 30] (fun cv i => ∃ a : Nat, ul' + a ≤ uh' + 1 ∧ i = .int .i64 ((ul' : Int) + (a : Int)) ∧ cv = .bool ((List.range a).all fun i => l.contains ((ul' : Int) + (i : Int)))) (fun _ i => uh' + 1 - (intOf i).toNat)
                      case atStart => exact ⟨0, by omega, by simp, rfl⟩
                      case round => as_aux_lemma =>
                        obtain ⟨a, ha, rfl, rfl⟩ := hrel
                        by_cases hac : ul' + a ≤ uh'
                        · have hac' : (ul' : Int) + (a : Int) ≤ (uh' : Int) := by omega
                          have HUP := Lib.hid (show ((List.range (a + 1)).all fun i => l.contains ((ul' : Int) + (i : Int))) = (((List.range a).all fun i => l.contains ((ul' : Int) + (i : Int))) && l.contains ((ul' : Int) + (a : Int))) by
                            rw [List.range_succ, List.all_append]; simp)
                          have hadd : IntKind.wrap .i64 ((ul' : Int) + (a : Int) + 1) = (ul' : Int) + (a : Int) + 1 := IntWalk.i64_in _ (by omega)
                          have HCJ := Lib.hid (HCT.out ((ul' : Int) + (a : Int)))
                          generalize ((List.range a).all fun i => l.contains ((ul' : Int) + (i : Int))) = al2 at HUP ⊢
                          generalize l.contains ((ul' : Int) + (a : Int)) = cj at HUP HCJ
                          cases al2 with
                          | true =>
                            go_wp2_with fail
                            refine HCJ.out.mono ?_
                            rintro e wj ⟨rfl, rfl⟩
                            go_wp2
                            go_round
                            case rel => exact ⟨a + 1, by omega, by push_cast; rw [Int.add_assoc], by rw [HUP.out, Bool.true_and]⟩
                            case measure => simp only [intOf]; omega
                          | false =>
                            go_wp2
                            go_round
                            case rel => exact ⟨a + 1, by omega, by push_cast; rw [Int.add_assoc], by rw [HUP.out, Bool.false_and]⟩
                            case measure => simp only [intOf]; omega
                        · have hac' : ¬ (ul' : Int) + (a : Int) ≤ (uh' : Int) := by omega
                          have HAL := Lib.hid (show ((List.range a).all fun i => l.contains ((ul' : Int) + (i : Int))) = coreIn ⟨uw, (ul' : Int), (uh' : Int)⟩ l by
                            unfold coreIn
                            rw [show ((uh' : Int) + 1 - (ul' : Int)).toNat = a by omega])
                          rw [HAL.out]
                          clear HAL
                          have HCQ := Lib.hid (HCT.out uw)
                          generalize coreIn ⟨uw, (ul' : Int), (uh' : Int)⟩ l = co at HSN ⊢
                          generalize l.contains uw = cw2 at HSN HCQ
                          cases kb0 with
                          | false =>
                            go_wp2
                            go_roundw
                            case rel => exact ⟨j + 1, by omega, by go_num, by rw [HSN.out]; rfl, HB9⟩
                            case measure => simp [intOf]; omega
                          | true =>
                            cases co with
                            | false =>
                              go_wp2
                              go_roundw
                              case rel => exact ⟨j + 1, by omega, by go_num, by rw [HSN.out]; rfl, HB9⟩
                              case measure => simp [intOf]; omega
                            | true =>
                              go_wp2_with fail
                              refine HCQ.out.mono ?_
                              rintro e wj ⟨rfl, rfl⟩
                              go_wp2
                              go_roundw
                              case rel => exact ⟨j + 1, by omega, by go_num, by rw [HSN.out]; simp, HB9⟩
                              case measure => simp [intOf]; omega
                    · have hkt : ((t.turns.take j).all fun u => !coreIn u l || l.contains u.word) = t.keeps l := by
                        rw [show j = t.turns.length by omega, List.take_length]; exact HKP.out
                      have hirr : ¬ ((j : Int) < (t.turns.length : Int)) := by omega
                      rw [hkt]
                      clear hkt hj hjl
                      obtain ⟨kp, hkp⟩ : ∃ kp, kp = t.keeps l := ⟨_, rfl⟩
                      rw [← hkp] at HLl ⊢
                      cases kp with
                      | false =>
                        clear HT HIL HIS hkp
                        go_wp2
                        go_roundw
                        case rel => exact ⟨k + 1, by omega, by go_num, Lib.hid (HBL.out.below HB4.out), Lib.hid (HH.out.trans (Hold.below HB4.out))⟩
                        case measure => simp [intOf]; omega
                      | true =>
                        have HKP := Lib.hid hkp.symm
                        clear hkp
                        have HIL := Lib.hid (HIL.out.below HB4.out)
                        clear HT HIS
                        by_cases hge : wt ≤ sm
                        · have hll := HLl.out rfl hge
                          have hnl : ¬ (l.length : Int) < (L.length : Int) := by have := hll.2.1; omega
                          have her : (er != 0) = false := by rw [hll.1]; rfl
                          have HLE := Lib.hid hll.2.2
                          clear hll HLl
                          by_cases heq : l.length = L.length
                          · have heq' : ((l.length : Int) == (L.length : Int)) = true := by rw [beq_iff_eq]; omega
                            have HCM := Lib.hid (compare_any l L heq (by omega) (some ⟨lb, lo0, none⟩) pL c17 cL wr (HIl.out.below HB4.out) HIL.out)
                            rw [HLE.out heq] at HCM
                            have HEQ := Lib.hid heq
                            clear heq HLE
                            go_wp2_with fail
                            refine HCM.out.mono ?_
                            rintro e wq ⟨z, rfl, hz, rfl⟩
                            have hz' : ¬ z < 0 := by simpa using hz
                            clear hz HCM
                            by_cases h2 : l.length < 2
                            · have h2' : (l.length : Int) < 2 := by omega
                              go_wp2
                              go_roundw
                              case rel => exact ⟨k + 1, by omega, by go_num, Lib.hid (HBL.out.below HB4.out), Lib.hid (HH.out.trans (Hold.below HB4.out))⟩
                              case measure => simp [intOf]; omega
                            · have h2' : ¬ (l.length : Int) < 2 := by omega
                              have HBL := Lib.hid (HBL.out.below HB4.out)
                              have HH := Lib.hid (HH.out.trans (Hold.below HB4.out))
                              have HIl := Lib.hid (HIl.out.below HB4.out)
                              clear HB4
                              obtain ⟨w9, hw9'⟩ : ∃ W, W = wr := ⟨_, rfl⟩
                              rw [← hw9'] at HBL HH HIl ⊢
                              clear hw9'
                              go_wp2_with fail
                              go_loopw [218] (fun i wr => ∃ j : Nat, j ≤ l.length ∧ i = .int .i64 j ∧ Hid (Below w9.heap.size w9 wr)) (fun i _ => l.length - (intOf i).toNat)
                              case atStart => exact ⟨0, Nat.zero_le _, rfl, Lib.hid (Below.refl _ _)⟩
                              case round => as_aux_lemma =>
                                obtain ⟨j, hj, rfl, HB6⟩ := hrel
                                have HH6 := Lib.hid (HH.out.trans (Hold.below HB6.out))
                                by_cases hjl : j < l.length
                                · have hjl' : (j : Int) < l.length := by omega
                                  have hj0 : (0 : Int) ≤ (j : Int) := by omega
                                  obtain ⟨_, _, x, hqq, _, hxx, c1⟩ := (HIl.out.below HB6.out).at hjl
                                  injection hqq with hqq; injection hqq with hq1 hq2 _
                                  subst hq1; subst hq2
                                  have HXX := Lib.hid hxx
                                  have hb32 := below1 wr (.cells #[.int .i64 x] 3)
                                  have HX32 := Lib.hid (heap_last wr (.cells #[.int .i64 x] 3))
                                  have HI6 := Lib.hid ((HIl.out.below HB6.out).below hb32)
                                  have HB6 := Lib.hid (HB6.out.trans (hb32.mono HB6.out.size))
                                  have hs1 : IntKind.wrap .i64 ((j : Int) + 1) = ((j + 1 : Nat) : Int) := by rw [show (j : Int) + 1 = ((j + 1 : Nat) : Int) by omega]; exact IntWalk.i64_in _ (by omega)
                                  have hdel : (l.eraseIdx j).length = l.length - 1 := List.length_eraseIdx_of_lt hjl
                                  have hke := keptE_ok HE.out (show (l.eraseIdx j).length ≠ 0 by omega) (asc_erase HA.out j)
                                  have CKE := Lib.hid (fun g c' => HKS.out (l.eraseIdx j) (by omega) (some ⟨g, 0, none⟩) c')
                                  have hkb : keeB t (l.eraseIdx j) = t.keeps (l.eraseIdx j) := if_pos hke
                                  rw [hkb, hke, hdel] at CKE
                                  have HDR := Lib.hid (fun hw => keeps_drop HA.out HKP.out hjl hw)
                                  rw [← hxx] at HDR
                                  generalize keeN t (l.eraseIdx j) = kn6 at CKE
                                  clear hxx hke hkb hdel
                                  go_wp2_with fail
                                  clear c1
                                  generalize wr.alloc (.cells #[.int .i64 x] 3) = w10 at HX32 HI6 HB6 ⊢
                                  obtain ⟨c32, hc32⟩ : ∃ c, c = wr.heap.size := ⟨_, rfl⟩
                                  rw [← hc32] at HX32 ⊢
                                  clear hc32 hb32
                                  refine (clone_any l (by omega) (some ⟨lb, lo0, none⟩) c17 hl0 _ HI6.out).mono ?_
                                  rintro e w11 ⟨g, c', rfl, ho, hB⟩
                                  have hz910 := HB6.out.size
                                  have h32l := (Array.getElem?_eq_some_iff.1 HX32.out).1
                                  have HX32 := Lib.hid ((hB.block _ h32l).trans HX32.out)
                                  have HB6 := Lib.hid (HB6.out.trans (hB.mono HB6.out.size))
                                  have hg10 : w10.heap.size ≤ g := (own_blockS ho).1
                                  have hz10 : w10.heap.size ≤ w11.heap.size := hB.size
                                  have HO11 := Lib.hid ho
                                  clear hB ho
                                  go_wp2_with fail
                                  refine (delete_any l (by omega) j hjl w10.heap.size g c' w11 HO11.out).mono ?_
                                  rintro e w12 ⟨rfl, hI12, hB⟩
                                  have HI12 := Lib.hid hI12
                                  have HX32 := Lib.hid ((hB.block _ h32l).trans HX32.out)
                                  have HB6 := Lib.hid (HB6.out.trans (hB.mono hz910))
                                  have HH6 := Lib.hid (HH.out.trans (Hold.below HB6.out))
                                  have h32m := (Array.getElem?_eq_some_iff.1 HX32.out).1
                                  clear hB hI12 HO11 hg10 h32l hz10 HI6 hz910
                                  obtain ⟨hT, hX, -, -, -⟩ := HK.out _ HH6.out
                                  have HT := Lib.hid hT
                                  have HX := Lib.hid hX
                                  obtain ⟨k0, k1, k2⟩ := blk3 hX
                                  have hlT := (Array.getElem?_eq_some_iff.1 hX).1
                                  clear hT hX
                                  go_wp2_with fail
                                  refine (CKE.out g c' _ HT.out HI12.out).mono ?_
                                  rintro e w13 ⟨rfl, hB⟩
                                  have HX32 := Lib.hid ((hB.block _ h32m).trans HX32.out)
                                  have HX := Lib.hid ((hB.block _ hlT).trans HX.out)
                                  have HT := Lib.hid (HT.out.below hB)
                                  have HB6 := Lib.hid (HB6.out.trans (hB.mono HB6.out.size))
                                  clear k0 k1 k2 hlT hB CKE HI12 h32m
                                  obtain ⟨ke, hke'⟩ : ∃ ke, ke = t.keeps (l.eraseIdx j) := ⟨_, rfl⟩
                                  rw [← hke']
                                  have HKE := Lib.hid hke'
                                  clear hke'
                                  cases ke with
                                  | true =>
                                    clear HKE HDR HX HT HX32
                                    go_wp2
                                    go_roundw
                                    case rel => exact ⟨j + 1, by omega, by go_num, HB6⟩
                                    case measure => simp [intOf]; omega
                                  | false =>
                                    have HANY := Lib.hid (show t.turns.any (fun u => u.word == x) = true by
                                      rw [← Bool.not_eq_false]
                                      intro hn
                                      have := HDR.out (fun u hu e => by
                                        have h2 := List.any_eq_false.1 hn u hu
                                        simp [e] at h2)
                                      rw [← HKE.out] at this
                                      cases this)
                                    clear HKE HDR
                                    obtain ⟨k0, k1, k2⟩ := blk3 HX.out
                                    have hlT := (Array.getElem?_eq_some_iff.1 HX.out).1
                                    have hmf2 := hmf
                                    go_wp2_with fail
                                    refine (containsFuncT 74 entered_keptK1 (.pointer (some ⟨c32, 0, none⟩)) (fun u => u.word == x) t.turns q d _ hn3 HT.out.turns (fun W hW u _ => keptK1_any u x c32 W ((hW.block c32 (Array.getElem?_eq_some_iff.1 HX32.out).1).trans HX32.out))).mono ?_
                                    rintro e w14 ⟨rfl, hB⟩
                                    rw [HANY.out]
                                    have HB6 := Lib.hid (HB6.out.trans (hB.mono HB6.out.size))
                                    clear hB k0 k1 k2 hlT HT HX HX32
                                    go_wp2
                                    go_roundw
                                    case rel => exact ⟨j + 1, by omega, by go_num, HB6⟩
                                    case measure => simp [intOf]; omega
                                · have hirr6 : ¬ ((j : Int) < (l.length : Int)) := by omega
                                  go_wp2
                                  go_roundw
                                  case rel => exact ⟨k + 1, by omega, by go_num, Lib.hid (HBL.out.below HB6.out), Lib.hid (HH.out.trans (Hold.below HB6.out))⟩
                                  case measure => simp [intOf]; omega
                          · have heq' : ((l.length : Int) == (L.length : Int)) = false := by rw [beq_eq_false_iff_ne]; omega
                            clear HLE heq
                            by_cases h2 : l.length < 2
                            · have h2' : (l.length : Int) < 2 := by omega
                              go_wp2
                              go_roundw
                              case rel => exact ⟨k + 1, by omega, by go_num, Lib.hid (HBL.out.below HB4.out), Lib.hid (HH.out.trans (Hold.below HB4.out))⟩
                              case measure => simp [intOf]; omega
                            · have h2' : ¬ (l.length : Int) < 2 := by omega
                              have HBL := Lib.hid (HBL.out.below HB4.out)
                              have HH := Lib.hid (HH.out.trans (Hold.below HB4.out))
                              have HIl := Lib.hid (HIl.out.below HB4.out)
                              clear HB4
                              obtain ⟨w9, hw9'⟩ : ∃ W, W = wr := ⟨_, rfl⟩
                              rw [← hw9'] at HBL HH HIl ⊢
                              clear hw9'
                              go_wp2_with fail
                              go_loopw [218] (fun i wr => ∃ j : Nat, j ≤ l.length ∧ i = .int .i64 j ∧ Hid (Below w9.heap.size w9 wr)) (fun i _ => l.length - (intOf i).toNat)
                              case atStart => exact ⟨0, Nat.zero_le _, rfl, Lib.hid (Below.refl _ _)⟩
                              case round => as_aux_lemma =>
                                obtain ⟨j, hj, rfl, HB6⟩ := hrel
                                have HH6 := Lib.hid (HH.out.trans (Hold.below HB6.out))
                                by_cases hjl : j < l.length
                                · have hjl' : (j : Int) < l.length := by omega
                                  have hj0 : (0 : Int) ≤ (j : Int) := by omega
                                  obtain ⟨_, _, x, hqq, _, hxx, c1⟩ := (HIl.out.below HB6.out).at hjl
                                  injection hqq with hqq; injection hqq with hq1 hq2 _
                                  subst hq1; subst hq2
                                  have HXX := Lib.hid hxx
                                  have hb32 := below1 wr (.cells #[.int .i64 x] 3)
                                  have HX32 := Lib.hid (heap_last wr (.cells #[.int .i64 x] 3))
                                  have HI6 := Lib.hid ((HIl.out.below HB6.out).below hb32)
                                  have HB6 := Lib.hid (HB6.out.trans (hb32.mono HB6.out.size))
                                  have hs1 : IntKind.wrap .i64 ((j : Int) + 1) = ((j + 1 : Nat) : Int) := by rw [show (j : Int) + 1 = ((j + 1 : Nat) : Int) by omega]; exact IntWalk.i64_in _ (by omega)
                                  have hdel : (l.eraseIdx j).length = l.length - 1 := List.length_eraseIdx_of_lt hjl
                                  have hke := keptE_ok HE.out (show (l.eraseIdx j).length ≠ 0 by omega) (asc_erase HA.out j)
                                  have CKE := Lib.hid (fun g c' => HKS.out (l.eraseIdx j) (by omega) (some ⟨g, 0, none⟩) c')
                                  have hkb : keeB t (l.eraseIdx j) = t.keeps (l.eraseIdx j) := if_pos hke
                                  rw [hkb, hke, hdel] at CKE
                                  have HDR := Lib.hid (fun hw => keeps_drop HA.out HKP.out hjl hw)
                                  rw [← hxx] at HDR
                                  generalize keeN t (l.eraseIdx j) = kn6 at CKE
                                  clear hxx hke hkb hdel
                                  go_wp2_with fail
                                  clear c1
                                  generalize wr.alloc (.cells #[.int .i64 x] 3) = w10 at HX32 HI6 HB6 ⊢
                                  obtain ⟨c32, hc32⟩ : ∃ c, c = wr.heap.size := ⟨_, rfl⟩
                                  rw [← hc32] at HX32 ⊢
                                  clear hc32 hb32
                                  refine (clone_any l (by omega) (some ⟨lb, lo0, none⟩) c17 hl0 _ HI6.out).mono ?_
                                  rintro e w11 ⟨g, c', rfl, ho, hB⟩
                                  have hz910 := HB6.out.size
                                  have h32l := (Array.getElem?_eq_some_iff.1 HX32.out).1
                                  have HX32 := Lib.hid ((hB.block _ h32l).trans HX32.out)
                                  have HB6 := Lib.hid (HB6.out.trans (hB.mono HB6.out.size))
                                  have hg10 : w10.heap.size ≤ g := (own_blockS ho).1
                                  have hz10 : w10.heap.size ≤ w11.heap.size := hB.size
                                  have HO11 := Lib.hid ho
                                  clear hB ho
                                  go_wp2_with fail
                                  refine (delete_any l (by omega) j hjl w10.heap.size g c' w11 HO11.out).mono ?_
                                  rintro e w12 ⟨rfl, hI12, hB⟩
                                  have HI12 := Lib.hid hI12
                                  have HX32 := Lib.hid ((hB.block _ h32l).trans HX32.out)
                                  have HB6 := Lib.hid (HB6.out.trans (hB.mono hz910))
                                  have HH6 := Lib.hid (HH.out.trans (Hold.below HB6.out))
                                  have h32m := (Array.getElem?_eq_some_iff.1 HX32.out).1
                                  clear hB hI12 HO11 hg10 h32l hz10 HI6 hz910
                                  obtain ⟨hT, hX, -, -, -⟩ := HK.out _ HH6.out
                                  have HT := Lib.hid hT
                                  have HX := Lib.hid hX
                                  obtain ⟨k0, k1, k2⟩ := blk3 hX
                                  have hlT := (Array.getElem?_eq_some_iff.1 hX).1
                                  clear hT hX
                                  go_wp2_with fail
                                  refine (CKE.out g c' _ HT.out HI12.out).mono ?_
                                  rintro e w13 ⟨rfl, hB⟩
                                  have HX32 := Lib.hid ((hB.block _ h32m).trans HX32.out)
                                  have HX := Lib.hid ((hB.block _ hlT).trans HX.out)
                                  have HT := Lib.hid (HT.out.below hB)
                                  have HB6 := Lib.hid (HB6.out.trans (hB.mono HB6.out.size))
                                  clear k0 k1 k2 hlT hB CKE HI12 h32m
                                  obtain ⟨ke, hke'⟩ : ∃ ke, ke = t.keeps (l.eraseIdx j) := ⟨_, rfl⟩
                                  rw [← hke']
                                  have HKE := Lib.hid hke'
                                  clear hke'
                                  cases ke with
                                  | true =>
                                    clear HKE HDR HX HT HX32
                                    go_wp2
                                    go_roundw
                                    case rel => exact ⟨j + 1, by omega, by go_num, HB6⟩
                                    case measure => simp [intOf]; omega
                                  | false =>
                                    have HANY := Lib.hid (show t.turns.any (fun u => u.word == x) = true by
                                      rw [← Bool.not_eq_false]
                                      intro hn
                                      have := HDR.out (fun u hu e => by
                                        have h2 := List.any_eq_false.1 hn u hu
                                        simp [e] at h2)
                                      rw [← HKE.out] at this
                                      cases this)
                                    clear HKE HDR
                                    obtain ⟨k0, k1, k2⟩ := blk3 HX.out
                                    have hlT := (Array.getElem?_eq_some_iff.1 HX.out).1
                                    have hmf2 := hmf
                                    go_wp2_with fail
                                    refine (containsFuncT 74 entered_keptK1 (.pointer (some ⟨c32, 0, none⟩)) (fun u => u.word == x) t.turns q d _ hn3 HT.out.turns (fun W hW u _ => keptK1_any u x c32 W ((hW.block c32 (Array.getElem?_eq_some_iff.1 HX32.out).1).trans HX32.out))).mono ?_
                                    rintro e w14 ⟨rfl, hB⟩
                                    rw [HANY.out]
                                    have HB6 := Lib.hid (HB6.out.trans (hB.mono HB6.out.size))
                                    clear hB k0 k1 k2 hlT HT HX HX32
                                    go_wp2
                                    go_roundw
                                    case rel => exact ⟨j + 1, by omega, by go_num, HB6⟩
                                    case measure => simp [intOf]; omega
                                · have hirr6 : ¬ ((j : Int) < (l.length : Int)) := by omega
                                  go_wp2
                                  go_roundw
                                  case rel => exact ⟨k + 1, by omega, by go_num, Lib.hid (HBL.out.below HB6.out), Lib.hid (HH.out.trans (Hold.below HB6.out))⟩
                                  case measure => simp [intOf]; omega
                        · clear HLl
                          have hge' : ¬ sm ≥ wt := by omega
                          by_cases h2 : l.length < 2
                          · have h2' : (l.length : Int) < 2 := by omega
                            go_wp2
                            go_roundw
                            case rel => exact ⟨k + 1, by omega, by go_num, Lib.hid (HBL.out.below HB4.out), Lib.hid (HH.out.trans (Hold.below HB4.out))⟩
                            case measure => simp [intOf]; omega
                          · have h2' : ¬ (l.length : Int) < 2 := by omega
                            have HBL := Lib.hid (HBL.out.below HB4.out)
                            have HH := Lib.hid (HH.out.trans (Hold.below HB4.out))
                            have HIl := Lib.hid (HIl.out.below HB4.out)
                            clear HB4
                            obtain ⟨w9, hw9'⟩ : ∃ W, W = wr := ⟨_, rfl⟩
                            rw [← hw9'] at HBL HH HIl ⊢
                            clear hw9'
                            go_wp2_with fail
                            go_loopw [218] (fun i wr => ∃ j : Nat, j ≤ l.length ∧ i = .int .i64 j ∧ Hid (Below w9.heap.size w9 wr)) (fun i _ => l.length - (intOf i).toNat)
                            case atStart => exact ⟨0, Nat.zero_le _, rfl, Lib.hid (Below.refl _ _)⟩
                            case round => as_aux_lemma =>
                              obtain ⟨j, hj, rfl, HB6⟩ := hrel
                              have HH6 := Lib.hid (HH.out.trans (Hold.below HB6.out))
                              by_cases hjl : j < l.length
                              · have hjl' : (j : Int) < l.length := by omega
                                have hj0 : (0 : Int) ≤ (j : Int) := by omega
                                obtain ⟨_, _, x, hqq, _, hxx, c1⟩ := (HIl.out.below HB6.out).at hjl
                                injection hqq with hqq; injection hqq with hq1 hq2 _
                                subst hq1; subst hq2
                                have HXX := Lib.hid hxx
                                have hb32 := below1 wr (.cells #[.int .i64 x] 3)
                                have HX32 := Lib.hid (heap_last wr (.cells #[.int .i64 x] 3))
                                have HI6 := Lib.hid ((HIl.out.below HB6.out).below hb32)
                                have HB6 := Lib.hid (HB6.out.trans (hb32.mono HB6.out.size))
                                have hs1 : IntKind.wrap .i64 ((j : Int) + 1) = ((j + 1 : Nat) : Int) := by rw [show (j : Int) + 1 = ((j + 1 : Nat) : Int) by omega]; exact IntWalk.i64_in _ (by omega)
                                have hdel : (l.eraseIdx j).length = l.length - 1 := List.length_eraseIdx_of_lt hjl
                                have hke := keptE_ok HE.out (show (l.eraseIdx j).length ≠ 0 by omega) (asc_erase HA.out j)
                                have CKE := Lib.hid (fun g c' => HKS.out (l.eraseIdx j) (by omega) (some ⟨g, 0, none⟩) c')
                                have hkb : keeB t (l.eraseIdx j) = t.keeps (l.eraseIdx j) := if_pos hke
                                rw [hkb, hke, hdel] at CKE
                                have HDR := Lib.hid (fun hw => keeps_drop HA.out HKP.out hjl hw)
                                rw [← hxx] at HDR
                                generalize keeN t (l.eraseIdx j) = kn6 at CKE
                                clear hxx hke hkb hdel
                                go_wp2_with fail
                                clear c1
                                generalize wr.alloc (.cells #[.int .i64 x] 3) = w10 at HX32 HI6 HB6 ⊢
                                obtain ⟨c32, hc32⟩ : ∃ c, c = wr.heap.size := ⟨_, rfl⟩
                                rw [← hc32] at HX32 ⊢
                                clear hc32 hb32
                                refine (clone_any l (by omega) (some ⟨lb, lo0, none⟩) c17 hl0 _ HI6.out).mono ?_
                                rintro e w11 ⟨g, c', rfl, ho, hB⟩
                                have hz910 := HB6.out.size
                                have h32l := (Array.getElem?_eq_some_iff.1 HX32.out).1
                                have HX32 := Lib.hid ((hB.block _ h32l).trans HX32.out)
                                have HB6 := Lib.hid (HB6.out.trans (hB.mono HB6.out.size))
                                have hg10 : w10.heap.size ≤ g := (own_blockS ho).1
                                have hz10 : w10.heap.size ≤ w11.heap.size := hB.size
                                have HO11 := Lib.hid ho
                                clear hB ho
                                go_wp2_with fail
                                refine (delete_any l (by omega) j hjl w10.heap.size g c' w11 HO11.out).mono ?_
                                rintro e w12 ⟨rfl, hI12, hB⟩
                                have HI12 := Lib.hid hI12
                                have HX32 := Lib.hid ((hB.block _ h32l).trans HX32.out)
                                have HB6 := Lib.hid (HB6.out.trans (hB.mono hz910))
                                have HH6 := Lib.hid (HH.out.trans (Hold.below HB6.out))
                                have h32m := (Array.getElem?_eq_some_iff.1 HX32.out).1
                                clear hB hI12 HO11 hg10 h32l hz10 HI6 hz910
                                obtain ⟨hT, hX, -, -, -⟩ := HK.out _ HH6.out
                                have HT := Lib.hid hT
                                have HX := Lib.hid hX
                                obtain ⟨k0, k1, k2⟩ := blk3 hX
                                have hlT := (Array.getElem?_eq_some_iff.1 hX).1
                                clear hT hX
                                go_wp2_with fail
                                refine (CKE.out g c' _ HT.out HI12.out).mono ?_
                                rintro e w13 ⟨rfl, hB⟩
                                have HX32 := Lib.hid ((hB.block _ h32m).trans HX32.out)
                                have HX := Lib.hid ((hB.block _ hlT).trans HX.out)
                                have HT := Lib.hid (HT.out.below hB)
                                have HB6 := Lib.hid (HB6.out.trans (hB.mono HB6.out.size))
                                clear k0 k1 k2 hlT hB CKE HI12 h32m
                                obtain ⟨ke, hke'⟩ : ∃ ke, ke = t.keeps (l.eraseIdx j) := ⟨_, rfl⟩
                                rw [← hke']
                                have HKE := Lib.hid hke'
                                clear hke'
                                cases ke with
                                | true =>
                                  clear HKE HDR HX HT HX32
                                  go_wp2
                                  go_roundw
                                  case rel => exact ⟨j + 1, by omega, by go_num, HB6⟩
                                  case measure => simp [intOf]; omega
                                | false =>
                                  have HANY := Lib.hid (show t.turns.any (fun u => u.word == x) = true by
                                    rw [← Bool.not_eq_false]
                                    intro hn
                                    have := HDR.out (fun u hu e => by
                                      have h2 := List.any_eq_false.1 hn u hu
                                      simp [e] at h2)
                                    rw [← HKE.out] at this
                                    cases this)
                                  clear HKE HDR
                                  obtain ⟨k0, k1, k2⟩ := blk3 HX.out
                                  have hlT := (Array.getElem?_eq_some_iff.1 HX.out).1
                                  have hmf2 := hmf
                                  go_wp2_with fail
                                  refine (containsFuncT 74 entered_keptK1 (.pointer (some ⟨c32, 0, none⟩)) (fun u => u.word == x) t.turns q d _ hn3 HT.out.turns (fun W hW u _ => keptK1_any u x c32 W ((hW.block c32 (Array.getElem?_eq_some_iff.1 HX32.out).1).trans HX32.out))).mono ?_
                                  rintro e w14 ⟨rfl, hB⟩
                                  rw [HANY.out]
                                  have HB6 := Lib.hid (HB6.out.trans (hB.mono HB6.out.size))
                                  clear hB k0 k1 k2 hlT HT HX HX32
                                  go_wp2
                                  go_roundw
                                  case rel => exact ⟨j + 1, by omega, by go_num, HB6⟩
                                  case measure => simp [intOf]; omega
                              · have hirr6 : ¬ ((j : Int) < (l.length : Int)) := by omega
                                go_wp2
                                go_roundw
                                case rel => exact ⟨k + 1, by omega, by go_num, Lib.hid (HBL.out.below HB6.out), Lib.hid (HH.out.trans (Hold.below HB6.out))⟩
                                case measure => simp [intOf]; omega
      · obtain rfl : k = 8 := by omega
        clear hk hlt
        obtain ⟨hT, hX, hIL, hIS, -⟩ := HK.out _ HH.out
        have HT := Lib.hid hT
        have HIL := Lib.hid hIL
        have HIS := Lib.hid hIS
        obtain ⟨k0, k1, k2⟩ := blk3 hX
        have hlT := (Array.getElem?_eq_some_iff.1 hX).1
        clear hT hX hIL hIS
        go_wp2_with fail
        clear k0 k1 k2 hlT HT HIL HIS
        go_loopw [254] (fun i wr => ∃ j : Nat, j ≤ t.words.length ∧ i = .int .i64 j ∧ Hid (BellOk wr (T + 1) pq nq cq) ∧ Hid (Hold (fun k => k ≠ T + 1) WB wr)) (fun i _ => t.words.length - (intOf i).toNat)
        case atStart => exact ⟨0, Nat.zero_le _, rfl, HBL, HH⟩
        case round => as_aux_lemma =>
          clear HBL HH
          obtain ⟨j, hj, rfl, HBL, HH⟩ := hrel
          by_cases hjl : j < t.words.length
          · have hjl' : (j : Int) < t.words.length := by omega
            obtain ⟨w7, hw7⟩ : ∃ W, W = wr := ⟨_, rfl⟩
            rw [← hw7] at HBL HH ⊢
            clear hw7
            obtain ⟨hT, hX, hIL, hIS, -⟩ := HK.out _ HH.out
            have HT := Lib.hid hT
            have HIL := Lib.hid hIL
            have HIS := Lib.hid hIS
            obtain ⟨k0, k1, k2⟩ := blk3 hX
            have hlT := (Array.getElem?_eq_some_iff.1 hX).1
            clear hT hX hIL hIS
            have HX7 := Lib.hid (HK.out _ HH.out).2.1
            go_wp2_with fail
            clear k0 k1 k2 hlT
            obtain ⟨i0, hi0, hz0, hz1, hz2'⟩ := info_parts A_infoI
            go_loopw [38, 260] (fun v i wr => ∃ m : Nat, m ≤ t.words.length ∧ i = .int .i64 m ∧ Hid (wr.ownsRow w7.heap.size 3 1 v (wo m j).length ((wo m j).map (Value.int .i64))) ∧ Hid (Below w7.heap.size w7 wr)) (fun _ i _ => t.words.length - (intOf i).toNat)
            case atStart => exact ⟨0, Nat.zero_le _, rfl, Lib.hid (own_none _ _ _ _), Lib.hid (Below.refl _ _)⟩
            case round => as_aux_lemma =>
              obtain ⟨m, hm, rfl, HO, HB8⟩ := hrel
              obtain ⟨p38, c38, rfl⟩ := own_val HO.out
              have hzz := HB8.out.size
              have hwl := wo_len m j
              have HSN := Lib.hid (wo_succ m j)
              by_cases hml : m < t.words.length
              · have hml' : (m : Int) < t.words.length := by omega
                by_cases hmj : m = j
                · subst hmj
                  have HSM := Lib.hid (show wo (m + 1) m = wo m m by rw [HSN.out, if_pos rfl, List.append_nil])
                  clear HSN
                  go_wp2
                  go_roundw
                  case rel => first | exact ⟨m + 1, by omega, by go_num, Lib.hid (by rw [HSM.out]; exact HO.out), HB8⟩ | ((repeat apply Exists.intro); exact ⟨⟨m + 1, by omega, by go_num, Lib.hid (by rw [HSM.out]; exact HO.out), HB8⟩, rfl⟩)
                  case measure => simp [intOf]; omega
                · have hmj' : ((m : Int) != (j : Int)) = true := by rw [bne_iff_ne]; omega
                  have HSM := Lib.hid (show wo (m + 1) j = wo m j ++ [(m : Int)] by rw [HSN.out, if_neg hmj])
                  clear hmj HSN
                  go_wp2_with (at_builtin; refine wpList_append_own _ rfl _ _ 28 rfl w7.heap.size 3 i0 (.int .i64 0) 1 8 A_undI hi0 hz0 hz1 hz2' rfl (by decide) _ _ _ rfl (HO.out.alloc _) ⟨wr.heap.size, 0, none⟩ 1 1 [.int .i64 (m : Int)] rfl rfl ?d1 ?d2 ?d3 ?d4 ?d5 ?_)
                  case d1 => exact cell_one_new _ _ _
                  case d2 => first | rfl | (intro u hu; simp at hu; subst hu; rfl)
                  case d3 => unfold maxLen; omega
                  case d4 => omega
                  case d5 => first | omega | (simp; omega)
                  intro v' w8 hown8 hgrow _
                  have HB9 := Lib.hid (below_grown (al2 HB8.out (by omega) _) (HO.out.alloc _) (Nat.le_refl _) (by simp; omega) hgrow)
                  have HO9 := Lib.hid hown8
                  clear hgrow hown8
                  go_wp2
                  go_roundw
                  case rel => first | exact ⟨m + 1, by omega, by go_num, Lib.hid (by rw [HSM.out]; simpa using HO9.out), HB9⟩ | ((repeat apply Exists.intro); exact ⟨⟨m + 1, by omega, by go_num, Lib.hid (by rw [HSM.out]; simpa using HO9.out), HB9⟩, rfl⟩)
                  case measure => simp [intOf]; omega
              · have hmn : m = t.words.length := by omega
                have hirr : ¬ ((m : Int) < (t.words.length : Int)) := by omega
                have HSPJ := Lib.hid (HSP.out j hjl)
                have HWL2 := Lib.hid (wo_len2 t.words.length j hjl)
                have HAW := Lib.hid (asc_wo t.words.length j)
                have HSD := Lib.hid (show spareP t j = (decide (0 < (wo t.words.length j).length) && t.keeps (wo t.words.length j)) from rfl)
                rw [hmn] at HO
                rw [hmn]
                clear HSN hwl
                generalize wo t.words.length j = ol at HO HSPJ HWL2 HAW HSD ⊢
                have hol : ol.length ≤ 1000000 := by have := HWL2.out; omega
                have CKO := Lib.hid (HKS.out ol hol p38 c38)
                obtain ⟨_, _, f1, hIo, -⟩ := own_rd HO.out rfl
                injection f1 with f1 _ f3; subst f1; subst f3
                have HIo := Lib.hid hIo
                clear hIo HO
                have HIS := Lib.hid (HIS.out.below HB8.out)
                have HBL := Lib.hid (HBL.out.below HB8.out)
                have HH := Lib.hid (HH.out.trans (Hold.below HB8.out))
                have HT := Lib.hid (HT.out.below HB8.out)
                have HX7 := (HB8.out.block T (Array.getElem?_eq_some_iff.1 HX7.out).1).trans HX7.out
                obtain ⟨k0, k1, k2⟩ := blk3 HX7
                have hlT := (Array.getElem?_eq_some_iff.1 HX7).1
                clear HX7 hmn HB8
                by_cases ho0 : ol.length = 0
                · have hke : t.keptE ol = 2 := by rw [keptE_eq, if_neg (by simpa using HE.out), if_pos ho0]
                  have hkb : keeB t ol = false := if_neg (by rw [hke]; decide)
                  have hsp : spareP t j = false := by rw [HSD.out, ho0]; rfl
                  rw [hkb, hke] at CKO
                  rw [hsp] at HSPJ
                  clear hke hkb hsp HSD HAW HWL2 ho0
                  go_wp2_with fail
                  refine (CKO.out _ HT.out HIo.out).mono ?_
                  rintro e w14 ⟨rfl, hB⟩
                  have HBL := Lib.hid (HBL.out.below hB)
                  have HH := Lib.hid (HH.out.trans (Hold.below hB))
                  have HIS := Lib.hid (HIS.out.below hB)
                  clear hB k0 k1 k2 hlT HT HIo CKO
                  go_wp2_with fail
                  refine (contains_any SP hSl pS cS (j : Int) w14 HIS.out).mono ?_
                  rintro e w15 ⟨rfl, rfl⟩
                  rw [HSPJ.out]
                  go_wp2
                  go_roundw
                  case rel => first | exact ⟨j + 1, by omega, by go_num, HBL, HH⟩ | ((repeat apply Exists.intro); exact ⟨⟨j + 1, by omega, by go_num, HBL, HH⟩, rfl⟩)
                  case measure => simp [intOf]; omega
                · have hke := keptE_ok HE.out ho0 HAW.out
                  have hkb : keeB t ol = t.keeps ol := if_pos hke
                  have hsp : spareP t j = t.keeps ol := by rw [HSD.out, decide_eq_true (by omega), Bool.true_and]
                  rw [hkb, hke] at CKO
                  rw [hsp] at HSPJ
                  generalize t.keeps ol = kb at CKO HSPJ
                  clear hke hkb hsp HSD HAW HWL2 ho0
                  go_wp2_with fail
                  refine (CKO.out _ HT.out HIo.out).mono ?_
                  rintro e w14 ⟨rfl, hB⟩
                  have HBL := Lib.hid (HBL.out.below hB)
                  have HH := Lib.hid (HH.out.trans (Hold.below hB))
                  have HIS := Lib.hid (HIS.out.below hB)
                  clear hB k0 k1 k2 hlT HT HIo CKO
                  go_wp2_with fail
                  refine (contains_any SP hSl pS cS (j : Int) w14 HIS.out).mono ?_
                  rintro e w15 ⟨rfl, rfl⟩
                  rw [HSPJ.out]
                  go_wp2
                  go_roundw
                  case rel => first | exact ⟨j + 1, by omega, by go_num, HBL, HH⟩ | ((repeat apply Exists.intro); exact ⟨⟨j + 1, by omega, by go_num, HBL, HH⟩, rfl⟩)
                  case measure => simp [intOf]; omega
          · have hirr : ¬ ((j : Int) < (t.words.length : Int)) := by omega
            go_wp2_with fail
            refine (awake_any _).mono ?_
            rintro e wz ⟨rfl, hB⟩
            have HBF := Lib.hid (HK.out _ (HH.out.trans (Hold.below hB))).2.2.2.2
            clear hB
            go_wp2
            go_ret
            exact ⟨rfl, HBF.out⟩
end Go.Proofs.Ytadnggecnjdhiaa
namespace Go.Proofs.Ytadnggecnjdhiaa
open Go.ChangeShapes Go.WideShapes Go.ChangeAt Go.RowKit Go.Joins Tx
set_option linter.unusedVariables false
set_option linter.unusedSimpArgs false

set_option maxRecDepth 100000 in
theorem TextKept_lifted (os : Os) (started : os.Started) (H : Type) (enc : TypeId × Value → H) :
    ReturnsInHanded {} Try.checked os 13 .any (Rows.textKeptSpec.pre6 enc Try.prog Try.f13 Rows.textKeptRow.domain false) (Rows.textKeptSpec.post enc Try.prog Try.f13 false true false false) := by
  refine returnsInHanded_of_change (C := Try.checked) Try.own started (by kernel_rfl) Try.func13
    (ChangeSpec.witness6 (enc := enc) (C := Try.checked) false ⟨#[], #[.slice none 0 0, .slice none 0 0, .int .u8 0], []⟩ 8 (by kernel_rfl) (by kernel_rfl) (by kernel_rfl) (by kernel_rfl)) ?_
  intro W base args ds gs before hval0 hW hcnd _
  have hval : ∀ (j : Nat) t v, Try.f13.params[j]? = some t → args[j]? = some v → Value.okWide Try.prog W .any base t v := hval0
  have hW' := hW
  obtain ⟨p, q, hA0, hV, rfl, hfz, hnd⟩ := hW
  have hA : DataW.TrodAll enc Try.prog W 0 (fun _ => true) true Try.f13.params.toList args.toList ds p := hA0
  rw [Try.params13] at hA hval
  obtain ⟨v0, vs0, d0, ds0, p0, q0, hargs, rfl, rfl, h0, r0⟩ := trodAll_cons hA
  obtain ⟨v1, vs1, d1, ds1, p1, q1, rfl, rfl, rfl, h1, r1⟩ := trodAll_cons r0
  obtain ⟨v2, vs2, d2, ds2, p2, q2, rfl, rfl, rfl, h2, r2⟩ := trodAll_cons r1
  obtain ⟨rfl, rfl, rfl⟩ := trodAll_nil r2
  obtain rfl : args = #[v0, v1, v2] := by cases args; simp_all
  obtain ⟨rfl, rfl⟩ := trodVars_none hV
  have lt0 := lt_of_trod h0
  have k0 := h0
  obtain ⟨a0, n0, c0, e0, l0, hB0⟩ := bytes_of_Trod (fun _ => rfl) (hval 0 88 v0 rfl rfl) h0
  have lt1 := lt_of_trod h1
  have k1 := h1
  obtain ⟨a1, n1, c1, e1, l1, hB1⟩ := bytes_of_Trod (fun _ => rfl) (hval 1 88 v1 rfl rfl) h1
  obtain ⟨x2, rfl, rfl, rfl, w2⟩ := open_int Try.underlying5 (hval 2 5 v2 rfl rfl) h2
  have b2 := bounds_u8 w2
  clear hA0 hval0
  subst e0
  subst e1
  refine (TextKept_any a0 a1 n0 c0 n1 c1 x2 b2.1 (by omega) l0 l1 W hB0 hB1).mono fun e W' ⟨he, bel⟩ => ?_
  subst he
  exact ⟨_, rfl, _, _, _, [], _, [], hW', trodAll_mk1 (shut_bool Try.underlying4 _), (trodAll_cons_mk (Below.trod Try.laidOut (by kernel_rfl) (of_decide_eq_true (by kernel_rfl)) k0 bel lt0) (trodAll_cons_mk (Below.trod Try.laidOut (by kernel_rfl) (of_decide_eq_true (by kernel_rfl)) k1 bel lt1) (trodAll_cons_mk (shut_int Try.underlying5 w2) trodAll_mk0))), rfl, bel.frame _, fun h => by cases h⟩

theorem TextKept_holds : Rows.TextKeptSaid :=
  OpenClaim.holds_of_wide 13 Try.f13 rfl rfl rfl rfl rfl rfl rfl ⟨rfl, rfl, rfl, rfl, rfl⟩ rfl rfl rfl rfl rfl (by kernel_rfl) Try.func13 (by kernel_rfl)
    (of_decide_eq_true (by kernel_rfl)) (by unfold Func.isWrapper; first | (rw [if_pos (by decide +kernel)]; kernel_rfl) | (rw [if_neg (by decide +kernel)]; exact ⟨rfl, rfl⟩))
    (fun os started H enc _ => TextKept_lifted os started H enc)
end Go.Proofs.Ytadnggecnjdhiaa
