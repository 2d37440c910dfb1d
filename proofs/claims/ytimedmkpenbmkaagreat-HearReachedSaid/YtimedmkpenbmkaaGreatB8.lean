import Derived.Test.YtimedmkpenbmkaaGreatB5
import Derived.Test.YtimedmkpenbmkaaGreatW1
namespace Go.Proofs.YtimedmkpenbmkaaGreat
open Go.RowKit Go.Shelf
set_option linter.unusedSimpArgs false
set_option linter.unusedVariables false

theorem wpList_bin_on {P : Program} {ops : Array Oper} {rest : List Oper} {o : Oper} {a : Act} {w : World} {Q : Exit → Act → World → Prop} (hw : Region.wanted o (yielded ops a.tmps) = true) (b : BinOp) (t t' : TypeId) (x y : Operand) (ho : o.op = .binOp b t x y t') (u v r : Value)
    (hx : a.eval x = u) (hy : a.eval y = v) (hg : (eqGuard b t x y u v).run P w = .ok () w) (hr : (binOp b t u v).run P w = .ok r w) (h : wpList P ops Q rest (a.put o.dst r) w) : wpList P ops Q (o :: rest) a w :=
  wpList_step fun K hK => by
    rw [if_pos hw]
    unfold Oper.wp execOp
    simp only [ho, hx, hy, Sem.run_bind, hg, hr, Result.andThen_ok, Sem.run_pure]
    exact hK _ _ h

/-- the state of choose: what is chosen, the set that is served, how many are left -/
structure ChS where
  ch : List Int
  set : Nat
  left : Nat
def chStep (cs : List Crowd) (houses : Int) (s : ChS) (j : Nat) : ChS :=
  let m := srv cs j cs.length
  if 0 < s.left ∧ (mstL cs (s.set ||| m)).getD (s.left - 1) 0 = houses then ⟨s.ch ++ [(j : Int)], s.set ||| m, s.left - 1⟩ else s
def chTo (cs : List Crowd) (houses : Int) (left k : Nat) : ChS := (List.range k).foldl (chStep cs houses) ⟨[], 0, left⟩
theorem chTo_succ (cs : List Crowd) (houses : Int) (left k : Nat) : chTo cs houses left (k + 1) = chStep cs houses (chTo cs houses left k) k := by
  unfold chTo; rw [List.range_succ, List.foldl_append]; rfl
def chCap (cs : List Crowd) (st : Nat) : Nat := (leastL st [10, (cs.length : Int)]).toNat
def chLeft (cs : List Crowd) (st : Nat) : Nat := fewP (mstL cs 0) (chCap cs st)
def chHouses (cs : List Crowd) (st : Nat) : Int := (mstL cs 0).getD (chCap cs st) 0
/-- what choose tells -/
def chooseP (l : List (Nat × List Bool)) (st : Nat) : List Int × Int :=
  let cs := crowdsP l
  ((chTo cs (chHouses cs st) (chLeft cs st) 30).ch, chHouses cs st)
theorem chCap_eq (cs : List Crowd) (st : Nat) : leastL st [10, (cs.length : Int)] = chCap cs st ∧ chCap cs st ≤ 10 := by
  unfold chCap leastL
  simp only [List.foldl_cons, List.foldl_nil]
  split <;> split <;> omega
structure ChOk (cs : List Crowd) (k : Nat) (s : ChS) : Prop where
  set : s.set < 2 ^ 30
  left : s.left ≤ 10
  len : s.ch.length ≤ k
theorem chTo_ok {cs : List Crowd} (hok : CrOk cs) (houses : Int) {left : Nat} (hl : left ≤ 10) : ∀ k, ChOk cs k (chTo cs houses left k)
  | 0 => ⟨by show 0 < 2 ^ 30; omega, hl, by show 0 ≤ 0; omega⟩
  | k + 1 => by
    have h := chTo_ok hok houses hl k
    rw [chTo_succ]
    unfold chStep
    simp only
    split
    · exact ⟨Nat.or_lt_two_pow h.set (Nat.lt_of_lt_of_le (srv_lt _ _ _) (Nat.pow_le_pow_right (by omega) hok.len)), by simp only; have := h.left; omega, by simp; exact h.len⟩
    · exact ⟨h.set, h.left, by have := h.len; omega⟩

theorem kept_other {w w' : World} {base : Nat} {e : TypeId} {size : Nat} {v : Value} {n : Nat} {xs : List Value} {r : Nat} (h : w.ownsRow base e size v n xs) (hg : w.grownBy w' (some r)) (hr : r < base) : w'.ownsRow base e size v n xs := by
  refine h.kept hg ?_
  rcases h.2 with ⟨rfl, _⟩ | ⟨g, cap, cur, rfl, hb, _⟩
  · exact .inl rfl
  · right; show some g ≠ some r; intro e; injection e; omega

set_option maxHeartbeats 2000000 in
set_option maxRecDepth 100000 in
theorem choose_any (ob : Option Addr) (cap : Nat) (l : List (Nat × List Bool)) (hl : ∀ y ∈ l, y.2.length = 30) (hlen : l.length ≤ 30) (st : Nat) (hst : st < 2 ^ 62) (w : World) (hI : LiIn w ob l) :
    Calls Tryz.prog 71 #[.slice ob l.length cap, .int .i64 st] w fun e w' => ∃ v, e = .returned (.tuple #[v, .int .i64 (chooseP l st).2]) ∧ w'.ownsRow w.heap.size 3 1 v (chooseP l st).1.length ((chooseP l st).1.map (Value.int .i64)) ∧ Below w.heap.size w w' := by
  have HI := Lib.hid hI
  have HL := Lib.hid hl
  have HSTT := Lib.hid hst
  clear hI hl hst
  go_enter Tryz.func71, Tryz.ntmps71
  go_wp2_with fail
  refine (crowds_any ob cap l HL.out hlen w HI.out).mono ?_
  rintro e w1 ⟨v1, rfl, hown1, hB1⟩
  obtain ⟨cs, hcs⟩ : ∃ cs, cs = crowdsP l := ⟨_, rfl⟩
  have hok : CrOk cs := by rw [hcs]; have := crowds_ok HL.out l.length (Nat.le_refl _); rw [List.take_length] at this; exact this.cr hlen
  rw [← hcs] at hown1
  obtain ⟨ob1, cp1, rfl⟩ := own_slice hown1
  have hcr1 := CrIn.of_own hok.row hown1
  have HOK := Lib.hid hok
  have HCS := Lib.hid hcs
  have HB1 := Lib.hid hB1
  have HCR1 := Lib.hid hcr1
  have hcl := hok.len
  clear hown1 hB1 hok hcs hcr1
  go_wp2_with fail
  refine (mostServed_any ob1 cp1 cs HOK.out w1 HCR1.out).mono ?_
  rintro e w2 ⟨KB, AB, SB, MB, r, rfl, hM2, hB2, hr2⟩
  have HM2 := Lib.hid hM2
  have HB2 := Lib.hid (join HB1.out hB2)
  have hcr2 := hM2.cr
  have HCR2 := Lib.hid hcr2
  unfold mostF
  have hz2 := hB2.size
  have hz1 := HB1.out.size
  clear hM2 hB2 hcr2
  go_wp2_with fail
  refine (served_any ob1 cp1 cs HOK.out w2 HCR2.out).mono ?_
  rintro e w3 ⟨rfl, hB3⟩
  obtain ⟨V, hV⟩ : ∃ V, V = setV fun s => srv cs s cs.length := ⟨_, rfl⟩
  rw [← hV]
  have hVsz : V.size = 30 := by rw [hV, setV_size]
  have hone : V.all (·.oneCell') = true := by rw [hV]; exact setV_one _
  have hi := size171
  rw [← hVsz] at hi
  have hM3 := HM2.out.below hB3
  have HM4 := Lib.hid (hM3.below (below1 w3 (.cells V 160)))
  have HB4 := Lib.hid (al (join HB2.out hB3) (.cells V 160))
  have hrow4 : (w3.alloc (.cells V 160)).heap[w3.heap.size]? = some (.cells V 160 (0, 0)) := heap_alloc_last _ _
  have HROW4 := Lib.hid hrow4
  have HV := Lib.hid hV
  have HVS := Lib.hid hVsz
  have HON := Lib.hid hone
  have HI1 := Lib.hid hi
  have hz3 := hB3.size
  have hr3 : r < w3.heap.size := hM3.lt.2.2.2.2
  clear hB3 hV hVsz hone hi hM3 hrow4
  go_wp2_with (with_reducible refine wpList_store_new rfl 160 _ _ rfl _ V rfl rfl HI1.out ?hs HON.out ?_)
  case hs => rw [HVS.out]; rfl
  refine (memo_any KB AB SB MB r ob1 cp1 cs HOK.out 0 (by omega) _ HM4.out).mono ?_
  rintro e w5 ⟨rfl, hM5, hg5⟩
  have hz5 : w3.heap.size + 1 ≤ w5.heap.size := by have := hg5.size; simpa using this
  have hb5 : Below w.heap.size w w5 := HB4.out.grown hg5 (by simp; omega) (fun k hk => by injection hk; omega)
  have hrow5 := (hg5.block w3.heap.size (by simp) (fun e => by injection e; omega)).trans HROW4.out
  have HM5 := Lib.hid hM5
  have HB5 := Lib.hid hb5
  have HROW5 := Lib.hid hrow5
  obtain ⟨N, hN⟩ : ∃ N, N = mstV cs 0 := ⟨_, rfl⟩
  rw [← hN]
  have HN := Lib.hid hN
  have hI2 : Ints (w5.alloc (.cells #[.int .i64 10, .int .i64 cs.length] 3)) w5.heap.size 0 [10, (cs.length : Int)] := ⟨by simp, fun i hi => by
    rw [cell_of_row _ _ _ _ _ _ (heap_alloc_last _ _), Nat.zero_add]
    match i, hi with
    | 0, _ => rfl
    | 1, _ => rfl
    | i + 2, h => simp at h; omega⟩
  have HI2 := Lib.hid hI2
  clear hM5 hg5 hb5 hrow5 hN hI2 HM4 HB4 HROW4
  go_wp2_with fail
  refine (leastL_any st w5.heap.size 2 [10, (cs.length : Int)] _ (by simp) HI2.out).mono ?_
  rintro e w6 ⟨rfl, rfl⟩
  obtain ⟨C, hC⟩ : ∃ C, C = chCap cs st := ⟨_, rfl⟩
  obtain ⟨h1, h2⟩ := chCap_eq cs st
  rw [← hC] at h1 h2
  rw [h1]
  have HC := Lib.hid hC
  clear h1 hC
  go_wp2_with fail
  rw [HN.out]
  refine (fewestFor_any (mstL cs 0) (mst_len _ _ _) C (by omega) _).mono ?_
  rintro e w7 ⟨rfl, hB7⟩
  obtain ⟨L0, hL0⟩ : ∃ L0, L0 = chLeft cs st := ⟨_, rfl⟩
  obtain ⟨H, hH⟩ : ∃ H, H = chHouses cs st := ⟨_, rfl⟩
  have e1 : fewP (mstL cs 0) C = L0 := by rw [hL0, HC.out]; rfl
  have e2 : (mstL cs 0).getD C 0 = H := by rw [hH, HC.out]; rfl
  rw [e1, e2]
  have hL10 : L0 ≤ 10 := by rw [← e1]; exact Nat.le_trans (fewP_le _ _) h2
  have hB5' := al HB5.out (.cells #[.int .i64 10, .int .i64 cs.length] 3)
  have HB7 := Lib.hid (join hB5' hB7)
  have HM7 := Lib.hid ((HM5.out.below (below1 w5 (.cells #[.int .i64 10, .int .i64 cs.length] 3))).below hB7)
  have HROW7 := Lib.hid ((hB7.block w3.heap.size (by simp; omega)).trans ((Below.heap_alloc _ _ _ (by omega)).trans HROW5.out))
  have HL0 := Lib.hid hL0
  have HH := Lib.hid hH
  have hz7 : w5.heap.size + 1 ≤ w7.heap.size := by have := hB7.size; simpa using this
  have hi3 := HI1.out
  have HE := Lib.hid (And.intro e1 e2)
  clear e1 e2 hL0 hH hB5' hB7 HM5 HB5 HROW5 HI2 hi3
  go_wp2_with (with_reducible refine wpList_load_row rfl 160 _ rfl w3.heap.size rfl 160 V (0, 0) _ HROW7.out und171 rfl HI1.out ?_)
  obtain ⟨i0, hi0, hz0', hz1', hz2'⟩ := info_parts A_info3
  have HLT := Lib.hid (HM7.out.lt)
  have HOBL := Lib.hid (HM7.out.obl)
  go_loopg [9, 11, 12, 13, 14, 33] 30 (fun gk lf v st1 a b i wr => ∃ k : Nat, ∃ S : ChS, gk + k = 30 ∧ i = .int .i64 k ∧ S = chTo cs H L0 k ∧ lf = .int .i64 S.left ∧ st1 = .int .i64 S.set ∧ wr.ownsRow w7.heap.size 3 1 v S.ch.length (S.ch.map (Value.int .i64)) ∧ Memo wr KB AB SB MB r ob1 cp1 cs ∧ Below w.heap.size w wr ∧ w7.heap.size ≤ wr.heap.size)
  case atStart => exact ⟨0, _, by omega, rfl, rfl, rfl, rfl, World.ownsRow_nil _ _ _ _, HM7.out, HB7.out, Nat.le_refl _⟩
  case round =>
    clear HM7 HB7 HROW7
    obtain ⟨k, S, hk, rfl, hS, rfl, rfl, hown, hM, hB, hz⟩ := hrel
    have hSok : ChOk cs k S := by rw [hS]; exact chTo_ok HOK.out H hL10 k
    obtain ⟨l1, l2, l3, l4, l5⟩ := hM.lt
    have HS := Lib.hid hS
    have HOW := Lib.hid hown
    have HM := Lib.hid hM
    have HB := Lib.hid hB
    have HSO := Lib.hid hSok
    obtain ⟨lf, hlf⟩ : ∃ lf, lf = S.left := ⟨_, rfl⟩
    obtain ⟨st1, hst1⟩ : ∃ st1, st1 = S.set := ⟨_, rfl⟩
    have hlf10 : lf ≤ 10 := by rw [hlf]; exact hSok.left
    rw [← hlf, ← hst1]
    have HLF := Lib.hid hlf
    have HST := Lib.hid hst1
    obtain ⟨kb1, kb2, kb3, kb4, kb5⟩ : KB < w7.heap.size ∧ AB < w7.heap.size ∧ SB < w7.heap.size ∧ MB < w7.heap.size ∧ r < w7.heap.size := HLT.out
    clear hS hown hM hB hSok hlf hst1
    by_cases hkl : k < 30
    · obtain ⟨m, hm⟩ : ∃ m, m = srv cs k cs.length := ⟨_, rfl⟩
      have hkl' : (k : Int) < 30 := by omega
      have hVk : V[k]? = some (.int .i64 (m : Nat)) := by rw [HV.out, setV_get _ hkl, hm]
      have hidx := fun W => idx_arr und171 agg3 siz3 hkl hVk W
      have hm30 : m < 2 ^ 30 := by rw [hm]; exact Nat.lt_of_lt_of_le (srv_lt _ _ _) (Nat.pow_le_pow_right (by omega) HOK.out.len)
      obtain ⟨x, hx⟩ : ∃ x, x = st1 ||| m := ⟨_, rfl⟩
      have hs30 : st1 < 2 ^ 30 := by rw [HST.out]; exact HSO.out.set
      have hrun : ∀ W, (binOp .or 3 (.int .i64 st1) (.int .i64 m)).run Tryz.prog W = .ok (.int .i64 x) W := fun W => by rw [hx]; exact run_or (by omega) (by omega) 3 W
      have hx30 : x < 2 ^ 30 := by rw [hx]; exact Nat.or_lt_two_pow hs30 hm30
      have HRUN := Lib.hid hrun
      have hnext : chTo cs H L0 (k + 1) = if 0 < lf ∧ (mstL cs x).getD (lf - 1) 0 = H then ⟨S.ch ++ [(k : Int)], x, lf - 1⟩ else S := by
        rw [chTo_succ, ← HS.out, chStep, ← HLF.out, ← HST.out, ← hm, ← hx]
      have HNX := Lib.hid hnext
      clear hm hVk hrun hx hnext
      by_cases hl0 : 0 < lf
      · obtain ⟨L, hL⟩ : ∃ L, lf = L + 1 := ⟨lf - 1, by omega⟩
        have hLL : (lf : Int) - 1 = L := by omega
        have hl0' : ((0 : Int) < lf) := by omega
        have hL9 : L ≤ 9 := by omega
        have hL11 : L < 11 := by omega
        have HL1 := Lib.hid hL
        obtain ⟨y, hy⟩ : ∃ y, y = (mstL cs x).getD L 0 := ⟨_, rfl⟩
        have hyi : ∀ W, (Instr.index 165 (.agg (mstV cs x)) (.int .i64 (L : Int))).run Tryz.prog W = .ok (.int .i64 y) W := fun W => by
          refine idx_arr und176 agg3 siz3 hL11 ?_ W
          rw [hy]; exact numV_get (fun i => (mstL cs x).getD i 0) hL11
        obtain ⟨T, hT⟩ : ∃ T, T = mstV cs x := ⟨_, rfl⟩
        rw [← hT] at hyi
        have HT := Lib.hid hT
        have HY := Lib.hid hy
        clear hT hy hL
        go_wp2_with (with_reducible refine wpList_bin_on ?hw .or 3 3 _ _ rfl (.int .i64 st1) (.int .i64 m) _ rfl rfl rfl (HRUN.out _) ?_)
        refine (memo_any KB AB SB MB r ob1 cp1 cs HOK.out x hx30 wr HM.out).mono ?_
        rintro e w9 ⟨rfl, hM9, hg9⟩
        have HM9 := Lib.hid hM9
        have HOW9 := Lib.hid (kept_other HOW.out hg9 kb5)
        have HB9 := Lib.hid (HB.out.grown hg9 HB.out.size (fun k hk => by injection hk; omega))
        have hz9 := hg9.size
        rw [← HT.out]
        clear hM9 hg9 HM HOW HB
        by_cases hyH : y = H
        · have hnx : chTo cs H L0 (k + 1) = ⟨S.ch ++ [(k : Int)], x, L⟩ := by
            have e : lf - 1 = L := by omega
            rw [HNX.out, e, if_pos ⟨hl0, by rw [← HY.out]; exact hyH⟩]
          have HNX2 := Lib.hid hnx
          have hlen := HSO.out.len
          subst hyH
          clear hnx
          go_wp2_with (first
            | (with_reducible refine wpList_bin_on ?hw .or 3 3 _ _ rfl (.int .i64 st1) (.int .i64 m) _ rfl rfl rfl (HRUN.out _) ?_)
            | (at_builtin; refine wpList_append_own _ rfl _ _ 22 rfl w7.heap.size 3 i0 (.int .i64 0) 1 8 A_und31 hi0 hz0' hz1' hz2' rfl (by decide) _ _ _ rfl (HOW9.out.alloc _) ⟨w9.heap.size, 0, none⟩ 1 1 [.int .i64 (k : Int)] rfl rfl ?c1 ?c2 ?c3 ?c4 ?c5 ?_))
          case c1 =>
            intro j u hj
            match j, hj with
            | 0, hj => simp at hj; subst hj; simp [Addr.add]
          case c2 => intro u hu; simp at hu; subst hu; rfl
          case c3 => unfold maxLen; omega
          case c4 => omega
          case c5 => simp; omega
          intro v' w10 hown10 hgrow _
          have hbase : w7.heap.size ≤ (w9.alloc (.cells #[.int .i64 k] 3)).heap.size := by simp; omega
          have hL10' := below_grown (al HB9.out (.cells #[.int .i64 k] 3)) (HOW9.out.alloc _) (by have := HB9.out.size; omega) (by have := HB9.out.size; simp; omega) hgrow
          have hself : Below w7.heap.size w9 w10 := below_grown (al2 (Below.refl _ _) (by omega) (.cells #[.int .i64 k] 3)) (HOW9.out.alloc _) (Nat.le_refl _) hbase hgrow
          have hM10 := HM9.out.belowB hself kb1 kb2 kb3 kb4 kb5 HOBL.out
          have hz10 := hself.size
          have HOWN := Lib.hid hown10
          have HL10 := Lib.hid hL10'
          have HM10 := Lib.hid hM10
          clear hown10 hgrow hbase hL10' hself hM10
          go_wp2_with (with_reducible refine wpList_bin rfl .or 3 3 _ _ rfl (.int .i64 st1) (.int .i64 m) _ rfl rfl rfl (HRUN.out _) ?_)
          go_roundg (gk - 1)
          case rel => exact ⟨k + 1, _, by omega, by simp, rfl, by rw [HNX2.out], by rw [HNX2.out], by rw [HNX2.out]; simpa using HOWN.out, HM10.out, HL10.out, by omega⟩
          case measure => omega
        · have hnx : chTo cs H L0 (k + 1) = S := by
            have e : lf - 1 = L := by omega
            rw [HNX.out, e, if_neg (fun h => hyH (by rw [HY.out]; exact h.2))]
          have HNX2 := Lib.hid hnx
          have hyH' : (y == H) = false := by simpa using hyH
          clear hnx hyH
          go_wp2
          go_roundg (gk - 1)
          case rel => exact ⟨k + 1, _, by omega, by simp, rfl, by rw [HNX2.out, HLF.out], by rw [HNX2.out, HST.out], by rw [HNX2.out]; exact HOW9.out, HM9.out, HB9.out, by omega⟩
          case measure => omega
      · have hnx : chTo cs H L0 (k + 1) = S := by rw [HNX.out, if_neg (fun h => hl0 h.1)]
        have HNX2 := Lib.hid hnx
        have hlz : lf = 0 := by omega
        subst hlz
        clear hnx hl0
        go_wp2
        go_roundg (gk - 1)
        case rel => exact ⟨k + 1, _, by omega, by simp, rfl, by rw [HNX2.out, ← HLF.out], by rw [HNX2.out, HST.out], by rw [HNX2.out]; exact HOW.out, HM.out, HB.out, by omega⟩
        case measure => omega
    · have hkk : k = 30 := by omega
      subst hkk
      go_wp2
      try rw [Exit.noGoto_ret]
      go_ret2
      have e1 : (chooseP l st).1 = S.ch := by unfold chooseP; rw [HS.out, HH.out, HL0.out, HCS.out]
      have e2 : (chooseP l st).2 = H := by unfold chooseP; rw [HH.out, HCS.out]
      rw [e1, e2]
      exact ⟨_, rfl, own_base HOW.out (by have := HB.out.size; omega), HB.out⟩
end Go.Proofs.YtimedmkpenbmkaaGreat

namespace Go.Proofs.YtimedmkpenbmkaaGreat
open Go.RowKit Go.Shelf
set_option linter.unusedSimpArgs false
set_option linter.unusedVariables false

theorem OQ.below {w w' : World} {wd wind voice : Int} {pl hv : Value} {nm : List Bool} (h : OQ w wd wind voice pl hv nm) (hB : Below w.heap.size w w') : OQ w' wd wind voice pl hv nm := fun W hW => h W (join hB hW)
theorem OQerr.below {w w' : World} {wd wind voice : Int} {pl hv : Value} {E : Int} (h : OQerr w wd wind voice pl hv E) (hB : Below w.heap.size w w') : OQerr w' wd wind voice pl hv E := ⟨h.1, fun W hW => h.2 W (join hB hW)⟩

set_option maxHeartbeats 2000000 in
set_option maxRecDepth 100000 in
theorem Fewest_err (wd wind voice : Int) (pl : Value) (hv : Value) (E : Int) (w : World) (hOQ : OQerr w wd wind voice pl hv E) :
    Calls Tryz.prog 19 #[.agg #[.int .i64 wd, pl], .agg #[.int .i64 wind, .int .i64 voice], hv] w fun e w' => e = .returned (.tuple #[.slice none 0 0, .int .i64 E]) ∧ Below w.heap.size w w' := by
  have hE : (E != 0) = true := by simpa using hOQ.1
  have HOQ := Lib.hid hOQ
  clear hOQ
  have hB2 : ∀ o1 o2, Below w.heap.size w ((w.alloc o1).alloc o2) := fun o1 o2 => al (al (Below.refl _ _) _) _
  go_enter Tryz.func19, Tryz.ntmps19
  go_wp2_with fail
  refine (hearers_err wd wind voice pl hv E _ (HOQ.out.below (hB2 _ _))).mono ?_
  rintro e w1 ⟨rfl, hB⟩
  have HB := Lib.hid (join (hB2 _ _) hB)
  clear hB hB2
  go_wp2
  go_ret2
  exact ⟨rfl, HB.out⟩

set_option maxHeartbeats 2000000 in
set_option maxRecDepth 100000 in
theorem Fewest_ok (t : Hr.Town) (hok : t.Ok) (wind voice : Int) (hw0 : 0 ≤ wind) (hw4 : wind ≤ 4) (b o cap : Nat) (hv : Value) (nm : List Bool) (hnl : nm.length = 30) (w : World) (hI : Ints w b o t.plots)
    (hOQ : OQ w t.wide wind voice (.slice (some ⟨b, o, none⟩) t.plots.length cap) hv nm) :
    Calls Tryz.prog 19 #[.agg #[.int .i64 t.wide, .slice (some ⟨b, o, none⟩) t.plots.length cap], .agg #[.int .i64 wind, .int .i64 voice], hv] w fun e w' =>
      ∃ v, e = .returned (.tuple #[v, .int .i64 (firstE (lis t wind voice (nm.getD · false)))]) ∧ Below w.heap.size w w' ∧ (firstE (lis t wind voice (nm.getD · false)) ≠ 0 → v = .slice none 0 0) ∧
        (firstE (lis t wind voice (nm.getD · false)) = 0 → w'.ownsRow w.heap.size 3 1 v (chooseP (lis t wind voice (nm.getD · false)) 30).1.length ((chooseP (lis t wind voice (nm.getD · false)) 30).1.map (Value.int .i64))) := by
  have HI := Lib.hid hI
  have HOQ := Lib.hid hOQ
  have hbl := hI.1
  have hlen : (lis t wind voice (nm.getD · false)).length ≤ 30 := Nat.le_trans (lisTo_len t wind voice _ t.len) hok.n30
  obtain ⟨hl1, hl2⟩ := lis_row t wind voice (nm.getD · false)
  have hHR := fun w2 (h1 : Below w.heap.size w w2) => hearers_ok t hok wind voice hw0 hw4 b o cap hv nm hnl w2 (hI.below h1 hbl) (hOQ.below h1)
  obtain ⟨L, hL⟩ : ∃ L, L = lis t wind voice (nm.getD · false) := ⟨_, rfl⟩
  rw [← hL] at hlen hl1 hl2 hHR ⊢
  have HHR := Lib.hid hHR
  have HL1 := Lib.hid hl1
  have hB2 : ∀ o1 o2, Below w.heap.size w ((w.alloc o1).alloc o2) := fun o1 o2 => al (al (Below.refl _ _) _) _
  clear hI hOQ hHR hl1 hl2 hL
  go_enter Tryz.func19, Tryz.ntmps19
  go_wp2_with fail
  refine (HHR.out _ (hB2 _ _)).mono ?_
  rintro e w1 ⟨v, rfl, hB, hne, hz⟩
  have hzb : w.heap.size ≤ w1.heap.size := by have := (join (hB2 (.cells #[.int .i64 t.wide, .slice (some ⟨b, o, none⟩) t.plots.length cap] 25) (.cells #[.int .i64 wind, .int .i64 voice] 29)) hB).size; exact this
  have HB := Lib.hid (join (hB2 _ _) hB)
  obtain ⟨E, hE⟩ : ∃ E, E = firstE L := ⟨_, rfl⟩
  rw [← hE] at hne hz ⊢
  have HZ := Lib.hid hz
  have HN := Lib.hid hne
  have HEQ := Lib.hid hE
  clear hB hB2 hne hz hE
  by_cases h0 : E = 0
  · subst h0
    have hown := HZ.out rfl
    obtain ⟨ob, cp, rfl⟩ := own_slice hown
    have hin := LiIn.of_own HL1.out hown
    have HIN := Lib.hid hin
    clear hown hin
    go_wp2_with fail
    refine (choose_any ob cp L HL1.out hlen 30 (by omega) w1 HIN.out).mono ?_
    rintro e w2 ⟨v2, rfl, hown2, hB2⟩
    obtain ⟨r1, hr1⟩ : ∃ r1, r1 = (chooseP L 30).1 := ⟨_, rfl⟩
    obtain ⟨r2, hr2⟩ : ∃ r2, r2 = (chooseP L 30).2 := ⟨_, rfl⟩
    rw [← hr1] at hown2
    rw [← hr2]
    have HR1 := Lib.hid hr1
    have HO2 := Lib.hid (own_base hown2 hzb)
    have HB2 := Lib.hid (join HB.out hB2)
    clear hown2 hB2 hr1 hr2
    go_wp2
    go_ret2
    rw [← HEQ.out, ← HR1.out]
    exact ⟨_, rfl, HB2.out, fun h => absurd rfl h, fun _ => HO2.out⟩
  · have hE : (E != 0) = true := by simpa using h0
    have HE := Lib.hid h0
    clear h0
    go_wp2
    go_ret2
    rw [← HEQ.out]
    exact ⟨_, rfl, HB.out, fun _ => rfl, fun h => absurd h HE.out⟩
end Go.Proofs.YtimedmkpenbmkaaGreat

namespace Go.Proofs.YtimedmkpenbmkaaGreat
open Go.RowKit Go.Shelf
set_option linter.unusedSimpArgs false
set_option linter.unusedVariables false

theorem TabsTo.setc {t : Hr.Town} {wind : Int} {k : Nat} {w : World} {vs : Array Value} (h : TabsTo t wind k w vs) {g o : Nat} (hg : ∀ T, ¬ TabAt w g T) (v : Value) : TabsTo t wind k (w.setCell ⟨g, o, none⟩ v) vs :=
  ⟨h.size, fun p h1 h2 h3 => by
    obtain ⟨tb, a, b⟩ := h.yes p h1 h2 h3
    exact ⟨tb, a, (Below.heap_setCell _ _ _ _ (fun e => hg _ (by rw [← show tb = g from e]; exact b))).trans b⟩, h.no⟩

/-- the world of leastVoice -/
structure LvW (w : World) (t : Hr.Town) (wind : Int) (tb : Nat) (vs box : Array Value) (W : World) : Prop where
  box : W.heap[w.heap.size]? = some (.cells box 117 (0, 0))
  tab : W.heap[tb]? = some (.cells vs 121 (0, 0))
  tt : TabsTo t wind 30 W vs
  bel : Below w.heap.size w W
theorem LvW.below {w : World} {t : Hr.Town} {wind : Int} {tb : Nat} {vs box : Array Value} {W W' : World} (h : LvW w t wind tb vs box W) (hB : Below W.heap.size W W') : LvW w t wind tb vs box W' :=
  ⟨(hB.block _ (Array.getElem?_eq_some_iff.1 h.box).1).trans h.box, (hB.block _ (Array.getElem?_eq_some_iff.1 h.tab).1).trans h.tab, h.tt.below hB, join h.bel hB⟩
theorem LvW.no {w : World} {t : Hr.Town} {wind : Int} {tb : Nat} {vs box : Array Value} {W : World} (h : LvW w t wind tb vs box W) : ∀ T, ¬ TabAt W w.heap.size T := fun T hT => by
  have := h.box.symm.trans hT
  injection this with this; injection this with _ h2; cases h2
theorem LvW.set {w : World} {t : Hr.Town} {wind : Int} {tb : Nat} {vs box : Array Value} {W : World} (h : LvW w t wind tb vs box W) (hne : tb ≠ w.heap.size) (o : Nat) (v : Value) : LvW w t wind tb vs (box.setIfInBounds o v) (W.setCell ⟨w.heap.size, o, none⟩ v) :=
  ⟨heap_set_same _ h.box, (Below.heap_setCell _ _ _ _ hne).trans h.tab, h.tt.setc h.no v, Go.Proofs.YtimedmkpenbmkaaGreat.setc h.bel (Nat.le_refl _)⟩

/-- a voice serves all houses with so many stands -/
def okV (L : List (Nat × List Bool)) (st : Nat) : Bool := L.all (fun x => !deafB x.2) && decide ((chooseP L st).2 = L.length)
def lvF (t : Hr.Town) (wind : Int) (cnt : Nat → Bool) (st : Nat) : Nat → Nat → Int
  | 0, _ => -1
  | f + 1, v => if okV (lis t wind v cnt) st then v else lvF t wind cnt st f (v + 1)
def leastV (t : Hr.Town) (wind : Int) (cnt : Nat → Bool) (st : Nat) : Int := lvF t wind cnt st 40 1

set_option maxHeartbeats 4000000 in
set_option maxRecDepth 100000 in
theorem leastVoice_any (t : Hr.Town) (hok : t.Ok) (wind voice : Int) (hw0 : 0 ≤ wind) (hw4 : wind ≤ 4) (b o cap r : Nat) (cf : FuncId) (caps : Array Value) (cnt : Nat → Bool) (st : Nat) (hst : st < 2 ^ 62) (w : World) (hI : Ints w b o t.plots) (hD : DirMap w r) (hcf : ∀ args W, (callFunc cf args).run Tryz.prog W = .ok (.enter cf args) W)
    (hCnt : ∀ p : Nat, p < t.len → ∀ W, Below w.heap.size w W → Calls Tryz.prog cf (#[.int .i64 p] ++ caps) W fun e w' => e = .returned (.bool (cnt p)) ∧ Below W.heap.size W w') :
    Calls Tryz.prog 112 #[.agg #[.int .i64 t.wide, .slice (some ⟨b, o, none⟩) t.plots.length cap, .int .i64 wind, .int .i64 voice, .map (some r), .func (.func cf) #[] caps], .int .i64 st] w fun e w' =>
      e = .returned (.int .i64 (leastV t wind cnt st)) ∧ Below w.heap.size w w' := by
  have HI := Lib.hid hI
  have HD := Lib.hid hD
  have HCNT := Lib.hid hCnt
  have HCF := Lib.hid hcf
  have HST := Lib.hid hst
  have hbl := hI.1
  have hrl : r < w.heap.size := (Array.getElem?_eq_some_iff.1 hD).1
  have hbox0 : ∀ R, (w.alloc (.cells R 117)).heap[w.heap.size]? = some (.cells R 117 (0, 0)) := fun R => heap_alloc_last _ _
  have HBOX0 := Lib.hid hbox0
  clear hI hD hCnt hcf hst hbox0
  go_enter Tryz.func112, Tryz.ntmps112
  go_wp2_with fail
  go_step3
  go_wp2_with fail
  refine (tables_any t hok wind voice hw0 hw4 b o cap r _ _ _ _ (HI.out.below (below1 w _) hbl) (dir_al HD.out hrl _)).mono ?_
  rintro e w1 ⟨vs, rfl, hT, hB1⟩
  have hbx1 := (hB1.block w.heap.size (by simp)).trans (HBOX0.out _)
  have hz1 : w.heap.size + 1 ≤ w1.heap.size := by have := hB1.size; simpa using this
  have hti := tabs_size130
  rw [← hT.size] at hti
  have HTI := Lib.hid hti
  have hone := hT.one
  have hvsz := hT.size
  have HVSZ := Lib.hid hvsz
  have HONE := Lib.hid hone
  have hL2 : LvW w t wind w1.heap.size vs #[.int .i64 t.wide, .slice (some ⟨b, o, none⟩) t.plots.length cap, .int .i64 wind, .int .i64 voice, .map (some r), .func (.func cf) #[] caps] (w1.alloc (.cells vs 121)) :=
    ⟨(Below.heap_alloc _ _ _ (by omega)).trans hbx1, heap_alloc_last _ _, hT.below (below1 _ _), al (join (al (Below.refl _ _) _) hB1) _⟩
  have HL2 := Lib.hid hL2
  clear hT hB1 hbx1 hti hone hvsz hL2 HBOX0
  go_wp2_with (with_reducible refine wpList_store_new rfl 121 _ _ rfl _ vs rfl rfl HTI.out ?hs HONE.out ?_)
  case hs => rw [HVSZ.out]; rfl
  go_step3
  go_wp2_with fail
  go_loopg [6, 7, 8, 10, 11, 12] 40 (fun gk f i a1 a2 a3 a4 wr => ∃ v : Nat, ∃ vx : Int, gk + v = 41 ∧ i = .int .i64 v ∧ f = .int .i64 (-1) ∧ lvF t wind cnt st gk v = leastV t wind cnt st ∧ w1.heap.size < wr.heap.size ∧
    LvW w t wind w1.heap.size vs #[.int .i64 t.wide, .slice (some ⟨b, o, none⟩) t.plots.length cap, .int .i64 wind, .int .i64 vx, .map (some r), .func (.func cf) #[] caps] wr)
  case atStart => exact ⟨1, voice, by omega, rfl, rfl, rfl, by simp, HL2.out⟩
  case round =>
    clear HL2
    obtain ⟨wo, rfl⟩ : ∃ wo : World, wo = wr := ⟨_, rfl⟩
    obtain ⟨go, rfl⟩ : ∃ x : Nat, x = gk := ⟨_, rfl⟩
    obtain ⟨v, vx, hgk, rfl, rfl, hlv, hwz, hL⟩ := hrel
    have HLV := Lib.hid hlv
    have hx := hL.box
    obtain ⟨c0, c1, c2, c3, c4, c5⟩ := voice_cells hx
    have hfz := frozen_of_row wo w.heap.size 3 _ 117 hx
    have hL6 := hL.set (show w1.heap.size ≠ w.heap.size by omega) 3 (.int .i64 v)
    have hbw : w.heap.size < wo.heap.size := by omega
    have HL6 := Lib.hid hL6
    have HTAB := Lib.hid hL6.tab
    have HLO := Lib.hid hL
    clear hlv hx hL hL6
    by_cases hv : v ≤ 40
    · have hv' : (v : Int) ≤ 40 := by omega
      go_wp2_with (with_reducible refine wpList_load_row rfl 121 _ rfl w1.heap.size rfl 121 vs (0, 0) _ HTAB.out und130 rfl HTI.out ?_)
      obtain ⟨w6, hw6⟩ : ∃ w6, w6 = wo.setCell ⟨w.heap.size, 3, none⟩ (.int .i64 v) := ⟨_, rfl⟩
      have hL6 := HL6.out
      rw [← hw6] at hL6 ⊢
      simp only [List.setIfInBounds_toArray, List.set_cons_succ, List.set_cons_zero] at hL6
      have hw6z : w1.heap.size < w6.heap.size := by rw [hw6]; simpa [World.setCell] using hwz
      have HL := Lib.hid hL6
      clear hw6 hL6 HL6 HTAB HLO c0 c1 c2 c3 c4 c5 hfz
      refine (listeners_any t hok wind v b o cap (.map (some r)) cf caps cnt vs w6 (HI.out.below HL.out.bel hbl) HL.out.tt HCF.out (fun p hp W hW => HCNT.out p hp W (join HL.out.bel hW))).mono ?_
      rintro e w7 ⟨v7, rfl, hown7, hB7⟩
      have hlen : (lis t wind v cnt).length ≤ 30 := Nat.le_trans (lisTo_len t wind v _ t.len) hok.n30
      obtain ⟨hl1, hl2⟩ := lis_row t wind v cnt
      obtain ⟨L, hLL⟩ : ∃ L, L = lis t wind v cnt := ⟨_, rfl⟩
      rw [← hLL] at hown7 hlen hl1
      have hnext : lvF t wind cnt st go v = if okV L st then (v : Int) else lvF t wind cnt st (go - 1) (v + 1) := by
        rw [show go = go - 1 + 1 by omega, lvF, ← hLL]; rfl
      obtain ⟨ob, cp, rfl⟩ := own_slice hown7
      have hin := LiIn.of_own hl1 hown7
      have HIN := Lib.hid hin
      have HNEXT := Lib.hid hnext
      have HLN := Lib.hid hl1
      have hw7z : w1.heap.size < w7.heap.size := by have := hB7.size; omega
      have HL7 := Lib.hid (HL.out.below hB7)
      clear hown7 hB7 hl1 hl2 hLL hnext hin HL
      go_wp2_with fail
      go_loopg [10, 27] L.length (fun gk2 c i wi => ∃ j : Nat, gk2 + j = L.length ∧ i = .int .i64 j ∧ (∀ k x, k < j → L[k]? = some x → deafB x.2 = false) ∧ LiIn wi ob L ∧ w1.heap.size < wi.heap.size ∧
        LvW w t wind w1.heap.size vs #[.int .i64 t.wide, .slice (some ⟨b, o, none⟩) t.plots.length cap, .int .i64 wind, .int .i64 v, .map (some r), .func (.func cf) #[] caps] wi)
      case atStart => exact ⟨0, by omega, rfl, fun k x h => by omega, HIN.out, hw7z, HL7.out⟩
      case round =>
        clear HIN HL7
        obtain ⟨j, hj, rfl, hno, hin, hiz, hL⟩ := hrel
        have HNO := Lib.hid hno
        have HIN := Lib.hid hin
        have HL := Lib.hid hL
        clear hno hin hL
        by_cases hjl : j < L.length
        · obtain ⟨x, hx⟩ : ∃ x, L[j]? = some x := ⟨_, List.getElem?_eq_getElem hjl⟩
          have hjl' : (j : Int) < L.length := by omega
          have hx30 := HLN.out x (List.mem_of_getElem? hx)
          obtain ⟨g, rfl, hgl, hrg⟩ := HIN.out j x hx
          have hdf := fun W => deaf_any (x.1 : Int) x.2 hx30 W
          change ∀ W, Calls Tryz.prog 75 #[.agg (lisRow x).toArray] W _ at hdf
          obtain ⟨row, hrow⟩ : ∃ row, row = lisRow x := ⟨_, rfl⟩
          have hsz : (Tryz.prog.info? 126).map (·.size) = some row.length := by rw [hrow, lisRow_len hx30]; exact size135
          have hsz2 : (Tryz.prog.info? 126).map (·.size) = some row.toArray.size := by rw [hrow, List.size_toArray, lisRow_len hx30]; exact size135
          have hsz3 : row.toArray.size = 31 := by rw [hrow, List.size_toArray, lisRow_len hx30]
          have hone : row.toArray.all (·.oneCell') = true := by
            rw [hrow, Array.all_eq_true]; intro i hi
            have : (lisRow x).toArray[i] ∈ lisRow x := by simp
            unfold lisRow at this
            rcases List.mem_cons.1 this with h | h
            · rw [show (lisRow x).toArray[i] = _ from h]; rfl
            · obtain ⟨b', _, hb⟩ := List.mem_map.1 h; rw [show (lisRow x).toArray[i] = _ from hb.symm]; rfl
          rw [← hrow] at hrg hdf
          have hblk : (wr.alloc (.cells row.toArray 126)).heap[wr.heap.size]? = some (.cells row.toArray 126 (0, 0)) := heap_alloc_last _ _
          obtain ⟨df, hdfe⟩ : ∃ df, deafB x.2 = df := ⟨_, rfl⟩
          rw [hdfe] at hdf
          have HDF := Lib.hid hdf
          have HRG := Lib.hid hrg
          have HSZ := Lib.hid hsz
          have HSZ2 := Lib.hid hsz2
          have HSZ3 := Lib.hid hsz3
          have HON := Lib.hid hone
          have HBLK := Lib.hid hblk
          have HX := Lib.hid hx
          have HDE := Lib.hid hdfe
          clear hx hdf hrow hsz hsz2 hsz3 hone hrg hblk hdfe
          go_wp2_with (first
            | (with_reducible refine wpList_load_mid rfl 126 _ rfl g (j * 31) rfl row _ HRG.out und135 rfl HSZ.out ?_)
            | (with_reducible refine wpList_store_new rfl 126 _ _ rfl _ row.toArray rfl rfl HSZ2.out ?hs HON.out ?_)
            | (with_reducible refine wpList_load_row rfl 126 _ rfl wr.heap.size rfl 126 row.toArray (0, 0) _ HBLK.out und135 rfl HSZ2.out ?_))
          case hs => exact (Hid.out HSZ3).symm
          refine (HDF.out _).mono ?_
          rintro e w8 ⟨rfl, hB8⟩
          have hB8' : Below wr.heap.size wr w8 := join (below1 wr _) hB8
          have HL8 := Lib.hid (HL.out.below hB8')
          have HIN8 := Lib.hid (HIN.out.below hB8')
          have hz8 := hB8'.size
          clear hB8 hB8' HL HIN
          cases df with
          | true =>
            have hbad : okV L st = false := by
              unfold okV
              rw [Bool.and_eq_false_iff]; left
              rw [List.all_eq_false]
              exact ⟨x, List.mem_of_getElem? HX.out, by rw [HDE.out]; simp⟩
            have HBAD := Lib.hid hbad
            clear hbad
            go_wp2
            go_roundg (go - 1)
            case rel => exact ⟨v + 1, v, by omega, by simp, rfl, by rw [← HLV.out, HNEXT.out, HBAD.out]; rfl, by omega, HL8.out⟩
            case measure => omega
          | false =>
            go_wp2
            go_roundg (gk - 1)
            case rel => exact ⟨j + 1, by omega, by simp, fun k y hk hy => by
              rcases Nat.lt_succ_iff_lt_or_eq.1 hk with hk | rfl
              · exact HNO.out k y hk hy
              · have := HX.out.symm.trans hy; injection this with this; subst this; exact HDE.out, HIN8.out, by omega, HL8.out⟩
            case measure => omega
        · have hjj : j = L.length := by omega
          subst hjj
          have hall : L.all (fun x => !deafB x.2) = true := by
            rw [List.all_eq_true]
            intro x hx
            obtain ⟨i, hi, he⟩ := List.getElem_of_mem hx
            rw [HNO.out i x hi (by rw [List.getElem?_eq_getElem hi, he])]; rfl
          have HALL := Lib.hid hall
          clear hall
          go_wp2_with fail
          refine (choose_any ob cp L HLN.out hlen st HST.out wr HIN.out).mono ?_
          rintro e w8 ⟨v8, rfl, _, hB8⟩
          have HL8 := Lib.hid (HL.out.below hB8)
          have hz8 := hB8.size
          obtain ⟨n, hn⟩ : ∃ n, n = (chooseP L st).2 := ⟨_, rfl⟩
          rw [← hn]
          have HN := Lib.hid hn
          clear hB8 hn HIN HL
          by_cases hnl : n = L.length
          · have hgood : okV L st = true := by unfold okV; rw [HALL.out, ← HN.out]; simp [hnl]
            have HGOOD := Lib.hid hgood
            subst hnl
            clear hgood
            go_wp2
            try rw [Exit.noGoto_ret]
            go_ret
            have := HNEXT.out
            rw [HGOOD.out, HLV.out, if_pos rfl] at this
            exact ⟨by rw [this]; rfl, HL8.out.bel⟩
          · have hbad : okV L st = false := by unfold okV; rw [HALL.out, ← HN.out]; simp [hnl]
            have HBAD := Lib.hid hbad
            have hnl' : (n == (L.length : Int)) = false := by simpa using hnl
            clear hbad hnl
            go_wp2
            go_roundg (go - 1)
            case rel => exact ⟨v + 1, v, by omega, by simp, rfl, by rw [← HLV.out, HNEXT.out, HBAD.out]; rfl, by omega, HL8.out⟩
            case measure => omega
    · have hv' : v = 41 := by omega
      subst hv'
      go_wp2
      try rw [Exit.noGoto_ret]
      go_ret
      have := HLV.out
      rw [show go = 0 by omega, lvF] at this
      exact ⟨by rw [← this]; rfl, HLO.out.bel⟩
end Go.Proofs.YtimedmkpenbmkaaGreat
