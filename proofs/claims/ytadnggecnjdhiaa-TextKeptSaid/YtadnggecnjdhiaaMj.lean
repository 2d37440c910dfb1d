/- Contracts of the code and of the reference, part 10. -/
import Derived.Test.YtadnggecnjdhiaaMi
set_option linter.unusedSimpArgs false
set_option linter.unusedVariables false
namespace Go.Proofs.Ytadnggecnjdhiaa
open Go.RowKit Tx
attribute [local go_sem] Oper.semAt_some

set_option maxHeartbeats 2000000 in
set_option maxRecDepth 100000 in
theorem list_any (n : Nat) (hn : n ≤ 1000000) (w : World) : Calls Try.prog 112 #[.int .i64 n] w (RowPost (bits 0 n) w) := by
  obtain ⟨i0, hi0, hz0, hz1, hz2⟩ := info_parts A_infoI
  go_enter Try.func112, Try.ntmps112
  go_wp2
  go_loopw [0, 3, 4] (fun nv v i wr => ∃ (m k : Nat) (acc : List Int), nv = .int .i64 m ∧ i = .int .i64 k ∧ m ≤ n ∧ m + k ≤ n ∧ acc.length ≤ k ∧ acc ++ bits k m = bits 0 n ∧ wr.ownsRow w.heap.size 3 1 v acc.length (acc.map (Value.int .i64)) ∧ Below w.heap.size w wr) (fun nv _ _ _ => (intOf nv).toNat)
  case atStart => exact ⟨n, 0, [], rfl, rfl, Nat.le_refl _, by omega, by simp, rfl, own_none _ _ _ _, Below.refl _ _⟩
  case round =>
    obtain ⟨m, k, acc, rfl, rfl, hm, hmk, hak, hacc, hown, hBr⟩ := hrel
    have HO := Lib.hid hown
    have HBr := Lib.hid hBr
    have HACC := Lib.hid hacc
    have hz7 := hBr.size
    have hal : acc.length ≤ 1000000 := by omega
    clear hown hBr hacc
    by_cases h0 : 0 < m
    · obtain ⟨mi, hmi⟩ : ∃ mi : Int, mi = (m : Int) := ⟨_, rfl⟩
      have h0' : 0 < mi := by omega
      have hk1 : (k : Int) + 1 = ((k + 1 : Nat) : Int) := by omega
      have HK1 := Lib.hid hk1
      obtain ⟨q, hq | hq⟩ := even_odd m
      · have hqn : q ≤ 1000000 := by omega
        have hr : Int.tmod mi 2 = 0 := by rw [Int.tmod_eq_emod_of_nonneg (by omega)]; omega
        have hd : Int.tdiv mi 2 = (q : Int) := by rw [Int.tdiv_eq_ediv_of_nonneg (by omega)]; omega
        have HB : Hid (acc ++ bits (k + 1) q = bits 0 n) := Lib.hid (by rw [← HACC.out, hq, bits_even])
        have HQ := Lib.hid hq
        have hb1 : mi ≤ 1000000 := by omega
        rw [← hmi]
        have HMI := Lib.hid hmi
        clear hmi hq hk1 HACC
        go_wp2
        go_roundw
        case rel => exact ⟨q, k + 1, acc, rfl, by rw [HK1.out], by have := HQ.out; omega, by have := HQ.out; omega, by omega, HB.out, HO.out, HBr.out⟩
        case measure => have := HQ.out; simp [intOf]; have := HMI.out; omega
      · have hqn : q ≤ 1000000 := by omega
        have hr : Int.tmod mi 2 = 1 := by rw [Int.tmod_eq_emod_of_nonneg (by omega)]; omega
        have hd : Int.tdiv mi 2 = (q : Int) := by rw [Int.tdiv_eq_ediv_of_nonneg (by omega)]; omega
        have HB : Hid ((acc ++ [(k : Int)]) ++ bits (k + 1) q = bits 0 n) := Lib.hid (by rw [← HACC.out, hq, bits_odd]; simp)
        have HQ := Lib.hid hq
        have hb1 : mi ≤ 1000000 := by omega
        rw [← hmi]
        have HMI := Lib.hid hmi
        clear hmi hq hk1 HACC
        go_wp2_with (at_builtin; refine wpList_append_own _ rfl _ _ 28 rfl w.heap.size 3 i0 (.int .i64 0) 1 8 A_undI hi0 hz0 hz1 hz2 rfl (by decide) _ _ _ rfl (HO.out.alloc _) ⟨wr.heap.size, 0, none⟩ 1 1 [.int .i64 (k : Int)] rfl rfl ?d1 ?d2 ?d3 ?d4 ?d5 ?_)
        case d1 => exact cell_one_new _ _ _
        case d2 => first | rfl | (intro u hu; simp at hu; subst hu; rfl)
        case d3 => unfold maxLen; omega
        case d4 => omega
        case d5 => first | omega | (simp; omega)
        intro v' w8 hown8 hgrow _
        have hB8 := below_grown (al2 HBr.out (by omega) _) (HO.out.alloc _) (Nat.le_refl _) (by simp; omega) hgrow
        have HO8 := Lib.hid hown8
        have HB8 := Lib.hid hB8
        clear hgrow hown8 hB8
        go_wp2
        go_roundw
        case rel => exact ⟨q, k + 1, acc ++ [(k : Int)], rfl, by rw [HK1.out], by have := HQ.out; omega, by have := HQ.out; omega, by simp; omega, HB.out, by simpa using HO8.out, HB8.out⟩
        case measure => have := HQ.out; simp [intOf]; have := HMI.out; omega
    · obtain rfl : m = 0 := by omega
      have HB : Hid (acc = bits 0 n) := Lib.hid (by rw [← HACC.out, bits_zero, List.append_nil])
      clear HACC
      go_wp2
      go_ret
      exact ⟨_, rfl, by rw [← HB.out]; exact HO.out, HBr.out⟩
set_option maxHeartbeats 2000000 in
theorem listsN_any (t : Text) (hn : t.words.length ≤ 12) (pw : Option Addr) (cw : Nat) (v1 v2 : Value) (w : World) :
    Calls Try.prog 111 #[.agg #[.slice pw t.words.length cw, v1, v2]] w fun e w' => e = .returned (.int .i64 ((2 ^ t.words.length : Nat) : Int)) ∧ Below w.heap.size w w' := by
  generalize t.words.length = N at hn ⊢
  have HB := Lib.hid (below1 w (.cells #[.slice pw N cw, v1, v2] 35))
  obtain ⟨k0, k1, k2⟩ := blk3 (heap_last w (.cells #[.slice pw N cw, v1, v2] 35))
  go_enter Try.func111, Try.ntmps111
  go_wp2_with fail
  generalize w.alloc (.cells #[.slice pw N cw, v1, v2] 35) = W1 at HB k0 k1 k2 ⊢
  go_loop [3, 4] (fun v i => ∃ k q : Nat, k ≤ N ∧ i = .int .i64 k ∧ v = .int .i64 q ∧ q = 2 ^ k) (fun _ i => N - (intOf i).toNat)
  case atStart => exact ⟨0, 1, Nat.zero_le _, rfl, rfl, rfl⟩
  case round =>
    obtain ⟨k, q, hk, rfl, rfl, hq⟩ := hrel
    have hq9 : q ≤ 4096 := by rw [hq]; exact Nat.pow_le_pow_right (by omega) (show k ≤ 12 by omega)
    have HQ := Lib.hid hq
    clear hq
    by_cases hlt : k < N
    · have hlt' : (k : Int) < N := by omega
      have hw : 2 * (q : Int) = ((2 * q : Nat) : Int) := by push_cast; rfl
      have HW := Lib.hid hw
      clear hw
      go_wp2
      go_round
      case rel => exact ⟨k + 1, 2 * q, by omega, by go_num, by first | rfl | (congr 1; done) | (congr 1; push_cast; done) | (congr 1; push_cast; rfl), by rw [Nat.pow_succ, ← HQ.out]; omega⟩
      case measure => simp [intOf]; omega
    · obtain rfl : k = N := by omega
      go_wp2
      go_ret
      exact ⟨ret_int (by rw [HQ.out]; first | rfl | simp), HB.out⟩
theorem lexB_drop {a b : List Int} {k : Nat} (ha : k < a.length) (hb : k < b.length) : lexB (a.drop k) (b.drop k) = if a.getD k 0 ≠ b.getD k 0 then decide (a.getD k 0 < b.getD k 0) else lexB (a.drop (k + 1)) (b.drop (k + 1)) := by
  rw [List.drop_eq_getElem_cons ha, List.drop_eq_getElem_cons hb, lexB]
  rw [show a.getD k 0 = a[k] from by simp [ha], show b.getD k 0 = b[k] from by simp [hb]]
set_option maxHeartbeats 2000000 in
theorem before_any2 (a b : List Int) (hl : a.length = b.length) (hll : a.length ≤ 1000000) (p q : Option Addr) (c d : Nat) (w : World) (ha : Ints w p a) (hb : Ints w q b) :
    Calls Try.prog 113 #[.slice p a.length c, .slice q b.length d] w fun e w' => e = .returned (.bool (lexB a b)) ∧ Below w.heap.size w w' := by
  have HA := Lib.hid ha
  have HBL := Lib.hid hb
  have HL := Lib.hid hl
  clear ha hb hl
  go_enter Try.func113, Try.ntmps113
  go_wp2
  go_loopw [5] (fun i wr => ∃ k : Nat, k ≤ a.length ∧ i = .int .i64 k ∧ lexB (a.drop k) (b.drop k) = lexB a b ∧ Below w.heap.size w wr) (fun i _ => a.length - (intOf i).toNat)
  case atStart => exact ⟨0, Nat.zero_le _, rfl, rfl, Below.refl _ _⟩
  case round =>
    obtain ⟨k, hk, rfl, hd, hBr⟩ := hrel
    have HD := Lib.hid hd
    have HBr := Lib.hid hBr
    clear hd
    by_cases hlt : k < a.length
    · have hlt2 : k < b.length := by have := HL.out; omega
      have hlt' : (k : Int) < a.length := by omega
      have hlt2' : (k : Int) < b.length := by omega
      obtain ⟨b1, o1, x, rfl, hb1, hx, c1⟩ := (HA.out.below hBr).at hlt
      obtain ⟨b2, o2, y, rfl, hb2, hy, d1⟩ := (HBL.out.below hBr).at hlt2
      have HX := Lib.hid (lexB_drop hlt hlt2)
      rw [← hx, ← hy] at HX
      clear hx hy hBr
      by_cases hxy : x = y
      · subst hxy
        have HF : Hid (lexB (a.drop (k + 1)) (b.drop (k + 1)) = lexB a b) := Lib.hid (by rw [← HD.out, HX.out, if_neg (by simp)])
        clear HX HD
        go_wp2
        go_quiet (fail)
        go_wp2
        go_roundw
        case rel => exact ⟨k + 1, by omega, by go_num, HF.out, below_drewN' HBr.out _⟩
        case measure => simp [intOf]; omega
      · have hxy' : (x != y) = true := by simpa using hxy
        have HF : Hid (lexB a b = decide (x < y)) := Lib.hid (by rw [← HD.out, HX.out, if_pos hxy])
        clear HX HD hxy
        go_wp2
        go_quiet (fail)
        go_wp2
        go_quiet (fail)
        go_wp2
        go_ret
        exact ⟨ret_bool HF.out.symm, below_drewN' (below_drewN' HBr.out _) _⟩
    · obtain rfl : k = a.length := by omega
      have HF : Hid (lexB a b = false) := Lib.hid (by rw [← HD.out, List.drop_length]; rfl)
      clear HD
      go_wp2
      go_ret
      exact ⟨ret_bool HF.out.symm, HBr.out⟩
set_option maxHeartbeats 2000000 in
theorem rWeight_any (t : Text) (ok : Text.Ok t) (l : List Int) (hll : l.length ≤ 100000) (hx : ∀ x ∈ l, 0 ≤ x ∧ x < t.words.length) (pw pl : Option Addr) (cw cl : Nat) (v1 v2 : Value) (w : World) (hW : Wds w pw t.words) (hL : Ints w pl l) :
    Calls Try.prog 121 #[.agg #[.slice pw t.words.length cw, v1, v2], .slice pl l.length cl] w fun e w' => e = .returned (.int .i64 (t.wtOf l)) ∧ Below w.heap.size w w' := by
  have HB := Lib.hid (below1 w (.cells #[.slice pw t.words.length cw, v1, v2] 35))
  have HX := Lib.hid (heap_last w (.cells #[.slice pw t.words.length cw, v1, v2] 35))
  have HW := Lib.hid hW
  have HL := Lib.hid hL
  have HXS := Lib.hid hx
  have HOK := Lib.hid ok
  have hn12 := ok.n12
  have hbdall : ∀ k, 0 ≤ isum ((l.take k).map fun i => (t.words.getD i.toNat default).wt) ∧ isum ((l.take k).map fun i => (t.words.getD i.toNat default).wt) ≤ 2000000 := fun k => by
    have h := isum_bd ((l.take k).map fun i => (t.words.getD i.toNat default).wt) 0 20 (fun y hy => by
      obtain ⟨i, hi, rfl⟩ := List.mem_map.1 hy
      have hi2 := hx i (List.mem_of_mem_take hi)
      have := ok.word (t.words.getD i.toNat default) (getD_mem default (by omega))
      exact ⟨this.2.2.1, this.2.2.2⟩)
    have : ((l.take k).map fun i => (t.words.getD i.toNat default).wt).length ≤ 100000 := by simp; omega
    omega
  have HBD := Lib.hid hbdall
  have HT : Hid (t.wtOf l = isum ((l.take l.length).map fun i => (t.words.getD i.toNat default).wt)) := Lib.hid (by rw [List.take_length]; rfl)
  generalize t.wtOf l = tw at HT ⊢
  clear hW hL hx ok hbdall
  go_enter Try.func121, Try.ntmps121
  go_wp2_with fail
  generalize w.alloc (.cells #[.slice pw t.words.length cw, v1, v2] 35) = W1 at HB HX ⊢
  go_loopw [5, 6] (fun v i wr => ∃ (k : Nat) (s : Int), k ≤ l.length ∧ i = .int .i64 k ∧ v = .int .i64 s ∧ s = isum ((l.take k).map fun i => (t.words.getD i.toNat default).wt) ∧ Below W1.heap.size W1 wr) (fun _ i _ => l.length - (intOf i).toNat)
  case atStart => exact ⟨0, 0, Nat.zero_le _, rfl, rfl, rfl, Below.refl _ _⟩
  case round =>
    obtain ⟨k, s, hk, rfl, rfl, hs, hBr⟩ := hrel
    have HS := Lib.hid hs
    have HBr := Lib.hid hBr
    have hsb := HBD.out k
    rw [← hs] at hsb
    obtain ⟨k0, k1, k2⟩ := blk3 ((hBr.block w.heap.size (Array.getElem?_eq_some_iff.1 HX.out).1).trans HX.out)
    clear hs
    by_cases hlt : k < l.length
    · have hlt' : (k : Int) < l.length := by omega
      obtain ⟨b1, o1, x, rfl, hb1, hx, c1⟩ := (HL.out.below (join HB.out hBr)).at hlt
      have hxb := HXS.out x (by rw [hx]; exact getD_mem 0 hlt)
      obtain ⟨xn, rfl⟩ : ∃ n : Nat, x = (n : Int) := ⟨x.toNat, by omega⟩
      have hxn : xn < t.words.length := by omega
      obtain ⟨b2, o2, y, rfl, hb2, hy, d1, d2, d3⟩ := (HW.out.below (join HB.out hBr)).at hxn
      have hsn : isum ((l.take (k + 1)).map fun i => (t.words.getD i.toNat default).wt) = isum ((l.take k).map fun i => (t.words.getD i.toNat default).wt) + y.wt := by
        rw [take_snocD 0 hlt, List.map_append, List.map_cons, List.map_nil, isum_snoc, ← hx, Int.toNat_natCast, ← hy]
      have hs2 := HBD.out (k + 1)
      rw [hsn, ← HS.out] at hs2
      rw [← HS.out] at hsn
      have HSN := Lib.hid hsn
      obtain ⟨ya, yb, yc⟩ := y
      dsimp only at d1 d2 d3 hs2 HSN
      have hxi : (xn : Int) < t.words.length := hxb.2
      clear hx hy hsn hBr
      go_wp2
      go_quiet (fail)
      go_wp2
      go_roundw
      case rel => exact ⟨k + 1, _, by omega, by go_num, rfl, HSN.out.symm, below_drewN' HBr.out _⟩
      case measure => simp [intOf]; omega
    · obtain rfl : k = l.length := by omega
      clear hBr
      go_wp2
      go_ret
      exact ⟨ret_int (by rw [HT.out, HS.out]), join HB.out HBr.out⟩
end Go.Proofs.Ytadnggecnjdhiaa
set_option linter.unusedSimpArgs false
set_option linter.unusedVariables false
namespace Go.Proofs.Ytadnggecnjdhiaa
open Go.RowKit Tx
attribute [local go_sem] Oper.semAt_some

/-- a list and an error, to be read -/
def ReadPost (l : List Int) (er : Int) (w : World) (e : Ending) (w' : World) : Prop := ∃ p c, e = .returned (.tuple #[.slice p l.length c, .int .i64 er]) ∧ Ints w' p l ∧ Below w.heap.size w w'
theorem said_keeps (t : Text) (l : List Int) : t.keeps l = !decide (0 < (rsaid t l).length) := by
  unfold rsaid Text.keeps; rw [idx_any]
set_option maxHeartbeats 6000000 in
set_option maxRecDepth 100000 in
theorem rLeast_any (t : Text) (wt : Int) (hl1 : t.words.length ≤ 1000000) (hl2 : t.turns.length ≤ 1000000) (pw pt : Option Addr) (cw ct : Nat) (w : World) (hW : TxAt w t pw pt) :
    Calls Try.prog 51 #[.agg #[.slice pw t.words.length cw, .slice pt t.turns.length ct, .int .i64 t.breath], .int .i64 wt] w (ReadPost (leaL t wt) (leaE t wt) w) := by
  have HC := Lib.hid (fun W (h : Below w.heap.size w W) => rCheck_any t hl1 hl2 pw pt cw ct W (hW.below h))
  have HB := Lib.hid (below1 w (.cells #[.slice pw t.words.length cw, .slice pt t.turns.length ct, .int .i64 t.breath] 35))
  have HX := Lib.hid (heap_last w (.cells #[.slice pw t.words.length cw, .slice pt t.turns.length ct, .int .i64 t.breath] 35))
  have HW := Lib.hid hW
  clear hW
  by_cases he : t.err = 0
  · have ok := err_ok he
    have hn12 := ok.n12
    have hm6 := ok.m6
    rw [he] at HC
    by_cases hw : wt < 0
    · have e1 : leaL t wt = [] := by unfold leaL; rw [if_pos he, if_pos hw]
      have e2 : leaE t wt = 3 := by unfold leaE; rw [if_pos he, if_pos hw]
      rw [e1, e2]
      obtain ⟨k0, k1, k2⟩ := blk3 HX.out
      clear he e1 e2 ok
      go_enter Try.func51, Try.ntmps51
      go_wp2_with fail
      refine (HC.out _ HB.out).mono ?_
      rintro e w5 ⟨rfl, hB5⟩
      have HB5 := Lib.hid (join HB.out hB5)
      clear hB5
      go_wp2
      go_ret2
      exact ⟨none, 0, rfl, .inl rfl, HB5.out⟩
    · have e1 : leaL t wt = (t.least wt).1 := by unfold leaL; rw [if_pos he, if_neg hw]
      have e2 : leaE t wt = (t.least wt).2 := by unfold leaE; rw [if_pos he, if_neg hw]
      rw [e1, e2]
      have hw' : ¬ wt < 0 := hw
      have HBEST := Lib.hid (fun (b : List Int) (h : BestOf (t.leastP wt) (2 ^ t.len) b) => best_least h)
      have HP := Lib.hid (fun l => show t.leastP wt l = (decide (wt ≤ t.wtOf l) && !decide (0 < (rsaid t l).length)) by rw [← said_keeps]; rfl)
      have HOK := Lib.hid ok
      have hlen : t.len = t.words.length := rfl
      have hpow : 2 ^ t.words.length ≤ 4096 := by exact Nat.pow_le_pow_right (by omega) (show t.words.length ≤ 12 by omega)
      have HINC : Hid (∀ n, n < 2 ^ t.words.length → (bits 0 n).length ≤ 12 ∧ ∀ x ∈ bits 0 n, 0 ≤ x ∧ x < t.words.length) := Lib.hid (fun n hn => by
        have h := bits_incr t.words.length 0 n hn
        rw [Nat.zero_add] at h
        refine ⟨?_, fun x hx => by have := h.bd x hx; omega⟩
        rcases h.len with h | h
        · omega
        · rw [h]; simp)
      rw [hlen] at HBEST
      generalize t.least wt = le at HBEST ⊢
      have HLN := Lib.hid (fun W => listsN_any t (by omega) pw cw (.slice pt t.turns.length ct) (.int .i64 t.breath) W)
      have HSA := Lib.hid (fun (l : List Int) (hll : l.length ≤ 12) p c W (h : Below w.heap.size w W) hL => Said_any t (by omega) (fun u hu => by have := HOK.out.turn u hu; omega) l (by omega) pt p ct c (.slice pw t.words.length cw) (.int .i64 t.breath) W (HW.out.turns.below h) hL)
      have HWT := Lib.hid (fun (l : List Int) (hll : l.length ≤ 12) hx p c W (h : Below w.heap.size w W) hL => rWeight_any t HOK.out l (by omega) hx pw p cw c (.slice pt t.turns.length ct) (.int .i64 t.breath) W (HW.out.words.below h) hL)
      have hN0 : 0 < 2 ^ t.words.length := Nat.two_pow_pos _
      generalize hN : 2 ^ t.words.length = NN at HBEST HINC HLN hpow hN0
      obtain ⟨k0, k1, k2⟩ := blk3 HX.out
      clear he e1 e2 ok hw hlen hN
      go_enter Try.func51, Try.ntmps51
      go_wp2_with fail
      refine (HC.out _ HB.out).mono ?_
      rintro e w5 ⟨rfl, hB5⟩
      have HX := Lib.hid ((hB5.block w.heap.size (Array.getElem?_eq_some_iff.1 HX.out).1).trans HX.out)
      have HB := Lib.hid (join HB.out hB5)
      clear hB5 k0 k1 k2
      go_wp2_with fail
      go_loopw [7, 8, 9] (fun bv nv _ wr => ∃ (n : Nat) (b : List Int) (p : Option Addr) (c : Nat), bv = .slice p b.length c ∧ nv = .int .i64 n ∧ 1 ≤ n ∧ (n ≤ NN ∨ n = 1) ∧ BestOf (t.leastP wt) n b ∧ b.length ≤ 12 ∧ Ints wr p b ∧ Below w5.heap.size w5 wr) (fun _ nv _ _ => NN - (intOf nv).toNat)
      case atStart => exact ⟨1, [], none, 0, rfl, rfl, Nat.le_refl _, .inr rfl, BestOf.zero _, by simp, .inl rfl, Below.refl _ _⟩
      case round =>
        obtain ⟨wo, rfl⟩ : ∃ wo : World, wo = wr := ⟨_, rfl⟩
        obtain ⟨n, b, p, c, rfl, rfl, hn1, hnN, hbest, hbl, hIb, hBr⟩ := hrel
        have HBS := Lib.hid hbest
        have HIB := Lib.hid hIb
        have HBR := Lib.hid hBr
        have HXr := Lib.hid ((hBr.block w.heap.size (Array.getElem?_eq_some_iff.1 HX.out).1).trans HX.out)
        obtain ⟨k0, k1, k2⟩ := blk3 HXr.out
        clear hbest hIb hBr
        go_wp2_with fail
        refine (HLN.out _).mono ?_
        rintro e w6 ⟨rfl, hB⟩
        have HIB := Lib.hid (HIB.out.below hB)
        have HXr := Lib.hid ((hB.block w.heap.size (Array.getElem?_eq_some_iff.1 HXr.out).1).trans HXr.out)
        have HBR := Lib.hid (join HBR.out hB)
        clear hB k0 k1 k2
        by_cases hlt : n < NN
        · have hlt' : (n : Int) < (NN : Int) := by omega
          obtain ⟨hl12, hlx⟩ := HINC.out n hlt
          have HLX := Lib.hid hlx
          have HPN := Lib.hid (HP.out (bits 0 n))
          have HNE := Lib.hid (bits_ne (w := 0) (n := n) (by omega))
          clear hlx
          go_wp2_with fail
          refine (list_any n (by omega) _).mono ?_
          rintro e w7 ⟨v, rfl, ho, hB⟩
          obtain ⟨q, d, rfl, hIl, -⟩ := own_rd ho rfl
          have HSK := Lib.hid (fun h => HBS.out.skip (p := t.leastP wt) h)
          have HTK := Lib.hid (fun h1 h2 => HBS.out.take (p := t.leastP wt) hn1 h1 h2)
          have HKP := Lib.hid (fun h1 h2 => HBS.out.keep (p := t.leastP wt) h1 h2)
          obtain ⟨l, hl⟩ : ∃ l, l = bits 0 n := ⟨_, rfl⟩
          rw [← hl] at hIl hl12 HLX HPN HNE HSK HTK HKP ⊢
          have HIL := Lib.hid hIl
          have HIB := Lib.hid (HIB.out.below hB)
          have HXr := Lib.hid ((hB.block w.heap.size (Array.getElem?_eq_some_iff.1 HXr.out).1).trans HXr.out)
          have HBR := Lib.hid (join HBR.out hB)
          obtain ⟨k0, k1, k2⟩ := blk3 HXr.out
          clear hB ho hIl hl
          go_wp2_with fail
          refine (HSA.out l hl12 q d _ (join HB.out HBR.out) HIL.out).mono ?_
          rintro e w8 ⟨v, rfl, ho, hB⟩
          obtain ⟨sp, sc, rfl⟩ := own_val ho
          have HIL := Lib.hid (HIL.out.below hB)
          have HIB := Lib.hid (HIB.out.below hB)
          have HXr := Lib.hid ((hB.block w.heap.size (Array.getElem?_eq_some_iff.1 HXr.out).1).trans HXr.out)
          have HBR := Lib.hid (join HBR.out hB)
          clear hB ho k0 k1 k2
          obtain ⟨k0, k1, k2⟩ := blk3 HXr.out
          generalize (rsaid t l).length = sn at HPN ⊢
          by_cases hs : 0 < sn
          · have hs' : (0 : Int) < sn := by omega
            have HF := Lib.hid (HSK.out (by rw [HPN.out, decide_eq_true hs]; simp))
            clear hs
            go_wp2
            go_roundw
            case rel => exact ⟨n + 1, b, p, c, rfl, by go_num, by omega, by omega, HF.out, hbl, HIB.out, HBR.out⟩
            case measure => simp [intOf]; omega
          · obtain rfl : sn = 0 := by omega
            clear hs
            go_wp2_with fail
            refine (HWT.out l hl12 HLX.out q d _ (join HB.out HBR.out) HIL.out).mono ?_
            rintro e w9 ⟨rfl, hB⟩
            have HIL := Lib.hid (HIL.out.below hB)
            have HIB := Lib.hid (HIB.out.below hB)
            have HXr := Lib.hid ((hB.block w.heap.size (Array.getElem?_eq_some_iff.1 HXr.out).1).trans HXr.out)
            have HBR := Lib.hid (join HBR.out hB)
            clear hB k0 k1 k2
            generalize t.wtOf l = tw at HPN ⊢
            by_cases hw : tw < wt
            · have HF := Lib.hid (HSK.out (by rw [HPN.out, decide_eq_false (show ¬ wt ≤ tw by omega)]; rfl))
              go_wp2
              go_roundw
              case rel => exact ⟨n + 1, b, p, c, rfl, by go_num, by omega, by omega, HF.out, hbl, HIB.out, HBR.out⟩
              case measure => simp [intOf]; omega
            · have HPT : Hid (t.leastP wt l = true) := Lib.hid (by rw [HPN.out, decide_eq_true (show wt ≤ tw by omega)]; rfl)
              by_cases hb0 : b.length = 0
              · have hb0' : ((b.length : Int) == 0) = true := by rw [beq_iff_eq]; omega
                have HF := Lib.hid (HTK.out HPT.out (.inl (List.length_eq_zero_iff.1 hb0)))
                clear hb0
                go_wp2
                go_roundw
                case rel => exact ⟨n + 1, l, q, d, rfl, by go_num, by omega, by omega, HF.out, hl12, HIL.out, HBR.out⟩
                case measure => simp [intOf]; omega
              · have hb0' : ((b.length : Int) == 0) = false := by rw [beq_eq_false_iff_ne]; omega
                have HBN : Hid (b ≠ []) := Lib.hid (fun e => hb0 (by rw [e]; rfl))
                by_cases h1 : l.length < b.length
                · have h1' : (l.length : Int) < b.length := by omega
                  have HF := Lib.hid (HTK.out HPT.out (.inr (.inl h1)))
                  clear hb0
                  go_wp2
                  go_roundw
                  case rel => exact ⟨n + 1, l, q, d, rfl, by go_num, by omega, by omega, HF.out, hl12, HIL.out, HBR.out⟩
                  case measure => simp [intOf]; omega
                · have h1' : ¬ (l.length : Int) < b.length := by omega
                  by_cases h2 : l.length = b.length
                  · have h2' : ((l.length : Int) == (b.length : Int)) = true := by rw [beq_iff_eq]; omega
                    have HBF := Lib.hid (fun W hp hq => before_any2 l b h2 (by omega) q p d c W hp hq)
                    have HH2 := Lib.hid h2
                    clear hb0 h2
                    go_wp2_with fail
                    refine (HBF.out _ HIL.out HIB.out).mono ?_
                    rintro e w9 ⟨rfl, hB⟩
                    have HIL := Lib.hid (HIL.out.below hB)
                    have HIB := Lib.hid (HIB.out.below hB)
                    have HBR := Lib.hid (join HBR.out hB)
                    clear hB
                    cases hlx : lexB l b with
                    | true =>
                      have HF := Lib.hid (HTK.out HPT.out (.inr (.inr ⟨HH2.out, hlx⟩)))
                      clear hlx
                      go_wp2
                      go_roundw
                      case rel => exact ⟨n + 1, l, q, d, rfl, by go_num, by omega, by omega, HF.out, hl12, HIL.out, HBR.out⟩
                      case measure => simp [intOf]; omega
                    | false =>
                      have HF := Lib.hid (HKP.out HBN.out (fun h => by
                        rcases h with h | ⟨_, h⟩
                        · omega
                        · rw [hlx] at h; cases h))
                      clear hlx
                      go_wp2
                      go_roundw
                      case rel => exact ⟨n + 1, b, p, c, rfl, by go_num, by omega, by omega, HF.out, hbl, HIB.out, HBR.out⟩
                      case measure => simp [intOf]; omega
                  · have h2' : ((l.length : Int) == (b.length : Int)) = false := by rw [beq_eq_false_iff_ne]; omega
                    have HF := Lib.hid (HKP.out HBN.out (fun h => by
                      rcases h with h | ⟨h, _⟩
                      · omega
                      · omega))
                    clear hb0 h2
                    go_wp2
                    go_roundw
                    case rel => exact ⟨n + 1, b, p, c, rfl, by go_num, by omega, by omega, HF.out, hbl, HIB.out, HBR.out⟩
                    case measure => simp [intOf]; omega
        · obtain rfl : n = NN := by omega
          have HF := Lib.hid (HBEST.out b HBS.out)
          clear HBS
          by_cases hb0 : b.length = 0
          · have hb0' : ((b.length : Int) == 0) = true := by rw [beq_iff_eq]; omega
            have HF2 : Hid (le = ([], 6)) := Lib.hid (by rw [HF.out, if_pos (List.length_eq_zero_iff.1 hb0), List.length_eq_zero_iff.1 hb0])
            have hle := HF2.out
            clear HF HF2 hb0 HBEST
            subst hle
            go_wp2
            go_ret2
            exact ⟨none, 0, rfl, .inl rfl, join HB.out HBR.out⟩
          · have hb0' : ((b.length : Int) == 0) = false := by rw [beq_eq_false_iff_ne]; omega
            have HF2 : Hid (le = (b, 0)) := Lib.hid (by rw [HF.out, if_neg (fun e => hb0 (by rw [e]; rfl))])
            have hle := HF2.out
            clear HF HF2 hb0 HBEST
            subst hle
            go_wp2
            go_ret2
            exact ⟨p, c, rfl, HIB.out, join HB.out HBR.out⟩
  · have e1 : leaL t wt = [] := by unfold leaL; rw [if_neg he]
    have e2 : leaE t wt = t.err := by unfold leaE; rw [if_neg he]
    rw [e1, e2]
    have HE : (t.err != 0) = true := by simpa using he
    obtain ⟨k0, k1, k2⟩ := blk3 HX.out
    clear he e1 e2
    generalize t.err = er at HC HE ⊢
    go_enter Try.func51, Try.ntmps51
    go_wp2_with fail
    refine (HC.out _ HB.out).mono ?_
    rintro e w5 ⟨rfl, hB5⟩
    have HB5 := Lib.hid (join HB.out hB5)
    clear hB5
    go_wp2
    go_ret2
    exact ⟨none, 0, rfl, .inl rfl, HB5.out⟩
end Go.Proofs.Ytadnggecnjdhiaa
set_option linter.unusedSimpArgs false
set_option linter.unusedVariables false
namespace Go.Proofs.Ytadnggecnjdhiaa
open Go.RowKit Tx
attribute [local go_sem] Oper.semAt_some

/-- the words up to k, without one of them -/
def wo (k x : Nat) : List Int := ((List.range k).filter fun o => o ≠ x).map fun (o : Nat) => (o : Int)
theorem wo_succ (k x : Nat) : wo (k + 1) x = wo k x ++ (if k = x then [] else [(k : Int)]) := by
  unfold wo
  rw [List.range_succ, List.filter_append, List.map_append]
  by_cases h : k = x
  · simp [h]
  · simp [h]
theorem wo_len (k x : Nat) : (wo k x).length ≤ k := by
  unfold wo; rw [List.length_map]; exact Nat.le_trans (List.length_filter_le _ _) (by simp)
theorem wo_words (n x : Nat) (h : x < n) : wordsL 0 x ++ wordsL ((x : Int) + 1) (n - (x + 1)) = wo n x := by
  have a : ∀ k, k ≤ x → wo k x = wordsL 0 k := by
    intro k
    induction k with
    | zero => intro _; rfl
    | succ k ih => intro hk; rw [wo_succ, if_neg (by omega), ih (by omega), wordsL_succ]; simp
  have b : ∀ k, wo (x + 1 + k) x = wordsL 0 x ++ wordsL ((x : Int) + 1) k := by
    intro k
    induction k with
    | zero => rw [Nat.add_zero, wo_succ, if_pos rfl, a x (Nat.le_refl _)]; rfl
    | succ k ih => rw [show x + 1 + (k + 1) = x + 1 + k + 1 by omega, wo_succ, if_neg (by omega), ih, wordsL_succ, ← List.append_assoc]; congr 2
  have := b (n - (x + 1))
  rw [show x + 1 + (n - (x + 1)) = n by omega] at this
  exact this.symm
theorem wo_len2 (n x : Nat) (h : x < n) : (wo n x).length = n - 1 := by
  rw [← wo_words n x h, List.length_append, wordsL_length, wordsL_length]; omega
def spareP (t : Text) (x : Nat) : Bool := decide (0 < (wo t.words.length x).length) && t.keeps (wo t.words.length x)
/-- what Spare tells, of the words up to k -/
def spareTo (t : Text) (k : Nat) : List Int := ((List.range k).filter (spareP t)).map fun (o : Nat) => (o : Int)
theorem spareTo_succ (t : Text) (k : Nat) : spareTo t (k + 1) = spareTo t k ++ (if spareP t k then [(k : Int)] else []) := by
  unfold spareTo
  rw [List.range_succ, List.filter_append, List.map_append]
  cases h : spareP t k <;> simp [h]
theorem spareTo_len (t : Text) (k : Nat) : (spareTo t k).length ≤ k := by
  unfold spareTo; rw [List.length_map]; exact Nat.le_trans (List.length_filter_le _ _) (by simp)
def spaL (t : Text) : List Int := if t.err = 0 then spareTo t t.words.length else []
set_option maxHeartbeats 1000000 in
theorem without_any (n cw : Nat) (hn : n ≤ 1000) (x : Nat) (hx : x ≤ 1000) (pw : Option Addr) (v1 v2 v3 : Value) (w : World) :
    Calls Try.prog 159 #[.agg #[.slice pw n cw, v1, v2, v3], .int .i64 x] w (RowPost (wo n x) w) := by
  obtain ⟨i0, hi0, hz0, hz1, hz2⟩ := info_parts A_infoI
  have HB := Lib.hid (below1 w (.cells #[.slice pw n cw, v1, v2, v3] 125))
  go_enter Try.func159, Try.ntmps159
  go_wp2_with fail
  have hsz : (w.alloc (.cells #[.slice pw n cw, v1, v2, v3] 125)).heap.size = w.heap.size + 1 := by simp
  generalize w.alloc (.cells #[.slice pw n cw, v1, v2, v3] 125) = W1 at HB hsz ⊢
  have hsz1 : w.heap.size + 1 ≤ W1.heap.size := by omega
  clear hsz
  go_loopw [5, 6, 11] (fun v _ i wr => ∃ k : Nat, k ≤ n ∧ i = .int .i64 k ∧ wr.ownsRow W1.heap.size 3 1 v (wo k x).length ((wo k x).map (Value.int .i64)) ∧ Below W1.heap.size W1 wr) (fun _ _ i _ => n - (intOf i).toNat)
  case atStart => exact ⟨0, Nat.zero_le _, rfl, own_none _ _ _ _, Below.refl _ _⟩
  case round =>
    obtain ⟨k, hk, rfl, hown, hBr⟩ := hrel
    have HO := Lib.hid hown
    have HBr := Lib.hid hBr
    have hz7 := hBr.size
    have hwl := wo_len k x
    have HSN := Lib.hid (wo_succ k x)
    clear hown hBr
    by_cases hlt : k < n
    · have hlt' : (k : Int) < n := by omega
      by_cases hkx : k = x
      · have hkx' : ((k : Int) != (x : Int)) = false := by simp [hkx]
        have HKX := Lib.hid hkx
        clear hkx
        go_wp2
        go_roundw
        case rel => exact ⟨k + 1, by omega, by go_num, by rw [HSN.out, if_pos HKX.out, List.append_nil]; exact HO.out, HBr.out⟩
        case measure => simp [intOf]; omega
      · have hkx' : ((k : Int) != (x : Int)) = true := by rw [bne_iff_ne]; omega
        have HKX := Lib.hid hkx
        clear hkx
        go_wp2_with (at_builtin; refine wpList_append_own _ rfl _ _ 28 rfl W1.heap.size 3 i0 (.int .i64 0) 1 8 A_undI hi0 hz0 hz1 hz2 rfl (by decide) _ _ _ rfl (HO.out.alloc _) ⟨wr.heap.size, 0, none⟩ 1 1 [.int .i64 (k : Int)] rfl rfl ?d1 ?d2 ?d3 ?d4 ?d5 ?_)
        case d1 => exact cell_one_new _ _ _
        case d2 => first | rfl | (intro u hu; simp at hu; subst hu; rfl)
        case d3 => unfold maxLen; omega
        case d4 => omega
        case d5 => first | omega | (simp; omega)
        intro v' w8 hown8 hgrow _
        have hB8 := below_grown (al2 HBr.out (by omega) _) (HO.out.alloc _) (Nat.le_refl _) (by simp; omega) hgrow
        have HO8 := Lib.hid hown8
        have HB8 := Lib.hid hB8
        clear hgrow hown8 hB8
        go_wp2
        go_roundw
        case rel => exact ⟨k + 1, by omega, by go_num, by rw [HSN.out, if_neg HKX.out]; simpa using HO8.out, HB8.out⟩
        case measure => simp [intOf]; omega
    · obtain rfl : k = n := by omega
      clear HSN
      go_wp2
      go_ret
      exact ⟨_, rfl, own_base HO.out (by omega), join HB.out HBr.out⟩
set_option maxHeartbeats 2000000 in
set_option maxRecDepth 100000 in
theorem spare_any (t : Text) (ok : Text.Ok t) (pw pt : Option Addr) (cw ct : Nat) (mv : Value) (w : World) (hW : TxAt w t pw pt) :
    Calls Try.prog 127 #[.agg #[.slice pw t.words.length cw, .slice pt t.turns.length ct, .int .i64 t.breath, mv]] w (RowPost (spareTo t t.words.length) w) := by
  obtain ⟨i0, hi0, hz0, hz1, hz2⟩ := info_parts A_infoI
  have hn12 := ok.n12
  have HWO := Lib.hid (fun (x : Nat) (hx : x ≤ 1000) W => without_any t.words.length cw (by omega) x hx pw (.slice pt t.turns.length ct) (.int .i64 t.breath) mv W)
  have HKS := Lib.hid (fun (l : List Int) (hll : l.length ≤ 1000000) p c W (h : Below w.heap.size w W) hL => keepSense_any t ok l hll pt p ct c (.slice pw t.words.length cw) (.int .i64 t.breath) mv W (hW.turns.below h) hL)
  have HB := Lib.hid (below1 w (.cells #[.slice pw t.words.length cw, .slice pt t.turns.length ct, .int .i64 t.breath, mv] 125))
  have HX := Lib.hid (heap_last w (.cells #[.slice pw t.words.length cw, .slice pt t.turns.length ct, .int .i64 t.breath, mv] 125))
  have hsz : (w.alloc (.cells #[.slice pw t.words.length cw, .slice pt t.turns.length ct, .int .i64 t.breath, mv] 125)).heap.size = w.heap.size + 1 := by simp
  have k0 := blk_cells HX.out 0 _ rfl
  clear hW ok
  go_enter Try.func127, Try.ntmps127
  go_wp2_with fail
  generalize w.alloc (.cells #[.slice pw t.words.length cw, .slice pt t.turns.length ct, .int .i64 t.breath, mv] 125) = W1 at HB HX hsz k0 ⊢
  have hsz1 : w.heap.size + 1 ≤ W1.heap.size := by omega
  clear hsz
  go_loopw [3, 4, 5, 10] (fun v _ _ i wr => ∃ k : Nat, k ≤ t.words.length ∧ i = .int .i64 k ∧ wr.ownsRow W1.heap.size 3 1 v (spareTo t k).length ((spareTo t k).map (Value.int .i64)) ∧ Below W1.heap.size W1 wr) (fun _ _ _ i _ => t.words.length - (intOf i).toNat)
  case atStart => exact ⟨0, Nat.zero_le _, rfl, own_none _ _ _ _, Below.refl _ _⟩
  case round =>
    clear k0
    obtain ⟨w0, rfl⟩ : ∃ w0 : World, w0 = wr := ⟨_, rfl⟩
    obtain ⟨k, hk, rfl, hown, hBr⟩ := hrel
    have HO := Lib.hid hown
    have HBr := Lib.hid hBr
    have hz7 := hBr.size
    have hsl := spareTo_len t k
    have HSN := Lib.hid (spareTo_succ t k)
    have HXr := Lib.hid ((hBr.block w.heap.size (by omega)).trans HX.out)
    clear hown hBr
    by_cases hlt : k < t.words.length
    · have hlt' : (k : Int) < t.words.length := by omega
      have k0 := blk_cells HXr.out 0 _ rfl
      have k1 := blk_cells HXr.out 1 _ rfl
      have k2 := blk_cells HXr.out 2 _ rfl
      have k3 := blk_cells HXr.out 3 _ rfl
      go_wp2_with fail
      refine (HWO.out k (by omega) _).mono ?_
      rintro e w5 ⟨v5, rfl, ho, hB⟩
      have hol : (wo t.words.length k).length ≤ 1000000 := by have := wo_len t.words.length k; omega
      obtain ⟨q, d, rfl, hI, -⟩ := own_rd ho rfl
      have HI := Lib.hid hI
      have HPK := Lib.hid (show spareP t k = (decide (0 < (wo t.words.length k).length) && t.keeps (wo t.words.length k)) from rfl)
      have HXr := Lib.hid ((hB.block w.heap.size (Array.getElem?_eq_some_iff.1 HXr.out).1).trans HXr.out)
      have HO := Lib.hid (own_below HO.out hB)
      have HBr := Lib.hid (join HBr.out hB)
      have hz8 := HBr.out.size
      clear ho hI hB k0 k1 k2 k3 hz7
      have k0 := blk_cells HXr.out 0 _ rfl
      have k1 := blk_cells HXr.out 1 _ rfl
      have k2 := blk_cells HXr.out 2 _ rfl
      have k3 := blk_cells HXr.out 3 _ rfl
      generalize wo t.words.length k = l at hol HI HPK ⊢
      by_cases h0 : 0 < l.length
      · have h0' : (0 : Int) < l.length := by omega
        have HH0 := Lib.hid h0
        clear h0
        go_wp2_with fail
        refine (HKS.out l hol q d _ (join HB.out HBr.out) HI.out).mono ?_
        rintro e w6 ⟨rfl, hB⟩
        have HO := Lib.hid (own_below HO.out hB)
        have HBr := Lib.hid (join HBr.out hB)
        have hz9 := HBr.out.size
        clear hB k0 k1 k2 k3 hz8
        cases hkp : t.keeps l with
        | true =>
          have HF : Hid (spareP t k = true) := Lib.hid (by rw [HPK.out, hkp, decide_eq_true HH0.out]; rfl)
          clear hkp HPK
          go_wp2_with (at_builtin; refine wpList_append_own _ rfl _ _ 28 rfl W1.heap.size 3 i0 (.int .i64 0) 1 8 A_undI hi0 hz0 hz1 hz2 rfl (by decide) _ _ _ rfl (HO.out.alloc _) ⟨w6.heap.size, 0, none⟩ 1 1 [.int .i64 (k : Int)] rfl rfl ?d1 ?d2 ?d3 ?d4 ?d5 ?_)
          case d1 => exact cell_one_new _ _ _
          case d2 => first | rfl | (intro u hu; simp at hu; subst hu; rfl)
          case d3 => unfold maxLen; omega
          case d4 => omega
          case d5 => first | omega | (simp; omega)
          intro v' w8 hown8 hgrow _
          have hB8 := below_grown (al2 HBr.out (by omega) _) (HO.out.alloc _) (Nat.le_refl _) (by simp; omega) hgrow
          have HO8 := Lib.hid hown8
          have HB8 := Lib.hid hB8
          clear hgrow hown8 hB8
          go_wp2
          go_roundw
          case rel => exact ⟨k + 1, by omega, by go_num, by rw [HSN.out, if_pos HF.out]; simpa using HO8.out, HB8.out⟩
          case measure => simp [intOf]; omega
        | false =>
          have HF : Hid (spareP t k = false) := Lib.hid (by rw [HPK.out, hkp, Bool.and_false])
          clear hkp HPK
          go_wp2
          go_roundw
          case rel => exact ⟨k + 1, by omega, by go_num, by rw [HSN.out, HF.out]; simpa using HO.out, HBr.out⟩
          case measure => simp [intOf]; omega
      · have h0' : ¬ (0 : Int) < l.length := by omega
        have HF : Hid (spareP t k = false) := Lib.hid (by rw [HPK.out, decide_eq_false h0, Bool.false_and])
        clear h0 HPK
        go_wp2
        go_roundw
        case rel => exact ⟨k + 1, by omega, by go_num, by rw [HSN.out, HF.out]; simpa using HO.out, HBr.out⟩
        case measure => simp [intOf]; omega
    · obtain rfl : k = t.words.length := by omega
      clear HSN
      go_wp2
      go_ret
      exact ⟨_, rfl, own_base HO.out (by omega), join HB.out HBr.out⟩
set_option maxHeartbeats 2000000 in
theorem Spare_any (t : Text) (hl1 : t.words.length ≤ 1000000) (hl2 : t.turns.length ≤ 1000000) (pw pt : Option Addr) (cw ct : Nat) (w : World) (hW : TxAt w t pw pt) :
    Calls Try.prog 52 #[.agg #[.slice pw t.words.length cw, .slice pt t.turns.length ct, .int .i64 t.breath]] w (ListPost (spaL t) t.err w) := by
  by_cases he : t.err = 0
  · have HS := Lib.hid (fun W (h : Below w.heap.size w W) => open_ok t he pw pt cw ct W (hW.below h))
    have HP := Lib.hid (fun W mv (h : Below w.heap.size w W) => spare_any t (err_ok he) pw pt cw ct mv W (hW.below h))
    have e1 : spaL t = spareTo t t.words.length := by unfold spaL; rw [if_pos he]
    rw [e1, he]
    clear he hW e1
    go_enter Try.func52, Try.ntmps52
    go_wp2_with fail
    refine (HS.out _ (below1 _ _)).mono ?_
    rintro e w5 ⟨rfl, hB5⟩
    have HB5 := Lib.hid (join (below1 _ _) hB5)
    clear hB5
    go_wp2_with fail
    refine (HP.out _ _ (join HB5.out (below1 _ _))).mono ?_
    rintro e w6 ⟨v, rfl, ho, hB⟩
    have HO := Lib.hid (own_base ho (base' := w.heap.size) (by have := HB5.out.size; simp; omega))
    have HB6 := Lib.hid (join (join HB5.out (below1 _ _)) hB)
    clear hB ho
    go_wp2
    go_ret2
    exact ⟨_, rfl, HO.out, HB6.out⟩
  · have HS := Lib.hid (fun W (h : Below w.heap.size w W) => open_bad t he hl1 hl2 pw pt cw ct W (hW.below h))
    have e1 : spaL t = [] := by unfold spaL; rw [if_neg he]
    have HE : (t.err != 0) = true := by simpa using he
    rw [e1]
    clear he hW e1
    generalize t.err = er at HS HE ⊢
    go_enter Try.func52, Try.ntmps52
    go_wp2_with fail
    refine (HS.out _ (below1 _ _)).mono ?_
    rintro e w5 ⟨rfl, hB5⟩
    have HB5 := Lib.hid (join (below1 _ _) hB5)
    clear hB5
    go_wp2
    go_ret2
    exact ⟨_, rfl, own_none _ _ _ _, join HB5.out (below1 _ _)⟩
def spSp (pw : Option Addr) (cw A n x B : Nat) : Nat → List Value → Value → World → Prop
  | 0, _, v, _ => v = .int .i64 (x : Int)
  | 1, L, v, w => ∃ p c, v = .slice p (wordsL 0 x).length c ∧ w.ownsRow B 3 1 (.slice p (wordsL 0 x).length c) (wordsL 0 x).length ((wordsL 0 x).map (Value.int .i64)) ∧ (wordsL 0 x).length ≤ c
  | 2, _, v, _ => v = .int .i64 (x : Int)
  | 3, _, v, _ => v = .int .i64 ((x : Int) + 1)
  | 4, _, v, _ => v = .pointer (some ⟨A, 0, none⟩)
  | 5, _, v, _ => v = .slice pw n cw
  | 6, _, v, _ => v = .int .i64 (n : Int)
  | 7, L, v, w => ∃ p c, v = .slice p (wordsL ((x : Int) + 1) (n - (x + 1))).length c ∧ w.ownsRow B 3 1 (.slice p (wordsL ((x : Int) + 1) (n - (x + 1))).length c) (wordsL ((x : Int) + 1) (n - (x + 1))).length ((wordsL ((x : Int) + 1) (n - (x + 1))).map (Value.int .i64)) ∧ (wordsL ((x : Int) + 1) (n - (x + 1))).length ≤ c
  | _, _, _, _ => False
theorem spSp_stable (pw : Option Addr) (cw A n x B : Nat) : ∀ i L v w w', spSp pw cw A n x B i L v w → Rs.Gr w w' → spSp pw cw A n x B i L v w' := by
  intro i L v w w' h hg
  match i with
  | 0 => exact h
  | 1 => obtain ⟨p, c, h1, h2, h3⟩ := h; exact ⟨p, c, h1, own_below h2 hg, h3⟩
  | 2 => exact h
  | 3 => exact h
  | 4 => exact h
  | 5 => exact h
  | 6 => exact h
  | 7 => obtain ⟨p, c, h1, h2, h3⟩ := h; exact ⟨p, c, h1, own_below h2 hg, h3⟩

theorem app_none (p : Option Addr) (n c : Nat) (hnc : n ≤ c) (ty : TypeId) (W : World) : (Builtin.append_ #[28, 28] ty #[.slice p n c, .slice none 0 0]).run Try.prog W = .ok (.slice p n c) W := by
  obtain ⟨i0, hi0, hz0, hz1, hz2⟩ := info_parts A_infoI
  cases p <;> simp [Builtin.append_, run_underlying A_undI, sizeOf, typeInfo, hi0, Builtin.lenOf, Builtin.firstCells, hnc, storeCells]
theorem wpList_append_none {P : Program} {ops : Array Oper} {rest : List Oper} {o : Oper} {a : Act} {w : World} {Q : Exit → Act → World → Prop} (hgd : o.guard = none) (s x : Operand) (t : TypeId)
    (ho : o.op = .call { callee := .builtin .append, args := #[s, x], argTypes := #[t, t] }) (v : Value) (hs : a.eval s = v) (hx : a.eval x = .slice none 0 0)
    (hr : ∀ ty, (Builtin.append_ #[t, t] ty #[v, .slice none 0 0]).run P w = .ok v w) (h : wpList P ops Q rest (a.put o.dst v) w) : wpList P ops Q (o :: rest) a w :=
  wpList_plain hgd fun _ hK => by
    unfold Oper.wp execOp
    simp only [ho, resolve, invoke, builtin, Sem.run_bind, Sem.run_pure, Result.andThen_ok, List.map_toArray, List.map_cons, List.map_nil, hs, hx, hr]
    exact hK _ _ h
set_option maxHeartbeats 4000000 in
set_option maxRecDepth 100000 in
theorem rSpare_any (t : Text) (hl1 : t.words.length ≤ 1000000) (hl2 : t.turns.length ≤ 1000000) (pw pt : Option Addr) (cw ct : Nat) (w : World) (hW : TxAt w t pw pt) :
    Calls Try.prog 53 #[.agg #[.slice pw t.words.length cw, .slice pt t.turns.length ct, .int .i64 t.breath]] w (ListPost (spaL t) t.err w) := by
  obtain ⟨i0, hi0, hz0, hz1, hz2⟩ := info_parts A_infoI
  have HC := Lib.hid (fun W (h : Below w.heap.size w W) => rCheck_any t hl1 hl2 pw pt cw ct W (hW.below h))
  have HB := Lib.hid (below1 w (.cells #[.slice pw t.words.length cw, .slice pt t.turns.length ct, .int .i64 t.breath] 35))
  have HX := Lib.hid (heap_last w (.cells #[.slice pw t.words.length cw, .slice pt t.turns.length ct, .int .i64 t.breath] 35))
  have HW := Lib.hid hW
  clear hW
  by_cases he : t.err = 0
  · have ok := err_ok he
    have hn12 := ok.n12
    have hm6 := ok.m6
    have e1 : spaL t = spareTo t t.words.length := by unfold spaL; rw [if_pos he]
    rw [he] at HC
    rw [e1, he]
    have HSA := Lib.hid (fun (l : List Int) (hll : l.length ≤ 12) p c W (h : Below w.heap.size w W) hL => Said_any t (by omega) (fun u hu => by have := ok.turn u hu; omega) l (by omega) pt p ct c (.slice pw t.words.length cw) (.int .i64 t.breath) W (HW.out.turns.below h) hL)
    obtain ⟨k0, k1, k2⟩ := blk3 HX.out
    clear he e1 ok
    go_enter Try.func53, Try.ntmps53
    go_wp2_with fail
    refine (HC.out _ HB.out).mono ?_
    rintro e w5 ⟨rfl, hB5⟩
    have HX := Lib.hid ((hB5.block w.heap.size (Array.getElem?_eq_some_iff.1 HX.out).1).trans HX.out)
    have HB := Lib.hid (join HB.out hB5)
    have hz5 : w.heap.size < w5.heap.size := (Array.getElem?_eq_some_iff.1 HX.out).1
    clear hB5 k0 k1 k2
    go_wp2_with fail
    go_loopw [5, 6, 7] (fun v i _ wr => ∃ k : Nat, k ≤ t.words.length ∧ i = .int .i64 k ∧ wr.ownsRow w5.heap.size 3 1 v (spareTo t k).length ((spareTo t k).map (Value.int .i64)) ∧ Below w5.heap.size w5 wr ∧ (k = 0 ∨ 1 < t.words.length)) (fun _ i _ _ => t.words.length - (intOf i).toNat)
    case atStart => exact ⟨0, Nat.zero_le _, rfl, own_none _ _ _ _, Below.refl _ _, .inl rfl⟩
    case round =>
      obtain ⟨wo, rfl⟩ : ∃ w0 : World, w0 = wr := ⟨_, rfl⟩
      obtain ⟨k, hk, rfl, hown, hBr, hk1⟩ := hrel
      have HO := Lib.hid hown
      have HBr := Lib.hid hBr
      have hz7 := hBr.size
      have hsl := spareTo_len t k
      have HSN := Lib.hid (spareTo_succ t k)
      have HXr := Lib.hid ((hBr.block w.heap.size (by omega)).trans HX.out)
      obtain ⟨k0, k1, k2⟩ := blk3 HXr.out
      clear hown hBr
      by_cases hlt : k < t.words.length ∧ 1 < t.words.length
      · obtain ⟨hlt, h1⟩ := hlt
        have hlt' : (k : Int) < t.words.length := by omega
        have h1' : (1 : Int) < t.words.length := by omega
        have hsum : IntKind.i64.wrap ((k : Int) + 1) = (k : Int) + 1 := IntWalk.i64_in _ (by omega)
        have HW1 : Hid (∀ W, Calls Try.prog 93 #[.int .i64 0, .int .i64 (k : Int)] W (RowPost (wordsL 0 k) W)) := Lib.hid (fun W => by
          have := words_any 0 k (by omega) (by omega) W
          rwa [show ((k : Int) - 0).toNat = k by omega] at this)
        have HW2 : Hid (∀ W, Calls Try.prog 93 #[.int .i64 ((k : Int) + 1), .int .i64 (t.words.length : Int)] W (RowPost (wordsL ((k : Int) + 1) (t.words.length - (k + 1))) W)) := Lib.hid (fun W => by
          have := words_any ((k : Int) + 1) t.words.length (by omega) (by omega) W
          rwa [show ((t.words.length : Int) - ((k : Int) + 1)).toNat = t.words.length - (k + 1) by omega] at this)
        have HZ0 : w.heap.size < wo.heap.size := by omega
        have HPK : Hid (spareP t k = !decide (0 < (rsaid t (Go.Proofs.Ytadnggecnjdhiaa.wo t.words.length k)).length)) := Lib.hid (by
          unfold spareP; rw [wo_len2 _ _ hlt, decide_eq_true (by omega), Bool.true_and, said_keeps])
        have HWW := Lib.hid (wo_words t.words.length k hlt)
        have hln := wo_len2 t.words.length k hlt
        go_wp2_with fail
        refine Rs.region_gen 8 [[], [0], [], [2], [], [4], [4, 5], [0, 1, 2, 3, 4, 5, 6]] [some 26, some 27, some 28, some 29, some 30, some 31, some 32, some 33] (spSp pw cw w.heap.size t.words.length k wo.heap.size) (by kernel_rfl) (by kernel_rfl) rfl (spSp_stable _ _ _ _ _ _) ?_ ?_
        · refine ⟨fun V w' hG hs => ?_, fun V w' hG hs => ?_, fun V w' hG hs => ?_, fun V w' hG hs => ?_, fun V w' hG hs => ?_, fun V w' hG hs => ?_, fun V w' hG hs => ?_, fun V w' hG hs => ?_, trivial⟩
          all_goals
            obtain ⟨k0, k1, k2⟩ := blk3 ((hG.block w.heap.size HZ0).trans HXr.out)
          · rw [if_pos (by rfl)]
            exact Rs.GrowL.value (v := .int .i64 (k : Int)) (w' := w') (by simp [go_sem, Rs.look]) (Rs.Gr.refl _) rfl
          · have e0 : V 0 = .int .i64 (k : Int) := hs 0 (by simp)
            rw [if_pos (by rfl)]
            refine Rs.GrowL.call (f := 93) (args := #[.int .i64 0, .int .i64 (k : Int)]) (by simp [go_sem, Rs.look, e0]) ?_
            refine (HW1.out w').mono ?_
            rintro e w2 ⟨v, rfl, ho, hB2⟩
            obtain ⟨p, c, rfl, hI, -, -, hlc⟩ := own_rd ho rfl
            exact ⟨_, rfl, hB2, p, c, rfl, own_base ho hG.size, hlc⟩
          · rw [if_pos (by rfl)]
            exact Rs.GrowL.value (v := .int .i64 (k : Int)) (w' := w') (by simp [go_sem, Rs.look]) (Rs.Gr.refl _) rfl
          · have e2 : V 2 = .int .i64 (k : Int) := hs 2 (by simp)
            rw [if_pos (by rfl)]
            exact Rs.GrowL.value (v := .int .i64 ((k : Int) + 1)) (w' := w') (by simp [go_sem, Rs.look, e2, hsum]) (Rs.Gr.refl _) rfl
          · rw [if_pos (by rfl)]
            exact Rs.GrowL.value (v := .pointer (some ⟨w.heap.size, 0, none⟩)) (w' := w') (by simp [go_sem, Rs.look]) (Rs.Gr.refl _) rfl
          · have e4 : V 4 = .pointer (some ⟨w.heap.size, 0, none⟩) := hs 4 (by simp)
            rw [if_pos (by rfl)]
            exact Rs.GrowL.value (v := .slice pw t.words.length cw) (w' := w') (by simp [go_sem, Rs.look, e4, k0]) (Rs.Gr.refl _) rfl
          · have e4 : V 4 = .pointer (some ⟨w.heap.size, 0, none⟩) := hs 4 (by simp)
            have e5 : V 5 = .slice pw t.words.length cw := hs 5 (by simp)
            rw [if_pos (by rfl)]
            exact Rs.GrowL.value (v := .int .i64 (t.words.length : Int)) (w' := w') (by simp [go_sem, Rs.look, e4, e5]) (Rs.Gr.refl _) rfl
          · have e0 : V 0 = .int .i64 (k : Int) := hs 0 (by simp)
            have r1 := hs 1 (by simp)
            have e2 : V 2 = .int .i64 (k : Int) := hs 2 (by simp)
            have e3 : V 3 = .int .i64 ((k : Int) + 1) := hs 3 (by simp)
            have e4 : V 4 = .pointer (some ⟨w.heap.size, 0, none⟩) := hs 4 (by simp)
            have e5 : V 5 = .slice pw t.words.length cw := hs 5 (by simp)
            have e6 : V 6 = .int .i64 (t.words.length : Int) := hs 6 (by simp)
            rw [if_pos (by rfl)]
            refine Rs.GrowL.call (f := 93) (args := #[.int .i64 ((k : Int) + 1), .int .i64 (t.words.length : Int)]) (by simp [go_sem, Rs.look, e3, e6]) ?_
            refine (HW2.out w').mono ?_
            rintro e w2 ⟨v, rfl, ho, hB2⟩
            obtain ⟨p, c, rfl, hI, -, -, hlc⟩ := own_rd ho rfl
            exact ⟨_, rfl, hB2, p, c, rfl, own_base ho hG.size, hlc⟩
        · intro V w' hG hs
          have e0 : V 0 = .int .i64 (k : Int) := hs 0 (by omega)
          have r1 := hs 1 (by omega)
          have e2 : V 2 = .int .i64 (k : Int) := hs 2 (by omega)
          have e3 : V 3 = .int .i64 ((k : Int) + 1) := hs 3 (by omega)
          have e4 : V 4 = .pointer (some ⟨w.heap.size, 0, none⟩) := hs 4 (by omega)
          have e5 : V 5 = .slice pw t.words.length cw := hs 5 (by omega)
          have e6 : V 6 = .int .i64 (t.words.length : Int) := hs 6 (by omega)
          have r7 := hs 7 (by omega)
          obtain ⟨pa, ca, e1, oa, hca⟩ := r1
          obtain ⟨pb, cb, e7, ob, hcb⟩ := r7
          simp only [Rs.canon, Rs.dstOf, List.range_succ, List.range_zero, List.nil_append, List.cons_append, List.foldl_cons, List.foldl_nil, List.drop_succ_cons, List.drop_zero, List.drop_nil, List.getElem?_toArray, List.getElem?_cons_succ, List.getElem?_cons_zero, Option.bind_some, Act.put, List.getD_cons_succ, List.getD_cons_zero, List.setIfInBounds_toArray, List.set_cons_succ, List.set_cons_zero]
          rw [e0, e2, e3, e4, e5, e6, e1, e7]
          clear e0 e2 e3 e4 e5 e6 e1 e7 hs
          have hzG := hG.size
          have hal : (wordsL (0 : Int) k).length = k := wordsL_length _ _
          have hbl : (wordsL ((k : Int) + 1) (t.words.length - (k + 1))).length = t.words.length - (k + 1) := wordsL_length _ _
          have HAL := Lib.hid hal
          have HBL := Lib.hid hbl
          clear hal hbl k0 k1 k2
          rcases ob.2 with ⟨hv, hn0⟩ | ⟨g, cap, cur, hv, hgb, hgc, hrest⟩
          · rw [hv]
            have happ := fun ty W => app_none pa (wordsL (0 : Int) k).length ca hca ty W
            have hLA : Go.Proofs.Ytadnggecnjdhiaa.wo t.words.length k = wordsL (0 : Int) k := by rw [← HWW.out, List.length_eq_zero_iff.1 hn0, List.append_nil]
            rw [hLA] at HPK
            obtain ⟨p', c', e', hIL, -⟩ := own_rd oa rfl
            injection e' with e' _ e''; subst e'; subst e''
            have HG9 := Lib.hid hG
            clear oa ob hv hn0 hLA hca hcb hG HWW
            have hl12 : (wordsL (0 : Int) k).length ≤ 12 := by have := HAL.out; omega
            have HIL := Lib.hid hIL
            have HO := Lib.hid (own_below HO.out HG9.out)
            have HXr := Lib.hid ((HG9.out.block w.heap.size (by omega)).trans HXr.out)
            have HBr := Lib.hid (join HBr.out HG9.out)
            obtain ⟨k0, k1, k2⟩ := blk3 HXr.out
            clear hIL HG9
            generalize (wordsL (0 : Int) k) = l at HIL HPK hl12 happ ⊢
            go_wp2_with (at_builtin; refine wpList_append_none rfl _ _ 28 rfl _ rfl rfl (fun ty => happ ty _) ?_)
            refine (HSA.out l hl12 _ _ _ (join HB.out HBr.out) HIL.out).mono ?_
            rintro e w8 ⟨v8, rfl, ho, hB⟩
            obtain ⟨sp, sc, rfl⟩ := own_val ho
            have HO := Lib.hid (own_below HO.out hB)
            have HBr := Lib.hid (join HBr.out hB)
            have hz8 := HBr.out.size
            clear hB ho k0 k1 k2
            generalize (rsaid t l).length = sn at HPK ⊢
            by_cases hs : sn = 0
            · subst hs
              have HF : Hid (spareP t k = true) := Lib.hid (by rw [HPK.out]; rfl)
              clear HPK
              go_wp2_with (at_builtin; refine wpList_append_own _ rfl _ _ 28 rfl w5.heap.size 3 i0 (.int .i64 0) 1 8 A_undI hi0 hz0 hz1 hz2 rfl (by decide) _ _ _ rfl (HO.out.alloc _) ⟨w8.heap.size, 0, none⟩ 1 1 [.int .i64 (k : Int)] rfl rfl ?f1 ?f2 ?f3 ?f4 ?f5 ?_)
              case f1 => exact cell_one_new _ _ _
              case f2 => first | rfl | (intro u hu; simp at hu; subst hu; rfl)
              case f3 => unfold maxLen; omega
              case f4 => omega
              case f5 => first | omega | (simp; omega)
              intro v' w9 hown8 hgrow _
              have hB8 := below_grown (al2 HBr.out (by omega) _) (HO.out.alloc _) (Nat.le_refl _) (by simp; omega) hgrow
              have HO8 := Lib.hid hown8
              have HB8 := Lib.hid hB8
              clear hgrow hown8 hB8
              go_wp2
              go_roundw
              case rel => exact ⟨k + 1, by omega, by go_num, by rw [HSN.out, if_pos HF.out]; simpa using HO8.out, HB8.out, .inr h1⟩
              case measure => simp [intOf]; omega
            · have hs' : ((sn : Int) == 0) = false := by rw [beq_eq_false_iff_ne]; omega
              have HF : Hid (spareP t k = false) := Lib.hid (by rw [HPK.out, decide_eq_true (by omega)]; rfl)
              clear HPK hs
              go_wp2
              go_roundw
              case rel => exact ⟨k + 1, by omega, by go_num, by rw [HSN.out, HF.out]; simpa using HO.out, HBr.out, .inr h1⟩
              case measure => simp [intOf]; omega
          · have hob := own_rd ob rfl
            obtain ⟨p', c', e', hIB, -⟩ := hob
            injection e' with e' _ e''; subst e'; subst e''
            injection hv with hv1 hv2 hv3
            subst hv1
            have hnews : ∀ j u, ((wordsL ((k : Int) + 1) (t.words.length - (k + 1))).map (Value.int .i64))[j]? = some u → w'.cell? ((⟨g, 0, none⟩ : Addr).add j) = some u := fun j u hj => ob.cells (g := g) rfl j u hj
            have HOA := Lib.hid oa
            have HG0 := Lib.hid hG
            have HNW := Lib.hid hnews
            clear oa ob hrest hgc hIB hca hcb hG hnews hv3
            go_wp2_with (at_builtin; refine wpList_append_own _ rfl _ _ 28 rfl wo.heap.size 3 i0 (.int .i64 0) 1 8 A_undI hi0 hz0 hz1 hz2 rfl (by decide) _ _ _ rfl HOA.out ⟨g, 0, none⟩ (wordsL ((k : Int) + 1) (t.words.length - (k + 1))).length _ ((wordsL ((k : Int) + 1) (t.words.length - (k + 1))).map (Value.int .i64)) rfl (by rw [List.length_map, Nat.mul_one]) HNW.out ?g2 ?g3 ?g4 ?g5 ?_)
            case g2 => intro u hu; obtain ⟨x, _, rfl⟩ := List.mem_map.1 hu; rfl
            case g3 => have := HAL.out; have := HBL.out; unfold maxLen; omega
            case g4 => have := HAL.out; have := HBL.out; omega
            try (case g5 => omega)
            intro v9 w9 hown9 hgrow9 _
            have HG9 := Lib.hid (below_grown HG0.out HOA.out (Nat.le_refl _) (by omega) hgrow9)
            rw [← List.map_append] at hown9
            obtain ⟨q9, d9, rfl, hIL, -⟩ := own_rd hown9 (by rw [List.length_append])
            rw [← HWW.out] at HPK
            clear hown9 hgrow9 HOA HG0 HNW
            have hl12 : (wordsL (0 : Int) k ++ wordsL ((k : Int) + 1) (t.words.length - (k + 1))).length ≤ 12 := by rw [List.length_append]; have := HAL.out; have := HBL.out; omega
            have HIL := Lib.hid hIL
            have HO := Lib.hid (own_below HO.out HG9.out)
            have HXr := Lib.hid ((HG9.out.block w.heap.size (by omega)).trans HXr.out)
            have HBr := Lib.hid (join HBr.out HG9.out)
            obtain ⟨k0, k1, k2⟩ := blk3 HXr.out
            clear hIL HG9
            generalize (wordsL (0 : Int) k ++ wordsL ((k : Int) + 1) (t.words.length - (k + 1))) = l at HIL HPK hl12 ⊢
            go_wp2_with fail
            refine (HSA.out l hl12 _ _ _ (join HB.out HBr.out) HIL.out).mono ?_
            rintro e w8 ⟨v8, rfl, ho, hB⟩
            obtain ⟨sp, sc, rfl⟩ := own_val ho
            have HO := Lib.hid (own_below HO.out hB)
            have HBr := Lib.hid (join HBr.out hB)
            have hz8 := HBr.out.size
            clear hB ho k0 k1 k2
            generalize (rsaid t l).length = sn at HPK ⊢
            by_cases hs : sn = 0
            · subst hs
              have HF : Hid (spareP t k = true) := Lib.hid (by rw [HPK.out]; rfl)
              clear HPK
              go_wp2_with (at_builtin; refine wpList_append_own _ rfl _ _ 28 rfl w5.heap.size 3 i0 (.int .i64 0) 1 8 A_undI hi0 hz0 hz1 hz2 rfl (by decide) _ _ _ rfl (HO.out.alloc _) ⟨w8.heap.size, 0, none⟩ 1 1 [.int .i64 (k : Int)] rfl rfl ?h1 ?h2 ?h3 ?h4 ?h5 ?_)
              case h1 => exact cell_one_new _ _ _
              case h2 => first | rfl | (intro u hu; simp at hu; subst hu; rfl)
              case h3 => unfold maxLen; omega
              case h4 => omega
              case h5 => first | omega | (simp; omega)
              intro v' wz hown8 hgrow _
              have hB8 := below_grown (al2 HBr.out (by omega) _) (HO.out.alloc _) (Nat.le_refl _) (by simp; omega) hgrow
              have HO8 := Lib.hid hown8
              have HB8 := Lib.hid hB8
              clear hgrow hown8 hB8
              go_wp2
              go_roundw
              case rel => exact ⟨k + 1, by omega, by go_num, by rw [HSN.out, if_pos HF.out]; simpa using HO8.out, HB8.out, .inr h1⟩
              case measure => simp [intOf]; omega
            · have hs' : ((sn : Int) == 0) = false := by rw [beq_eq_false_iff_ne]; omega
              have HF : Hid (spareP t k = false) := Lib.hid (by rw [HPK.out, decide_eq_true (by omega)]; rfl)
              clear HPK hs
              go_wp2
              go_roundw
              case rel => exact ⟨k + 1, by omega, by go_num, by rw [HSN.out, HF.out]; simpa using HO.out, HBr.out, .inr h1⟩
              case measure => simp [intOf]; omega
      · by_cases hkn : k < t.words.length
        · have hkn' : (k : Int) < t.words.length := by omega
          have h1' : ¬ (1 : Int) < t.words.length := by omega
          have HF : Hid (spareTo t t.words.length = spareTo t k) := Lib.hid (by
            rw [show t.words.length = k + 1 by omega, spareTo_succ]
            have : spareP t k = false := by unfold spareP; rw [wo_len2 _ _ hkn, decide_eq_false (by omega), Bool.false_and]
            rw [this]; simp)
          clear HSN hlt
          go_wp2
          go_ret2
          refine ⟨_, rfl, ?_, join HB.out HBr.out⟩
          rw [HF.out]
          exact own_base HO.out (by omega)
        · obtain rfl : k = t.words.length := by omega
          clear HSN hlt
          go_wp2
          go_ret2
          exact ⟨_, rfl, own_base HO.out (by omega), join HB.out HBr.out⟩
  · have e1 : spaL t = [] := by unfold spaL; rw [if_neg he]
    have HE : (t.err != 0) = true := by simpa using he
    obtain ⟨k0, k1, k2⟩ := blk3 HX.out
    rw [e1]
    clear he e1
    generalize t.err = er at HC HE ⊢
    go_enter Try.func53, Try.ntmps53
    go_wp2_with fail
    refine (HC.out _ HB.out).mono ?_
    rintro e w5 ⟨rfl, hB5⟩
    have HB5 := Lib.hid (join HB.out hB5)
    clear hB5
    go_wp2
    go_ret2
    exact ⟨_, rfl, own_none _ _ _ _, HB5.out⟩
end Go.Proofs.Ytadnggecnjdhiaa
set_option linter.unusedSimpArgs false
set_option linter.unusedVariables false
namespace Go.Proofs.Ytadnggecnjdhiaa
open Go.RowKit Tx
attribute [local go_sem] Oper.semAt_some

theorem A_undLL : Try.prog.underlying 55 = some (.slice 28) := by kernel_rfl
theorem A_infoIs : (Try.prog.info? 28).map (fun i => (i.zero, i.size, i.bytes)) = some (some (.slice none 0 0), 1, 24) := by kernel_rfl
/-- append, and whether it goes on in the same row -/
theorem append_which (w : World) (base : Nat) (i0 : TypeInfo) (hi : Try.prog.info? 28 = some i0) (hz0 : i0.zero = some (.slice none 0 0)) (hz1 : i0.size = 1) (hz2 : i0.bytes = 24) (ty : TypeId) (tv : Value) (n : Nat) (xs : List Value) (x : Value) (hx1 : x.oneCell' = true) (hown : w.ownsRow base 28 1 tv n xs) (hb : base ≤ w.heap.size) (hn : n ≤ 1000000) (a : Addr) (ha : w.cell? (a.add 0) = some x) :
    ∃ v' w', (Builtin.append_ #[55, 55] ty #[tv, .slice (some a) 1 1]).run Try.prog w = .ok v' w' ∧ w'.ownsRow base 28 1 v' (n + 1) (xs ++ [x]) ∧ w.grownBy w' tv.ownBlock ∧ (v'.ownBlock = tv.ownBlock ∨ v'.ownBlock = some w.heap.size) := by
  have hnews : ∀ j u, [x][j]? = some u → w.cell? (a.add j) = some u := fun j u hj => by
    match j, hj with
    | 0, hj => simp at hj; subst hj; exact ha
  obtain ⟨v', w', hr, h2, h3, h4⟩ := run_append_own (P := Try.prog) w base 55 ty 28 i0 (.slice none 0 0) 1 24 A_undLL hi hz0 hz1 hz2 rfl (by decide) tv n xs hown a 1 1 [x] rfl hnews (by simpa using hx1) (by unfold maxLen; omega) (by omega) hb
  refine ⟨v', w', hr, h2, h3, ?_⟩
  rcases hown.2 with ⟨rfl, rfl⟩ | ⟨g, cap, cur, rfl, hbg, hg, hnc, hcm, hcs, htake⟩
  · have hr2 := run_append_nil (P := Try.prog) w 55 ty 28 i0 (.slice none 0 0) A_undLL hi hz0 a 1 1 [x] (by rw [hz1]; rfl) hnews (by omega) (by omega) (by rw [hz2]; omega)
    rw [hr2] at hr
    injection hr with hv hw
    right; rw [← hv]; rfl
  · by_cases hroom : n + 1 ≤ cap
    · have hr2 := run_append_room (P := Try.prog) w 55 ty 28 i0 A_undLL hi g n cap cur hg a 1 1 [x] (by rw [hz1]; rfl) hnews (by simpa using hx1) hroom (by rw [hcs, hz1]; simp; omega)
      rw [hr2] at hr
      injection hr with hv hw
      subst hv
      exact .inl rfl
    · have holds : ∀ j u, xs[j]? = some u → w.cell? ((⟨g, 0, none⟩ : Addr).add j) = some u := hown.cells (g := g) rfl
      have hr2 := run_append_grow (P := Try.prog) w 55 ty 28 i0 (.slice none 0 0) A_undLL hi hz0 ⟨g, 0, none⟩ n cap xs (by rw [hz1]; exact hown.1) holds a 1 1 [x] (by rw [hz1]; rfl) hnews (by omega) (by omega) (by rw [hz2]; exact growslice_fits (by omega) (by omega))
      rw [hr2] at hr
      injection hr with hv hw
      right; rw [← hv]; rfl
theorem wpList_append_which {ops : Array Oper} {rest : List Oper} {o : Oper} {a : Act} {w : World} {Q : Exit → Act → World → Prop} (hgd : o.guard = none) (s x : Operand)
    (ho : o.op = .call { callee := .builtin .append, args := #[s, x], argTypes := #[55, 55] }) (base : Nat) (tv : Value) (n : Nat) (xs : List Value) (hs : a.eval s = tv) (hown : w.ownsRow base 28 1 tv n xs)
    (ad : Addr) (u : Value) (hx : a.eval x = .slice (some ad) 1 1) (hu : w.cell? (ad.add 0) = some u) (hu1 : u.oneCell' = true) (hb : base ≤ w.heap.size) (hn : n ≤ 1000000)
    (h : ∀ v' w', w'.ownsRow base 28 1 v' (n + 1) (xs ++ [u]) → w.grownBy w' tv.ownBlock → (v'.ownBlock = tv.ownBlock ∨ v'.ownBlock = some w.heap.size) → wpList Try.prog ops Q rest (a.put o.dst v') w') : wpList Try.prog ops Q (o :: rest) a w :=
  wpList_plain hgd fun _ hK => by
    obtain ⟨i0, hi, hz0, hz1, hz2⟩ := info_parts A_infoIs
    obtain ⟨v', w', hr, h2, h3, h4⟩ := append_which w base i0 hi hz0 hz1 hz2 o.type tv n xs u hu1 hown hb hn ad hu
    unfold Oper.wp execOp
    simp only [ho, resolve, invoke, builtin, Sem.run_bind, Sem.run_pure, Result.andThen_ok, List.map_toArray, List.map_cons, List.map_nil, hs, hx, hr]
    exact hK _ _ (h v' w' h2 h3 h4)

theorem wpList_append_none2 {P : Program} {ops : Array Oper} {rest : List Oper} {o : Oper} {a : Act} {w : World} {Q : Exit → Act → World → Prop} (hgd : o.guard = none) (s x : Operand) (t : TypeId)
    (ho : o.op = .call { callee := .builtin .append, args := #[s, x], argTypes := #[t, t] }) (v : Value) (hs : a.eval s = v) (hx : a.eval x = .slice none 0 0)
    (hr : ∀ ty, (Builtin.append_ #[t, t] ty #[v, .slice none 0 0]).run P w = .ok v w) (h : ∀ W, Hid (W = w) → wpList P ops Q rest (a.put o.dst v) W) : wpList P ops Q (o :: rest) a w :=
  wpList_append_none hgd s x t ho v hs hx hr (h w (Lib.hid rfl))
/-- a list of numbers as a value that is held in a row -/
def El (W : World) (x : Value) (l : List Int) : Prop := (l = [] ∧ x = .slice none 0 0) ∨ (l ≠ [] ∧ ∃ b c C, x = .slice (some ⟨b, 0, none⟩) l.length c ∧ W.heap[b]? = some (.cells C 3 (0, 0)) ∧ ∀ i, i < l.length → C[i]? = some (.int .i64 (l.getD i 0)))
theorem El.ints {W : World} {x : Value} {l : List Int} (h : El W x l) : ∃ q c, x = .slice q l.length c ∧ Ints W q l := by
  rcases h with ⟨rfl, rfl⟩ | ⟨_, b, c, C, rfl, hb, hc⟩
  · exact ⟨none, 0, rfl, .inl rfl⟩
  · exact ⟨_, c, rfl, .inr ⟨b, 0, rfl, (Array.getElem?_eq_some_iff.1 hb).1, fun i hi => by rw [Nat.zero_add]; exact blk_cells hb i _ (hc i hi)⟩⟩
theorem El.below {W W' : World} {x : Value} {l : List Int} (h : El W x l) (hb : Below W.heap.size W W') : El W' x l := by
  rcases h with h | ⟨hl, b, c, C, hx, hg, hc⟩
  · exact .inl h
  · exact .inr ⟨hl, b, c, C, hx, (hb.block b (Array.getElem?_eq_some_iff.1 hg).1).trans hg, hc⟩
theorem El.grown {W W' : World} {x : Value} {l : List Int} {base : Nat} {v : Value} {n : Nat} {xs : List Value} (h : El W x l) (hown : W.ownsRow base 28 1 v n xs) (hg : W.grownBy W' v.ownBlock) : El W' x l := by
  rcases h with h | ⟨hl, b, c, C, hx, hgb, hc⟩
  · exact .inl h
  · refine .inr ⟨hl, b, c, C, hx, (hg.block b (Array.getElem?_eq_some_iff.1 hgb).1 ?_).trans hgb, hc⟩
    rcases hown.2 with ⟨h3, _⟩ | ⟨g2, cap2, cur2, h3, hb2, hg2, _⟩
    · rw [h3]; show some b ≠ none; simp
    · rw [h3]; show some b ≠ some g2
      intro e; injection e with e; subst e
      rw [hgb] at hg2; injection hg2 with h; injection h with _ h; cases h
theorem El.of_own {W : World} {base : Nat} {v : Value} {l : List Int} (h : W.ownsRow base 3 1 v l.length (l.map (Value.int .i64))) (hl : l ≠ []) : El W v l := by
  rcases h.2 with ⟨h3, h4⟩ | ⟨g, cap, cur, rfl, hb, hg, h1, h2, h3, h4⟩
  · exact absurd (List.length_eq_zero_iff.1 h4) hl
  · refine .inr ⟨hl, g, cap, cur, rfl, hg, fun i hi => ?_⟩
    have : (cur.toList.take (l.length * 1))[i]? = (l.map (Value.int .i64))[i]? := by rw [h4]
    rw [List.getElem?_take, if_pos (by omega), Array.getElem?_toList] at this
    rw [this]; simp [hi]
def Els (W : World) (xs : List Value) (L : List (List Int)) : Prop := xs.length = L.length ∧ ∀ i, i < L.length → El W (xs.getD i undef) (L.getD i [])
theorem Els.below {W W' : World} {xs : List Value} {L : List (List Int)} (h : Els W xs L) (hb : Below W.heap.size W W') : Els W' xs L := ⟨h.1, fun i hi => (h.2 i hi).below hb⟩
theorem Els.grown {W W' : World} {xs : List Value} {L : List (List Int)} {base : Nat} {v : Value} {n : Nat} {ys : List Value} (h : Els W xs L) (hown : W.ownsRow base 28 1 v n ys) (hg : W.grownBy W' v.ownBlock) : Els W' xs L := ⟨h.1, fun i hi => (h.2 i hi).grown hown hg⟩
theorem Els.snoc {W : World} {xs : List Value} {L : List (List Int)} {x : Value} {l : List Int} (h : Els W xs L) (hx : El W x l) : Els W (xs ++ [x]) (L ++ [l]) := by
  refine ⟨by simp [h.1], fun i hi => ?_⟩
  by_cases hlt : i < L.length
  · have := h.2 i hlt
    have hlt2 : i < xs.length := by rw [h.1]; exact hlt
    simpa [List.getElem?_append_left hlt, List.getElem?_append_left hlt2] using this
  · have : i = L.length := by simp at hi; omega
    subst this
    have e : xs.length = L.length := h.1
    rw [show (L ++ [l]).getD L.length [] = l by simp, show (xs ++ [x]).getD L.length undef = x by rw [← e]; simp]
    exact hx
theorem Els.nil (W : World) : Els W [] [] := ⟨rfl, fun i hi => by simp at hi⟩
theorem els_nil1 (W : World) : Els W [.slice none 0 0] [[]] := (Els.nil W).snoc (.inl ⟨rfl, rfl⟩)
/-- lists, to be read -/
def LLPost (L : List (List Int)) (w : World) (e : Ending) (w' : World) : Prop := ∃ v xs, e = .returned v ∧ w'.ownsRow w.heap.size 28 1 v L.length xs ∧ Els w' xs L ∧ Below w.heap.size w w'
/-- readings whose first breath has less than k words -/
def cTo (n k : Nat) : List (List Int) := (List.range' 1 (k - 1)).flatMap fun j => (compF (n - j) (n - j)).map fun l => (j : Int) :: l
theorem cTo_one (n : Nat) : cTo n 1 = [] := rfl
theorem cTo_succ (n k : Nat) (hk : 1 ≤ k) : cTo n (k + 1) = cTo n k ++ (compF (n - k) (n - k)).map fun l => (k : Int) :: l := by
  unfold cTo
  rw [show k + 1 - 1 = (k - 1) + 1 by omega, List.range'_concat, List.flatMap_append]
  simp only [List.flatMap_cons, List.flatMap_nil, List.append_nil, Nat.one_mul]
  rw [show 1 + (k - 1) = k by omega]
theorem comp_cTo (n : Nat) (hn : 1 ≤ n) : compF n n = cTo n (n + 1) := by
  obtain ⟨m, rfl⟩ : ∃ m, n = m + 1 := ⟨n - 1, by omega⟩
  rw [compF, if_neg (by omega)]
  unfold cTo
  rw [show m + 1 + 1 - 1 = m + 1 by omega]
  have e : ∀ k ∈ List.range' 1 (m + 1), ((compF m (m + 1 - k)).map fun l => (k : Int) :: l) = ((compF (m + 1 - k) (m + 1 - k)).map fun l => (k : Int) :: l) := fun k hk => by
    rw [List.mem_range'_1] at hk
    rw [compF_eq m (m + 1 - k) (m + 1 - k) (by omega) (by omega)]
  rw [List.flatMap_def, List.flatMap_def, List.map_congr_left e]
theorem comp_len : ∀ (f n : Nat), (compF f n).length ≤ 2 ^ n
  | 0, n => by
    rw [compF]
    split
    · exact Nat.two_pow_pos n
    · simp
  | f + 1, n => by
    rw [compF]
    split
    · exact Nat.two_pow_pos n
    · rename_i h0
      have key : ∀ m, m ≤ n → ((List.range' 1 m).flatMap fun k => (compF f (n - k)).map fun l => (k : Int) :: l).length + 2 ^ (n - m) ≤ 2 ^ n := by
        intro m
        induction m with
        | zero => intro _; simp
        | succ m ih =>
          intro hm
          have ih := ih (by omega)
          rw [List.range'_concat, List.flatMap_append, List.length_append]
          simp only [List.flatMap_cons, List.flatMap_nil, List.append_nil, List.length_map, Nat.one_mul]
          have h1 := comp_len f (n - (1 + m))
          have h2 : 2 ^ (n - m) = 2 ^ (n - (m + 1)) + 2 ^ (n - (m + 1)) := by rw [show n - m = (n - (m + 1)) + 1 by omega, Nat.pow_succ]; omega
          rw [show n - (1 + m) = n - (m + 1) by omega] at h1 ⊢
          omega
      exact Nat.le_trans (Nat.le_add_right _ _) (key n (Nat.le_refl _))
theorem cTo_len (n k : Nat) (hn : n ≤ 12) (hk : k ≤ n + 1) : (cTo n k).length ≤ 100000 := by
  have : ∀ m, m ≤ 12 → (cTo n (m + 1)).length ≤ m * 4096 := by
    intro m
    induction m with
    | zero => intro _; simp [cTo]
    | succ m ih =>
      intro hm
      have := ih (by omega)
      rw [cTo_succ _ _ (by omega), List.length_append, List.length_map]
      have h1 := comp_len (n - (m + 1)) (n - (m + 1))
      have h2 : 2 ^ (n - (m + 1)) ≤ 2 ^ 12 := Nat.pow_le_pow_right (by omega) (by omega)
      omega
  rcases Nat.eq_zero_or_pos k with h0 | h0
  · subst h0; simp [cTo]
  · have := this (k - 1) (by omega)
    rw [show k - 1 + 1 = k by omega] at this
    omega
set_option maxHeartbeats 6000000 in
set_option maxRecDepth 100000 in
theorem readings_ref (n : Nat) : n ≤ 12 → ∀ w : World, Calls Try.prog 103 #[.int .i64 n] w (LLPost (compF n n) w) := by
  induction n using Nat.strongRecOn with
  | _ n ih =>
  intro hn w
  obtain ⟨i0, hi0, hz0, hz1, hz2⟩ := info_parts A_infoI
  rcases Nat.eq_zero_or_pos n with h0 | hpos
  · subst h0
    clear ih
    have hx := heap_last w (.cells #[.slice none 0 0] 28)
    have HB := Lib.hid (below1 w (.cells #[.slice none 0 0] 28))
    have hown : (w.alloc (.cells #[.slice none 0 0] 28)).ownsRow w.heap.size 28 1 (.slice (some ⟨w.heap.size, 0, none⟩) 1 1) 1 [.slice none 0 0] :=
      ⟨rfl, .inr ⟨w.heap.size, 1, _, rfl, Nat.le_refl _, hx, by omega, by unfold maxLen; omega, rfl, rfl⟩⟩
    have HO := Lib.hid hown
    clear hx hown
    go_enter Try.func103, Try.ntmps103
    go_wp2
    go_ret
    exact ⟨_, [.slice none 0 0], rfl, HO.out, els_nil1 _, HB.out⟩
  · have HIH := Lib.hid (fun k (hk : 1 ≤ k) (hkn : k ≤ n) W => ih (n - k) (by omega) (by omega) W)
    have HCE := Lib.hid (comp_cTo n hpos)
    have hn0 : ((n : Int) == 0) = false := by rw [beq_eq_false_iff_ne]; omega
    clear ih
    go_enter Try.func103, Try.ntmps103
    go_wp2_with fail
    go_loopw [3, 4, 5, 6] (fun v3 v4 _ _ wr => ∃ (k : Nat) (xs : List Value), v4 = .int .i64 k ∧ 1 ≤ k ∧ k ≤ n + 1 ∧ wr.ownsRow w.heap.size 28 1 v3 (cTo n k).length xs ∧ Els wr xs (cTo n k) ∧ Below w.heap.size w wr) (fun _ v4 _ _ _ => n + 1 - (intOf v4).toNat)
    case atStart => exact ⟨1, [], rfl, Nat.le_refl _, by omega, own_none _ _ _ _, Els.nil _, Below.refl _ _⟩
    case round =>
      obtain ⟨wo, rfl⟩ : ∃ wo : World, wo = wr := ⟨_, rfl⟩
      obtain ⟨k, xs, rfl, hk1, hk, hown, hels, hBr⟩ := hrel
      have HO := Lib.hid hown
      have HOW := Lib.hid hown
      have HE := Lib.hid hels
      have HBr := Lib.hid hBr
      clear hown hels hBr
      by_cases hle : k ≤ n
      · have hle' : (k : Int) ≤ n := by omega
        have hsub : ((n : Int) - (k : Int)) = ((n - k : Nat) : Int) := by omega
        have hcl := cTo_len n (k + 1) hn (by omega)
        have HCS := Lib.hid (cTo_succ n k hk1)
        have HCALL := Lib.hid (fun W => hsub ▸ HIH.out k hk1 hle W)
        clear hsub
        go_wp2_with fail
        refine (HCALL.out _).mono ?_
        rintro e w5 ⟨v5, xs5, rfl, ho5, he5, hB⟩
        have HR := Lib.hid he5
        obtain ⟨R, hR⟩ : ∃ R, R = compF (n - k) (n - k) := ⟨_, rfl⟩
        have HLENS : Hid (∀ i, i < R.length → (R.getD i []).length ≤ 1000000) := Lib.hid (fun i hi => by
          have hm : R.getD i [] ∈ compF (n - k) (n - k) := by rw [← hR]; simp [hi]
          have h1 := (compF_mem _ _ _ (Nat.le_refl _)).1 hm
          have h2 := isum_ge h1.1
          have h3 := h1.2
          omega)
        rw [← hR] at HCS HR ho5
        have HO5 := Lib.hid ho5
        have HO := Lib.hid (own_below HO.out hB)
        have HE := Lib.hid (HE.out.below hB)
        have hz5 := hB.size
        have hne : u3.ownBlock = none ∨ u3.ownBlock ≠ v5.ownBlock := by
          have hlo := HO.out
          rcases hov : u3.ownBlock with _ | g
          · exact .inl rfl
          · right
            rcases hov5 : v5.ownBlock with _ | g5
            · simp
            · have h2 := (ho5.lt g5 hov5).1
              have h1 : g < wo.heap.size := by
                have := HOW.out
                exact (this.lt g hov).2
              intro e; injection e; omega
        have HNE := Lib.hid hne
        have HBr := Lib.hid (join HBr.out hB)
        have hrl : (cTo n k).length + R.length ≤ 100000 := by rw [HCS.out, List.length_append, List.length_map] at hcl; exact hcl
        obtain ⟨p5, c5, rfl⟩ := own_val ho5
        clear hB hne he5 ho5 hR HCALL
        go_wp2_with fail
        go_loopw [3, 6] (fun v3 v6 wr => ∃ (i : Nat) (xs : List Value), v6 = .int .i64 i ∧ i ≤ R.length ∧ wr.ownsRow w.heap.size 28 1 v3 (cTo n k ++ (R.take i).map fun l => (k : Int) :: l).length xs ∧ Els wr xs (cTo n k ++ (R.take i).map fun l => (k : Int) :: l) ∧ wr.ownsRow wo.heap.size 28 1 (.slice p5 R.length c5) R.length xs5 ∧ Els wr xs5 R ∧ (v3.ownBlock = none ∨ v3.ownBlock ≠ (Value.slice p5 R.length c5).ownBlock) ∧ Below w.heap.size w wr ∧ wo.heap.size ≤ wr.heap.size) (fun _ v6 _ => R.length - (intOf v6).toNat)
        case atStart => exact ⟨0, xs, rfl, Nat.zero_le _, by simpa using HO.out, by simpa using HE.out, HO5.out, HR.out, HNE.out, HBr.out, hz5⟩
        case round =>
          clear HO HE HO5 HR HNE HBr
          obtain ⟨i, xs, rfl, hi, hown, hels, hown5, hels5, hne, hBr, hz6⟩ := hrel
          obtain ⟨wp, rfl⟩ : ∃ wp : World, wp = wr := ⟨_, rfl⟩
          have HO := Lib.hid hown
          have HE := Lib.hid hels
          have HO5 := Lib.hid hown5
          have HR := Lib.hid hels5
          have HNE := Lib.hid hne
          have HBr := Lib.hid hBr
          have hz7 := hBr.size
          by_cases hlt : i < R.length
          · have hlt' : (i : Int) < R.length := by omega
            have hel := hels5.2 i hlt
            have HSN : Hid (cTo n k ++ (R.take (i + 1)).map (fun l => (k : Int) :: l) = (cTo n k ++ (R.take i).map fun l => (k : Int) :: l) ++ [(k : Int) :: R.getD i []]) := Lib.hid (by
              rw [take_snocD [] hlt, List.map_append, List.append_assoc]; rfl)
            have hacl : (cTo n k ++ (R.take i).map fun l => (k : Int) :: l).length ≤ 100000 := by rw [List.length_append, List.length_map, List.length_take]; omega
            generalize cTo n k ++ (R.take i).map (fun l => (k : Int) :: l) = acc at hacl HO HE HSN
            rcases hown5.2 with ⟨_, h0⟩ | ⟨g5, cap5, cur5, hv5, hb5, hg5, _⟩
            · omega
            have hcell : wp.cell? ⟨g5, i, none⟩ = some (xs5.getD i undef) := by
              injection hv5 with hp5 _ _
              have h1 : i < xs5.length := by rw [hels5.1]; exact hlt
              have := hown5.cells (g := g5) (by rw [hp5]; rfl) i (xs5.getD i undef) (by simp [h1])
              have hadd : (⟨g5, 0, none⟩ : Addr).add i = ⟨g5, i, none⟩ := by unfold Addr.add; split <;> simp_all
              rwa [hadd] at this
            injection hv5 with hp5 _ hc5
            subst hp5
            subst hc5
            have hq5 : g5 < wp.heap.size := (Array.getElem?_eq_some_iff.1 hg5).1
            generalize xs5.getD i undef = x5 at hel hcell
            have HLEN : Hid ((R.getD i []).length ≤ 1000000) := Lib.hid (HLENS.out i hlt)
            generalize R.getD i [] = l at hel HSN HLEN
            have hlit : (wp.alloc (.cells #[.int .i64 (k : Int)] 3)).ownsRow wp.heap.size 3 1 (.slice (some ⟨wp.heap.size, 0, none⟩) 1 1) 1 [.int .i64 (k : Int)] :=
              ⟨rfl, .inr ⟨wp.heap.size, 1, _, rfl, Nat.le_refl _, heap_last _ _, by omega, by unfold maxLen; omega, rfl, rfl⟩⟩
            have HLIT := Lib.hid hlit
            have HB1 := Lib.hid (below1 wp (.cells #[.int .i64 (k : Int)] 3))
            clear hown hels hown5 hels5 hne hBr hg5 hlit
            rcases hel with ⟨rfl, rfl⟩ | ⟨hl, bl, cl, C, rfl, hbl, hC⟩
            · have HEL := Lib.hid (El.of_own (l := [(k : Int)]) HLIT.out (by simp))
              have happ := fun ty W => app_none (some ⟨wp.heap.size, 0, none⟩) 1 1 (Nat.le_refl _) ty W
              go_wp2_with (at_builtin; refine wpList_append_none2 rfl _ _ 28 rfl _ rfl rfl (fun ty => happ ty _) ?_)
              intro WV hWV
              have HBV := HB1
              rw [← hWV.out] at HBV HEL
              clear hWV happ
              have hb1 := (HBV.out.block g5 hq5)
              have HOx := Lib.hid (own_below HO.out HBV.out)
              have HEx := Lib.hid (HE.out.below HBV.out)
              have HO5x := Lib.hid (own_below HO5.out HBV.out)
              have HRx := Lib.hid (HR.out.below HBV.out)
              have hzv := HBV.out.size
              have HBrx := Lib.hid (join HBr.out HBV.out)
              clear hb1
              go_wp2_with (at_builtin; refine wpList_append_which rfl _ _ rfl w.heap.size _ _ _ rfl (HOx.out.alloc _) ⟨WV.heap.size, 0, none⟩ _ rfl (cell_one_new _ _ _ 0 _ rfl) rfl ?y1 ?y2 ?_)
              case y1 => simp; omega
              case y2 => omega
              intro v' w9 hown9 hgrow9 hwhich
              have HEL9 := Lib.hid ((HEL.out.below (below1 _ _)).grown (HOx.out.alloc _) hgrow9)
              have HE9 := Lib.hid ((HEx.out.below (below1 _ _)).grown (HOx.out.alloc _) hgrow9)
              have HO9 := Lib.hid hown9
              have HN9 : Hid (u3.ownBlock = none ∨ u3.ownBlock ≠ (Value.slice (some ⟨g5, 0, none⟩) R.length c5).ownBlock) := HNE
              have HO59 := Lib.hid ((HO5x.out.alloc (.cells #[.slice (some ⟨wp.heap.size, 0, none⟩) 1 1] 28)).kept hgrow9 (by
                rcases HNE.out with h | h
                · right; rw [h]; simp [Value.ownBlock]
                · right; exact fun e => h e.symm))
              have HR9 := Lib.hid ((HRx.out.below (below1 _ _)).grown (HOx.out.alloc _) hgrow9)
              have HNE9 : Hid (v'.ownBlock = none ∨ v'.ownBlock ≠ (Value.slice (some ⟨g5, 0, none⟩) R.length c5).ownBlock) := Lib.hid (by
                rcases hwhich with h | h
                · rw [h]; exact HNE.out
                · right; rw [h]; show some _ ≠ some g5; intro e; injection e with e; (try simp at e); omega)
              have HB9 := Lib.hid (below_grown (al2 HBrx.out (by omega) _) (HOx.out.alloc _) (Nat.le_refl _) (by simp; omega) hgrow9)
              have hz9 : wo.heap.size ≤ w9.heap.size := by have := hgrow9.size; rw [World.size_alloc] at this; omega
              clear hgrow9 hown9 hwhich
              go_wp2
              go_roundw
              case rel => exact ⟨i + 1, _, by go_num, by omega, by rw [HSN.out, List.length_append]; exact HO9.out, by rw [HSN.out]; exact HE9.out.snoc HEL9.out, HO59.out, HR9.out, HNE9.out, HB9.out, hz9⟩
              case measure => simp [intOf]; omega
            · have HCB := Lib.hid (El.ints (W := wp) (.inr ⟨hl, bl, cl, C, rfl, hbl, hC⟩))
              have hlb : bl < wp.heap.size := (Array.getElem?_eq_some_iff.1 hbl).1
              have hnews : ∀ j u, (l.map (Value.int .i64))[j]? = some u → (wp.alloc (.cells #[.int .i64 (k : Int)] 3)).cell? ((⟨bl, 0, none⟩ : Addr).add j) = some u := fun j u hj => by
                have hj1 : j < l.length := by have := (List.getElem?_eq_some_iff.1 hj).1; simpa using this
                have hadd : (⟨bl, 0, none⟩ : Addr).add j = ⟨bl, j, none⟩ := by unfold Addr.add; split <;> simp_all
                rw [hadd, HB1.out.cell (p := ⟨bl, j, none⟩) hlb, blk_cells hbl j _ (hC j hj1)]
                simp [hj1] at hj ⊢; exact hj
              have HNW := Lib.hid hnews
              have hll := HLEN.out
              clear hbl hC hnews HCB
              go_wp2_with (at_builtin; refine wpList_append_own _ rfl _ _ 28 rfl wp.heap.size 3 i0 (.int .i64 0) 1 8 A_undI hi0 hz0 hz1 hz2 rfl (by decide) _ _ _ rfl HLIT.out ⟨bl, 0, none⟩ l.length _ (l.map (Value.int .i64)) rfl (by rw [List.length_map, Nat.mul_one]) HNW.out ?g2 ?g3 ?g4 ?g5 ?_)
              case g2 => intro u hu; rfl
              case g3 => unfold maxLen; omega
              case g4 => omega
              try (case g5 => simp)
              intro vq WV hownq hgrowq _
              have HBV := Lib.hid (below_grown HB1.out HLIT.out (Nat.le_refl _) (by simp) hgrowq)
              have hownq2 : WV.ownsRow wp.heap.size 3 1 vq ((k : Int) :: l).length (((k : Int) :: l).map (Value.int .i64)) := by
                rw [List.length_cons, Nat.add_comm]; exact hownq
              have HEL := Lib.hid (El.of_own hownq2 (by simp))
              obtain ⟨pq, cq, rfl⟩ := own_val hownq
              clear hownq hgrowq hownq2 HNW hll
              have hb1 := (HBV.out.block g5 hq5)
              have HOx := Lib.hid (own_below HO.out HBV.out)
              have HEx := Lib.hid (HE.out.below HBV.out)
              have HO5x := Lib.hid (own_below HO5.out HBV.out)
              have HRx := Lib.hid (HR.out.below HBV.out)
              have hzv := HBV.out.size
              have HBrx := Lib.hid (join HBr.out HBV.out)
              clear hb1
              go_wp2_with (at_builtin; refine wpList_append_which rfl _ _ rfl w.heap.size _ _ _ rfl (HOx.out.alloc _) ⟨WV.heap.size, 0, none⟩ _ rfl (cell_one_new _ _ _ 0 _ rfl) rfl ?z1 ?z2 ?_)
              case z1 => simp; omega
              case z2 => omega
              intro v' w9 hown9 hgrow9 hwhich
              have HEL9 := Lib.hid ((HEL.out.below (below1 _ _)).grown (HOx.out.alloc _) hgrow9)
              have HE9 := Lib.hid ((HEx.out.below (below1 _ _)).grown (HOx.out.alloc _) hgrow9)
              have HO9 := Lib.hid hown9
              have HN9 : Hid (u3.ownBlock = none ∨ u3.ownBlock ≠ (Value.slice (some ⟨g5, 0, none⟩) R.length c5).ownBlock) := HNE
              have HO59 := Lib.hid ((HO5x.out.alloc (.cells #[.slice pq (1 + l.length) cq] 28)).kept hgrow9 (by
                rcases HNE.out with h | h
                · right; rw [h]; simp [Value.ownBlock]
                · right; exact fun e => h e.symm))
              have HR9 := Lib.hid ((HRx.out.below (below1 _ _)).grown (HOx.out.alloc _) hgrow9)
              have HNE9 : Hid (v'.ownBlock = none ∨ v'.ownBlock ≠ (Value.slice (some ⟨g5, 0, none⟩) R.length c5).ownBlock) := Lib.hid (by
                rcases hwhich with h | h
                · rw [h]; exact HNE.out
                · right; rw [h]; show some _ ≠ some g5; intro e; injection e with e; (try simp at e); omega)
              have HB9 := Lib.hid (below_grown (al2 HBrx.out (by omega) _) (HOx.out.alloc _) (Nat.le_refl _) (by simp; omega) hgrow9)
              have hz9 : wo.heap.size ≤ w9.heap.size := by have := hgrow9.size; rw [World.size_alloc] at this; omega
              clear hgrow9 hown9 hwhich
              go_wp2
              go_roundw
              case rel => exact ⟨i + 1, _, by go_num, by omega, by rw [HSN.out, List.length_append]; exact HO9.out, by rw [HSN.out]; exact HE9.out.snoc HEL9.out, HO59.out, HR9.out, HNE9.out, HB9.out, hz9⟩
              case measure => simp [intOf]; omega
          · obtain rfl : i = R.length := by omega
            rw [List.take_length, ← HCS.out] at HO HE
            go_wp2
            go_roundw
            case rel => exact ⟨k + 1, xs, by go_num, by omega, by omega, HO.out, HE.out, HBr.out⟩
            case measure => simp [intOf]; omega
      · obtain rfl : k = n + 1 := by omega
        rw [← HCE.out] at HO HE
        go_wp2
        go_ret
        exact ⟨_, _, rfl, HO.out, HE.out, HBr.out⟩
end Go.Proofs.Ytadnggecnjdhiaa
set_option linter.unusedSimpArgs false
set_option linter.unusedVariables false
namespace Go.Proofs.Ytadnggecnjdhiaa
open Go.RowKit Tx
attribute [local go_sem] Oper.semAt_some

def okR (t : Text) (l : List Int) : Bool := decide ((wrongR t l).2.2 = 6)
def rightsR (t : Text) : List (List Int) := (compF t.words.length t.words.length).filter (okR t)
theorem kind_right (t : Text) (a b : Nat) : kindOf t a b = none ↔ t.right a b = true := by
  unfold kindOf Text.right
  have e0 : t.isK 0 a b = t.isLong a b := rfl
  have e1 : t.isK 1 a b = t.isCut a b := rfl
  have e2 : t.isK 2 a b = t.isOther a b := rfl
  rw [e0, e1, e2]
  cases t.isLong a b <;> cases t.isCut a b <;> cases t.isOther a b <;> simp
theorem wrongGo_ok (t : Text) : ∀ (l : List Int) (i a : Nat), (wrongGo t i a l).2.2 = 6 ↔ okFrom t.right a l = true
  | [], i, a => by simp [wrongGo, okFrom]
  | x :: l, i, a => by
    rw [wrongGo, okFrom, Bool.and_eq_true]
    cases hk : kindOf t a (a + x.toNat) with
    | none =>
      dsimp only
      rw [wrongGo_ok t l, ← kind_right]
      exact ⟨fun h => ⟨hk, h⟩, fun h => h.2⟩
    | some q =>
      dsimp only
      constructor
      · intro h; omega
      · rintro ⟨h, _⟩; rw [← kind_right, hk] at h; cases h
theorem read_parts {t : Text} (ok : Text.Ok t) (he : t.err = 0) {l : List Int} (h : Parts t.words.length l) : readErr t l = 0 := by
  unfold readErr
  rw [if_neg (by simp [he]), if_neg, if_neg (by simp [h.2])]
  intro ha
  obtain ⟨x, hx, hb⟩ := List.any_eq_true.1 ha
  have h1 := h.1 x hx
  have h2 : x ≤ isum l := by
    obtain ⟨s, r, rfl⟩ := List.append_of_mem hx
    rw [isum_append, isum_cons]
    have := isum_ge (l := s) (fun y hy => h.1 y (by simp [hy]))
    have := isum_ge (l := r) (fun y hy => h.1 y (by simp [hy]))
    omega
  have h3 := h.2
  have := ok.n12
  simp [btw] at hb
  omega
theorem okR_ok {t : Text} (ok : Text.Ok t) (he : t.err = 0) {l : List Int} (h : Parts t.words.length l) : okR t l = okFrom t.right 0 l := by
  rw [Bool.eq_iff_iff]
  unfold okR wrongR
  rw [if_pos (read_parts ok he h), decide_eq_true_eq]
  exact wrongGo_ok t l 0 0
theorem rightsR_eq {t : Text} (ok : Text.Ok t) (he : t.err = 0) : rightsR t = rights t.right t.words.length := by
  unfold rightsR rights
  refine List.filter_congr fun l hl => okR_ok ok he ((compF_mem _ _ _ (Nat.le_refl _)).1 hl)
def spRi (t : Text) (pw pt : Option Addr) (cw ct g m c j : Nat) (x : Value) (wa wb wc : Int) : Nat → List Value → Value → World → Prop
  | 0, _, v, _ => v = .agg #[.slice pw t.words.length cw, .slice pt t.turns.length ct, .int .i64 t.breath]
  | 1, _, v, _ => v = .slice (some ⟨g, 0, none⟩) m c
  | 2, _, v, _ => v = .int .i64 (j : Int)
  | 3, _, v, _ => v = .pointer (some ⟨g, j, none⟩)
  | 4, _, v, _ => v = x
  | 5, _, v, _ => v = .tuple #[.int .i64 wa, .int .i64 wb, .int .i64 wc]
  | 6, _, v, _ => v = .tuple #[.int .i64 wa, .int .i64 wb, .int .i64 wc]
  | 7, _, v, _ => v = .int .i64 wa
  | 8, _, v, _ => v = .int .i64 wb
  | 9, _, v, _ => v = .int .i64 wc
  | 10, _, v, _ => v = .int .i64 wa
  | 11, _, v, _ => v = .int .i64 wb
  | 12, _, v, _ => v = .int .i64 wc
  | _, _, _, _ => False
theorem spRi_stable (t : Text) (pw pt : Option Addr) (cw ct g m c j : Nat) (x : Value) (wa wb wc : Int) : ∀ i L v w w', spRi t pw pt cw ct g m c j x wa wb wc i L v w → Rs.Gr w w' → spRi t pw pt cw ct g m c j x wa wb wc i L v w' := by
  intro i L v w w' h hg
  match i with
  | 0 => exact h
  | 1 => exact h
  | 2 => exact h
  | 3 => exact h
  | 4 => exact h
  | 5 => exact h
  | 6 => exact h
  | 7 => exact h
  | 8 => exact h
  | 9 => exact h
  | 10 => exact h
  | 11 => exact h
  | 12 => exact h

set_option maxHeartbeats 6000000 in
set_option maxRecDepth 100000 in
theorem Right_any (t : Text) (hl1 : t.words.length ≤ 12) (hl2 : t.turns.length ≤ 1000000) (pw pt : Option Addr) (cw ct : Nat) (w : World) (hW : TxAt w t pw pt) :
    Calls Try.prog 33 #[.agg #[.slice pw t.words.length cw, .slice pt t.turns.length ct, .int .i64 t.breath]] w (LLPost (rightsR t) w) := by
  have HWR0 := Lib.hid (fun (l : List Int) (hll : l.length ≤ 1000000) q d W (h : Below w.heap.size w W) (hL : Ints W q l) => rWrong_any t l (by omega) hl2 hll pw pt q cw ct d W (hW.below h) hL)
  have HB := Lib.hid (below1 w (.cells #[.slice pw t.words.length cw, .slice pt t.turns.length ct, .int .i64 t.breath] 35))
  have HX := Lib.hid (heap_last w (.cells #[.slice pw t.words.length cw, .slice pt t.turns.length ct, .int .i64 t.breath] 35))
  obtain ⟨k0, k1, k2⟩ := blk3 HX.out
  have HRD := Lib.hid (fun W => readings_ref t.words.length hl1 W)
  have hcl := Nat.le_trans (comp_len t.words.length t.words.length) (Nat.pow_le_pow_right (show 0 < 2 by omega) hl1)
  have HLENS : Hid (∀ i, i < (compF t.words.length t.words.length).length → ((compF t.words.length t.words.length).getD i []).length ≤ 1000000) := Lib.hid (fun i hi => by
    have hm : (compF t.words.length t.words.length).getD i [] ∈ compF t.words.length t.words.length := by simp [hi]
    have h1 := (compF_mem _ _ _ (Nat.le_refl _)).1 hm
    have h2 := isum_ge h1.1
    have h3 := h1.2
    omega)
  have HRR : Hid (rightsR t = (compF t.words.length t.words.length).filter (okR t)) := Lib.hid rfl
  generalize compF t.words.length t.words.length = R at HRD hcl HLENS HRR
  clear hW
  go_enter Try.func33, Try.ntmps33
  go_wp2_with fail
  refine (HRD.out _).mono ?_
  rintro e w5 ⟨v5, xs5, rfl, ho5, he5, hB⟩
  have HX := Lib.hid ((hB.block w.heap.size (Array.getElem?_eq_some_iff.1 HX.out).1).trans HX.out)
  have HO5 := Lib.hid (own_base ho5 (base' := w.heap.size) (by have := HB.out.size; omega))
  have HB := Lib.hid (join HB.out hB)
  have HR := Lib.hid he5
  obtain ⟨p5, c5, rfl⟩ := own_val ho5
  have hz5 : w.heap.size < w5.heap.size := (Array.getElem?_eq_some_iff.1 HX.out).1
  clear hB he5 ho5 k0 k1 k2
  go_wp2_with fail
  go_loopw [3, 5, 6, 7, 8] (fun v3 v5 _ _ _ wr => ∃ (i : Nat) (xs : List Value), v5 = .int .i64 i ∧ i ≤ R.length ∧ wr.ownsRow (w.heap.size + 1) 28 1 v3 ((R.take i).filter (okR t)).length xs ∧ Els wr xs ((R.take i).filter (okR t)) ∧ wr.ownsRow w.heap.size 28 1 (.slice p5 R.length c5) R.length xs5 ∧ Els wr xs5 R ∧ (v3.ownBlock = none ∨ v3.ownBlock ≠ (Value.slice p5 R.length c5).ownBlock) ∧ Below w.heap.size w wr ∧ wr.heap[w.heap.size]? = some (.cells #[.slice pw t.words.length cw, .slice pt t.turns.length ct, .int .i64 t.breath] 35 (0, 0))) (fun _ v5 _ _ _ _ => R.length - (intOf v5).toNat)
  case atStart => exact ⟨0, [], rfl, Nat.zero_le _, own_none _ _ _ _, Els.nil _, HO5.out, HR.out, .inl rfl, HB.out, HX.out⟩
  case round =>
    clear HO5 HR HB HX
    obtain ⟨wp, rfl⟩ : ∃ wp : World, wp = wr := ⟨_, rfl⟩
    obtain ⟨i, xs, rfl, hi, hown, hels, hown5, hels5, hne, hBr, hx⟩ := hrel
    have HO := Lib.hid hown
    have HE := Lib.hid hels
    have HO5 := Lib.hid hown5
    have HR := Lib.hid hels5
    have HNE := Lib.hid hne
    have HBr := Lib.hid hBr
    have HXr := Lib.hid hx
    have hz7 := hBr.size
    have HZ0 : w.heap.size < wp.heap.size := (Array.getElem?_eq_some_iff.1 hx).1
    by_cases hlt : i < R.length
    · have hlt' : (i : Int) < R.length := by omega
      have hlt2 : (i : Int) < R.length := by omega
      have hel := hels5.2 i hlt
      have hll := HLENS.out i hlt
      have hacl : ((R.take i).filter (okR t)).length ≤ 100000 := by
        have h1 := List.length_filter_le (okR t) (R.take i)
        rw [List.length_take] at h1
        omega
      have HSN : Hid ((R.take (i + 1)).filter (okR t) = (R.take i).filter (okR t) ++ (if okR t (R.getD i []) then [R.getD i []] else [])) := Lib.hid (by
        rw [take_snocD [] hlt, List.filter_append]; congr 1; simp only [List.filter_cons, List.filter_nil])
      generalize (R.take i).filter (okR t) = acc at hacl HO HE HSN
      rcases hown5.2 with ⟨_, h0⟩ | ⟨g5, cap5, cur5, hv5, hb5, hg5, _⟩
      · omega
      have hcell : wp.cell? ⟨g5, i, none⟩ = some (xs5.getD i undef) := by
        injection hv5 with hp5 _ _
        have h1 : i < xs5.length := by rw [hels5.1]; exact hlt
        have := hown5.cells (g := g5) (by rw [hp5]; rfl) i (xs5.getD i undef) (by simp [h1])
        have hadd : (⟨g5, 0, none⟩ : Addr).add i = ⟨g5, i, none⟩ := by unfold Addr.add; split <;> simp_all
        rwa [hadd] at this
      injection hv5 with hp5 _ hc5
      subst hp5
      subst hc5
      have hq5 : g5 < wp.heap.size := (Array.getElem?_eq_some_iff.1 hg5).1
      have HEL := Lib.hid hel
      obtain ⟨q, d, hx5, hQI⟩ := hel.ints
      rw [hx5] at HEL hcell
      generalize R.getD i [] = l at hQI HSN hll HEL hcell
      have HQI := Lib.hid hQI
      have HCELL := Lib.hid hcell
      have HWR := Lib.hid (fun W h hL => HWR0.out l hll q d W h hL)
      have HOKR : Hid (okR t l = decide ((wrongR t l).2.2 = 6)) := Lib.hid rfl
      generalize wrongR t l = wr3 at HWR HOKR
      obtain ⟨wa, wb, wc⟩ := wr3
      dsimp only at HWR HOKR
      clear hown hels hown5 hels5 hne hBr hx hel hx5 hQI hg5 hcell
      go_wp2_with fail
      refine Rs.region_gen 13 [[], [], [], [1, 2], [1, 2, 3], [0, 1, 2, 3, 4], [0, 1, 2, 3, 4, 5], [0, 1, 2, 3, 4, 5, 6], [0, 1, 2, 3, 4, 5, 6], [0, 1, 2, 3, 4, 5, 6], [0, 1, 2, 3, 4, 5, 6, 7], [0, 1, 2, 3, 4, 5, 6, 7, 8, 10], [0, 1, 2, 3, 4, 5, 6, 7, 8, 9, 10, 11]] [some 20, some 21, some 22, some 23, some 24, some 25, some 19, some 26, some 27, some 28, some 6, some 7, some 8] (spRi t pw pt cw ct g5 R.length c5 i (.slice q l.length d) wa wb wc) (by kernel_rfl) (by kernel_rfl) rfl (spRi_stable _ _ _ _ _ _ _ _ _ _ _ _ _) ?_ ?_
      · refine ⟨fun V w' hG hs => ?_, fun V w' hG hs => ?_, fun V w' hG hs => ?_, fun V w' hG hs => ?_, fun V w' hG hs => ?_, fun V w' hG hs => ?_, fun V w' hG hs => ?_, fun V w' hG hs => ?_, fun V w' hG hs => ?_, fun V w' hG hs => ?_, fun V w' hG hs => ?_, fun V w' hG hs => ?_, fun V w' hG hs => ?_, trivial⟩
        all_goals
          obtain ⟨k0, k1, k2⟩ := blk3 ((hG.block w.heap.size HZ0).trans HXr.out)
          have hcell := (hG.cell (p := ⟨g5, i, none⟩) hq5).trans HCELL.out
        · rw [if_pos (by rfl)]
          exact Rs.GrowL.value (v := .agg #[.slice pw t.words.length cw, .slice pt t.turns.length ct, .int .i64 t.breath]) (w' := w') (by simp [go_sem, Rs.look, k0, k1, k2]) (Rs.Gr.refl _) rfl
        · rw [if_pos (by rfl)]
          exact Rs.GrowL.value (v := .slice (some ⟨g5, 0, none⟩) R.length c5) (w' := w') (by simp [go_sem, Rs.look]) (Rs.Gr.refl _) rfl
        · rw [if_pos (by rfl)]
          exact Rs.GrowL.value (v := .int .i64 (i : Int)) (w' := w') (by simp [go_sem, Rs.look]) (Rs.Gr.refl _) rfl
        · have e1 : V 1 = .slice (some ⟨g5, 0, none⟩) R.length c5 := hs 1 (by simp)
          have e2 : V 2 = .int .i64 (i : Int) := hs 2 (by simp)
          rw [if_pos (by rfl)]
          exact Rs.GrowL.value (v := .pointer (some ⟨g5, i, none⟩)) (w' := w') (by simp [go_sem, Rs.look, e1, e2, hlt2]) (Rs.Gr.refl _) rfl
        · have e1 : V 1 = .slice (some ⟨g5, 0, none⟩) R.length c5 := hs 1 (by simp)
          have e2 : V 2 = .int .i64 (i : Int) := hs 2 (by simp)
          have e3 : V 3 = .pointer (some ⟨g5, i, none⟩) := hs 3 (by simp)
          rw [if_pos (by rfl)]
          exact Rs.GrowL.value (v := (.slice q l.length d)) (w' := w') (by simp [go_sem, Rs.look, e1, e2, e3, hcell]) (Rs.Gr.refl _) rfl
        · have e0 : V 0 = .agg #[.slice pw t.words.length cw, .slice pt t.turns.length ct, .int .i64 t.breath] := hs 0 (by simp)
          have e1 : V 1 = .slice (some ⟨g5, 0, none⟩) R.length c5 := hs 1 (by simp)
          have e2 : V 2 = .int .i64 (i : Int) := hs 2 (by simp)
          have e3 : V 3 = .pointer (some ⟨g5, i, none⟩) := hs 3 (by simp)
          have e4 : V 4 = (.slice q l.length d) := hs 4 (by simp)
          rw [if_pos (by rfl)]
          refine Rs.GrowL.call (f := 28) (args := #[.agg #[.slice pw t.words.length cw, .slice pt t.turns.length ct, .int .i64 t.breath], .slice q l.length d]) (by simp [go_sem, Rs.look, e0, e4]) ?_
          refine (HWR.out w' (join HBr.out hG) (HQI.out.below hG)).mono ?_
          rintro e w2 ⟨rfl, hB2⟩
          exact ⟨_, rfl, hB2, rfl⟩
        · have e0 : V 0 = .agg #[.slice pw t.words.length cw, .slice pt t.turns.length ct, .int .i64 t.breath] := hs 0 (by simp)
          have e1 : V 1 = .slice (some ⟨g5, 0, none⟩) R.length c5 := hs 1 (by simp)
          have e2 : V 2 = .int .i64 (i : Int) := hs 2 (by simp)
          have e3 : V 3 = .pointer (some ⟨g5, i, none⟩) := hs 3 (by simp)
          have e4 : V 4 = (.slice q l.length d) := hs 4 (by simp)
          have e5 : V 5 = .tuple #[.int .i64 wa, .int .i64 wb, .int .i64 wc] := hs 5 (by simp)
          rw [if_pos (by rfl)]
          exact Rs.GrowL.value (v := .tuple #[.int .i64 wa, .int .i64 wb, .int .i64 wc]) (w' := w') (by simp [go_sem, Rs.look, e0, e1, e2, e3, e4, e5]) (Rs.Gr.refl _) rfl
        · have e0 : V 0 = .agg #[.slice pw t.words.length cw, .slice pt t.turns.length ct, .int .i64 t.breath] := hs 0 (by simp)
          have e1 : V 1 = .slice (some ⟨g5, 0, none⟩) R.length c5 := hs 1 (by simp)
          have e2 : V 2 = .int .i64 (i : Int) := hs 2 (by simp)
          have e3 : V 3 = .pointer (some ⟨g5, i, none⟩) := hs 3 (by simp)
          have e4 : V 4 = (.slice q l.length d) := hs 4 (by simp)
          have e5 : V 5 = .tuple #[.int .i64 wa, .int .i64 wb, .int .i64 wc] := hs 5 (by simp)
          have e6 : V 6 = .tuple #[.int .i64 wa, .int .i64 wb, .int .i64 wc] := hs 6 (by simp)
          rw [if_pos (by rfl)]
          exact Rs.GrowL.value (v := .int .i64 wa) (w' := w') (by simp [go_sem, Rs.look, e0, e1, e2, e3, e4, e5, e6]) (Rs.Gr.refl _) rfl
        · have e0 : V 0 = .agg #[.slice pw t.words.length cw, .slice pt t.turns.length ct, .int .i64 t.breath] := hs 0 (by simp)
          have e1 : V 1 = .slice (some ⟨g5, 0, none⟩) R.length c5 := hs 1 (by simp)
          have e2 : V 2 = .int .i64 (i : Int) := hs 2 (by simp)
          have e3 : V 3 = .pointer (some ⟨g5, i, none⟩) := hs 3 (by simp)
          have e4 : V 4 = (.slice q l.length d) := hs 4 (by simp)
          have e5 : V 5 = .tuple #[.int .i64 wa, .int .i64 wb, .int .i64 wc] := hs 5 (by simp)
          have e6 : V 6 = .tuple #[.int .i64 wa, .int .i64 wb, .int .i64 wc] := hs 6 (by simp)
          rw [if_pos (by rfl)]
          exact Rs.GrowL.value (v := .int .i64 wb) (w' := w') (by simp [go_sem, Rs.look, e0, e1, e2, e3, e4, e5, e6]) (Rs.Gr.refl _) rfl
        · have e0 : V 0 = .agg #[.slice pw t.words.length cw, .slice pt t.turns.length ct, .int .i64 t.breath] := hs 0 (by simp)
          have e1 : V 1 = .slice (some ⟨g5, 0, none⟩) R.length c5 := hs 1 (by simp)
          have e2 : V 2 = .int .i64 (i : Int) := hs 2 (by simp)
          have e3 : V 3 = .pointer (some ⟨g5, i, none⟩) := hs 3 (by simp)
          have e4 : V 4 = (.slice q l.length d) := hs 4 (by simp)
          have e5 : V 5 = .tuple #[.int .i64 wa, .int .i64 wb, .int .i64 wc] := hs 5 (by simp)
          have e6 : V 6 = .tuple #[.int .i64 wa, .int .i64 wb, .int .i64 wc] := hs 6 (by simp)
          rw [if_pos (by rfl)]
          exact Rs.GrowL.value (v := .int .i64 wc) (w' := w') (by simp [go_sem, Rs.look, e0, e1, e2, e3, e4, e5, e6]) (Rs.Gr.refl _) rfl
        · have e0 : V 0 = .agg #[.slice pw t.words.length cw, .slice pt t.turns.length ct, .int .i64 t.breath] := hs 0 (by simp)
          have e1 : V 1 = .slice (some ⟨g5, 0, none⟩) R.length c5 := hs 1 (by simp)
          have e2 : V 2 = .int .i64 (i : Int) := hs 2 (by simp)
          have e3 : V 3 = .pointer (some ⟨g5, i, none⟩) := hs 3 (by simp)
          have e4 : V 4 = (.slice q l.length d) := hs 4 (by simp)
          have e5 : V 5 = .tuple #[.int .i64 wa, .int .i64 wb, .int .i64 wc] := hs 5 (by simp)
          have e6 : V 6 = .tuple #[.int .i64 wa, .int .i64 wb, .int .i64 wc] := hs 6 (by simp)
          have e7 : V 7 = .int .i64 wa := hs 7 (by simp)
          rw [if_pos (by rfl)]
          exact Rs.GrowL.value (v := .int .i64 wa) (w' := w') (by simp [go_sem, Rs.look, e0, e1, e2, e3, e4, e5, e6, e7]) (Rs.Gr.refl _) rfl
        · have e0 : V 0 = .agg #[.slice pw t.words.length cw, .slice pt t.turns.length ct, .int .i64 t.breath] := hs 0 (by simp)
          have e1 : V 1 = .slice (some ⟨g5, 0, none⟩) R.length c5 := hs 1 (by simp)
          have e2 : V 2 = .int .i64 (i : Int) := hs 2 (by simp)
          have e3 : V 3 = .pointer (some ⟨g5, i, none⟩) := hs 3 (by simp)
          have e4 : V 4 = (.slice q l.length d) := hs 4 (by simp)
          have e5 : V 5 = .tuple #[.int .i64 wa, .int .i64 wb, .int .i64 wc] := hs 5 (by simp)
          have e6 : V 6 = .tuple #[.int .i64 wa, .int .i64 wb, .int .i64 wc] := hs 6 (by simp)
          have e7 : V 7 = .int .i64 wa := hs 7 (by simp)
          have e8 : V 8 = .int .i64 wb := hs 8 (by simp)
          have e10 : V 10 = .int .i64 wa := hs 10 (by simp)
          rw [if_pos (by rfl)]
          exact Rs.GrowL.value (v := .int .i64 wb) (w' := w') (by simp [go_sem, Rs.look, e0, e1, e2, e3, e4, e5, e6, e7, e8, e10]) (Rs.Gr.refl _) rfl
        · have e0 : V 0 = .agg #[.slice pw t.words.length cw, .slice pt t.turns.length ct, .int .i64 t.breath] := hs 0 (by simp)
          have e1 : V 1 = .slice (some ⟨g5, 0, none⟩) R.length c5 := hs 1 (by simp)
          have e2 : V 2 = .int .i64 (i : Int) := hs 2 (by simp)
          have e3 : V 3 = .pointer (some ⟨g5, i, none⟩) := hs 3 (by simp)
          have e4 : V 4 = (.slice q l.length d) := hs 4 (by simp)
          have e5 : V 5 = .tuple #[.int .i64 wa, .int .i64 wb, .int .i64 wc] := hs 5 (by simp)
          have e6 : V 6 = .tuple #[.int .i64 wa, .int .i64 wb, .int .i64 wc] := hs 6 (by simp)
          have e7 : V 7 = .int .i64 wa := hs 7 (by simp)
          have e8 : V 8 = .int .i64 wb := hs 8 (by simp)
          have e9 : V 9 = .int .i64 wc := hs 9 (by simp)
          have e10 : V 10 = .int .i64 wa := hs 10 (by simp)
          have e11 : V 11 = .int .i64 wb := hs 11 (by simp)
          rw [if_pos (by rfl)]
          exact Rs.GrowL.value (v := .int .i64 wc) (w' := w') (by simp [go_sem, Rs.look, e0, e1, e2, e3, e4, e5, e6, e7, e8, e9, e10, e11]) (Rs.Gr.refl _) rfl
      · intro V w' hG hs
        have e0 : V 0 = .agg #[.slice pw t.words.length cw, .slice pt t.turns.length ct, .int .i64 t.breath] := hs 0 (by omega)
        have e1 : V 1 = .slice (some ⟨g5, 0, none⟩) R.length c5 := hs 1 (by omega)
        have e2 : V 2 = .int .i64 (i : Int) := hs 2 (by omega)
        have e3 : V 3 = .pointer (some ⟨g5, i, none⟩) := hs 3 (by omega)
        have e4 : V 4 = (.slice q l.length d) := hs 4 (by omega)
        have e5 : V 5 = .tuple #[.int .i64 wa, .int .i64 wb, .int .i64 wc] := hs 5 (by omega)
        have e6 : V 6 = .tuple #[.int .i64 wa, .int .i64 wb, .int .i64 wc] := hs 6 (by omega)
        have e7 : V 7 = .int .i64 wa := hs 7 (by omega)
        have e8 : V 8 = .int .i64 wb := hs 8 (by omega)
        have e9 : V 9 = .int .i64 wc := hs 9 (by omega)
        have e10 : V 10 = .int .i64 wa := hs 10 (by omega)
        have e11 : V 11 = .int .i64 wb := hs 11 (by omega)
        have e12 : V 12 = .int .i64 wc := hs 12 (by omega)
        simp only [Rs.canon, Rs.dstOf, List.range_succ, List.range_zero, List.nil_append, List.cons_append, List.foldl_cons, List.foldl_nil, List.drop_succ_cons, List.drop_zero, List.drop_nil, List.getElem?_toArray, List.getElem?_cons_succ, List.getElem?_cons_zero, Option.bind_some, Act.put, List.getD_cons_succ, List.getD_cons_zero, List.setIfInBounds_toArray, List.set_cons_succ, List.set_cons_zero]
        rw [e0, e1, e2, e3, e4, e5, e6, e7, e8, e9, e10, e11, e12]
        clear e0 e1 e2 e3 e4 e5 e6 e7 e8 e9 e10 e11 e12 hs
        have HO := Lib.hid (own_below HO.out hG)
        have HE := Lib.hid (HE.out.below hG)
        have HO5 := Lib.hid (own_below HO5.out hG)
        have HR := Lib.hid (HR.out.below hG)
        have HEL := Lib.hid (HEL.out.below hG)
        have HXr := Lib.hid ((hG.block w.heap.size HZ0).trans HXr.out)
        have hzg := hG.size
        have hcell := (hG.cell (p := ⟨g5, i, none⟩) hq5).trans HCELL.out
        have HBr := Lib.hid (join HBr.out hG)
        clear hG
        by_cases h6 : wc = 6
        · subst h6
          rw [HOKR.out, decide_eq_true rfl, if_pos rfl] at HSN
          go_wp2_with (at_builtin; refine wpList_append_which rfl _ _ rfl (w.heap.size + 1) _ _ _ rfl (HO.out.alloc _) ⟨w'.heap.size, 0, none⟩ _ rfl (cell_one_new _ _ _ 0 _ rfl) rfl ?y1 ?y2 ?_)
          case y1 => first | omega | (simp; omega)
          case y2 => omega
          intro v' w9 hown9 hgrow9 hwhich
          have HEL9 := Lib.hid ((HEL.out.below (below1 _ _)).grown (HO.out.alloc _) hgrow9)
          have HE9 := Lib.hid ((HE.out.below (below1 _ _)).grown (HO.out.alloc _) hgrow9)
          have HO9 := Lib.hid hown9
          have HX9 := Lib.hid (blk_grown ((below1 w' _).block w.heap.size (by omega) |>.trans HXr.out) (HO.out.alloc _) hgrow9 (by omega))
          have HO59 := Lib.hid ((HO5.out.alloc (.cells #[.slice q l.length d] 28)).kept hgrow9 (by
            rcases HNE.out with h | h
            · right; rw [h]; simp [Value.ownBlock]
            · right; exact fun e => h e.symm))
          have HR9 := Lib.hid ((HR.out.below (below1 _ _)).grown (HO.out.alloc _) hgrow9)
          have HNE9 : Hid (v'.ownBlock = none ∨ v'.ownBlock ≠ (Value.slice (some ⟨g5, 0, none⟩) R.length c5).ownBlock) := Lib.hid (by
            rcases hwhich with h | h
            · rw [h]; exact HNE.out
            · right; rw [h]; show some _ ≠ some g5; intro e; injection e with e; (try simp at e); omega)
          have HB9 := Lib.hid (below_grown (al2 HBr.out (by omega) _) (HO.out.alloc _) (by omega) (by simp; omega) hgrow9)
          clear hgrow9 hown9 hwhich
          go_wp2
          go_roundw
          case rel => exact ⟨i + 1, _, by go_num, by omega, by rw [HSN.out, List.length_append]; exact HO9.out, by rw [HSN.out]; exact HE9.out.snoc HEL9.out, HO59.out, HR9.out, HNE9.out, HB9.out, HX9.out⟩
          case measure => simp [intOf]; omega
        · have h6' : (wc == 6) = false := by simpa using h6
          rw [HOKR.out, decide_eq_false h6, if_neg (by decide), List.append_nil] at HSN
          clear h6
          go_wp2
          go_roundw
          case rel => exact ⟨i + 1, xs, by go_num, by omega, by rw [HSN.out]; exact HO.out, by rw [HSN.out]; exact HE.out, HO5.out, HR.out, HNE.out, HBr.out, HXr.out⟩
          case measure => simp [intOf]; omega
    · obtain rfl : i = R.length := by omega
      rw [List.take_length, ← HRR.out] at HO HE
      go_wp2
      go_ret
      exact ⟨_, xs, rfl, own_base HO.out (by omega), HE.out, HBr.out⟩
end Go.Proofs.Ytadnggecnjdhiaa
