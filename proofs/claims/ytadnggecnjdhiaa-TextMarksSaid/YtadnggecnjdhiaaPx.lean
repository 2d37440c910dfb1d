/- lone, Lone. -/
import Derived.Test.YtadnggecnjdhiaaZl
set_option linter.unusedSimpArgs false
set_option linter.unusedVariables false
namespace Go.Proofs.Ytadnggecnjdhiaa
open Go.RowKit Tx
attribute [local go_sem] Oper.semAt_some

/-- lists that can be read -/
def LLs (W : World) (p : Option Addr) (L : List (List Int)) : Prop := L = [] ∨ ∃ b, p = some ⟨b, 0, none⟩ ∧ b < W.heap.size ∧ ∀ i, i < L.length → ∃ x, W.cell? ⟨b, i, none⟩ = some x ∧ El W x (L.getD i [])
theorem LLs.below {W W' : World} {p : Option Addr} {L : List (List Int)} (h : LLs W p L) (hb : Below W.heap.size W W') : LLs W' p L := by
  rcases h with h | ⟨b, hp, hl, h⟩
  · exact .inl h
  · exact .inr ⟨b, hp, Nat.lt_of_lt_of_le hl hb.size, fun i hi => by
      obtain ⟨x, h1, h2⟩ := h i hi
      exact ⟨x, (hb.cell (p := ⟨b, i, none⟩) hl).trans h1, h2.below hb⟩⟩
theorem LLs.of_own {W : World} {base : Nat} {v : Value} {L : List (List Int)} {xs : List Value} (h : W.ownsRow base 28 1 v L.length xs) (he : Els W xs L) : ∃ p c, v = .slice p L.length c ∧ LLs W p L := by
  rcases h.2 with ⟨h3, h4⟩ | ⟨g, cap, cur, rfl, hb, hg, h1, h2, h3, h4⟩
  · exact ⟨none, 0, by rw [h3, h4], .inl (List.length_eq_zero_iff.1 h4)⟩
  · refine ⟨_, cap, rfl, .inr ⟨g, rfl, (Array.getElem?_eq_some_iff.1 hg).1, fun i hi => ⟨xs.getD i undef, ?_, he.2 i hi⟩⟩⟩
    have h1 : i < xs.length := by rw [he.1]; exact hi
    have := h.cells (g := g) rfl i (xs.getD i undef) (by simp [h1])
    have hadd : (⟨g, 0, none⟩ : Addr).add i = ⟨g, i, none⟩ := by unfold Addr.add; split <;> simp_all
    rwa [hadd] at this
theorem LLs.at {W : World} {p : Option Addr} {L : List (List Int)} (h : LLs W p L) {i : Nat} (hi : i < L.length) : ∃ b q d, p = some ⟨b, 0, none⟩ ∧ b < W.heap.size ∧ W.cell? ⟨b, i, none⟩ = some (.slice q (L.getD i []).length d) ∧ Ints W q (L.getD i []) := by
  rcases h with rfl | ⟨b, hp, hl, h⟩
  · simp at hi
  · obtain ⟨x, h1, h2⟩ := h i hi
    obtain ⟨q, d, rfl, h3⟩ := h2.ints
    exact ⟨b, q, d, hp, hl, h1, h3⟩
theorem bestLen_le (ls : List (List Int)) (m : Nat) : ∀ b, b ≤ m → (∀ l ∈ ls, l.length ≤ m) → bestLen ls b ≤ m := by
  induction ls with
  | nil => intro b hb _; exact hb
  | cons l ls ih => intro b hb h; rw [bestLen]; exact ih _ (by have := h l (by simp); split <;> omega) fun x hx => h x (by simp [hx])
theorem bestLen_drop (L : List (List Int)) (i b : Nat) (h : i < L.length) : bestLen (L.drop i) b = bestLen (L.drop (i + 1)) (if b = 0 ∨ (L.getD i []).length < b then (L.getD i []).length else b) := by
  rw [List.drop_eq_getElem_cons h, bestLen]
  rw [show L.getD i [] = L[i] from by simp [h]]
set_option maxHeartbeats 2000000 in
theorem rFewest_any (L : List (List Int)) (hL : L.length ≤ 1000000) (hl : ∀ l ∈ L, l.length ≤ 1000) (p : Option Addr) (c : Nat) (w : World) (h : LLs w p L) :
    Calls Try.prog 34 #[.slice p L.length c] w fun e w' => e = .returned (.tuple #[.int .i64 (bestLen L 0 : Nat), .int .i64 (if bestLen L 0 = 0 then 6 else 0)]) ∧ w = w' := by
  have H := Lib.hid h
  have HL := Lib.hid (fun i (hi : i < L.length) => hl (L.getD i []) (by simp [hi]))
  obtain ⟨B, hB⟩ : ∃ B, B = bestLen L 0 := ⟨_, rfl⟩
  rw [← hB]
  obtain ⟨er, her⟩ : ∃ er : Int, er = (if B = 0 then 6 else 0) := ⟨_, rfl⟩
  rw [← her]
  have HER := Lib.hid her
  clear her
  have HB := Lib.hid hB
  clear h hl hB
  go_enter Try.func34, Try.ntmps34
  go_wp2
  go_loop [4, 5] (fun bv v => ∃ i b : Nat, v = .int .i64 i ∧ bv = .int .i64 b ∧ i ≤ L.length ∧ b ≤ 1000 ∧ bestLen (L.drop i) b = B) (fun _ v => L.length - (intOf v).toNat)
  case atStart => exact ⟨0, 0, rfl, rfl, Nat.zero_le _, by omega, HB.out.symm⟩
  case round =>
    obtain ⟨i, b, rfl, rfl, hi, hb, hbest⟩ := hrel
    have HBE := Lib.hid hbest
    clear hbest
    by_cases hlt : i < L.length
    · have hlt' : (i : Int) < L.length := by omega
      obtain ⟨g, q, d, rfl, hg, hcell, hI⟩ := H.out.at hlt
      have hll := HL.out i hlt
      have HST := Lib.hid (bestLen_drop L i b hlt)
      generalize L.getD i [] = l at hcell hll HST
      clear hI
      by_cases h0 : b = 0
      · subst h0
        rw [if_pos (.inl rfl), HBE.out] at HST
        go_wp2
        go_round
        case rel => exact ⟨i + 1, l.length, by go_num, rfl, by omega, by omega, HST.out.symm⟩
        case measure => simp [intOf]; omega
      · have h0' : ((b : Int) == 0) = false := by rw [beq_eq_false_iff_ne]; omega
        by_cases h1 : l.length < b
        · have h1' : (l.length : Int) < b := by omega
          rw [if_pos (.inr h1), HBE.out] at HST
          clear h0 h1
          go_wp2
          go_round
          case rel => exact ⟨i + 1, l.length, by go_num, rfl, by omega, by omega, HST.out.symm⟩
          case measure => simp [intOf]; omega
        · have h1' : ¬ (l.length : Int) < b := by omega
          rw [if_neg (by omega), HBE.out] at HST
          clear h0 h1
          go_wp2
          go_round
          case rel => exact ⟨i + 1, b, by go_num, rfl, by omega, by omega, HST.out.symm⟩
          case measure => simp [intOf]; omega
    · obtain rfl : i = L.length := by omega
      have hbe : b = B := by have := HBE.out; rw [List.drop_length] at this; exact this
      clear HBE HB
      subst hbe
      by_cases h0 : b = 0
      · subst h0
        have HF : Hid (er = 6) := Lib.hid (by rw [HER.out, if_pos rfl])
        clear HER
        go_wp2
        go_ret2
        exact ⟨by rw [HF.out]; rfl, rfl⟩
      · have h0' : ((b : Int) == 0) = false := by rw [beq_eq_false_iff_ne]; omega
        have HF : Hid (er = 0) := Lib.hid (by rw [HER.out, if_neg h0])
        clear h0 HER
        go_wp2
        go_ret2
        exact ⟨by rw [HF.out]; rfl, rfl⟩
/-- the places up to less than p at which none of some readings breaks -/
def nevTo (L : List (List Int)) (p : Nat) : List Int := ((List.range' 1 (p - 1)).filter fun q => !L.any fun l => breaksAt l q).map fun (q : Nat) => (q : Int)
theorem nevTo_succ (L : List (List Int)) (p : Nat) (hp : 1 ≤ p) : nevTo L (p + 1) = nevTo L p ++ (if (L.any fun l => breaksAt l p) then [] else [(p : Int)]) := by
  unfold nevTo
  rw [show p + 1 - 1 = (p - 1) + 1 by omega, List.range'_concat, List.filter_append, List.map_append]
  rw [show 1 + 1 * (p - 1) = p by omega]
  cases h : (L.any fun l => breaksAt l p) <;> simp [h]
theorem nevTo_len (L : List (List Int)) (p : Nat) : (nevTo L p).length ≤ p := by
  unfold nevTo; rw [List.length_map]; exact Nat.le_trans (List.length_filter_le _ _) (by simp)
set_option maxHeartbeats 6000000 in
set_option maxRecDepth 100000 in
theorem rNever_any (n : Nat) (hn1 : 1 ≤ n) (hn : n ≤ 12) (L : List (List Int)) (hL : L.length ≤ 1000000) (hl : ∀ l ∈ L, Parts n l) (pw : Option Addr) (cw : Nat) (v1 v2 : Value) (p : Option Addr) (c : Nat) (w : World) (h : LLs w p L) :
    Calls Try.prog 35 #[.agg #[.slice pw n cw, v1, v2], .slice p L.length c] w (RowPost (nevTo L n) w) := by
  obtain ⟨i0, hi0, hz0, hz1, hz2⟩ := info_parts A_infoI
  have H := Lib.hid h
  have HL := Lib.hid (fun i (hi : i < L.length) => hl (L.getD i []) (by simp [hi]))
  have HB := Lib.hid (below1 w (.cells #[.slice pw n cw, v1, v2] 35))
  have HX := Lib.hid (heap_last w (.cells #[.slice pw n cw, v1, v2] 35))
  have hz1' : (w.alloc (.cells #[.slice pw n cw, v1, v2] 35)).heap.size = w.heap.size + 1 := by simp
  clear h hl
  go_enter Try.func35, Try.ntmps35
  go_wp2_with fail
  generalize w.alloc (.cells #[.slice pw n cw, v1, v2] 35) = W1 at HB HX hz1' ⊢
  have hz1'' : w.heap.size + 1 ≤ W1.heap.size := by omega
  clear hz1'
  go_loopw [5, 6, 7, 8, 9, 10] (fun ov pv _ _ _ _ wr => ∃ q : Nat, pv = .int .i64 q ∧ 1 ≤ q ∧ q ≤ n ∧ wr.ownsRow W1.heap.size 3 1 ov (nevTo L q).length ((nevTo L q).map (Value.int .i64)) ∧ Below W1.heap.size W1 wr) (fun _ pv _ _ _ _ _ => n - (intOf pv).toNat)
  case atStart => exact ⟨1, rfl, Nat.le_refl _, hn1, own_none _ _ _ _, Below.refl _ _⟩
  case round =>
    obtain ⟨wq, rfl⟩ : ∃ wq : World, wq = wr := ⟨_, rfl⟩
    obtain ⟨q, rfl, hq1, hqn, hown, hBr⟩ := hrel
    have HO := Lib.hid hown
    have HBr := Lib.hid hBr
    have hz7 := hBr.size
    have hol := nevTo_len L q
    have HSN := Lib.hid (nevTo_succ L q hq1)
    obtain ⟨k0, k1, k2⟩ := blk3 ((hBr.block w.heap.size (by omega)).trans HX.out)
    clear hown hBr
    by_cases hlt : q < n
    · have hlt' : (q : Int) < n := by omega
      go_wp2_with fail
      go_loopg [7, 8, 9, 10] L.length (fun gk bv v _ _ wr => ∃ (i : Nat) (b : Bool), gk + i = L.length ∧ v = .int .i64 i ∧ bv = .bool b ∧ b = ((L.take i).any fun l => breaksAt l q) ∧ wq = wr)
      case atStart => exact ⟨0, false, by omega, rfl, rfl, rfl, rfl⟩
      case round =>
        obtain ⟨gm, rfl⟩ : ∃ x : Nat, x = gk := ⟨_, rfl⟩
        obtain ⟨i, b, hi, rfl, rfl, hb, rfl⟩ := hrel
        have HBB := Lib.hid hb
        clear hb
        by_cases hil : i < L.length
        · have hil' : (i : Int) < L.length := by omega
          obtain ⟨g, r, d, rfl, hg, hcell, hI⟩ := (H.out.below (join HB.out HBr.out)).at hil
          have hpl := HL.out i hil
          have HST : Hid (((L.take (i + 1)).any fun l => breaksAt l q) = (b || breaksAt (L.getD i []) q)) := Lib.hid (by
            rw [take_snocD [] hil, List.any_append, ← HBB.out]; simp)
          generalize L.getD i [] = l at hcell hpl HST hI
          have HPL := Lib.hid (fun k => isum_take_le (fun x h => by have := hpl.1 x h; omega) hpl.2 k)
          have hll : l.length ≤ 12 := by have := isum_ge hpl.1; have := hpl.2; omega
          have HI := Lib.hid hI
          clear hpl hI
          go_wp2_with fail
          go_loopg [7, 9, 10] l.length (fun gk2 bv av kv wr => ∃ (k : Nat) (s : Int), gk2 + k = l.length ∧ kv = .int .i64 k ∧ av = .int .i64 s ∧ s = isum (l.take k) ∧ bv = .bool (b || (List.range k).any fun j => isum (l.take (j + 1)) == (q : Int)) ∧ wq = wr)
          case atStart => exact ⟨0, 0, by omega, rfl, rfl, rfl, by simp, rfl⟩
          case round =>
            obtain ⟨k, s, hk, rfl, rfl, hs, rfl, rfl⟩ := hrel
            by_cases hkl : k < l.length
            · have hkl' : (k : Int) < l.length := by omega
              obtain ⟨gb, go, x, rfl, hgb, hxx, hc1⟩ := HI.out.at hkl
              have hsn : isum (l.take (k + 1)) = s + x := by rw [take_snocD 0 hkl, isum_snoc, hxx, hs]
              have hp1 := HPL.out k
              have hp2 := HPL.out (k + 1)
              rw [← hs] at hp1
              rw [hsn] at hp2
              have HSU := Lib.hid hsn
              have HAN : Hid ((List.range (k + 1)).any (fun j => isum (l.take (j + 1)) == (q : Int)) = ((List.range k).any (fun j => isum (l.take (j + 1)) == (q : Int)) || (s + x == (q : Int)))) := Lib.hid (by
                rw [List.range_succ, List.any_append]; simp [hsn])
              generalize (List.range k).any (fun j => isum (l.take (j + 1)) == (q : Int)) = ak at HAN
              clear hs hsn hxx
              cases hba : (b || ak) with
              | true =>
                have HBA := Lib.hid hba
                clear hba
                go_wp2
                go_roundg (gk - 1)
                case rel => exact ⟨k + 1, s + x, by omega, by go_num, rfl, HSU.out.symm, by rw [HAN.out, ← Bool.or_assoc, HBA.out]; rfl, rfl⟩
                case measure => omega
              | false =>
                have HBA := Lib.hid hba
                clear hba
                go_wp2
                go_roundg (gk - 1)
                case rel => exact ⟨k + 1, s + x, by omega, by go_num, rfl, HSU.out.symm, by rw [HAN.out, ← Bool.or_assoc, HBA.out]; rfl, rfl⟩
                case measure => omega
            · obtain rfl : k = l.length := by omega
              have HFB : Hid (breaksAt l q = (List.range l.length).any fun j => isum (l.take (j + 1)) == (q : Int)) := Lib.hid rfl
              clear hs
              go_wp2
              go_roundg (gm - 1)
              case rel => exact ⟨i + 1, _, by omega, by go_num, rfl, by rw [HST.out, HFB.out], rfl⟩
              case measure => omega
        · obtain rfl : i = L.length := by omega
          rw [List.take_length] at HBB
          cases b with
          | true =>
            rw [← HBB.out, if_pos rfl, List.append_nil] at HSN
            go_wp2
            go_roundw
            case rel => exact ⟨q + 1, by go_num, by omega, by omega, by rw [HSN.out]; exact HO.out, HBr.out⟩
            case measure => simp [intOf]; omega
          | false =>
            rw [← HBB.out, if_neg (by decide)] at HSN
            go_wp2_with (at_builtin; refine wpList_append_own _ rfl _ _ 28 rfl W1.heap.size 3 i0 (.int .i64 0) 1 8 A_undI hi0 hz0 hz1 hz2 rfl (by decide) _ _ _ rfl (HO.out.alloc _) ⟨wq.heap.size, 0, none⟩ 1 1 [.int .i64 (q : Int)] rfl rfl ?d1 ?d2 ?d3 ?d4 ?d5 ?_)
            case d1 => exact cell_one_new _ _ _
            case d2 => first | rfl | (intro u hu; simp at hu; subst hu; rfl)
            case d3 => unfold maxLen; omega
            case d4 => omega
            case d5 => first | omega | (simp; omega)
            intro v' w8 hown8 hgrow _
            have hB8 := below_grown (al2 HBr.out (by omega) _) (HO.out.alloc _) (Nat.le_refl _) (by simp; omega) hgrow
            have HO8 := Lib.hid hown8
            have HB8 := Lib.hid hB8
            clear hgrow hown8 hB8
            go_wp2
            go_roundw
            case rel => exact ⟨q + 1, by go_num, by omega, by omega, by rw [HSN.out]; simpa using HO8.out, HB8.out⟩
            case measure => simp [intOf]; omega
    · obtain rfl : q = n := by omega
      clear HSN
      go_wp2
      go_ret
      exact ⟨_, rfl, own_base HO.out (by omega), join HB.out HBr.out⟩
end Go.Proofs.Ytadnggecnjdhiaa
namespace Go.Proofs.Ytadnggecnjdhiaa
open Tx
set_option linter.unusedSimpArgs false
set_option linter.unusedVariables false

/-- marks let no breath gain more than one -/
def NoGain (may : Nat → Nat → Bool) (n : Nat) (m : Marks) : Prop := ∀ a b, a < b → b ≤ n → may a b = true → m.getD b 0 ≤ m.getD a 0 + 1
theorem marks_ext {m k : Marks} (h1 : m.length = k.length) (h : ∀ p, m.getD p 0 = k.getD p 0) : m = k := by
  apply List.ext_getElem h1
  intro i hi hk
  have := h i
  simpa [List.getD_eq_getElem?_getD, hi, hk] using this
theorem low_fold (may : Nat → Nat → Bool) (n : Nat) (m : Marks) (hm : m.length = 13) (hn : n ≤ 12) : ∀ k, k ≤ n →
    ((List.range k).foldl (lowRow may n) m).length = 13 ∧ (∀ p, ((List.range k).foldl (lowRow may n) m).getD p 0 ≤ m.getD p 0) ∧
      (∀ a b, a < k → a < b → b ≤ n → may a b = true → ((List.range k).foldl (lowRow may n) m).getD b 0 ≤ m.getD a 0 + 1)
  | 0, _ => ⟨by simpa using hm, fun p => by simp, fun a b h => by omega⟩
  | k + 1, hk => by
    obtain ⟨h1, h2, h3⟩ := low_fold may n m hm hn k (by omega)
    rw [List.range_succ, List.foldl_append, List.foldl_cons, List.foldl_nil]
    generalize (List.range k).foldl (lowRow may n) m = M at h1 h2 h3 ⊢
    obtain ⟨g1, g2⟩ := row_get k (brs may n k) M (fun b hb => by rw [mem_brs] at hb; rw [h1]; omega)
    have e : ∀ p, (lowRow may n M k).getD p 0 ≤ M.getD p 0 := fun p => by
      unfold lowRow; rw [g2]; split <;> omega
    refine ⟨by unfold lowRow; rw [g1, h1], fun p => by have := e p; have := h2 p; omega, fun a b ha hab hb hmay => ?_⟩
    by_cases hak : a = k
    · subst hak
      unfold lowRow
      rw [g2, if_pos (by rw [mem_brs]; exact ⟨hab, hb, hmay⟩)]
      have := h2 a
      omega
    · have := h3 a b (by omega) hab hb hmay
      have := e b
      omega
theorem low_same (may : Nat → Nat → Bool) (n : Nat) (m : Marks) (hm : m.length = 13) (hn : n ≤ 12) (h : NoGain may n m) : ∀ k, k ≤ n → (List.range k).foldl (lowRow may n) m = m
  | 0, _ => rfl
  | k + 1, hk => by
    rw [List.range_succ, List.foldl_append, List.foldl_cons, List.foldl_nil, low_same may n m hm hn h k (by omega)]
    obtain ⟨g1, g2⟩ := row_get k (brs may n k) m (fun b hb => by rw [mem_brs] at hb; rw [hm]; omega)
    refine marks_ext g1 fun p => ?_
    unfold lowRow
    rw [g2]
    split
    · rename_i hp
      rw [mem_brs] at hp
      have := h k p hp.1 hp.2.1 hp.2.2
      omega
    · rfl
theorem lowered_iff (may : Nat → Nat → Bool) (n : Nat) (m : Marks) (hm : m.length = 13) (hn : n ≤ 12) : lowered may n m = m ↔ NoGain may n m := by
  constructor
  · intro h a b hab hb hmay
    have := (low_fold may n m hm hn n (Nat.le_refl _)).2.2 a b (by omega) hab hb hmay
    have e : (List.range n).foldl (lowRow may n) m = m := h
    rw [e] at this
    exact this
  · intro h
    exact low_same may n m hm hn h n (Nat.le_refl _)
theorem greatest_nogain (may : Nat → Nat → Bool) (n : Nat) (hn : n ≤ 12) : NoGain may n (greatest may n) := fun a b hab hb hmay => (greatest_inv may n hn).hold a b (by omega) hab hb hmay
/-- behind the words the greatest marks are 0 -/
theorem greatest_tail (may : Nat → Nat → Bool) (n : Nat) (hn : n ≤ 12) (p : Nat) (hp : n < p) : (greatest may n).getD p 0 = 0 := by
  unfold greatest lowered
  have key : ∀ k, k ≤ n → ((List.range k).foldl (lowRow may n) (top n)).getD p 0 = 0 ∧ ((List.range k).foldl (lowRow may n) (top n)).length = 13 := by
    intro k
    induction k with
    | zero => intro _; exact ⟨by rw [List.range_zero, List.foldl_nil, top_get n p hn, if_neg (by omega)], by simp [top]⟩
    | succ k ih =>
      intro hk
      obtain ⟨h1, h2⟩ := ih (by omega)
      rw [List.range_succ, List.foldl_append, List.foldl_cons, List.foldl_nil]
      generalize (List.range k).foldl (lowRow may n) (top n) = M at h1 h2 ⊢
      obtain ⟨g1, g2⟩ := row_get k (brs may n k) M (fun b hb => by rw [mem_brs] at hb; rw [h2]; omega)
      refine ⟨?_, by unfold lowRow; rw [g1, h2]⟩
      unfold lowRow
      rw [g2, if_neg (by rw [mem_brs]; omega), h1]
  exact (key n (Nat.le_refl _)).1
/-- the marks of the places of a text, and those behind them, are the greatest marks -/
theorem greatest_pad (may : Nat → Nat → Bool) (n : Nat) (hn : n ≤ 12) : (greatest may n).take (n + 1) ++ List.replicate (13 - ((greatest may n).take (n + 1)).length) 0 = greatest may n := by
  have hl := (greatest_inv may n hn).len
  refine marks_ext (by simp [hl]; omega) fun p => ?_
  by_cases hp : p < n + 1
  · have h2 : p < min (n + 1) 13 := by omega
    simp [List.getElem?_append, List.getElem?_take, hl, hp, show p < 13 by omega, h2]
  · have h0 := greatest_tail may n hn p (by omega)
    rw [h0]
    have h2 : ¬ p < min (n + 1) 13 := by omega
    simp [List.getElem?_append, List.getElem?_take, hl, hp, List.getElem?_replicate, h2]
    split <;> rfl
/-- the mark of the last place is how many breaths it needs -/
theorem greatest_last {may : Nat → Nat → Bool} {n : Nat} (hn1 : 1 ≤ n) (hn : n ≤ 12) (h : (fewest may n).2 = 0) : (greatest may n).getD n 0 = (fewest may n).1.length ∧ (greatest may n).getD n 0 < 99 := by
  have hi := greatest_inv may n hn
  unfold fewest at h ⊢
  by_cases hm : (greatest may n).getD n 0 < 99
  · rw [if_pos hm]
    exact ⟨by rw [← (walk_spec hi n n (Nat.le_refl _) (Nat.le_refl _) hm).2.2]; simp, hm⟩
  · rw [if_neg hm] at h
    simp at h
end Go.Proofs.Ytadnggecnjdhiaa
namespace Go.Proofs.Ytadnggecnjdhiaa
open Tx
set_option linter.unusedSimpArgs false
set_option linter.unusedVariables false

/-- the longest breath of a reading that begins at a place -/
def longGo (t : Text) : Nat → List Int → Int
  | _, [] => 0
  | a, x :: l => max (t.syl a (a + x.toNat)) (longGo t (a + x.toNat) l)
/-- what Even tries: breaths of at most so many syllables -/
def evGo (t : Text) : List Nat → List Int × Int × Int
  | [] => ([], 0, 6)
  | m :: ms => if (fewest (t.within (m : Nat)) t.words.length).2 = 0 then ((fewest (t.within (m : Nat)) t.words.length).1, (m : Int), 0) else evGo t ms
def evR (t : Text) : List Int × Int × Int := if t.err = 0 then evGo t (List.range' 1 t.breath.toNat) else ([], 0, t.err)
theorem okFrom_within (t : Text) (m : Int) (hm : 0 ≤ m) : ∀ (l : List Int) (a : Nat), okFrom (t.within m) a l = (okFrom t.right a l && decide (longGo t a l ≤ m))
  | [], a => by simp [okFrom, longGo, hm]
  | x :: l, a => by
    rw [okFrom, okFrom, longGo, okFrom_within t m hm l]
    unfold Tx.Text.within
    rw [Bool.eq_iff_iff]
    simp only [Bool.and_eq_true, decide_eq_true_eq]
    constructor
    · rintro ⟨⟨h1, h2⟩, h3, h4⟩
      exact ⟨⟨h2, h3⟩, by omega⟩
    · rintro ⟨⟨h2, h3⟩, h4⟩
      exact ⟨⟨by omega, h2⟩, h3, by omega⟩
theorem syl_pos {t : Text} (hs : ∀ x ∈ t.words, 1 ≤ x.syl ∧ x.syl ≤ 9) {a b : Nat} (hab : a < b) (hb : b ≤ t.words.length) : 1 ≤ t.syl a b := by
  unfold Text.syl
  have hl : ((slice t.words a b).map (·.syl)).length = b - a := by simp [slice]; omega
  have := isum_ge (l := (slice t.words a b).map (·.syl)) (fun x hx => by
    obtain ⟨y, hy, rfl⟩ := List.mem_map.1 hx
    exact (hs y (List.mem_of_mem_drop (List.mem_of_mem_take hy))).1)
  omega
theorem longGo_pos {t : Text} (hs : ∀ x ∈ t.words, 1 ≤ x.syl ∧ x.syl ≤ 9) {l : List Int} (hl : Parts t.words.length l) (h1 : 1 ≤ t.words.length) : 1 ≤ longGo t 0 l := by
  cases l with
  | nil => have := hl.2; simp [isum] at this; omega
  | cons x l =>
    rw [longGo]
    rw [parts_cons] at hl
    have := parts_pos hl.2
    have := syl_pos hs (a := 0) (b := 0 + x.toNat) (by omega) (by omega)
    omega
theorem longGo_breath {t : Text} (hb : 0 ≤ t.breath) : ∀ (l : List Int) (a : Nat), okFrom t.right a l = true → longGo t a l ≤ t.breath
  | [], a, _ => hb
  | x :: l, a, h => by
    rw [okFrom, Bool.and_eq_true] at h
    have h2 := longGo_breath hb l _ h.2
    have h1 := h.1
    unfold Text.right Text.isLong at h1
    simp only [Bool.and_eq_true, Bool.not_eq_true', decide_eq_false_iff_not] at h1
    rw [longGo]
    omega
theorem evGo_spec (t : Text) : ∀ (ms : List Nat), (evGo t ms = ([], 0, 6) ∧ ∀ m ∈ ms, (fewest (t.within (m : Nat)) t.words.length).2 ≠ 0) ∨
    ∃ pre m post, ms = pre ++ m :: post ∧ evGo t ms = ((fewest (t.within (m : Nat)) t.words.length).1, (m : Int), 0) ∧ (fewest (t.within (m : Nat)) t.words.length).2 = 0 ∧ ∀ k ∈ pre, (fewest (t.within (k : Nat)) t.words.length).2 ≠ 0
  | [] => .inl ⟨rfl, by simp⟩
  | m :: ms => by
    rw [evGo]
    by_cases h : (fewest (t.within (m : Nat)) t.words.length).2 = 0
    · rw [if_pos h]
      exact .inr ⟨[], m, ms, rfl, rfl, h, by simp⟩
    · rw [if_neg h]
      rcases evGo_spec t ms with ⟨h1, h2⟩ | ⟨pre, k, post, h1, h2, h3, h4⟩
      · exact .inl ⟨h1, fun k hk => by rcases List.mem_cons.1 hk with rfl | hk; exact h; exact h2 k hk⟩
      · exact .inr ⟨m :: pre, k, post, by rw [h1]; rfl, h2, h3, fun j hj => by rcases List.mem_cons.1 hj with rfl | hj; exact h; exact h4 j hj⟩
/-- what Even tells, as its law asks -/
theorem evR_spec {t : Text} (he : t.err = 0) (hs : ∀ x ∈ t.words, 1 ≤ x.syl ∧ x.syl ≤ 9) (hn1 : 1 ≤ t.words.length) (hn : t.words.length ≤ 12) (hb : 1 ≤ t.breath) :
    ((evR t).2.2 = 6 ∧ (evR t).1 = [] ∧ ∀ l, Parts t.words.length l → okFrom t.right 0 l = true → False) ∨
    ((evR t).2.2 = 0 ∧ Parts t.words.length (evR t).1 ∧ okFrom t.right 0 (evR t).1 = true ∧ longGo t 0 (evR t).1 = (evR t).2.1 ∧ 1 ≤ (evR t).2.1 ∧ (evR t).2.1 ≤ t.breath ∧
      ∀ l, Parts t.words.length l → okFrom t.right 0 l = true → (evR t).2.1 ≤ longGo t 0 l ∧ (longGo t 0 l = (evR t).2.1 → (evR t).1.length ≤ l.length)) := by
  unfold evR
  rw [if_pos he]
  have hfr := fun m : Nat => fewest_rights (may := t.within (m : Nat)) hn1 hn
  have hno : ∀ (m : Nat) l, Parts t.words.length l → okFrom t.right 0 l = true → longGo t 0 l ≤ m → l ∈ rights (t.within (m : Nat)) t.words.length := fun m l h1 h2 h3 => by
    rw [mem_rights]
    exact ⟨h1, by rw [okFrom_within t _ (by omega), h2]; simpa using h3⟩
  have hnot : ∀ (m : Nat), (fewest (t.within (m : Nat)) t.words.length).2 ≠ 0 → ∀ l, Parts t.words.length l → okFrom t.right 0 l = true → ¬ longGo t 0 l ≤ m := fun m hm l h1 h2 h3 => by
    apply hm
    rw [(hfr m).2.2.2]
    intro e
    have := hno m l h1 h2 h3
    rw [e] at this; simp at this
  rcases evGo_spec t (List.range' 1 t.breath.toNat) with ⟨h1, h2⟩ | ⟨pre, m, post, h1, h2, h3, h4⟩
  · left
    rw [h1]
    refine ⟨rfl, rfl, fun l hl ho => ?_⟩
    refine hnot t.breath.toNat (h2 _ (by rw [List.mem_range'_1]; omega)) l hl ho ?_
    have := longGo_breath (by omega) l 0 ho
    omega
  · right
    rw [h2]
    have hin := (hfr m).2.2.1 h3
    obtain ⟨g1, g2⟩ := mem_rights.1 hin
    rw [okFrom_within t _ (by omega), Bool.and_eq_true, decide_eq_true_eq] at g2
    have hmem : m ∈ List.range' 1 t.breath.toNat := by rw [h1]; simp
    rw [List.mem_range'_1] at hmem
    have hlow : ∀ l, Parts t.words.length l → okFrom t.right 0 l = true → (m : Int) ≤ longGo t 0 l := fun l hl ho => by
      have hp := longGo_pos hs hl hn1
      have hlb := longGo_breath (by omega) l 0 ho
      rcases Nat.lt_or_ge (longGo t 0 l).toNat m with hlt | hge
      · exfalso
        have hk : (longGo t 0 l).toNat ∈ pre := by
          have hlen : m = 1 + pre.length := by
            have e : (List.range' 1 t.breath.toNat)[pre.length]? = some m := by rw [h1]; simp
            rw [List.getElem?_range'] at e
            · simp at e; omega
            · have := congrArg List.length h1; simp at this; omega
          have e2 : (List.range' 1 t.breath.toNat)[(longGo t 0 l).toNat - 1]? = some (longGo t 0 l).toNat := by
            rw [List.getElem?_range' (by omega)]
            congr 1; omega
          rw [h1, List.getElem?_append_left (by omega)] at e2
          exact List.mem_of_getElem? e2
        exact hnot _ (h4 _ hk) l hl ho (by omega)
      · omega
    refine ⟨rfl, g1, g2.1, ?_, by show (1 : Int) ≤ (m : Int); omega, by show (m : Int) ≤ _; omega, fun l hl ho => ⟨hlow l hl ho, fun e => ?_⟩⟩
    · have := hlow _ g1 g2.1
      have := g2.2
      dsimp only at *
      omega
    · have hl2 := hno m l hl ho (by dsimp only at e; omega)
      dsimp only
      rw [(hfr m).1]
      exact (bestLen_spec _ 0 (rights_ne hn1)).2.1 l hl2
end Go.Proofs.Ytadnggecnjdhiaa
set_option linter.unusedSimpArgs false
set_option linter.unusedVariables false
namespace Go.Proofs.Ytadnggecnjdhiaa
open Go.RowKit Tx
attribute [local go_sem] Oper.semAt_some

theorem blk4 {W : World} {b : Nat} {v0 v1 v2 v3 : Value} {ty : TypeId} {fr : Nat × Nat} (h : W.heap[b]? = some (.cells #[v0, v1, v2, v3] ty fr)) : W.cell? ⟨b, 0, none⟩ = some v0 ∧ W.cell? ⟨b, 1, none⟩ = some v1 ∧ W.cell? ⟨b, 2, none⟩ = some v2 ∧ W.cell? ⟨b, 3, none⟩ = some v3 :=
  ⟨blk_cells h 0 _ rfl, blk_cells h 1 _ rfl, blk_cells h 2 _ rfl, blk_cells h 3 _ rfl⟩
theorem parts1_any (u : Turn) (x : Int) (A : Nat) (w : World) (hA : w.heap[A]? = some (.cells #[.int .i64 x] 3 (0, 0))) :
    Calls Try.prog 171 #[.agg #[.int .i64 u.word, .int .i64 u.lo, .int .i64 u.hi], .pointer (some ⟨A, 0, none⟩)] w fun e w' => e = .returned (.bool (u.parts x)) ∧ Below w.heap.size w w' := by
  have hAl := (Array.getElem?_eq_some_iff.1 hA).1
  have c0 := blk_cells hA 0 _ rfl
  obtain ⟨uw, ul, uh⟩ := u
  unfold Turn.parts
  dsimp only
  clear hA
  by_cases h1 : uw < x
  · by_cases h2 : x ≤ ul
    · go_enter Try.func171, Try.ntmps171
      go_wp2
      go_ret
      exact ⟨ret_bool (by simp [h1, h2]), below1 _ _⟩
    · by_cases h3 : uh < x
      · by_cases h4 : x ≤ uw
        · exact absurd h1 (by omega)
        · go_enter Try.func171, Try.ntmps171
          go_wp2
          go_ret
          exact ⟨ret_bool (by simp [h1, h2, h3, h4] <;> omega), below1 _ _⟩
      · go_enter Try.func171, Try.ntmps171
        go_wp2
        go_ret
        exact ⟨ret_bool (by simp [h1, h2, h3] <;> omega), below1 _ _⟩
  · by_cases h3 : uh < x
    · have h4 : x ≤ uw := by omega
      go_enter Try.func171, Try.ntmps171
      go_wp2
      go_ret
      exact ⟨ret_bool (by simp [h1, h3, h4] <;> omega), below1 _ _⟩
    · go_enter Try.func171, Try.ntmps171
      go_wp2
      go_ret
      exact ⟨ret_bool (by simp [h1, h3] <;> omega), below1 _ _⟩
theorem entered_parts1 : Entered 171 := fun args W => by kernel_rfl
theorem parts_any (ts : List Turn) (hl : ts.length ≤ 1000000) (x : Int) (pt : Option Addr) (ct : Nat) (v0 v2 v3 : Value) (w : World) (hT : Tns w pt ts) :
    Calls Try.prog 160 #[.agg #[v0, .slice pt ts.length ct, v2, v3], .int .i64 x] w fun e w' => e = .returned (.bool (ts.any fun u => u.parts x)) ∧ Below w.heap.size w w' := by
  have hmf := mf
  have hB3 : Below w.heap.size w ((w.alloc (.cells #[v0, .slice pt ts.length ct, v2, v3] 125)).alloc (.cells #[.int .i64 x] 3)) := (below1 _ _).alloc (by simp) _
  have hx : ((w.alloc (.cells #[v0, .slice pt ts.length ct, v2, v3] 125)).alloc (.cells #[.int .i64 x] 3)).heap[w.heap.size + 1]? = some (.cells #[.int .i64 x] 3 (0, 0)) := by
    have := heap_last (w.alloc (.cells #[v0, .slice pt ts.length ct, v2, v3] 125)) (.cells #[.int .i64 x] 3)
    rwa [World.size_alloc] at this
  have hcf := containsFuncT 171 entered_parts1 (.pointer (some ⟨w.heap.size + 1, 0, none⟩)) (fun u => u.parts x) ts pt ct _ hl (hT.below hB3) (fun W h u hu => parts1_any u x (w.heap.size + 1) W ((h.block _ (by simp)).trans hx))
  obtain ⟨kv, hkv⟩ : ∃ kv, kv = ts.any (fun u => u.parts x) := ⟨_, rfl⟩
  rw [← hkv] at hcf ⊢
  have HCF := Lib.hid hcf
  have HB3 := Lib.hid hB3
  clear hcf hx hB3 hT hkv
  go_enter Try.func160, Try.ntmps160
  go_wp2_with fail
  refine HCF.out.mono ?_
  rintro e w5 ⟨rfl, hB5⟩
  go_wp2
  go_ret
  exact ⟨rfl, join HB3.out hB5⟩
set_option maxHeartbeats 800000 in
theorem sureB_any (t : Text) (pw pt : Option Addr) (cw ct : Nat) (mf : Value) (a b : Nat) (hab : a ≤ b) (hb : b ≤ t.words.length) (w : World) (hW : WkAt w t pw pt cw) :
    Calls Try.prog 128 #[.agg #[.slice pw t.words.length cw, .slice pt t.turns.length ct, .int .i64 t.breath, mf], .int .i64 a, .int .i64 b] w fun e w' => e = .returned (.bool (t.sureB a b)) ∧ Below w.heap.size w w' := by
  have HR := Lib.hid (fun W (h : Below w.heap.size w W) => right_any t pw pt cw ct mf a b hab hb W (hW.below h))
  have hm6 := hW.ok.m6
  have HP := Lib.hid (fun (x : Int) W (h : Below w.heap.size w W) => parts_any t.turns (by omega) x pt ct (.slice pw t.words.length cw) (.int .i64 t.breath) mf W (hW.at_.turns.below h))
  have hsz : t.sureB a b = (t.right a b && !(t.turns.any fun u => u.parts a) && !(t.turns.any fun u => u.parts b)) := rfl
  clear hW
  obtain ⟨pa, hpa⟩ : ∃ pa, pa = t.turns.any (fun u => u.parts (a : Int)) := ⟨_, rfl⟩
  obtain ⟨pb, hpb⟩ : ∃ pb, pb = t.turns.any (fun u => u.parts (b : Int)) := ⟨_, rfl⟩
  obtain ⟨r, hr⟩ : ∃ r, r = t.right a b := ⟨_, rfl⟩
  have HPA := Lib.hid hpa
  have HPB := Lib.hid hpb
  have HRR := Lib.hid hr
  have HF : Hid (t.sureB a b = (r && !pa && !pb)) := Lib.hid (by rw [hpa, hpb, hr]; exact hsz)
  clear hpa hpb hr hsz
  go_enter Try.func128, Try.ntmps128
  go_wp2_with fail
  refine (HR.out _ (below1 _ _)).mono ?_
  rintro e w5 ⟨rfl, hB5⟩
  rw [← HRR.out]
  obtain ⟨hc5, hf5⟩ := bcell hB5
  have hz5 : w.heap.size < w5.heap.size := by have := hB5.size; simp at this; omega
  have HB5 := Lib.hid (join (below1 _ _) hB5)
  cases r with
  | false =>
    go_wp2
    go_ret
    exact ⟨ret_bool (by rw [HF.out]; rfl), HB5.out⟩
  | true =>
    clear hB5
    go_wp2_with fail
    refine (HP.out a _ HB5.out).mono ?_
    rintro e w6 ⟨rfl, hB6⟩
    rw [← HPA.out]
    obtain ⟨hc6, hf6⟩ := bcell hB6
    have hz6 : w.heap.size < w6.heap.size := by have := hB6.size; omega
    have HB6 := Lib.hid (join HB5.out hB6)
    cases pa with
    | true =>
      go_wp2
      go_ret
      exact ⟨ret_bool (by rw [HF.out]; rfl), HB6.out⟩
    | false =>
      clear hB6
      go_wp2_with fail
      refine (HP.out b _ HB6.out).mono ?_
      rintro e w7 ⟨rfl, hB7⟩
      rw [← HPB.out]
      go_wp2
      go_ret
      exact ⟨ret_bool (by rw [HF.out]; simp), join HB6.out hB7⟩
def spEv1 (pw : Option Addr) (n cw : Nat) (v1 v2 v3 : Value) (a b s m : Int) (r : Bool) : Nat → List Value → Value → World → Prop
  | 0, _, v, _ => v = .agg #[.slice pw n cw, v1, v2, v3]
  | 1, _, v, _ => v = .int .i64 a
  | 2, _, v, _ => v = .int .i64 b
  | 3, _, v, _ => v = .int .i64 s
  | 4, _, v, _ => v = .int .i64 m
  | 5, _, v, _ => v = .bool true
  | 6, _, v, _ => v = .bool true
  | 7, _, v, _ => v = .agg #[.slice pw n cw, v1, v2, v3]
  | 8, _, v, _ => v = .int .i64 a
  | 9, _, v, _ => v = .int .i64 b
  | 10, _, v, _ => v = .bool r
  | 11, _, v, _ => v = .bool r
  | 12, _, v, _ => v = .bool r
  | _, _, _, _ => False
theorem spEv1_stable (pw : Option Addr) (n cw : Nat) (v1 v2 v3 : Value) (a b s m : Int) (r : Bool) : ∀ i L v w w', spEv1 pw n cw v1 v2 v3 a b s m r i L v w → Rs.Gr w w' → spEv1 pw n cw v1 v2 v3 a b s m r i L v w' := by
  intro i L v w w' h hg
  match i with
  | 0 => exact h
  | 1 => exact h
  | 2 => exact h
  | 3 => exact h
  | 4 => exact h
  | 5 => exact h
  | 6 => exact h
  | 7 => exact h
  | 8 => exact h
  | 9 => exact h
  | 10 => exact h
  | 11 => exact h
  | 12 => exact h

def spEv0 (pw : Option Addr) (n cw : Nat) (v1 v2 v3 : Value) (a b s m : Int) (r : Bool) : Nat → List Value → Value → World → Prop
  | 0, _, v, _ => v = .agg #[.slice pw n cw, v1, v2, v3]
  | 1, _, v, _ => v = .int .i64 a
  | 2, _, v, _ => v = .int .i64 b
  | 3, _, v, _ => v = .int .i64 s
  | 4, _, v, _ => v = .int .i64 m
  | 5, _, v, _ => v = .bool false
  | 6, _, v, _ => v = .bool false
  | 7, _, v, _ => v = undef
  | 8, _, v, _ => v = undef
  | 9, _, v, _ => v = undef
  | 10, _, v, _ => v = undef
  | 11, _, v, _ => v = .bool false
  | 12, _, v, _ => v = .bool false
  | _, _, _, _ => False
theorem spEv0_stable (pw : Option Addr) (n cw : Nat) (v1 v2 v3 : Value) (a b s m : Int) (r : Bool) : ∀ i L v w w', spEv0 pw n cw v1 v2 v3 a b s m r i L v w → Rs.Gr w w' → spEv0 pw n cw v1 v2 v3 a b s m r i L v w' := by
  intro i L v w w' h hg
  match i with
  | 0 => exact h
  | 1 => exact h
  | 2 => exact h
  | 3 => exact h
  | 4 => exact h
  | 5 => exact h
  | 6 => exact h
  | 7 => exact h
  | 8 => exact h
  | 9 => exact h
  | 10 => exact h
  | 11 => exact h
  | 12 => exact h

set_option maxHeartbeats 1000000 in
set_option maxRecDepth 100000 in
theorem rightWithin1_any (t : Text) (pw pt : Option Addr) (cw ct : Nat) (mf : Value) (m : Int) (a b : Nat) (hab : a ≤ b) (hb : b ≤ t.words.length) (X Y : Nat) (w : World) (hW : WkAt w t pw pt cw)
    (hX : w.heap[X]? = some (.cells #[.slice pw t.words.length cw, .slice pt t.turns.length ct, .int .i64 t.breath, mf] 125 (0, 0))) (hY : w.heap[Y]? = some (.cells #[.int .i64 m] 3 (0, 0))) :
    Calls Try.prog 162 #[.int .i64 a, .int .i64 b, .pointer (some ⟨X, 0, none⟩), .pointer (some ⟨Y, 0, none⟩)] w fun e w' => e = .returned (.bool (t.within m a b)) ∧ Below w.heap.size w w' := by
  have HRT := Lib.hid (fun W (h : Below w.heap.size w W) => right_any t pw pt cw ct mf a b hab hb W (hW.below h))
  have HSY := Lib.hid (fun W (h : Below w.heap.size w W) => syl_any t hW.ok pw cw (.slice pt t.turns.length ct) (.int .i64 t.breath) mf a b hab hb hW.cap W (hW.at_.words.below h))
  have HX := Lib.hid hX
  have HY := Lib.hid hY
  have HXl := (Array.getElem?_eq_some_iff.1 hX).1
  have HYl := (Array.getElem?_eq_some_iff.1 hY).1
  have hF : t.within m a b = (decide (t.syl a b ≤ m) && t.right a b) := rfl
  have HF := Lib.hid hF
  clear hX hY hW hF
  by_cases hsm : t.syl a b ≤ m
  · have HSM := Lib.hid hsm
    go_enter Try.func162, Try.ntmps162
    go_wp2_with fail
    refine Rs.region_gen 13 [[], [], [], [0, 1, 2], [], [0, 1, 2, 3, 4], [0, 1, 2, 3, 4, 5], [0, 1, 2, 3, 4, 5, 6], [0, 1, 2, 3, 4, 5, 6], [0, 1, 2, 3, 4, 5, 6], [0, 1, 2, 3, 4, 5, 6, 7, 8, 9], [0, 1, 2, 3, 4, 5, 6, 7, 8, 9, 10], [0, 1, 2, 3, 4, 5, 6, 7, 8, 9, 10, 11]] [some 7, some 8, some 9, some 10, some 11, some 12, some 13, some 14, some 15, some 16, some 17, some 18, some 6] (spEv1 pw t.words.length cw (.slice pt t.turns.length ct) (.int .i64 t.breath) mf a b (t.syl a b) m (t.right a b)) (by kernel_rfl) (by kernel_rfl) rfl (spEv1_stable _ _ _ _ _ _ _ _ _ _ _) ?_ ?_
    · refine ⟨fun V w' hG hs => ?_, fun V w' hG hs => ?_, fun V w' hG hs => ?_, fun V w' hG hs => ?_, fun V w' hG hs => ?_, fun V w' hG hs => ?_, fun V w' hG hs => ?_, fun V w' hG hs => ?_, fun V w' hG hs => ?_, fun V w' hG hs => ?_, fun V w' hG hs => ?_, fun V w' hG hs => ?_, fun V w' hG hs => ?_, trivial⟩
      all_goals
        obtain ⟨k0, k1, k2, k3⟩ := blk4 ((hG.block X HXl).trans HX.out)
        have c0 := blk_cells ((hG.block Y HYl).trans HY.out) 0 _ rfl
      · rw [if_pos (by rfl)]
        exact Rs.GrowL.value (v := .agg #[.slice pw t.words.length cw, (.slice pt t.turns.length ct), (.int .i64 t.breath), mf]) (w' := w') (by simp [go_sem, Rs.look, k0, k1, k2, k3]) (Rs.Gr.refl _) rfl
      · rw [if_pos (by rfl)]
        exact Rs.GrowL.value (v := .int .i64 a) (w' := w') (by simp [go_sem, Rs.look]) (Rs.Gr.refl _) rfl
      · rw [if_pos (by rfl)]
        exact Rs.GrowL.value (v := .int .i64 b) (w' := w') (by simp [go_sem, Rs.look]) (Rs.Gr.refl _) rfl
      · have e0 : V 0 = .agg #[.slice pw t.words.length cw, (.slice pt t.turns.length ct), (.int .i64 t.breath), mf] := hs 0 (by simp)
        have e1 : V 1 = .int .i64 a := hs 1 (by simp)
        have e2 : V 2 = .int .i64 b := hs 2 (by simp)
        rw [if_pos (by rfl)]
        refine Rs.GrowL.call (f := 163) (args := #[.agg #[.slice pw t.words.length cw, .slice pt t.turns.length ct, .int .i64 t.breath, mf], .int .i64 a, .int .i64 b]) (by simp [go_sem, Rs.look, e0, e1, e2]) ?_
        refine (HSY.out w' hG).mono ?_
        rintro e w2 ⟨rfl, hB2⟩
        exact ⟨_, rfl, hB2, rfl⟩
      · rw [if_pos (by rfl)]
        exact Rs.GrowL.value (v := .int .i64 m) (w' := w') (by simp [go_sem, Rs.look, c0]) (Rs.Gr.refl _) rfl
      · have e0 : V 0 = .agg #[.slice pw t.words.length cw, (.slice pt t.turns.length ct), (.int .i64 t.breath), mf] := hs 0 (by simp)
        have e1 : V 1 = .int .i64 a := hs 1 (by simp)
        have e2 : V 2 = .int .i64 b := hs 2 (by simp)
        have e3 : V 3 = .int .i64 (t.syl a b) := hs 3 (by simp)
        have e4 : V 4 = .int .i64 m := hs 4 (by simp)
        rw [if_pos (by rfl)]
        exact Rs.GrowL.value (v := .bool true) (w' := w') (by simp [go_sem, Rs.look, e0, e1, e2, e3, e4, hsm]) (Rs.Gr.refl _) rfl
      · have e0 : V 0 = .agg #[.slice pw t.words.length cw, (.slice pt t.turns.length ct), (.int .i64 t.breath), mf] := hs 0 (by simp)
        have e1 : V 1 = .int .i64 a := hs 1 (by simp)
        have e2 : V 2 = .int .i64 b := hs 2 (by simp)
        have e3 : V 3 = .int .i64 (t.syl a b) := hs 3 (by simp)
        have e4 : V 4 = .int .i64 m := hs 4 (by simp)
        have e5 : V 5 = .bool true := hs 5 (by simp)
        rw [if_pos (by rfl)]
        exact Rs.GrowL.value (v := .bool true) (w' := w') (by simp [go_sem, Rs.look, e0, e1, e2, e3, e4, e5]) (Rs.Gr.refl _) rfl
      · have e0 : V 0 = .agg #[.slice pw t.words.length cw, (.slice pt t.turns.length ct), (.int .i64 t.breath), mf] := hs 0 (by simp)
        have e1 : V 1 = .int .i64 a := hs 1 (by simp)
        have e2 : V 2 = .int .i64 b := hs 2 (by simp)
        have e3 : V 3 = .int .i64 (t.syl a b) := hs 3 (by simp)
        have e4 : V 4 = .int .i64 m := hs 4 (by simp)
        have e5 : V 5 = .bool true := hs 5 (by simp)
        have e6 : V 6 = .bool true := hs 6 (by simp)
        rw [if_pos (by simp [Rs.wantB, e6])]
        exact Rs.GrowL.value (v := .agg #[.slice pw t.words.length cw, (.slice pt t.turns.length ct), (.int .i64 t.breath), mf]) (w' := w') (by simp [go_sem, Rs.look, e0, e1, e2, e3, e4, e5, e6, k0, k1, k2, k3]) (Rs.Gr.refl _) rfl
      · have e0 : V 0 = .agg #[.slice pw t.words.length cw, (.slice pt t.turns.length ct), (.int .i64 t.breath), mf] := hs 0 (by simp)
        have e1 : V 1 = .int .i64 a := hs 1 (by simp)
        have e2 : V 2 = .int .i64 b := hs 2 (by simp)
        have e3 : V 3 = .int .i64 (t.syl a b) := hs 3 (by simp)
        have e4 : V 4 = .int .i64 m := hs 4 (by simp)
        have e5 : V 5 = .bool true := hs 5 (by simp)
        have e6 : V 6 = .bool true := hs 6 (by simp)
        rw [if_pos (by simp [Rs.wantB, e6])]
        exact Rs.GrowL.value (v := .int .i64 a) (w' := w') (by simp [go_sem, Rs.look, e0, e1, e2, e3, e4, e5, e6]) (Rs.Gr.refl _) rfl
      · have e0 : V 0 = .agg #[.slice pw t.words.length cw, (.slice pt t.turns.length ct), (.int .i64 t.breath), mf] := hs 0 (by simp)
        have e1 : V 1 = .int .i64 a := hs 1 (by simp)
        have e2 : V 2 = .int .i64 b := hs 2 (by simp)
        have e3 : V 3 = .int .i64 (t.syl a b) := hs 3 (by simp)
        have e4 : V 4 = .int .i64 m := hs 4 (by simp)
        have e5 : V 5 = .bool true := hs 5 (by simp)
        have e6 : V 6 = .bool true := hs 6 (by simp)
        rw [if_pos (by simp [Rs.wantB, e6])]
        exact Rs.GrowL.value (v := .int .i64 b) (w' := w') (by simp [go_sem, Rs.look, e0, e1, e2, e3, e4, e5, e6]) (Rs.Gr.refl _) rfl
      · have e0 : V 0 = .agg #[.slice pw t.words.length cw, (.slice pt t.turns.length ct), (.int .i64 t.breath), mf] := hs 0 (by simp)
        have e1 : V 1 = .int .i64 a := hs 1 (by simp)
        have e2 : V 2 = .int .i64 b := hs 2 (by simp)
        have e3 : V 3 = .int .i64 (t.syl a b) := hs 3 (by simp)
        have e4 : V 4 = .int .i64 m := hs 4 (by simp)
        have e5 : V 5 = .bool true := hs 5 (by simp)
        have e6 : V 6 = .bool true := hs 6 (by simp)
        have e7 : V 7 = .agg #[.slice pw t.words.length cw, (.slice pt t.turns.length ct), (.int .i64 t.breath), mf] := hs 7 (by simp)
        have e8 : V 8 = .int .i64 a := hs 8 (by simp)
        have e9 : V 9 = .int .i64 b := hs 9 (by simp)
        rw [if_pos (by simp [Rs.wantB, e6])]
        refine Rs.GrowL.call (f := 138) (args := #[.agg #[.slice pw t.words.length cw, .slice pt t.turns.length ct, .int .i64 t.breath, mf], .int .i64 a, .int .i64 b]) (by simp [go_sem, Rs.look, e7, e8, e9]) ?_
        refine (HRT.out w' hG).mono ?_
        rintro e w2 ⟨rfl, hB2⟩
        exact ⟨_, rfl, hB2, rfl⟩
      · have e0 : V 0 = .agg #[.slice pw t.words.length cw, (.slice pt t.turns.length ct), (.int .i64 t.breath), mf] := hs 0 (by simp)
        have e1 : V 1 = .int .i64 a := hs 1 (by simp)
        have e2 : V 2 = .int .i64 b := hs 2 (by simp)
        have e3 : V 3 = .int .i64 (t.syl a b) := hs 3 (by simp)
        have e4 : V 4 = .int .i64 m := hs 4 (by simp)
        have e5 : V 5 = .bool true := hs 5 (by simp)
        have e6 : V 6 = .bool true := hs 6 (by simp)
        have e7 : V 7 = .agg #[.slice pw t.words.length cw, (.slice pt t.turns.length ct), (.int .i64 t.breath), mf] := hs 7 (by simp)
        have e8 : V 8 = .int .i64 a := hs 8 (by simp)
        have e9 : V 9 = .int .i64 b := hs 9 (by simp)
        have e10 : V 10 = .bool (t.right a b) := hs 10 (by simp)
        rw [if_pos (by rfl)]
        exact Rs.GrowL.value (v := .bool (t.right a b)) (w' := w') (by simp [go_sem, Rs.look, e0, e1, e2, e3, e4, e5, e6, e7, e8, e9, e10]) (Rs.Gr.refl _) rfl
      · have e0 : V 0 = .agg #[.slice pw t.words.length cw, (.slice pt t.turns.length ct), (.int .i64 t.breath), mf] := hs 0 (by simp)
        have e1 : V 1 = .int .i64 a := hs 1 (by simp)
        have e2 : V 2 = .int .i64 b := hs 2 (by simp)
        have e3 : V 3 = .int .i64 (t.syl a b) := hs 3 (by simp)
        have e4 : V 4 = .int .i64 m := hs 4 (by simp)
        have e5 : V 5 = .bool true := hs 5 (by simp)
        have e6 : V 6 = .bool true := hs 6 (by simp)
        have e7 : V 7 = .agg #[.slice pw t.words.length cw, (.slice pt t.turns.length ct), (.int .i64 t.breath), mf] := hs 7 (by simp)
        have e8 : V 8 = .int .i64 a := hs 8 (by simp)
        have e9 : V 9 = .int .i64 b := hs 9 (by simp)
        have e10 : V 10 = .bool (t.right a b) := hs 10 (by simp)
        have e11 : V 11 = .bool (t.right a b) := hs 11 (by simp)
        rw [if_pos (by rfl)]
        exact Rs.GrowL.value (v := .bool (t.right a b)) (w' := w') (by simp [go_sem, Rs.look, e0, e1, e2, e3, e4, e5, e6, e7, e8, e9, e10, e11]) (Rs.Gr.refl _) rfl
    · intro V w' hG hs
      have e0 : V 0 = .agg #[.slice pw t.words.length cw, (.slice pt t.turns.length ct), (.int .i64 t.breath), mf] := hs 0 (by omega)
      have e1 : V 1 = .int .i64 a := hs 1 (by omega)
      have e2 : V 2 = .int .i64 b := hs 2 (by omega)
      have e3 : V 3 = .int .i64 (t.syl a b) := hs 3 (by omega)
      have e4 : V 4 = .int .i64 m := hs 4 (by omega)
      have e5 : V 5 = .bool true := hs 5 (by omega)
      have e6 : V 6 = .bool true := hs 6 (by omega)
      have e7 : V 7 = .agg #[.slice pw t.words.length cw, (.slice pt t.turns.length ct), (.int .i64 t.breath), mf] := hs 7 (by omega)
      have e8 : V 8 = .int .i64 a := hs 8 (by omega)
      have e9 : V 9 = .int .i64 b := hs 9 (by omega)
      have e10 : V 10 = .bool (t.right a b) := hs 10 (by omega)
      have e11 : V 11 = .bool (t.right a b) := hs 11 (by omega)
      have e12 : V 12 = .bool (t.right a b) := hs 12 (by omega)
      simp only [Rs.canon, Rs.dstOf, List.range_succ, List.range_zero, List.nil_append, List.cons_append, List.foldl_cons, List.foldl_nil, List.drop_succ_cons, List.drop_zero, List.drop_nil, List.getElem?_toArray, List.getElem?_cons_succ, List.getElem?_cons_zero, Option.bind_some, Act.put, List.getD_cons_succ, List.getD_cons_zero, List.setIfInBounds_toArray, List.set_cons_succ, List.set_cons_zero]
      rw [e0, e1, e2, e3, e4, e5, e6, e7, e8, e9, e10, e11, e12]
      clear e0 e1 e2 e3 e4 e5 e6 e7 e8 e9 e10 e11 e12 hs
      go_wp2
      go_ret
      exact ⟨ret_bool (by rw [HF.out]; simp [HSM.out]), hG⟩
  · have HSM := Lib.hid hsm
    go_enter Try.func162, Try.ntmps162
    go_wp2_with fail
    refine Rs.region_gen 13 [[], [], [], [0, 1, 2], [], [0, 1, 2, 3, 4], [0, 1, 2, 3, 4, 5], [0, 1, 2, 3, 4, 5, 6], [0, 1, 2, 3, 4, 5, 6], [0, 1, 2, 3, 4, 5, 6], [0, 1, 2, 3, 4, 5, 6, 7, 8, 9], [0, 1, 2, 3, 4, 5, 6, 7, 8, 9, 10], [0, 1, 2, 3, 4, 5, 6, 7, 8, 9, 10, 11]] [some 7, some 8, some 9, some 10, some 11, some 12, some 13, some 14, some 15, some 16, some 17, some 18, some 6] (spEv0 pw t.words.length cw (.slice pt t.turns.length ct) (.int .i64 t.breath) mf a b (t.syl a b) m (t.right a b)) (by kernel_rfl) (by kernel_rfl) rfl (spEv0_stable _ _ _ _ _ _ _ _ _ _ _) ?_ ?_
    · refine ⟨fun V w' hG hs => ?_, fun V w' hG hs => ?_, fun V w' hG hs => ?_, fun V w' hG hs => ?_, fun V w' hG hs => ?_, fun V w' hG hs => ?_, fun V w' hG hs => ?_, fun V w' hG hs => ?_, fun V w' hG hs => ?_, fun V w' hG hs => ?_, fun V w' hG hs => ?_, fun V w' hG hs => ?_, fun V w' hG hs => ?_, trivial⟩
      all_goals
        obtain ⟨k0, k1, k2, k3⟩ := blk4 ((hG.block X HXl).trans HX.out)
        have c0 := blk_cells ((hG.block Y HYl).trans HY.out) 0 _ rfl
      · rw [if_pos (by rfl)]
        exact Rs.GrowL.value (v := .agg #[.slice pw t.words.length cw, (.slice pt t.turns.length ct), (.int .i64 t.breath), mf]) (w' := w') (by simp [go_sem, Rs.look, k0, k1, k2, k3]) (Rs.Gr.refl _) rfl
      · rw [if_pos (by rfl)]
        exact Rs.GrowL.value (v := .int .i64 a) (w' := w') (by simp [go_sem, Rs.look]) (Rs.Gr.refl _) rfl
      · rw [if_pos (by rfl)]
        exact Rs.GrowL.value (v := .int .i64 b) (w' := w') (by simp [go_sem, Rs.look]) (Rs.Gr.refl _) rfl
      · have e0 : V 0 = .agg #[.slice pw t.words.length cw, (.slice pt t.turns.length ct), (.int .i64 t.breath), mf] := hs 0 (by simp)
        have e1 : V 1 = .int .i64 a := hs 1 (by simp)
        have e2 : V 2 = .int .i64 b := hs 2 (by simp)
        rw [if_pos (by rfl)]
        refine Rs.GrowL.call (f := 163) (args := #[.agg #[.slice pw t.words.length cw, .slice pt t.turns.length ct, .int .i64 t.breath, mf], .int .i64 a, .int .i64 b]) (by simp [go_sem, Rs.look, e0, e1, e2]) ?_
        refine (HSY.out w' hG).mono ?_
        rintro e w2 ⟨rfl, hB2⟩
        exact ⟨_, rfl, hB2, rfl⟩
      · rw [if_pos (by rfl)]
        exact Rs.GrowL.value (v := .int .i64 m) (w' := w') (by simp [go_sem, Rs.look, c0]) (Rs.Gr.refl _) rfl
      · have e0 : V 0 = .agg #[.slice pw t.words.length cw, (.slice pt t.turns.length ct), (.int .i64 t.breath), mf] := hs 0 (by simp)
        have e1 : V 1 = .int .i64 a := hs 1 (by simp)
        have e2 : V 2 = .int .i64 b := hs 2 (by simp)
        have e3 : V 3 = .int .i64 (t.syl a b) := hs 3 (by simp)
        have e4 : V 4 = .int .i64 m := hs 4 (by simp)
        rw [if_pos (by rfl)]
        exact Rs.GrowL.value (v := .bool false) (w' := w') (by simp [go_sem, Rs.look, e0, e1, e2, e3, e4, hsm]) (Rs.Gr.refl _) rfl
      · have e0 : V 0 = .agg #[.slice pw t.words.length cw, (.slice pt t.turns.length ct), (.int .i64 t.breath), mf] := hs 0 (by simp)
        have e1 : V 1 = .int .i64 a := hs 1 (by simp)
        have e2 : V 2 = .int .i64 b := hs 2 (by simp)
        have e3 : V 3 = .int .i64 (t.syl a b) := hs 3 (by simp)
        have e4 : V 4 = .int .i64 m := hs 4 (by simp)
        have e5 : V 5 = .bool false := hs 5 (by simp)
        rw [if_pos (by rfl)]
        exact Rs.GrowL.value (v := .bool false) (w' := w') (by simp [go_sem, Rs.look, e0, e1, e2, e3, e4, e5]) (Rs.Gr.refl _) rfl
      · have e0 : V 0 = .agg #[.slice pw t.words.length cw, (.slice pt t.turns.length ct), (.int .i64 t.breath), mf] := hs 0 (by simp)
        have e1 : V 1 = .int .i64 a := hs 1 (by simp)
        have e2 : V 2 = .int .i64 b := hs 2 (by simp)
        have e3 : V 3 = .int .i64 (t.syl a b) := hs 3 (by simp)
        have e4 : V 4 = .int .i64 m := hs 4 (by simp)
        have e5 : V 5 = .bool false := hs 5 (by simp)
        have e6 : V 6 = .bool false := hs 6 (by simp)
        rw [if_neg (by simp [Rs.wantB, e6])]
        rfl
      · have e0 : V 0 = .agg #[.slice pw t.words.length cw, (.slice pt t.turns.length ct), (.int .i64 t.breath), mf] := hs 0 (by simp)
        have e1 : V 1 = .int .i64 a := hs 1 (by simp)
        have e2 : V 2 = .int .i64 b := hs 2 (by simp)
        have e3 : V 3 = .int .i64 (t.syl a b) := hs 3 (by simp)
        have e4 : V 4 = .int .i64 m := hs 4 (by simp)
        have e5 : V 5 = .bool false := hs 5 (by simp)
        have e6 : V 6 = .bool false := hs 6 (by simp)
        rw [if_neg (by simp [Rs.wantB, e6])]
        rfl
      · have e0 : V 0 = .agg #[.slice pw t.words.length cw, (.slice pt t.turns.length ct), (.int .i64 t.breath), mf] := hs 0 (by simp)
        have e1 : V 1 = .int .i64 a := hs 1 (by simp)
        have e2 : V 2 = .int .i64 b := hs 2 (by simp)
        have e3 : V 3 = .int .i64 (t.syl a b) := hs 3 (by simp)
        have e4 : V 4 = .int .i64 m := hs 4 (by simp)
        have e5 : V 5 = .bool false := hs 5 (by simp)
        have e6 : V 6 = .bool false := hs 6 (by simp)
        rw [if_neg (by simp [Rs.wantB, e6])]
        rfl
      · have e0 : V 0 = .agg #[.slice pw t.words.length cw, (.slice pt t.turns.length ct), (.int .i64 t.breath), mf] := hs 0 (by simp)
        have e1 : V 1 = .int .i64 a := hs 1 (by simp)
        have e2 : V 2 = .int .i64 b := hs 2 (by simp)
        have e3 : V 3 = .int .i64 (t.syl a b) := hs 3 (by simp)
        have e4 : V 4 = .int .i64 m := hs 4 (by simp)
        have e5 : V 5 = .bool false := hs 5 (by simp)
        have e6 : V 6 = .bool false := hs 6 (by simp)
        have e7 : V 7 = undef := hs 7 (by simp)
        have e8 : V 8 = undef := hs 8 (by simp)
        have e9 : V 9 = undef := hs 9 (by simp)
        rw [if_neg (by simp [Rs.wantB, e6])]
        rfl
      · have e0 : V 0 = .agg #[.slice pw t.words.length cw, (.slice pt t.turns.length ct), (.int .i64 t.breath), mf] := hs 0 (by simp)
        have e1 : V 1 = .int .i64 a := hs 1 (by simp)
        have e2 : V 2 = .int .i64 b := hs 2 (by simp)
        have e3 : V 3 = .int .i64 (t.syl a b) := hs 3 (by simp)
        have e4 : V 4 = .int .i64 m := hs 4 (by simp)
        have e5 : V 5 = .bool false := hs 5 (by simp)
        have e6 : V 6 = .bool false := hs 6 (by simp)
        have e7 : V 7 = undef := hs 7 (by simp)
        have e8 : V 8 = undef := hs 8 (by simp)
        have e9 : V 9 = undef := hs 9 (by simp)
        have e10 : V 10 = undef := hs 10 (by simp)
        rw [if_pos (by rfl)]
        exact Rs.GrowL.value (v := .bool false) (w' := w') (by simp [go_sem, Rs.look, e0, e1, e2, e3, e4, e5, e6, e7, e8, e9, e10]) (Rs.Gr.refl _) rfl
      · have e0 : V 0 = .agg #[.slice pw t.words.length cw, (.slice pt t.turns.length ct), (.int .i64 t.breath), mf] := hs 0 (by simp)
        have e1 : V 1 = .int .i64 a := hs 1 (by simp)
        have e2 : V 2 = .int .i64 b := hs 2 (by simp)
        have e3 : V 3 = .int .i64 (t.syl a b) := hs 3 (by simp)
        have e4 : V 4 = .int .i64 m := hs 4 (by simp)
        have e5 : V 5 = .bool false := hs 5 (by simp)
        have e6 : V 6 = .bool false := hs 6 (by simp)
        have e7 : V 7 = undef := hs 7 (by simp)
        have e8 : V 8 = undef := hs 8 (by simp)
        have e9 : V 9 = undef := hs 9 (by simp)
        have e10 : V 10 = undef := hs 10 (by simp)
        have e11 : V 11 = .bool false := hs 11 (by simp)
        rw [if_pos (by rfl)]
        exact Rs.GrowL.value (v := .bool false) (w' := w') (by simp [go_sem, Rs.look, e0, e1, e2, e3, e4, e5, e6, e7, e8, e9, e10, e11]) (Rs.Gr.refl _) rfl
    · intro V w' hG hs
      have e0 : V 0 = .agg #[.slice pw t.words.length cw, (.slice pt t.turns.length ct), (.int .i64 t.breath), mf] := hs 0 (by omega)
      have e1 : V 1 = .int .i64 a := hs 1 (by omega)
      have e2 : V 2 = .int .i64 b := hs 2 (by omega)
      have e3 : V 3 = .int .i64 (t.syl a b) := hs 3 (by omega)
      have e4 : V 4 = .int .i64 m := hs 4 (by omega)
      have e5 : V 5 = .bool false := hs 5 (by omega)
      have e6 : V 6 = .bool false := hs 6 (by omega)
      have e7 : V 7 = undef := hs 7 (by omega)
      have e8 : V 8 = undef := hs 8 (by omega)
      have e9 : V 9 = undef := hs 9 (by omega)
      have e10 : V 10 = undef := hs 10 (by omega)
      have e11 : V 11 = .bool false := hs 11 (by omega)
      have e12 : V 12 = .bool false := hs 12 (by omega)
      simp only [Rs.canon, Rs.dstOf, List.range_succ, List.range_zero, List.nil_append, List.cons_append, List.foldl_cons, List.foldl_nil, List.drop_succ_cons, List.drop_zero, List.drop_nil, List.getElem?_toArray, List.getElem?_cons_succ, List.getElem?_cons_zero, Option.bind_some, Act.put, List.getD_cons_succ, List.getD_cons_zero, List.setIfInBounds_toArray, List.set_cons_succ, List.set_cons_zero]
      rw [e0, e1, e2, e3, e4, e5, e6, e7, e8, e9, e10, e11, e12]
      clear e0 e1 e2 e3 e4 e5 e6 e7 e8 e9 e10 e11 e12 hs
      go_wp2
      go_ret
      exact ⟨ret_bool (by rw [HF.out, decide_eq_false (Int.not_le.2 HSM.out)]; rfl), hG⟩
theorem entered_rightWithin1 : Entered 162 := fun args W => by kernel_rfl
theorem rightWithin_any (v0 v1 v2 v3 : Value) (m : Int) (w : World) :
    Calls Try.prog 132 #[.agg #[v0, v1, v2, v3], .int .i64 m] w fun e w' => e = .returned (.func (.func 162) #[] #[.pointer (some ⟨w.heap.size, 0, none⟩), .pointer (some ⟨w.heap.size + 1, 0, none⟩)]) ∧ w' = (w.alloc (.cells #[v0, v1, v2, v3] 125)).alloc (.cells #[.int .i64 m] 3) := by
  have hmf := mf
  go_enter Try.func132, Try.ntmps132
  go_wp2
  go_ret
  exact ⟨by simp, rfl⟩
theorem entered_sure : Entered 128 := fun args W => by kernel_rfl
theorem sure_may (t : Text) (pw pt : Option Addr) (cw ct : Nat) (mf : Value) (w : World) (hW : WkAt w t pw pt cw) :
    MayAt (.func (.func 128) #[.agg #[.slice pw t.words.length cw, .slice pt t.turns.length ct, .int .i64 t.breath, mf]] #[]) t.sureB t.words.length (fun k => k < w.heap.size) w :=
  ⟨128, _, _, rfl, entered_sure, fun W hH a b hab hb => sureB_any t pw pt cw ct mf a b (by omega) hb W ⟨hW.ok, hW.at_.hold hH (fun k hk => hk), hW.cap⟩⟩
theorem within_may (t : Text) (pw pt : Option Addr) (cw ct : Nat) (mf : Value) (m : Int) (X Y : Nat) (w : World) (hW : WkAt w t pw pt cw)
    (hX : w.heap[X]? = some (.cells #[.slice pw t.words.length cw, .slice pt t.turns.length ct, .int .i64 t.breath, mf] 125 (0, 0))) (hY : w.heap[Y]? = some (.cells #[.int .i64 m] 3 (0, 0))) :
    MayAt (.func (.func 162) #[] #[.pointer (some ⟨X, 0, none⟩), .pointer (some ⟨Y, 0, none⟩)]) (t.within m) t.words.length (fun k => k < w.heap.size) w := by
  have hXl := (Array.getElem?_eq_some_iff.1 hX).1
  have hYl := (Array.getElem?_eq_some_iff.1 hY).1
  refine ⟨162, _, _, rfl, entered_rightWithin1, fun W hH a b hab hb => ?_⟩
  exact rightWithin1_any t pw pt cw ct mf m a b (by omega) hb X Y W ⟨hW.ok, hW.at_.hold hH (fun k hk => hk), hW.cap⟩ ((hH.same X hXl hXl).trans hX) ((hH.same Y hYl hYl).trans hY)
/-- what Surest tells -/
def surL (t : Text) : List Int := if t.err = 0 then (Tx.fewest t.sureB t.words.length).1 else []
def surE (t : Text) : Int := if t.err = 0 then (Tx.fewest t.sureB t.words.length).2 else t.err
set_option maxHeartbeats 800000 in
theorem Surest_any (t : Text) (hl1 : t.words.length ≤ 1000000) (hl2 : t.turns.length ≤ 1000000) (pw pt : Option Addr) (cw ct : Nat) (hcw : t.words.length ≤ cw ∧ cw ≤ maxLen) (w : World) (hW : TxAt w t pw pt) :
    Calls Try.prog 56 #[.agg #[.slice pw t.words.length cw, .slice pt t.turns.length ct, .int .i64 t.breath]] w (ListPost (surL t) (surE t) w) := by
  have hmf := mf
  by_cases he : t.err = 0
  · have ok := err_ok he
    have h1 : surL t = (Tx.fewest t.sureB t.words.length).1 := if_pos he
    have h2 : surE t = (Tx.fewest t.sureB t.words.length).2 := if_pos he
    rw [h1, h2]
    have HS := Lib.hid (fun W (h : Below w.heap.size w W) => open_ok t he pw pt cw ct W (hW.below h))
    have HF := Lib.hid (fun mv W (h : Below w.heap.size w W) => fewest_any t.sureB t.words.length cw ok.n1 ok.n12 pw (.slice pt t.turns.length ct) (.int .i64 t.breath) _ W (sure_may t pw pt cw ct mv W ⟨ok, hW.below h, hcw⟩))
    clear hW he h1 h2 ok
    go_enter Try.func56, Try.ntmps56
    go_wp2_with fail
    refine (HS.out _ (below1 _ _)).mono ?_
    rintro e w5 ⟨rfl, hB5⟩
    have HB5 := Lib.hid (join (below1 _ _) hB5)
    clear hB5
    go_wp2_with fail
    refine (HF.out _ _ ?_).mono ?_
    · exact join HB5.out (below1 _ _)
    rintro e w6 ⟨v, rfl, hown, hB6⟩
    have HO := Lib.hid hown
    have HB6 := Lib.hid hB6
    clear hown hB6
    go_wp2
    go_ret2
    have hz := HB5.out.size
    exact ⟨_, rfl, own_base HO.out (by simp; omega), join (join HB5.out (below1 _ _)) HB6.out⟩
  · have h1 : surL t = [] := if_neg he
    have h2 : surE t = t.err := if_neg he
    rw [h1, h2]
    have HS := Lib.hid (fun W (h : Below w.heap.size w W) => open_bad t he hl1 hl2 pw pt cw ct W (hW.below h))
    have HE : (t.err != 0) = true := by simpa using he
    clear hW he h1 h2
    generalize t.err = er at HE HS ⊢
    go_enter Try.func56, Try.ntmps56
    go_wp2_with fail
    refine (HS.out _ (below1 _ _)).mono ?_
    rintro e w5 ⟨rfl, hB5⟩
    have HB5 := Lib.hid (join (below1 _ _) hB5)
    clear hB5
    go_wp2
    go_ret2
    exact ⟨_, rfl, own_none _ _ _ _, join HB5.out (below1 _ _)⟩
end Go.Proofs.Ytadnggecnjdhiaa
set_option linter.unusedSimpArgs false
set_option linter.unusedVariables false
namespace Go.Proofs.Ytadnggecnjdhiaa
open Go.RowKit Tx

/-- a list that is told, as it can be read -/
def RdPost (l : List Int) (er : Int) (w : World) (e : Ending) (w' : World) : Prop := ∃ p c, e = .returned (.tuple #[.slice p l.length c, .int .i64 er]) ∧ Ints w' p l ∧ Below w.heap.size w w'
def markL (t : Text) : List Int := if fewE t = 0 then (greatest t.right t.words.length).take (t.words.length + 1) else []
theorem fewE_dec {t : Text} (he : t.err = 0) : fewE t = if (greatest t.right t.words.length).getD t.words.length 0 < 99 then 0 else 6 := by
  unfold fewE fewest
  rw [if_pos he]
  split <;> rfl
theorem A_arr13 : Try.prog.underlying 143 = some (.array (Try.prog.arrayLen 143) (Try.prog.elem 143)) := by kernel_rfl
theorem A_len13 : Try.prog.arrayLen 143 = 13 := by kernel_rfl
theorem A_siz13 (W : World) : (sizeOf (Try.prog.elem 143)).run Try.prog W = .ok 1 W := by kernel_rfl
theorem slice_marks (n : Nat) (hn : n ≤ 13) (g : Nat) (W : World) : (Instr.sliceAt 143 (.pointer (some ⟨g, 0, none⟩)) none (some (.int .i64 (n : Int))) none).run Try.prog W = .ok (.slice (some ⟨g, 0, none⟩) n 13) W := by
  rw [run_sliceAt_array_h W 143 ⟨g, 0, none⟩ A_arr13 .i64 (n : Int) (by omega) (by rw [A_len13]; omega), A_siz13, A_len13]
  simp only [Result.andThen_ok, slicedAt, Int.toNat_natCast]
  congr 1
set_option maxHeartbeats 2000000 in
set_option maxRecDepth 100000 in
theorem Marks_any (t : Text) (hl1 : t.words.length ≤ 1000000) (hl2 : t.turns.length ≤ 1000000) (pw pt : Option Addr) (cw ct : Nat) (hcw : t.words.length ≤ cw ∧ cw ≤ maxLen) (w : World) (hW : TxAt w t pw pt) :
    Calls Try.prog 38 #[.agg #[.slice pw t.words.length cw, .slice pt t.turns.length ct, .int .i64 t.breath]] w (RdPost (markL t) (fewE t) w) := by
  by_cases he : t.err = 0
  · have ok := err_ok he
    have hn := ok.n12
    have HFE := Lib.hid (fewE_dec he)
    have HS := Lib.hid (fun W (h : Below w.heap.size w W) => open_ok t he pw pt cw ct W (hW.below h))
    have HG := Lib.hid (fun W (h : Below w.heap.size w W) => greatest_any t.right t.words.length cw hn pw (.slice pt t.turns.length ct) (.int .i64 t.breath) _ W (right_may t pw pt cw ct .nilFunc W ⟨ok, hW.below h, hcw⟩))
    have HSM := Lib.hid (greatest_small (may := t.right) hn)
    clear hW he ok
    go_enter Try.func38, Try.ntmps38
    go_wp2_with fail
    refine (HS.out _ (below1 _ _)).mono ?_
    rintro e w5 ⟨rfl, hB5⟩
    have HB5 := Lib.hid (join (below1 _ _) hB5)
    have hz5 : w.heap.size < w5.heap.size := by have := hB5.size; simp at this; omega
    clear hB5
    go_wp2_with fail
    refine (HG.out _ (join HB5.out (below1 _ _))).mono ?_
    rintro e W1 ⟨rfl, hB1⟩
    have hz1' : w5.heap.size + 1 ≤ W1.heap.size := by have := hB1.size; simp at this; omega
    have HX1 := Lib.hid ((hB1.block w5.heap.size (by simp)).trans (heap_last w5 _))
    have HB1 := Lib.hid (join (join HB5.out (below1 _ _)) hB1)
    have hsz : (arrOf (greatest t.right t.words.length)).size = 13 := by rw [arrOf_size]; exact HSM.out.1
    have HI := Lib.hid (size_marks hsz)
    have HON := Lib.hid (arrOf_one (greatest t.right t.words.length))
    obtain ⟨mv, hmv⟩ : ∃ mv, mv = Value.func (.func 138) #[.agg #[.slice pw t.words.length cw, .slice pt t.turns.length ct, .int .i64 t.breath, .nilFunc]] #[] := ⟨_, rfl⟩
    rw [← hmv] at HX1
    have HRE := Lib.hid (fun W => reached_any (.slice pw t.words.length cw) (.slice pt t.turns.length ct) (.int .i64 t.breath) mv (greatest t.right t.words.length) HSM.out.1 t.words.length (by omega) W)
    rw [← hmv]
    clear hB1 hmv
    obtain ⟨BA, hBA⟩ : ∃ BA, BA = arrOf (greatest t.right t.words.length) := ⟨_, rfl⟩
    rw [← hBA] at HI HON HRE hsz ⊢
    have HBA := Lib.hid hBA
    have HSZ := Lib.hid hsz
    clear hBA hsz
    go_wp2_with (with_reducible refine wpList_store_new rfl 143 _ _ rfl _ BA rfl rfl HI.out ?hs HON.out ?_)
    case hs => rw [HSZ.out]; rfl
    have HM := Lib.hid (heap_last W1 (.cells BA 143))
    have HX := Lib.hid ((Below.heap_alloc W1 (.cells BA 143) _ (show w5.heap.size < W1.heap.size by omega)).trans HX1.out)
    have HB2 := Lib.hid (join HB1.out (below1 W1 (.cells BA 143)))
    have hz2' : (W1.alloc (.cells BA 143)).heap.size = W1.heap.size + 1 := by simp
    generalize hW2 : W1.alloc (.cells BA 143) = W2 at HM HX HB2 hz2' ⊢
    clear hW2
    refine Rs.region_gen 6 [[], [], [], [2], [0, 1, 2, 3], [0, 1, 2, 3, 4]] [some 17, some 18, some 19, some 20, some 21, some 22] (spFe pw t.words.length cw (.slice pt t.turns.length ct) (.int .i64 t.breath) mv BA (decide ((greatest t.right t.words.length).getD t.words.length 0 < 99))) (by kernel_rfl) (by kernel_rfl) rfl (spFe_stable _ _ _ _ _ _ _ _) ?_ ?_
    · refine ⟨fun V w' hG hs => ?_, fun V w' hG hs => ?_, fun V w' hG hs => ?_, fun V w' hG hs => ?_, fun V w' hG hs => ?_, fun V w' hG hs => ?_, trivial⟩
      all_goals
        have hm := (hG.block W1.heap.size (by omega)).trans HM.out
        have hx := (hG.block w5.heap.size (by omega)).trans HX.out
        have k0 := blk_cells hx 0 _ rfl
        have k1 := blk_cells hx 1 _ rfl
        have k2 := blk_cells hx 2 _ rfl
        have k3 := blk_cells hx 3 _ rfl
      · rw [if_pos (by rfl)]
        exact Rs.GrowL.value (v := .agg #[.slice pw t.words.length cw, .slice pt t.turns.length ct, .int .i64 t.breath, mv]) (w' := w') (by simp [go_sem, Rs.look, k0, k1, k2, k3]) (Rs.Gr.refl _) rfl
      · rw [if_pos (by rfl)]
        exact Rs.GrowL.value (v := .agg BA) (w' := w') (exec_load_row 143 _ rfl W1.heap.size rfl 143 BA (0, 0) _ hm und_marks rfl HI.out) (Rs.Gr.refl _) rfl
      · rw [if_pos (by rfl)]
        exact Rs.GrowL.value (v := .agg #[.slice pw t.words.length cw, .slice pt t.turns.length ct, .int .i64 t.breath, mv]) (w' := w') (by simp [go_sem, Rs.look, k0, k1, k2, k3]) (Rs.Gr.refl _) rfl
      · have e2 : V 2 = .agg #[.slice pw t.words.length cw, .slice pt t.turns.length ct, .int .i64 t.breath, mv] := hs 2 (by simp)
        rw [if_pos (by rfl)]
        refine Rs.GrowL.call (f := 104) (args := #[.agg #[.slice pw t.words.length cw, .slice pt t.turns.length ct, .int .i64 t.breath, mv]]) (by simp [go_sem, Rs.look, e2]) ?_
        refine (end_any _ _ _ _ _ _ _).mono ?_
        rintro e w2 ⟨rfl, rfl⟩
        exact ⟨_, rfl, below1 _ _, rfl⟩
      · have e0 : V 0 = .agg #[.slice pw t.words.length cw, .slice pt t.turns.length ct, .int .i64 t.breath, mv] := hs 0 (by simp)
        have e1 : V 1 = .agg BA := hs 1 (by simp)
        have e2 : V 2 = .agg #[.slice pw t.words.length cw, .slice pt t.turns.length ct, .int .i64 t.breath, mv] := hs 2 (by simp)
        have e3 : V 3 = .int .i64 t.words.length := hs 3 (by simp)
        rw [if_pos (by rfl)]
        refine Rs.GrowL.call (f := 109) (args := #[.agg #[.slice pw t.words.length cw, .slice pt t.turns.length ct, .int .i64 t.breath, mv], .agg BA, .int .i64 t.words.length]) (by simp [go_sem, Rs.look, e0, e1, e3]) ?_
        refine (HRE.out w').mono ?_
        rintro e w2 ⟨rfl, hB2⟩
        exact ⟨_, rfl, hB2, rfl⟩
      · have e0 : V 0 = .agg #[.slice pw t.words.length cw, .slice pt t.turns.length ct, .int .i64 t.breath, mv] := hs 0 (by simp)
        have e1 : V 1 = .agg BA := hs 1 (by simp)
        have e2 : V 2 = .agg #[.slice pw t.words.length cw, .slice pt t.turns.length ct, .int .i64 t.breath, mv] := hs 2 (by simp)
        have e3 : V 3 = .int .i64 t.words.length := hs 3 (by simp)
        have e4 : V 4 = .bool (decide ((greatest t.right t.words.length).getD t.words.length 0 < 99)) := hs 4 (by simp)
        rw [if_pos (by rfl)]
        exact Rs.GrowL.value (v := .bool (!(decide ((greatest t.right t.words.length).getD t.words.length 0 < 99)))) (w' := w') (by simp [go_sem, Rs.look, e0, e1, e2, e3, e4]) (Rs.Gr.refl _) rfl
    · intro V w' hG hs
      have e0 : V 0 = .agg #[.slice pw t.words.length cw, .slice pt t.turns.length ct, .int .i64 t.breath, mv] := hs 0 (by omega)
      have e1 : V 1 = .agg BA := hs 1 (by omega)
      have e2 : V 2 = .agg #[.slice pw t.words.length cw, .slice pt t.turns.length ct, .int .i64 t.breath, mv] := hs 2 (by omega)
      have e3 : V 3 = .int .i64 t.words.length := hs 3 (by omega)
      have e4 : V 4 = .bool (decide ((greatest t.right t.words.length).getD t.words.length 0 < 99)) := hs 4 (by omega)
      have e5 : V 5 = .bool (!(decide ((greatest t.right t.words.length).getD t.words.length 0 < 99))) := hs 5 (by omega)
      simp only [Rs.canon, Rs.dstOf, List.range_succ, List.range_zero, List.nil_append, List.cons_append, List.foldl_cons, List.foldl_nil, List.drop_succ_cons, List.drop_zero, List.drop_nil, List.getElem?_toArray, List.getElem?_cons_succ, List.getElem?_cons_zero, Option.bind_some, Act.put, List.getD_cons_succ, List.getD_cons_zero, List.setIfInBounds_toArray, List.set_cons_succ, List.set_cons_zero]
      rw [e0, e1, e2, e3, e4, e5]
      clear e0 e1 e2 e3 e4 e5 hs
      have HG := Lib.hid hG
      have hzg := hG.size
      have HMw := Lib.hid ((hG.block W1.heap.size (by omega)).trans HM.out)
      have hxw := (hG.block w5.heap.size (by omega)).trans HX.out
      have k0 := blk_cells hxw 0 _ rfl
      have k1 := blk_cells hxw 1 _ rfl
      have k2 := blk_cells hxw 2 _ rfl
      have k3 := blk_cells hxw 3 _ rfl
      have hsw : w5.heap.size < w'.heap.size ∧ W1.heap.size < w'.heap.size := by omega
      obtain ⟨hsw0, hsw1⟩ := hsw
      have HXW := Lib.hid hxw
      clear hG hxw HX HM
      by_cases hd : (greatest t.right t.words.length).getD t.words.length 0 < 99
      · have HFZ : Hid (fewE t = 0) := Lib.hid (by rw [HFE.out, if_pos hd])
        rw [decide_eq_true hd]
        clear hd
        go_wp2_with fail
        refine (end_any _ _ _ _ _ _ _).mono ?_
        rintro e w7 ⟨rfl, hw7⟩
        have hB7 : Below w'.heap.size w' w7 := by rw [← hw7]; exact below1 _ _
        have HM7 := Lib.hid ((hB7.block _ hsw1).trans HMw.out)
        have HB7 := Lib.hid (join HB2.out (join HG.out hB7))
        have hz7 := hB7.size
        have hn13 : (t.words.length : Int) + 1 ≤ 13 := by omega
        have hsumN : IntKind.i64.wrap ((t.words.length : Int) + 1) = ((t.words.length + 1 : Nat) : Int) := by rw [IntWalk.i64_in _ (by omega)]; omega
        have hn14 : ((t.words.length + 1 : Nat) : Int) ≤ 13 := by omega
        have hsl : ∀ W, (Instr.sliceAt 143 (.pointer (some ⟨W1.heap.size, 0, none⟩)) none (some (.int .i64 ((t.words.length : Int) + 1))) none).run Try.prog W = .ok (.slice (some ⟨W1.heap.size, 0, none⟩) (t.words.length + 1) 13) W := fun W => by
          have := slice_marks (t.words.length + 1) (by omega) W1.heap.size W
          rwa [show ((t.words.length + 1 : Nat) : Int) = (t.words.length : Int) + 1 by omega] at this
        clear hw7 hB7 k0 k1 k2 k3 hsumN hn14
        go_wp2
        go_ret2
        have hML : markL t = (greatest t.right t.words.length).take (t.words.length + 1) := if_pos HFZ.out
        have hlen : (markL t).length = t.words.length + 1 := by rw [hML, List.length_take, HSM.out.1]; omega
        refine ⟨some ⟨W1.heap.size, 0, none⟩, 13, by rw [HFZ.out, hlen]; rfl, .inr ⟨W1.heap.size, 0, rfl, by omega, fun i hi => ?_⟩, HB7.out⟩
        rw [hlen] at hi
        have hc := blk_cells HM7.out i _ (by rw [HBA.out]; exact arrOf_get (by rw [HSM.out.1]; omega))
        rw [Nat.zero_add, hc, hML]
        congr 2
        simp [List.getElem?_take, hi]
      · have HFZ : Hid (fewE t = 6) := Lib.hid (by rw [HFE.out, if_neg hd])
        rw [decide_eq_false hd]
        clear hd
        go_wp2
        go_ret2
        have hML : markL t = [] := if_neg (by rw [HFZ.out]; decide)
        exact ⟨none, 0, by rw [HFZ.out, hML]; rfl, .inl hML, join HB2.out HG.out⟩
  · have h2 : fewE t = t.err := if_neg he
    have hML : markL t = [] := if_neg (by rw [h2]; exact he)
    rw [h2]
    have HML := Lib.hid hML
    have HS := Lib.hid (fun W (h : Below w.heap.size w W) => open_bad t he hl1 hl2 pw pt cw ct W (hW.below h))
    have HE : (t.err != 0) = true := by simpa using he
    clear hW he h2 hML
    generalize t.err = er at HE HS ⊢
    go_enter Try.func38, Try.ntmps38
    go_wp2_with fail
    refine (HS.out _ (below1 _ _)).mono ?_
    rintro e w5 ⟨rfl, hB5⟩
    have HB5 := Lib.hid (join (below1 _ _) hB5)
    clear hB5
    go_wp2
    go_ret2
    exact ⟨none, 0, by rw [HML.out]; exact rfl, .inl HML.out, join HB5.out (below1 _ _)⟩
end Go.Proofs.Ytadnggecnjdhiaa
namespace Go.Proofs.Ytadnggecnjdhiaa
open Tx
set_option linter.unusedSimpArgs false
set_option linter.unusedVariables false

theorem okFrom_mono {may may' : Nat → Nat → Bool} {n : Nat} (h : ∀ a b, a < b → b ≤ n → may a b = true → may' a b = true) : ∀ (l : List Int) (a : Nat), a ≤ n → Parts ((n : Int) - a) l → okFrom may a l = true → okFrom may' a l = true
  | [], a, _, _, _ => rfl
  | x :: l, a, ha, hp, ho => by
    rw [okFrom, Bool.and_eq_true] at ho ⊢
    rw [parts_cons] at hp
    have hp2 := parts_pos hp.2
    refine ⟨h a _ (by omega) (by omega) ho.1, okFrom_mono h l _ (by omega) ?_ ho.2⟩
    rw [show (n : Int) - ((a + x.toNat : Nat) : Int) = (n : Int) - a - x by omega]
    exact hp.2
theorem rights_mono {may may' : Nat → Nat → Bool} {n : Nat} (h : ∀ a b, a < b → b ≤ n → may a b = true → may' a b = true) {l : List Int} (hl : l ∈ rights may n) : l ∈ rights may' n := by
  rw [mem_rights] at hl ⊢
  exact ⟨hl.1, okFrom_mono h l 0 (Nat.zero_le _) (by simpa using hl.1) hl.2⟩
theorem count_mono {may may' : Nat → Nat → Bool} {n : Nat} (h : ∀ a b, a < b → b ≤ n → may a b = true → may' a b = true) : count may n 0 ≤ count may' n 0 := by
  rw [count_rights, count_rights]
  unfold rights
  rw [← List.countP_eq_length_filter, ← List.countP_eq_length_filter]
  apply List.countP_mono_left
  intro l hl ho
  exact okFrom_mono h l 0 (Nat.zero_le _) (by simpa using (compF_mem n n l (Nat.le_refl _)).1 hl) ho
theorem few_mono {may may' : Nat → Nat → Bool} {n : Nat} (hn1 : 1 ≤ n) (hn : n ≤ 12) (h : ∀ a b, a < b → b ≤ n → may a b = true → may' a b = true) (he : (fewest may n).2 = 0) :
    (fewest may' n).2 = 0 ∧ (fewest may' n).1.length ≤ (fewest may n).1.length := by
  have hin := (fewest_rights (may := may) hn1 hn).2.2.1 he
  have hin' := rights_mono h hin
  obtain ⟨f1, f2, f3, f4⟩ := fewest_rights (may := may') hn1 hn
  refine ⟨f4.2 (fun e => by rw [e] at hin'; simp at hin'), ?_⟩
  rw [f1]
  exact (bestLen_spec _ 0 (rights_ne hn1)).2.1 _ hin'
theorem fewest_err {may : Nat → Nat → Bool} {n : Nat} (hn1 : 1 ≤ n) (hn : n ≤ 12) : ((fewest may n).2 = 0 ∧ 0 < count may n 0) ∨ ((fewest may n).2 = 6 ∧ count may n 0 = 0) := by
  obtain ⟨f1, f2, f3, f4⟩ := fewest_rights (may := may) hn1 hn
  rw [count_rights]
  by_cases h : (fewest may n).2 = 0
  · exact .inl ⟨h, List.length_pos_iff.2 (f4.1 h)⟩
  · right
    rw [f2] at h ⊢
    have hz : bestLen (rights may n) 0 = 0 := by
      by_cases hz : bestLen (rights may n) 0 = 0
      · exact hz
      · rw [if_neg hz] at h; exact absurd rfl h
    rw [if_pos hz]
    refine ⟨rfl, ?_⟩
    rw [((bestLen_zero _ 0 (rights_ne hn1)).1 hz).2]
    rfl
theorem unbroken_err {may : Nat → Nat → Bool} {n : Nat} (hn1 : 1 ≤ n) (hn : n ≤ 12) : (unbroken may n).2 = (fewest may n).2 := by
  unfold unbroken
  rcases fewest_err (may := may) hn1 hn with ⟨h1, h2⟩ | ⟨h1, h2⟩
  · rw [if_neg (by omega), h1]
  · rw [if_pos h2, h1]
theorem mem_unbroken {may : Nat → Nat → Bool} {n : Nat} (hn1 : 1 ≤ n) (hn : n ≤ 12) (he : (fewest may n).2 = 0) {x : Int} : x ∈ (unbroken may n).1 ↔ ∃ p : Nat, x = p ∧ 1 ≤ p ∧ p < n ∧ ∀ l ∈ rights may n, breaksAt l p = false := by
  unfold unbroken
  rcases fewest_err (may := may) hn1 hn with ⟨h1, h2⟩ | ⟨h1, h2⟩
  · rw [if_neg (by omega)]
    simp only [List.mem_map, List.mem_filter, List.mem_range'_1]
    constructor
    · rintro ⟨p, ⟨hp1, hp2⟩, rfl⟩
      rw [unbr_rights hn (by omega) (by omega)] at hp2
      simp only [Bool.not_eq_true', List.any_eq_false, Bool.not_eq_true] at hp2
      exact ⟨p, rfl, by omega, by omega, hp2⟩
    · rintro ⟨p, rfl, hp1, hp2, hp3⟩
      refine ⟨p, ⟨by omega, ?_⟩, rfl⟩
      rw [unbr_rights hn hp1 hp2]
      simp only [Bool.not_eq_true', List.any_eq_false, Bool.not_eq_true]
      exact hp3
  · rw [he] at h1; simp at h1
theorem never_mono {may may' : Nat → Nat → Bool} {n : Nat} (hn1 : 1 ≤ n) (hn : n ≤ 12) (h : ∀ a b, a < b → b ≤ n → may a b = true → may' a b = true) (he : (fewest may n).2 = 0) {x : Int} (hx : x ∈ (unbroken may' n).1) : x ∈ (unbroken may n).1 := by
  rw [mem_unbroken hn1 hn (few_mono hn1 hn h he).1] at hx
  rw [mem_unbroken hn1 hn he]
  obtain ⟨p, h1, h2, h3, h4⟩ := hx
  exact ⟨p, h1, h2, h3, fun l hl => h4 l (rights_mono h hl)⟩
/-- in one text is right what is right in another one -/
structure More (t t' : Text) : Prop where
  len : t'.words.length = t.words.length
  syl : ∀ a b, t'.syl a b = t.syl a b
  right : ∀ a b, a < b → b ≤ t.words.length → t.right a b = true → t'.right a b = true
theorem longGo_more {t t' : Text} (h : More t t') : ∀ (l : List Int) (a : Nat), longGo t' a l = longGo t a l
  | [], _ => rfl
  | x :: l, a => by rw [longGo, longGo, h.syl, longGo_more h l]
theorem even_more {t t' : Text} (h : More t t') (he : t.err = 0) (he' : t'.err = 0) (hs : ∀ x ∈ t.words, 1 ≤ x.syl ∧ x.syl ≤ 9) (hs' : ∀ x ∈ t'.words, 1 ≤ x.syl ∧ x.syl ≤ 9) (hn1 : 1 ≤ t.words.length) (hn : t.words.length ≤ 12) (hb : 1 ≤ t.breath) (hb' : 1 ≤ t'.breath) (hz : (evR t).2.2 = 0) :
    (evR t').2.2 = 0 ∧ (evR t').2.1 ≤ (evR t).2.1 := by
  rcases evR_spec he hs hn1 hn hb with ⟨h1, _⟩ | ⟨_, h2, h3, h4, h5, h6, h7⟩
  · rw [hz] at h1; simp at h1
  · have ho : okFrom t'.right 0 (evR t).1 = true := okFrom_mono h.right _ 0 (Nat.zero_le _) (by simpa using h2) h3
    rcases evR_spec he' hs' (by rw [h.len]; exact hn1) (by rw [h.len]; exact hn) hb' with ⟨_, _, k3⟩ | ⟨k1, _, _, _, _, _, k7⟩
    · exact (k3 _ (by rw [h.len]; exact h2) ho).elim
    · refine ⟨k1, ?_⟩
      have := (k7 _ (by rw [h.len]; exact h2) ho).1
      rw [longGo_more h, h4] at this
      exact this
theorem even_err {t : Text} (he : t.err = 0) (hs : ∀ x ∈ t.words, 1 ≤ x.syl ∧ x.syl ≤ 9) (hn1 : 1 ≤ t.words.length) (hn : t.words.length ≤ 12) (hb : 1 ≤ t.breath) : (evR t).2.2 = (fewest t.right t.words.length).2 := by
  have f := fewest_rights (may := t.right) hn1 hn
  rcases evR_spec he hs hn1 hn hb with ⟨h1, h2, h3⟩ | ⟨h1, h2, h3, _⟩
  · rw [h1]
    rcases fewest_err (may := t.right) hn1 hn with ⟨g1, _⟩ | ⟨g1, _⟩
    · exfalso
      have := f.2.2.1 g1
      rw [mem_rights] at this
      exact h3 _ this.1 this.2
    · exact g1.symm
  · rw [h1]
    symm
    rw [f.2.2.2]
    intro e
    have := mem_rights.2 ⟨h2, h3⟩
    rw [e] at this
    simp at this
theorem more_stop (t : Text) (k : Nat) (hk : k < t.words.length) (t' : Text) (hw : t'.words = t.words.set k { t.words.getD k default with stop := true }) (ht : t'.turns = t.turns) (hb : t'.breath = t.breath) : More t t' := by
  have hlen : t'.words.length = t.words.length := by rw [hw]; simp
  have hg : ∀ i, (t'.words.getD i default).stop = (decide (i = k) || (t.words.getD i default).stop) := fun i => by
    rw [hw]
    by_cases h : i = k
    · subst h; simp [hk]
    · simp [List.getElem?_set, Ne.symm h, h]
  have hsyl : t'.words.map (·.syl) = t.words.map (·.syl) := by
    rw [hw]
    apply List.ext_getElem (by simp)
    intro i h1 h2
    simp only [List.getElem_map, List.getElem_set]
    split
    · rename_i e; subst e; simp [hk]
    · rfl
  have hs : ∀ a b, t'.syl a b = t.syl a b := fun a b => by
    unfold Text.syl slice
    rw [List.map_take, List.map_drop, hsyl, List.map_take, List.map_drop]
  refine ⟨hlen, hs, fun a b hab hbn hr => ?_⟩
  have hal : ∀ p, t.allow p = true → t'.allow p = true := fun p h => by
    unfold Text.allow Text.len at *
    rw [hlen, hg]
    simp only [Bool.or_eq_true] at *
    rcases h with h | h
    · exact .inl h
    · exact .inr (.inr h)
  unfold Text.right Text.isLong Text.isCut Text.isOther at *
  rw [hs, ht, hb]
  simp only [Bool.and_eq_true, Bool.not_eq_true', Bool.or_eq_false_iff, Bool.not_eq_false'] at hr ⊢
  exact ⟨⟨hr.1.1, hal a hr.1.2.1, hal b hr.1.2.2⟩, hr.2⟩
theorem more_breath (t : Text) (t' : Text) (hw : t'.words = t.words) (ht : t'.turns = t.turns) (hb : t.breath ≤ t'.breath) : More t t' := by
  have hs : ∀ a b, t'.syl a b = t.syl a b := fun a b => by unfold Text.syl; rw [hw]
  refine ⟨by rw [hw], hs, fun a b hab hbn hr => ?_⟩
  unfold Text.right Text.isLong Text.isCut Text.isOther Text.allow Text.len at *
  rw [hs, ht, hw]
  simp only [Bool.and_eq_true, Bool.not_eq_true', decide_eq_false_iff_not] at hr ⊢
  exact ⟨⟨by omega, hr.1.2⟩, hr.2⟩
theorem more_turn (t : Text) (t' : Text) (hw : t'.words = t.words) (ht : ∀ u ∈ t'.turns, u ∈ t.turns) (hb : t'.breath = t.breath) : More t t' := by
  have hs : ∀ a b, t'.syl a b = t.syl a b := fun a b => by unfold Text.syl; rw [hw]
  refine ⟨by rw [hw], hs, fun a b hab hbn hr => ?_⟩
  unfold Text.right Text.isLong Text.isCut Text.isOther Text.allow Text.len at *
  rw [hs, hw, hb]
  simp only [Bool.and_eq_true, Bool.not_eq_true', List.any_eq_false] at hr ⊢
  exact ⟨hr.1, fun u hu => hr.2 u (ht u hu)⟩
end Go.Proofs.Ytadnggecnjdhiaa
set_option linter.unusedSimpArgs false
set_option linter.unusedVariables false
namespace Go.Proofs.Ytadnggecnjdhiaa
open Go.RowKit Tx

theorem fewE_cases {t : Text} (ok : Text.Ok t) (he : t.err = 0) : fewE t = 0 ∨ fewE t = 6 := by
  have h : fewE t = (fewest t.right t.words.length).2 := if_pos he
  rw [h]
  rcases fewest_err (may := t.right) ok.n1 ok.n12 with ⟨h, _⟩ | ⟨h, _⟩
  · exact .inl h
  · exact .inr h
theorem surE_cases {t : Text} (ok : Text.Ok t) (he : t.err = 0) : surE t = 0 ∨ surE t = 6 := by
  have h : surE t = (fewest t.sureB t.words.length).2 := if_pos he
  rw [h]
  rcases fewest_err (may := t.sureB) ok.n1 ok.n12 with ⟨h, _⟩ | ⟨h, _⟩
  · exact .inl h
  · exact .inr h
theorem markL_len {t : Text} (ok : Text.Ok t) (h : fewE t = 0) : (markL t).length = t.words.length + 1 := by
  have := ok.n12
  rw [markL, if_pos h, List.length_take, (greatest_inv t.right t.words.length ok.n12).len]; omega
theorem markL_get {t : Text} (ok : Text.Ok t) (h : fewE t = 0) (i : Nat) (hi : i ≤ t.words.length) : (markL t).getD i 0 = (greatest t.right t.words.length).getD i 0 := by
  rw [markL, if_pos h]
  simp [List.getElem?_take, show i < t.words.length + 1 by omega]
/-- the marks that are told hold, and show the fewest breaths -/
theorem marks_show {t : Text} (ok : Text.Ok t) (he : t.err = 0) (h : fewE t = 0) : ¬ (markL t).any (fun k => !btw k 0 99) = true ∧ shows t (markL t) = (((fewL t).length : Int), 0) := by
  have hi := greatest_inv t.right t.words.length ok.n12
  have hl := markL_len ok h
  have hf : (fewest t.right t.words.length).2 = 0 := by rw [← h]; exact (if_pos he).symm
  have hfl : fewL t = (fewest t.right t.words.length).1 := if_pos he
  have hany : ¬ (markL t).any (fun k => !btw k 0 99) = true := by
    intro ha
    obtain ⟨x, hx, hb⟩ := List.any_eq_true.1 ha
    obtain ⟨i, hi2, rfl⟩ := List.mem_iff_getElem.1 hx
    have e : (markL t)[i] = (greatest t.right t.words.length).getD i 0 := by
      rw [← markL_get ok h i (by omega)]; simp [hi2]
    rw [e] at hb
    have := hi.bd i
    unfold btw at hb
    rw [Bool.not_eq_true', Bool.and_eq_false_iff, decide_eq_false_iff_not, decide_eq_false_iff_not] at hb
    omega
  refine ⟨hany, ?_⟩
  have hpad : padM (markL t) = greatest t.right t.words.length := by
    unfold padM
    rw [markL, if_pos h]
    exact greatest_pad t.right t.words.length ok.n12
  have hh : holdB t.right t.words.length (padM (markL t)) = true := by
    rw [hpad]
    unfold holdB
    rw [Bool.and_eq_true]
    exact ⟨by rw [hi.zero]; rfl, decide_eq_true ((lowered_iff _ _ _ hi.len ok.n12).2 (greatest_nogain _ _ ok.n12))⟩
  unfold shows
  rw [if_neg (by simp [he]), if_neg (by omega), if_neg hany, if_neg (by rw [hh]; simp), markL_get ok h _ (Nat.le_refl _), (greatest_last ok.n1 ok.n12 hf).1, hfl]
theorem okFrom_sure (t : Text) : ∀ (l : List Int) (a : Nat), l ≠ [] → (∀ x ∈ l, 1 ≤ x) → (okFrom t.sureB a l = true ↔ okFrom t.right a l = true ∧ ∀ j, j ≤ l.length → t.parts ((a : Int) + isum (l.take j)) = false)
  | [], _, h, _ => absurd rfl h
  | x :: l, a, _, hp => by
    have hx := hp x (by simp)
    rw [okFrom, okFrom, Bool.and_eq_true, Bool.and_eq_true]
    have e1 : t.sureB a (a + x.toNat) = true ↔ t.right a (a + x.toNat) = true ∧ t.parts a = false ∧ t.parts ((a : Int) + x) = false := by
      unfold Text.sureB
      rw [show ((a + x.toNat : Nat) : Int) = (a : Int) + x by omega]
      simp [Bool.and_eq_true, and_assoc]
    rw [e1]
    cases l with
    | nil =>
      simp only [okFrom, and_true, List.length_cons, List.length_nil]
      constructor
      · rintro ⟨h1, h2, h3⟩
        refine ⟨h1, fun j hj => ?_⟩
        rcases (show j = 0 ∨ j = 1 by omega) with rfl | rfl
        · simpa [isum] using h2
        · simpa [isum] using h3
      · rintro ⟨h1, h2⟩
        exact ⟨h1, by simpa [isum] using h2 0 (by omega), by simpa [isum] using h2 1 (by omega)⟩
    | cons y l =>
      rw [okFrom_sure t (y :: l) (a + x.toNat) (by simp) (fun z hz => hp z (by simp [hz]))]
      have e2 : ∀ j, ((a + x.toNat : Nat) : Int) + isum ((y :: l).take j) = (a : Int) + isum ((x :: y :: l).take (j + 1)) := fun j => by
        rw [List.take_succ_cons, isum_cons]; omega
      constructor
      · rintro ⟨⟨h1, h2, h3⟩, h4, h5⟩
        refine ⟨⟨h1, h4⟩, fun j hj => ?_⟩
        cases j with
        | zero => simpa [isum] using h2
        | succ j => rw [← e2 j]; exact h5 j (by simpa using hj)
      · rintro ⟨⟨h1, h4⟩, h5⟩
        refine ⟨⟨h1, by simpa [isum] using h5 0 (by omega), by simpa [isum] using h5 1 (by simp)⟩, h4, fun j hj => ?_⟩
        rw [e2 j]; exact h5 (j + 1) (by simpa using hj)
theorem turn_ok {t : Text} (ok : Text.Ok t) : ∀ u ∈ t.turns, TurnOk t.words.length u := fun u hu => ok.turn u hu
/-- a right reading is sure just if its breaths are those that sure allows -/
theorem sure_iff {t : Text} (ok : Text.Ok t) {l : List Int} (hp : Parts t.words.length l) : okFrom t.sureB 0 l = true ↔ okFrom t.right 0 l = true ∧ sureP t.turns (placesL l) = true := by
  have hl1 : 1 ≤ l.length := by
    rcases Nat.eq_zero_or_pos l.length with h | h
    · have := ok.n1
      rw [List.length_eq_zero_iff.1 h] at hp; have := hp.2; simp [isum] at this; omega
    · exact h
  have hne : l ≠ [] := fun e => by rw [e] at hl1; simp at hl1
  rw [okFrom_sure t l 0 hne hp.1, sureP_apart hp hl1 (turn_ok ok)]
  refine and_congr_right fun _ => ?_
  rw [Bool.not_eq_true', List.any_eq_false]
  simp only [Int.natCast_zero, Int.zero_add]
  constructor
  · intro h u hu ha
    unfold apartIn at ha
    obtain ⟨p, hpi, hpp⟩ := List.any_eq_true.1 ha
    obtain ⟨j, h1, h2, rfl⟩ := (mem_inner l p).1 hpi
    have := h j (by omega)
    unfold Text.parts at this
    rw [List.any_eq_false] at this
    exact this u hu hpp
  · intro h j hj
    unfold Text.parts
    rw [List.any_eq_false]
    intro u hu hpp
    obtain ⟨o1, o2, o3, o4, o5, o6⟩ := ok.turn u hu
    rw [parts_iff] at hpp
    have hb : ∀ y ∈ l, 0 ≤ y := fun y hy => by have := hp.1 y hy; omega
    by_cases h0 : j = 0
    · subst h0
      simp only [List.take_zero, isum, List.foldl_nil] at hpp
      omega
    · by_cases hjl : j = l.length
      · rw [hjl, List.take_length, hp.2] at hpp
        omega
      · refine h u hu ?_
        unfold apartIn
        exact List.any_eq_true.2 ⟨isum (l.take j), (mem_inner l _).2 ⟨j, by omega, by omega, rfl⟩, (parts_iff _ _).2 hpp⟩
/-- what TextBroken needs of Fewest and Surest -/
structure BrokenR (t : Text) : Prop where
  none : fewE t = 6 → surE t = 6 ∧ ∀ o, Parts t.words.length o → okFrom t.right 0 o = true → False
  few : fewE t = 0 → Parts t.words.length (fewL t) ∧ okFrom t.right 0 (fewL t) = true ∧ ∀ o, Parts t.words.length o → okFrom t.right 0 o = true → (fewL t).length ≤ o.length
  sur : surE t = 0 → Parts t.words.length (surL t) ∧ okFrom t.right 0 (surL t) = true ∧ sureP t.turns (placesL (surL t)) = true ∧ fewE t = 0
  low : ∀ o, Parts t.words.length o → okFrom t.right 0 o = true → sureP t.turns (placesL o) = true → surE t = 0 ∧ (surL t).length ≤ o.length
theorem broken_ref {t : Text} (ok : Text.Ok t) (he : t.err = 0) : BrokenR t := by
  have e1 : fewE t = (fewest t.right t.words.length).2 := if_pos he
  have e2 : fewL t = (fewest t.right t.words.length).1 := if_pos he
  have e3 : surE t = (fewest t.sureB t.words.length).2 := if_pos he
  have e4 : surL t = (fewest t.sureB t.words.length).1 := if_pos he
  have f := fewest_rights (may := t.right) ok.n1 ok.n12
  have g := fewest_rights (may := t.sureB) ok.n1 ok.n12
  have hfew : ∀ o, Parts t.words.length o → okFrom t.right 0 o = true → fewE t = 0 ∧ (fewL t).length ≤ o.length := fun o h1 h2 => by
    have hm := mem_rights.2 ⟨h1, h2⟩
    refine ⟨by rw [e1, f.2.2.2]; intro e; rw [e] at hm; simp at hm, ?_⟩
    rw [e2, f.1]; exact (bestLen_spec _ 0 (rights_ne ok.n1)).2.1 o hm
  have hsur : surE t = 0 → Parts t.words.length (surL t) ∧ okFrom t.right 0 (surL t) = true ∧ sureP t.turns (placesL (surL t)) = true ∧ fewE t = 0 := fun h => by
    rw [e3] at h
    obtain ⟨h1, h2⟩ := mem_rights.1 (g.2.2.1 h)
    rw [e4]
    obtain ⟨h3, h4⟩ := (sure_iff ok h1).1 h2
    exact ⟨h1, h3, h4, (hfew _ h1 h3).1⟩
  refine ⟨fun h => ⟨?_, fun o h1 h2 => ?_⟩, fun h => ?_, hsur, fun o h1 h2 h3 => ?_⟩
  · rcases surE_cases ok he with h0 | h0
    · have := (hsur h0).2.2.2; omega
    · exact h0
  · have := (hfew o h1 h2).1; omega
  · rw [e1] at h
    obtain ⟨h1, h2⟩ := mem_rights.1 (f.2.2.1 h)
    rw [e2]
    exact ⟨h1, h2, fun o k1 k2 => by have := (hfew o k1 k2).2; rwa [e2] at this⟩
  · have hm := mem_rights.2 ⟨h1, (sure_iff ok h1).2 ⟨h2, h3⟩⟩
    refine ⟨by rw [e3, g.2.2.2]; intro e; rw [e] at hm; simp at hm, ?_⟩
    rw [e4, g.1]; exact (bestLen_spec _ 0 (rights_ne ok.n1)).2.1 o hm
theorem wrongGo_err (t : Text) : ∀ (l : List Int) (i a : Nat), (wrongGo t i a l).2.2 = 0 ∨ (wrongGo t i a l).2.2 = 6
  | [], i, a => by simp [wrongGo]
  | x :: l, i, a => by
    rw [wrongGo]
    split
    · exact .inl rfl
    · exact wrongGo_err t l _ _
theorem wrongR_err {t : Text} (ok : Text.Ok t) (he : t.err = 0) {l : List Int} (h : Parts t.words.length l) : (wrongR t l).2.2 = if okFrom t.right 0 l then 6 else 0 := by
  have h1 := okR_ok ok he h
  have h2 : (wrongR t l).2.2 = 0 ∨ (wrongR t l).2.2 = 6 := by
    unfold wrongR; rw [if_pos (read_parts ok he h)]; exact wrongGo_err t l 0 0
  rw [← h1]
  unfold okR
  rcases h2 with h2 | h2 <;> rw [h2] <;> simp
end Go.Proofs.Ytadnggecnjdhiaa
namespace Go.Proofs.Ytadnggecnjdhiaa
open Tx
set_option linter.unusedSimpArgs false
set_option linter.unusedVariables false

/-- the last words that are in the same breath: how they begin, and what a breath makes of them -/
def last0 (n : Nat) : List Int := (List.range 12).map fun w => if w < n then (w : Int) else 0
def lastW (b : Nat) (m : List Int) (w : Nat) : List Int := m.set w (max (m.getD w 0) ((b : Int) - 1))
def lastB (a b : Nat) (m : List Int) : List Int := (List.range' a (b - a)).foldl (lastW b) m
def lastRow (may : Nat → Nat → Bool) (n : Nat) (m : List Int) (a : Nat) : List Int := (brs may n a).foldl (fun m b => lastB a b m) m
def lastT (may : Nat → Nat → Bool) (n : Nat) : List Int := (List.range n).foldl (lastRow may n) (last0 n)
/-- no two neighbours are in the same breath -/
def apartB (last : List Int) (l : List Int) : Bool := (List.range (l.length - 1)).all fun i => decide (last.getD (l.getD i 0).toNat 0 < l.getD (i + 1) 0)
def loneGo (last : List Int) (n : Nat) : List Nat → List Int
  | [] => [0]
  | k :: ks => match (Tx.lists n k 0).find? (apartB last) with | some l => l | none => loneGo last n ks
def downTo2 (n : Nat) : List Nat := (List.range' 2 (n - 1)).reverse
def loneR (may : Nat → Nat → Bool) (n : Nat) : List Int := loneGo (lastT may n) n (downTo2 n)

theorem lastB_get (a b : Nat) : ∀ (k : Nat) (m : List Int), m.length = 12 → a + k ≤ 12 → ((List.range' a k).foldl (lastW b) m).length = 12 ∧
    ∀ w, ((List.range' a k).foldl (lastW b) m).getD w 0 = if a ≤ w ∧ w < a + k then max (m.getD w 0) ((b : Int) - 1) else m.getD w 0
  | 0, m, hm, _ => ⟨by simpa using hm, fun w => by rw [if_neg (by omega)]; simp⟩
  | k + 1, m, hm, hk => by
    obtain ⟨h1, h2⟩ := lastB_get a b k m hm (by omega)
    rw [show List.range' a (k + 1) = List.range' a k ++ [a + k] by rw [List.range'_concat]; simp, List.foldl_append, List.foldl_cons, List.foldl_nil]
    generalize (List.range' a k).foldl (lastW b) m = M at h1 h2 ⊢
    refine ⟨by simp [lastW, h1], fun w => ?_⟩
    unfold lastW
    by_cases hw : w = a + k
    · subst hw
      rw [if_pos (by omega)]
      simp only [List.getD_eq_getElem?_getD, List.getElem?_set]
      rw [if_pos (by trivial), if_pos (by omega)]
      have := h2 (a + k)
      rw [if_neg (by omega)] at this
      simp only [List.getD_eq_getElem?_getD] at this
      rw [← this]; rfl
    · have := h2 w
      simp only [List.getD_eq_getElem?_getD, List.getElem?_set] at this ⊢
      rw [if_neg (Ne.symm hw), this]
      by_cases h3 : a ≤ w ∧ w < a + k
      · rw [if_pos h3, if_pos (by omega)]
      · rw [if_neg h3, if_neg (by omega)]
/-- what the last words are, after the breaths of a set -/
structure LastInv (n : Nat) (S : Nat → Nat → Prop) (m : List Int) : Prop where
  len : m.length = 12
  low : ∀ w, w < n → (w : Int) ≤ m.getD w 0 ∧ m.getD w 0 < n
  up : ∀ a b w, S a b → a ≤ w → w < b → (b : Int) - 1 ≤ m.getD w 0
  back : ∀ w, w < n → m.getD w 0 = w ∨ ∃ a b, S a b ∧ a ≤ w ∧ w < b ∧ m.getD w 0 = (b : Int) - 1
theorem LastInv.add {n : Nat} {S : Nat → Nat → Prop} {m : List Int} (h : LastInv n S m) (hn : n ≤ 12) (a b : Nat) (hab : a < b) (hb : b ≤ n) : LastInv n (fun x y => S x y ∨ (x = a ∧ y = b)) (lastB a b m) := by
  obtain ⟨g1, g2⟩ := lastB_get a b (b - a) m h.len (by omega)
  have g3 : ∀ w, (lastB a b m).getD w 0 = if a ≤ w ∧ w < b then max (m.getD w 0) ((b : Int) - 1) else m.getD w 0 := fun w => by
    unfold lastB; rw [g2]; congr 1; rw [show a + (b - a) = b by omega]
  refine ⟨by unfold lastB; exact g1, fun w hw => ?_, fun x y w hs hx hy => ?_, fun w hw => ?_⟩
  · have := h.low w hw
    rw [g3]; split <;> omega
  · rw [g3]
    rcases hs with hs | ⟨rfl, rfl⟩
    · have := h.up x y w hs hx hy
      split <;> omega
    · rw [if_pos ⟨hx, hy⟩]; omega
  · rw [g3]
    have hl := h.low w hw
    by_cases hin : a ≤ w ∧ w < b
    · rw [if_pos hin]
      by_cases hm : m.getD w 0 ≤ (b : Int) - 1
      · exact .inr ⟨a, b, .inr ⟨rfl, rfl⟩, hin.1, hin.2, by omega⟩
      · rcases h.back w hw with e | ⟨x, y, hs, h1, h2, h3⟩
        · left; omega
        · exact .inr ⟨x, y, .inl hs, h1, h2, by omega⟩
    · rw [if_neg hin]
      rcases h.back w hw with e | ⟨x, y, hs, h1, h2, h3⟩
      · exact .inl e
      · exact .inr ⟨x, y, .inl hs, h1, h2, h3⟩
theorem LastInv.congr {n : Nat} {S S' : Nat → Nat → Prop} {m : List Int} (h : LastInv n S m) (e : ∀ a b, S a b ↔ S' a b) : LastInv n S' m :=
  ⟨h.len, h.low, fun a b w hs => h.up a b w ((e a b).2 hs), fun w hw => (h.back w hw).imp id fun ⟨a, b, hs, r⟩ => ⟨a, b, (e a b).1 hs, r⟩⟩
theorem last0_inv (n : Nat) (hn : n ≤ 12) : LastInv n (fun _ _ => False) (last0 n) := by
  have hg : ∀ w, w < n → (last0 n).getD w 0 = (w : Int) := fun w hw => by
    unfold last0
    simp [show w < 12 by omega, hw]
  refine ⟨by simp [last0], fun w hw => by rw [hg w hw]; omega, fun a b w h => h.elim, fun w hw => .inl (hg w hw)⟩
theorem lastT_inv (may : Nat → Nat → Bool) (n : Nat) (hn : n ≤ 12) : LastInv n (fun a b => a < b ∧ b ≤ n ∧ may a b = true) (lastT may n) := by
  have row : ∀ (a : Nat) (bs : List Nat) (m : List Int) (S : Nat → Nat → Prop), (∀ b ∈ bs, a < b ∧ b ≤ n) → LastInv n S m → LastInv n (fun x y => S x y ∨ (x = a ∧ y ∈ bs)) (bs.foldl (fun m b => lastB a b m) m) := by
    intro a bs
    induction bs with
    | nil => intro m S _ h; exact h.congr fun x y => by simp
    | cons b bs ih =>
      intro m S hb h
      rw [List.foldl_cons]
      have hb0 := hb b (by simp)
      refine (ih _ _ (fun c hc => hb c (by simp [hc])) (h.add hn a b hb0.1 hb0.2)).congr fun x y => ?_
      simp only [List.mem_cons]
      constructor
      · rintro ((h | ⟨h1, h2⟩) | ⟨h1, h2⟩)
        · exact .inl h
        · exact .inr ⟨h1, .inl h2⟩
        · exact .inr ⟨h1, .inr h2⟩
      · rintro (h | ⟨h1, h2 | h2⟩)
        · exact .inl (.inl h)
        · exact .inl (.inr ⟨h1, h2⟩)
        · exact .inr ⟨h1, h2⟩
  have key : ∀ k, k ≤ n → LastInv n (fun a b => a < k ∧ a < b ∧ b ≤ n ∧ may a b = true) ((List.range k).foldl (lastRow may n) (last0 n)) := by
    intro k
    induction k with
    | zero => intro _; exact (last0_inv n hn).congr fun a b => by simp
    | succ k ih =>
      intro hk
      rw [List.range_succ, List.foldl_append, List.foldl_cons, List.foldl_nil]
      refine (row k (brs may n k) _ _ (fun b hb => by rw [mem_brs] at hb; exact ⟨hb.1, hb.2.1⟩) (ih (by omega))).congr fun x y => ?_
      rw [mem_brs]
      constructor
      · rintro (⟨h1, h2⟩ | ⟨rfl, h2⟩)
        · exact ⟨by omega, h2⟩
        · exact ⟨by omega, h2⟩
      · rintro ⟨h1, h2⟩
        by_cases hx : x = k
        · subst hx; exact .inr ⟨rfl, h2⟩
        · exact .inl ⟨by omega, h2⟩
  exact (key n (Nat.le_refl _)).congr fun a b => ⟨fun h => h.2, fun h => ⟨by omega, h⟩⟩
/-- no right breath has two of some words -/
def Alone (may : Nat → Nat → Bool) (n : Nat) (l : List Int) : Prop := ∀ a b, a < b → b ≤ n → may a b = true → ∀ i j, i < j → j < l.length → ¬ ((a : Int) ≤ l.getD i 0 ∧ l.getD j 0 < b)
theorem incr_get {hi : Int} : ∀ {lo : Int} {l : List Int}, Incr lo hi l → ∀ i, i < l.length → lo ≤ l.getD i 0 ∧ l.getD i 0 < hi ∧ (∀ j, i < j → j < l.length → l.getD i 0 < l.getD j 0)
  | _, [], _, i, h => by simp at h
  | lo, x :: l, ⟨h1, h2, h3⟩, 0, _ => ⟨by simpa using h1, by simpa using h2, fun j hj hjl => by
      cases j with
      | zero => omega
      | succ j =>
        have := (incr_get h3 j (by simpa using hjl)).1
        simp at this ⊢; omega⟩
  | lo, x :: l, ⟨h1, h2, h3⟩, i + 1, h => by
    obtain ⟨g1, g2, g3⟩ := incr_get h3 i (by simpa using h)
    refine ⟨by simp at g1 ⊢; omega, by simpa using g2, fun j hj hjl => ?_⟩
    cases j with
    | zero => omega
    | succ j => have := g3 j (by omega) (by simpa using hjl); simpa using this
theorem apart_alone {may : Nat → Nat → Bool} {n : Nat} (hn : n ≤ 12) {l : List Int} (hl : Incr 0 n l) : apartB (lastT may n) l = true ↔ Alone may n l := by
  have hI := lastT_inv may n hn
  unfold apartB
  simp only [List.all_eq_true, List.mem_range, decide_eq_true_eq]
  constructor
  · rintro h a b hab hb hm i j hij hj ⟨h1, h2⟩
    obtain ⟨g1, g2, g3⟩ := incr_get hl i (by omega)
    have h5 := h i (by omega)
    have h6 := g3 j hij hj
    have h7 : l.getD (i + 1) 0 ≤ l.getD j 0 := by
      by_cases e : j = i + 1
      · rw [e]; omega
      · have := (incr_get hl (i + 1) (by omega)).2.2 j (by omega) hj; omega
    have := hI.up a b (l.getD i 0).toNat ⟨hab, hb, hm⟩ (by omega) (by omega)
    omega
  · intro h i hi
    obtain ⟨g1, g2, g3⟩ := incr_get hl i (by omega)
    have g4 := g3 (i + 1) (by omega) (by omega)
    rcases hI.back (l.getD i 0).toNat (by omega) with e | ⟨a, b, ⟨h1, h2, h3⟩, h4, h5, h6⟩
    · rw [e]; omega
    · rw [h6]
      rcases Int.lt_or_le ((b : Int) - 1) (l.getD (i + 1) 0) with h7 | h7
      · exact h7
      · exact absurd ⟨by omega, by omega⟩ (h a b h1 h2 h3 i (i + 1) (by omega) (by omega))
theorem loneGo_spec (may : Nat → Nat → Bool) (n : Nat) (hn1 : 1 ≤ n) (hn : n ≤ 12) : ∀ (ks : List Nat), ks.Pairwise (· > ·) → (∀ k ∈ ks, 2 ≤ k) →
    Incr 0 n (loneGo (lastT may n) n ks) ∧ Alone may n (loneGo (lastT may n) n ks) ∧ 1 ≤ (loneGo (lastT may n) n ks).length ∧
      (∀ m, Incr 0 n m → Alone may n m → (m.length ∈ ks ∨ m.length = 1) → m.length < (loneGo (lastT may n) n ks).length ∨ (m.length = (loneGo (lastT may n) n ks).length ∧ (m = loneGo (lastT may n) n ks ∨ lexB (loneGo (lastT may n) n ks) m = true)))
  | [], _, _ => by
    rw [loneGo]
    refine ⟨⟨by omega, by omega, trivial⟩, fun a b _ _ _ i j hij hj => by simp at hj; omega, by simp, fun m hm ha hl => .inr ?_⟩
    have hl1 : m.length = 1 := by simpa using hl
    refine ⟨hl1, ?_⟩
    match m, hl1 with
    | [x], _ =>
      obtain ⟨h1, h2, _⟩ := hm
      by_cases hx : x = 0
      · left; rw [hx]
      · right; rw [lexB, if_pos (Ne.symm hx)]; exact decide_eq_true (by omega)
  | k :: ks, hs, hk2 => by
    rw [List.pairwise_cons] at hs
    obtain ⟨i1, i2, i3, i4⟩ := loneGo_spec may n hn1 hn ks hs.2 (fun x hx => hk2 x (by simp [hx]))
    rw [loneGo]
    cases hf : (Tx.lists n k 0).find? (apartB (lastT may n)) with
    | some l =>
      obtain ⟨h1, h2, h3⟩ := find_first (lists_sorted _ _ _) hf
      obtain ⟨g1, g2⟩ := (lists_mem _ _ _ _).1 h1
      have hk := hk2 k (by simp)
      dsimp only
      refine ⟨g2, (apart_alone hn g2).1 h2, by omega, fun m hm ha hl => ?_⟩
      rcases hl with hl | hl
      · rcases List.mem_cons.1 hl with e | e
        · right
          refine ⟨by omega, ?_⟩
          exact h3 m ((lists_mem _ _ _ _).2 ⟨e, hm⟩) ((apart_alone hn hm).2 ha)
        · left; have := hs.1 _ e; omega
      · left; omega
    | none =>
      dsimp only
      refine ⟨i1, i2, i3, fun m hm ha hl => ?_⟩
      refine i4 m hm ha ?_
      rcases hl with hl | hl
      · rcases List.mem_cons.1 hl with e | e
        · exfalso
          have := List.find?_eq_none.1 hf m ((lists_mem _ _ _ _).2 ⟨e, hm⟩)
          exact this ((apart_alone hn hm).2 ha)
        · exact .inl e
      · exact .inr hl
/-- what Lone tells: words that are alone, as many as can be, the first ones of these -/
theorem loneR_spec (may : Nat → Nat → Bool) (n : Nat) (hn1 : 1 ≤ n) (hn : n ≤ 12) :
    Incr 0 n (loneR may n) ∧ Alone may n (loneR may n) ∧ 1 ≤ (loneR may n).length ∧
      (∀ m, Incr 0 n m → Alone may n m → m ≠ [] → m.length < (loneR may n).length ∨ (m.length = (loneR may n).length ∧ (m = loneR may n ∨ lexB (loneR may n) m = true))) := by
  obtain ⟨h1, h2, h3, h4⟩ := loneGo_spec may n hn1 hn (downTo2 n) (by unfold downTo2; rw [List.pairwise_reverse]; exact List.pairwise_lt_range') (fun k hk => by unfold downTo2 at hk; simp [List.mem_range'_1] at hk; omega)
  refine ⟨h1, h2, h3, fun m hm ha hne => h4 m hm ha ?_⟩
  have h0 : m.length ≠ 0 := fun e => hne (List.length_eq_zero_iff.1 e)
  rcases Incr.len hm with h | h
  · by_cases e : m.length = 1
    · exact .inr e
    · left; unfold downTo2; simp [List.mem_range'_1]; omega
  · exact absurd h hne
/-- no right reading has fewer breaths than there are lone words -/
theorem alone_le {may : Nat → Nat → Bool} {n : Nat} : ∀ (l : List Int) (a : Nat) (m : List Int), a ≤ n → Parts ((n : Int) - a) l → okFrom may a l = true → Incr a n m → Alone may n m → m.length ≤ l.length
  | [], a, m, ha, hp, _, hm, _ => by
    have h1 := hp.2
    simp only [isum, List.foldl_nil] at h1
    cases m with
    | nil => simp
    | cons x m => obtain ⟨h2, h3, _⟩ := hm; omega
  | x :: l, a, m, ha, hp, ho, hm, hal => by
    rw [okFrom, Bool.and_eq_true] at ho
    rw [parts_cons] at hp
    have hp2 := parts_pos hp.2
    cases m with
    | nil => simp
    | cons y m =>
      obtain ⟨h2, h3, h4⟩ := hm
      have hal' : Alone may n m := fun p q hpq hq hm' i j hij hj h => hal p q hpq hq hm' (i + 1) (j + 1) (by omega) (by simpa using hj) (by simpa using h)
      have key : Incr ((a + x.toNat : Nat) : Int) n m := by
        cases m with
        | nil => trivial
        | cons z m =>
          obtain ⟨k2, k3, k4⟩ := h4
          refine ⟨?_, k3, k4⟩
          by_cases hz : z < ((a + x.toNat : Nat) : Int)
          · exact absurd ⟨by simpa using h2, by simpa using hz⟩ (hal a (a + x.toNat) (by omega) (by omega) ho.1 0 1 (by omega) (by simp))
          · omega
      have := alone_le l (a + x.toNat) m (by omega) (by rw [show (n : Int) - ((a + x.toNat : Nat) : Int) = (n : Int) - a - x by omega]; exact hp.2) ho.2 key hal'
      simp only [List.length_cons]; omega
end Go.Proofs.Ytadnggecnjdhiaa
set_option linter.unusedSimpArgs false
set_option linter.unusedVariables false
namespace Go.Proofs.Ytadnggecnjdhiaa
open Go.RowKit Tx
attribute [local go_sem] Oper.semAt_some

theorem und_twelve : Try.prog.underlying 176 = some (.array 12 3) := by kernel_rfl
theorem size_twelve {A : Array Value} (h : A.size = 12) : (Try.prog.info? 176).map (·.size) = some A.size := by rw [h]; kernel_rfl
/-- numbers that aren't great -/
def Sm12 (m : List Int) : Prop := m.length = 12 ∧ ∀ k, k < 12 → 0 ≤ m.getD k 0 ∧ m.getD k 0 ≤ 1000
theorem sm12_lastW {m : List Int} (h : Sm12 m) (b w : Nat) (hb : b ≤ 13) : Sm12 (lastW b m w) := by
  refine ⟨by simp [lastW, h.1], fun k hk => ?_⟩
  unfold lastW
  have h1 := h.2 k hk
  simp only [List.getD_eq_getElem?_getD, List.getElem?_set] at *
  by_cases hkb : w = k
  · subst hkb; rw [if_pos rfl, if_pos (by rw [h.1]; exact hk)]; simp; omega
  · rw [if_neg hkb]; exact h1
theorem sm12_fold {m : List Int} (h : Sm12 m) (b : Nat) (hb : b ≤ 13) : ∀ l : List Nat, Sm12 (l.foldl (lastW b) m) := by
  intro l
  induction l generalizing m with
  | nil => exact h
  | cons x l ih => exact ih (sm12_lastW h b x hb)
/-- the first k words are the last ones of themselves -/
def lastK (k : Nat) : List Int := (List.range 12).map fun w => if w < k then (w : Int) else 0
theorem lastK_set (k : Nat) (hk : k < 12) : (lastK k).set k (k : Int) = lastK (k + 1) := by
  unfold lastK
  apply List.ext_getElem (by simp)
  intro i h1 h2
  simp only [List.getElem_set, List.getElem_map, List.getElem_range]
  by_cases hi : k = i
  · subst hi; simp
  · rw [if_neg hi]
    by_cases hik : i < k
    · rw [if_pos hik, if_pos (by omega)]
    · rw [if_neg hik, if_neg (by omega)]
theorem lastK_zero : lastK 0 = List.replicate 12 0 := by decide
theorem lastK_sm (k : Nat) (hk : k ≤ 12) : Sm12 (lastK k) := by
  refine ⟨by simp [lastK], fun i hi => ?_⟩
  unfold lastK
  simp only [List.getD_eq_getElem?_getD, List.getElem?_map, List.getElem?_range hi, Option.map_some, Option.getD_some]
  split <;> omega
theorem hold_bel {B M : Nat} {w w' : World} (h : Hold (fun k => k ≠ M) w w') (hM : B ≤ M) (hB : B ≤ w.heap.size) : Below B w w' :=
  ⟨h.os, h.tape, h.output, h.size, fun k hk => h.same k (show k ≠ M by omega) (by omega)⟩
/-- what holds in lastTogether -/
structure LtC (n cw : Nat) (pw : Option Addr) (v1 v2 mv : Value) (w W : World) (M : List Int) (C : Nat) (ds : List Deferred) : Prop where
  wk : W.heap[w.heap.size]? = some (.cells #[.slice pw n cw, v1, v2, mv] 125 (0, 0))
  mks : W.heap[w.heap.size + 1 + 1]? = some (.cells (arrOf M) 176 (0, 0))
  res : W.heap[w.heap.size + 1]? = some (.cells (arrOf (List.replicate 12 0)) 176 (0, 0))
  bel : Below w.heap.size w W
  ends : Ends (w.heap.size + 1 + 1 + 1) W C ds
  sz : w.heap.size + 1 + 1 + 1 ≤ W.heap.size ∧ C ≤ W.heap.size
  small : Sm12 M
theorem LtC.below {n cw : Nat} {pw : Option Addr} {v1 v2 mv : Value} {w W W' : World} {M : List Int} {C : Nat} {ds : List Deferred} (h : LtC n cw pw v1 v2 mv w W M C ds) {B : Nat} (h3 : w.heap.size + 1 + 1 + 1 ≤ B) (hC : C ≤ B) (hB : Below B W W') : LtC n cw pw v1 v2 mv w W' M C ds :=
  ⟨(hB.block _ (by omega)).trans h.wk, (hB.block _ (by omega)).trans h.mks, (hB.block _ (by omega)).trans h.res, h.bel.trans (hB.mono (by omega)), h.ends.keep (fun k _ hk => hB.block k (by omega)),
    ⟨Nat.le_trans h.sz.1 hB.size, Nat.le_trans h.sz.2 hB.size⟩, h.small⟩

set_option maxHeartbeats 4000000 in
set_option maxRecDepth 100000 in
theorem lastTogether_any (may : Nat → Nat → Bool) (n cw : Nat) (hn : n ≤ 12) (pw : Option Addr) (v1 v2 mv : Value) (w : World) (hMay : MayAt mv may n (fun k => k < w.heap.size) w) :
    Calls Try.prog 150 #[.agg #[.slice pw n cw, v1, v2, mv]] w fun e w' => e = .returned (.agg (arrOf (lastT may n))) ∧ Below w.heap.size w w' := by
  have HMAY := Lib.hid hMay
  clear hMay
  obtain ⟨m, hm9⟩ : ∃ m : Nat, 9 ≤ m := ⟨9, Nat.le_refl _⟩
  refine (callsIn_wide (n := m)).1 ?_
  refine callsIn_of_wp_marks Try.func150 rfl trivial ?_ rfl
  simp only [Try.ntmps150, List.size_toArray, List.length_cons, List.length_nil, Nat.reduceAdd, Nat.reduceSub, Array.replicate_succ, Array.replicate_zero, List.push_toArray, List.append_toArray, List.nil_append, List.cons_append]
  gi_wp2_with fail
  have hB3 : ∀ o1 o2 o3, Below w.heap.size w (((w.alloc o1).alloc o2).alloc o3) := fun o1 o2 o3 => (((below1 _ _).alloc (by simp) _).alloc (by simp; omega) _)
  generalize hW3 : ((w.alloc (Obj.cells #[Value.slice pw n cw, v1, v2, mv] 125)).alloc (Obj.cells #[Value.int IntKind.i64 0, Value.int IntKind.i64 0, Value.int IntKind.i64 0, Value.int IntKind.i64 0, Value.int IntKind.i64 0, Value.int IntKind.i64 0, Value.int IntKind.i64 0, Value.int IntKind.i64 0, Value.int IntKind.i64 0, Value.int IntKind.i64 0, Value.int IntKind.i64 0, Value.int IntKind.i64 0] 176)).alloc (Obj.cells #[Value.int IntKind.i64 0, Value.int IntKind.i64 0, Value.int IntKind.i64 0, Value.int IntKind.i64 0, Value.int IntKind.i64 0, Value.int IntKind.i64 0, Value.int IntKind.i64 0, Value.int IntKind.i64 0, Value.int IntKind.i64 0, Value.int IntKind.i64 0, Value.int IntKind.i64 0, Value.int IntKind.i64 0] 176) = W3
  have hA3 : LtC n cw pw v1 v2 mv w W3 (lastK 0) W3.heap.size [] := by
    have hb3 : Below w.heap.size w W3 := by rw [← hW3]; exact hB3 _ _ _
    refine ⟨?_, ?_, ?_, hb3, trivial, ⟨?_, Nat.le_refl _⟩, lastK_sm 0 (by omega)⟩
    · rw [← hW3, Below.heap_alloc _ _ _ (by first | (simp; done) | (simp; omega)), Below.heap_alloc _ _ _ (by simp)]; exact heap_last _ _
    · rw [← hW3, lastK_zero]
      have := heap_last ((w.alloc (Obj.cells #[Value.slice pw n cw, v1, v2, mv] 125)).alloc (Obj.cells (arrOf (List.replicate 12 0)) 176)) (Obj.cells (arrOf (List.replicate 12 0)) 176)
      rwa [World.size_alloc, World.size_alloc] at this
    · rw [← hW3, Below.heap_alloc _ _ _ (by simp)]
      have := heap_last (w.alloc (Obj.cells #[Value.slice pw n cw, v1, v2, mv] 125)) (Obj.cells (arrOf (List.replicate 12 0)) 176)
      rwa [World.size_alloc] at this
    · rw [← hW3]; simp
  clear hW3 hB3
  gi_loopw [12] (fun i wr => ∃ k : Nat, k ≤ n ∧ i = .int .i64 k ∧ Hid (LtC n cw pw v1 v2 mv w wr (lastK k) wr.heap.size [])) (fun i _ => n - (intOf i).toNat)
  case atStart => exact ⟨0, Nat.zero_le _, rfl, Lib.hid hA3⟩
  case round =>
    clear hA3
    obtain ⟨k, hk, rfl, HA⟩ := hrel
    have hsz0 := HA.out.sz.1
    by_cases hlt : k < n
    · have hlt' : (k : Int) < n := by omega
      have hk12 : (k : Int) < 12 := by omega
      have hk12' : k < 12 := by omega
      obtain ⟨Mb, hMb⟩ : ∃ Mb, Mb = w.heap.size + 1 + 1 := ⟨_, rfl⟩
      have HMb := Lib.hid hMb
      have hcb := blk_cells HA.out.mks k _ (arrOf_get (by simp [lastK]; omega))
      have hfz : wr.frozen? ⟨Mb, k, none⟩ = false := by simp [World.frozen?, hMb, HA.out.mks]
      rw [← hMb] at hcb
      have hMl : Mb < wr.heap.size := by omega
      have hblk := heap_set_same (w := wr) (g := Mb) (o := k) (.int .i64 (k : Int)) (cs := arrOf (lastK k)) (t := 176) (by rw [hMb]; exact HA.out.mks)
      rw [arrOf_set, lastK_set k hk12'] at hblk
      have hH : Hold (fun j => j ≠ Mb) wr (wr.setCell ⟨Mb, k, none⟩ (.int .i64 (k : Int))) := Hold.setCell _ _ _ (fun h => h rfl)
      have HNEW : Hid (LtC n cw pw v1 v2 mv w (wr.setCell ⟨Mb, k, none⟩ (.int .i64 (k : Int))) (lastK (k + 1)) (wr.setCell ⟨Mb, k, none⟩ (.int .i64 (k : Int))).heap.size []) := Lib.hid
        ⟨(hH.same _ (by omega) (by omega)).trans HA.out.wk, by rw [← hMb]; exact hblk, (hH.same _ (by omega) (by omega)).trans HA.out.res, HA.out.bel.setCell (p := ⟨Mb, k, none⟩) (show w.heap.size ≤ Mb by omega) _, trivial, ⟨by have := hH.size; omega, Nat.le_refl _⟩, lastK_sm _ (by omega)⟩
      clear hblk hH
      rw [← hMb]
      clear hMb
      gi_wp2
      go_roundw
      case rel => exact ⟨k + 1, by omega, by go_num, HNEW⟩
      case measure => simp [intOf]; omega
    · have hkn : n = k := by omega
      subst hkn
      obtain ⟨f0, f1, f2, f3⟩ : wr.cell? ⟨w.heap.size, 0, none⟩ = some (.slice pw n cw) ∧ wr.cell? ⟨w.heap.size, 1, none⟩ = some v1 ∧ wr.cell? ⟨w.heap.size, 2, none⟩ = some v2 ∧ wr.cell? ⟨w.heap.size, 3, none⟩ = some mv :=
        ⟨blk_cells HA.out.wk 0 _ rfl, blk_cells HA.out.wk 1 _ rfl, blk_cells HA.out.wk 2 _ rfl, blk_cells HA.out.wk 3 _ rfl⟩
      have hs00 : w.heap.size < wr.heap.size := by omega
      gi_wp2_with fail
      refine ⟨trivial, (fun h => by cases h), ?_⟩
      refine (callsIn_wide.2 (end_any _ _ _ _ _ _ _)).mono ?_
      rintro e W6 ⟨rfl, hw6⟩
      have hA6 : LtC n cw pw v1 v2 mv w W6 (lastK n) W6.heap.size [] := by
        have hb6 : Below wr.heap.size wr W6 := by rw [← hw6]; exact below1 _ _
        have := HA.out.below (C := wr.heap.size) hsz0 (Nat.le_refl _) hb6
        exact ⟨this.wk, this.mks, this.res, this.bel, trivial, ⟨this.sz.1, Nat.le_refl _⟩, this.small⟩
      clear hw6 f0 f1 f2 f3 HA hs00 hsz0
      gi_wp2_with fail
      refine wpIn_loop (fun a' w' => ∃ (k : Nat) (ds : List Deferred) (u4 u5 u6 u7 u8 u9 u10 u11 u12 u13 u14 u15 u16 u17 u18 u19 u22 u23 u24 u25 u26 u27 u28 u29 u30 u31 u32 u33 u34 u35 u36 u37 u38 u39 u40 u41 u42 u43 : Value), k ≤ n ∧ a' = { tmps := #[.agg #[.slice pw n cw, v1, v2, mv], .pointer (some ⟨w.heap.size, 0, none⟩), .pointer (some ⟨w.heap.size + 1, 0, none⟩), .pointer (some ⟨w.heap.size + 1 + 1, 0, none⟩), u4, u5, u6, u7, u8, u9, u10, u11, u12, u13, u14, u15, u16, u17, u18, u19, .int .i64 n, .int .i64 k, u22, u23, u24, u25, u26, u27, u28, u29, u30, u31, u32, u33, u34, u35, u36, u37, u38, u39, u40, u41, u42, u43], defers := ds } ∧ LtC n cw pw v1 v2 mv w w' ((List.range k).foldl (lastRow may n) (lastK n)) w'.heap.size ds) (fun a' _ => n - (intOf (a'.tmps.getD 21 undef)).toNat) ⟨0, [], _, _, _, _, _, _, _, _, _, _, _, _, _, _, _, _, _, _, _, _, _, _, _, _, _, _, _, _, _, _, _, _, _, _, _, _, _, _, Nat.zero_le _, rfl, hA6⟩ ?_
      clear hA6
      rintro a' wo ⟨k, ds, u4, u5, u6, u7, u8, u9, u10, u11, u12, u13, u14, u15, u16, u17, u18, u19, u22, u23, u24, u25, u26, u27, u28, u29, u30, u31, u32, u33, u34, u35, u36, u37, u38, u39, u40, u41, u42, u43, hk, rfl, hA⟩
      have HA := Lib.hid hA
      have hsz0 := hA.sz.1
      have f0 := blk_cells hA.wk 0 _ rfl
      have f1 := blk_cells hA.wk 1 _ rfl
      have f2 := blk_cells hA.wk 2 _ rfl
      have f3 := blk_cells hA.wk 3 _ rfl
      clear hA
      generalize hMk : (List.range k).foldl (lastRow may n) (lastK n) = Mk at HA
      have HMK := Lib.hid hMk
      clear hMk
      by_cases hlt : k < n
      · have hlt' : (k : Int) < n := by omega
        have hs0 : w.heap.size < wo.heap.size := by omega
        gi_wp2_with fail
        refine ⟨trivial, (fun h => by cases h), ?_⟩
        refine (callsIn_wide.2 (breaths_any _ _ _ _ _ _)).mono ?_
        rintro e W4 ⟨rfl, hW4⟩
        have hB4 : Below wo.heap.size wo W4 := by rw [← hW4]; exact (((below1 _ _).alloc (by simp) _).alloc (by simp; omega) _)
        have hs4 : W4.heap.size = wo.heap.size + 3 := by rw [← hW4]; simp
        have k0 : W4.cell? ⟨wo.heap.size, 0, none⟩ = some (.int .i64 k) := by rw [← hW4]; clear hW4; go_simp
        have hC4 : BrCap W4 n cw pw v1 v2 mv k (wo.heap.size + 1 + 1) (wo.heap.size + 1) := by
          refine ⟨?_, ?_⟩
          · rw [← hW4]
            have := heap_last ((wo.alloc (Obj.cells #[Value.int IntKind.i64 k] 3)).alloc (Obj.cells #[Value.slice pw n cw, v1, v2, mv] 125)) (Obj.cells #[Value.int IntKind.i64 k] 3)
            rwa [World.size_alloc, World.size_alloc] at this
          · rw [← hW4, Below.heap_alloc _ _ _ (by simp)]
            have := heap_last (wo.alloc (Obj.cells #[Value.int IntKind.i64 k] 3)) (Obj.cells #[Value.slice pw n cw, v1, v2, mv] 125)
            rwa [World.size_alloc] at this
        have hM4 : MayAt mv may n (fun j => j ≠ w.heap.size + 1 + 1 ∧ j < W4.heap.size) W4 :=
          (HMAY.out.hold (.of_below (HA.out.bel.trans (hB4.mono (by omega))) (fun _ h _ => h))).mono (fun j hj _ => ⟨by omega, by omega⟩)
        have hA4 := HA.out.below (C := wo.heap.size) hsz0 (Nat.le_refl _) hB4
        clear hW4 f0 f1 f2 f3
        gi_wp2_with fail
        refine range_of (gf := 166) (lb := #[.pointer (some ⟨wo.heap.size + 1 + 1, 0, none⟩), .pointer (some ⟨wo.heap.size + 1, 0, none⟩)]) rfl (enters_of Try.func166 (by kernel_rfl) rfl)
          (breaths_seq (m - 1) (fun j => j ≠ w.heap.size + 1 + 1) may n cw hn pw v1 v2 mv k _ _ hk W4 ⟨by omega, by omega⟩ hC4 hM4) (Below.refl _ _) (fun x vs W h => by rw [h]; rfl)
          (fun pre W' => LtC n cw pw v1 v2 mv w W' (pre.foldl (fun m b => lastB k b m) Mk) W4.heap.size ds ∧ W'.cell? ⟨wo.heap.size, 0, none⟩ = some (.int .i64 k) ∧ W4.heap.size ≤ W'.heap.size)
          (fun _ _ _ => False) ?lwI ?lwX ⟨⟨hA4.wk, hA4.mks, hA4.res, hA4.bel, hA4.ends.mono (by omega), ⟨by omega, Nat.le_refl _⟩, hA4.small⟩, k0, Nat.le_refl _⟩ ?round ?done ?stop
        case lwI =>
          rintro s' X Y ⟨i1, i2, i3⟩ hb
          exact ⟨i1.below (by omega) (Nat.le_refl _) hb, (hb.cell (p := ⟨wo.heap.size, 0, none⟩) (show wo.heap.size < W4.heap.size by omega)).trans i2, Nat.le_trans i3 hb.size⟩
        case lwX => rintro c s' X Y h; exact h.elim
        case stop => rintro D c pre W' hD h; exact h.elim
        case done =>
          rintro D W' hD ⟨i1, i2, i3⟩ hK
          have hDl := (Array.getElem?_eq_some_iff.1 hK).1
          have hnext : (List.range (k + 1)).foldl (lastRow may n) (lastK n) = (brs may n k).foldl (fun m b => lastB k b m) Mk := by
            rw [List.range_succ, List.foldl_append, HMK.out]; rfl
          gi_wp2
          refine ⟨⟨k + 1, _, _, _, _, _, _, _, _, _, _, _, _, _, _, _, _, _, _, _, _, _, _, _, _, _, _, _, _, _, _, _, _, _, _, _, _, _, _, _, by omega, rfl, by rw [hnext]; exact ⟨i1.wk, i1.mks, i1.res, i1.bel, ⟨D, rfl, by omega, hDl, hK, i1.ends.mono (Nat.le_of_eq hD.symm)⟩, ⟨i1.sz.1, Nat.le_refl _⟩, i1.small⟩⟩, ?_⟩
          simp [intOf]
          omega
        case round =>
          rintro lq pre b post vs W5 hl1 hl2 - hL rfl ⟨i1, i2, i3⟩
          have hb : k < b ∧ b ≤ n := by
            have : b ∈ brs may n k := by rw [hL]; simp
            unfold brs at this
            have := (List.mem_filter.1 this).1
            rw [List.mem_range'_1] at this; omega
          obtain ⟨hb1, hb2⟩ := hb
          clear i1 i2 i3 hA4 hC4 hM4
          gi_wp2
          refine ⟨Below.refl _ _, ?_⟩
          rintro Wb hg hsz ⟨j1, j2, j3⟩
          have J1 := Lib.hid j1
          have J2 := Lib.hid j2
          have hca0 := j2
          clear j1 hg j2
          gi_wp2_with fail
          gi_loopw [7] (fun i W' => ∃ c : Nat, k ≤ c ∧ c ≤ b ∧ i = .int .i64 c ∧ Hid (Hold (fun j => j ≠ w.heap.size + 1 + 1) Wb W') ∧ Hid (W'.heap[w.heap.size + 1 + 1]? = some (.cells (arrOf ((List.range' k (c - k)).foldl (lastW b) (pre.foldl (fun m b => lastB k b m) Mk))) 176 (0, 0)))) (fun i _ => b - (intOf i).toNat)
          case atStart => exact ⟨k, Nat.le_refl _, by omega, rfl, Lib.hid (Hold.refl _ _), Lib.hid (by rw [Nat.sub_self]; exact J1.out.mks)⟩
          case round =>
            obtain ⟨c, hkc, hcb, rfl, HHc, HMc⟩ := hrel
            have hzc := HHc.out.size
            have hz0 := J1.out.sz.1
            have hb12 : b ≤ 12 := by omega
            have HSMc := Lib.hid (show Sm12 ((List.range' k (c - k)).foldl (lastW b) (pre.foldl (fun m b => lastB k b m) Mk)) from sm12_fold J1.out.small b (by omega) _)
            by_cases hcl : c < b
            · have hcl' : (c : Int) < b := by omega
              have hc12 : (c : Int) < 12 := by omega
              obtain ⟨Mb, hMb⟩ : ∃ Mb, Mb = w.heap.size + 1 + 1 := ⟨_, rfl⟩
              have HMb := Lib.hid hMb
              have HST : Hid ((List.range' k (c + 1 - k)).foldl (lastW b) (pre.foldl (fun m b => lastB k b m) Mk) = lastW b ((List.range' k (c - k)).foldl (lastW b) (pre.foldl (fun m b => lastB k b m) Mk)) c) := Lib.hid (by
                rw [show c + 1 - k = (c - k) + 1 by omega, List.range'_concat, List.foldl_append, show k + 1 * (c - k) = c by omega]; rfl)
              have hcell := blk_cells HMc.out c _ (arrOf_get (by rw [HSMc.out.1]; omega))
              obtain ⟨L, hL2⟩ : ∃ L, L = (List.range' k (c - k)).foldl (lastW b) (pre.foldl (fun m b => lastB k b m) Mk) := ⟨_, rfl⟩
              rw [← hL2] at HST HMc hcell HSMc
              have hfz : wr.frozen? ⟨Mb, c, none⟩ = false := by simp [World.frozen?, hMb, HMc.out]
              have hblk := heap_set_same (w := wr) (g := Mb) (o := c) (.int .i64 (max (L.getD c 0) ((b : Int) - 1))) (cs := arrOf L) (t := 176) (by rw [hMb]; exact HMc.out)
              rw [arrOf_set] at hblk
              have hH := Hold.setCell (Kp := fun j => j ≠ Mb) wr ⟨Mb, c, none⟩ (.int .i64 (max (L.getD c 0) ((b : Int) - 1))) (fun h => h rfl)
              have HBLK := Lib.hid hblk
              have HHN := Lib.hid hH
              rw [← hMb] at hcell
              have hsub : IntKind.i64.wrap ((b : Int) - 1) = (b : Int) - 1 := IntWalk.i64_in _ (by omega)
              have hMl : Mb < wr.heap.size := by omega
              obtain ⟨x, hx⟩ : ∃ x, x = L.getD c 0 := ⟨_, rfl⟩
              rw [← hx] at hcell HBLK HHN
              have HX := Lib.hid hx
              have hmax : (if x < (b : Int) - 1 then (b : Int) - 1 else x) = max x ((b : Int) - 1) := by rw [Int.max_def]; split <;> split <;> omega
              clear hblk hH hL2 hx
              rw [← hMb]
              clear hMb
              gi_wp2
              go_roundw
              case rel => exact ⟨c + 1, by omega, by omega, by go_num, Lib.hid (by have h := HHc.out; rw [← HMb.out] at h; exact h.trans HHN.out), Lib.hid (by rw [HST.out]; unfold lastW; rw [← HX.out]; exact HBLK.out)⟩
              case measure => simp [intOf]; omega
            · have hbc : b = c := by omega
              subst hbc
              have hnew : (pre ++ [b]).foldl (fun m b => lastB k b m) Mk = (List.range' k (b - k)).foldl (lastW b) (pre.foldl (fun m b => lastB k b m) Mk) := by rw [List.foldl_append]; rfl
              have HNEW := Lib.hid hnew
              clear hnew
              gi_wp2
              refine ⟨HHc.out.mono (fun j hj _ => by rcases hj with h | h <;> omega), ⟨(HHc.out.same _ (by omega) (by omega)).trans J1.out.wk, by rw [HNEW.out]; exact HMc.out, (HHc.out.same _ (by omega) (by omega)).trans J1.out.res, ?_, J1.out.ends.keep (fun j h1 h2 => HHc.out.same j (by omega) (by omega)), ⟨by omega, by omega⟩, by rw [HNEW.out]; exact HSMc.out⟩,
                (HHc.out.cell (p := ⟨wo.heap.size, 0, none⟩) (show wo.heap.size ≠ w.heap.size + 1 + 1 by omega) (show wo.heap.size < Wb.heap.size by omega)).trans J2.out, by omega⟩
              exact J1.out.bel.trans (hold_bel HHc.out (by omega) (by omega))
      · have hkn : n = k := by omega
        subst hkn
        have hAsz : (arrOf Mk).size = 12 := by rw [arrOf_size]; exact HA.out.small.1
        have hi := size_twelve hAsz
        have hone := arrOf_one Mk
        have hthere : wo.there (w.heap.size + 1) 0 (arrOf Mk).size := fun j hj => by
          have hr := HA.out.res
          rw [Nat.zero_add, blk_cells hr j _ (arrOf_get (by simp; omega))]
          exact ⟨by simp, by simp [World.frozen?, hr]⟩
        have HROW := Lib.hid HA.out.mks
        have HI := Lib.hid hi
        have HTH := Lib.hid hthere
        have HON := Lib.hid hone
        have HSZ := Lib.hid hAsz
        clear hi hthere hone hAsz f0 f1 f2 f3
        generalize hBA : arrOf Mk = BA at HROW HI HTH HON HSZ
        have HBA := Lib.hid hBA
        clear hBA
        refine wpIn_wide.2 ?_
        go_wp2
        refine wpIn_wide.2 ?_
        go_wp2_with (first | (with_reducible refine wpList_load_row rfl 176 _ rfl (w.heap.size + 1 + 1) rfl 176 BA (0, 0) _ HROW.out und_twelve rfl HI.out ?_) | (with_reducible refine wpList_store_mid rfl 176 _ _ rfl (w.heap.size + 1) 0 BA rfl rfl HTH.out HI.out HON.out ?_))
        have hz := HA.out.sz.1
        have hH : Hold (fun j => j ≠ w.heap.size + 1) wo (wo.setCells (w.heap.size + 1) 0 BA.toList) := hold_setCells _ _ _ _
        have hres2 : (wo.setCells (w.heap.size + 1) 0 BA.toList).heap[w.heap.size + 1]? = some (.cells BA 176 (0, 0)) := by
          rw [heap_setCells _ _ _ _ _ _ _ HA.out.res, setFrom_all _ _ (by rw [Array.length_toList, HSZ.out]; simp [arrOf_size])]
        refine leaves_ends (B := w.heap.size + 1 + 1 + 1) (by simp) _ wo.heap.size _ (HA.out.ends.keep (fun j h1 h2 => hH.same j (by omega) h2)) hH.size (fun w' hh => ?_)
        have hres := (hh.same _ (show w.heap.size + 1 < w.heap.size + 1 + 1 + 1 by omega) (by have := hH.size; omega)).trans hres2
        refine ⟨.agg BA, results_cell_row rfl _ _ (w.heap.size + 1) 176 BA (0, 0) _ rfl hres und_twelve rfl HI.out, ?_⟩
        exact ⟨by rw [← HBA.out, ← HMK.out]; rfl, (below_setCells' (by omega) _ _ _ HA.out.bel).trans ((hh.to_below (by have := hH.size; omega)).mono (by omega))⟩
end Go.Proofs.Ytadnggecnjdhiaa
set_option linter.unusedSimpArgs false
set_option linter.unusedVariables false
namespace Go.Proofs.Ytadnggecnjdhiaa
open Go.RowKit Tx

theorem apart_cut (last l : List Int) (i : Nat) (hi : i < l.length - 1) : apartB last l = true → last.getD (l.getD i 0).toNat 0 < l.getD (i + 1) 0 := by
  unfold apartB
  intro h
  rw [List.all_eq_true] at h
  exact of_decide_eq_true (h i (List.mem_range.2 hi))
theorem apart_all (last l : List Int) (h : ∀ i, i < l.length - 1 → last.getD (l.getD i 0).toNat 0 < l.getD (i + 1) 0) : apartB last l = true := by
  unfold apartB
  rw [List.all_eq_true]
  intro i hi
  exact decide_eq_true (h i (List.mem_range.1 hi))
set_option maxHeartbeats 2000000 in
set_option maxRecDepth 100000 in
theorem apart_any (last l : List Int) (hlast : last.length = 12) (k : Nat) (hk : l.length = k) (hk2 : 2 ≤ k) (hk12 : k ≤ 1000) (hl : ∀ x ∈ l, 0 ≤ x ∧ x < 12) (b o : Nat) (w : World) (hb : b < w.heap.size) (hL : ∀ i, i < l.length → w.cell? ⟨b, o + i, none⟩ = some (.int .i64 (l.getD i 0))) :
    Calls Try.prog 152 #[.slice (some ⟨b, o, none⟩) k k, .agg (arrOf last)] w fun e w' => e = .returned (.bool (apartB last l)) ∧ Below w.heap.size w w' := by
  have HL := Lib.hid hL
  have HLEN := Lib.hid hk
  have HIN := Lib.hid hl
  have HB1 := Lib.hid (below1 w (.cells (arrOf last) 176))
  have HX := Lib.hid (heap_last w (.cells (arrOf last) 176))
  have hz1 : (w.alloc (.cells (arrOf last) 176)).heap.size = w.heap.size + 1 := by simp
  have h1k : (1 : Int) ≤ (k : Int) := by omega
  have h1k2 : 1 < k := by omega
  have h1k3 : (1 : Int) < (k : Int) := by omega
  have hne1 : ¬ k = 1 := by omega
  clear hL hk hl
  go_enter Try.func152, Try.ntmps152
  go_wp2_with fail
  generalize w.alloc (.cells (arrOf last) 176) = W1 at HB1 HX hz1 ⊢
  go_loopw [10] (fun i wr => ∃ j : Nat, j ≤ k - 1 ∧ i = .int .i64 j ∧ Hid (∀ q, q < j → last.getD (l.getD q 0).toNat 0 < l.getD (q + 1) 0) ∧ Hid (Below W1.heap.size W1 wr)) (fun i _ => k - (intOf i).toNat)
  case atStart => exact ⟨0, Nat.zero_le _, rfl, Lib.hid (fun q hq => absurd hq (Nat.not_lt_zero _)), Lib.hid (Below.refl _ _)⟩
  case round =>
    obtain ⟨j, hj, rfl, HQ, HB⟩ := hrel
    have hzr := HB.out.size
    have HBw := Lib.hid (join HB1.out HB.out)
    by_cases hlt : j < k - 1
    · have hlt' : (j : Int) < ((k - 1 : Nat) : Int) := by omega
      have hjk : (j : Int) < (k : Int) := by omega
      have hlen := HLEN.out
      have c1 := (HBw.out.cell (p := ⟨b, o + (j + 1), none⟩) hb).trans (HL.out (j + 1) (by omega))
      have c0 := (HBw.out.cell (p := ⟨b, o + j, none⟩) hb).trans (HL.out j (by omega))
      have hx := HIN.out _ (getD_mem (xs := l) 0 (show j < l.length by omega))
      obtain ⟨x, hxe⟩ : ∃ x : Nat, l.getD j 0 = (x : Int) := ⟨(l.getD j 0).toNat, by omega⟩
      obtain ⟨y, hye⟩ : ∃ y, y = l.getD (j + 1) 0 := ⟨_, rfl⟩
      rw [hxe] at c0 hx
      rw [← hye] at c1
      have hx12 : x < 12 := by omega
      have hx12' : (x : Int) < 12 := by omega
      have cl := blk_cells ((HB.out.block w.heap.size (by omega)).trans HX.out) x _ (arrOf_get (M := last) (by omega))
      obtain ⟨z, hze⟩ : ∃ z, z = last.getD x 0 := ⟨_, rfl⟩
      rw [← hze] at cl
      have ho : o + 1 + j = o + (j + 1) := by omega
      rw [← ho] at c1
      have HZ : Hid (last.getD (l.getD j 0).toNat 0 = z ∧ l.getD (j + 1) 0 = y) := Lib.hid ⟨by rw [hxe, hze]; rfl, hye.symm⟩
      have hsz1 : w.heap.size < wr.heap.size := by omega
      clear hlen hx hxe hye hze ho
      by_cases hyz : y ≤ z
      · have HF : Hid (apartB last l = false) := Lib.hid (by
          cases h : apartB last l with
          | false => rfl
          | true =>
            have := apart_cut last l j (by have := HLEN.out; omega) h
            rw [HZ.out.1, HZ.out.2] at this; omega)
        go_wp2
        go_ret
        exact ⟨ret_bool (by rw [HF.out]), HBw.out⟩
      · have HQ2 : Hid (∀ q, q < j + 1 → last.getD (l.getD q 0).toNat 0 < l.getD (q + 1) 0) := Lib.hid (fun q hq => by
          by_cases hqj : q = j
          · rw [hqj, HZ.out.1, HZ.out.2]; omega
          · exact HQ.out q (by omega))
        go_wp2
        go_roundw
        case rel => exact ⟨j + 1, by omega, by go_num, HQ2, HB⟩
        case measure => simp [intOf]; omega
    · have HF : Hid (apartB last l = true) := Lib.hid (apart_all last l (fun q hq => HQ.out q (by have := HLEN.out; omega)))
      go_wp2
      go_ret
      exact ⟨ret_bool (by rw [HF.out]), HBw.out⟩
end Go.Proofs.Ytadnggecnjdhiaa
set_option linter.unusedSimpArgs false
set_option linter.unusedVariables false
namespace Go.Proofs.Ytadnggecnjdhiaa
open Go.RowKit Tx
attribute [local go_sem] Oper.semAt_some

/-- the numbers of words that are tried, from the greatest one down -/
def downK (k : Nat) : List Nat := (List.range' 2 (k - 1)).reverse
theorem downK_succ (k : Nat) (h : 2 ≤ k) : downK k = k :: downK (k - 1) := by
  unfold downK
  rw [show k - 1 = (k - 1 - 1) + 1 by omega, List.range'_concat, List.reverse_append, show 2 + 1 * (k - 1 - 1) = k by omega]
  simp
theorem downK_one (k : Nat) (h : k ≤ 1) : downK k = [] := by unfold downK; rw [show k - 1 = 0 by omega]; rfl
theorem lone_step {last : List Int} {n k : Nat} (h2 : 2 ≤ k) (h : ∀ L ∈ Tx.lists n k 0, apartB last L = false) : loneGo last n (downK k) = loneGo last n (downK (k - 1)) := by
  rw [downK_succ k h2, loneGo, List.find?_eq_none.2 (fun x hx => by rw [h x hx]; simp)]
theorem lone_hit {last : List Int} {n k : Nat} {pre post : List (List Int)} {L : List Int} (h2 : 2 ≤ k) (hL : Tx.lists n k 0 = pre ++ L :: post) (h : ∀ x ∈ pre, apartB last x = false) (hP : apartB last L = true) : loneGo last n (downK k) = L := by
  rw [downK_succ k h2, loneGo, hL, List.find?_append, List.find?_eq_none.2 (fun x hx => by rw [h x hx]; simp), List.find?_cons_of_pos hP]
  rfl
/-- what holds in lone -/
structure LoC (n cw : Nat) (pw : Option Addr) (v1 v2 mv : Value) (last : List Int) (LB : Nat) (w W : World) (C : Nat) (ds : List Deferred) : Prop where
  wk : W.heap[w.heap.size]? = some (.cells #[.slice pw n cw, v1, v2, mv] 125 (0, 0))
  r : W.heap[w.heap.size + 1]? = some (.cells #[.slice none 0 0] 28 (0, 0))
  la : W.heap[LB]? = some (.cells (arrOf last) 176 (0, 0))
  bel : Below w.heap.size w W
  ends : Ends (LB + 1) W C ds
  sz : w.heap.size + 1 + 1 ≤ LB ∧ LB + 1 ≤ W.heap.size ∧ C ≤ W.heap.size
theorem LoC.below {n cw : Nat} {pw : Option Addr} {v1 v2 mv : Value} {last : List Int} {LB : Nat} {w W W' : World} {C : Nat} {ds : List Deferred} (h : LoC n cw pw v1 v2 mv last LB w W C ds) {B : Nat} (h3 : LB + 1 ≤ B) (hC : C ≤ B) (hB : Below B W W') : LoC n cw pw v1 v2 mv last LB w W' C ds :=
  ⟨(hB.block _ (by have := h.sz; omega)).trans h.wk, (hB.block _ (by have := h.sz; omega)).trans h.r, (hB.block _ (by omega)).trans h.la, h.bel.trans (hB.mono (by have := h.sz; omega)), h.ends.keep (fun k _ hk => hB.block k (by omega)),
    ⟨h.sz.1, Nat.le_trans h.sz.2.1 hB.size, Nat.le_trans h.sz.2.2 hB.size⟩⟩
/-- what is found, and where it lies -/
def LoHit (last : List Int) (n : Nat) (LB : Nat) (w : World) (B : Nat) (ds : List Deferred) (W : World) : Prop :=
  ∃ L v, loneGo last n (downK n) = L ∧ W.heap[w.heap.size + 1]? = some (.cells #[v] 28 (0, 0)) ∧
    W.ownsRow (B + 2) 3 1 v L.length (L.map (Value.int .i64)) ∧ Below w.heap.size w W ∧ Ends (LB + 1) W B ds ∧ w.heap.size + 1 + 1 ≤ LB ∧ LB + 1 ≤ B ∧ B ≤ W.heap.size
theorem LoHit.hold {last : List Int} {n LB : Nat} {w W W' : World} {B : Nat} {ds : List Deferred} (h : LoHit last n LB w B ds W) (hh : Hold (fun k => k ≠ B + 1) W W') : LoHit last n LB w B ds W' := by
  obtain ⟨L, v, h1, h2, h4, h5, h6, h7, h7', h8⟩ := h
  exact ⟨L, v, h1, (hh.same _ (by omega) (by omega)).trans h2, own_hold h4 hh (fun k hk => by omega), h5.trans ((hh.mono (fun k hk _ => (by omega : k ≠ B + 1)) : Hold (fun k => k < w.heap.size) W W').to_below (by omega)), h6.keep (fun k _ hk => hh.same k (by omega) (by omega)), h7, h7', Nat.le_trans h8 hh.size⟩

set_option maxHeartbeats 4000000 in
set_option maxRecDepth 100000 in
theorem lone_any (may : Nat → Nat → Bool) (n cw : Nat) (hn1 : 1 ≤ n) (hn12 : n ≤ 12) (pw : Option Addr) (v1 v2 mv : Value) (w : World) (hMay : MayAt mv may n (fun k => k < w.heap.size) w) :
    Calls Try.prog 110 #[.agg #[.slice pw n cw, v1, v2, mv]] w (RowPost (loneR may n) w) := by
  obtain ⟨m, hm9⟩ : ∃ m : Nat, 9 ≤ m := ⟨9, Nat.le_refl _⟩
  have HLT := Lib.hid (fun W (h : Below w.heap.size w W) => lastTogether_any may n cw hn12 pw v1 v2 mv W ((hMay.hold (.of_below h (fun _ h _ => h))).mono (fun j hj _ => by have := h.size; omega)))
  have hl12 := (lastT_inv may n hn12).len
  have hLR : loneR may n = loneGo (lastT may n) n (downK n) := rfl
  rw [hLR]
  obtain ⟨last, hlast⟩ : ∃ last, last = lastT may n := ⟨_, rfl⟩
  rw [← hlast] at HLT hl12 ⊢
  obtain ⟨a0, a1, a2, a3, a4, a5, a6, a7, a8, a9, a10, a11, hae⟩ : ∃ a0 a1 a2 a3 a4 a5 a6 a7 a8 a9 a10 a11 : Int, arrOf last = #[.int .i64 a0, .int .i64 a1, .int .i64 a2, .int .i64 a3, .int .i64 a4, .int .i64 a5, .int .i64 a6, .int .i64 a7, .int .i64 a8, .int .i64 a9, .int .i64 a10, .int .i64 a11] := by
    match last, hl12 with
    | [b0, b1, b2, b3, b4, b5, b6, b7, b8, b9, b10, b11], _ => exact ⟨_, _, _, _, _, _, _, _, _, _, _, _, rfl⟩
  have HAE := Lib.hid hae
  clear hMay hLR hlast hae
  refine (callsIn_wide (n := m)).1 ?_
  refine callsIn_of_wp_marks Try.func110 rfl trivial ?_ rfl
  simp only [Try.ntmps110, List.size_toArray, List.length_cons, List.length_nil, Nat.reduceAdd, Nat.reduceSub, Array.replicate_succ, Array.replicate_zero, List.push_toArray, List.append_toArray, List.nil_append, List.cons_append]
  gi_wp2_with fail
  refine ⟨trivial, (fun h => by cases h), ?_⟩
  refine (callsIn_wide.2 (HLT.out _ ((below1 _ _).alloc (by simp) _))).mono ?_
  rintro e W2 ⟨rfl, hB2⟩
  have hx2 := (hB2.block w.heap.size (by simp; omega)).trans (show ((w.alloc (.cells #[.slice pw n cw, v1, v2, mv] 125)).alloc (.cells #[.slice none 0 0] 28)).heap[w.heap.size]? = some (.cells #[.slice pw n cw, v1, v2, mv] 125 (0, 0)) by rw [Below.heap_alloc _ _ _ (by simp)]; exact heap_last _ _)
  have hr2 := (hB2.block (w.heap.size + 1) (by simp)).trans (show ((w.alloc (.cells #[.slice pw n cw, v1, v2, mv] 125)).alloc (.cells #[.slice none 0 0] 28)).heap[w.heap.size + 1]? = some (.cells #[.slice none 0 0] 28 (0, 0)) by
    have := heap_last (w.alloc (.cells #[.slice pw n cw, v1, v2, mv] 125)) (.cells #[.slice none 0 0] 28)
    rwa [World.size_alloc] at this)
  have hz2 : w.heap.size + 2 ≤ W2.heap.size := by have := hB2.size; simp at this; omega
  have HB2 := Lib.hid (((below1 w (.cells #[.slice pw n cw, v1, v2, mv] 125)).alloc (by simp) (.cells #[.slice none 0 0] 28)).trans (hB2.mono (show w.heap.size ≤ _ by simp; omega)))
  have HX2 := Lib.hid hx2
  have HR2 := Lib.hid hr2
  have hsz : (arrOf last).size = 12 := by rw [arrOf_size]; exact hl12
  have HI := Lib.hid (size_twelve hsz)
  have HON := Lib.hid (arrOf_one last)
  clear hB2 hx2 hr2
  obtain ⟨BA, hBA⟩ : ∃ BA, BA = arrOf last := ⟨_, rfl⟩
  rw [← hBA] at HI HON hsz ⊢
  have HBA := Lib.hid hBA
  have HSZ := Lib.hid hsz
  clear hBA hsz
  have hst := run_storeCells_new (P := Try.prog) W2 176 #[.int .i64 0, .int .i64 0, .int .i64 0, .int .i64 0, .int .i64 0, .int .i64 0, .int .i64 0, .int .i64 0, .int .i64 0, .int .i64 0, .int .i64 0, .int .i64 0] BA HI.out (by rw [HSZ.out]; rfl) HON.out
  obtain ⟨k0, k1, k2, k3⟩ := blk4 HX2.out
  have hqw : w.heap.size < W2.heap.size := by omega
  gi_wp2_with fail
  clear hst k0 k1 k2 k3 hqw
  have hA3 : LoC n cw pw v1 v2 mv last W2.heap.size w (W2.alloc (.cells BA 176)) (W2.heap.size + 1) [] := by
    refine ⟨(Below.heap_alloc _ _ _ (by omega)).trans HX2.out, (Below.heap_alloc _ _ _ (by omega)).trans HR2.out, by rw [heap_last, HBA.out], HB2.out.alloc (by omega) _, trivial, ⟨by omega, by simp, by simp⟩⟩
  have hz3 : (W2.alloc (.cells BA 176)).heap.size = W2.heap.size + 1 := by simp
  generalize W2.alloc (.cells BA 176) = W3 at hA3 hz3 ⊢
  obtain ⟨LB, hLB⟩ : ∃ LB, LB = W2.heap.size := ⟨_, rfl⟩
  rw [← hLB] at hA3 hz3
  rw [← hLB]
  have hLB2 : w.heap.size + 2 ≤ LB := by omega
  clear hLB HB2 HX2 HR2 hz2
  refine wpIn_loop (fun a' w' => ∃ (k C : Nat) (ds : List Deferred) (u5 u6 u7 u8 u9 u10 u11 u12 u13 u14 u15 u16 u17 u18 u19 u20 u21 u22 u23 u24 u25 : Value), 1 ≤ k ∧ k ≤ n ∧ a' = { tmps := #[.agg #[.slice pw n cw, v1, v2, mv], .pointer (some ⟨w.heap.size, 0, none⟩), .pointer (some ⟨w.heap.size + 1, 0, none⟩), .pointer (some ⟨LB, 0, none⟩), .int .i64 k, u5, u6, u7, u8, u9, u10, u11, u12, u13, u14, u15, u16, u17, u18, u19, u20, u21, u22, u23, u24, u25], defers := ds } ∧ loneGo last n (downK k) = loneGo last n (downK n) ∧ LoC n cw pw v1 v2 mv last LB w w' C ds) (fun a' _ => (intOf (a'.tmps.getD 4 undef)).toNat) ⟨n, _, [], _, _, _, _, _, _, _, _, _, _, _, _, _, _, _, _, _, _, _, _, _, hn1, Nat.le_refl _, rfl, rfl, hA3⟩ ?_
  clear hA3
  rintro a' wr ⟨k, C, ds, u5, u6, u7, u8, u9, u10, u11, u12, u13, u14, u15, u16, u17, u18, u19, u20, u21, u22, u23, u24, u25, hk1, hk2, rfl, hgo, hA⟩
  have HGO := Lib.hid hgo
  have HA := Lib.hid hA
  have hsz0 := hA.sz
  obtain ⟨f0, f1, f2, f3⟩ := blk4 hA.wk
  have hs0 : w.heap.size < wr.heap.size := by omega
  clear hA hgo
  by_cases hlt : 1 < k
  · have hlt' : (k : Int) > 1 := by omega
    gi_wp2_with fail
    refine ⟨trivial, (fun h => by cases h), ?_⟩
    refine (callsIn_wide.2 (lists_any _ _ _ _ _ _)).mono ?_
    rintro e W4 ⟨rfl, hW4⟩
    have hB4 : Below wr.heap.size wr W4 := by rw [← hW4]; exact (below1 _ _).alloc (by simp) _
    have hs4 : W4.heap.size = wr.heap.size + 2 := by rw [← hW4]; simp
    have h41 : W4.heap[wr.heap.size + 1]? = some (.cells #[.int .i64 k] 3 (0, 0)) := by
      rw [← hW4]
      have := heap_last (wr.alloc (Obj.cells #[.slice pw n cw, v1, v2, mv] 125)) (Obj.cells #[Value.int IntKind.i64 k] 3)
      rwa [World.size_alloc] at this
    have h42 : W4.heap[wr.heap.size]? = some (.cells #[.slice pw n cw, v1, v2, mv] 125 (0, 0)) := by
      rw [← hW4, Below.heap_alloc _ _ _ (by simp)]; exact heap_last _ _
    have hA4 := HA.out.below (B := wr.heap.size) hsz0.2.1 hsz0.2.2 hB4
    have hC4 := HA.out.sz.2.2
    clear hW4 f0 f1 f2 f3
    gi_wp2_with fail
    refine range_of (gf := 167) (lb := #[.pointer (some ⟨wr.heap.size + 1, 0, none⟩), .pointer (some ⟨wr.heap.size, 0, none⟩)]) rfl (enters_of Try.func167 (by kernel_rfl) rfl)
      (lists1_seq (m - 1) n cw k hn12 (by omega) pw _ _ mv _ _ W4 (fun j => j ≠ w.heap.size + 1) ⟨by omega, by omega⟩ h41 h42) (Below.refl _ _) (fun x vs W h => by obtain ⟨g, h, _⟩ := h; rw [h]; rfl)
      (fun pre W' => LoC n cw pw v1 v2 mv last LB w W' W4.heap.size ds ∧ (∀ L ∈ pre, apartB last L = false) ∧ W4.heap.size ≤ W'.heap.size)
      (fun c _ W' => c = .ret ∧ LoHit last n LB w W4.heap.size ds W') ?leI ?leX ⟨⟨hA4.wk, hA4.r, hA4.la, hA4.bel, hA4.ends.mono (by omega), ⟨by omega, by omega, Nat.le_refl _⟩⟩, (fun _ h => by simp at h), Nat.le_refl _⟩ ?round ?done ?stop
    case leI =>
      rintro s' X Y ⟨i1, i2, i3⟩ hb
      exact ⟨i1.below (by omega) (Nat.le_refl _) hb, i2, Nat.le_trans i3 hb.size⟩
    case leX =>
      rintro c s' X r ⟨rfl, h⟩
      exact ⟨rfl, h.hold (hold_putObj _ _ _)⟩
    case stop =>
      rintro D c pre W' rfl ⟨rfl, h⟩ hK
      obtain ⟨L, v, h1, h2, h4, h5, h6, h7, h7', h8⟩ := h
      have hDl := (Array.getElem?_eq_some_iff.1 hK).1
      clear hA4 h41 h42 hB4
      gi_wp2
      refine leaves_ends2 (B := LB + 1) (by simp) _ (W4.heap.size + 1) W' ⟨_, rfl, h7', Nat.lt_succ_self _, hK, h6⟩ (by omega) (fun w' hh => ?_)
      rw [h1]
      have c0 := blk_cells ((hh.same _ (.inl (by omega)) (by omega)).trans h2) 0 _ rfl
      refine ⟨v, by simp [results, Try.results110, go_sem, c0], v, rfl, own_base (own_hold (base := W4.heap.size + 2) h4 hh (fun k hk => .inr (by omega))) (by omega), h5.trans ((hh.mono (fun k hk _ => (.inl (by omega) : k < LB + 1 ∨ W4.heap.size + 1 ≤ k)) : Hold (fun k => k < w.heap.size) W' w').to_below (by omega))⟩
    case done =>
      rintro D W' rfl ⟨i1, i2, i3⟩ hK
      have hDl := (Array.getElem?_eq_some_iff.1 hK).1
      have hst := lone_step (by omega) i2
      have hsubk : IntKind.i64.wrap ((k : Int) - 1) = ((k - 1 : Nat) : Int) := by rw [IntWalk.i64_in _ (by omega)]; omega
      clear hA4 h41 h42 hB4
      gi_wp2
      refine ⟨⟨k - 1, W'.heap.size, _, _, _, _, _, _, _, _, _, _, _, _, _, _, _, _, _, _, _, _, _, _, by omega, by omega, rfl, by rw [← hst]; exact HGO.out, ⟨i1.wk, i1.r, i1.la, i1.bel, ⟨W4.heap.size, rfl, by omega, hDl, hK, i1.ends⟩, ⟨i1.sz.1, i1.sz.2.1, Nat.le_refl _⟩⟩⟩, ?_⟩
      simp [intOf]
      omega
    case round =>
      rintro lq pre L post vs W5 hl1 hl2 ho hL ⟨g, rfl, hLm, hLg⟩ ⟨i1, i2, i3⟩
      have hin := lists_in n k 0 L (by rw [hL]; simp)
      clear i1 i3 hA4 h41 h42 hB4
      gi_wp2
      refine ⟨Below.refl _ _, ?_⟩
      rintro Wb hg hsz ⟨j1, j2, j3⟩
      have hLb := ints_grown hLg hg (fun r e => by cases e; exact ho)
      have hz5 : LB + 1 ≤ Wb.heap.size ∧ W4.heap.size + 2 ≤ Wb.heap.size ∧ LB + 1 ≤ W4.heap.size := by omega
      have HAP : Hid (∀ W, Below Wb.heap.size Wb W → Calls Try.prog 152 #[.slice (some ⟨g, 0, none⟩) k k, .agg (arrOf last)] W fun e w' => e = .returned (.bool (apartB last L)) ∧ Below W.heap.size W w') := Lib.hid (fun W h => by
        rcases hLb.below h with h0 | ⟨b, o, hp, hl, hc⟩
        · rw [h0] at hLm; simp at hLm; omega
        · cases hp
          exact apart_any last L hl12 k hLm (by omega) (by omega) (fun x hx => by have := hin.2 x hx; omega) g 0 W hl hc)
      have HHIT : Hid (apartB last L = true → loneGo last n (downK n) = L) := Lib.hid (fun hp => HGO.out ▸ lone_hit (by omega) hL j2 hp)
      have HCL : Hid (∀ W, Below Wb.heap.size Wb W → Calls Try.prog 72 #[.slice (some ⟨g, 0, none⟩) k k] W fun e w' => ∃ g' c', e = .returned (.slice (some ⟨g', 0, none⟩) k c') ∧ w'.ownsRow W.heap.size 3 1 (.slice (some ⟨g', 0, none⟩) k c') L.length (L.map (Value.int .i64)) ∧ Below W.heap.size W w') := Lib.hid (fun W h => by
        rcases hLb.below h with h0 | ⟨b, o, hp, hl, hc⟩
        · subst h0; simp at hLm; omega
        · cases hp
          refine (Try.slices_Clone_int g 0 k k L W (by omega) (by omega) (fun j hj => hc j hj)).mono ?_
          rintro e w' ⟨v', rfl, hown, -, hb⟩
          obtain ⟨g', c', rfl, -⟩ := hown.form (by omega)
          have ht : L.take k = L := List.take_of_length_le (by omega)
          rw [ht] at hown
          exact ⟨g', c', rfl, by rw [hLm]; exact hown, hb⟩)
      have HLAb := Lib.hid j1.la
      have J1 := Lib.hid j1
      have J2 := Lib.hid j2
      have HLM := Lib.hid hLm
      clear j1 j2 hLg hLb hin hg i2 hs4
      rw [HAE.out] at HAP HLAb
      generalize hap : apartB last L = ap at HAP HHIT
      have HAPE := Lib.hid hap
      clear hap
      have y0 := blk_cells HLAb.out 0 _ rfl
      have y1 := blk_cells HLAb.out 1 _ rfl
      have y2 := blk_cells HLAb.out 2 _ rfl
      have y3 := blk_cells HLAb.out 3 _ rfl
      have y4 := blk_cells HLAb.out 4 _ rfl
      have y5 := blk_cells HLAb.out 5 _ rfl
      have y6 := blk_cells HLAb.out 6 _ rfl
      have y7 := blk_cells HLAb.out 7 _ rfl
      have y8 := blk_cells HLAb.out 8 _ rfl
      have y9 := blk_cells HLAb.out 9 _ rfl
      have y10 := blk_cells HLAb.out 10 _ rfl
      have y11 := blk_cells HLAb.out 11 _ rfl
      gi_wp2_with fail
      refine ⟨trivial, (fun h => by cases h), ?_⟩
      refine (callsIn_wide.2 (HAP.out _ (Below.refl _ _))).mono ?_
      rintro e w' ⟨rfl, hG⟩
      · clear y0 y1 y2 y3 y4 y5 y6 y7 y8 y9 y10 y11
        have hz9 := hG.size
        have HG9 := Lib.hid hG
        clear hG
        cases ap with
        | false =>
          gi_wp2
          refine ⟨Hold.below HG9.out, J1.out.below (B := Wb.heap.size) (by omega) (by omega) HG9.out, fun y hy => ?_, by omega⟩
          rcases List.mem_append.1 hy with hy | hy
          · exact J2.out y hy
          · rw [List.mem_singleton.1 hy]; exact HAPE.out
        | true =>
          have hr4 := (HG9.out.block (w.heap.size + 1) (by omega)).trans J1.out.r
          gi_wp2_with fail
          refine ⟨trivial, (fun h => by cases h), ?_⟩
          refine (callsIn_wide.2 (HCL.out _ HG9.out)).mono ?_
          rintro e w9 ⟨g', c', rfl, hown, hb9⟩
          have hs9 := hb9.size
          have hr4' := (hb9.block (w.heap.size + 1) (by omega)).trans hr4
          have y4 := blk_cells hr4' 0 _ rfl
          have z4 : w9.frozen? ⟨w.heap.size + 1, 0, none⟩ = false := by simp [World.frozen?, hr4']
          have HR4 := Lib.hid hr4'
          have HO := Lib.hid hown
          have HB9 := Lib.hid hb9
          clear hr4 hr4' hown hb9
          gi_wp2
          have g4 : (w9.setCell ⟨w.heap.size + 1, 0, none⟩ (.slice (some ⟨g', 0, none⟩) k c')).heap[w.heap.size + 1]? = some (.cells #[.slice (some ⟨g', 0, none⟩) k c'] 28 (0, 0)) := heap_set_same _ HR4.out
          have hH : Hold (fun j => j ≠ w.heap.size + 1) w9 (w9.setCell ⟨w.heap.size + 1, 0, none⟩ (.slice (some ⟨g', 0, none⟩) k c')) := Hold.setCell _ _ _ (fun h => h rfl)
          have hHb := Hold.trans (Hold.below (join HG9.out HB9.out)) hH
          refine ⟨hHb.mono (fun j hj _ => by rcases hj with h | h <;> omega), rfl, L, _, HHIT.out (by first | rfl | trivial), g4, own_hold (own_base HO.out (by omega)) hH (fun j hj => by omega), ?_, J1.out.ends.keep (fun j h1 h2 => hHb.same j (by omega) (by omega)), by omega, by omega, by have := hHb.size; omega⟩
          exact J1.out.bel.trans ((hHb.mono (fun j hj _ => (by omega : j ≠ w.heap.size + 1)) : Hold (fun j => j < w.heap.size) Wb _).to_below (by omega))
  · obtain rfl : k = 1 := by omega
    have hone : loneGo last n (downK n) = [0] := by rw [← HGO.out, downK_one 1 (Nat.le_refl _)]; rfl
    have HR4 := Lib.hid HA.out.r
    have c0 := blk_cells HA.out.r 0 _ rfl
    have z4 : wr.frozen? ⟨w.heap.size + 1, 0, none⟩ = false := by simp [World.frozen?, HA.out.r]
    have hsr : w.heap.size + 1 < wr.heap.size := by omega
    gi_wp2
    have hC := HA.out.sz.2.2
    have g4 : ((wr.setCell ⟨w.heap.size + 1, 0, none⟩ (.slice (some ⟨wr.heap.size, 0, none⟩) 1 1)).alloc (.cells #[.int .i64 0] 3)).heap[w.heap.size + 1]? = some (.cells #[.slice (some ⟨wr.heap.size, 0, none⟩) 1 1] 28 (0, 0)) :=
      (Below.heap_alloc _ _ _ (by simpa using hsr)).trans (heap_set_same _ HR4.out)
    have g5 : ((wr.setCell ⟨w.heap.size + 1, 0, none⟩ (.slice (some ⟨wr.heap.size, 0, none⟩) 1 1)).alloc (.cells #[.int .i64 0] 3)).heap[wr.heap.size]? = some (.cells #[.int .i64 0] 3 (0, 0)) := by
      have := heap_last (wr.setCell ⟨w.heap.size + 1, 0, none⟩ (.slice (some ⟨wr.heap.size, 0, none⟩) 1 1)) (.cells #[.int .i64 0] 3)
      simpa using this
    have hH : Hold (fun j => j ≠ w.heap.size + 1) wr ((wr.setCell ⟨w.heap.size + 1, 0, none⟩ (.slice (some ⟨wr.heap.size, 0, none⟩) 1 1)).alloc (.cells #[.int .i64 0] 3)) := (Hold.setCell _ _ _ (fun h => h rfl)).trans (Hold.below (below1 _ _))
    have hsz9 : ((wr.setCell ⟨w.heap.size + 1, 0, none⟩ (.slice (some ⟨wr.heap.size, 0, none⟩) 1 1)).alloc (.cells #[.int .i64 0] 3)).heap.size = wr.heap.size + 1 := by simp
    refine leaves_ends2 (B := LB + 1) (by simp) _ C _ (HA.out.ends.keep (fun j h1 h2 => hH.same j (by omega) (by omega))) (by omega) (fun w' hh => ?_)
    have d0 := blk_cells ((hh.same _ (.inl (by omega)) (by omega)).trans g4) 0 _ rfl
    have d1 := (hh.same wr.heap.size (.inr (by omega)) (by omega)).trans g5
    rw [hone]
    refine ⟨.slice (some ⟨wr.heap.size, 0, none⟩) 1 1, by simp [results, Try.results110, go_sem, d0], _, rfl, ⟨rfl, .inr ⟨wr.heap.size, 1, #[.int .i64 0], rfl, by omega, d1, Nat.le_refl _, by unfold maxLen; omega, rfl, rfl⟩⟩, ?_⟩
    exact HA.out.bel.trans (((hH.mono (fun j hj _ => (by omega : j ≠ w.heap.size + 1)) : Hold (fun j => j < w.heap.size) wr _).trans (hh.mono (fun j hj _ => (.inl (by omega) : j < LB + 1 ∨ C ≤ j)))).to_below (by omega))
/-- what Lone tells -/
def loneL (t : Text) : List Int := if t.err = 0 then loneR t.right t.words.length else []
set_option maxHeartbeats 800000 in
theorem Lone_any (t : Text) (hl1 : t.words.length ≤ 1000000) (hl2 : t.turns.length ≤ 1000000) (pw pt : Option Addr) (cw ct : Nat) (hcw : t.words.length ≤ cw ∧ cw ≤ maxLen) (w : World) (hW : TxAt w t pw pt) :
    Calls Try.prog 39 #[.agg #[.slice pw t.words.length cw, .slice pt t.turns.length ct, .int .i64 t.breath]] w (ListPost (loneL t) t.err w) := by
  by_cases he : t.err = 0
  · have ok := err_ok he
    have h1 : loneL t = loneR t.right t.words.length := if_pos he
    rw [h1, he]
    have HS := Lib.hid (fun W (h : Below w.heap.size w W) => open_ok t he pw pt cw ct W (hW.below h))
    have HF := Lib.hid (fun W (h : Below w.heap.size w W) => lone_any t.right t.words.length cw ok.n1 ok.n12 pw (.slice pt t.turns.length ct) (.int .i64 t.breath) _ W (right_may t pw pt cw ct .nilFunc W ⟨ok, hW.below h, hcw⟩))
    clear hW he h1 ok
    go_enter Try.func39, Try.ntmps39
    go_wp2_with fail
    refine (HS.out _ (below1 _ _)).mono ?_
    rintro e w5 ⟨rfl, hB5⟩
    have HB5 := Lib.hid (join (below1 _ _) hB5)
    clear hB5
    go_wp2_with fail
    refine (HF.out _ (join HB5.out (below1 _ _))).mono ?_
    rintro e w6 ⟨v, rfl, hown, hB6⟩
    have HO := Lib.hid hown
    have HB6 := Lib.hid hB6
    clear hown hB6
    go_wp2
    go_ret2
    have hz := HB5.out.size
    exact ⟨_, rfl, own_base HO.out (by simp; omega), join (join HB5.out (below1 _ _)) HB6.out⟩
  · have h1 : loneL t = [] := if_neg he
    rw [h1]
    have HS := Lib.hid (fun W (h : Below w.heap.size w W) => open_bad t he hl1 hl2 pw pt cw ct W (hW.below h))
    have HE : (t.err != 0) = true := by simpa using he
    clear hW he h1
    generalize t.err = er at HE HS ⊢
    go_enter Try.func39, Try.ntmps39
    go_wp2_with fail
    refine (HS.out _ (below1 _ _)).mono ?_
    rintro e w5 ⟨rfl, hB5⟩
    have HB5 := Lib.hid (join (below1 _ _) hB5)
    clear hB5
    go_wp2
    go_ret2
    exact ⟨_, rfl, own_none _ _ _ _, join HB5.out (below1 _ _)⟩
end Go.Proofs.Ytadnggecnjdhiaa
