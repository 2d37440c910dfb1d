/- oyezlaw02.TextSure: a right reading is sure just if it breaks at no place between the Word of a turn and the nearest word of its Core, and the run that is told says the turn otherwise, for any bytes. No condition. -/
import Derived.Test.YtadnggecnjdhiaaZl
set_option linter.unusedSimpArgs false
set_option linter.unusedVariables false
namespace Go.Proofs.Ytadnggecnjdhiaa
open Go.RowKit Tx

/-- a list that can be read, and adds up or is empty -/
def RdL (w : World) (L : Nat) (p : Option Addr) (l : List Int) : Prop := Ints w p l ∧ l.length ≤ 100000 ∧ (l = [] ∨ Parts L l)
/-- the first turn that a reading parts, among the first m -/
def ApZ (P : List Int) (ts : List Turn) (y : Int) (m : Nat) : Prop := (y = -1 ∧ ∀ j, j < m → apartIn P (ts.getD j default) = false) ∨ (0 ≤ y ∧ ∃ j, j < m ∧ y = (j : Int) ∧ apartIn P (ts.getD j default) = true ∧ ∀ i, i < j → apartIn P (ts.getD i default) = false)
theorem ApZ.keep {P : List Int} {ts : List Turn} {y : Int} {m : Nat} (h : ApZ P ts y m) (hy : 0 ≤ y) : ApZ P ts y (m + 1) := by
  rcases h with ⟨h1, _⟩ | ⟨h1, j, h2, h3⟩
  · omega
  · exact .inr ⟨h1, j, by omega, h3⟩
theorem ApZ.step {P : List Int} {ts : List Turn} {m : Nat} (h : ∀ j, j < m → apartIn P (ts.getD j default) = false) : (apartIn P (ts.getD m default) = true → ApZ P ts m (m + 1)) ∧ (apartIn P (ts.getD m default) = false → ApZ P ts (-1) (m + 1)) := by
  refine ⟨fun ha => .inr ⟨by omega, m, by omega, rfl, ha, h⟩, fun ha => .inl ⟨rfl, fun j hj => ?_⟩⟩
  by_cases hjm : j = m
  · rw [hjm]; exact ha
  · exact h j (by omega)
theorem inner_ints {w : World} {g o : Nat} {P : List Int} (hg : g < w.heap.size) (h : ∀ i, i < P.length → w.cell? ⟨g, o + i, none⟩ = some (.int .i64 (P.getD i 0))) : Ints w (some ⟨g, o + 1, none⟩) (innerP P) := by
  refine .inr ⟨g, o + 1, rfl, hg, fun i hi => ?_⟩
  have hi2 : i + 1 < P.length - 1 := by unfold innerP at hi; simp at hi; omega
  have e : (innerP P).getD i 0 = P.getD (i + 1) 0 := by
    unfold innerP
    have h1 : i + 1 < P.length := by omega
    simp [List.getElem?_drop, List.getElem?_take, Nat.add_comm 1 i, hi2, h1]
  rw [e, show o + 1 + i = o + (i + 1) by omega]
  exact h (i + 1) (by omega)
theorem inner_len (P : List Int) : (innerP P).length = P.length - 1 - 1 := by unfold innerP; simp
theorem idx_mem {α : Type} {p : α → Bool} [Inhabited α] : ∀ (l : List α) (i j : Nat), j < l.length → p (l.getD j default) = true → ((i + j : Nat) : Int) ∈ idx p i l
  | [], i, j, h, _ => by simp at h
  | x :: l, i, 0, _, h => by
    have h' : p x = true := by simpa using h
    unfold idx; rw [if_pos h']; simp
  | x :: l, i, j + 1, h, hp => by
    have := idx_mem l (i + 1) j (by simpa using h) (by simpa using hp)
    rw [show i + 1 + j = i + (j + 1) by omega] at this
    unfold idx
    split
    · exact List.mem_cons_of_mem _ this
    · exact this
def spTs (tv : Value) (gp : Nat) (og n cl a b RB : Nat) (pa pb : Int) (S : List Int) : Nat → List Value → Value → World → Prop
  | 0, _, v, _ => v = tv
  | 1, _, v, _ => v = .slice (some ⟨gp, og, none⟩) n cl
  | 2, _, v, _ => v = .pointer (some ⟨RB, 0, none⟩)
  | 3, _, v, _ => v = .int .i64 (a : Int)
  | 4, _, v, _ => v = .pointer (some ⟨gp, og + a, none⟩)
  | 5, _, v, _ => v = .int .i64 pa
  | 6, _, v, _ => v = .slice (some ⟨gp, og, none⟩) n cl
  | 7, _, v, _ => v = .pointer (some ⟨RB, 1, none⟩)
  | 8, _, v, _ => v = .int .i64 (b : Int)
  | 9, _, v, _ => v = .int .i64 ((b : Int) + 1)
  | 10, _, v, _ => v = .pointer (some ⟨gp, og + (b + 1), none⟩)
  | 11, _, v, _ => v = .int .i64 pb
  | 12, _, v, _ => v = .int .i64 (pb - 1)
  | 13, _, v, _ => v = .agg #[.int .i64 pa, .int .i64 (pb - 1)]
  | 14, L, v, w => ∃ (pp : Option Addr) (cc : Nat), v = .tuple #[.slice pp S.length cc, .int .i64 0] ∧ Ints w pp S
  | 15, L, v, w => ∃ (pp : Option Addr) (cc : Nat), v = .tuple #[.slice pp S.length cc, .int .i64 0] ∧ Ints w pp S
  | 16, L, v, w => ∃ (pp : Option Addr) (cc : Nat), v = .slice pp S.length cc ∧ Ints w pp S
  | 17, _, v, _ => v = .int .i64 0
  | 18, L, v, w => ∃ (pp : Option Addr) (cc : Nat), v = .slice pp S.length cc ∧ Ints w pp S
  | 19, _, v, _ => v = .int .i64 0
  | _, _, _, _ => False
theorem spTs_stable (tv : Value) (gp : Nat) (og n cl a b RB : Nat) (pa pb : Int) (S : List Int) : ∀ i L v w w', spTs tv gp og n cl a b RB pa pb S i L v w → Rs.Gr w w' → spTs tv gp og n cl a b RB pa pb S i L v w' := by
  intro i L v w w' h hg
  match i with
  | 0 => exact h
  | 1 => exact h
  | 2 => exact h
  | 3 => exact h
  | 4 => exact h
  | 5 => exact h
  | 6 => exact h
  | 7 => exact h
  | 8 => exact h
  | 9 => exact h
  | 10 => exact h
  | 11 => exact h
  | 12 => exact h
  | 13 => exact h
  | 14 => obtain ⟨pp, cc, h1, h2⟩ := h; exact ⟨pp, cc, h1, h2.below hg⟩
  | 15 => obtain ⟨pp, cc, h1, h2⟩ := h; exact ⟨pp, cc, h1, h2.below hg⟩
  | 16 => obtain ⟨pp, cc, h1, h2⟩ := h; exact ⟨pp, cc, h1, h2.below hg⟩
  | 17 => exact h
  | 18 => obtain ⟨pp, cc, h1, h2⟩ := h; exact ⟨pp, cc, h1, h2.below hg⟩
  | 19 => exact h
theorem parts_len {L : Nat} {l : List Int} (h : Parts L l) : l.length ≤ L := by
  have := isum_ge h.1
  have := h.2
  omega
theorem Ints.hold {w w' : World} {p : Option Addr} {l : List Int} {B : Nat} (h : Ints w p l) (hp : ∀ b o, p = some ⟨b, o, none⟩ → b ≠ B) (hh : Hold (fun k => k ≠ B) w w') : Ints w' p l := by
  rcases h with h | ⟨b, o, rfl, hl, h⟩
  · exact .inl h
  · have hb := hp b o rfl
    exact .inr ⟨b, o, rfl, Nat.lt_of_lt_of_le hl hh.size, fun i hi => (hh.cell (p := ⟨b, o + i, none⟩) hb hl).trans (h i hi)⟩
set_option maxHeartbeats 8000000 in
set_option maxRecDepth 100000 in
theorem TextSure_any (pn pq : Option Addr) (nn cn nq cq : Nat) (hnn : nn ≤ 9223372036854775807) (hnq : nq ≤ 9223372036854775807) (w : World) (hN : Bytes w pn nn) (hQ : Bytes w pq nq) :
    Calls Try.prog 10 #[.slice pn nn cn, .slice pq nq cq] w fun e w' => e = .returned (.bool true) ∧ Below w.heap.size w w' := by
  obtain ⟨hb0, hm0⟩ := hang_made pn nn cn hnn w hN
  have HB0 := Lib.hid hb0
  have HM0 := Lib.hid hm0
  have HQ := Lib.hid hQ
  have hal := below1 w (.cells #[.slice pn nn cn, .int .i64 0, .int .u32 0] 159)
  have HAL := Lib.hid hal
  have hz1 : (w.alloc (.cells #[.slice pn nn cn, .int .i64 0, .int .u32 0] 159)).heap.size = w.heap.size + 1 := by simp
  clear hb0 hm0 hN hQ hal
  go_enter Try.func10, Try.ntmps10
  go_wp2_with fail
  refine (hang_any _ _ _ _).mono ?_
  rintro e w1 ⟨rfl, rfl⟩
  generalize w.alloc (.cells #[.slice pn nn cn, .int .i64 0, .int .u32 0] 159) = W1 at HB0 HM0 HAL hz1 ⊢
  go_wp2_with fail
  refine (made_ok (words := 9) (turns := 3) (by omega) (by omega) (by omega) _ HB0.out HM0.out).mono ?_
  rintro e W2 ⟨t, p, q, c, d, rfl, HT, HC, HD, HE, HOK, HW9, HT3, -, HH⟩
  have HQ2 := Lib.hid (HQ.out.below (HAL.out.trans (hold_below HH.out (by omega))))
  have HWA := Lib.hid (HAL.out.trans (hold_below HH.out (by omega)))
  have hwA : w.heap.size ≤ W2.heap.size := by have := HH.out.size; omega
  clear HB0 HM0 HAL HQ HH hz1
  have HT2 := Lib.hid (HT.out.below (below1 W2 (.cells #[.slice p t.words.length c, .slice q t.turns.length d, .int .i64 t.breath] 25)))
  have HQ3 := Lib.hid (HQ2.out.below (below1 W2 (.cells #[.slice p t.words.length c, .slice q t.turns.length d, .int .i64 t.breath] 25)))
  have HBX := Lib.hid (heap_last W2 (.cells #[.slice p t.words.length c, .slice q t.turns.length d, .int .i64 t.breath] 25))
  obtain ⟨T, hTT⟩ : ∃ T, T = W2.heap.size := ⟨_, rfl⟩
  have hz3 : (W2.alloc (.cells #[.slice p t.words.length c, .slice q t.turns.length d, .int .i64 t.breath] 25)).heap.size = T + 1 := by rw [hTT]; simp
  have HW3 := Lib.hid (HWA.out.trans ((below1 W2 (.cells #[.slice p t.words.length c, .slice q t.turns.length d, .int .i64 t.breath] 25)).mono hwA))
  rw [← hTT] at HBX hwA
  clear HT HQ2 HWA
  go_wp2_with fail
  rw [← hTT]
  clear hTT
  generalize W2.alloc (.cells #[.slice p t.words.length c, .slice q t.turns.length d, .int .i64 t.breath] 25) = W3 at HT2 HQ3 HBX hz3 HW3 ⊢
  refine (hang_any _ _ _ _).mono ?_
  rintro e w4 ⟨rfl, rfl⟩
  obtain ⟨hbq, hmq⟩ := hang_made pq nq cq hnq W3 HQ3.out
  have HBQ := Lib.hid hbq
  have HMQ := Lib.hid hmq
  have ha4 := below1 W3 (.cells #[.slice pq nq cq, .int .i64 0, .int .u32 0] 159)
  have HT4 := Lib.hid (HT2.out.below ha4)
  have HBX4 := Lib.hid ((ha4.block T (by omega)).trans HBX.out)
  have hz4 : (W3.alloc (.cells #[.slice pq nq cq, .int .i64 0, .int .u32 0] 159)).heap.size = T + 2 := by simp; omega
  have hB : W3.heap.size = T + 1 := hz3
  have HTT := Lib.hid (show ∀ W, Below (T + 1) W3 W → TxAt W t p q from fun W h => HT2.out.below (by rw [hB]; exact h))
  have HB34 := Lib.hid (show Below (T + 1) W3 (W3.alloc (.cells #[.slice pq nq cq, .int .i64 0, .int .u32 0] 159)) by rw [← hB]; exact ha4)
  rw [hB] at HBQ
  rw [hB]
  clear hbq hmq ha4 HQ3
  generalize W3.alloc (.cells #[.slice pq nq cq, .int .i64 0, .int .u32 0] 159) = W4 at HBQ HMQ HT4 HBX4 hz4 HB34 ⊢
  obtain ⟨k0, k1, k2⟩ := blk3 HBX4.out
  have hn9 : t.words.length ≤ 1000000 := by have := HW9.out; omega
  have hn3 : t.turns.length ≤ 1000000 := by have := HT3.out; omega
  have HPW := Lib.hid (show ∀ b o, p = some ⟨b, o, none⟩ → b ≠ T + 1 from fun b o e => by
    rcases HT2.out.words with h | ⟨b', o', e', l', _⟩
    · have := HOK.out.n1; rw [h] at this; simp at this
    · rw [e'] at e; injection e with e; injection e with e _ _; omega)
  clear hB hz3 HT2 HBX W2
  go_wp2_with fail
  refine (Fewest_any t hn9 hn3 p q c d HC.out _ HT4.out).mono ?_
  rintro e W5 ⟨v, rfl, hown, hB5⟩
  obtain ⟨pf, cf, rfl, hF, hpf, -⟩ := own_rd hown rfl
  have HF := Lib.hid hF
  have HPF := Lib.hid (show ∀ b o, pf = some ⟨b, o, none⟩ → b ≠ T + 1 from fun b o e => by have := (hpf b o e).1; omega)
  have HFC := Lib.hid (fewL_cases HOK.out HE.out)
  obtain ⟨F, hFe⟩ : ∃ F, F = fewL t := ⟨_, rfl⟩
  rw [← hFe] at HF HFC ⊢
  have hFl : F.length ≤ 100000 := by
    rcases HFC.out with h | h
    · rw [h]; simp
    · have := parts_len h; have := HW9.out; omega
  have HBQ5 := Lib.hid (HBQ.out.below (hB5.mono (by omega)))
  have HB35 := Lib.hid (HB34.out.trans (hB5.mono (by omega)))
  have HBX5 := Lib.hid ((hB5.block T (by omega)).trans HBX4.out)
  have HMQ5 := Lib.hid (show nq ≠ 0 → ∀ mb mo, pq = some ⟨mb, mo, none⟩ → mb < W5.heap.size from fun h mb mo e => Nat.lt_of_lt_of_le (HMQ.out h mb mo e) hB5.size)
  have hz5 : T + 2 ≤ W5.heap.size := by have := hB5.size; omega
  clear hown hF hpf hFe hB5 HBQ HMQ HT4 HBX4 hz4 HB34 k0 k1 k2
  go_wp2_with fail
  go_loopw [30] (fun i wr => ∃ k : Nat, k ≤ 10 ∧ i = .int .i64 k ∧ BellOk wr (T + 1) pq nq cq ∧ Hold (fun k => k ≠ T + 1) W5 wr) (fun i _ => 10 - (intOf i).toNat)
  case atStart => exact ⟨0, by omega, rfl, HBQ5.out, Hold.refl _ _⟩
  case round =>
    obtain ⟨w3, rfl⟩ : ∃ w3 : World, w3 = wr := ⟨_, rfl⟩
    obtain ⟨k, hk, rfl, hb3, hh3⟩ := hrel
    have HB3 := Lib.hid hb3
    have HH3 := Lib.hid hh3
    have hz3 := hh3.size
    have HTx := Lib.hid (HTT.out _ (HB35.out.trans (hold_below hh3 (by omega))))
    have HBX := Lib.hid ((hh3.same T (show T ≠ T + 1 by omega) (by omega)).trans HBX5.out)
    obtain ⟨k0, k1, k2⟩ := blk3 HBX.out
    clear hb3 hh3
    by_cases hlt : k < 10
    · have hlt' : (k : Int) < 10 := by omega
      by_cases hk0 : k = 0
      · have hk1 : ¬ (k : Int) > 0 := by omega
        have HI := Lib.hid (HF.out.hold HPF.out HH3.out)
        clear hk0
        go_wp2_with fail
        refine (Astray_any t F hn9 hn3 hFl p q pf c d cf HC.out _ HTx.out HI.out).mono ?_
        rintro e wA ⟨rfl, hBA⟩
        obtain ⟨ar, har⟩ : ∃ ar, ar = astrayR t F := ⟨_, rfl⟩
        rw [← har]
        have HAR := Lib.hid har
        have HBA := Lib.hid hBA
        have HBXA := Lib.hid ((hBA.block T (by omega)).trans HBX.out)
        have hzA := hBA.size
        clear hBA k0 k1 k2 har
        obtain ⟨a1, a2, a3, a4⟩ := ar
        obtain ⟨k0, k1, k2⟩ := blk3 HBXA.out
        have hqA : T < wA.heap.size := by omega
        have HBR := Lib.hid (join HBA.out (below1 wA (.cells #[.int .i64 a2, .int .i64 a3] 27)))
        have HRX := Lib.hid (heap_last wA (.cells #[.int .i64 a2, .int .i64 a3] 27))
        go_wp2_with fail
        refine (sound_any t HOK.out p q c d HC.out F hFl pf cf _ (HTx.out.below HBR.out) (HI.out.below HBR.out)).mono ?_
        rintro e wS ⟨rfl, hBS⟩
        have HBS := Lib.hid (join HBR.out hBS)
        have HBXS := Lib.hid ((HBS.out.block T (by omega)).trans HBX.out)
        have HRXS := Lib.hid ((hBS.block wA.heap.size (by simp)).trans HRX.out)
        have hzS : wA.heap.size + 1 ≤ wS.heap.size := by have := hBS.size; simp at this; omega
        have HEND := Lib.hid (show ∀ W', Below wS.heap.size wS W' → BellOk W' (T + 1) pq nq cq ∧ Hold (fun k => k ≠ T + 1) W5 W' from fun W' h => ⟨HB3.out.below (join HBS.out h), HH3.out.trans (Hold.below (join HBS.out h))⟩)
        clear hBS k0 k1 k2 HBR HRX HBXA HBA
        obtain ⟨k0, k1, k2⟩ := blk3 HBXS.out
        cases hs : soundB t F with
        | false =>
          have HLC := Lib.hid (show a4 = 8 ∨ F = [] from by
            rcases HFC.out with h | h
            · exact .inr h
            · left
              have e := HAR.out
              rw [astrayR_sound HOK.out HE.out h, hs, if_neg (by simp)] at e
              injection e with _ e; injection e with _ e; injection e with _ e)
          clear hs
          rcases HLC.out with h8 | hl0
          · subst h8
            go_wp2
            go_roundw
            case rel => exact ⟨k + 1, by omega, by go_num, HEND.out _ (Below.refl _ _)⟩
            case measure => simp [intOf]; omega
          · have hlz : ¬ ((F.length : Int) > 0) := by rw [hl0]; simp
            clear hl0
            by_cases h8 : a4 = 8
            · subst h8
              go_wp2
              go_roundw
              case rel => exact ⟨k + 1, by omega, by go_num, HEND.out _ (Below.refl _ _)⟩
              case measure => simp [intOf]; omega
            · have h8' : (a4 != 8) = true := by simpa using h8
              go_wp2
              go_roundw
              case rel => exact ⟨k + 1, by omega, by go_num, HEND.out _ (Below.refl _ _)⟩
              case measure => simp [intOf]; omega
        | true =>
          have hP : Parts t.words.length F := by
            rcases HFC.out with h | h
            · exfalso
              rw [h] at hs
              have := ((partsB_iff _ _).1 ((Bool.and_eq_true _ _).mp (show (partsB t.words.length [] && okFrom t.right 0 []) = true from hs)).1).2
              have := HOK.out.n1
              simp [isum] at *
              omega
            · exact h
          have HPT := Lib.hid hP
          have HAG := Lib.hid (show (a1, a2, a3, a4) = astrayGo (placesL F) 0 t.turns by rw [HAR.out, astrayR_sound HOK.out HE.out hP, hs, if_pos rfl])
          have HPL := Lib.hid (show plcL (t.words.length : Int) F = placesL F by unfold plcL; rw [if_pos ((partsB_iff _ _).2 hP)])
          have hPlen := placesL_len F
          have hl1 : 1 ≤ F.length := by
            have h1 := HOK.out.n1
            rcases Nat.eq_zero_or_pos F.length with h | h
            · rw [List.length_eq_zero_iff.1 h] at hP; have := hP.2; simp [isum] at this; omega
            · exact h
          have HL1 := Lib.hid (show (placesL F).length = F.length + 1 from hPlen)
          clear hs hP HAR
          go_wp2_with fail
          refine (places_any t.words.length (by have := HW9.out; omega) p c (.slice q t.turns.length d) (.int .i64 t.breath) F pf cf _ (HI.out.below HBS.out) hFl).mono ?_
          rintro e wP ⟨v, rfl, hownP, hBP⟩
          rw [HPL.out] at hownP
          obtain ⟨pp, cp, rfl, hIP, -, hcp, hcp2⟩ := own_rd hownP rfl
          rcases hIP with h0 | ⟨gp, og, rfl, hgp, hcP⟩
          · rw [h0] at hPlen; simp at hPlen
          have HCP := Lib.hid hcP
          obtain ⟨P, hPe⟩ : ∃ P, P = placesL F := ⟨_, rfl⟩
          have HPE := Lib.hid hPe
          rw [← hPe] at hcp2 hPlen HCP HAG ⊢
          have hP2 : 2 ≤ P.length := by omega
          have hPm : P.length ≤ 100001 := by omega
          have HBP := Lib.hid hBP
          have hzP := hBP.size
          have HBXP := Lib.hid ((hBP.block T (by omega)).trans HBXS.out)
          have HRXP := Lib.hid ((hBP.block wA.heap.size (by omega)).trans HRXS.out)
          clear hownP hBP hPe hcP k0 k1 k2 hPlen
          obtain ⟨k0, k1, k2⟩ := blk3 HBXP.out
          go_wp2_with fail
          go_loopw [15, 63] (fun z i wr => ∃ (m : Nat) (y : Int), m ≤ t.turns.length ∧ i = .int .i64 m ∧ z = .int .i64 y ∧ Hid (ApZ P t.turns y m) ∧ Hid (Below wP.heap.size wP wr)) (fun _ i _ => t.turns.length - (intOf i).toNat)
          case atStart => exact ⟨0, -1, Nat.zero_le _, rfl, rfl, Lib.hid (.inl ⟨rfl, fun j hj => absurd hj (Nat.not_lt_zero _)⟩), Lib.hid (Below.refl _ _)⟩
          case round =>
            obtain ⟨w7, rfl⟩ : ∃ w7 : World, w7 = wr := ⟨_, rfl⟩
            obtain ⟨m, y, hm, rfl, rfl, HZ, HB7⟩ := hrel
            have hz7 := HB7.out.size
            have HB7S := Lib.hid (join HBP.out HB7.out)
            have HB7W := Lib.hid (join HBS.out HB7S.out)
            have HBX7 := Lib.hid ((HB7.out.block T (by omega)).trans HBXP.out)
            by_cases hmt : m < t.turns.length
            · have hmt' : (m : Int) < t.turns.length := by omega
              obtain ⟨bt, ot, x, rfl, hbt, hxx, c1, c2, c3⟩ := ((HTx.out.below HB7W.out).turns).at hmt
              obtain ⟨uw, ul, uh⟩ := x
              dsimp only at c1 c2 c3
              have HX := Lib.hid hxx
              clear hxx k0 k1 k2
              rcases HZ.out with ⟨rfl, hz⟩ | ⟨hy0, hz⟩
              · have hsubP : IntKind.i64.wrap ((P.length : Int) - 1) = ((P.length - 1 : Nat) : Int) := by rw [IntWalk.i64_in _ (by omega)]; omega
                have hcw : ∀ i, i < P.length → (w7.alloc (.cells #[.int .i64 uw, .int .i64 ul, .int .i64 uh] 80)).cell? ⟨gp, og + i, none⟩ = some (.int .i64 (P.getD i 0)) := fun i hi => ((join HB7.out (below1 _ _)).cell (p := ⟨gp, og + i, none⟩) hgp).trans (HCP.out i hi)
                have hcf := containsFuncI 63 entered_sure1 (.pointer (some ⟨w7.heap.size, 0, none⟩)) (fun v => (Turn.mk uw ul uh).parts v) (innerP P) (some ⟨gp, og + 1, none⟩) (cp - 1) (w7.alloc (.cells #[.int .i64 uw, .int .i64 ul, .int .i64 uh] 80)) (by rw [inner_len]; omega) (inner_ints (by simp; omega) hcw) (fun W h u hu => sure1_any ⟨uw, ul, uh⟩ u w7.heap.size W ((h.block _ (by simp)).trans (heap_last _ _)))
                rw [inner_len] at hcf
                have HCF := Lib.hid hcf
                have HST := Lib.hid (ApZ.step hz)
                rw [← HX.out] at HST
                obtain ⟨ab, hab⟩ : ∃ ab, ab = apartIn P ⟨uw, ul, uh⟩ := ⟨_, rfl⟩
                rw [show (innerP P).any (fun v => (Turn.mk uw ul uh).parts v) = ab from hab.symm] at HCF
                rw [← hab] at HST
                clear hcw hcf hz hab
                go_wp2_with fail
                refine HCF.out.mono ?_
                rintro e w8 ⟨rfl, hB8⟩
                have HB8 := Lib.hid (join HB7.out (join (below1 _ _) hB8))
                clear hB8 HCF
                cases ab with
                | true =>
                  go_wp2
                  go_roundw
                  case rel => exact ⟨m + 1, m, by omega, by go_num, rfl, Lib.hid (by first | exact HST.out.1 rfl | exact HST.out.1 trivial), HB8⟩
                  case measure => simp [intOf]; omega
                | false =>
                  go_wp2
                  go_roundw
                  case rel => exact ⟨m + 1, -1, by omega, by go_num, rfl, Lib.hid (by first | exact HST.out.2 rfl | exact HST.out.2 trivial), HB8⟩
                  case measure => simp [intOf]; omega
              · have hy1 : ¬ y < 0 := by omega
                have HZ2 := Lib.hid (HZ.out.keep hy0)
                clear hz
                go_wp2
                go_roundw
                case rel => exact ⟨m + 1, y, by omega, by go_num, rfl, HZ2, Lib.hid (join HB7.out (below1 _ _))⟩
                case measure => simp [intOf]; omega
            · obtain rfl : m = t.turns.length := by omega
              have HRA := Lib.hid (show ∀ u ∈ t.turns, (runs (P.length - 1)).any (fun q => runSays P u q.1 q.2) = apartIn P u from fun u hu => by
                have h := runs_apart HPT.out (HOK.out.turn u hu)
                rw [HPE.out, HL1.out, Nat.add_sub_cancel]; exact h)
              have HSP := Lib.hid (show sureP t.turns (plcL (t.words.length : Int) F) = !(t.turns.any (apartIn P)) by rw [HPL.out, HPE.out]; exact sureP_apart HPT.out hl1 (fun u hu => HOK.out.turn u hu))
              have HSU := Lib.hid (sure_any t HOK.out p q c d F hFl pf cf w7 (HTx.out.below HB7W.out) (HI.out.below HB7W.out))
              rw [HSP.out] at HSU
              clear k0 k1 k2 hmt hm
              obtain ⟨k0, k1, k2⟩ := blk3 HBX7.out
              rcases HZ.out with ⟨rfl, hz⟩ | ⟨hy0, j, hj, rfl, haj, hbef⟩
              · have HAN := Lib.hid (show t.turns.any (apartIn P) = false from by
                  rw [Bool.eq_false_iff]; intro h
                  obtain ⟨u, hu, ha⟩ := List.any_eq_true.1 h
                  obtain ⟨i, hi, rfl⟩ := List.mem_iff_getElem.1 hu
                  have := hz i hi
                  rw [show t.turns.getD i default = t.turns[i] from by simp [hi], ha] at this
                  cases this)
                have HA4 := Lib.hid (show a4 = 6 from by
                  have e := HAG.out
                  rcases astrayGo_spec P t.turns 0 with ⟨h1, _⟩ | ⟨k', a, b, h1, h2, _, h4, h5, h6⟩
                  · rw [h1] at e; injection e with _ e; injection e with _ e; injection e with _ e
                  · exfalso
                    have h7 := HRA.out _ (getD_mem default h1)
                    rw [hz k' h1] at h7
                    rw [runs_any (p := fun a b => runSays P (t.turns.getD k' default) a b) h4 h5 h6] at h7
                    cases h7)
                rw [HAN.out] at HSU
                have h6 := HA4.out
                subst h6
                clear hz
                go_wp2_with fail
                refine HSU.out.mono ?_
                rintro e w9 ⟨rfl, hB9⟩
                have HB9 := Lib.hid (join HB7S.out hB9)
                clear hB9 HSU
                go_wp2
                go_roundw
                case rel => exact ⟨k + 1, by omega, by go_num, HEND.out _ HB9.out⟩
                case measure => simp [intOf]; omega
              · have hAB : ∃ a b : Nat, a1 = (j : Int) ∧ a2 = (a : Int) ∧ a3 = (b : Int) ∧ a4 = 0 ∧ a ≤ b ∧ b < P.length - 1 ∧ runSays P (t.turns.getD j default) a b = true := by
                  have e := HAG.out
                  rcases astrayGo_spec P t.turns 0 with ⟨h1, h2⟩ | ⟨k', a, b, h1, h2, h3, h4, h5, h6⟩
                  · exfalso
                    have := h2 _ (getD_mem default hj)
                    rw [HRA.out _ (getD_mem default hj), haj] at this
                    cases this
                  · rw [h2] at e
                    have hk' : k' = j := by
                      rcases Nat.lt_trichotomy k' j with h | h | h
                      · have := hbef k' h
                        rw [← HRA.out _ (getD_mem default h1), runs_any (p := fun a b => runSays P (t.turns.getD k' default) a b) h4 h5 h6] at this
                        cases this
                      · exact h
                      · have := h3 j h
                        rw [HRA.out _ (getD_mem default hj), haj] at this
                        cases this
                    subst hk'
                    injection e with e1 e
                    injection e with e2 e
                    injection e with e3 e4
                    exact ⟨a, b, by rw [e1]; simp, e2, e3, e4, h4, h5, h6⟩
                obtain ⟨a, b, rfl, rfl, rfl, rfl, hab, hbP, hrs⟩ := hAB
                have HAN := Lib.hid (show t.turns.any (apartIn P) = true from List.any_eq_true.2 ⟨_, getD_mem default hj, haj⟩)
                rw [HAN.out] at HSU
                have hll : P.length = F.length + 1 := by rw [HPE.out]; exact HL1.out
                have hpa : P.getD a 0 = isum (F.take a) := by rw [HPE.out]; exact placesL_get F a (by omega)
                have hpb : P.getD (b + 1) 0 = isum (F.take (b + 1)) := by rw [HPE.out]; exact placesL_get F (b + 1) (by omega)
                have hb1 := parts_take HPT.out (b + 1)
                have ha1 := isum_ge (l := F.take a) (fun x hx => HPT.out.1 x (List.mem_of_mem_take hx))
                unfold runSays at hrs
                have hu := HOK.out.turn _ (getD_mem default hj)
                have hss := (says_iff _ _ _).1 hrs
                rw [← hpa] at ha1
                rw [← hpb] at hb1
                obtain ⟨pa, hpa2⟩ : ∃ pa, pa = P.getD a 0 := ⟨_, rfl⟩
                obtain ⟨pb, hpb2⟩ : ∃ pb, pb = P.getD (b + 1) 0 := ⟨_, rfl⟩
                rw [← hpa2] at ha1 hss hrs
                rw [← hpb2] at hb1 hss hrs
                have hE : sayE t pa (pb - 1) = 0 := by
                  unfold sayE
                  rw [if_neg (by rw [HE.out]; simp), if_neg, if_neg (by omega)]
                  simp only [absent, btw, Bool.or_eq_true, Bool.not_eq_true', Bool.and_eq_false_iff, decide_eq_false_iff_not]
                  omega
                have hL : sayL t pa (pb - 1) = t.said pa (pb - 1) := if_pos hE
                have HCT := Lib.hid (show (t.said pa (pb - 1)).contains (j : Int) = true from by
                  rw [List.contains_iff_mem]
                  have := idx_mem (p := fun u : Turn => u.says pa (pb - 1)) t.turns 0 j hj hrs
                  rw [Nat.zero_add] at this
                  exact this)
                have HSL := Lib.hid (show (t.said pa (pb - 1)).length ≤ 1000000 by unfold Text.said; rw [idx_length]; exact Nat.le_trans List.countP_le_length hn3)
                have HSY0 := fun W (h : Below w7.heap.size w7 W) => Says_any t pa (pb - 1) hn9 hn3 p q c d W ((HTx.out.below HB7W.out).below h)
                rw [hE, hL] at HSY0
                have HSY := Lib.hid HSY0
                have hpb0 : 1 ≤ pb := by omega
                have hjn : ¬ (j : Int) < 0 := by omega
                have hba : ¬ (b : Int) < (a : Int) := by omega
                have han0 : ¬ (a : Int) < 0 := by omega
                have hbl : ¬ ((b : Int) ≥ (F.length : Int)) := by omega
                have HRX7 := Lib.hid ((HB7.out.block wA.heap.size (by omega)).trans HRXP.out)
                clear HSY0 hE hL hss hu hrs hpa hpb hbef haj hz7 HRA hll
                go_wp2_with fail
                refine HSU.out.mono ?_
                rintro e w9 ⟨rfl, hB9⟩
                have HB9 := Lib.hid hB9
                have hz9 := hB9.size
                have HRX9 := Lib.hid ((hB9.block wA.heap.size (by have := (Array.getElem?_eq_some_iff.1 HRX7.out).1; exact this)).trans HRX7.out)
                have HBX9 := Lib.hid ((hB9.block T (by have := (Array.getElem?_eq_some_iff.1 HBX7.out).1; exact this)).trans HBX7.out)
                have r0 := blk_cells HRX9.out 0 _ rfl
                have r1 := blk_cells HRX9.out 1 _ rfl
                have HBPw := Lib.hid (join HB7.out hB9)
                clear hB9 HSU k0 k1 k2
                go_wp2_with fail
                have hsT : T < w9.heap.size := (Array.getElem?_eq_some_iff.1 HBX9.out).1
                have hsR : wA.heap.size < w9.heap.size := (Array.getElem?_eq_some_iff.1 HRX9.out).1
                have hsg : gp < w9.heap.size := by have := HBPw.out.size; omega
                have F0 := Lib.hid (blk_cells HBX9.out 0 _ rfl)
                have F1 := Lib.hid (blk_cells HBX9.out 1 _ rfl)
                have F2 := Lib.hid (blk_cells HBX9.out 2 _ rfl)
                have R0 := Lib.hid r0
                have R1 := Lib.hid r1
                have hca := (HBPw.out.cell (p := ⟨gp, og + a, none⟩) hgp).trans (HCP.out a (by omega))
                have hcb := (HBPw.out.cell (p := ⟨gp, og + (b + 1), none⟩) hgp).trans (HCP.out (b + 1) (by omega))
                rw [← hpa2] at hca
                rw [← hpb2] at hcb
                have HCA := Lib.hid hca
                have HCB := Lib.hid hcb
                have han : (a : Int) < P.length := by omega
                have hbn : (b : Int) + 1 < P.length := by omega
                have hbn2 : 0 ≤ (b : Int) + 1 := by omega
                have hbn3 : ((b : Int) + 1).toNat = b + 1 := by omega
                have hsum : IntKind.i64.wrap ((b : Int) + 1) = (b : Int) + 1 := IntWalk.i64_in _ (by omega)
                have hsubb : IntKind.i64.wrap (pb - 1) = pb - 1 := IntWalk.i64_in _ (by have := HW9.out; omega)
                clear r0 r1 hca hcb hpa2 hpb2
                refine Rs.region_gen 20 [[], [], [], [2], [1, 2, 3], [1, 2, 3, 4], [], [], [7], [7, 8], [6, 7, 8, 9], [6, 7, 8, 9, 10], [6, 7, 8, 9, 10, 11], [1, 2, 3, 4, 5, 6, 7, 8, 9, 10, 11, 12], [0, 1, 2, 3, 4, 5, 6, 7, 8, 9, 10, 11, 12, 13], [0, 1, 2, 3, 4, 5, 6, 7, 8, 9, 10, 11, 12, 13, 14], [0, 1, 2, 3, 4, 5, 6, 7, 8, 9, 10, 11, 12, 13, 14, 15], [0, 1, 2, 3, 4, 5, 6, 7, 8, 9, 10, 11, 12, 13, 14, 15], [0, 1, 2, 3, 4, 5, 6, 7, 8, 9, 10, 11, 12, 13, 14, 15, 16], [0, 1, 2, 3, 4, 5, 6, 7, 8, 9, 10, 11, 12, 13, 14, 15, 16, 17, 18]] [some 126, some 127, some 128, some 129, some 130, some 131, some 132, some 133, some 134, some 135, some 136, some 137, some 138, some 139, some 140, some 125, some 141, some 142, some 18, some 19] (spTs (.agg #[.slice p t.words.length c, .slice q t.turns.length d, .int .i64 t.breath]) gp og P.length cp a b wA.heap.size pa pb (t.said pa (pb - 1))) (by kernel_rfl) (by kernel_rfl) rfl (spTs_stable _ _ _ _ _ _ _ _ _ _ _) ?_ ?_
                · refine ⟨fun V w' hG hs => ?_, fun V w' hG hs => ?_, fun V w' hG hs => ?_, fun V w' hG hs => ?_, fun V w' hG hs => ?_, fun V w' hG hs => ?_, fun V w' hG hs => ?_, fun V w' hG hs => ?_, fun V w' hG hs => ?_, fun V w' hG hs => ?_, fun V w' hG hs => ?_, fun V w' hG hs => ?_, fun V w' hG hs => ?_, fun V w' hG hs => ?_, fun V w' hG hs => ?_, fun V w' hG hs => ?_, fun V w' hG hs => ?_, fun V w' hG hs => ?_, fun V w' hG hs => ?_, fun V w' hG hs => ?_, trivial⟩
                  all_goals
                    obtain ⟨bc, _⟩ := bcell hG
                    have f0 := (bc T 0 hsT).trans F0.out
                    have f1 := (bc T 1 hsT).trans F1.out
                    have f2 := (bc T 2 hsT).trans F2.out
                    have r0 := (bc wA.heap.size 0 hsR).trans R0.out
                    have r1 := (bc wA.heap.size 1 hsR).trans R1.out
                    have hca := (bc gp (og + a) hsg).trans HCA.out
                    have hcb := (bc gp (og + (b + 1)) hsg).trans HCB.out
                    clear bc
                  · rw [if_pos (by rfl)]
                    exact Rs.GrowL.value (v := (.agg #[.slice p t.words.length c, .slice q t.turns.length d, .int .i64 t.breath])) (w' := w') (by simp [go_sem, Rs.look, f0, f1, f2]) (Rs.Gr.refl _) rfl
                  · rw [if_pos (by rfl)]
                    exact Rs.GrowL.value (v := .slice (some ⟨gp, og, none⟩) P.length cp) (w' := w') (by simp [go_sem, Rs.look]) (Rs.Gr.refl _) rfl
                  · rw [if_pos (by rfl)]
                    exact Rs.GrowL.value (v := .pointer (some ⟨wA.heap.size, 0, none⟩)) (w' := w') (by simp [go_sem, Rs.look]) (Rs.Gr.refl _) rfl
                  · have e2 : V 2 = .pointer (some ⟨wA.heap.size, 0, none⟩) := hs 2 (by simp)
                    rw [if_pos (by rfl)]
                    exact Rs.GrowL.value (v := .int .i64 (a : Int)) (w' := w') (by simp [go_sem, Rs.look, e2, r0]) (Rs.Gr.refl _) rfl
                  · have e1 : V 1 = .slice (some ⟨gp, og, none⟩) P.length cp := hs 1 (by simp)
                    have e2 : V 2 = .pointer (some ⟨wA.heap.size, 0, none⟩) := hs 2 (by simp)
                    have e3 : V 3 = .int .i64 (a : Int) := hs 3 (by simp)
                    rw [if_pos (by rfl)]
                    exact Rs.GrowL.value (v := .pointer (some ⟨gp, og + a, none⟩)) (w' := w') (by simp [go_sem, Rs.look, e1, e2, e3, han]) (Rs.Gr.refl _) rfl
                  · have e1 : V 1 = .slice (some ⟨gp, og, none⟩) P.length cp := hs 1 (by simp)
                    have e2 : V 2 = .pointer (some ⟨wA.heap.size, 0, none⟩) := hs 2 (by simp)
                    have e3 : V 3 = .int .i64 (a : Int) := hs 3 (by simp)
                    have e4 : V 4 = .pointer (some ⟨gp, og + a, none⟩) := hs 4 (by simp)
                    rw [if_pos (by rfl)]
                    exact Rs.GrowL.value (v := .int .i64 pa) (w' := w') (by simp [go_sem, Rs.look, e1, e2, e3, e4, hca]) (Rs.Gr.refl _) rfl
                  · rw [if_pos (by rfl)]
                    exact Rs.GrowL.value (v := .slice (some ⟨gp, og, none⟩) P.length cp) (w' := w') (by simp [go_sem, Rs.look]) (Rs.Gr.refl _) rfl
                  · rw [if_pos (by rfl)]
                    exact Rs.GrowL.value (v := .pointer (some ⟨wA.heap.size, 1, none⟩)) (w' := w') (by simp [go_sem, Rs.look]) (Rs.Gr.refl _) rfl
                  · have e7 : V 7 = .pointer (some ⟨wA.heap.size, 1, none⟩) := hs 7 (by simp)
                    rw [if_pos (by rfl)]
                    exact Rs.GrowL.value (v := .int .i64 (b : Int)) (w' := w') (by simp [go_sem, Rs.look, e7, r1]) (Rs.Gr.refl _) rfl
                  · have e7 : V 7 = .pointer (some ⟨wA.heap.size, 1, none⟩) := hs 7 (by simp)
                    have e8 : V 8 = .int .i64 (b : Int) := hs 8 (by simp)
                    rw [if_pos (by rfl)]
                    exact Rs.GrowL.value (v := .int .i64 ((b : Int) + 1)) (w' := w') (by simp [go_sem, Rs.look, e7, e8, hsum]) (Rs.Gr.refl _) rfl
                  · have e6 : V 6 = .slice (some ⟨gp, og, none⟩) P.length cp := hs 6 (by simp)
                    have e7 : V 7 = .pointer (some ⟨wA.heap.size, 1, none⟩) := hs 7 (by simp)
                    have e8 : V 8 = .int .i64 (b : Int) := hs 8 (by simp)
                    have e9 : V 9 = .int .i64 ((b : Int) + 1) := hs 9 (by simp)
                    rw [if_pos (by rfl)]
                    exact Rs.GrowL.value (v := .pointer (some ⟨gp, og + (b + 1), none⟩)) (w' := w') (by simp [go_sem, Rs.look, e6, e7, e8, e9, hbn, hbn2, hbn3]) (Rs.Gr.refl _) rfl
                  · have e6 : V 6 = .slice (some ⟨gp, og, none⟩) P.length cp := hs 6 (by simp)
                    have e7 : V 7 = .pointer (some ⟨wA.heap.size, 1, none⟩) := hs 7 (by simp)
                    have e8 : V 8 = .int .i64 (b : Int) := hs 8 (by simp)
                    have e9 : V 9 = .int .i64 ((b : Int) + 1) := hs 9 (by simp)
                    have e10 : V 10 = .pointer (some ⟨gp, og + (b + 1), none⟩) := hs 10 (by simp)
                    rw [if_pos (by rfl)]
                    exact Rs.GrowL.value (v := .int .i64 pb) (w' := w') (by simp [go_sem, Rs.look, e6, e7, e8, e9, e10, hcb]) (Rs.Gr.refl _) rfl
                  · have e6 : V 6 = .slice (some ⟨gp, og, none⟩) P.length cp := hs 6 (by simp)
                    have e7 : V 7 = .pointer (some ⟨wA.heap.size, 1, none⟩) := hs 7 (by simp)
                    have e8 : V 8 = .int .i64 (b : Int) := hs 8 (by simp)
                    have e9 : V 9 = .int .i64 ((b : Int) + 1) := hs 9 (by simp)
                    have e10 : V 10 = .pointer (some ⟨gp, og + (b + 1), none⟩) := hs 10 (by simp)
                    have e11 : V 11 = .int .i64 pb := hs 11 (by simp)
                    rw [if_pos (by rfl)]
                    exact Rs.GrowL.value (v := .int .i64 (pb - 1)) (w' := w') (by simp [go_sem, Rs.look, e6, e7, e8, e9, e10, e11, hsubb]) (Rs.Gr.refl _) rfl
                  · have e1 : V 1 = .slice (some ⟨gp, og, none⟩) P.length cp := hs 1 (by simp)
                    have e2 : V 2 = .pointer (some ⟨wA.heap.size, 0, none⟩) := hs 2 (by simp)
                    have e3 : V 3 = .int .i64 (a : Int) := hs 3 (by simp)
                    have e4 : V 4 = .pointer (some ⟨gp, og + a, none⟩) := hs 4 (by simp)
                    have e5 : V 5 = .int .i64 pa := hs 5 (by simp)
                    have e6 : V 6 = .slice (some ⟨gp, og, none⟩) P.length cp := hs 6 (by simp)
                    have e7 : V 7 = .pointer (some ⟨wA.heap.size, 1, none⟩) := hs 7 (by simp)
                    have e8 : V 8 = .int .i64 (b : Int) := hs 8 (by simp)
                    have e9 : V 9 = .int .i64 ((b : Int) + 1) := hs 9 (by simp)
                    have e10 : V 10 = .pointer (some ⟨gp, og + (b + 1), none⟩) := hs 10 (by simp)
                    have e11 : V 11 = .int .i64 pb := hs 11 (by simp)
                    have e12 : V 12 = .int .i64 (pb - 1) := hs 12 (by simp)
                    rw [if_pos (by rfl)]
                    exact Rs.GrowL.value (v := .agg #[.int .i64 pa, .int .i64 (pb - 1)]) (w' := w') (by simp [go_sem, Rs.look, e1, e2, e3, e4, e5, e6, e7, e8, e9, e10, e11, e12]) (Rs.Gr.refl _) rfl
                  · have e0 : V 0 = (.agg #[.slice p t.words.length c, .slice q t.turns.length d, .int .i64 t.breath]) := hs 0 (by simp)
                    have e1 : V 1 = .slice (some ⟨gp, og, none⟩) P.length cp := hs 1 (by simp)
                    have e2 : V 2 = .pointer (some ⟨wA.heap.size, 0, none⟩) := hs 2 (by simp)
                    have e3 : V 3 = .int .i64 (a : Int) := hs 3 (by simp)
                    have e4 : V 4 = .pointer (some ⟨gp, og + a, none⟩) := hs 4 (by simp)
                    have e5 : V 5 = .int .i64 pa := hs 5 (by simp)
                    have e6 : V 6 = .slice (some ⟨gp, og, none⟩) P.length cp := hs 6 (by simp)
                    have e7 : V 7 = .pointer (some ⟨wA.heap.size, 1, none⟩) := hs 7 (by simp)
                    have e8 : V 8 = .int .i64 (b : Int) := hs 8 (by simp)
                    have e9 : V 9 = .int .i64 ((b : Int) + 1) := hs 9 (by simp)
                    have e10 : V 10 = .pointer (some ⟨gp, og + (b + 1), none⟩) := hs 10 (by simp)
                    have e11 : V 11 = .int .i64 pb := hs 11 (by simp)
                    have e12 : V 12 = .int .i64 (pb - 1) := hs 12 (by simp)
                    have e13 : V 13 = .agg #[.int .i64 pa, .int .i64 (pb - 1)] := hs 13 (by simp)
                    rw [if_pos (by rfl)]
                    refine Rs.GrowL.call (f := 24) (args := #[(.agg #[.slice p t.words.length c, .slice q t.turns.length d, .int .i64 t.breath]), .agg #[.int .i64 pa, .int .i64 (pb - 1)]]) (by simp [go_sem, Rs.look, e0, e13]) ?_
                    refine (HSY.out w' (join HB9.out hG)).mono ?_
                    rintro e w2 ⟨v, rfl, hown, hB2⟩
                    obtain ⟨pp, cc, rfl, hI, -⟩ := own_rd hown rfl
                    exact ⟨_, rfl, hB2, pp, cc, rfl, hI⟩
                  · have e0 : V 0 = (.agg #[.slice p t.words.length c, .slice q t.turns.length d, .int .i64 t.breath]) := hs 0 (by simp)
                    have e1 : V 1 = .slice (some ⟨gp, og, none⟩) P.length cp := hs 1 (by simp)
                    have e2 : V 2 = .pointer (some ⟨wA.heap.size, 0, none⟩) := hs 2 (by simp)
                    have e3 : V 3 = .int .i64 (a : Int) := hs 3 (by simp)
                    have e4 : V 4 = .pointer (some ⟨gp, og + a, none⟩) := hs 4 (by simp)
                    have e5 : V 5 = .int .i64 pa := hs 5 (by simp)
                    have e6 : V 6 = .slice (some ⟨gp, og, none⟩) P.length cp := hs 6 (by simp)
                    have e7 : V 7 = .pointer (some ⟨wA.heap.size, 1, none⟩) := hs 7 (by simp)
                    have e8 : V 8 = .int .i64 (b : Int) := hs 8 (by simp)
                    have e9 : V 9 = .int .i64 ((b : Int) + 1) := hs 9 (by simp)
                    have e10 : V 10 = .pointer (some ⟨gp, og + (b + 1), none⟩) := hs 10 (by simp)
                    have e11 : V 11 = .int .i64 pb := hs 11 (by simp)
                    have e12 : V 12 = .int .i64 (pb - 1) := hs 12 (by simp)
                    have e13 : V 13 = .agg #[.int .i64 pa, .int .i64 (pb - 1)] := hs 13 (by simp)
                    have r14 := hs 14 (by simp)
                    rw [if_pos (by rfl)]
                    obtain ⟨pp, cc, e14, h⟩ := r14
                    exact Rs.GrowL.value (v := .tuple #[.slice pp (t.said pa (pb - 1)).length cc, .int .i64 0]) (w' := w') (by simp [go_sem, Rs.look, e14]) (Rs.Gr.refl _) ⟨pp, cc, rfl, h⟩
                  · have e0 : V 0 = (.agg #[.slice p t.words.length c, .slice q t.turns.length d, .int .i64 t.breath]) := hs 0 (by simp)
                    have e1 : V 1 = .slice (some ⟨gp, og, none⟩) P.length cp := hs 1 (by simp)
                    have e2 : V 2 = .pointer (some ⟨wA.heap.size, 0, none⟩) := hs 2 (by simp)
                    have e3 : V 3 = .int .i64 (a : Int) := hs 3 (by simp)
                    have e4 : V 4 = .pointer (some ⟨gp, og + a, none⟩) := hs 4 (by simp)
                    have e5 : V 5 = .int .i64 pa := hs 5 (by simp)
                    have e6 : V 6 = .slice (some ⟨gp, og, none⟩) P.length cp := hs 6 (by simp)
                    have e7 : V 7 = .pointer (some ⟨wA.heap.size, 1, none⟩) := hs 7 (by simp)
                    have e8 : V 8 = .int .i64 (b : Int) := hs 8 (by simp)
                    have e9 : V 9 = .int .i64 ((b : Int) + 1) := hs 9 (by simp)
                    have e10 : V 10 = .pointer (some ⟨gp, og + (b + 1), none⟩) := hs 10 (by simp)
                    have e11 : V 11 = .int .i64 pb := hs 11 (by simp)
                    have e12 : V 12 = .int .i64 (pb - 1) := hs 12 (by simp)
                    have e13 : V 13 = .agg #[.int .i64 pa, .int .i64 (pb - 1)] := hs 13 (by simp)
                    have r14 := hs 14 (by simp)
                    have r15 := hs 15 (by simp)
                    rw [if_pos (by rfl)]
                    obtain ⟨pp, cc, e15, h⟩ := r15
                    exact Rs.GrowL.value (v := .slice pp (t.said pa (pb - 1)).length cc) (w' := w') (by simp [go_sem, Rs.look, e15]) (Rs.Gr.refl _) ⟨pp, cc, rfl, h⟩
                  · have e0 : V 0 = (.agg #[.slice p t.words.length c, .slice q t.turns.length d, .int .i64 t.breath]) := hs 0 (by simp)
                    have e1 : V 1 = .slice (some ⟨gp, og, none⟩) P.length cp := hs 1 (by simp)
                    have e2 : V 2 = .pointer (some ⟨wA.heap.size, 0, none⟩) := hs 2 (by simp)
                    have e3 : V 3 = .int .i64 (a : Int) := hs 3 (by simp)
                    have e4 : V 4 = .pointer (some ⟨gp, og + a, none⟩) := hs 4 (by simp)
                    have e5 : V 5 = .int .i64 pa := hs 5 (by simp)
                    have e6 : V 6 = .slice (some ⟨gp, og, none⟩) P.length cp := hs 6 (by simp)
                    have e7 : V 7 = .pointer (some ⟨wA.heap.size, 1, none⟩) := hs 7 (by simp)
                    have e8 : V 8 = .int .i64 (b : Int) := hs 8 (by simp)
                    have e9 : V 9 = .int .i64 ((b : Int) + 1) := hs 9 (by simp)
                    have e10 : V 10 = .pointer (some ⟨gp, og + (b + 1), none⟩) := hs 10 (by simp)
                    have e11 : V 11 = .int .i64 pb := hs 11 (by simp)
                    have e12 : V 12 = .int .i64 (pb - 1) := hs 12 (by simp)
                    have e13 : V 13 = .agg #[.int .i64 pa, .int .i64 (pb - 1)] := hs 13 (by simp)
                    have r14 := hs 14 (by simp)
                    have r15 := hs 15 (by simp)
                    rw [if_pos (by rfl)]
                    obtain ⟨pp, cc, e15, h⟩ := r15
                    exact Rs.GrowL.value (v := .int .i64 0) (w' := w') (by simp [go_sem, Rs.look, e15]) (Rs.Gr.refl _) rfl
                  · have e0 : V 0 = (.agg #[.slice p t.words.length c, .slice q t.turns.length d, .int .i64 t.breath]) := hs 0 (by simp)
                    have e1 : V 1 = .slice (some ⟨gp, og, none⟩) P.length cp := hs 1 (by simp)
                    have e2 : V 2 = .pointer (some ⟨wA.heap.size, 0, none⟩) := hs 2 (by simp)
                    have e3 : V 3 = .int .i64 (a : Int) := hs 3 (by simp)
                    have e4 : V 4 = .pointer (some ⟨gp, og + a, none⟩) := hs 4 (by simp)
                    have e5 : V 5 = .int .i64 pa := hs 5 (by simp)
                    have e6 : V 6 = .slice (some ⟨gp, og, none⟩) P.length cp := hs 6 (by simp)
                    have e7 : V 7 = .pointer (some ⟨wA.heap.size, 1, none⟩) := hs 7 (by simp)
                    have e8 : V 8 = .int .i64 (b : Int) := hs 8 (by simp)
                    have e9 : V 9 = .int .i64 ((b : Int) + 1) := hs 9 (by simp)
                    have e10 : V 10 = .pointer (some ⟨gp, og + (b + 1), none⟩) := hs 10 (by simp)
                    have e11 : V 11 = .int .i64 pb := hs 11 (by simp)
                    have e12 : V 12 = .int .i64 (pb - 1) := hs 12 (by simp)
                    have e13 : V 13 = .agg #[.int .i64 pa, .int .i64 (pb - 1)] := hs 13 (by simp)
                    have r14 := hs 14 (by simp)
                    have r15 := hs 15 (by simp)
                    have r16 := hs 16 (by simp)
                    rw [if_pos (by rfl)]
                    obtain ⟨pp, cc, e16, h⟩ := r16
                    exact Rs.GrowL.value (v := .slice pp (t.said pa (pb - 1)).length cc) (w' := w') (by simp [go_sem, Rs.look, e16]) (Rs.Gr.refl _) ⟨pp, cc, rfl, h⟩
                  · have e0 : V 0 = (.agg #[.slice p t.words.length c, .slice q t.turns.length d, .int .i64 t.breath]) := hs 0 (by simp)
                    have e1 : V 1 = .slice (some ⟨gp, og, none⟩) P.length cp := hs 1 (by simp)
                    have e2 : V 2 = .pointer (some ⟨wA.heap.size, 0, none⟩) := hs 2 (by simp)
                    have e3 : V 3 = .int .i64 (a : Int) := hs 3 (by simp)
                    have e4 : V 4 = .pointer (some ⟨gp, og + a, none⟩) := hs 4 (by simp)
                    have e5 : V 5 = .int .i64 pa := hs 5 (by simp)
                    have e6 : V 6 = .slice (some ⟨gp, og, none⟩) P.length cp := hs 6 (by simp)
                    have e7 : V 7 = .pointer (some ⟨wA.heap.size, 1, none⟩) := hs 7 (by simp)
                    have e8 : V 8 = .int .i64 (b : Int) := hs 8 (by simp)
                    have e9 : V 9 = .int .i64 ((b : Int) + 1) := hs 9 (by simp)
                    have e10 : V 10 = .pointer (some ⟨gp, og + (b + 1), none⟩) := hs 10 (by simp)
                    have e11 : V 11 = .int .i64 pb := hs 11 (by simp)
                    have e12 : V 12 = .int .i64 (pb - 1) := hs 12 (by simp)
                    have e13 : V 13 = .agg #[.int .i64 pa, .int .i64 (pb - 1)] := hs 13 (by simp)
                    have r14 := hs 14 (by simp)
                    have r15 := hs 15 (by simp)
                    have r16 := hs 16 (by simp)
                    have e17 : V 17 = .int .i64 0 := hs 17 (by simp)
                    have r18 := hs 18 (by simp)
                    rw [if_pos (by rfl)]
                    exact Rs.GrowL.value (v := .int .i64 0) (w' := w') (by simp [go_sem, Rs.look, e0, e1, e2, e3, e4, e5, e6, e7, e8, e9, e10, e11, e12, e13, e17, e17]) (Rs.Gr.refl _) rfl
                · intro V w' hG hs
                  have e0 : V 0 = (.agg #[.slice p t.words.length c, .slice q t.turns.length d, .int .i64 t.breath]) := hs 0 (by omega)
                  have e1 : V 1 = .slice (some ⟨gp, og, none⟩) P.length cp := hs 1 (by omega)
                  have e2 : V 2 = .pointer (some ⟨wA.heap.size, 0, none⟩) := hs 2 (by omega)
                  have e3 : V 3 = .int .i64 (a : Int) := hs 3 (by omega)
                  have e4 : V 4 = .pointer (some ⟨gp, og + a, none⟩) := hs 4 (by omega)
                  have e5 : V 5 = .int .i64 pa := hs 5 (by omega)
                  have e6 : V 6 = .slice (some ⟨gp, og, none⟩) P.length cp := hs 6 (by omega)
                  have e7 : V 7 = .pointer (some ⟨wA.heap.size, 1, none⟩) := hs 7 (by omega)
                  have e8 : V 8 = .int .i64 (b : Int) := hs 8 (by omega)
                  have e9 : V 9 = .int .i64 ((b : Int) + 1) := hs 9 (by omega)
                  have e10 : V 10 = .pointer (some ⟨gp, og + (b + 1), none⟩) := hs 10 (by omega)
                  have e11 : V 11 = .int .i64 pb := hs 11 (by omega)
                  have e12 : V 12 = .int .i64 (pb - 1) := hs 12 (by omega)
                  have e13 : V 13 = .agg #[.int .i64 pa, .int .i64 (pb - 1)] := hs 13 (by omega)
                  have r14 := hs 14 (by omega)
                  have r15 := hs 15 (by omega)
                  have r16 := hs 16 (by omega)
                  have e17 : V 17 = .int .i64 0 := hs 17 (by omega)
                  have r18 := hs 18 (by omega)
                  have e19 : V 19 = .int .i64 0 := hs 19 (by omega)
                  obtain ⟨p14, c14, e14, -⟩ := r14
                  obtain ⟨p15, c15, e15, -⟩ := r15
                  obtain ⟨p16, c16, e16, -⟩ := r16
                  obtain ⟨pS, cS, e18, hIS⟩ := r18
                  simp only [Rs.canon, Rs.dstOf, List.range_succ, List.range_zero, List.nil_append, List.cons_append, List.foldl_cons, List.foldl_nil, List.drop_succ_cons, List.drop_zero, List.drop_nil, List.getElem?_toArray, List.getElem?_cons_succ, List.getElem?_cons_zero, Option.bind_some, Act.put, List.getD_cons_succ, List.getD_cons_zero, List.setIfInBounds_toArray, List.set_cons_succ, List.set_cons_zero]
                  rw [e0, e1, e2, e3, e4, e5, e6, e7, e8, e9, e10, e11, e12, e13, e17, e19, e14, e15, e16, e18]
                  clear e0 e1 e2 e3 e4 e5 e6 e7 e8 e9 e10 e11 e12 e13 e17 e19 e14 e15 e16 e18 hs
                  have HB10 := Lib.hid (join HB7S.out (join HB9.out hG))
                  clear hG
                  go_wp2_with fail
                  refine (contains_any (t.said pa (pb - 1)) HSL.out pS cS (j : Int) _ hIS).mono ?_
                  rintro e wz ⟨rfl, rfl⟩
                  rw [HCT.out]
                  go_wp2
                  go_roundw
                  case rel => exact ⟨k + 1, by omega, by go_num, HEND.out _ HB10.out⟩
                  case measure => simp [intOf]; omega
      · have hk1 : (k : Int) > 0 := by omega
        clear hk0
        go_wp2_with fail
        refine (tried_any (T + 1) pq nq cq t.words HOK.out.n1 (by have := HW9.out; omega) (.slice q t.turns.length d) (.int .i64 t.breath) p c _ HB3.out (fun h mb mo e => Nat.lt_of_lt_of_le (HMQ5.out h mb mo e) hz3) HTx.out.words HPW.out).mono ?_
        rintro e w6 ⟨v6, l, rfl, ho6, hp6, hb6, hh6⟩
        obtain ⟨pl, cl, rfl, hI6, -⟩ := own_rd ho6.out rfl
        have HI := Lib.hid hI6
        have HQL := Lib.hid (show l = [] ∨ Parts t.words.length l from .inr hp6.out)
        have hll : l.length ≤ 100000 := by have := parts_len hp6.out; have := HW9.out; omega
        have HH6 := Lib.hid (HH3.out.trans hh6.out)
        have hz6 := HH6.out.size
        have HT6 := Lib.hid (HTT.out _ (HB35.out.trans (hold_below HH6.out (by omega))))
        have HBX6 := Lib.hid ((HH6.out.same T (show T ≠ T + 1 by omega) (by omega)).trans HBX5.out)
        have HB6 := hb6
        clear ho6 hp6 hh6 hI6 HB3 HH3 HTx HBX k0 k1 k2 hz3
        obtain ⟨k0, k1, k2⟩ := blk3 HBX6.out
        go_wp2_with fail
        refine (Astray_any t l hn9 hn3 hll p q pl c d cl HC.out _ HT6.out HI.out).mono ?_
        rintro e wA ⟨rfl, hBA⟩
        obtain ⟨ar, har⟩ : ∃ ar, ar = astrayR t l := ⟨_, rfl⟩
        rw [← har]
        have HAR := Lib.hid har
        have HBA := Lib.hid hBA
        have HBXA := Lib.hid ((hBA.block T (by omega)).trans HBX6.out)
        have hzA := hBA.size
        clear hBA k0 k1 k2 har
        obtain ⟨a1, a2, a3, a4⟩ := ar
        obtain ⟨k0, k1, k2⟩ := blk3 HBXA.out
        have hqA : T < wA.heap.size := by omega
        have HBR := Lib.hid (join HBA.out (below1 wA (.cells #[.int .i64 a2, .int .i64 a3] 27)))
        have HRX := Lib.hid (heap_last wA (.cells #[.int .i64 a2, .int .i64 a3] 27))
        go_wp2_with fail
        refine (sound_any t HOK.out p q c d HC.out l hll pl cl _ (HT6.out.below HBR.out) (HI.out.below HBR.out)).mono ?_
        rintro e wS ⟨rfl, hBS⟩
        have HBS := Lib.hid (join HBR.out hBS)
        have HBXS := Lib.hid ((HBS.out.block T (by omega)).trans HBX6.out)
        have HRXS := Lib.hid ((hBS.block wA.heap.size (by simp)).trans HRX.out)
        have hzS : wA.heap.size + 1 ≤ wS.heap.size := by have := hBS.size; simp at this; omega
        have HEND := Lib.hid (show ∀ W', Below wS.heap.size wS W' → BellOk W' (T + 1) pq nq cq ∧ Hold (fun k => k ≠ T + 1) W5 W' from fun W' h => ⟨HB6.out.below (join HBS.out h), HH6.out.trans (Hold.below (join HBS.out h))⟩)
        clear hBS k0 k1 k2 HBR HRX HBXA HBA
        obtain ⟨k0, k1, k2⟩ := blk3 HBXS.out
        cases hs : soundB t l with
        | false =>
          have HLC := Lib.hid (show a4 = 8 ∨ l = [] from by
            rcases HQL.out with h | h
            · exact .inr h
            · left
              have e := HAR.out
              rw [astrayR_sound HOK.out HE.out h, hs, if_neg (by simp)] at e
              injection e with _ e; injection e with _ e; injection e with _ e)
          clear hs
          rcases HLC.out with h8 | hl0
          · subst h8
            go_wp2
            go_roundw
            case rel => exact ⟨k + 1, by omega, by go_num, HEND.out _ (Below.refl _ _)⟩
            case measure => simp [intOf]; omega
          · have hlz : ¬ ((l.length : Int) > 0) := by rw [hl0]; simp
            clear hl0
            by_cases h8 : a4 = 8
            · subst h8
              go_wp2
              go_roundw
              case rel => exact ⟨k + 1, by omega, by go_num, HEND.out _ (Below.refl _ _)⟩
              case measure => simp [intOf]; omega
            · have h8' : (a4 != 8) = true := by simpa using h8
              go_wp2
              go_roundw
              case rel => exact ⟨k + 1, by omega, by go_num, HEND.out _ (Below.refl _ _)⟩
              case measure => simp [intOf]; omega
        | true =>
          have hP : Parts t.words.length l := by
            rcases HQL.out with h | h
            · exfalso
              rw [h] at hs
              have := ((partsB_iff _ _).1 ((Bool.and_eq_true _ _).mp (show (partsB t.words.length [] && okFrom t.right 0 []) = true from hs)).1).2
              have := HOK.out.n1
              simp [isum] at *
              omega
            · exact h
          have HPT := Lib.hid hP
          have HAG := Lib.hid (show (a1, a2, a3, a4) = astrayGo (placesL l) 0 t.turns by rw [HAR.out, astrayR_sound HOK.out HE.out hP, hs, if_pos rfl])
          have HPL := Lib.hid (show plcL (t.words.length : Int) l = placesL l by unfold plcL; rw [if_pos ((partsB_iff _ _).2 hP)])
          have hPlen := placesL_len l
          have hl1 : 1 ≤ l.length := by
            have h1 := HOK.out.n1
            rcases Nat.eq_zero_or_pos l.length with h | h
            · rw [List.length_eq_zero_iff.1 h] at hP; have := hP.2; simp [isum] at this; omega
            · exact h
          have HL1 := Lib.hid (show (placesL l).length = l.length + 1 from hPlen)
          clear hs hP HAR
          go_wp2_with fail
          refine (places_any t.words.length (by have := HW9.out; omega) p c (.slice q t.turns.length d) (.int .i64 t.breath) l pl cl _ (HI.out.below HBS.out) hll).mono ?_
          rintro e wP ⟨v, rfl, hownP, hBP⟩
          rw [HPL.out] at hownP
          obtain ⟨pp, cp, rfl, hIP, -, hcp, hcp2⟩ := own_rd hownP rfl
          rcases hIP with h0 | ⟨gp, og, rfl, hgp, hcP⟩
          · rw [h0] at hPlen; simp at hPlen
          have HCP := Lib.hid hcP
          obtain ⟨P, hPe⟩ : ∃ P, P = placesL l := ⟨_, rfl⟩
          have HPE := Lib.hid hPe
          rw [← hPe] at hcp2 hPlen HCP HAG ⊢
          have hP2 : 2 ≤ P.length := by omega
          have hPm : P.length ≤ 100001 := by omega
          have HBP := Lib.hid hBP
          have hzP := hBP.size
          have HBXP := Lib.hid ((hBP.block T (by omega)).trans HBXS.out)
          have HRXP := Lib.hid ((hBP.block wA.heap.size (by omega)).trans HRXS.out)
          clear hownP hBP hPe hcP k0 k1 k2 hPlen
          obtain ⟨k0, k1, k2⟩ := blk3 HBXP.out
          go_wp2_with fail
          go_loopw [15, 63] (fun z i wr => ∃ (m : Nat) (y : Int), m ≤ t.turns.length ∧ i = .int .i64 m ∧ z = .int .i64 y ∧ Hid (ApZ P t.turns y m) ∧ Hid (Below wP.heap.size wP wr)) (fun _ i _ => t.turns.length - (intOf i).toNat)
          case atStart => exact ⟨0, -1, Nat.zero_le _, rfl, rfl, Lib.hid (.inl ⟨rfl, fun j hj => absurd hj (Nat.not_lt_zero _)⟩), Lib.hid (Below.refl _ _)⟩
          case round =>
            obtain ⟨w7, rfl⟩ : ∃ w7 : World, w7 = wr := ⟨_, rfl⟩
            obtain ⟨m, y, hm, rfl, rfl, HZ, HB7⟩ := hrel
            have hz7 := HB7.out.size
            have HB7S := Lib.hid (join HBP.out HB7.out)
            have HB7W := Lib.hid (join HBS.out HB7S.out)
            have HBX7 := Lib.hid ((HB7.out.block T (by omega)).trans HBXP.out)
            by_cases hmt : m < t.turns.length
            · have hmt' : (m : Int) < t.turns.length := by omega
              obtain ⟨bt, ot, x, rfl, hbt, hxx, c1, c2, c3⟩ := ((HT6.out.below HB7W.out).turns).at hmt
              obtain ⟨uw, ul, uh⟩ := x
              dsimp only at c1 c2 c3
              have HX := Lib.hid hxx
              clear hxx k0 k1 k2
              rcases HZ.out with ⟨rfl, hz⟩ | ⟨hy0, hz⟩
              · have hsubP : IntKind.i64.wrap ((P.length : Int) - 1) = ((P.length - 1 : Nat) : Int) := by rw [IntWalk.i64_in _ (by omega)]; omega
                have hcw : ∀ i, i < P.length → (w7.alloc (.cells #[.int .i64 uw, .int .i64 ul, .int .i64 uh] 80)).cell? ⟨gp, og + i, none⟩ = some (.int .i64 (P.getD i 0)) := fun i hi => ((join HB7.out (below1 _ _)).cell (p := ⟨gp, og + i, none⟩) hgp).trans (HCP.out i hi)
                have hcf := containsFuncI 63 entered_sure1 (.pointer (some ⟨w7.heap.size, 0, none⟩)) (fun v => (Turn.mk uw ul uh).parts v) (innerP P) (some ⟨gp, og + 1, none⟩) (cp - 1) (w7.alloc (.cells #[.int .i64 uw, .int .i64 ul, .int .i64 uh] 80)) (by rw [inner_len]; omega) (inner_ints (by simp; omega) hcw) (fun W h u hu => sure1_any ⟨uw, ul, uh⟩ u w7.heap.size W ((h.block _ (by simp)).trans (heap_last _ _)))
                rw [inner_len] at hcf
                have HCF := Lib.hid hcf
                have HST := Lib.hid (ApZ.step hz)
                rw [← HX.out] at HST
                obtain ⟨ab, hab⟩ : ∃ ab, ab = apartIn P ⟨uw, ul, uh⟩ := ⟨_, rfl⟩
                rw [show (innerP P).any (fun v => (Turn.mk uw ul uh).parts v) = ab from hab.symm] at HCF
                rw [← hab] at HST
                clear hcw hcf hz hab
                go_wp2_with fail
                refine HCF.out.mono ?_
                rintro e w8 ⟨rfl, hB8⟩
                have HB8 := Lib.hid (join HB7.out (join (below1 _ _) hB8))
                clear hB8 HCF
                cases ab with
                | true =>
                  go_wp2
                  go_roundw
                  case rel => exact ⟨m + 1, m, by omega, by go_num, rfl, Lib.hid (by first | exact HST.out.1 rfl | exact HST.out.1 trivial), HB8⟩
                  case measure => simp [intOf]; omega
                | false =>
                  go_wp2
                  go_roundw
                  case rel => exact ⟨m + 1, -1, by omega, by go_num, rfl, Lib.hid (by first | exact HST.out.2 rfl | exact HST.out.2 trivial), HB8⟩
                  case measure => simp [intOf]; omega
              · have hy1 : ¬ y < 0 := by omega
                have HZ2 := Lib.hid (HZ.out.keep hy0)
                clear hz
                go_wp2
                go_roundw
                case rel => exact ⟨m + 1, y, by omega, by go_num, rfl, HZ2, Lib.hid (join HB7.out (below1 _ _))⟩
                case measure => simp [intOf]; omega
            · obtain rfl : m = t.turns.length := by omega
              have HRA := Lib.hid (show ∀ u ∈ t.turns, (runs (P.length - 1)).any (fun q => runSays P u q.1 q.2) = apartIn P u from fun u hu => by
                have h := runs_apart HPT.out (HOK.out.turn u hu)
                rw [HPE.out, HL1.out, Nat.add_sub_cancel]; exact h)
              have HSP := Lib.hid (show sureP t.turns (plcL (t.words.length : Int) l) = !(t.turns.any (apartIn P)) by rw [HPL.out, HPE.out]; exact sureP_apart HPT.out hl1 (fun u hu => HOK.out.turn u hu))
              have HSU := Lib.hid (sure_any t HOK.out p q c d l hll pl cl w7 (HT6.out.below HB7W.out) (HI.out.below HB7W.out))
              rw [HSP.out] at HSU
              clear k0 k1 k2 hmt hm
              obtain ⟨k0, k1, k2⟩ := blk3 HBX7.out
              rcases HZ.out with ⟨rfl, hz⟩ | ⟨hy0, j, hj, rfl, haj, hbef⟩
              · have HAN := Lib.hid (show t.turns.any (apartIn P) = false from by
                  rw [Bool.eq_false_iff]; intro h
                  obtain ⟨u, hu, ha⟩ := List.any_eq_true.1 h
                  obtain ⟨i, hi, rfl⟩ := List.mem_iff_getElem.1 hu
                  have := hz i hi
                  rw [show t.turns.getD i default = t.turns[i] from by simp [hi], ha] at this
                  cases this)
                have HA4 := Lib.hid (show a4 = 6 from by
                  have e := HAG.out
                  rcases astrayGo_spec P t.turns 0 with ⟨h1, _⟩ | ⟨k', a, b, h1, h2, _, h4, h5, h6⟩
                  · rw [h1] at e; injection e with _ e; injection e with _ e; injection e with _ e
                  · exfalso
                    have h7 := HRA.out _ (getD_mem default h1)
                    rw [hz k' h1] at h7
                    rw [runs_any (p := fun a b => runSays P (t.turns.getD k' default) a b) h4 h5 h6] at h7
                    cases h7)
                rw [HAN.out] at HSU
                have h6 := HA4.out
                subst h6
                clear hz
                go_wp2_with fail
                refine HSU.out.mono ?_
                rintro e w9 ⟨rfl, hB9⟩
                have HB9 := Lib.hid (join HB7S.out hB9)
                clear hB9 HSU
                go_wp2
                go_roundw
                case rel => exact ⟨k + 1, by omega, by go_num, HEND.out _ HB9.out⟩
                case measure => simp [intOf]; omega
              · have hAB : ∃ a b : Nat, a1 = (j : Int) ∧ a2 = (a : Int) ∧ a3 = (b : Int) ∧ a4 = 0 ∧ a ≤ b ∧ b < P.length - 1 ∧ runSays P (t.turns.getD j default) a b = true := by
                  have e := HAG.out
                  rcases astrayGo_spec P t.turns 0 with ⟨h1, h2⟩ | ⟨k', a, b, h1, h2, h3, h4, h5, h6⟩
                  · exfalso
                    have := h2 _ (getD_mem default hj)
                    rw [HRA.out _ (getD_mem default hj), haj] at this
                    cases this
                  · rw [h2] at e
                    have hk' : k' = j := by
                      rcases Nat.lt_trichotomy k' j with h | h | h
                      · have := hbef k' h
                        rw [← HRA.out _ (getD_mem default h1), runs_any (p := fun a b => runSays P (t.turns.getD k' default) a b) h4 h5 h6] at this
                        cases this
                      · exact h
                      · have := h3 j h
                        rw [HRA.out _ (getD_mem default hj), haj] at this
                        cases this
                    subst hk'
                    injection e with e1 e
                    injection e with e2 e
                    injection e with e3 e4
                    exact ⟨a, b, by rw [e1]; simp, e2, e3, e4, h4, h5, h6⟩
                obtain ⟨a, b, rfl, rfl, rfl, rfl, hab, hbP, hrs⟩ := hAB
                have HAN := Lib.hid (show t.turns.any (apartIn P) = true from List.any_eq_true.2 ⟨_, getD_mem default hj, haj⟩)
                rw [HAN.out] at HSU
                have hll : P.length = l.length + 1 := by rw [HPE.out]; exact HL1.out
                have hpa : P.getD a 0 = isum (l.take a) := by rw [HPE.out]; exact placesL_get l a (by omega)
                have hpb : P.getD (b + 1) 0 = isum (l.take (b + 1)) := by rw [HPE.out]; exact placesL_get l (b + 1) (by omega)
                have hb1 := parts_take HPT.out (b + 1)
                have ha1 := isum_ge (l := l.take a) (fun x hx => HPT.out.1 x (List.mem_of_mem_take hx))
                unfold runSays at hrs
                have hu := HOK.out.turn _ (getD_mem default hj)
                have hss := (says_iff _ _ _).1 hrs
                rw [← hpa] at ha1
                rw [← hpb] at hb1
                obtain ⟨pa, hpa2⟩ : ∃ pa, pa = P.getD a 0 := ⟨_, rfl⟩
                obtain ⟨pb, hpb2⟩ : ∃ pb, pb = P.getD (b + 1) 0 := ⟨_, rfl⟩
                rw [← hpa2] at ha1 hss hrs
                rw [← hpb2] at hb1 hss hrs
                have hE : sayE t pa (pb - 1) = 0 := by
                  unfold sayE
                  rw [if_neg (by rw [HE.out]; simp), if_neg, if_neg (by omega)]
                  simp only [absent, btw, Bool.or_eq_true, Bool.not_eq_true', Bool.and_eq_false_iff, decide_eq_false_iff_not]
                  omega
                have hL : sayL t pa (pb - 1) = t.said pa (pb - 1) := if_pos hE
                have HCT := Lib.hid (show (t.said pa (pb - 1)).contains (j : Int) = true from by
                  rw [List.contains_iff_mem]
                  have := idx_mem (p := fun u : Turn => u.says pa (pb - 1)) t.turns 0 j hj hrs
                  rw [Nat.zero_add] at this
                  exact this)
                have HSL := Lib.hid (show (t.said pa (pb - 1)).length ≤ 1000000 by unfold Text.said; rw [idx_length]; exact Nat.le_trans List.countP_le_length hn3)
                have HSY0 := fun W (h : Below w7.heap.size w7 W) => Says_any t pa (pb - 1) hn9 hn3 p q c d W ((HT6.out.below HB7W.out).below h)
                rw [hE, hL] at HSY0
                have HSY := Lib.hid HSY0
                have hpb0 : 1 ≤ pb := by omega
                have hjn : ¬ (j : Int) < 0 := by omega
                have hba : ¬ (b : Int) < (a : Int) := by omega
                have han0 : ¬ (a : Int) < 0 := by omega
                have hbl : ¬ ((b : Int) ≥ (l.length : Int)) := by omega
                have HRX7 := Lib.hid ((HB7.out.block wA.heap.size (by omega)).trans HRXP.out)
                clear HSY0 hE hL hss hu hrs hpa hpb hbef haj hz7 HRA hll
                go_wp2_with fail
                refine HSU.out.mono ?_
                rintro e w9 ⟨rfl, hB9⟩
                have HB9 := Lib.hid hB9
                have hz9 := hB9.size
                have HRX9 := Lib.hid ((hB9.block wA.heap.size (by have := (Array.getElem?_eq_some_iff.1 HRX7.out).1; exact this)).trans HRX7.out)
                have HBX9 := Lib.hid ((hB9.block T (by have := (Array.getElem?_eq_some_iff.1 HBX7.out).1; exact this)).trans HBX7.out)
                have r0 := blk_cells HRX9.out 0 _ rfl
                have r1 := blk_cells HRX9.out 1 _ rfl
                have HBPw := Lib.hid (join HB7.out hB9)
                clear hB9 HSU k0 k1 k2
                go_wp2_with fail
                have hsT : T < w9.heap.size := (Array.getElem?_eq_some_iff.1 HBX9.out).1
                have hsR : wA.heap.size < w9.heap.size := (Array.getElem?_eq_some_iff.1 HRX9.out).1
                have hsg : gp < w9.heap.size := by have := HBPw.out.size; omega
                have F0 := Lib.hid (blk_cells HBX9.out 0 _ rfl)
                have F1 := Lib.hid (blk_cells HBX9.out 1 _ rfl)
                have F2 := Lib.hid (blk_cells HBX9.out 2 _ rfl)
                have R0 := Lib.hid r0
                have R1 := Lib.hid r1
                have hca := (HBPw.out.cell (p := ⟨gp, og + a, none⟩) hgp).trans (HCP.out a (by omega))
                have hcb := (HBPw.out.cell (p := ⟨gp, og + (b + 1), none⟩) hgp).trans (HCP.out (b + 1) (by omega))
                rw [← hpa2] at hca
                rw [← hpb2] at hcb
                have HCA := Lib.hid hca
                have HCB := Lib.hid hcb
                have han : (a : Int) < P.length := by omega
                have hbn : (b : Int) + 1 < P.length := by omega
                have hbn2 : 0 ≤ (b : Int) + 1 := by omega
                have hbn3 : ((b : Int) + 1).toNat = b + 1 := by omega
                have hsum : IntKind.i64.wrap ((b : Int) + 1) = (b : Int) + 1 := IntWalk.i64_in _ (by omega)
                have hsubb : IntKind.i64.wrap (pb - 1) = pb - 1 := IntWalk.i64_in _ (by have := HW9.out; omega)
                clear r0 r1 hca hcb hpa2 hpb2
                refine Rs.region_gen 20 [[], [], [], [2], [1, 2, 3], [1, 2, 3, 4], [], [], [7], [7, 8], [6, 7, 8, 9], [6, 7, 8, 9, 10], [6, 7, 8, 9, 10, 11], [1, 2, 3, 4, 5, 6, 7, 8, 9, 10, 11, 12], [0, 1, 2, 3, 4, 5, 6, 7, 8, 9, 10, 11, 12, 13], [0, 1, 2, 3, 4, 5, 6, 7, 8, 9, 10, 11, 12, 13, 14], [0, 1, 2, 3, 4, 5, 6, 7, 8, 9, 10, 11, 12, 13, 14, 15], [0, 1, 2, 3, 4, 5, 6, 7, 8, 9, 10, 11, 12, 13, 14, 15], [0, 1, 2, 3, 4, 5, 6, 7, 8, 9, 10, 11, 12, 13, 14, 15, 16], [0, 1, 2, 3, 4, 5, 6, 7, 8, 9, 10, 11, 12, 13, 14, 15, 16, 17, 18]] [some 126, some 127, some 128, some 129, some 130, some 131, some 132, some 133, some 134, some 135, some 136, some 137, some 138, some 139, some 140, some 125, some 141, some 142, some 18, some 19] (spTs (.agg #[.slice p t.words.length c, .slice q t.turns.length d, .int .i64 t.breath]) gp og P.length cp a b wA.heap.size pa pb (t.said pa (pb - 1))) (by kernel_rfl) (by kernel_rfl) rfl (spTs_stable _ _ _ _ _ _ _ _ _ _ _) ?_ ?_
                · refine ⟨fun V w' hG hs => ?_, fun V w' hG hs => ?_, fun V w' hG hs => ?_, fun V w' hG hs => ?_, fun V w' hG hs => ?_, fun V w' hG hs => ?_, fun V w' hG hs => ?_, fun V w' hG hs => ?_, fun V w' hG hs => ?_, fun V w' hG hs => ?_, fun V w' hG hs => ?_, fun V w' hG hs => ?_, fun V w' hG hs => ?_, fun V w' hG hs => ?_, fun V w' hG hs => ?_, fun V w' hG hs => ?_, fun V w' hG hs => ?_, fun V w' hG hs => ?_, fun V w' hG hs => ?_, fun V w' hG hs => ?_, trivial⟩
                  all_goals
                    obtain ⟨bc, _⟩ := bcell hG
                    have f0 := (bc T 0 hsT).trans F0.out
                    have f1 := (bc T 1 hsT).trans F1.out
                    have f2 := (bc T 2 hsT).trans F2.out
                    have r0 := (bc wA.heap.size 0 hsR).trans R0.out
                    have r1 := (bc wA.heap.size 1 hsR).trans R1.out
                    have hca := (bc gp (og + a) hsg).trans HCA.out
                    have hcb := (bc gp (og + (b + 1)) hsg).trans HCB.out
                    clear bc
                  · rw [if_pos (by rfl)]
                    exact Rs.GrowL.value (v := (.agg #[.slice p t.words.length c, .slice q t.turns.length d, .int .i64 t.breath])) (w' := w') (by simp [go_sem, Rs.look, f0, f1, f2]) (Rs.Gr.refl _) rfl
                  · rw [if_pos (by rfl)]
                    exact Rs.GrowL.value (v := .slice (some ⟨gp, og, none⟩) P.length cp) (w' := w') (by simp [go_sem, Rs.look]) (Rs.Gr.refl _) rfl
                  · rw [if_pos (by rfl)]
                    exact Rs.GrowL.value (v := .pointer (some ⟨wA.heap.size, 0, none⟩)) (w' := w') (by simp [go_sem, Rs.look]) (Rs.Gr.refl _) rfl
                  · have e2 : V 2 = .pointer (some ⟨wA.heap.size, 0, none⟩) := hs 2 (by simp)
                    rw [if_pos (by rfl)]
                    exact Rs.GrowL.value (v := .int .i64 (a : Int)) (w' := w') (by simp [go_sem, Rs.look, e2, r0]) (Rs.Gr.refl _) rfl
                  · have e1 : V 1 = .slice (some ⟨gp, og, none⟩) P.length cp := hs 1 (by simp)
                    have e2 : V 2 = .pointer (some ⟨wA.heap.size, 0, none⟩) := hs 2 (by simp)
                    have e3 : V 3 = .int .i64 (a : Int) := hs 3 (by simp)
                    rw [if_pos (by rfl)]
                    exact Rs.GrowL.value (v := .pointer (some ⟨gp, og + a, none⟩)) (w' := w') (by simp [go_sem, Rs.look, e1, e2, e3, han]) (Rs.Gr.refl _) rfl
                  · have e1 : V 1 = .slice (some ⟨gp, og, none⟩) P.length cp := hs 1 (by simp)
                    have e2 : V 2 = .pointer (some ⟨wA.heap.size, 0, none⟩) := hs 2 (by simp)
                    have e3 : V 3 = .int .i64 (a : Int) := hs 3 (by simp)
                    have e4 : V 4 = .pointer (some ⟨gp, og + a, none⟩) := hs 4 (by simp)
                    rw [if_pos (by rfl)]
                    exact Rs.GrowL.value (v := .int .i64 pa) (w' := w') (by simp [go_sem, Rs.look, e1, e2, e3, e4, hca]) (Rs.Gr.refl _) rfl
                  · rw [if_pos (by rfl)]
                    exact Rs.GrowL.value (v := .slice (some ⟨gp, og, none⟩) P.length cp) (w' := w') (by simp [go_sem, Rs.look]) (Rs.Gr.refl _) rfl
                  · rw [if_pos (by rfl)]
                    exact Rs.GrowL.value (v := .pointer (some ⟨wA.heap.size, 1, none⟩)) (w' := w') (by simp [go_sem, Rs.look]) (Rs.Gr.refl _) rfl
                  · have e7 : V 7 = .pointer (some ⟨wA.heap.size, 1, none⟩) := hs 7 (by simp)
                    rw [if_pos (by rfl)]
                    exact Rs.GrowL.value (v := .int .i64 (b : Int)) (w' := w') (by simp [go_sem, Rs.look, e7, r1]) (Rs.Gr.refl _) rfl
                  · have e7 : V 7 = .pointer (some ⟨wA.heap.size, 1, none⟩) := hs 7 (by simp)
                    have e8 : V 8 = .int .i64 (b : Int) := hs 8 (by simp)
                    rw [if_pos (by rfl)]
                    exact Rs.GrowL.value (v := .int .i64 ((b : Int) + 1)) (w' := w') (by simp [go_sem, Rs.look, e7, e8, hsum]) (Rs.Gr.refl _) rfl
                  · have e6 : V 6 = .slice (some ⟨gp, og, none⟩) P.length cp := hs 6 (by simp)
                    have e7 : V 7 = .pointer (some ⟨wA.heap.size, 1, none⟩) := hs 7 (by simp)
                    have e8 : V 8 = .int .i64 (b : Int) := hs 8 (by simp)
                    have e9 : V 9 = .int .i64 ((b : Int) + 1) := hs 9 (by simp)
                    rw [if_pos (by rfl)]
                    exact Rs.GrowL.value (v := .pointer (some ⟨gp, og + (b + 1), none⟩)) (w' := w') (by simp [go_sem, Rs.look, e6, e7, e8, e9, hbn, hbn2, hbn3]) (Rs.Gr.refl _) rfl
                  · have e6 : V 6 = .slice (some ⟨gp, og, none⟩) P.length cp := hs 6 (by simp)
                    have e7 : V 7 = .pointer (some ⟨wA.heap.size, 1, none⟩) := hs 7 (by simp)
                    have e8 : V 8 = .int .i64 (b : Int) := hs 8 (by simp)
                    have e9 : V 9 = .int .i64 ((b : Int) + 1) := hs 9 (by simp)
                    have e10 : V 10 = .pointer (some ⟨gp, og + (b + 1), none⟩) := hs 10 (by simp)
                    rw [if_pos (by rfl)]
                    exact Rs.GrowL.value (v := .int .i64 pb) (w' := w') (by simp [go_sem, Rs.look, e6, e7, e8, e9, e10, hcb]) (Rs.Gr.refl _) rfl
                  · have e6 : V 6 = .slice (some ⟨gp, og, none⟩) P.length cp := hs 6 (by simp)
                    have e7 : V 7 = .pointer (some ⟨wA.heap.size, 1, none⟩) := hs 7 (by simp)
                    have e8 : V 8 = .int .i64 (b : Int) := hs 8 (by simp)
                    have e9 : V 9 = .int .i64 ((b : Int) + 1) := hs 9 (by simp)
                    have e10 : V 10 = .pointer (some ⟨gp, og + (b + 1), none⟩) := hs 10 (by simp)
                    have e11 : V 11 = .int .i64 pb := hs 11 (by simp)
                    rw [if_pos (by rfl)]
                    exact Rs.GrowL.value (v := .int .i64 (pb - 1)) (w' := w') (by simp [go_sem, Rs.look, e6, e7, e8, e9, e10, e11, hsubb]) (Rs.Gr.refl _) rfl
                  · have e1 : V 1 = .slice (some ⟨gp, og, none⟩) P.length cp := hs 1 (by simp)
                    have e2 : V 2 = .pointer (some ⟨wA.heap.size, 0, none⟩) := hs 2 (by simp)
                    have e3 : V 3 = .int .i64 (a : Int) := hs 3 (by simp)
                    have e4 : V 4 = .pointer (some ⟨gp, og + a, none⟩) := hs 4 (by simp)
                    have e5 : V 5 = .int .i64 pa := hs 5 (by simp)
                    have e6 : V 6 = .slice (some ⟨gp, og, none⟩) P.length cp := hs 6 (by simp)
                    have e7 : V 7 = .pointer (some ⟨wA.heap.size, 1, none⟩) := hs 7 (by simp)
                    have e8 : V 8 = .int .i64 (b : Int) := hs 8 (by simp)
                    have e9 : V 9 = .int .i64 ((b : Int) + 1) := hs 9 (by simp)
                    have e10 : V 10 = .pointer (some ⟨gp, og + (b + 1), none⟩) := hs 10 (by simp)
                    have e11 : V 11 = .int .i64 pb := hs 11 (by simp)
                    have e12 : V 12 = .int .i64 (pb - 1) := hs 12 (by simp)
                    rw [if_pos (by rfl)]
                    exact Rs.GrowL.value (v := .agg #[.int .i64 pa, .int .i64 (pb - 1)]) (w' := w') (by simp [go_sem, Rs.look, e1, e2, e3, e4, e5, e6, e7, e8, e9, e10, e11, e12]) (Rs.Gr.refl _) rfl
                  · have e0 : V 0 = (.agg #[.slice p t.words.length c, .slice q t.turns.length d, .int .i64 t.breath]) := hs 0 (by simp)
                    have e1 : V 1 = .slice (some ⟨gp, og, none⟩) P.length cp := hs 1 (by simp)
                    have e2 : V 2 = .pointer (some ⟨wA.heap.size, 0, none⟩) := hs 2 (by simp)
                    have e3 : V 3 = .int .i64 (a : Int) := hs 3 (by simp)
                    have e4 : V 4 = .pointer (some ⟨gp, og + a, none⟩) := hs 4 (by simp)
                    have e5 : V 5 = .int .i64 pa := hs 5 (by simp)
                    have e6 : V 6 = .slice (some ⟨gp, og, none⟩) P.length cp := hs 6 (by simp)
                    have e7 : V 7 = .pointer (some ⟨wA.heap.size, 1, none⟩) := hs 7 (by simp)
                    have e8 : V 8 = .int .i64 (b : Int) := hs 8 (by simp)
                    have e9 : V 9 = .int .i64 ((b : Int) + 1) := hs 9 (by simp)
                    have e10 : V 10 = .pointer (some ⟨gp, og + (b + 1), none⟩) := hs 10 (by simp)
                    have e11 : V 11 = .int .i64 pb := hs 11 (by simp)
                    have e12 : V 12 = .int .i64 (pb - 1) := hs 12 (by simp)
                    have e13 : V 13 = .agg #[.int .i64 pa, .int .i64 (pb - 1)] := hs 13 (by simp)
                    rw [if_pos (by rfl)]
                    refine Rs.GrowL.call (f := 24) (args := #[(.agg #[.slice p t.words.length c, .slice q t.turns.length d, .int .i64 t.breath]), .agg #[.int .i64 pa, .int .i64 (pb - 1)]]) (by simp [go_sem, Rs.look, e0, e13]) ?_
                    refine (HSY.out w' (join HB9.out hG)).mono ?_
                    rintro e w2 ⟨v, rfl, hown, hB2⟩
                    obtain ⟨pp, cc, rfl, hI, -⟩ := own_rd hown rfl
                    exact ⟨_, rfl, hB2, pp, cc, rfl, hI⟩
                  · have e0 : V 0 = (.agg #[.slice p t.words.length c, .slice q t.turns.length d, .int .i64 t.breath]) := hs 0 (by simp)
                    have e1 : V 1 = .slice (some ⟨gp, og, none⟩) P.length cp := hs 1 (by simp)
                    have e2 : V 2 = .pointer (some ⟨wA.heap.size, 0, none⟩) := hs 2 (by simp)
                    have e3 : V 3 = .int .i64 (a : Int) := hs 3 (by simp)
                    have e4 : V 4 = .pointer (some ⟨gp, og + a, none⟩) := hs 4 (by simp)
                    have e5 : V 5 = .int .i64 pa := hs 5 (by simp)
                    have e6 : V 6 = .slice (some ⟨gp, og, none⟩) P.length cp := hs 6 (by simp)
                    have e7 : V 7 = .pointer (some ⟨wA.heap.size, 1, none⟩) := hs 7 (by simp)
                    have e8 : V 8 = .int .i64 (b : Int) := hs 8 (by simp)
                    have e9 : V 9 = .int .i64 ((b : Int) + 1) := hs 9 (by simp)
                    have e10 : V 10 = .pointer (some ⟨gp, og + (b + 1), none⟩) := hs 10 (by simp)
                    have e11 : V 11 = .int .i64 pb := hs 11 (by simp)
                    have e12 : V 12 = .int .i64 (pb - 1) := hs 12 (by simp)
                    have e13 : V 13 = .agg #[.int .i64 pa, .int .i64 (pb - 1)] := hs 13 (by simp)
                    have r14 := hs 14 (by simp)
                    rw [if_pos (by rfl)]
                    obtain ⟨pp, cc, e14, h⟩ := r14
                    exact Rs.GrowL.value (v := .tuple #[.slice pp (t.said pa (pb - 1)).length cc, .int .i64 0]) (w' := w') (by simp [go_sem, Rs.look, e14]) (Rs.Gr.refl _) ⟨pp, cc, rfl, h⟩
                  · have e0 : V 0 = (.agg #[.slice p t.words.length c, .slice q t.turns.length d, .int .i64 t.breath]) := hs 0 (by simp)
                    have e1 : V 1 = .slice (some ⟨gp, og, none⟩) P.length cp := hs 1 (by simp)
                    have e2 : V 2 = .pointer (some ⟨wA.heap.size, 0, none⟩) := hs 2 (by simp)
                    have e3 : V 3 = .int .i64 (a : Int) := hs 3 (by simp)
                    have e4 : V 4 = .pointer (some ⟨gp, og + a, none⟩) := hs 4 (by simp)
                    have e5 : V 5 = .int .i64 pa := hs 5 (by simp)
                    have e6 : V 6 = .slice (some ⟨gp, og, none⟩) P.length cp := hs 6 (by simp)
                    have e7 : V 7 = .pointer (some ⟨wA.heap.size, 1, none⟩) := hs 7 (by simp)
                    have e8 : V 8 = .int .i64 (b : Int) := hs 8 (by simp)
                    have e9 : V 9 = .int .i64 ((b : Int) + 1) := hs 9 (by simp)
                    have e10 : V 10 = .pointer (some ⟨gp, og + (b + 1), none⟩) := hs 10 (by simp)
                    have e11 : V 11 = .int .i64 pb := hs 11 (by simp)
                    have e12 : V 12 = .int .i64 (pb - 1) := hs 12 (by simp)
                    have e13 : V 13 = .agg #[.int .i64 pa, .int .i64 (pb - 1)] := hs 13 (by simp)
                    have r14 := hs 14 (by simp)
                    have r15 := hs 15 (by simp)
                    rw [if_pos (by rfl)]
                    obtain ⟨pp, cc, e15, h⟩ := r15
                    exact Rs.GrowL.value (v := .slice pp (t.said pa (pb - 1)).length cc) (w' := w') (by simp [go_sem, Rs.look, e15]) (Rs.Gr.refl _) ⟨pp, cc, rfl, h⟩
                  · have e0 : V 0 = (.agg #[.slice p t.words.length c, .slice q t.turns.length d, .int .i64 t.breath]) := hs 0 (by simp)
                    have e1 : V 1 = .slice (some ⟨gp, og, none⟩) P.length cp := hs 1 (by simp)
                    have e2 : V 2 = .pointer (some ⟨wA.heap.size, 0, none⟩) := hs 2 (by simp)
                    have e3 : V 3 = .int .i64 (a : Int) := hs 3 (by simp)
                    have e4 : V 4 = .pointer (some ⟨gp, og + a, none⟩) := hs 4 (by simp)
                    have e5 : V 5 = .int .i64 pa := hs 5 (by simp)
                    have e6 : V 6 = .slice (some ⟨gp, og, none⟩) P.length cp := hs 6 (by simp)
                    have e7 : V 7 = .pointer (some ⟨wA.heap.size, 1, none⟩) := hs 7 (by simp)
                    have e8 : V 8 = .int .i64 (b : Int) := hs 8 (by simp)
                    have e9 : V 9 = .int .i64 ((b : Int) + 1) := hs 9 (by simp)
                    have e10 : V 10 = .pointer (some ⟨gp, og + (b + 1), none⟩) := hs 10 (by simp)
                    have e11 : V 11 = .int .i64 pb := hs 11 (by simp)
                    have e12 : V 12 = .int .i64 (pb - 1) := hs 12 (by simp)
                    have e13 : V 13 = .agg #[.int .i64 pa, .int .i64 (pb - 1)] := hs 13 (by simp)
                    have r14 := hs 14 (by simp)
                    have r15 := hs 15 (by simp)
                    rw [if_pos (by rfl)]
                    obtain ⟨pp, cc, e15, h⟩ := r15
                    exact Rs.GrowL.value (v := .int .i64 0) (w' := w') (by simp [go_sem, Rs.look, e15]) (Rs.Gr.refl _) rfl
                  · have e0 : V 0 = (.agg #[.slice p t.words.length c, .slice q t.turns.length d, .int .i64 t.breath]) := hs 0 (by simp)
                    have e1 : V 1 = .slice (some ⟨gp, og, none⟩) P.length cp := hs 1 (by simp)
                    have e2 : V 2 = .pointer (some ⟨wA.heap.size, 0, none⟩) := hs 2 (by simp)
                    have e3 : V 3 = .int .i64 (a : Int) := hs 3 (by simp)
                    have e4 : V 4 = .pointer (some ⟨gp, og + a, none⟩) := hs 4 (by simp)
                    have e5 : V 5 = .int .i64 pa := hs 5 (by simp)
                    have e6 : V 6 = .slice (some ⟨gp, og, none⟩) P.length cp := hs 6 (by simp)
                    have e7 : V 7 = .pointer (some ⟨wA.heap.size, 1, none⟩) := hs 7 (by simp)
                    have e8 : V 8 = .int .i64 (b : Int) := hs 8 (by simp)
                    have e9 : V 9 = .int .i64 ((b : Int) + 1) := hs 9 (by simp)
                    have e10 : V 10 = .pointer (some ⟨gp, og + (b + 1), none⟩) := hs 10 (by simp)
                    have e11 : V 11 = .int .i64 pb := hs 11 (by simp)
                    have e12 : V 12 = .int .i64 (pb - 1) := hs 12 (by simp)
                    have e13 : V 13 = .agg #[.int .i64 pa, .int .i64 (pb - 1)] := hs 13 (by simp)
                    have r14 := hs 14 (by simp)
                    have r15 := hs 15 (by simp)
                    have r16 := hs 16 (by simp)
                    rw [if_pos (by rfl)]
                    obtain ⟨pp, cc, e16, h⟩ := r16
                    exact Rs.GrowL.value (v := .slice pp (t.said pa (pb - 1)).length cc) (w' := w') (by simp [go_sem, Rs.look, e16]) (Rs.Gr.refl _) ⟨pp, cc, rfl, h⟩
                  · have e0 : V 0 = (.agg #[.slice p t.words.length c, .slice q t.turns.length d, .int .i64 t.breath]) := hs 0 (by simp)
                    have e1 : V 1 = .slice (some ⟨gp, og, none⟩) P.length cp := hs 1 (by simp)
                    have e2 : V 2 = .pointer (some ⟨wA.heap.size, 0, none⟩) := hs 2 (by simp)
                    have e3 : V 3 = .int .i64 (a : Int) := hs 3 (by simp)
                    have e4 : V 4 = .pointer (some ⟨gp, og + a, none⟩) := hs 4 (by simp)
                    have e5 : V 5 = .int .i64 pa := hs 5 (by simp)
                    have e6 : V 6 = .slice (some ⟨gp, og, none⟩) P.length cp := hs 6 (by simp)
                    have e7 : V 7 = .pointer (some ⟨wA.heap.size, 1, none⟩) := hs 7 (by simp)
                    have e8 : V 8 = .int .i64 (b : Int) := hs 8 (by simp)
                    have e9 : V 9 = .int .i64 ((b : Int) + 1) := hs 9 (by simp)
                    have e10 : V 10 = .pointer (some ⟨gp, og + (b + 1), none⟩) := hs 10 (by simp)
                    have e11 : V 11 = .int .i64 pb := hs 11 (by simp)
                    have e12 : V 12 = .int .i64 (pb - 1) := hs 12 (by simp)
                    have e13 : V 13 = .agg #[.int .i64 pa, .int .i64 (pb - 1)] := hs 13 (by simp)
                    have r14 := hs 14 (by simp)
                    have r15 := hs 15 (by simp)
                    have r16 := hs 16 (by simp)
                    have e17 : V 17 = .int .i64 0 := hs 17 (by simp)
                    have r18 := hs 18 (by simp)
                    rw [if_pos (by rfl)]
                    exact Rs.GrowL.value (v := .int .i64 0) (w' := w') (by simp [go_sem, Rs.look, e0, e1, e2, e3, e4, e5, e6, e7, e8, e9, e10, e11, e12, e13, e17, e17]) (Rs.Gr.refl _) rfl
                · intro V w' hG hs
                  have e0 : V 0 = (.agg #[.slice p t.words.length c, .slice q t.turns.length d, .int .i64 t.breath]) := hs 0 (by omega)
                  have e1 : V 1 = .slice (some ⟨gp, og, none⟩) P.length cp := hs 1 (by omega)
                  have e2 : V 2 = .pointer (some ⟨wA.heap.size, 0, none⟩) := hs 2 (by omega)
                  have e3 : V 3 = .int .i64 (a : Int) := hs 3 (by omega)
                  have e4 : V 4 = .pointer (some ⟨gp, og + a, none⟩) := hs 4 (by omega)
                  have e5 : V 5 = .int .i64 pa := hs 5 (by omega)
                  have e6 : V 6 = .slice (some ⟨gp, og, none⟩) P.length cp := hs 6 (by omega)
                  have e7 : V 7 = .pointer (some ⟨wA.heap.size, 1, none⟩) := hs 7 (by omega)
                  have e8 : V 8 = .int .i64 (b : Int) := hs 8 (by omega)
                  have e9 : V 9 = .int .i64 ((b : Int) + 1) := hs 9 (by omega)
                  have e10 : V 10 = .pointer (some ⟨gp, og + (b + 1), none⟩) := hs 10 (by omega)
                  have e11 : V 11 = .int .i64 pb := hs 11 (by omega)
                  have e12 : V 12 = .int .i64 (pb - 1) := hs 12 (by omega)
                  have e13 : V 13 = .agg #[.int .i64 pa, .int .i64 (pb - 1)] := hs 13 (by omega)
                  have r14 := hs 14 (by omega)
                  have r15 := hs 15 (by omega)
                  have r16 := hs 16 (by omega)
                  have e17 : V 17 = .int .i64 0 := hs 17 (by omega)
                  have r18 := hs 18 (by omega)
                  have e19 : V 19 = .int .i64 0 := hs 19 (by omega)
                  obtain ⟨p14, c14, e14, -⟩ := r14
                  obtain ⟨p15, c15, e15, -⟩ := r15
                  obtain ⟨p16, c16, e16, -⟩ := r16
                  obtain ⟨pS, cS, e18, hIS⟩ := r18
                  simp only [Rs.canon, Rs.dstOf, List.range_succ, List.range_zero, List.nil_append, List.cons_append, List.foldl_cons, List.foldl_nil, List.drop_succ_cons, List.drop_zero, List.drop_nil, List.getElem?_toArray, List.getElem?_cons_succ, List.getElem?_cons_zero, Option.bind_some, Act.put, List.getD_cons_succ, List.getD_cons_zero, List.setIfInBounds_toArray, List.set_cons_succ, List.set_cons_zero]
                  rw [e0, e1, e2, e3, e4, e5, e6, e7, e8, e9, e10, e11, e12, e13, e17, e19, e14, e15, e16, e18]
                  clear e0 e1 e2 e3 e4 e5 e6 e7 e8 e9 e10 e11 e12 e13 e17 e19 e14 e15 e16 e18 hs
                  have HB10 := Lib.hid (join HB7S.out (join HB9.out hG))
                  clear hG
                  go_wp2_with fail
                  refine (contains_any (t.said pa (pb - 1)) HSL.out pS cS (j : Int) _ hIS).mono ?_
                  rintro e wz ⟨rfl, rfl⟩
                  rw [HCT.out]
                  go_wp2
                  go_roundw
                  case rel => exact ⟨k + 1, by omega, by go_num, HEND.out _ HB10.out⟩
                  case measure => simp [intOf]; omega
    · have hkk : k = 10 := by omega
      subst hkk
      clear hlt hk
      go_wp2_with fail
      refine (awake_any _).mono ?_
      rintro e w9 ⟨rfl, hB9⟩
      have HBF := Lib.hid (HW3.out.trans (((HB35.out.trans (hold_below HH3.out (by omega))).mono (show w.heap.size ≤ T + 1 by omega)).trans (hB9.mono (by omega))))
      clear hB9
      go_wp2
      go_ret
      exact ⟨rfl, HBF.out⟩
end Go.Proofs.Ytadnggecnjdhiaa
namespace Go.Proofs.Ytadnggecnjdhiaa
open Go.ChangeShapes Go.WideShapes Go.ChangeAt Go.RowKit Go.Joins Tx
set_option linter.unusedVariables false
set_option linter.unusedSimpArgs false

set_option maxRecDepth 100000 in
theorem TextSure_lifted (os : Os) (started : os.Started) (H : Type) (enc : TypeId × Value → H) :
    ReturnsInHanded {} Try.checked os 10 .any (Rows.textSureSpec.pre6 enc Try.prog Try.f10 Rows.textSureRow.domain false) (Rows.textSureSpec.post enc Try.prog Try.f10 false true false false) := by
  refine returnsInHanded_of_change (C := Try.checked) Try.own started (by kernel_rfl) Try.func10
    (ChangeSpec.witness6 (enc := enc) (C := Try.checked) false ⟨#[], #[.slice none 0 0, .slice none 0 0], []⟩ 8 (by kernel_rfl) (by kernel_rfl) (by kernel_rfl) (by kernel_rfl)) ?_
  intro W base args ds gs before hval0 hW hcnd _
  have hval : ∀ (j : Nat) t v, Try.f10.params[j]? = some t → args[j]? = some v → Value.okWide Try.prog W .any base t v := hval0
  have hW' := hW
  obtain ⟨p, q, hA0, hV, rfl, hfz, hnd⟩ := hW
  have hA : DataW.TrodAll enc Try.prog W 0 (fun _ => true) true Try.f10.params.toList args.toList ds p := hA0
  rw [Try.params10] at hA hval
  obtain ⟨v0, vs0, d0, ds0, p0, q0, hargs, rfl, rfl, h0, r0⟩ := trodAll_cons hA
  obtain ⟨v1, vs1, d1, ds1, p1, q1, rfl, rfl, rfl, h1, r1⟩ := trodAll_cons r0
  obtain ⟨rfl, rfl, rfl⟩ := trodAll_nil r1
  obtain rfl : args = #[v0, v1] := by cases args; simp_all
  obtain ⟨rfl, rfl⟩ := trodVars_none hV
  have lt0 := lt_of_trod h0
  have k0 := h0
  obtain ⟨a0, n0, c0, e0, l0, hB0⟩ := bytes_of_Trod (fun _ => rfl) (hval 0 88 v0 rfl rfl) h0
  have lt1 := lt_of_trod h1
  have k1 := h1
  obtain ⟨a1, n1, c1, e1, l1, hB1⟩ := bytes_of_Trod (fun _ => rfl) (hval 1 88 v1 rfl rfl) h1
  clear hA0 hval0
  subst e0
  subst e1
  refine (TextSure_any a0 a1 n0 c0 n1 c1 l0 l1 W hB0 hB1).mono fun e W' ⟨he, bel⟩ => ?_
  subst he
  exact ⟨_, rfl, _, _, _, [], _, [], hW', trodAll_mk1 (shut_bool Try.underlying4 _), (trodAll_cons_mk (Below.trod Try.laidOut (by kernel_rfl) (of_decide_eq_true (by kernel_rfl)) k0 bel lt0) (trodAll_cons_mk (Below.trod Try.laidOut (by kernel_rfl) (of_decide_eq_true (by kernel_rfl)) k1 bel lt1) trodAll_mk0)), rfl, bel.frame _, fun h => by cases h⟩

theorem TextSure_holds : Rows.TextSureSaid :=
  OpenClaim.holds_of_wide 10 Try.f10 rfl rfl rfl rfl rfl rfl rfl ⟨rfl, rfl, rfl, rfl, rfl⟩ rfl rfl rfl rfl rfl (by kernel_rfl) Try.func10 (by kernel_rfl)
    (of_decide_eq_true (by kernel_rfl)) (by unfold Func.isWrapper; first | (rw [if_pos (by decide +kernel)]; kernel_rfl) | (rw [if_neg (by decide +kernel)]; exact ⟨rfl, rfl⟩))
    (fun os started H enc _ => TextSure_lifted os started H enc)
end Go.Proofs.Ytadnggecnjdhiaa
