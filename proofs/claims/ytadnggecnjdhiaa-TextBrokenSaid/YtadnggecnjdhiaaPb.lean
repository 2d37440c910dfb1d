/- oyezlaw02.TextBroken: the reading that is told has the fewest breaths, as marks prove, and none of them says otherwise, for any bytes. No condition. -/
import Derived.Test.YtadnggecnjdhiaaZl
namespace Go.Proofs.Ytadnggecnjdhiaa
open Tx
set_option linter.unusedSimpArgs false
set_option linter.unusedVariables false

/-- the longest breath of a reading that begins at a place -/
def longGo (t : Text) : Nat → List Int → Int
  | _, [] => 0
  | a, x :: l => max (t.syl a (a + x.toNat)) (longGo t (a + x.toNat) l)
/-- what Even tries: breaths of at most so many syllables -/
def evGo (t : Text) : List Nat → List Int × Int × Int
  | [] => ([], 0, 6)
  | m :: ms => if (fewest (t.within (m : Nat)) t.words.length).2 = 0 then ((fewest (t.within (m : Nat)) t.words.length).1, (m : Int), 0) else evGo t ms
def evR (t : Text) : List Int × Int × Int := if t.err = 0 then evGo t (List.range' 1 t.breath.toNat) else ([], 0, t.err)
theorem okFrom_within (t : Text) (m : Int) (hm : 0 ≤ m) : ∀ (l : List Int) (a : Nat), okFrom (t.within m) a l = (okFrom t.right a l && decide (longGo t a l ≤ m))
  | [], a => by simp [okFrom, longGo, hm]
  | x :: l, a => by
    rw [okFrom, okFrom, longGo, okFrom_within t m hm l]
    unfold Tx.Text.within
    rw [Bool.eq_iff_iff]
    simp only [Bool.and_eq_true, decide_eq_true_eq]
    constructor
    · rintro ⟨⟨h1, h2⟩, h3, h4⟩
      exact ⟨⟨h2, h3⟩, by omega⟩
    · rintro ⟨⟨h2, h3⟩, h4⟩
      exact ⟨⟨by omega, h2⟩, h3, by omega⟩
theorem syl_pos {t : Text} (hs : ∀ x ∈ t.words, 1 ≤ x.syl ∧ x.syl ≤ 9) {a b : Nat} (hab : a < b) (hb : b ≤ t.words.length) : 1 ≤ t.syl a b := by
  unfold Text.syl
  have hl : ((slice t.words a b).map (·.syl)).length = b - a := by simp [slice]; omega
  have := isum_ge (l := (slice t.words a b).map (·.syl)) (fun x hx => by
    obtain ⟨y, hy, rfl⟩ := List.mem_map.1 hx
    exact (hs y (List.mem_of_mem_drop (List.mem_of_mem_take hy))).1)
  omega
theorem longGo_pos {t : Text} (hs : ∀ x ∈ t.words, 1 ≤ x.syl ∧ x.syl ≤ 9) {l : List Int} (hl : Parts t.words.length l) (h1 : 1 ≤ t.words.length) : 1 ≤ longGo t 0 l := by
  cases l with
  | nil => have := hl.2; simp [isum] at this; omega
  | cons x l =>
    rw [longGo]
    rw [parts_cons] at hl
    have := parts_pos hl.2
    have := syl_pos hs (a := 0) (b := 0 + x.toNat) (by omega) (by omega)
    omega
theorem longGo_breath {t : Text} (hb : 0 ≤ t.breath) : ∀ (l : List Int) (a : Nat), okFrom t.right a l = true → longGo t a l ≤ t.breath
  | [], a, _ => hb
  | x :: l, a, h => by
    rw [okFrom, Bool.and_eq_true] at h
    have h2 := longGo_breath hb l _ h.2
    have h1 := h.1
    unfold Text.right Text.isLong at h1
    simp only [Bool.and_eq_true, Bool.not_eq_true', decide_eq_false_iff_not] at h1
    rw [longGo]
    omega
theorem evGo_spec (t : Text) : ∀ (ms : List Nat), (evGo t ms = ([], 0, 6) ∧ ∀ m ∈ ms, (fewest (t.within (m : Nat)) t.words.length).2 ≠ 0) ∨
    ∃ pre m post, ms = pre ++ m :: post ∧ evGo t ms = ((fewest (t.within (m : Nat)) t.words.length).1, (m : Int), 0) ∧ (fewest (t.within (m : Nat)) t.words.length).2 = 0 ∧ ∀ k ∈ pre, (fewest (t.within (k : Nat)) t.words.length).2 ≠ 0
  | [] => .inl ⟨rfl, by simp⟩
  | m :: ms => by
    rw [evGo]
    by_cases h : (fewest (t.within (m : Nat)) t.words.length).2 = 0
    · rw [if_pos h]
      exact .inr ⟨[], m, ms, rfl, rfl, h, by simp⟩
    · rw [if_neg h]
      rcases evGo_spec t ms with ⟨h1, h2⟩ | ⟨pre, k, post, h1, h2, h3, h4⟩
      · exact .inl ⟨h1, fun k hk => by rcases List.mem_cons.1 hk with rfl | hk; exact h; exact h2 k hk⟩
      · exact .inr ⟨m :: pre, k, post, by rw [h1]; rfl, h2, h3, fun j hj => by rcases List.mem_cons.1 hj with rfl | hj; exact h; exact h4 j hj⟩
/-- what Even tells, as its law asks -/
theorem evR_spec {t : Text} (he : t.err = 0) (hs : ∀ x ∈ t.words, 1 ≤ x.syl ∧ x.syl ≤ 9) (hn1 : 1 ≤ t.words.length) (hn : t.words.length ≤ 12) (hb : 1 ≤ t.breath) :
    ((evR t).2.2 = 6 ∧ (evR t).1 = [] ∧ ∀ l, Parts t.words.length l → okFrom t.right 0 l = true → False) ∨
    ((evR t).2.2 = 0 ∧ Parts t.words.length (evR t).1 ∧ okFrom t.right 0 (evR t).1 = true ∧ longGo t 0 (evR t).1 = (evR t).2.1 ∧ 1 ≤ (evR t).2.1 ∧ (evR t).2.1 ≤ t.breath ∧
      ∀ l, Parts t.words.length l → okFrom t.right 0 l = true → (evR t).2.1 ≤ longGo t 0 l ∧ (longGo t 0 l = (evR t).2.1 → (evR t).1.length ≤ l.length)) := by
  unfold evR
  rw [if_pos he]
  have hfr := fun m : Nat => fewest_rights (may := t.within (m : Nat)) hn1 hn
  have hno : ∀ (m : Nat) l, Parts t.words.length l → okFrom t.right 0 l = true → longGo t 0 l ≤ m → l ∈ rights (t.within (m : Nat)) t.words.length := fun m l h1 h2 h3 => by
    rw [mem_rights]
    exact ⟨h1, by rw [okFrom_within t _ (by omega), h2]; simpa using h3⟩
  have hnot : ∀ (m : Nat), (fewest (t.within (m : Nat)) t.words.length).2 ≠ 0 → ∀ l, Parts t.words.length l → okFrom t.right 0 l = true → ¬ longGo t 0 l ≤ m := fun m hm l h1 h2 h3 => by
    apply hm
    rw [(hfr m).2.2.2]
    intro e
    have := hno m l h1 h2 h3
    rw [e] at this; simp at this
  rcases evGo_spec t (List.range' 1 t.breath.toNat) with ⟨h1, h2⟩ | ⟨pre, m, post, h1, h2, h3, h4⟩
  · left
    rw [h1]
    refine ⟨rfl, rfl, fun l hl ho => ?_⟩
    refine hnot t.breath.toNat (h2 _ (by rw [List.mem_range'_1]; omega)) l hl ho ?_
    have := longGo_breath (by omega) l 0 ho
    omega
  · right
    rw [h2]
    have hin := (hfr m).2.2.1 h3
    obtain ⟨g1, g2⟩ := mem_rights.1 hin
    rw [okFrom_within t _ (by omega), Bool.and_eq_true, decide_eq_true_eq] at g2
    have hmem : m ∈ List.range' 1 t.breath.toNat := by rw [h1]; simp
    rw [List.mem_range'_1] at hmem
    have hlow : ∀ l, Parts t.words.length l → okFrom t.right 0 l = true → (m : Int) ≤ longGo t 0 l := fun l hl ho => by
      have hp := longGo_pos hs hl hn1
      have hlb := longGo_breath (by omega) l 0 ho
      rcases Nat.lt_or_ge (longGo t 0 l).toNat m with hlt | hge
      · exfalso
        have hk : (longGo t 0 l).toNat ∈ pre := by
          have hlen : m = 1 + pre.length := by
            have e : (List.range' 1 t.breath.toNat)[pre.length]? = some m := by rw [h1]; simp
            rw [List.getElem?_range'] at e
            · simp at e; omega
            · have := congrArg List.length h1; simp at this; omega
          have e2 : (List.range' 1 t.breath.toNat)[(longGo t 0 l).toNat - 1]? = some (longGo t 0 l).toNat := by
            rw [List.getElem?_range' (by omega)]
            congr 1; omega
          rw [h1, List.getElem?_append_left (by omega)] at e2
          exact List.mem_of_getElem? e2
        exact hnot _ (h4 _ hk) l hl ho (by omega)
      · omega
    refine ⟨rfl, g1, g2.1, ?_, by show (1 : Int) ≤ (m : Int); omega, by show (m : Int) ≤ _; omega, fun l hl ho => ⟨hlow l hl ho, fun e => ?_⟩⟩
    · have := hlow _ g1 g2.1
      have := g2.2
      dsimp only at *
      omega
    · have hl2 := hno m l hl ho (by dsimp only at e; omega)
      dsimp only
      rw [(hfr m).1]
      exact (bestLen_spec _ 0 (rights_ne hn1)).2.1 l hl2
end Go.Proofs.Ytadnggecnjdhiaa
set_option linter.unusedSimpArgs false
set_option linter.unusedVariables false
namespace Go.Proofs.Ytadnggecnjdhiaa
open Go.RowKit Tx
attribute [local go_sem] Oper.semAt_some

theorem blk4 {W : World} {b : Nat} {v0 v1 v2 v3 : Value} {ty : TypeId} {fr : Nat × Nat} (h : W.heap[b]? = some (.cells #[v0, v1, v2, v3] ty fr)) : W.cell? ⟨b, 0, none⟩ = some v0 ∧ W.cell? ⟨b, 1, none⟩ = some v1 ∧ W.cell? ⟨b, 2, none⟩ = some v2 ∧ W.cell? ⟨b, 3, none⟩ = some v3 :=
  ⟨blk_cells h 0 _ rfl, blk_cells h 1 _ rfl, blk_cells h 2 _ rfl, blk_cells h 3 _ rfl⟩
theorem parts1_any (u : Turn) (x : Int) (A : Nat) (w : World) (hA : w.heap[A]? = some (.cells #[.int .i64 x] 3 (0, 0))) :
    Calls Try.prog 171 #[.agg #[.int .i64 u.word, .int .i64 u.lo, .int .i64 u.hi], .pointer (some ⟨A, 0, none⟩)] w fun e w' => e = .returned (.bool (u.parts x)) ∧ Below w.heap.size w w' := by
  have hAl := (Array.getElem?_eq_some_iff.1 hA).1
  have c0 := blk_cells hA 0 _ rfl
  obtain ⟨uw, ul, uh⟩ := u
  unfold Turn.parts
  dsimp only
  clear hA
  by_cases h1 : uw < x
  · by_cases h2 : x ≤ ul
    · go_enter Try.func171, Try.ntmps171
      go_wp2
      go_ret
      exact ⟨ret_bool (by simp [h1, h2]), below1 _ _⟩
    · by_cases h3 : uh < x
      · by_cases h4 : x ≤ uw
        · exact absurd h1 (by omega)
        · go_enter Try.func171, Try.ntmps171
          go_wp2
          go_ret
          exact ⟨ret_bool (by simp [h1, h2, h3, h4] <;> omega), below1 _ _⟩
      · go_enter Try.func171, Try.ntmps171
        go_wp2
        go_ret
        exact ⟨ret_bool (by simp [h1, h2, h3] <;> omega), below1 _ _⟩
  · by_cases h3 : uh < x
    · have h4 : x ≤ uw := by omega
      go_enter Try.func171, Try.ntmps171
      go_wp2
      go_ret
      exact ⟨ret_bool (by simp [h1, h3, h4] <;> omega), below1 _ _⟩
    · go_enter Try.func171, Try.ntmps171
      go_wp2
      go_ret
      exact ⟨ret_bool (by simp [h1, h3] <;> omega), below1 _ _⟩
theorem entered_parts1 : Entered 171 := fun args W => by kernel_rfl
theorem parts_any (ts : List Turn) (hl : ts.length ≤ 1000000) (x : Int) (pt : Option Addr) (ct : Nat) (v0 v2 v3 : Value) (w : World) (hT : Tns w pt ts) :
    Calls Try.prog 160 #[.agg #[v0, .slice pt ts.length ct, v2, v3], .int .i64 x] w fun e w' => e = .returned (.bool (ts.any fun u => u.parts x)) ∧ Below w.heap.size w w' := by
  have hmf := mf
  have hB3 : Below w.heap.size w ((w.alloc (.cells #[v0, .slice pt ts.length ct, v2, v3] 125)).alloc (.cells #[.int .i64 x] 3)) := (below1 _ _).alloc (by simp) _
  have hx : ((w.alloc (.cells #[v0, .slice pt ts.length ct, v2, v3] 125)).alloc (.cells #[.int .i64 x] 3)).heap[w.heap.size + 1]? = some (.cells #[.int .i64 x] 3 (0, 0)) := by
    have := heap_last (w.alloc (.cells #[v0, .slice pt ts.length ct, v2, v3] 125)) (.cells #[.int .i64 x] 3)
    rwa [World.size_alloc] at this
  have hcf := containsFuncT 171 entered_parts1 (.pointer (some ⟨w.heap.size + 1, 0, none⟩)) (fun u => u.parts x) ts pt ct _ hl (hT.below hB3) (fun W h u hu => parts1_any u x (w.heap.size + 1) W ((h.block _ (by simp)).trans hx))
  obtain ⟨kv, hkv⟩ : ∃ kv, kv = ts.any (fun u => u.parts x) := ⟨_, rfl⟩
  rw [← hkv] at hcf ⊢
  have HCF := Lib.hid hcf
  have HB3 := Lib.hid hB3
  clear hcf hx hB3 hT hkv
  go_enter Try.func160, Try.ntmps160
  go_wp2_with fail
  refine HCF.out.mono ?_
  rintro e w5 ⟨rfl, hB5⟩
  go_wp2
  go_ret
  exact ⟨rfl, join HB3.out hB5⟩
set_option maxHeartbeats 800000 in
theorem sureB_any (t : Text) (pw pt : Option Addr) (cw ct : Nat) (mf : Value) (a b : Nat) (hab : a ≤ b) (hb : b ≤ t.words.length) (w : World) (hW : WkAt w t pw pt cw) :
    Calls Try.prog 128 #[.agg #[.slice pw t.words.length cw, .slice pt t.turns.length ct, .int .i64 t.breath, mf], .int .i64 a, .int .i64 b] w fun e w' => e = .returned (.bool (t.sureB a b)) ∧ Below w.heap.size w w' := by
  have HR := Lib.hid (fun W (h : Below w.heap.size w W) => right_any t pw pt cw ct mf a b hab hb W (hW.below h))
  have hm6 := hW.ok.m6
  have HP := Lib.hid (fun (x : Int) W (h : Below w.heap.size w W) => parts_any t.turns (by omega) x pt ct (.slice pw t.words.length cw) (.int .i64 t.breath) mf W (hW.at_.turns.below h))
  have hsz : t.sureB a b = (t.right a b && !(t.turns.any fun u => u.parts a) && !(t.turns.any fun u => u.parts b)) := rfl
  clear hW
  obtain ⟨pa, hpa⟩ : ∃ pa, pa = t.turns.any (fun u => u.parts (a : Int)) := ⟨_, rfl⟩
  obtain ⟨pb, hpb⟩ : ∃ pb, pb = t.turns.any (fun u => u.parts (b : Int)) := ⟨_, rfl⟩
  obtain ⟨r, hr⟩ : ∃ r, r = t.right a b := ⟨_, rfl⟩
  have HPA := Lib.hid hpa
  have HPB := Lib.hid hpb
  have HRR := Lib.hid hr
  have HF : Hid (t.sureB a b = (r && !pa && !pb)) := Lib.hid (by rw [hpa, hpb, hr]; exact hsz)
  clear hpa hpb hr hsz
  go_enter Try.func128, Try.ntmps128
  go_wp2_with fail
  refine (HR.out _ (below1 _ _)).mono ?_
  rintro e w5 ⟨rfl, hB5⟩
  rw [← HRR.out]
  obtain ⟨hc5, hf5⟩ := bcell hB5
  have hz5 : w.heap.size < w5.heap.size := by have := hB5.size; simp at this; omega
  have HB5 := Lib.hid (join (below1 _ _) hB5)
  cases r with
  | false =>
    go_wp2
    go_ret
    exact ⟨ret_bool (by rw [HF.out]; rfl), HB5.out⟩
  | true =>
    clear hB5
    go_wp2_with fail
    refine (HP.out a _ HB5.out).mono ?_
    rintro e w6 ⟨rfl, hB6⟩
    rw [← HPA.out]
    obtain ⟨hc6, hf6⟩ := bcell hB6
    have hz6 : w.heap.size < w6.heap.size := by have := hB6.size; omega
    have HB6 := Lib.hid (join HB5.out hB6)
    cases pa with
    | true =>
      go_wp2
      go_ret
      exact ⟨ret_bool (by rw [HF.out]; rfl), HB6.out⟩
    | false =>
      clear hB6
      go_wp2_with fail
      refine (HP.out b _ HB6.out).mono ?_
      rintro e w7 ⟨rfl, hB7⟩
      rw [← HPB.out]
      go_wp2
      go_ret
      exact ⟨ret_bool (by rw [HF.out]; simp), join HB6.out hB7⟩
def spEv1 (pw : Option Addr) (n cw : Nat) (v1 v2 v3 : Value) (a b s m : Int) (r : Bool) : Nat → List Value → Value → World → Prop
  | 0, _, v, _ => v = .agg #[.slice pw n cw, v1, v2, v3]
  | 1, _, v, _ => v = .int .i64 a
  | 2, _, v, _ => v = .int .i64 b
  | 3, _, v, _ => v = .int .i64 s
  | 4, _, v, _ => v = .int .i64 m
  | 5, _, v, _ => v = .bool true
  | 6, _, v, _ => v = .bool true
  | 7, _, v, _ => v = .agg #[.slice pw n cw, v1, v2, v3]
  | 8, _, v, _ => v = .int .i64 a
  | 9, _, v, _ => v = .int .i64 b
  | 10, _, v, _ => v = .bool r
  | 11, _, v, _ => v = .bool r
  | 12, _, v, _ => v = .bool r
  | _, _, _, _ => False
theorem spEv1_stable (pw : Option Addr) (n cw : Nat) (v1 v2 v3 : Value) (a b s m : Int) (r : Bool) : ∀ i L v w w', spEv1 pw n cw v1 v2 v3 a b s m r i L v w → Rs.Gr w w' → spEv1 pw n cw v1 v2 v3 a b s m r i L v w' := by
  intro i L v w w' h hg
  match i with
  | 0 => exact h
  | 1 => exact h
  | 2 => exact h
  | 3 => exact h
  | 4 => exact h
  | 5 => exact h
  | 6 => exact h
  | 7 => exact h
  | 8 => exact h
  | 9 => exact h
  | 10 => exact h
  | 11 => exact h
  | 12 => exact h

def spEv0 (pw : Option Addr) (n cw : Nat) (v1 v2 v3 : Value) (a b s m : Int) (r : Bool) : Nat → List Value → Value → World → Prop
  | 0, _, v, _ => v = .agg #[.slice pw n cw, v1, v2, v3]
  | 1, _, v, _ => v = .int .i64 a
  | 2, _, v, _ => v = .int .i64 b
  | 3, _, v, _ => v = .int .i64 s
  | 4, _, v, _ => v = .int .i64 m
  | 5, _, v, _ => v = .bool false
  | 6, _, v, _ => v = .bool false
  | 7, _, v, _ => v = undef
  | 8, _, v, _ => v = undef
  | 9, _, v, _ => v = undef
  | 10, _, v, _ => v = undef
  | 11, _, v, _ => v = .bool false
  | 12, _, v, _ => v = .bool false
  | _, _, _, _ => False
theorem spEv0_stable (pw : Option Addr) (n cw : Nat) (v1 v2 v3 : Value) (a b s m : Int) (r : Bool) : ∀ i L v w w', spEv0 pw n cw v1 v2 v3 a b s m r i L v w → Rs.Gr w w' → spEv0 pw n cw v1 v2 v3 a b s m r i L v w' := by
  intro i L v w w' h hg
  match i with
  | 0 => exact h
  | 1 => exact h
  | 2 => exact h
  | 3 => exact h
  | 4 => exact h
  | 5 => exact h
  | 6 => exact h
  | 7 => exact h
  | 8 => exact h
  | 9 => exact h
  | 10 => exact h
  | 11 => exact h
  | 12 => exact h

set_option maxHeartbeats 1000000 in
set_option maxRecDepth 100000 in
theorem rightWithin1_any (t : Text) (pw pt : Option Addr) (cw ct : Nat) (mf : Value) (m : Int) (a b : Nat) (hab : a ≤ b) (hb : b ≤ t.words.length) (X Y : Nat) (w : World) (hW : WkAt w t pw pt cw)
    (hX : w.heap[X]? = some (.cells #[.slice pw t.words.length cw, .slice pt t.turns.length ct, .int .i64 t.breath, mf] 125 (0, 0))) (hY : w.heap[Y]? = some (.cells #[.int .i64 m] 3 (0, 0))) :
    Calls Try.prog 162 #[.int .i64 a, .int .i64 b, .pointer (some ⟨X, 0, none⟩), .pointer (some ⟨Y, 0, none⟩)] w fun e w' => e = .returned (.bool (t.within m a b)) ∧ Below w.heap.size w w' := by
  have HRT := Lib.hid (fun W (h : Below w.heap.size w W) => right_any t pw pt cw ct mf a b hab hb W (hW.below h))
  have HSY := Lib.hid (fun W (h : Below w.heap.size w W) => syl_any t hW.ok pw cw (.slice pt t.turns.length ct) (.int .i64 t.breath) mf a b hab hb hW.cap W (hW.at_.words.below h))
  have HX := Lib.hid hX
  have HY := Lib.hid hY
  have HXl := (Array.getElem?_eq_some_iff.1 hX).1
  have HYl := (Array.getElem?_eq_some_iff.1 hY).1
  have hF : t.within m a b = (decide (t.syl a b ≤ m) && t.right a b) := rfl
  have HF := Lib.hid hF
  clear hX hY hW hF
  by_cases hsm : t.syl a b ≤ m
  · have HSM := Lib.hid hsm
    go_enter Try.func162, Try.ntmps162
    go_wp2_with fail
    refine Rs.region_gen 13 [[], [], [], [0, 1, 2], [], [0, 1, 2, 3, 4], [0, 1, 2, 3, 4, 5], [0, 1, 2, 3, 4, 5, 6], [0, 1, 2, 3, 4, 5, 6], [0, 1, 2, 3, 4, 5, 6], [0, 1, 2, 3, 4, 5, 6, 7, 8, 9], [0, 1, 2, 3, 4, 5, 6, 7, 8, 9, 10], [0, 1, 2, 3, 4, 5, 6, 7, 8, 9, 10, 11]] [some 7, some 8, some 9, some 10, some 11, some 12, some 13, some 14, some 15, some 16, some 17, some 18, some 6] (spEv1 pw t.words.length cw (.slice pt t.turns.length ct) (.int .i64 t.breath) mf a b (t.syl a b) m (t.right a b)) (by kernel_rfl) (by kernel_rfl) rfl (spEv1_stable _ _ _ _ _ _ _ _ _ _ _) ?_ ?_
    · refine ⟨fun V w' hG hs => ?_, fun V w' hG hs => ?_, fun V w' hG hs => ?_, fun V w' hG hs => ?_, fun V w' hG hs => ?_, fun V w' hG hs => ?_, fun V w' hG hs => ?_, fun V w' hG hs => ?_, fun V w' hG hs => ?_, fun V w' hG hs => ?_, fun V w' hG hs => ?_, fun V w' hG hs => ?_, fun V w' hG hs => ?_, trivial⟩
      all_goals
        obtain ⟨k0, k1, k2, k3⟩ := blk4 ((hG.block X HXl).trans HX.out)
        have c0 := blk_cells ((hG.block Y HYl).trans HY.out) 0 _ rfl
      · rw [if_pos (by rfl)]
        exact Rs.GrowL.value (v := .agg #[.slice pw t.words.length cw, (.slice pt t.turns.length ct), (.int .i64 t.breath), mf]) (w' := w') (by simp [go_sem, Rs.look, k0, k1, k2, k3]) (Rs.Gr.refl _) rfl
      · rw [if_pos (by rfl)]
        exact Rs.GrowL.value (v := .int .i64 a) (w' := w') (by simp [go_sem, Rs.look]) (Rs.Gr.refl _) rfl
      · rw [if_pos (by rfl)]
        exact Rs.GrowL.value (v := .int .i64 b) (w' := w') (by simp [go_sem, Rs.look]) (Rs.Gr.refl _) rfl
      · have e0 : V 0 = .agg #[.slice pw t.words.length cw, (.slice pt t.turns.length ct), (.int .i64 t.breath), mf] := hs 0 (by simp)
        have e1 : V 1 = .int .i64 a := hs 1 (by simp)
        have e2 : V 2 = .int .i64 b := hs 2 (by simp)
        rw [if_pos (by rfl)]
        refine Rs.GrowL.call (f := 163) (args := #[.agg #[.slice pw t.words.length cw, .slice pt t.turns.length ct, .int .i64 t.breath, mf], .int .i64 a, .int .i64 b]) (by simp [go_sem, Rs.look, e0, e1, e2]) ?_
        refine (HSY.out w' hG).mono ?_
        rintro e w2 ⟨rfl, hB2⟩
        exact ⟨_, rfl, hB2, rfl⟩
      · rw [if_pos (by rfl)]
        exact Rs.GrowL.value (v := .int .i64 m) (w' := w') (by simp [go_sem, Rs.look, c0]) (Rs.Gr.refl _) rfl
      · have e0 : V 0 = .agg #[.slice pw t.words.length cw, (.slice pt t.turns.length ct), (.int .i64 t.breath), mf] := hs 0 (by simp)
        have e1 : V 1 = .int .i64 a := hs 1 (by simp)
        have e2 : V 2 = .int .i64 b := hs 2 (by simp)
        have e3 : V 3 = .int .i64 (t.syl a b) := hs 3 (by simp)
        have e4 : V 4 = .int .i64 m := hs 4 (by simp)
        rw [if_pos (by rfl)]
        exact Rs.GrowL.value (v := .bool true) (w' := w') (by simp [go_sem, Rs.look, e0, e1, e2, e3, e4, hsm]) (Rs.Gr.refl _) rfl
      · have e0 : V 0 = .agg #[.slice pw t.words.length cw, (.slice pt t.turns.length ct), (.int .i64 t.breath), mf] := hs 0 (by simp)
        have e1 : V 1 = .int .i64 a := hs 1 (by simp)
        have e2 : V 2 = .int .i64 b := hs 2 (by simp)
        have e3 : V 3 = .int .i64 (t.syl a b) := hs 3 (by simp)
        have e4 : V 4 = .int .i64 m := hs 4 (by simp)
        have e5 : V 5 = .bool true := hs 5 (by simp)
        rw [if_pos (by rfl)]
        exact Rs.GrowL.value (v := .bool true) (w' := w') (by simp [go_sem, Rs.look, e0, e1, e2, e3, e4, e5]) (Rs.Gr.refl _) rfl
      · have e0 : V 0 = .agg #[.slice pw t.words.length cw, (.slice pt t.turns.length ct), (.int .i64 t.breath), mf] := hs 0 (by simp)
        have e1 : V 1 = .int .i64 a := hs 1 (by simp)
        have e2 : V 2 = .int .i64 b := hs 2 (by simp)
        have e3 : V 3 = .int .i64 (t.syl a b) := hs 3 (by simp)
        have e4 : V 4 = .int .i64 m := hs 4 (by simp)
        have e5 : V 5 = .bool true := hs 5 (by simp)
        have e6 : V 6 = .bool true := hs 6 (by simp)
        rw [if_pos (by simp [Rs.wantB, e6])]
        exact Rs.GrowL.value (v := .agg #[.slice pw t.words.length cw, (.slice pt t.turns.length ct), (.int .i64 t.breath), mf]) (w' := w') (by simp [go_sem, Rs.look, e0, e1, e2, e3, e4, e5, e6, k0, k1, k2, k3]) (Rs.Gr.refl _) rfl
      · have e0 : V 0 = .agg #[.slice pw t.words.length cw, (.slice pt t.turns.length ct), (.int .i64 t.breath), mf] := hs 0 (by simp)
        have e1 : V 1 = .int .i64 a := hs 1 (by simp)
        have e2 : V 2 = .int .i64 b := hs 2 (by simp)
        have e3 : V 3 = .int .i64 (t.syl a b) := hs 3 (by simp)
        have e4 : V 4 = .int .i64 m := hs 4 (by simp)
        have e5 : V 5 = .bool true := hs 5 (by simp)
        have e6 : V 6 = .bool true := hs 6 (by simp)
        rw [if_pos (by simp [Rs.wantB, e6])]
        exact Rs.GrowL.value (v := .int .i64 a) (w' := w') (by simp [go_sem, Rs.look, e0, e1, e2, e3, e4, e5, e6]) (Rs.Gr.refl _) rfl
      · have e0 : V 0 = .agg #[.slice pw t.words.length cw, (.slice pt t.turns.length ct), (.int .i64 t.breath), mf] := hs 0 (by simp)
        have e1 : V 1 = .int .i64 a := hs 1 (by simp)
        have e2 : V 2 = .int .i64 b := hs 2 (by simp)
        have e3 : V 3 = .int .i64 (t.syl a b) := hs 3 (by simp)
        have e4 : V 4 = .int .i64 m := hs 4 (by simp)
        have e5 : V 5 = .bool true := hs 5 (by simp)
        have e6 : V 6 = .bool true := hs 6 (by simp)
        rw [if_pos (by simp [Rs.wantB, e6])]
        exact Rs.GrowL.value (v := .int .i64 b) (w' := w') (by simp [go_sem, Rs.look, e0, e1, e2, e3, e4, e5, e6]) (Rs.Gr.refl _) rfl
      · have e0 : V 0 = .agg #[.slice pw t.words.length cw, (.slice pt t.turns.length ct), (.int .i64 t.breath), mf] := hs 0 (by simp)
        have e1 : V 1 = .int .i64 a := hs 1 (by simp)
        have e2 : V 2 = .int .i64 b := hs 2 (by simp)
        have e3 : V 3 = .int .i64 (t.syl a b) := hs 3 (by simp)
        have e4 : V 4 = .int .i64 m := hs 4 (by simp)
        have e5 : V 5 = .bool true := hs 5 (by simp)
        have e6 : V 6 = .bool true := hs 6 (by simp)
        have e7 : V 7 = .agg #[.slice pw t.words.length cw, (.slice pt t.turns.length ct), (.int .i64 t.breath), mf] := hs 7 (by simp)
        have e8 : V 8 = .int .i64 a := hs 8 (by simp)
        have e9 : V 9 = .int .i64 b := hs 9 (by simp)
        rw [if_pos (by simp [Rs.wantB, e6])]
        refine Rs.GrowL.call (f := 138) (args := #[.agg #[.slice pw t.words.length cw, .slice pt t.turns.length ct, .int .i64 t.breath, mf], .int .i64 a, .int .i64 b]) (by simp [go_sem, Rs.look, e7, e8, e9]) ?_
        refine (HRT.out w' hG).mono ?_
        rintro e w2 ⟨rfl, hB2⟩
        exact ⟨_, rfl, hB2, rfl⟩
      · have e0 : V 0 = .agg #[.slice pw t.words.length cw, (.slice pt t.turns.length ct), (.int .i64 t.breath), mf] := hs 0 (by simp)
        have e1 : V 1 = .int .i64 a := hs 1 (by simp)
        have e2 : V 2 = .int .i64 b := hs 2 (by simp)
        have e3 : V 3 = .int .i64 (t.syl a b) := hs 3 (by simp)
        have e4 : V 4 = .int .i64 m := hs 4 (by simp)
        have e5 : V 5 = .bool true := hs 5 (by simp)
        have e6 : V 6 = .bool true := hs 6 (by simp)
        have e7 : V 7 = .agg #[.slice pw t.words.length cw, (.slice pt t.turns.length ct), (.int .i64 t.breath), mf] := hs 7 (by simp)
        have e8 : V 8 = .int .i64 a := hs 8 (by simp)
        have e9 : V 9 = .int .i64 b := hs 9 (by simp)
        have e10 : V 10 = .bool (t.right a b) := hs 10 (by simp)
        rw [if_pos (by rfl)]
        exact Rs.GrowL.value (v := .bool (t.right a b)) (w' := w') (by simp [go_sem, Rs.look, e0, e1, e2, e3, e4, e5, e6, e7, e8, e9, e10]) (Rs.Gr.refl _) rfl
      · have e0 : V 0 = .agg #[.slice pw t.words.length cw, (.slice pt t.turns.length ct), (.int .i64 t.breath), mf] := hs 0 (by simp)
        have e1 : V 1 = .int .i64 a := hs 1 (by simp)
        have e2 : V 2 = .int .i64 b := hs 2 (by simp)
        have e3 : V 3 = .int .i64 (t.syl a b) := hs 3 (by simp)
        have e4 : V 4 = .int .i64 m := hs 4 (by simp)
        have e5 : V 5 = .bool true := hs 5 (by simp)
        have e6 : V 6 = .bool true := hs 6 (by simp)
        have e7 : V 7 = .agg #[.slice pw t.words.length cw, (.slice pt t.turns.length ct), (.int .i64 t.breath), mf] := hs 7 (by simp)
        have e8 : V 8 = .int .i64 a := hs 8 (by simp)
        have e9 : V 9 = .int .i64 b := hs 9 (by simp)
        have e10 : V 10 = .bool (t.right a b) := hs 10 (by simp)
        have e11 : V 11 = .bool (t.right a b) := hs 11 (by simp)
        rw [if_pos (by rfl)]
        exact Rs.GrowL.value (v := .bool (t.right a b)) (w' := w') (by simp [go_sem, Rs.look, e0, e1, e2, e3, e4, e5, e6, e7, e8, e9, e10, e11]) (Rs.Gr.refl _) rfl
    · intro V w' hG hs
      have e0 : V 0 = .agg #[.slice pw t.words.length cw, (.slice pt t.turns.length ct), (.int .i64 t.breath), mf] := hs 0 (by omega)
      have e1 : V 1 = .int .i64 a := hs 1 (by omega)
      have e2 : V 2 = .int .i64 b := hs 2 (by omega)
      have e3 : V 3 = .int .i64 (t.syl a b) := hs 3 (by omega)
      have e4 : V 4 = .int .i64 m := hs 4 (by omega)
      have e5 : V 5 = .bool true := hs 5 (by omega)
      have e6 : V 6 = .bool true := hs 6 (by omega)
      have e7 : V 7 = .agg #[.slice pw t.words.length cw, (.slice pt t.turns.length ct), (.int .i64 t.breath), mf] := hs 7 (by omega)
      have e8 : V 8 = .int .i64 a := hs 8 (by omega)
      have e9 : V 9 = .int .i64 b := hs 9 (by omega)
      have e10 : V 10 = .bool (t.right a b) := hs 10 (by omega)
      have e11 : V 11 = .bool (t.right a b) := hs 11 (by omega)
      have e12 : V 12 = .bool (t.right a b) := hs 12 (by omega)
      simp only [Rs.canon, Rs.dstOf, List.range_succ, List.range_zero, List.nil_append, List.cons_append, List.foldl_cons, List.foldl_nil, List.drop_succ_cons, List.drop_zero, List.drop_nil, List.getElem?_toArray, List.getElem?_cons_succ, List.getElem?_cons_zero, Option.bind_some, Act.put, List.getD_cons_succ, List.getD_cons_zero, List.setIfInBounds_toArray, List.set_cons_succ, List.set_cons_zero]
      rw [e0, e1, e2, e3, e4, e5, e6, e7, e8, e9, e10, e11, e12]
      clear e0 e1 e2 e3 e4 e5 e6 e7 e8 e9 e10 e11 e12 hs
      go_wp2
      go_ret
      exact ⟨ret_bool (by rw [HF.out]; simp [HSM.out]), hG⟩
  · have HSM := Lib.hid hsm
    go_enter Try.func162, Try.ntmps162
    go_wp2_with fail
    refine Rs.region_gen 13 [[], [], [], [0, 1, 2], [], [0, 1, 2, 3, 4], [0, 1, 2, 3, 4, 5], [0, 1, 2, 3, 4, 5, 6], [0, 1, 2, 3, 4, 5, 6], [0, 1, 2, 3, 4, 5, 6], [0, 1, 2, 3, 4, 5, 6, 7, 8, 9], [0, 1, 2, 3, 4, 5, 6, 7, 8, 9, 10], [0, 1, 2, 3, 4, 5, 6, 7, 8, 9, 10, 11]] [some 7, some 8, some 9, some 10, some 11, some 12, some 13, some 14, some 15, some 16, some 17, some 18, some 6] (spEv0 pw t.words.length cw (.slice pt t.turns.length ct) (.int .i64 t.breath) mf a b (t.syl a b) m (t.right a b)) (by kernel_rfl) (by kernel_rfl) rfl (spEv0_stable _ _ _ _ _ _ _ _ _ _ _) ?_ ?_
    · refine ⟨fun V w' hG hs => ?_, fun V w' hG hs => ?_, fun V w' hG hs => ?_, fun V w' hG hs => ?_, fun V w' hG hs => ?_, fun V w' hG hs => ?_, fun V w' hG hs => ?_, fun V w' hG hs => ?_, fun V w' hG hs => ?_, fun V w' hG hs => ?_, fun V w' hG hs => ?_, fun V w' hG hs => ?_, fun V w' hG hs => ?_, trivial⟩
      all_goals
        obtain ⟨k0, k1, k2, k3⟩ := blk4 ((hG.block X HXl).trans HX.out)
        have c0 := blk_cells ((hG.block Y HYl).trans HY.out) 0 _ rfl
      · rw [if_pos (by rfl)]
        exact Rs.GrowL.value (v := .agg #[.slice pw t.words.length cw, (.slice pt t.turns.length ct), (.int .i64 t.breath), mf]) (w' := w') (by simp [go_sem, Rs.look, k0, k1, k2, k3]) (Rs.Gr.refl _) rfl
      · rw [if_pos (by rfl)]
        exact Rs.GrowL.value (v := .int .i64 a) (w' := w') (by simp [go_sem, Rs.look]) (Rs.Gr.refl _) rfl
      · rw [if_pos (by rfl)]
        exact Rs.GrowL.value (v := .int .i64 b) (w' := w') (by simp [go_sem, Rs.look]) (Rs.Gr.refl _) rfl
      · have e0 : V 0 = .agg #[.slice pw t.words.length cw, (.slice pt t.turns.length ct), (.int .i64 t.breath), mf] := hs 0 (by simp)
        have e1 : V 1 = .int .i64 a := hs 1 (by simp)
        have e2 : V 2 = .int .i64 b := hs 2 (by simp)
        rw [if_pos (by rfl)]
        refine Rs.GrowL.call (f := 163) (args := #[.agg #[.slice pw t.words.length cw, .slice pt t.turns.length ct, .int .i64 t.breath, mf], .int .i64 a, .int .i64 b]) (by simp [go_sem, Rs.look, e0, e1, e2]) ?_
        refine (HSY.out w' hG).mono ?_
        rintro e w2 ⟨rfl, hB2⟩
        exact ⟨_, rfl, hB2, rfl⟩
      · rw [if_pos (by rfl)]
        exact Rs.GrowL.value (v := .int .i64 m) (w' := w') (by simp [go_sem, Rs.look, c0]) (Rs.Gr.refl _) rfl
      · have e0 : V 0 = .agg #[.slice pw t.words.length cw, (.slice pt t.turns.length ct), (.int .i64 t.breath), mf] := hs 0 (by simp)
        have e1 : V 1 = .int .i64 a := hs 1 (by simp)
        have e2 : V 2 = .int .i64 b := hs 2 (by simp)
        have e3 : V 3 = .int .i64 (t.syl a b) := hs 3 (by simp)
        have e4 : V 4 = .int .i64 m := hs 4 (by simp)
        rw [if_pos (by rfl)]
        exact Rs.GrowL.value (v := .bool false) (w' := w') (by simp [go_sem, Rs.look, e0, e1, e2, e3, e4, hsm]) (Rs.Gr.refl _) rfl
      · have e0 : V 0 = .agg #[.slice pw t.words.length cw, (.slice pt t.turns.length ct), (.int .i64 t.breath), mf] := hs 0 (by simp)
        have e1 : V 1 = .int .i64 a := hs 1 (by simp)
        have e2 : V 2 = .int .i64 b := hs 2 (by simp)
        have e3 : V 3 = .int .i64 (t.syl a b) := hs 3 (by simp)
        have e4 : V 4 = .int .i64 m := hs 4 (by simp)
        have e5 : V 5 = .bool false := hs 5 (by simp)
        rw [if_pos (by rfl)]
        exact Rs.GrowL.value (v := .bool false) (w' := w') (by simp [go_sem, Rs.look, e0, e1, e2, e3, e4, e5]) (Rs.Gr.refl _) rfl
      · have e0 : V 0 = .agg #[.slice pw t.words.length cw, (.slice pt t.turns.length ct), (.int .i64 t.breath), mf] := hs 0 (by simp)
        have e1 : V 1 = .int .i64 a := hs 1 (by simp)
        have e2 : V 2 = .int .i64 b := hs 2 (by simp)
        have e3 : V 3 = .int .i64 (t.syl a b) := hs 3 (by simp)
        have e4 : V 4 = .int .i64 m := hs 4 (by simp)
        have e5 : V 5 = .bool false := hs 5 (by simp)
        have e6 : V 6 = .bool false := hs 6 (by simp)
        rw [if_neg (by simp [Rs.wantB, e6])]
        rfl
      · have e0 : V 0 = .agg #[.slice pw t.words.length cw, (.slice pt t.turns.length ct), (.int .i64 t.breath), mf] := hs 0 (by simp)
        have e1 : V 1 = .int .i64 a := hs 1 (by simp)
        have e2 : V 2 = .int .i64 b := hs 2 (by simp)
        have e3 : V 3 = .int .i64 (t.syl a b) := hs 3 (by simp)
        have e4 : V 4 = .int .i64 m := hs 4 (by simp)
        have e5 : V 5 = .bool false := hs 5 (by simp)
        have e6 : V 6 = .bool false := hs 6 (by simp)
        rw [if_neg (by simp [Rs.wantB, e6])]
        rfl
      · have e0 : V 0 = .agg #[.slice pw t.words.length cw, (.slice pt t.turns.length ct), (.int .i64 t.breath), mf] := hs 0 (by simp)
        have e1 : V 1 = .int .i64 a := hs 1 (by simp)
        have e2 : V 2 = .int .i64 b := hs 2 (by simp)
        have e3 : V 3 = .int .i64 (t.syl a b) := hs 3 (by simp)
        have e4 : V 4 = .int .i64 m := hs 4 (by simp)
        have e5 : V 5 = .bool false := hs 5 (by simp)
        have e6 : V 6 = .bool false := hs 6 (by simp)
        rw [if_neg (by simp [Rs.wantB, e6])]
        rfl
      · have e0 : V 0 = .agg #[.slice pw t.words.length cw, (.slice pt t.turns.length ct), (.int .i64 t.breath), mf] := hs 0 (by simp)
        have e1 : V 1 = .int .i64 a := hs 1 (by simp)
        have e2 : V 2 = .int .i64 b := hs 2 (by simp)
        have e3 : V 3 = .int .i64 (t.syl a b) := hs 3 (by simp)
        have e4 : V 4 = .int .i64 m := hs 4 (by simp)
        have e5 : V 5 = .bool false := hs 5 (by simp)
        have e6 : V 6 = .bool false := hs 6 (by simp)
        have e7 : V 7 = undef := hs 7 (by simp)
        have e8 : V 8 = undef := hs 8 (by simp)
        have e9 : V 9 = undef := hs 9 (by simp)
        rw [if_neg (by simp [Rs.wantB, e6])]
        rfl
      · have e0 : V 0 = .agg #[.slice pw t.words.length cw, (.slice pt t.turns.length ct), (.int .i64 t.breath), mf] := hs 0 (by simp)
        have e1 : V 1 = .int .i64 a := hs 1 (by simp)
        have e2 : V 2 = .int .i64 b := hs 2 (by simp)
        have e3 : V 3 = .int .i64 (t.syl a b) := hs 3 (by simp)
        have e4 : V 4 = .int .i64 m := hs 4 (by simp)
        have e5 : V 5 = .bool false := hs 5 (by simp)
        have e6 : V 6 = .bool false := hs 6 (by simp)
        have e7 : V 7 = undef := hs 7 (by simp)
        have e8 : V 8 = undef := hs 8 (by simp)
        have e9 : V 9 = undef := hs 9 (by simp)
        have e10 : V 10 = undef := hs 10 (by simp)
        rw [if_pos (by rfl)]
        exact Rs.GrowL.value (v := .bool false) (w' := w') (by simp [go_sem, Rs.look, e0, e1, e2, e3, e4, e5, e6, e7, e8, e9, e10]) (Rs.Gr.refl _) rfl
      · have e0 : V 0 = .agg #[.slice pw t.words.length cw, (.slice pt t.turns.length ct), (.int .i64 t.breath), mf] := hs 0 (by simp)
        have e1 : V 1 = .int .i64 a := hs 1 (by simp)
        have e2 : V 2 = .int .i64 b := hs 2 (by simp)
        have e3 : V 3 = .int .i64 (t.syl a b) := hs 3 (by simp)
        have e4 : V 4 = .int .i64 m := hs 4 (by simp)
        have e5 : V 5 = .bool false := hs 5 (by simp)
        have e6 : V 6 = .bool false := hs 6 (by simp)
        have e7 : V 7 = undef := hs 7 (by simp)
        have e8 : V 8 = undef := hs 8 (by simp)
        have e9 : V 9 = undef := hs 9 (by simp)
        have e10 : V 10 = undef := hs 10 (by simp)
        have e11 : V 11 = .bool false := hs 11 (by simp)
        rw [if_pos (by rfl)]
        exact Rs.GrowL.value (v := .bool false) (w' := w') (by simp [go_sem, Rs.look, e0, e1, e2, e3, e4, e5, e6, e7, e8, e9, e10, e11]) (Rs.Gr.refl _) rfl
    · intro V w' hG hs
      have e0 : V 0 = .agg #[.slice pw t.words.length cw, (.slice pt t.turns.length ct), (.int .i64 t.breath), mf] := hs 0 (by omega)
      have e1 : V 1 = .int .i64 a := hs 1 (by omega)
      have e2 : V 2 = .int .i64 b := hs 2 (by omega)
      have e3 : V 3 = .int .i64 (t.syl a b) := hs 3 (by omega)
      have e4 : V 4 = .int .i64 m := hs 4 (by omega)
      have e5 : V 5 = .bool false := hs 5 (by omega)
      have e6 : V 6 = .bool false := hs 6 (by omega)
      have e7 : V 7 = undef := hs 7 (by omega)
      have e8 : V 8 = undef := hs 8 (by omega)
      have e9 : V 9 = undef := hs 9 (by omega)
      have e10 : V 10 = undef := hs 10 (by omega)
      have e11 : V 11 = .bool false := hs 11 (by omega)
      have e12 : V 12 = .bool false := hs 12 (by omega)
      simp only [Rs.canon, Rs.dstOf, List.range_succ, List.range_zero, List.nil_append, List.cons_append, List.foldl_cons, List.foldl_nil, List.drop_succ_cons, List.drop_zero, List.drop_nil, List.getElem?_toArray, List.getElem?_cons_succ, List.getElem?_cons_zero, Option.bind_some, Act.put, List.getD_cons_succ, List.getD_cons_zero, List.setIfInBounds_toArray, List.set_cons_succ, List.set_cons_zero]
      rw [e0, e1, e2, e3, e4, e5, e6, e7, e8, e9, e10, e11, e12]
      clear e0 e1 e2 e3 e4 e5 e6 e7 e8 e9 e10 e11 e12 hs
      go_wp2
      go_ret
      exact ⟨ret_bool (by rw [HF.out, decide_eq_false (Int.not_le.2 HSM.out)]; rfl), hG⟩
theorem entered_rightWithin1 : Entered 162 := fun args W => by kernel_rfl
theorem rightWithin_any (v0 v1 v2 v3 : Value) (m : Int) (w : World) :
    Calls Try.prog 132 #[.agg #[v0, v1, v2, v3], .int .i64 m] w fun e w' => e = .returned (.func (.func 162) #[] #[.pointer (some ⟨w.heap.size, 0, none⟩), .pointer (some ⟨w.heap.size + 1, 0, none⟩)]) ∧ w' = (w.alloc (.cells #[v0, v1, v2, v3] 125)).alloc (.cells #[.int .i64 m] 3) := by
  have hmf := mf
  go_enter Try.func132, Try.ntmps132
  go_wp2
  go_ret
  exact ⟨by simp, rfl⟩
theorem entered_sure : Entered 128 := fun args W => by kernel_rfl
theorem sure_may (t : Text) (pw pt : Option Addr) (cw ct : Nat) (mf : Value) (w : World) (hW : WkAt w t pw pt cw) :
    MayAt (.func (.func 128) #[.agg #[.slice pw t.words.length cw, .slice pt t.turns.length ct, .int .i64 t.breath, mf]] #[]) t.sureB t.words.length (fun k => k < w.heap.size) w :=
  ⟨128, _, _, rfl, entered_sure, fun W hH a b hab hb => sureB_any t pw pt cw ct mf a b (by omega) hb W ⟨hW.ok, hW.at_.hold hH (fun k hk => hk), hW.cap⟩⟩
theorem within_may (t : Text) (pw pt : Option Addr) (cw ct : Nat) (mf : Value) (m : Int) (X Y : Nat) (w : World) (hW : WkAt w t pw pt cw)
    (hX : w.heap[X]? = some (.cells #[.slice pw t.words.length cw, .slice pt t.turns.length ct, .int .i64 t.breath, mf] 125 (0, 0))) (hY : w.heap[Y]? = some (.cells #[.int .i64 m] 3 (0, 0))) :
    MayAt (.func (.func 162) #[] #[.pointer (some ⟨X, 0, none⟩), .pointer (some ⟨Y, 0, none⟩)]) (t.within m) t.words.length (fun k => k < w.heap.size) w := by
  have hXl := (Array.getElem?_eq_some_iff.1 hX).1
  have hYl := (Array.getElem?_eq_some_iff.1 hY).1
  refine ⟨162, _, _, rfl, entered_rightWithin1, fun W hH a b hab hb => ?_⟩
  exact rightWithin1_any t pw pt cw ct mf m a b (by omega) hb X Y W ⟨hW.ok, hW.at_.hold hH (fun k hk => hk), hW.cap⟩ ((hH.same X hXl hXl).trans hX) ((hH.same Y hYl hYl).trans hY)
/-- what Surest tells -/
def surL (t : Text) : List Int := if t.err = 0 then (Tx.fewest t.sureB t.words.length).1 else []
def surE (t : Text) : Int := if t.err = 0 then (Tx.fewest t.sureB t.words.length).2 else t.err
set_option maxHeartbeats 800000 in
theorem Surest_any (t : Text) (hl1 : t.words.length ≤ 1000000) (hl2 : t.turns.length ≤ 1000000) (pw pt : Option Addr) (cw ct : Nat) (hcw : t.words.length ≤ cw ∧ cw ≤ maxLen) (w : World) (hW : TxAt w t pw pt) :
    Calls Try.prog 56 #[.agg #[.slice pw t.words.length cw, .slice pt t.turns.length ct, .int .i64 t.breath]] w (ListPost (surL t) (surE t) w) := by
  have hmf := mf
  by_cases he : t.err = 0
  · have ok := err_ok he
    have h1 : surL t = (Tx.fewest t.sureB t.words.length).1 := if_pos he
    have h2 : surE t = (Tx.fewest t.sureB t.words.length).2 := if_pos he
    rw [h1, h2]
    have HS := Lib.hid (fun W (h : Below w.heap.size w W) => open_ok t he pw pt cw ct W (hW.below h))
    have HF := Lib.hid (fun mv W (h : Below w.heap.size w W) => fewest_any t.sureB t.words.length cw ok.n1 ok.n12 pw (.slice pt t.turns.length ct) (.int .i64 t.breath) _ W (sure_may t pw pt cw ct mv W ⟨ok, hW.below h, hcw⟩))
    clear hW he h1 h2 ok
    go_enter Try.func56, Try.ntmps56
    go_wp2_with fail
    refine (HS.out _ (below1 _ _)).mono ?_
    rintro e w5 ⟨rfl, hB5⟩
    have HB5 := Lib.hid (join (below1 _ _) hB5)
    clear hB5
    go_wp2_with fail
    refine (HF.out _ _ ?_).mono ?_
    · exact join HB5.out (below1 _ _)
    rintro e w6 ⟨v, rfl, hown, hB6⟩
    have HO := Lib.hid hown
    have HB6 := Lib.hid hB6
    clear hown hB6
    go_wp2
    go_ret2
    have hz := HB5.out.size
    exact ⟨_, rfl, own_base HO.out (by simp; omega), join (join HB5.out (below1 _ _)) HB6.out⟩
  · have h1 : surL t = [] := if_neg he
    have h2 : surE t = t.err := if_neg he
    rw [h1, h2]
    have HS := Lib.hid (fun W (h : Below w.heap.size w W) => open_bad t he hl1 hl2 pw pt cw ct W (hW.below h))
    have HE : (t.err != 0) = true := by simpa using he
    clear hW he h1 h2
    generalize t.err = er at HE HS ⊢
    go_enter Try.func56, Try.ntmps56
    go_wp2_with fail
    refine (HS.out _ (below1 _ _)).mono ?_
    rintro e w5 ⟨rfl, hB5⟩
    have HB5 := Lib.hid (join (below1 _ _) hB5)
    clear hB5
    go_wp2
    go_ret2
    exact ⟨_, rfl, own_none _ _ _ _, join HB5.out (below1 _ _)⟩
end Go.Proofs.Ytadnggecnjdhiaa
namespace Go.Proofs.Ytadnggecnjdhiaa
open Tx
set_option linter.unusedSimpArgs false
set_option linter.unusedVariables false

/-- marks let no breath gain more than one -/
def NoGain (may : Nat → Nat → Bool) (n : Nat) (m : Marks) : Prop := ∀ a b, a < b → b ≤ n → may a b = true → m.getD b 0 ≤ m.getD a 0 + 1
theorem marks_ext {m k : Marks} (h1 : m.length = k.length) (h : ∀ p, m.getD p 0 = k.getD p 0) : m = k := by
  apply List.ext_getElem h1
  intro i hi hk
  have := h i
  simpa [List.getD_eq_getElem?_getD, hi, hk] using this
theorem low_fold (may : Nat → Nat → Bool) (n : Nat) (m : Marks) (hm : m.length = 13) (hn : n ≤ 12) : ∀ k, k ≤ n →
    ((List.range k).foldl (lowRow may n) m).length = 13 ∧ (∀ p, ((List.range k).foldl (lowRow may n) m).getD p 0 ≤ m.getD p 0) ∧
      (∀ a b, a < k → a < b → b ≤ n → may a b = true → ((List.range k).foldl (lowRow may n) m).getD b 0 ≤ m.getD a 0 + 1)
  | 0, _ => ⟨by simpa using hm, fun p => by simp, fun a b h => by omega⟩
  | k + 1, hk => by
    obtain ⟨h1, h2, h3⟩ := low_fold may n m hm hn k (by omega)
    rw [List.range_succ, List.foldl_append, List.foldl_cons, List.foldl_nil]
    generalize (List.range k).foldl (lowRow may n) m = M at h1 h2 h3 ⊢
    obtain ⟨g1, g2⟩ := row_get k (brs may n k) M (fun b hb => by rw [mem_brs] at hb; rw [h1]; omega)
    have e : ∀ p, (lowRow may n M k).getD p 0 ≤ M.getD p 0 := fun p => by
      unfold lowRow; rw [g2]; split <;> omega
    refine ⟨by unfold lowRow; rw [g1, h1], fun p => by have := e p; have := h2 p; omega, fun a b ha hab hb hmay => ?_⟩
    by_cases hak : a = k
    · subst hak
      unfold lowRow
      rw [g2, if_pos (by rw [mem_brs]; exact ⟨hab, hb, hmay⟩)]
      have := h2 a
      omega
    · have := h3 a b (by omega) hab hb hmay
      have := e b
      omega
theorem low_same (may : Nat → Nat → Bool) (n : Nat) (m : Marks) (hm : m.length = 13) (hn : n ≤ 12) (h : NoGain may n m) : ∀ k, k ≤ n → (List.range k).foldl (lowRow may n) m = m
  | 0, _ => rfl
  | k + 1, hk => by
    rw [List.range_succ, List.foldl_append, List.foldl_cons, List.foldl_nil, low_same may n m hm hn h k (by omega)]
    obtain ⟨g1, g2⟩ := row_get k (brs may n k) m (fun b hb => by rw [mem_brs] at hb; rw [hm]; omega)
    refine marks_ext g1 fun p => ?_
    unfold lowRow
    rw [g2]
    split
    · rename_i hp
      rw [mem_brs] at hp
      have := h k p hp.1 hp.2.1 hp.2.2
      omega
    · rfl
theorem lowered_iff (may : Nat → Nat → Bool) (n : Nat) (m : Marks) (hm : m.length = 13) (hn : n ≤ 12) : lowered may n m = m ↔ NoGain may n m := by
  constructor
  · intro h a b hab hb hmay
    have := (low_fold may n m hm hn n (Nat.le_refl _)).2.2 a b (by omega) hab hb hmay
    have e : (List.range n).foldl (lowRow may n) m = m := h
    rw [e] at this
    exact this
  · intro h
    exact low_same may n m hm hn h n (Nat.le_refl _)
theorem greatest_nogain (may : Nat → Nat → Bool) (n : Nat) (hn : n ≤ 12) : NoGain may n (greatest may n) := fun a b hab hb hmay => (greatest_inv may n hn).hold a b (by omega) hab hb hmay
/-- behind the words the greatest marks are 0 -/
theorem greatest_tail (may : Nat → Nat → Bool) (n : Nat) (hn : n ≤ 12) (p : Nat) (hp : n < p) : (greatest may n).getD p 0 = 0 := by
  unfold greatest lowered
  have key : ∀ k, k ≤ n → ((List.range k).foldl (lowRow may n) (top n)).getD p 0 = 0 ∧ ((List.range k).foldl (lowRow may n) (top n)).length = 13 := by
    intro k
    induction k with
    | zero => intro _; exact ⟨by rw [List.range_zero, List.foldl_nil, top_get n p hn, if_neg (by omega)], by simp [top]⟩
    | succ k ih =>
      intro hk
      obtain ⟨h1, h2⟩ := ih (by omega)
      rw [List.range_succ, List.foldl_append, List.foldl_cons, List.foldl_nil]
      generalize (List.range k).foldl (lowRow may n) (top n) = M at h1 h2 ⊢
      obtain ⟨g1, g2⟩ := row_get k (brs may n k) M (fun b hb => by rw [mem_brs] at hb; rw [h2]; omega)
      refine ⟨?_, by unfold lowRow; rw [g1, h2]⟩
      unfold lowRow
      rw [g2, if_neg (by rw [mem_brs]; omega), h1]
  exact (key n (Nat.le_refl _)).1
/-- the marks of the places of a text, and those behind them, are the greatest marks -/
theorem greatest_pad (may : Nat → Nat → Bool) (n : Nat) (hn : n ≤ 12) : (greatest may n).take (n + 1) ++ List.replicate (13 - ((greatest may n).take (n + 1)).length) 0 = greatest may n := by
  have hl := (greatest_inv may n hn).len
  refine marks_ext (by simp [hl]; omega) fun p => ?_
  by_cases hp : p < n + 1
  · have h2 : p < min (n + 1) 13 := by omega
    simp [List.getElem?_append, List.getElem?_take, hl, hp, show p < 13 by omega, h2]
  · have h0 := greatest_tail may n hn p (by omega)
    rw [h0]
    have h2 : ¬ p < min (n + 1) 13 := by omega
    simp [List.getElem?_append, List.getElem?_take, hl, hp, List.getElem?_replicate, h2]
    split <;> rfl
/-- the mark of the last place is how many breaths it needs -/
theorem greatest_last {may : Nat → Nat → Bool} {n : Nat} (hn1 : 1 ≤ n) (hn : n ≤ 12) (h : (fewest may n).2 = 0) : (greatest may n).getD n 0 = (fewest may n).1.length ∧ (greatest may n).getD n 0 < 99 := by
  have hi := greatest_inv may n hn
  unfold fewest at h ⊢
  by_cases hm : (greatest may n).getD n 0 < 99
  · rw [if_pos hm]
    exact ⟨by rw [← (walk_spec hi n n (Nat.le_refl _) (Nat.le_refl _) hm).2.2]; simp, hm⟩
  · rw [if_neg hm] at h
    simp at h
end Go.Proofs.Ytadnggecnjdhiaa
set_option linter.unusedSimpArgs false
set_option linter.unusedVariables false
namespace Go.Proofs.Ytadnggecnjdhiaa
open Go.RowKit Tx

/-- a list that is told, as it can be read -/
def RdPost (l : List Int) (er : Int) (w : World) (e : Ending) (w' : World) : Prop := ∃ p c, e = .returned (.tuple #[.slice p l.length c, .int .i64 er]) ∧ Ints w' p l ∧ Below w.heap.size w w'
def markL (t : Text) : List Int := if fewE t = 0 then (greatest t.right t.words.length).take (t.words.length + 1) else []
theorem fewE_dec {t : Text} (he : t.err = 0) : fewE t = if (greatest t.right t.words.length).getD t.words.length 0 < 99 then 0 else 6 := by
  unfold fewE fewest
  rw [if_pos he]
  split <;> rfl
theorem A_arr13 : Try.prog.underlying 143 = some (.array (Try.prog.arrayLen 143) (Try.prog.elem 143)) := by kernel_rfl
theorem A_len13 : Try.prog.arrayLen 143 = 13 := by kernel_rfl
theorem A_siz13 (W : World) : (sizeOf (Try.prog.elem 143)).run Try.prog W = .ok 1 W := by kernel_rfl
theorem slice_marks (n : Nat) (hn : n ≤ 13) (g : Nat) (W : World) : (Instr.sliceAt 143 (.pointer (some ⟨g, 0, none⟩)) none (some (.int .i64 (n : Int))) none).run Try.prog W = .ok (.slice (some ⟨g, 0, none⟩) n 13) W := by
  rw [run_sliceAt_array_h W 143 ⟨g, 0, none⟩ A_arr13 .i64 (n : Int) (by omega) (by rw [A_len13]; omega), A_siz13, A_len13]
  simp only [Result.andThen_ok, slicedAt, Int.toNat_natCast]
  congr 1
set_option maxHeartbeats 2000000 in
set_option maxRecDepth 100000 in
theorem Marks_any (t : Text) (hl1 : t.words.length ≤ 1000000) (hl2 : t.turns.length ≤ 1000000) (pw pt : Option Addr) (cw ct : Nat) (hcw : t.words.length ≤ cw ∧ cw ≤ maxLen) (w : World) (hW : TxAt w t pw pt) :
    Calls Try.prog 38 #[.agg #[.slice pw t.words.length cw, .slice pt t.turns.length ct, .int .i64 t.breath]] w (RdPost (markL t) (fewE t) w) := by
  by_cases he : t.err = 0
  · have ok := err_ok he
    have hn := ok.n12
    have HFE := Lib.hid (fewE_dec he)
    have HS := Lib.hid (fun W (h : Below w.heap.size w W) => open_ok t he pw pt cw ct W (hW.below h))
    have HG := Lib.hid (fun W (h : Below w.heap.size w W) => greatest_any t.right t.words.length cw hn pw (.slice pt t.turns.length ct) (.int .i64 t.breath) _ W (right_may t pw pt cw ct .nilFunc W ⟨ok, hW.below h, hcw⟩))
    have HSM := Lib.hid (greatest_small (may := t.right) hn)
    clear hW he ok
    go_enter Try.func38, Try.ntmps38
    go_wp2_with fail
    refine (HS.out _ (below1 _ _)).mono ?_
    rintro e w5 ⟨rfl, hB5⟩
    have HB5 := Lib.hid (join (below1 _ _) hB5)
    have hz5 : w.heap.size < w5.heap.size := by have := hB5.size; simp at this; omega
    clear hB5
    go_wp2_with fail
    refine (HG.out _ (join HB5.out (below1 _ _))).mono ?_
    rintro e W1 ⟨rfl, hB1⟩
    have hz1' : w5.heap.size + 1 ≤ W1.heap.size := by have := hB1.size; simp at this; omega
    have HX1 := Lib.hid ((hB1.block w5.heap.size (by simp)).trans (heap_last w5 _))
    have HB1 := Lib.hid (join (join HB5.out (below1 _ _)) hB1)
    have hsz : (arrOf (greatest t.right t.words.length)).size = 13 := by rw [arrOf_size]; exact HSM.out.1
    have HI := Lib.hid (size_marks hsz)
    have HON := Lib.hid (arrOf_one (greatest t.right t.words.length))
    obtain ⟨mv, hmv⟩ : ∃ mv, mv = Value.func (.func 138) #[.agg #[.slice pw t.words.length cw, .slice pt t.turns.length ct, .int .i64 t.breath, .nilFunc]] #[] := ⟨_, rfl⟩
    rw [← hmv] at HX1
    have HRE := Lib.hid (fun W => reached_any (.slice pw t.words.length cw) (.slice pt t.turns.length ct) (.int .i64 t.breath) mv (greatest t.right t.words.length) HSM.out.1 t.words.length (by omega) W)
    rw [← hmv]
    clear hB1 hmv
    obtain ⟨BA, hBA⟩ : ∃ BA, BA = arrOf (greatest t.right t.words.length) := ⟨_, rfl⟩
    rw [← hBA] at HI HON HRE hsz ⊢
    have HBA := Lib.hid hBA
    have HSZ := Lib.hid hsz
    clear hBA hsz
    go_wp2_with (with_reducible refine wpList_store_new rfl 143 _ _ rfl _ BA rfl rfl HI.out ?hs HON.out ?_)
    case hs => rw [HSZ.out]; rfl
    have HM := Lib.hid (heap_last W1 (.cells BA 143))
    have HX := Lib.hid ((Below.heap_alloc W1 (.cells BA 143) _ (show w5.heap.size < W1.heap.size by omega)).trans HX1.out)
    have HB2 := Lib.hid (join HB1.out (below1 W1 (.cells BA 143)))
    have hz2' : (W1.alloc (.cells BA 143)).heap.size = W1.heap.size + 1 := by simp
    generalize hW2 : W1.alloc (.cells BA 143) = W2 at HM HX HB2 hz2' ⊢
    clear hW2
    refine Rs.region_gen 6 [[], [], [], [2], [0, 1, 2, 3], [0, 1, 2, 3, 4]] [some 17, some 18, some 19, some 20, some 21, some 22] (spFe pw t.words.length cw (.slice pt t.turns.length ct) (.int .i64 t.breath) mv BA (decide ((greatest t.right t.words.length).getD t.words.length 0 < 99))) (by kernel_rfl) (by kernel_rfl) rfl (spFe_stable _ _ _ _ _ _ _ _) ?_ ?_
    · refine ⟨fun V w' hG hs => ?_, fun V w' hG hs => ?_, fun V w' hG hs => ?_, fun V w' hG hs => ?_, fun V w' hG hs => ?_, fun V w' hG hs => ?_, trivial⟩
      all_goals
        have hm := (hG.block W1.heap.size (by omega)).trans HM.out
        have hx := (hG.block w5.heap.size (by omega)).trans HX.out
        have k0 := blk_cells hx 0 _ rfl
        have k1 := blk_cells hx 1 _ rfl
        have k2 := blk_cells hx 2 _ rfl
        have k3 := blk_cells hx 3 _ rfl
      · rw [if_pos (by rfl)]
        exact Rs.GrowL.value (v := .agg #[.slice pw t.words.length cw, .slice pt t.turns.length ct, .int .i64 t.breath, mv]) (w' := w') (by simp [go_sem, Rs.look, k0, k1, k2, k3]) (Rs.Gr.refl _) rfl
      · rw [if_pos (by rfl)]
        exact Rs.GrowL.value (v := .agg BA) (w' := w') (exec_load_row 143 _ rfl W1.heap.size rfl 143 BA (0, 0) _ hm und_marks rfl HI.out) (Rs.Gr.refl _) rfl
      · rw [if_pos (by rfl)]
        exact Rs.GrowL.value (v := .agg #[.slice pw t.words.length cw, .slice pt t.turns.length ct, .int .i64 t.breath, mv]) (w' := w') (by simp [go_sem, Rs.look, k0, k1, k2, k3]) (Rs.Gr.refl _) rfl
      · have e2 : V 2 = .agg #[.slice pw t.words.length cw, .slice pt t.turns.length ct, .int .i64 t.breath, mv] := hs 2 (by simp)
        rw [if_pos (by rfl)]
        refine Rs.GrowL.call (f := 104) (args := #[.agg #[.slice pw t.words.length cw, .slice pt t.turns.length ct, .int .i64 t.breath, mv]]) (by simp [go_sem, Rs.look, e2]) ?_
        refine (end_any _ _ _ _ _ _ _).mono ?_
        rintro e w2 ⟨rfl, rfl⟩
        exact ⟨_, rfl, below1 _ _, rfl⟩
      · have e0 : V 0 = .agg #[.slice pw t.words.length cw, .slice pt t.turns.length ct, .int .i64 t.breath, mv] := hs 0 (by simp)
        have e1 : V 1 = .agg BA := hs 1 (by simp)
        have e2 : V 2 = .agg #[.slice pw t.words.length cw, .slice pt t.turns.length ct, .int .i64 t.breath, mv] := hs 2 (by simp)
        have e3 : V 3 = .int .i64 t.words.length := hs 3 (by simp)
        rw [if_pos (by rfl)]
        refine Rs.GrowL.call (f := 109) (args := #[.agg #[.slice pw t.words.length cw, .slice pt t.turns.length ct, .int .i64 t.breath, mv], .agg BA, .int .i64 t.words.length]) (by simp [go_sem, Rs.look, e0, e1, e3]) ?_
        refine (HRE.out w').mono ?_
        rintro e w2 ⟨rfl, hB2⟩
        exact ⟨_, rfl, hB2, rfl⟩
      · have e0 : V 0 = .agg #[.slice pw t.words.length cw, .slice pt t.turns.length ct, .int .i64 t.breath, mv] := hs 0 (by simp)
        have e1 : V 1 = .agg BA := hs 1 (by simp)
        have e2 : V 2 = .agg #[.slice pw t.words.length cw, .slice pt t.turns.length ct, .int .i64 t.breath, mv] := hs 2 (by simp)
        have e3 : V 3 = .int .i64 t.words.length := hs 3 (by simp)
        have e4 : V 4 = .bool (decide ((greatest t.right t.words.length).getD t.words.length 0 < 99)) := hs 4 (by simp)
        rw [if_pos (by rfl)]
        exact Rs.GrowL.value (v := .bool (!(decide ((greatest t.right t.words.length).getD t.words.length 0 < 99)))) (w' := w') (by simp [go_sem, Rs.look, e0, e1, e2, e3, e4]) (Rs.Gr.refl _) rfl
    · intro V w' hG hs
      have e0 : V 0 = .agg #[.slice pw t.words.length cw, .slice pt t.turns.length ct, .int .i64 t.breath, mv] := hs 0 (by omega)
      have e1 : V 1 = .agg BA := hs 1 (by omega)
      have e2 : V 2 = .agg #[.slice pw t.words.length cw, .slice pt t.turns.length ct, .int .i64 t.breath, mv] := hs 2 (by omega)
      have e3 : V 3 = .int .i64 t.words.length := hs 3 (by omega)
      have e4 : V 4 = .bool (decide ((greatest t.right t.words.length).getD t.words.length 0 < 99)) := hs 4 (by omega)
      have e5 : V 5 = .bool (!(decide ((greatest t.right t.words.length).getD t.words.length 0 < 99))) := hs 5 (by omega)
      simp only [Rs.canon, Rs.dstOf, List.range_succ, List.range_zero, List.nil_append, List.cons_append, List.foldl_cons, List.foldl_nil, List.drop_succ_cons, List.drop_zero, List.drop_nil, List.getElem?_toArray, List.getElem?_cons_succ, List.getElem?_cons_zero, Option.bind_some, Act.put, List.getD_cons_succ, List.getD_cons_zero, List.setIfInBounds_toArray, List.set_cons_succ, List.set_cons_zero]
      rw [e0, e1, e2, e3, e4, e5]
      clear e0 e1 e2 e3 e4 e5 hs
      have HG := Lib.hid hG
      have hzg := hG.size
      have HMw := Lib.hid ((hG.block W1.heap.size (by omega)).trans HM.out)
      have hxw := (hG.block w5.heap.size (by omega)).trans HX.out
      have k0 := blk_cells hxw 0 _ rfl
      have k1 := blk_cells hxw 1 _ rfl
      have k2 := blk_cells hxw 2 _ rfl
      have k3 := blk_cells hxw 3 _ rfl
      have hsw : w5.heap.size < w'.heap.size ∧ W1.heap.size < w'.heap.size := by omega
      obtain ⟨hsw0, hsw1⟩ := hsw
      have HXW := Lib.hid hxw
      clear hG hxw HX HM
      by_cases hd : (greatest t.right t.words.length).getD t.words.length 0 < 99
      · have HFZ : Hid (fewE t = 0) := Lib.hid (by rw [HFE.out, if_pos hd])
        rw [decide_eq_true hd]
        clear hd
        go_wp2_with fail
        refine (end_any _ _ _ _ _ _ _).mono ?_
        rintro e w7 ⟨rfl, hw7⟩
        have hB7 : Below w'.heap.size w' w7 := by rw [← hw7]; exact below1 _ _
        have HM7 := Lib.hid ((hB7.block _ hsw1).trans HMw.out)
        have HB7 := Lib.hid (join HB2.out (join HG.out hB7))
        have hz7 := hB7.size
        have hn13 : (t.words.length : Int) + 1 ≤ 13 := by omega
        have hsumN : IntKind.i64.wrap ((t.words.length : Int) + 1) = ((t.words.length + 1 : Nat) : Int) := by rw [IntWalk.i64_in _ (by omega)]; omega
        have hn14 : ((t.words.length + 1 : Nat) : Int) ≤ 13 := by omega
        have hsl : ∀ W, (Instr.sliceAt 143 (.pointer (some ⟨W1.heap.size, 0, none⟩)) none (some (.int .i64 ((t.words.length : Int) + 1))) none).run Try.prog W = .ok (.slice (some ⟨W1.heap.size, 0, none⟩) (t.words.length + 1) 13) W := fun W => by
          have := slice_marks (t.words.length + 1) (by omega) W1.heap.size W
          rwa [show ((t.words.length + 1 : Nat) : Int) = (t.words.length : Int) + 1 by omega] at this
        clear hw7 hB7 k0 k1 k2 k3 hsumN hn14
        go_wp2
        go_ret2
        have hML : markL t = (greatest t.right t.words.length).take (t.words.length + 1) := if_pos HFZ.out
        have hlen : (markL t).length = t.words.length + 1 := by rw [hML, List.length_take, HSM.out.1]; omega
        refine ⟨some ⟨W1.heap.size, 0, none⟩, 13, by rw [HFZ.out, hlen]; rfl, .inr ⟨W1.heap.size, 0, rfl, by omega, fun i hi => ?_⟩, HB7.out⟩
        rw [hlen] at hi
        have hc := blk_cells HM7.out i _ (by rw [HBA.out]; exact arrOf_get (by rw [HSM.out.1]; omega))
        rw [Nat.zero_add, hc, hML]
        congr 2
        simp [List.getElem?_take, hi]
      · have HFZ : Hid (fewE t = 6) := Lib.hid (by rw [HFE.out, if_neg hd])
        rw [decide_eq_false hd]
        clear hd
        go_wp2
        go_ret2
        have hML : markL t = [] := if_neg (by rw [HFZ.out]; decide)
        exact ⟨none, 0, by rw [HFZ.out, hML]; rfl, .inl hML, join HB2.out HG.out⟩
  · have h2 : fewE t = t.err := if_neg he
    have hML : markL t = [] := if_neg (by rw [h2]; exact he)
    rw [h2]
    have HML := Lib.hid hML
    have HS := Lib.hid (fun W (h : Below w.heap.size w W) => open_bad t he hl1 hl2 pw pt cw ct W (hW.below h))
    have HE : (t.err != 0) = true := by simpa using he
    clear hW he h2 hML
    generalize t.err = er at HE HS ⊢
    go_enter Try.func38, Try.ntmps38
    go_wp2_with fail
    refine (HS.out _ (below1 _ _)).mono ?_
    rintro e w5 ⟨rfl, hB5⟩
    have HB5 := Lib.hid (join (below1 _ _) hB5)
    clear hB5
    go_wp2
    go_ret2
    exact ⟨none, 0, by rw [HML.out]; exact rfl, .inl HML.out, join HB5.out (below1 _ _)⟩
end Go.Proofs.Ytadnggecnjdhiaa
namespace Go.Proofs.Ytadnggecnjdhiaa
open Tx
set_option linter.unusedSimpArgs false
set_option linter.unusedVariables false

theorem okFrom_mono {may may' : Nat → Nat → Bool} {n : Nat} (h : ∀ a b, a < b → b ≤ n → may a b = true → may' a b = true) : ∀ (l : List Int) (a : Nat), a ≤ n → Parts ((n : Int) - a) l → okFrom may a l = true → okFrom may' a l = true
  | [], a, _, _, _ => rfl
  | x :: l, a, ha, hp, ho => by
    rw [okFrom, Bool.and_eq_true] at ho ⊢
    rw [parts_cons] at hp
    have hp2 := parts_pos hp.2
    refine ⟨h a _ (by omega) (by omega) ho.1, okFrom_mono h l _ (by omega) ?_ ho.2⟩
    rw [show (n : Int) - ((a + x.toNat : Nat) : Int) = (n : Int) - a - x by omega]
    exact hp.2
theorem rights_mono {may may' : Nat → Nat → Bool} {n : Nat} (h : ∀ a b, a < b → b ≤ n → may a b = true → may' a b = true) {l : List Int} (hl : l ∈ rights may n) : l ∈ rights may' n := by
  rw [mem_rights] at hl ⊢
  exact ⟨hl.1, okFrom_mono h l 0 (Nat.zero_le _) (by simpa using hl.1) hl.2⟩
theorem count_mono {may may' : Nat → Nat → Bool} {n : Nat} (h : ∀ a b, a < b → b ≤ n → may a b = true → may' a b = true) : count may n 0 ≤ count may' n 0 := by
  rw [count_rights, count_rights]
  unfold rights
  rw [← List.countP_eq_length_filter, ← List.countP_eq_length_filter]
  apply List.countP_mono_left
  intro l hl ho
  exact okFrom_mono h l 0 (Nat.zero_le _) (by simpa using (compF_mem n n l (Nat.le_refl _)).1 hl) ho
theorem few_mono {may may' : Nat → Nat → Bool} {n : Nat} (hn1 : 1 ≤ n) (hn : n ≤ 12) (h : ∀ a b, a < b → b ≤ n → may a b = true → may' a b = true) (he : (fewest may n).2 = 0) :
    (fewest may' n).2 = 0 ∧ (fewest may' n).1.length ≤ (fewest may n).1.length := by
  have hin := (fewest_rights (may := may) hn1 hn).2.2.1 he
  have hin' := rights_mono h hin
  obtain ⟨f1, f2, f3, f4⟩ := fewest_rights (may := may') hn1 hn
  refine ⟨f4.2 (fun e => by rw [e] at hin'; simp at hin'), ?_⟩
  rw [f1]
  exact (bestLen_spec _ 0 (rights_ne hn1)).2.1 _ hin'
theorem fewest_err {may : Nat → Nat → Bool} {n : Nat} (hn1 : 1 ≤ n) (hn : n ≤ 12) : ((fewest may n).2 = 0 ∧ 0 < count may n 0) ∨ ((fewest may n).2 = 6 ∧ count may n 0 = 0) := by
  obtain ⟨f1, f2, f3, f4⟩ := fewest_rights (may := may) hn1 hn
  rw [count_rights]
  by_cases h : (fewest may n).2 = 0
  · exact .inl ⟨h, List.length_pos_iff.2 (f4.1 h)⟩
  · right
    rw [f2] at h ⊢
    have hz : bestLen (rights may n) 0 = 0 := by
      by_cases hz : bestLen (rights may n) 0 = 0
      · exact hz
      · rw [if_neg hz] at h; exact absurd rfl h
    rw [if_pos hz]
    refine ⟨rfl, ?_⟩
    rw [((bestLen_zero _ 0 (rights_ne hn1)).1 hz).2]
    rfl
theorem unbroken_err {may : Nat → Nat → Bool} {n : Nat} (hn1 : 1 ≤ n) (hn : n ≤ 12) : (unbroken may n).2 = (fewest may n).2 := by
  unfold unbroken
  rcases fewest_err (may := may) hn1 hn with ⟨h1, h2⟩ | ⟨h1, h2⟩
  · rw [if_neg (by omega), h1]
  · rw [if_pos h2, h1]
theorem mem_unbroken {may : Nat → Nat → Bool} {n : Nat} (hn1 : 1 ≤ n) (hn : n ≤ 12) (he : (fewest may n).2 = 0) {x : Int} : x ∈ (unbroken may n).1 ↔ ∃ p : Nat, x = p ∧ 1 ≤ p ∧ p < n ∧ ∀ l ∈ rights may n, breaksAt l p = false := by
  unfold unbroken
  rcases fewest_err (may := may) hn1 hn with ⟨h1, h2⟩ | ⟨h1, h2⟩
  · rw [if_neg (by omega)]
    simp only [List.mem_map, List.mem_filter, List.mem_range'_1]
    constructor
    · rintro ⟨p, ⟨hp1, hp2⟩, rfl⟩
      rw [unbr_rights hn (by omega) (by omega)] at hp2
      simp only [Bool.not_eq_true', List.any_eq_false, Bool.not_eq_true] at hp2
      exact ⟨p, rfl, by omega, by omega, hp2⟩
    · rintro ⟨p, rfl, hp1, hp2, hp3⟩
      refine ⟨p, ⟨by omega, ?_⟩, rfl⟩
      rw [unbr_rights hn hp1 hp2]
      simp only [Bool.not_eq_true', List.any_eq_false, Bool.not_eq_true]
      exact hp3
  · rw [he] at h1; simp at h1
theorem never_mono {may may' : Nat → Nat → Bool} {n : Nat} (hn1 : 1 ≤ n) (hn : n ≤ 12) (h : ∀ a b, a < b → b ≤ n → may a b = true → may' a b = true) (he : (fewest may n).2 = 0) {x : Int} (hx : x ∈ (unbroken may' n).1) : x ∈ (unbroken may n).1 := by
  rw [mem_unbroken hn1 hn (few_mono hn1 hn h he).1] at hx
  rw [mem_unbroken hn1 hn he]
  obtain ⟨p, h1, h2, h3, h4⟩ := hx
  exact ⟨p, h1, h2, h3, fun l hl => h4 l (rights_mono h hl)⟩
/-- in one text is right what is right in another one -/
structure More (t t' : Text) : Prop where
  len : t'.words.length = t.words.length
  syl : ∀ a b, t'.syl a b = t.syl a b
  right : ∀ a b, a < b → b ≤ t.words.length → t.right a b = true → t'.right a b = true
theorem longGo_more {t t' : Text} (h : More t t') : ∀ (l : List Int) (a : Nat), longGo t' a l = longGo t a l
  | [], _ => rfl
  | x :: l, a => by rw [longGo, longGo, h.syl, longGo_more h l]
theorem even_more {t t' : Text} (h : More t t') (he : t.err = 0) (he' : t'.err = 0) (hs : ∀ x ∈ t.words, 1 ≤ x.syl ∧ x.syl ≤ 9) (hs' : ∀ x ∈ t'.words, 1 ≤ x.syl ∧ x.syl ≤ 9) (hn1 : 1 ≤ t.words.length) (hn : t.words.length ≤ 12) (hb : 1 ≤ t.breath) (hb' : 1 ≤ t'.breath) (hz : (evR t).2.2 = 0) :
    (evR t').2.2 = 0 ∧ (evR t').2.1 ≤ (evR t).2.1 := by
  rcases evR_spec he hs hn1 hn hb with ⟨h1, _⟩ | ⟨_, h2, h3, h4, h5, h6, h7⟩
  · rw [hz] at h1; simp at h1
  · have ho : okFrom t'.right 0 (evR t).1 = true := okFrom_mono h.right _ 0 (Nat.zero_le _) (by simpa using h2) h3
    rcases evR_spec he' hs' (by rw [h.len]; exact hn1) (by rw [h.len]; exact hn) hb' with ⟨_, _, k3⟩ | ⟨k1, _, _, _, _, _, k7⟩
    · exact (k3 _ (by rw [h.len]; exact h2) ho).elim
    · refine ⟨k1, ?_⟩
      have := (k7 _ (by rw [h.len]; exact h2) ho).1
      rw [longGo_more h, h4] at this
      exact this
theorem even_err {t : Text} (he : t.err = 0) (hs : ∀ x ∈ t.words, 1 ≤ x.syl ∧ x.syl ≤ 9) (hn1 : 1 ≤ t.words.length) (hn : t.words.length ≤ 12) (hb : 1 ≤ t.breath) : (evR t).2.2 = (fewest t.right t.words.length).2 := by
  have f := fewest_rights (may := t.right) hn1 hn
  rcases evR_spec he hs hn1 hn hb with ⟨h1, h2, h3⟩ | ⟨h1, h2, h3, _⟩
  · rw [h1]
    rcases fewest_err (may := t.right) hn1 hn with ⟨g1, _⟩ | ⟨g1, _⟩
    · exfalso
      have := f.2.2.1 g1
      rw [mem_rights] at this
      exact h3 _ this.1 this.2
    · exact g1.symm
  · rw [h1]
    symm
    rw [f.2.2.2]
    intro e
    have := mem_rights.2 ⟨h2, h3⟩
    rw [e] at this
    simp at this
theorem more_stop (t : Text) (k : Nat) (hk : k < t.words.length) (t' : Text) (hw : t'.words = t.words.set k { t.words.getD k default with stop := true }) (ht : t'.turns = t.turns) (hb : t'.breath = t.breath) : More t t' := by
  have hlen : t'.words.length = t.words.length := by rw [hw]; simp
  have hg : ∀ i, (t'.words.getD i default).stop = (decide (i = k) || (t.words.getD i default).stop) := fun i => by
    rw [hw]
    by_cases h : i = k
    · subst h; simp [hk]
    · simp [List.getElem?_set, Ne.symm h, h]
  have hsyl : t'.words.map (·.syl) = t.words.map (·.syl) := by
    rw [hw]
    apply List.ext_getElem (by simp)
    intro i h1 h2
    simp only [List.getElem_map, List.getElem_set]
    split
    · rename_i e; subst e; simp [hk]
    · rfl
  have hs : ∀ a b, t'.syl a b = t.syl a b := fun a b => by
    unfold Text.syl slice
    rw [List.map_take, List.map_drop, hsyl, List.map_take, List.map_drop]
  refine ⟨hlen, hs, fun a b hab hbn hr => ?_⟩
  have hal : ∀ p, t.allow p = true → t'.allow p = true := fun p h => by
    unfold Text.allow Text.len at *
    rw [hlen, hg]
    simp only [Bool.or_eq_true] at *
    rcases h with h | h
    · exact .inl h
    · exact .inr (.inr h)
  unfold Text.right Text.isLong Text.isCut Text.isOther at *
  rw [hs, ht, hb]
  simp only [Bool.and_eq_true, Bool.not_eq_true', Bool.or_eq_false_iff, Bool.not_eq_false'] at hr ⊢
  exact ⟨⟨hr.1.1, hal a hr.1.2.1, hal b hr.1.2.2⟩, hr.2⟩
theorem more_breath (t : Text) (t' : Text) (hw : t'.words = t.words) (ht : t'.turns = t.turns) (hb : t.breath ≤ t'.breath) : More t t' := by
  have hs : ∀ a b, t'.syl a b = t.syl a b := fun a b => by unfold Text.syl; rw [hw]
  refine ⟨by rw [hw], hs, fun a b hab hbn hr => ?_⟩
  unfold Text.right Text.isLong Text.isCut Text.isOther Text.allow Text.len at *
  rw [hs, ht, hw]
  simp only [Bool.and_eq_true, Bool.not_eq_true', decide_eq_false_iff_not] at hr ⊢
  exact ⟨⟨by omega, hr.1.2⟩, hr.2⟩
theorem more_turn (t : Text) (t' : Text) (hw : t'.words = t.words) (ht : ∀ u ∈ t'.turns, u ∈ t.turns) (hb : t'.breath = t.breath) : More t t' := by
  have hs : ∀ a b, t'.syl a b = t.syl a b := fun a b => by unfold Text.syl; rw [hw]
  refine ⟨by rw [hw], hs, fun a b hab hbn hr => ?_⟩
  unfold Text.right Text.isLong Text.isCut Text.isOther Text.allow Text.len at *
  rw [hs, hw, hb]
  simp only [Bool.and_eq_true, Bool.not_eq_true', List.any_eq_false] at hr ⊢
  exact ⟨hr.1, fun u hu => hr.2 u (ht u hu)⟩
end Go.Proofs.Ytadnggecnjdhiaa
set_option linter.unusedSimpArgs false
set_option linter.unusedVariables false
namespace Go.Proofs.Ytadnggecnjdhiaa
open Go.RowKit Tx

theorem fewE_cases {t : Text} (ok : Text.Ok t) (he : t.err = 0) : fewE t = 0 ∨ fewE t = 6 := by
  have h : fewE t = (fewest t.right t.words.length).2 := if_pos he
  rw [h]
  rcases fewest_err (may := t.right) ok.n1 ok.n12 with ⟨h, _⟩ | ⟨h, _⟩
  · exact .inl h
  · exact .inr h
theorem surE_cases {t : Text} (ok : Text.Ok t) (he : t.err = 0) : surE t = 0 ∨ surE t = 6 := by
  have h : surE t = (fewest t.sureB t.words.length).2 := if_pos he
  rw [h]
  rcases fewest_err (may := t.sureB) ok.n1 ok.n12 with ⟨h, _⟩ | ⟨h, _⟩
  · exact .inl h
  · exact .inr h
theorem markL_len {t : Text} (ok : Text.Ok t) (h : fewE t = 0) : (markL t).length = t.words.length + 1 := by
  have := ok.n12
  rw [markL, if_pos h, List.length_take, (greatest_inv t.right t.words.length ok.n12).len]; omega
theorem markL_get {t : Text} (ok : Text.Ok t) (h : fewE t = 0) (i : Nat) (hi : i ≤ t.words.length) : (markL t).getD i 0 = (greatest t.right t.words.length).getD i 0 := by
  rw [markL, if_pos h]
  simp [List.getElem?_take, show i < t.words.length + 1 by omega]
/-- the marks that are told hold, and show the fewest breaths -/
theorem marks_show {t : Text} (ok : Text.Ok t) (he : t.err = 0) (h : fewE t = 0) : ¬ (markL t).any (fun k => !btw k 0 99) = true ∧ shows t (markL t) = (((fewL t).length : Int), 0) := by
  have hi := greatest_inv t.right t.words.length ok.n12
  have hl := markL_len ok h
  have hf : (fewest t.right t.words.length).2 = 0 := by rw [← h]; exact (if_pos he).symm
  have hfl : fewL t = (fewest t.right t.words.length).1 := if_pos he
  have hany : ¬ (markL t).any (fun k => !btw k 0 99) = true := by
    intro ha
    obtain ⟨x, hx, hb⟩ := List.any_eq_true.1 ha
    obtain ⟨i, hi2, rfl⟩ := List.mem_iff_getElem.1 hx
    have e : (markL t)[i] = (greatest t.right t.words.length).getD i 0 := by
      rw [← markL_get ok h i (by omega)]; simp [hi2]
    rw [e] at hb
    have := hi.bd i
    unfold btw at hb
    rw [Bool.not_eq_true', Bool.and_eq_false_iff, decide_eq_false_iff_not, decide_eq_false_iff_not] at hb
    omega
  refine ⟨hany, ?_⟩
  have hpad : padM (markL t) = greatest t.right t.words.length := by
    unfold padM
    rw [markL, if_pos h]
    exact greatest_pad t.right t.words.length ok.n12
  have hh : holdB t.right t.words.length (padM (markL t)) = true := by
    rw [hpad]
    unfold holdB
    rw [Bool.and_eq_true]
    exact ⟨by rw [hi.zero]; rfl, decide_eq_true ((lowered_iff _ _ _ hi.len ok.n12).2 (greatest_nogain _ _ ok.n12))⟩
  unfold shows
  rw [if_neg (by simp [he]), if_neg (by omega), if_neg hany, if_neg (by rw [hh]; simp), markL_get ok h _ (Nat.le_refl _), (greatest_last ok.n1 ok.n12 hf).1, hfl]
theorem okFrom_sure (t : Text) : ∀ (l : List Int) (a : Nat), l ≠ [] → (∀ x ∈ l, 1 ≤ x) → (okFrom t.sureB a l = true ↔ okFrom t.right a l = true ∧ ∀ j, j ≤ l.length → t.parts ((a : Int) + isum (l.take j)) = false)
  | [], _, h, _ => absurd rfl h
  | x :: l, a, _, hp => by
    have hx := hp x (by simp)
    rw [okFrom, okFrom, Bool.and_eq_true, Bool.and_eq_true]
    have e1 : t.sureB a (a + x.toNat) = true ↔ t.right a (a + x.toNat) = true ∧ t.parts a = false ∧ t.parts ((a : Int) + x) = false := by
      unfold Text.sureB
      rw [show ((a + x.toNat : Nat) : Int) = (a : Int) + x by omega]
      simp [Bool.and_eq_true, and_assoc]
    rw [e1]
    cases l with
    | nil =>
      simp only [okFrom, and_true, List.length_cons, List.length_nil]
      constructor
      · rintro ⟨h1, h2, h3⟩
        refine ⟨h1, fun j hj => ?_⟩
        rcases (show j = 0 ∨ j = 1 by omega) with rfl | rfl
        · simpa [isum] using h2
        · simpa [isum] using h3
      · rintro ⟨h1, h2⟩
        exact ⟨h1, by simpa [isum] using h2 0 (by omega), by simpa [isum] using h2 1 (by omega)⟩
    | cons y l =>
      rw [okFrom_sure t (y :: l) (a + x.toNat) (by simp) (fun z hz => hp z (by simp [hz]))]
      have e2 : ∀ j, ((a + x.toNat : Nat) : Int) + isum ((y :: l).take j) = (a : Int) + isum ((x :: y :: l).take (j + 1)) := fun j => by
        rw [List.take_succ_cons, isum_cons]; omega
      constructor
      · rintro ⟨⟨h1, h2, h3⟩, h4, h5⟩
        refine ⟨⟨h1, h4⟩, fun j hj => ?_⟩
        cases j with
        | zero => simpa [isum] using h2
        | succ j => rw [← e2 j]; exact h5 j (by simpa using hj)
      · rintro ⟨⟨h1, h4⟩, h5⟩
        refine ⟨⟨h1, by simpa [isum] using h5 0 (by omega), by simpa [isum] using h5 1 (by simp)⟩, h4, fun j hj => ?_⟩
        rw [e2 j]; exact h5 (j + 1) (by simpa using hj)
theorem turn_ok {t : Text} (ok : Text.Ok t) : ∀ u ∈ t.turns, TurnOk t.words.length u := fun u hu => ok.turn u hu
/-- a right reading is sure just if its breaths are those that sure allows -/
theorem sure_iff {t : Text} (ok : Text.Ok t) {l : List Int} (hp : Parts t.words.length l) : okFrom t.sureB 0 l = true ↔ okFrom t.right 0 l = true ∧ sureP t.turns (placesL l) = true := by
  have hl1 : 1 ≤ l.length := by
    rcases Nat.eq_zero_or_pos l.length with h | h
    · have := ok.n1
      rw [List.length_eq_zero_iff.1 h] at hp; have := hp.2; simp [isum] at this; omega
    · exact h
  have hne : l ≠ [] := fun e => by rw [e] at hl1; simp at hl1
  rw [okFrom_sure t l 0 hne hp.1, sureP_apart hp hl1 (turn_ok ok)]
  refine and_congr_right fun _ => ?_
  rw [Bool.not_eq_true', List.any_eq_false]
  simp only [Int.natCast_zero, Int.zero_add]
  constructor
  · intro h u hu ha
    unfold apartIn at ha
    obtain ⟨p, hpi, hpp⟩ := List.any_eq_true.1 ha
    obtain ⟨j, h1, h2, rfl⟩ := (mem_inner l p).1 hpi
    have := h j (by omega)
    unfold Text.parts at this
    rw [List.any_eq_false] at this
    exact this u hu hpp
  · intro h j hj
    unfold Text.parts
    rw [List.any_eq_false]
    intro u hu hpp
    obtain ⟨o1, o2, o3, o4, o5, o6⟩ := ok.turn u hu
    rw [parts_iff] at hpp
    have hb : ∀ y ∈ l, 0 ≤ y := fun y hy => by have := hp.1 y hy; omega
    by_cases h0 : j = 0
    · subst h0
      simp only [List.take_zero, isum, List.foldl_nil] at hpp
      omega
    · by_cases hjl : j = l.length
      · rw [hjl, List.take_length, hp.2] at hpp
        omega
      · refine h u hu ?_
        unfold apartIn
        exact List.any_eq_true.2 ⟨isum (l.take j), (mem_inner l _).2 ⟨j, by omega, by omega, rfl⟩, (parts_iff _ _).2 hpp⟩
/-- what TextBroken needs of Fewest and Surest -/
structure BrokenR (t : Text) : Prop where
  none : fewE t = 6 → surE t = 6 ∧ ∀ o, Parts t.words.length o → okFrom t.right 0 o = true → False
  few : fewE t = 0 → Parts t.words.length (fewL t) ∧ okFrom t.right 0 (fewL t) = true ∧ ∀ o, Parts t.words.length o → okFrom t.right 0 o = true → (fewL t).length ≤ o.length
  sur : surE t = 0 → Parts t.words.length (surL t) ∧ okFrom t.right 0 (surL t) = true ∧ sureP t.turns (placesL (surL t)) = true ∧ fewE t = 0
  low : ∀ o, Parts t.words.length o → okFrom t.right 0 o = true → sureP t.turns (placesL o) = true → surE t = 0 ∧ (surL t).length ≤ o.length
theorem broken_ref {t : Text} (ok : Text.Ok t) (he : t.err = 0) : BrokenR t := by
  have e1 : fewE t = (fewest t.right t.words.length).2 := if_pos he
  have e2 : fewL t = (fewest t.right t.words.length).1 := if_pos he
  have e3 : surE t = (fewest t.sureB t.words.length).2 := if_pos he
  have e4 : surL t = (fewest t.sureB t.words.length).1 := if_pos he
  have f := fewest_rights (may := t.right) ok.n1 ok.n12
  have g := fewest_rights (may := t.sureB) ok.n1 ok.n12
  have hfew : ∀ o, Parts t.words.length o → okFrom t.right 0 o = true → fewE t = 0 ∧ (fewL t).length ≤ o.length := fun o h1 h2 => by
    have hm := mem_rights.2 ⟨h1, h2⟩
    refine ⟨by rw [e1, f.2.2.2]; intro e; rw [e] at hm; simp at hm, ?_⟩
    rw [e2, f.1]; exact (bestLen_spec _ 0 (rights_ne ok.n1)).2.1 o hm
  have hsur : surE t = 0 → Parts t.words.length (surL t) ∧ okFrom t.right 0 (surL t) = true ∧ sureP t.turns (placesL (surL t)) = true ∧ fewE t = 0 := fun h => by
    rw [e3] at h
    obtain ⟨h1, h2⟩ := mem_rights.1 (g.2.2.1 h)
    rw [e4]
    obtain ⟨h3, h4⟩ := (sure_iff ok h1).1 h2
    exact ⟨h1, h3, h4, (hfew _ h1 h3).1⟩
  refine ⟨fun h => ⟨?_, fun o h1 h2 => ?_⟩, fun h => ?_, hsur, fun o h1 h2 h3 => ?_⟩
  · rcases surE_cases ok he with h0 | h0
    · have := (hsur h0).2.2.2; omega
    · exact h0
  · have := (hfew o h1 h2).1; omega
  · rw [e1] at h
    obtain ⟨h1, h2⟩ := mem_rights.1 (f.2.2.1 h)
    rw [e2]
    exact ⟨h1, h2, fun o k1 k2 => by have := (hfew o k1 k2).2; rwa [e2] at this⟩
  · have hm := mem_rights.2 ⟨h1, (sure_iff ok h1).2 ⟨h2, h3⟩⟩
    refine ⟨by rw [e3, g.2.2.2]; intro e; rw [e] at hm; simp at hm, ?_⟩
    rw [e4, g.1]; exact (bestLen_spec _ 0 (rights_ne ok.n1)).2.1 o hm
theorem wrongGo_err (t : Text) : ∀ (l : List Int) (i a : Nat), (wrongGo t i a l).2.2 = 0 ∨ (wrongGo t i a l).2.2 = 6
  | [], i, a => by simp [wrongGo]
  | x :: l, i, a => by
    rw [wrongGo]
    split
    · exact .inl rfl
    · exact wrongGo_err t l _ _
theorem wrongR_err {t : Text} (ok : Text.Ok t) (he : t.err = 0) {l : List Int} (h : Parts t.words.length l) : (wrongR t l).2.2 = if okFrom t.right 0 l then 6 else 0 := by
  have h1 := okR_ok ok he h
  have h2 : (wrongR t l).2.2 = 0 ∨ (wrongR t l).2.2 = 6 := by
    unfold wrongR; rw [if_pos (read_parts ok he h)]; exact wrongGo_err t l 0 0
  rw [← h1]
  unfold okR
  rcases h2 with h2 | h2 <;> rw [h2] <;> simp
end Go.Proofs.Ytadnggecnjdhiaa
set_option linter.unusedSimpArgs false
set_option linter.unusedVariables false
namespace Go.Proofs.Ytadnggecnjdhiaa
open Go.RowKit Tx
attribute [local go_sem] Oper.semAt_some

theorem parts_len2 {L : Nat} {l : List Int} (h : Parts L l) : l.length ≤ L := by
  have := isum_ge h.1
  have := h.2
  omega
theorem plc_ok {L : Nat} {l : List Int} (h : Parts L l) : plcL (L : Int) l = placesL l := by unfold plcL; rw [if_pos ((partsB_iff _ _).2 h)]
def spBr1 (tv : Value) (gm om n cm a b : Nat) (ma mb : Int) : Nat → List Value → Value → World → Prop
  | 0, _, v, _ => v = tv
  | 1, _, v, _ => v = .int .i64 (a : Int)
  | 2, _, v, _ => v = .int .i64 (b : Int)
  | 3, _, v, _ => v = .bool true
  | 4, _, v, _ => v = .bool true
  | 5, _, v, _ => v = .slice (some ⟨gm, om, none⟩) n cm
  | 6, _, v, _ => v = .int .i64 (b : Int)
  | 7, _, v, _ => v = .pointer (some ⟨gm, om + b, none⟩)
  | 8, _, v, _ => v = .int .i64 mb
  | 9, _, v, _ => v = .slice (some ⟨gm, om, none⟩) n cm
  | 10, _, v, _ => v = .int .i64 (a : Int)
  | 11, _, v, _ => v = .pointer (some ⟨gm, om + a, none⟩)
  | 12, _, v, _ => v = .int .i64 ma
  | 13, _, v, _ => v = .int .i64 (ma + 1)
  | 14, _, v, _ => v = .bool false
  | 15, _, v, _ => v = .bool false
  | _, _, _, _ => False
theorem spBr1_stable (tv : Value) (gm om n cm a b : Nat) (ma mb : Int) : ∀ i L v w w', spBr1 tv gm om n cm a b ma mb i L v w → Rs.Gr w w' → spBr1 tv gm om n cm a b ma mb i L v w' := by
  intro i L v w w' h hg
  match i with
  | 0 => exact h
  | 1 => exact h
  | 2 => exact h
  | 3 => exact h
  | 4 => exact h
  | 5 => exact h
  | 6 => exact h
  | 7 => exact h
  | 8 => exact h
  | 9 => exact h
  | 10 => exact h
  | 11 => exact h
  | 12 => exact h
  | 13 => exact h
  | 14 => exact h
  | 15 => exact h
def spBr0 (tv : Value) (gm om n cm a b : Nat) (ma mb : Int) : Nat → List Value → Value → World → Prop
  | 0, _, v, _ => v = tv
  | 1, _, v, _ => v = .int .i64 (a : Int)
  | 2, _, v, _ => v = .int .i64 (b : Int)
  | 3, _, v, _ => v = .bool false
  | 4, _, v, _ => v = .bool false
  | 5, _, v, _ => v = undef
  | 6, _, v, _ => v = undef
  | 7, _, v, _ => v = undef
  | 8, _, v, _ => v = undef
  | 9, _, v, _ => v = undef
  | 10, _, v, _ => v = undef
  | 11, _, v, _ => v = undef
  | 12, _, v, _ => v = undef
  | 13, _, v, _ => v = undef
  | 14, _, v, _ => v = undef
  | 15, _, v, _ => v = .bool false
  | _, _, _, _ => False
theorem spBr0_stable (tv : Value) (gm om n cm a b : Nat) (ma mb : Int) : ∀ i L v w w', spBr0 tv gm om n cm a b ma mb i L v w → Rs.Gr w w' → spBr0 tv gm om n cm a b ma mb i L v w' := by
  intro i L v w w' h hg
  match i with
  | 0 => exact h
  | 1 => exact h
  | 2 => exact h
  | 3 => exact h
  | 4 => exact h
  | 5 => exact h
  | 6 => exact h
  | 7 => exact h
  | 8 => exact h
  | 9 => exact h
  | 10 => exact h
  | 11 => exact h
  | 12 => exact h
  | 13 => exact h
  | 14 => exact h
  | 15 => exact h
set_option maxHeartbeats 16000000 in
set_option maxRecDepth 100000 in
theorem TextBroken_any (pn pq : Option Addr) (nn cn nq cq : Nat) (hnn : nn ≤ 9223372036854775807) (hnq : nq ≤ 9223372036854775807) (w : World) (hN : Bytes w pn nn) (hQ : Bytes w pq nq) :
    Calls Try.prog 9 #[.slice pn nn cn, .slice pq nq cq] w fun e w' => e = .returned (.bool true) ∧ Below w.heap.size w w' := by
  have hmf := mf
  obtain ⟨hb0, hm0⟩ := hang_made pn nn cn hnn w hN
  have HB0 := Lib.hid hb0
  have HM0 := Lib.hid hm0
  have HQ := Lib.hid hQ
  have hal := below1 w (.cells #[.slice pn nn cn, .int .i64 0, .int .u32 0] 159)
  have HAL := Lib.hid hal
  have hz1 : (w.alloc (.cells #[.slice pn nn cn, .int .i64 0, .int .u32 0] 159)).heap.size = w.heap.size + 1 := by simp
  clear hb0 hm0 hN hQ hal
  go_enter Try.func9, Try.ntmps9
  go_wp2_with fail
  refine (hang_any _ _ _ _).mono ?_
  rintro e w1 ⟨rfl, rfl⟩
  generalize w.alloc (.cells #[.slice pn nn cn, .int .i64 0, .int .u32 0] 159) = W1 at HB0 HM0 HAL hz1 ⊢
  go_wp2_with fail
  refine (made_ok (words := 10) (turns := 3) (by omega) (by omega) (by omega) _ HB0.out HM0.out).mono ?_
  rintro e W2 ⟨t, p, q, c, d, rfl, HT, HC, HD, HE, HOK, HW9, HT3, -, HH⟩
  have HQ2 := Lib.hid (HQ.out.below (HAL.out.trans (hold_below HH.out (by omega))))
  have HWA := Lib.hid (HAL.out.trans (hold_below HH.out (by omega)))
  have hwA : w.heap.size ≤ W2.heap.size := by have := HH.out.size; omega
  clear HB0 HM0 HAL HQ HH hz1
  have HT2 := Lib.hid (HT.out.below (below1 W2 (.cells #[.slice p t.words.length c, .slice q t.turns.length d, .int .i64 t.breath] 25)))
  have HQ3 := Lib.hid (HQ2.out.below (below1 W2 (.cells #[.slice p t.words.length c, .slice q t.turns.length d, .int .i64 t.breath] 25)))
  have HBX := Lib.hid (heap_last W2 (.cells #[.slice p t.words.length c, .slice q t.turns.length d, .int .i64 t.breath] 25))
  obtain ⟨T, hTT⟩ : ∃ T, T = W2.heap.size := ⟨_, rfl⟩
  have hz3 : (W2.alloc (.cells #[.slice p t.words.length c, .slice q t.turns.length d, .int .i64 t.breath] 25)).heap.size = T + 1 := by rw [hTT]; simp
  have HW3 := Lib.hid (HWA.out.trans ((below1 W2 (.cells #[.slice p t.words.length c, .slice q t.turns.length d, .int .i64 t.breath] 25)).mono hwA))
  rw [← hTT] at HBX hwA
  clear HT HQ2 HWA
  go_wp2_with fail
  rw [← hTT]
  clear hTT
  generalize W2.alloc (.cells #[.slice p t.words.length c, .slice q t.turns.length d, .int .i64 t.breath] 25) = W3 at HT2 HQ3 HBX hz3 HW3 ⊢
  refine (hang_any _ _ _ _).mono ?_
  rintro e w4 ⟨rfl, rfl⟩
  obtain ⟨hbq, hmq⟩ := hang_made pq nq cq hnq W3 HQ3.out
  have HBQ := Lib.hid hbq
  have HMQ := Lib.hid hmq
  have ha4 := below1 W3 (.cells #[.slice pq nq cq, .int .i64 0, .int .u32 0] 159)
  have HT4 := Lib.hid (HT2.out.below ha4)
  have HBX4 := Lib.hid ((ha4.block T (by omega)).trans HBX.out)
  have hz4 : (W3.alloc (.cells #[.slice pq nq cq, .int .i64 0, .int .u32 0] 159)).heap.size = T + 2 := by simp; omega
  have hB : W3.heap.size = T + 1 := hz3
  have HTT := Lib.hid (show ∀ W, Below (T + 1) W3 W → TxAt W t p q from fun W h => HT2.out.below (by rw [hB]; exact h))
  have HB34 := Lib.hid (show Below (T + 1) W3 (W3.alloc (.cells #[.slice pq nq cq, .int .i64 0, .int .u32 0] 159)) by rw [← hB]; exact ha4)
  rw [hB] at HBQ
  rw [hB]
  clear hbq hmq ha4 HQ3
  generalize W3.alloc (.cells #[.slice pq nq cq, .int .i64 0, .int .u32 0] 159) = W4 at HBQ HMQ HT4 HBX4 hz4 HB34 ⊢
  obtain ⟨k0, k1, k2⟩ := blk3 HBX4.out
  have hn9 : t.words.length ≤ 1000000 := by have := HW9.out; omega
  have hn3 : t.turns.length ≤ 1000000 := by have := HT3.out; omega
  have HPW := Lib.hid (show ∀ b o, p = some ⟨b, o, none⟩ → b ≠ T + 1 from fun b o e => by
    rcases HT2.out.words with h | ⟨b', o', e', l', _⟩
    · have := HOK.out.n1; rw [h] at this; simp at this
    · rw [e'] at e; injection e with e; injection e with e _ _; omega)
  clear hB hz3 HT2 HBX W2
  have HBR := Lib.hid (broken_ref HOK.out HE.out)
  have HMKS := Lib.hid (fun h => marks_show HOK.out HE.out h)
  have HML := Lib.hid (fun h => markL_len HOK.out h)
  have HMG := Lib.hid (fun h i hi => markL_get HOK.out h i hi)
  have HGI := Lib.hid (greatest_inv t.right t.words.length HOK.out.n12)
  have hn12 := HOK.out.n12
  have hn1 := HOK.out.n1
  rcases fewE_cases HOK.out HE.out with hfe | hfe
  · have HFE := Lib.hid hfe
    clear hfe
    rcases surE_cases HOK.out HE.out with hse | hse
    · have HSE := Lib.hid hse
      clear hse
      go_wp2_with fail
      refine (Fewest_any t hn9 hn3 p q c d HC.out _ HT4.out).mono ?_
      rintro e W5 ⟨v, rfl, hown, hB5⟩
      rw [HFE.out]
      obtain ⟨pf, cf, rfl, hF, -, -⟩ := own_rd hown rfl
      have HF := Lib.hid hF
      have HT5 := Lib.hid (HT4.out.below hB5)
      have HBX5 := Lib.hid ((hB5.block T (by omega)).trans HBX4.out)
      have hz5 := hB5.size
      have HB5 := Lib.hid hB5
      clear hown hF hB5 k0 k1 k2
      obtain ⟨k0, k1, k2⟩ := blk3 HBX5.out
      go_wp2_with fail
      refine (Marks_any t hn9 hn3 p q c d HC.out _ HT5.out).mono ?_
      rintro e W6 ⟨pm, cm, rfl, hM, hB6⟩
      rw [HFE.out]
      have HM := Lib.hid hM
      have HF6 := Lib.hid (HF.out.below hB6)
      have HT6 := Lib.hid (HT5.out.below hB6)
      have HBX6 := Lib.hid ((hB6.block T (by omega)).trans HBX5.out)
      have hz6 := hB6.size
      have HB6 := Lib.hid (join HB5.out hB6)
      clear hM hB6 HF HB5 k0 k1 k2 HBX5 HT5
      obtain ⟨k0, k1, k2⟩ := blk3 HBX6.out
      go_wp2_with fail
      refine (Surest_any t hn9 hn3 p q c d HC.out _ HT6.out).mono ?_
      rintro e W7 ⟨v, rfl, hown, hB7⟩
      rw [HSE.out]
      obtain ⟨ps, cs, rfl, hS, -, -⟩ := own_rd hown rfl
      have HS := Lib.hid hS
      have HF7 := Lib.hid (HF6.out.below hB7)
      have HM7 := Lib.hid (HM.out.below hB7)
      have HT7 := Lib.hid (HT6.out.below hB7)
      have HBX7 := Lib.hid ((hB7.block T (by omega)).trans HBX6.out)
      have hz7 := hB7.size
      have HB7 := Lib.hid (join HB6.out hB7)
      clear hown hS hB7 HF6 HB6 HM k0 k1 k2 HBX6 HT6
      obtain ⟨k0, k1, k2⟩ := blk3 HBX7.out
      go_wp2_with fail
      refine (Check_any t hn9 hn3 p q c d _ HT7.out).mono ?_
      rintro e W8 ⟨rfl, hB8⟩
      rw [HE.out]
      have HS8 := Lib.hid (HS.out.below hB8)
      have HF8 := Lib.hid (HF7.out.below hB8)
      have HM8 := Lib.hid (HM7.out.below hB8)
      have HT8 := Lib.hid (HT7.out.below hB8)
      have HBX8 := Lib.hid ((hB8.block T (by omega)).trans HBX7.out)
      have hz8 := hB8.size
      have HB8 := Lib.hid (join HB7.out hB8)
      have HBQ8 := Lib.hid (HBQ.out.below HB8.out)
      have HB38 := Lib.hid (HB34.out.trans (HB8.out.mono (by omega)))
      have HMQ8 := Lib.hid (show nq ≠ 0 → ∀ mb mo, pq = some ⟨mb, mo, none⟩ → mb < W8.heap.size from fun h mb mo e => Nat.lt_of_lt_of_le (HMQ.out h mb mo e) HB8.out.size)
      have hz58 : T + 2 ≤ W8.heap.size := by have := HB8.out.size; omega
      clear hB8 HS HF7 HM7 HT7 HBX7 HB7 HBQ HMQ HT4 HBX4 hz4 HB34 hz5 hz6 hz7 hz8 HB8 k0 k1 k2
      obtain ⟨hF1, hF2, hF3⟩ := HBR.out.few HFE.out
      have HPF := Lib.hid hF1
      have hsF : soundB t (fewL t) = true := by rw [sound_ok hF1]; exact hF2
      have HSF := Lib.hid hsF
      have hF10 : (fewL t).length ≤ 100000 := by have := parts_len2 hF1; omega
      obtain ⟨hany, hsh⟩ := HMKS.out HFE.out
      have HSH := Lib.hid hsh
      have HANY := Lib.hid hany
      have hml := HML.out HFE.out
      have HLML := Lib.hid hml
      rcases HM8.out with h0 | ⟨gm, om, rfl, hgm, hcm⟩
      · rw [h0] at hml; simp at hml
      have HCM := Lib.hid (show ∀ i, i ≤ t.words.length → W8.cell? ⟨gm, om + i, none⟩ = some (.int .i64 ((greatest t.right t.words.length).getD i 0)) from fun i hi => by
        rw [← HMG.out HFE.out i hi]; exact hcm i (by omega))
      have HG0 := Lib.hid (show (greatest t.right t.words.length).getD 0 0 = 0 from HGI.out.zero)
      have HGN := Lib.hid (show (greatest t.right t.words.length).getD t.words.length 0 = ((fewL t).length : Int) from by
        have h1 : fewL t = (Tx.fewest t.right t.words.length).1 := if_pos HE.out
        have h2 : fewE t = (Tx.fewest t.right t.words.length).2 := if_pos HE.out
        rw [h1]; exact (greatest_last hn1 hn12 (by rw [← h2]; exact HFE.out)).1)
      clear hF1 hF2 hF3 hsF hany hsh hml hcm HM8
      obtain ⟨k0, k1, k2⟩ := blk3 HBX8.out
      go_wp2_with fail
      refine (Shows_in t (markL t) HE.out HLML.out HANY.out p q (some ⟨gm, om, none⟩) c d cm HC.out _ HT8.out (.inr ⟨gm, om, rfl, hgm, fun i hi => by
        rw [HMG.out HFE.out i (by have := HLML.out; omega)]; exact HCM.out i (by have := HLML.out; omega)⟩)).mono ?_
      rintro e W9 ⟨rfl, hB9⟩
      rw [HSH.out]
      dsimp only
      have HT9 := Lib.hid (HT8.out.below hB9)
      have HF9 := Lib.hid (HF8.out.below hB9)
      have HBX9 := Lib.hid ((hB9.block T (by omega)).trans HBX8.out)
      have hz9 := hB9.size
      have HB9 := Lib.hid hB9
      have hnf : (((fewL t).length : Int) != ((fewL t).length : Int)) = false := by simp
      clear hB9 k0 k1 k2
      obtain ⟨k0, k1, k2⟩ := blk3 HBX9.out
      go_wp2_with fail
      refine (sound_any t HOK.out p q c d HC.out (fewL t) hF10 pf cf _ HT9.out HF9.out).mono ?_
      rintro e WA ⟨rfl, hBA⟩
      rw [HSF.out]
      have HBXA := Lib.hid ((hBA.block T (by omega)).trans HBX9.out)
      have HBA := Lib.hid (join HB9.out hBA)
      have hzA := hBA.size
      have hgA : gm < WA.heap.size := by omega
      have hc0 := (HBA.out.cell (p := ⟨gm, om + 0, none⟩) hgm).trans (HCM.out 0 (Nat.zero_le _))
      have hcn := (HBA.out.cell (p := ⟨gm, om + t.words.length, none⟩) hgm).trans (HCM.out t.words.length (Nat.le_refl _))
      rw [HG0.out, Nat.add_zero] at hc0
      rw [HGN.out] at hcn
      have hml2 : ((markL t).length : Int) = (t.words.length : Int) + 1 := by have := HLML.out; omega
      have hl0 : (0 : Int) < ((markL t).length : Int) := by omega
      have hln : (t.words.length : Int) < ((markL t).length : Int) := by omega
      have hl00 : 0 < (markL t).length := by omega
      have hlnn : t.words.length < (markL t).length := by omega
      have hll : (((markL t).length : Int) != (t.words.length : Int) + 1) = false := by rw [hml2]; simp
      clear hBA k0 k1 k2
      obtain ⟨k0, k1, k2⟩ := blk3 HBXA.out
      go_wp2_with fail
      clear hc0 hcn hml2 hl0 hln hl00 hlnn hll hnf
      go_loopw [124] (fun i wr => ∃ a : Nat, a ≤ t.words.length ∧ i = .int .i64 a ∧ Hid (Below WA.heap.size WA wr)) (fun i _ => t.words.length - (intOf i).toNat)
      case atStart => exact ⟨0, Nat.zero_le _, rfl, Lib.hid (Below.refl _ _)⟩
      case round => as_aux_lemma =>
        clear k0 k1 k2
        obtain ⟨wb, rfl⟩ : ∃ wb : World, wb = wr := ⟨_, rfl⟩
        obtain ⟨a, ha, rfl, HBb⟩ := hrel
        have hzb := HBb.out.size
        have HBXb := Lib.hid ((HBb.out.block T (by omega)).trans HBXA.out)
        obtain ⟨k0, k1, k2⟩ := blk3 HBXb.out
        by_cases han : a < t.words.length
        · have han' : (a : Int) < t.words.length := by omega
          go_wp2_with fail
          go_loopw [16] (fun i wr => ∃ b : Nat, a + 1 ≤ b ∧ b ≤ t.words.length + 1 ∧ i = .int .i64 b ∧ Hid (Below wb.heap.size wb wr)) (fun i _ => t.words.length + 1 - (intOf i).toNat)
          case atStart => exact ⟨a + 1, Nat.le_refl _, by omega, by go_num, Lib.hid (Below.refl _ _)⟩
          case round => as_aux_lemma =>
            clear k0 k1 k2
            obtain ⟨wc, rfl⟩ : ∃ wc : World, wc = wr := ⟨_, rfl⟩
            obtain ⟨b, hab, hbn, rfl, HBc⟩ := hrel
            have hzc := HBc.out.size
            have HTX := Lib.hid ((HBc.out.block T (by omega)).trans HBXb.out)
            obtain ⟨k0, k1, k2⟩ := blk3 HTX.out
            by_cases hble : b ≤ t.words.length
            · have hble' : (b : Int) ≤ t.words.length := by omega
              have HBw := Lib.hid (join HBA.out (join HBb.out HBc.out))
              have hTl : T < wc.heap.size := by omega
              have hgl : gm < wc.heap.size := by omega
              have HFT := Lib.hid (fun W (h : Below wc.heap.size wc W) => fits_any t HOK.out p q c d a b (by omega) hble HC.out W (HT8.out.below (join HBw.out h)))
              obtain ⟨ma, hma⟩ : ∃ ma, ma = (greatest t.right t.words.length).getD a 0 := ⟨_, rfl⟩
              obtain ⟨mb, hmb⟩ : ∃ mb, mb = (greatest t.right t.words.length).getD b 0 := ⟨_, rfl⟩
              have HCA := Lib.hid ((HBw.out.cell (p := ⟨gm, om + a, none⟩) hgm).trans (HCM.out a (by omega)))
              have HCB := Lib.hid ((HBw.out.cell (p := ⟨gm, om + b, none⟩) hgm).trans (HCM.out b hble))
              have hbd := HGI.out.bd a
              have hgain := fun h => greatest_nogain t.right t.words.length hn12 a b (by omega) hble h
              rw [← hma] at HCA hbd hgain
              rw [← hmb] at HCB hgain
              have hia : (a : Int) < ((t.words.length + 1 : Nat) : Int) := by omega
              have hib : (b : Int) < ((t.words.length + 1 : Nat) : Int) := by omega
              have hia2 : (a : Int) < (t.words.length : Int) + 1 := by omega
              have hib2 : (b : Int) < (t.words.length : Int) + 1 := by omega
              have hwr : IntKind.i64.wrap (ma + 1) = ma + 1 := IntWalk.i64_in _ (by omega)
              have hwr2 : wrap64 (ma + 1) = ma + 1 := by unfold wrap64; omega
              clear hma hmb
              rw [HLML.out]
              cases hrt : t.right a b with
              | true =>
                rw [hrt] at HFT
                have hng0 := hgain hrt
                have hng : ¬ mb > ma + 1 := by omega
                clear hgain hng0 hrt hbd
                go_wp2_with fail
                refine Rs.region_gen 16 [[], [], [], [0, 1, 2], [0, 1, 2, 3], [0, 1, 2, 3, 4], [0, 1, 2, 3, 4], [0, 1, 2, 3, 4, 5, 6], [0, 1, 2, 3, 4, 5, 6, 7], [0, 1, 2, 3, 4], [0, 1, 2, 3, 4], [0, 1, 2, 3, 4, 9, 10], [0, 1, 2, 3, 4, 9, 10, 11], [0, 1, 2, 3, 4, 9, 10, 11, 12], [0, 1, 2, 3, 4, 5, 6, 7, 8, 9, 10, 11, 12, 13], [0, 1, 2, 3, 4, 5, 6, 7, 8, 9, 10, 11, 12, 13, 14]] [some 136, some 137, some 138, some 139, some 140, some 141, some 142, some 143, some 144, some 145, some 146, some 147, some 148, some 149, some 150, some 151] (spBr1 (.agg #[.slice p t.words.length c, .slice q t.turns.length d, .int .i64 t.breath]) gm om (t.words.length + 1) cm a b ma mb) (by kernel_rfl) (by kernel_rfl) rfl (spBr1_stable _ _ _ _ _ _ _ _ _) ?_ ?_
                · refine ⟨fun V w' hG hs => ?_, fun V w' hG hs => ?_, fun V w' hG hs => ?_, fun V w' hG hs => ?_, fun V w' hG hs => ?_, fun V w' hG hs => ?_, fun V w' hG hs => ?_, fun V w' hG hs => ?_, fun V w' hG hs => ?_, fun V w' hG hs => ?_, fun V w' hG hs => ?_, fun V w' hG hs => ?_, fun V w' hG hs => ?_, fun V w' hG hs => ?_, fun V w' hG hs => ?_, fun V w' hG hs => ?_, trivial⟩
                  all_goals
                    obtain ⟨k0, k1, k2⟩ := blk3 ((hG.block T hTl).trans HTX.out)
                    have hca := (hG.cell (p := ⟨gm, om + a, none⟩) hgl).trans HCA.out
                    have hcb := (hG.cell (p := ⟨gm, om + b, none⟩) hgl).trans HCB.out
                  · rw [if_pos (by rfl)]
                    exact Rs.GrowL.value (v := (.agg #[.slice p t.words.length c, .slice q t.turns.length d, .int .i64 t.breath])) (w' := w') (by simp [go_sem, Rs.look, k0, k1, k2]) (Rs.Gr.refl _) rfl
                  · rw [if_pos (by rfl)]
                    exact Rs.GrowL.value (v := .int .i64 (a : Int)) (w' := w') (by simp [go_sem, Rs.look]) (Rs.Gr.refl _) rfl
                  · rw [if_pos (by rfl)]
                    exact Rs.GrowL.value (v := .int .i64 (b : Int)) (w' := w') (by simp [go_sem, Rs.look]) (Rs.Gr.refl _) rfl
                  · have e0 : V 0 = (.agg #[.slice p t.words.length c, .slice q t.turns.length d, .int .i64 t.breath]) := hs 0 (by simp)
                    have e1 : V 1 = .int .i64 (a : Int) := hs 1 (by simp)
                    have e2 : V 2 = .int .i64 (b : Int) := hs 2 (by simp)
                    rw [if_pos (by rfl)]
                    refine Rs.GrowL.call (f := 58) (args := #[.agg #[.slice p t.words.length c, .slice q t.turns.length d, .int .i64 t.breath], .int .i64 (a : Int), .int .i64 (b : Int)]) (by simp [go_sem, Rs.look, e0, e1, e2]) ?_
                    refine (HFT.out w' hG).mono ?_
                    rintro e w2 ⟨rfl, hB2⟩
                    exact ⟨_, rfl, hB2, rfl⟩
                  · have e0 : V 0 = (.agg #[.slice p t.words.length c, .slice q t.turns.length d, .int .i64 t.breath]) := hs 0 (by simp)
                    have e1 : V 1 = .int .i64 (a : Int) := hs 1 (by simp)
                    have e2 : V 2 = .int .i64 (b : Int) := hs 2 (by simp)
                    have e3 : V 3 = .bool true := hs 3 (by simp)
                    rw [if_pos (by rfl)]
                    exact Rs.GrowL.value (v := .bool true) (w' := w') (by simp [go_sem, Rs.look, e0, e1, e2, e3]) (Rs.Gr.refl _) rfl
                  · have e0 : V 0 = (.agg #[.slice p t.words.length c, .slice q t.turns.length d, .int .i64 t.breath]) := hs 0 (by simp)
                    have e1 : V 1 = .int .i64 (a : Int) := hs 1 (by simp)
                    have e2 : V 2 = .int .i64 (b : Int) := hs 2 (by simp)
                    have e3 : V 3 = .bool true := hs 3 (by simp)
                    have e4 : V 4 = .bool true := hs 4 (by simp)
                    rw [if_pos (by simp [Rs.wantB, e4])]
                    exact Rs.GrowL.value (v := .slice (some ⟨gm, om, none⟩) (t.words.length + 1) cm) (w' := w') (by simp [go_sem, Rs.look, e0, e1, e2, e3, e4]) (Rs.Gr.refl _) rfl
                  · have e0 : V 0 = (.agg #[.slice p t.words.length c, .slice q t.turns.length d, .int .i64 t.breath]) := hs 0 (by simp)
                    have e1 : V 1 = .int .i64 (a : Int) := hs 1 (by simp)
                    have e2 : V 2 = .int .i64 (b : Int) := hs 2 (by simp)
                    have e3 : V 3 = .bool true := hs 3 (by simp)
                    have e4 : V 4 = .bool true := hs 4 (by simp)
                    rw [if_pos (by simp [Rs.wantB, e4])]
                    exact Rs.GrowL.value (v := .int .i64 (b : Int)) (w' := w') (by simp [go_sem, Rs.look, e0, e1, e2, e3, e4]) (Rs.Gr.refl _) rfl
                  · have e0 : V 0 = (.agg #[.slice p t.words.length c, .slice q t.turns.length d, .int .i64 t.breath]) := hs 0 (by simp)
                    have e1 : V 1 = .int .i64 (a : Int) := hs 1 (by simp)
                    have e2 : V 2 = .int .i64 (b : Int) := hs 2 (by simp)
                    have e3 : V 3 = .bool true := hs 3 (by simp)
                    have e4 : V 4 = .bool true := hs 4 (by simp)
                    have e5 : V 5 = .slice (some ⟨gm, om, none⟩) (t.words.length + 1) cm := hs 5 (by simp)
                    have e6 : V 6 = .int .i64 (b : Int) := hs 6 (by simp)
                    rw [if_pos (by simp [Rs.wantB, e4])]
                    exact Rs.GrowL.value (v := .pointer (some ⟨gm, om + b, none⟩)) (w' := w') (by simp [go_sem, Rs.look, e0, e1, e2, e3, e4, e5, e6, hib, hib2]) (Rs.Gr.refl _) rfl
                  · have e0 : V 0 = (.agg #[.slice p t.words.length c, .slice q t.turns.length d, .int .i64 t.breath]) := hs 0 (by simp)
                    have e1 : V 1 = .int .i64 (a : Int) := hs 1 (by simp)
                    have e2 : V 2 = .int .i64 (b : Int) := hs 2 (by simp)
                    have e3 : V 3 = .bool true := hs 3 (by simp)
                    have e4 : V 4 = .bool true := hs 4 (by simp)
                    have e5 : V 5 = .slice (some ⟨gm, om, none⟩) (t.words.length + 1) cm := hs 5 (by simp)
                    have e6 : V 6 = .int .i64 (b : Int) := hs 6 (by simp)
                    have e7 : V 7 = .pointer (some ⟨gm, om + b, none⟩) := hs 7 (by simp)
                    rw [if_pos (by simp [Rs.wantB, e4])]
                    exact Rs.GrowL.value (v := .int .i64 mb) (w' := w') (by simp [go_sem, Rs.look, e0, e1, e2, e3, e4, e5, e6, e7, hcb]) (Rs.Gr.refl _) rfl
                  · have e0 : V 0 = (.agg #[.slice p t.words.length c, .slice q t.turns.length d, .int .i64 t.breath]) := hs 0 (by simp)
                    have e1 : V 1 = .int .i64 (a : Int) := hs 1 (by simp)
                    have e2 : V 2 = .int .i64 (b : Int) := hs 2 (by simp)
                    have e3 : V 3 = .bool true := hs 3 (by simp)
                    have e4 : V 4 = .bool true := hs 4 (by simp)
                    rw [if_pos (by simp [Rs.wantB, e4])]
                    exact Rs.GrowL.value (v := .slice (some ⟨gm, om, none⟩) (t.words.length + 1) cm) (w' := w') (by simp [go_sem, Rs.look, e0, e1, e2, e3, e4]) (Rs.Gr.refl _) rfl
                  · have e0 : V 0 = (.agg #[.slice p t.words.length c, .slice q t.turns.length d, .int .i64 t.breath]) := hs 0 (by simp)
                    have e1 : V 1 = .int .i64 (a : Int) := hs 1 (by simp)
                    have e2 : V 2 = .int .i64 (b : Int) := hs 2 (by simp)
                    have e3 : V 3 = .bool true := hs 3 (by simp)
                    have e4 : V 4 = .bool true := hs 4 (by simp)
                    rw [if_pos (by simp [Rs.wantB, e4])]
                    exact Rs.GrowL.value (v := .int .i64 (a : Int)) (w' := w') (by simp [go_sem, Rs.look, e0, e1, e2, e3, e4]) (Rs.Gr.refl _) rfl
                  · have e0 : V 0 = (.agg #[.slice p t.words.length c, .slice q t.turns.length d, .int .i64 t.breath]) := hs 0 (by simp)
                    have e1 : V 1 = .int .i64 (a : Int) := hs 1 (by simp)
                    have e2 : V 2 = .int .i64 (b : Int) := hs 2 (by simp)
                    have e3 : V 3 = .bool true := hs 3 (by simp)
                    have e4 : V 4 = .bool true := hs 4 (by simp)
                    have e9 : V 9 = .slice (some ⟨gm, om, none⟩) (t.words.length + 1) cm := hs 9 (by simp)
                    have e10 : V 10 = .int .i64 (a : Int) := hs 10 (by simp)
                    rw [if_pos (by simp [Rs.wantB, e4])]
                    exact Rs.GrowL.value (v := .pointer (some ⟨gm, om + a, none⟩)) (w' := w') (by simp [go_sem, Rs.look, e0, e1, e2, e3, e4, e9, e10, hia, hia2]) (Rs.Gr.refl _) rfl
                  · have e0 : V 0 = (.agg #[.slice p t.words.length c, .slice q t.turns.length d, .int .i64 t.breath]) := hs 0 (by simp)
                    have e1 : V 1 = .int .i64 (a : Int) := hs 1 (by simp)
                    have e2 : V 2 = .int .i64 (b : Int) := hs 2 (by simp)
                    have e3 : V 3 = .bool true := hs 3 (by simp)
                    have e4 : V 4 = .bool true := hs 4 (by simp)
                    have e9 : V 9 = .slice (some ⟨gm, om, none⟩) (t.words.length + 1) cm := hs 9 (by simp)
                    have e10 : V 10 = .int .i64 (a : Int) := hs 10 (by simp)
                    have e11 : V 11 = .pointer (some ⟨gm, om + a, none⟩) := hs 11 (by simp)
                    rw [if_pos (by simp [Rs.wantB, e4])]
                    exact Rs.GrowL.value (v := .int .i64 ma) (w' := w') (by simp [go_sem, Rs.look, e0, e1, e2, e3, e4, e9, e10, e11, hca]) (Rs.Gr.refl _) rfl
                  · have e0 : V 0 = (.agg #[.slice p t.words.length c, .slice q t.turns.length d, .int .i64 t.breath]) := hs 0 (by simp)
                    have e1 : V 1 = .int .i64 (a : Int) := hs 1 (by simp)
                    have e2 : V 2 = .int .i64 (b : Int) := hs 2 (by simp)
                    have e3 : V 3 = .bool true := hs 3 (by simp)
                    have e4 : V 4 = .bool true := hs 4 (by simp)
                    have e9 : V 9 = .slice (some ⟨gm, om, none⟩) (t.words.length + 1) cm := hs 9 (by simp)
                    have e10 : V 10 = .int .i64 (a : Int) := hs 10 (by simp)
                    have e11 : V 11 = .pointer (some ⟨gm, om + a, none⟩) := hs 11 (by simp)
                    have e12 : V 12 = .int .i64 ma := hs 12 (by simp)
                    rw [if_pos (by simp [Rs.wantB, e4])]
                    exact Rs.GrowL.value (v := .int .i64 (ma + 1)) (w' := w') (by simp [go_sem, Rs.look, e0, e1, e2, e3, e4, e9, e10, e11, e12, hwr]) (Rs.Gr.refl _) rfl
                  · have e0 : V 0 = (.agg #[.slice p t.words.length c, .slice q t.turns.length d, .int .i64 t.breath]) := hs 0 (by simp)
                    have e1 : V 1 = .int .i64 (a : Int) := hs 1 (by simp)
                    have e2 : V 2 = .int .i64 (b : Int) := hs 2 (by simp)
                    have e3 : V 3 = .bool true := hs 3 (by simp)
                    have e4 : V 4 = .bool true := hs 4 (by simp)
                    have e5 : V 5 = .slice (some ⟨gm, om, none⟩) (t.words.length + 1) cm := hs 5 (by simp)
                    have e6 : V 6 = .int .i64 (b : Int) := hs 6 (by simp)
                    have e7 : V 7 = .pointer (some ⟨gm, om + b, none⟩) := hs 7 (by simp)
                    have e8 : V 8 = .int .i64 mb := hs 8 (by simp)
                    have e9 : V 9 = .slice (some ⟨gm, om, none⟩) (t.words.length + 1) cm := hs 9 (by simp)
                    have e10 : V 10 = .int .i64 (a : Int) := hs 10 (by simp)
                    have e11 : V 11 = .pointer (some ⟨gm, om + a, none⟩) := hs 11 (by simp)
                    have e12 : V 12 = .int .i64 ma := hs 12 (by simp)
                    have e13 : V 13 = .int .i64 (ma + 1) := hs 13 (by simp)
                    rw [if_pos (by simp [Rs.wantB, e4])]
                    exact Rs.GrowL.value (v := .bool false) (w' := w') (by simp [go_sem, Rs.look, e0, e1, e2, e3, e4, e5, e6, e7, e8, e9, e10, e11, e12, e13, hng]) (Rs.Gr.refl _) rfl
                  · have e0 : V 0 = (.agg #[.slice p t.words.length c, .slice q t.turns.length d, .int .i64 t.breath]) := hs 0 (by simp)
                    have e1 : V 1 = .int .i64 (a : Int) := hs 1 (by simp)
                    have e2 : V 2 = .int .i64 (b : Int) := hs 2 (by simp)
                    have e3 : V 3 = .bool true := hs 3 (by simp)
                    have e4 : V 4 = .bool true := hs 4 (by simp)
                    have e5 : V 5 = .slice (some ⟨gm, om, none⟩) (t.words.length + 1) cm := hs 5 (by simp)
                    have e6 : V 6 = .int .i64 (b : Int) := hs 6 (by simp)
                    have e7 : V 7 = .pointer (some ⟨gm, om + b, none⟩) := hs 7 (by simp)
                    have e8 : V 8 = .int .i64 mb := hs 8 (by simp)
                    have e9 : V 9 = .slice (some ⟨gm, om, none⟩) (t.words.length + 1) cm := hs 9 (by simp)
                    have e10 : V 10 = .int .i64 (a : Int) := hs 10 (by simp)
                    have e11 : V 11 = .pointer (some ⟨gm, om + a, none⟩) := hs 11 (by simp)
                    have e12 : V 12 = .int .i64 ma := hs 12 (by simp)
                    have e13 : V 13 = .int .i64 (ma + 1) := hs 13 (by simp)
                    have e14 : V 14 = .bool false := hs 14 (by simp)
                    rw [if_pos (by rfl)]
                    exact Rs.GrowL.value (v := .bool false) (w' := w') (by simp [go_sem, Rs.look, e0, e1, e2, e3, e4, e5, e6, e7, e8, e9, e10, e11, e12, e13, e14]) (Rs.Gr.refl _) rfl
                · intro V w' hG hs
                  have e0 : V 0 = (.agg #[.slice p t.words.length c, .slice q t.turns.length d, .int .i64 t.breath]) := hs 0 (by omega)
                  have e1 : V 1 = .int .i64 (a : Int) := hs 1 (by omega)
                  have e2 : V 2 = .int .i64 (b : Int) := hs 2 (by omega)
                  have e3 : V 3 = .bool true := hs 3 (by omega)
                  have e4 : V 4 = .bool true := hs 4 (by omega)
                  have e5 : V 5 = .slice (some ⟨gm, om, none⟩) (t.words.length + 1) cm := hs 5 (by omega)
                  have e6 : V 6 = .int .i64 (b : Int) := hs 6 (by omega)
                  have e7 : V 7 = .pointer (some ⟨gm, om + b, none⟩) := hs 7 (by omega)
                  have e8 : V 8 = .int .i64 mb := hs 8 (by omega)
                  have e9 : V 9 = .slice (some ⟨gm, om, none⟩) (t.words.length + 1) cm := hs 9 (by omega)
                  have e10 : V 10 = .int .i64 (a : Int) := hs 10 (by omega)
                  have e11 : V 11 = .pointer (some ⟨gm, om + a, none⟩) := hs 11 (by omega)
                  have e12 : V 12 = .int .i64 ma := hs 12 (by omega)
                  have e13 : V 13 = .int .i64 (ma + 1) := hs 13 (by omega)
                  have e14 : V 14 = .bool false := hs 14 (by omega)
                  have e15 : V 15 = .bool false := hs 15 (by omega)
                  simp only [Rs.canon, Rs.dstOf, List.range_succ, List.range_zero, List.nil_append, List.cons_append, List.foldl_cons, List.foldl_nil, List.drop_succ_cons, List.drop_zero, List.drop_nil, List.getElem?_toArray, List.getElem?_cons_succ, List.getElem?_cons_zero, Option.bind_some, List.getD_cons_succ, List.getD_cons_zero]
                  rw [e0, e1, e2, e3, e4, e5, e6, e7, e8, e9, e10, e11, e12, e13, e14, e15]
                  go_frame
                  clear e0 e1 e2 e3 e4 e5 e6 e7 e8 e9 e10 e11 e12 e13 e14 e15 hs
                  have HGG := Lib.hid (join HBc.out hG)
                  clear hG hng hwr hwr2 hia hib hia2 hib2
                  go_wp2
                  go_roundw
                  case rel => exact ⟨b + 1, by omega, by omega, by go_num, HGG⟩
                  case measure => simp [intOf]; omega
              | false =>
                rw [hrt] at HFT
                clear hgain hrt hbd
                go_wp2_with fail
                refine Rs.region_gen 16 [[], [], [], [0, 1, 2], [0, 1, 2, 3], [0, 1, 2, 3, 4], [0, 1, 2, 3, 4], [0, 1, 2, 3, 4, 5, 6], [0, 1, 2, 3, 4, 5, 6, 7], [0, 1, 2, 3, 4], [0, 1, 2, 3, 4], [0, 1, 2, 3, 4, 9, 10], [0, 1, 2, 3, 4, 9, 10, 11], [0, 1, 2, 3, 4, 9, 10, 11, 12], [0, 1, 2, 3, 4, 5, 6, 7, 8, 9, 10, 11, 12, 13], [0, 1, 2, 3, 4, 5, 6, 7, 8, 9, 10, 11, 12, 13, 14]] [some 136, some 137, some 138, some 139, some 140, some 141, some 142, some 143, some 144, some 145, some 146, some 147, some 148, some 149, some 150, some 151] (spBr0 (.agg #[.slice p t.words.length c, .slice q t.turns.length d, .int .i64 t.breath]) gm om (t.words.length + 1) cm a b ma mb) (by kernel_rfl) (by kernel_rfl) rfl (spBr0_stable _ _ _ _ _ _ _ _ _) ?_ ?_
                · refine ⟨fun V w' hG hs => ?_, fun V w' hG hs => ?_, fun V w' hG hs => ?_, fun V w' hG hs => ?_, fun V w' hG hs => ?_, fun V w' hG hs => ?_, fun V w' hG hs => ?_, fun V w' hG hs => ?_, fun V w' hG hs => ?_, fun V w' hG hs => ?_, fun V w' hG hs => ?_, fun V w' hG hs => ?_, fun V w' hG hs => ?_, fun V w' hG hs => ?_, fun V w' hG hs => ?_, fun V w' hG hs => ?_, trivial⟩
                  all_goals
                    obtain ⟨k0, k1, k2⟩ := blk3 ((hG.block T hTl).trans HTX.out)
                    have hca := (hG.cell (p := ⟨gm, om + a, none⟩) hgl).trans HCA.out
                    have hcb := (hG.cell (p := ⟨gm, om + b, none⟩) hgl).trans HCB.out
                  · rw [if_pos (by rfl)]
                    exact Rs.GrowL.value (v := (.agg #[.slice p t.words.length c, .slice q t.turns.length d, .int .i64 t.breath])) (w' := w') (by simp [go_sem, Rs.look, k0, k1, k2]) (Rs.Gr.refl _) rfl
                  · rw [if_pos (by rfl)]
                    exact Rs.GrowL.value (v := .int .i64 (a : Int)) (w' := w') (by simp [go_sem, Rs.look]) (Rs.Gr.refl _) rfl
                  · rw [if_pos (by rfl)]
                    exact Rs.GrowL.value (v := .int .i64 (b : Int)) (w' := w') (by simp [go_sem, Rs.look]) (Rs.Gr.refl _) rfl
                  · have e0 : V 0 = (.agg #[.slice p t.words.length c, .slice q t.turns.length d, .int .i64 t.breath]) := hs 0 (by simp)
                    have e1 : V 1 = .int .i64 (a : Int) := hs 1 (by simp)
                    have e2 : V 2 = .int .i64 (b : Int) := hs 2 (by simp)
                    rw [if_pos (by rfl)]
                    refine Rs.GrowL.call (f := 58) (args := #[.agg #[.slice p t.words.length c, .slice q t.turns.length d, .int .i64 t.breath], .int .i64 (a : Int), .int .i64 (b : Int)]) (by simp [go_sem, Rs.look, e0, e1, e2]) ?_
                    refine (HFT.out w' hG).mono ?_
                    rintro e w2 ⟨rfl, hB2⟩
                    exact ⟨_, rfl, hB2, rfl⟩
                  · have e0 : V 0 = (.agg #[.slice p t.words.length c, .slice q t.turns.length d, .int .i64 t.breath]) := hs 0 (by simp)
                    have e1 : V 1 = .int .i64 (a : Int) := hs 1 (by simp)
                    have e2 : V 2 = .int .i64 (b : Int) := hs 2 (by simp)
                    have e3 : V 3 = .bool false := hs 3 (by simp)
                    rw [if_pos (by rfl)]
                    exact Rs.GrowL.value (v := .bool false) (w' := w') (by simp [go_sem, Rs.look, e0, e1, e2, e3]) (Rs.Gr.refl _) rfl
                  · have e0 : V 0 = (.agg #[.slice p t.words.length c, .slice q t.turns.length d, .int .i64 t.breath]) := hs 0 (by simp)
                    have e1 : V 1 = .int .i64 (a : Int) := hs 1 (by simp)
                    have e2 : V 2 = .int .i64 (b : Int) := hs 2 (by simp)
                    have e3 : V 3 = .bool false := hs 3 (by simp)
                    have e4 : V 4 = .bool false := hs 4 (by simp)
                    rw [if_neg (by simp [Rs.wantB, e4])]
                    rfl
                  · have e0 : V 0 = (.agg #[.slice p t.words.length c, .slice q t.turns.length d, .int .i64 t.breath]) := hs 0 (by simp)
                    have e1 : V 1 = .int .i64 (a : Int) := hs 1 (by simp)
                    have e2 : V 2 = .int .i64 (b : Int) := hs 2 (by simp)
                    have e3 : V 3 = .bool false := hs 3 (by simp)
                    have e4 : V 4 = .bool false := hs 4 (by simp)
                    rw [if_neg (by simp [Rs.wantB, e4])]
                    rfl
                  · have e0 : V 0 = (.agg #[.slice p t.words.length c, .slice q t.turns.length d, .int .i64 t.breath]) := hs 0 (by simp)
                    have e1 : V 1 = .int .i64 (a : Int) := hs 1 (by simp)
                    have e2 : V 2 = .int .i64 (b : Int) := hs 2 (by simp)
                    have e3 : V 3 = .bool false := hs 3 (by simp)
                    have e4 : V 4 = .bool false := hs 4 (by simp)
                    have e5 : V 5 = undef := hs 5 (by simp)
                    have e6 : V 6 = undef := hs 6 (by simp)
                    rw [if_neg (by simp [Rs.wantB, e4])]
                    rfl
                  · have e0 : V 0 = (.agg #[.slice p t.words.length c, .slice q t.turns.length d, .int .i64 t.breath]) := hs 0 (by simp)
                    have e1 : V 1 = .int .i64 (a : Int) := hs 1 (by simp)
                    have e2 : V 2 = .int .i64 (b : Int) := hs 2 (by simp)
                    have e3 : V 3 = .bool false := hs 3 (by simp)
                    have e4 : V 4 = .bool false := hs 4 (by simp)
                    have e5 : V 5 = undef := hs 5 (by simp)
                    have e6 : V 6 = undef := hs 6 (by simp)
                    have e7 : V 7 = undef := hs 7 (by simp)
                    rw [if_neg (by simp [Rs.wantB, e4])]
                    rfl
                  · have e0 : V 0 = (.agg #[.slice p t.words.length c, .slice q t.turns.length d, .int .i64 t.breath]) := hs 0 (by simp)
                    have e1 : V 1 = .int .i64 (a : Int) := hs 1 (by simp)
                    have e2 : V 2 = .int .i64 (b : Int) := hs 2 (by simp)
                    have e3 : V 3 = .bool false := hs 3 (by simp)
                    have e4 : V 4 = .bool false := hs 4 (by simp)
                    rw [if_neg (by simp [Rs.wantB, e4])]
                    rfl
                  · have e0 : V 0 = (.agg #[.slice p t.words.length c, .slice q t.turns.length d, .int .i64 t.breath]) := hs 0 (by simp)
                    have e1 : V 1 = .int .i64 (a : Int) := hs 1 (by simp)
                    have e2 : V 2 = .int .i64 (b : Int) := hs 2 (by simp)
                    have e3 : V 3 = .bool false := hs 3 (by simp)
                    have e4 : V 4 = .bool false := hs 4 (by simp)
                    rw [if_neg (by simp [Rs.wantB, e4])]
                    rfl
                  · have e0 : V 0 = (.agg #[.slice p t.words.length c, .slice q t.turns.length d, .int .i64 t.breath]) := hs 0 (by simp)
                    have e1 : V 1 = .int .i64 (a : Int) := hs 1 (by simp)
                    have e2 : V 2 = .int .i64 (b : Int) := hs 2 (by simp)
                    have e3 : V 3 = .bool false := hs 3 (by simp)
                    have e4 : V 4 = .bool false := hs 4 (by simp)
                    have e9 : V 9 = undef := hs 9 (by simp)
                    have e10 : V 10 = undef := hs 10 (by simp)
                    rw [if_neg (by simp [Rs.wantB, e4])]
                    rfl
                  · have e0 : V 0 = (.agg #[.slice p t.words.length c, .slice q t.turns.length d, .int .i64 t.breath]) := hs 0 (by simp)
                    have e1 : V 1 = .int .i64 (a : Int) := hs 1 (by simp)
                    have e2 : V 2 = .int .i64 (b : Int) := hs 2 (by simp)
                    have e3 : V 3 = .bool false := hs 3 (by simp)
                    have e4 : V 4 = .bool false := hs 4 (by simp)
                    have e9 : V 9 = undef := hs 9 (by simp)
                    have e10 : V 10 = undef := hs 10 (by simp)
                    have e11 : V 11 = undef := hs 11 (by simp)
                    rw [if_neg (by simp [Rs.wantB, e4])]
                    rfl
                  · have e0 : V 0 = (.agg #[.slice p t.words.length c, .slice q t.turns.length d, .int .i64 t.breath]) := hs 0 (by simp)
                    have e1 : V 1 = .int .i64 (a : Int) := hs 1 (by simp)
                    have e2 : V 2 = .int .i64 (b : Int) := hs 2 (by simp)
                    have e3 : V 3 = .bool false := hs 3 (by simp)
                    have e4 : V 4 = .bool false := hs 4 (by simp)
                    have e9 : V 9 = undef := hs 9 (by simp)
                    have e10 : V 10 = undef := hs 10 (by simp)
                    have e11 : V 11 = undef := hs 11 (by simp)
                    have e12 : V 12 = undef := hs 12 (by simp)
                    rw [if_neg (by simp [Rs.wantB, e4])]
                    rfl
                  · have e0 : V 0 = (.agg #[.slice p t.words.length c, .slice q t.turns.length d, .int .i64 t.breath]) := hs 0 (by simp)
                    have e1 : V 1 = .int .i64 (a : Int) := hs 1 (by simp)
                    have e2 : V 2 = .int .i64 (b : Int) := hs 2 (by simp)
                    have e3 : V 3 = .bool false := hs 3 (by simp)
                    have e4 : V 4 = .bool false := hs 4 (by simp)
                    have e5 : V 5 = undef := hs 5 (by simp)
                    have e6 : V 6 = undef := hs 6 (by simp)
                    have e7 : V 7 = undef := hs 7 (by simp)
                    have e8 : V 8 = undef := hs 8 (by simp)
                    have e9 : V 9 = undef := hs 9 (by simp)
                    have e10 : V 10 = undef := hs 10 (by simp)
                    have e11 : V 11 = undef := hs 11 (by simp)
                    have e12 : V 12 = undef := hs 12 (by simp)
                    have e13 : V 13 = undef := hs 13 (by simp)
                    rw [if_neg (by simp [Rs.wantB, e4])]
                    rfl
                  · have e0 : V 0 = (.agg #[.slice p t.words.length c, .slice q t.turns.length d, .int .i64 t.breath]) := hs 0 (by simp)
                    have e1 : V 1 = .int .i64 (a : Int) := hs 1 (by simp)
                    have e2 : V 2 = .int .i64 (b : Int) := hs 2 (by simp)
                    have e3 : V 3 = .bool false := hs 3 (by simp)
                    have e4 : V 4 = .bool false := hs 4 (by simp)
                    have e5 : V 5 = undef := hs 5 (by simp)
                    have e6 : V 6 = undef := hs 6 (by simp)
                    have e7 : V 7 = undef := hs 7 (by simp)
                    have e8 : V 8 = undef := hs 8 (by simp)
                    have e9 : V 9 = undef := hs 9 (by simp)
                    have e10 : V 10 = undef := hs 10 (by simp)
                    have e11 : V 11 = undef := hs 11 (by simp)
                    have e12 : V 12 = undef := hs 12 (by simp)
                    have e13 : V 13 = undef := hs 13 (by simp)
                    have e14 : V 14 = undef := hs 14 (by simp)
                    rw [if_pos (by rfl)]
                    exact Rs.GrowL.value (v := .bool false) (w' := w') (by simp [go_sem, Rs.look, e0, e1, e2, e3, e4, e5, e6, e7, e8, e9, e10, e11, e12, e13, e14]) (Rs.Gr.refl _) rfl
                · intro V w' hG hs
                  have e0 : V 0 = (.agg #[.slice p t.words.length c, .slice q t.turns.length d, .int .i64 t.breath]) := hs 0 (by omega)
                  have e1 : V 1 = .int .i64 (a : Int) := hs 1 (by omega)
                  have e2 : V 2 = .int .i64 (b : Int) := hs 2 (by omega)
                  have e3 : V 3 = .bool false := hs 3 (by omega)
                  have e4 : V 4 = .bool false := hs 4 (by omega)
                  have e5 : V 5 = undef := hs 5 (by omega)
                  have e6 : V 6 = undef := hs 6 (by omega)
                  have e7 : V 7 = undef := hs 7 (by omega)
                  have e8 : V 8 = undef := hs 8 (by omega)
                  have e9 : V 9 = undef := hs 9 (by omega)
                  have e10 : V 10 = undef := hs 10 (by omega)
                  have e11 : V 11 = undef := hs 11 (by omega)
                  have e12 : V 12 = undef := hs 12 (by omega)
                  have e13 : V 13 = undef := hs 13 (by omega)
                  have e14 : V 14 = undef := hs 14 (by omega)
                  have e15 : V 15 = .bool false := hs 15 (by omega)
                  simp only [Rs.canon, Rs.dstOf, List.range_succ, List.range_zero, List.nil_append, List.cons_append, List.foldl_cons, List.foldl_nil, List.drop_succ_cons, List.drop_zero, List.drop_nil, List.getElem?_toArray, List.getElem?_cons_succ, List.getElem?_cons_zero, Option.bind_some, List.getD_cons_succ, List.getD_cons_zero]
                  rw [e0, e1, e2, e3, e4, e5, e6, e7, e8, e9, e10, e11, e12, e13, e14, e15]
                  go_frame
                  clear e0 e1 e2 e3 e4 e5 e6 e7 e8 e9 e10 e11 e12 e13 e14 e15 hs
                  have HGG := Lib.hid (join HBc.out hG)
                  clear hG hwr hwr2 hia hib hia2 hib2
                  go_wp2
                  go_roundw
                  case rel => exact ⟨b + 1, by omega, by omega, by go_num, HGG⟩
                  case measure => simp [intOf]; omega
            · go_wp2
              go_roundw
              case rel => exact ⟨a + 1, by omega, by go_num, Lib.hid (join HBb.out HBc.out)⟩
              case measure => simp [intOf]; omega
        · have HBW := Lib.hid (join HBA.out HBb.out)
          have HTW := Lib.hid (HT8.out.below HBW.out)
          have HFW := Lib.hid (HF8.out.below HBW.out)
          have HSW := Lib.hid (HS8.out.below HBW.out)
          have HBXW := Lib.hid ((HBW.out.block T (by omega)).trans HBX8.out)
          have hzW := HBW.out.size
          obtain ⟨hS1, hS2, hS3, -⟩ := HBR.out.sur HSE.out
          have HPS := Lib.hid hS1
          have hsS : soundB t (surL t) = true := by rw [sound_ok hS1]; exact hS2
          have HSS := Lib.hid hsS
          have hsP : sureP t.turns (plcL t.words.length (surL t)) = true := by rw [plc_ok hS1]; exact hS3
          have HSP := Lib.hid hsP
          have hS10 : (surL t).length ≤ 100000 := by have := parts_len2 hS1; omega
          have hFS := (HBR.out.few HFE.out).2.2 _ hS1 hS2
          have hFS2 : ¬ ((surL t).length : Int) < ((fewL t).length : Int) := by omega
          have hFS3 : ¬ (surL t).length < (fewL t).length := by omega
          clear hS1 hS2 hS3 hsS hsP
          go_wp2_with fail
          refine (sound_any t HOK.out p q c d HC.out (surL t) hS10 ps cs _ HTW.out HSW.out).mono ?_
          rintro e wd ⟨rfl, hBd⟩
          rw [HSS.out]
          have HTd := Lib.hid (HTW.out.below hBd)
          have HSd := Lib.hid (HSW.out.below hBd)
          have HBXd := Lib.hid ((hBd.block T (by omega)).trans HBXW.out)
          have HBd := Lib.hid (join HBW.out hBd)
          have hzd := hBd.size
          clear hBd k0 k1 k2
          obtain ⟨k0, k1, k2⟩ := blk3 HBXd.out
          go_wp2_with fail
          refine (sure_any t HOK.out p q c d (surL t) hS10 ps cs _ HTd.out HSd.out).mono ?_
          rintro e we ⟨rfl, hBe⟩
          rw [HSP.out]
          have HBXe := Lib.hid ((hBe.block T (by omega)).trans HBXd.out)
          have HBe := Lib.hid (join HBd.out hBe)
          have hze := hBe.size
          clear hBe k0 k1 k2
          obtain ⟨k0, k1, k2⟩ := blk3 HBXe.out
          go_wp2_with fail
          clear hFS2 hFS hFS3
          go_loopw [174] (fun i wr => ∃ k : Nat, k ≤ 10 ∧ i = .int .i64 k ∧ Hid (BellOk wr (T + 1) pq nq cq) ∧ Hid (Hold (fun k => k ≠ T + 1) W8 wr)) (fun i _ => 10 - (intOf i).toNat)
          case atStart => exact ⟨0, by omega, rfl, Lib.hid (HBQ8.out.below HBe.out), Lib.hid (Hold.below HBe.out)⟩
          case round => as_aux_lemma =>
            clear k0 k1 k2
            obtain ⟨w3, rfl⟩ : ∃ w3 : World, w3 = wr := ⟨_, rfl⟩
            obtain ⟨k, hk, rfl, HB3, HH3⟩ := hrel
            have hz3 := HH3.out.size
            have HTx := Lib.hid (HTT.out _ (HB38.out.trans (hold_below HH3.out (by omega))))
            have HBX := Lib.hid ((HH3.out.same T (show T ≠ T + 1 by omega) (by omega)).trans HBX8.out)
            obtain ⟨k0, k1, k2⟩ := blk3 HBX.out
            by_cases hlt : k < 10
            · have hlt' : (k : Int) < 10 := by omega
              go_wp2_with fail
              refine (tried_any (T + 1) pq nq cq t.words HOK.out.n1 (by omega) (.slice q t.turns.length d) (.int .i64 t.breath) p c _ HB3.out (fun h mb mo e => Nat.lt_of_lt_of_le (HMQ8.out h mb mo e) hz3) HTx.out.words HPW.out).mono ?_
              rintro e wA ⟨v, o, rfl, HO, HPO, HBA, HHA⟩
              obtain ⟨po, co, rfl, hio, -, -⟩ := own_rd HO.out rfl
              have HIO := Lib.hid hio
              have hzA := HHA.out.size
              have HHB := Lib.hid (HH3.out.trans HHA.out)
              have HTA := Lib.hid (HTT.out _ (HB38.out.trans (hold_below HHB.out (by omega))))
              have HBXA := Lib.hid ((HHB.out.same T (show T ≠ T + 1 by omega) (by omega)).trans HBX8.out)
              have hol : o.length ≤ 100000 := by have := parts_len2 HPO.out; omega
              clear hio k0 k1 k2 HO
              obtain ⟨k0, k1, k2⟩ := blk3 HBXA.out
              go_wp2_with fail
              refine (sound_any t HOK.out p q c d HC.out o hol po co _ HTA.out HIO.out).mono ?_
              rintro e wS ⟨rfl, hBS⟩
              rw [sound_ok HPO.out]
              have HBXS := Lib.hid ((hBS.block T (by omega)).trans HBXA.out)
              have HTS := Lib.hid (HTA.out.below hBS)
              have HIS := Lib.hid (HIO.out.below hBS)
              have hzS := hBS.size
              have HEND := Lib.hid (show ∀ W', Below wS.heap.size wS W' → Hid (BellOk W' (T + 1) pq nq cq) ∧ Hid (Hold (fun k => k ≠ T + 1) W8 W') from fun W' h => ⟨Lib.hid (HBA.out.below (join hBS h)), Lib.hid (HHB.out.trans (Hold.below (join hBS h)))⟩)
              have HSN := Lib.hid (fun W (h : Below wS.heap.size wS W) => sound_any t HOK.out p q c d HC.out o hol po co W (HTS.out.below h) (HIS.out.below h))
              have HWR := Lib.hid (fun W (h : Below wS.heap.size wS W) => Wrong_any t o hn9 hn3 (by omega) p q po c d co HC.out W (HTS.out.below h) (HIS.out.below h))
              have HSU := Lib.hid (fun W (h : Below wS.heap.size wS W) => sure_any t HOK.out p q c d o hol po co W (HTS.out.below h) (HIS.out.below h))
              have HTXS := Lib.hid (fun W (h : Below wS.heap.size wS W) => (h.block T (by omega)).trans HBXS.out)
              have HWE := Lib.hid (wrongR_err HOK.out HE.out HPO.out)
              rw [sound_ok HPO.out] at HSN
              rw [plc_ok HPO.out] at HSU
              obtain ⟨wa, wk, we, hwr⟩ : ∃ wa wk we, wrongR t o = (wa, wk, we) := ⟨_, _, _, rfl⟩
              rw [hwr] at HWR HWE
              dsimp only at HWR HWE
              clear hBS k0 k1 k2 hwr
              obtain ⟨k0, k1, k2⟩ := blk3 HBXS.out
              cases hs : okFrom t.right 0 o with
              | false =>
                rw [hs] at HSN HWE
                clear hs
                obtain rfl : we = 0 := HWE.out
                have HG1 := Lib.hid (Below.refl wS.heap.size wS)
                go_wp2_with fail
                refine (HWR.out _ HG1.out).mono ?_
                rintro e wf ⟨rfl, hBf⟩
                have HGf := Lib.hid (join HG1.out hBf)
                clear hBf k0 k1 k2
                obtain ⟨k0, k1, k2⟩ := blk3 (HTXS.out _ HGf.out)
                go_wp2_with fail
                refine (HSN.out _ HGf.out).mono ?_
                rintro e wg ⟨rfl, hBg⟩
                have HGg := Lib.hid (join HGf.out hBg)
                clear hBg k0 k1 k2
                go_wp2
                go_roundw
                case rel => first | exact ⟨k + 1, by omega, by go_num, HEND.out _ HGg.out⟩ | ((repeat apply Exists.intro); exact ⟨⟨k + 1, by omega, by go_num, HEND.out _ HGg.out⟩, rfl⟩)
                case measure => simp [intOf]; omega
              | true =>
                rw [hs] at HSN HWE
                obtain rfl : we = 6 := HWE.out
                have hfo := (HBR.out.few HFE.out).2.2 o HPO.out hs
                have hfo2 : ¬ (o.length : Int) < ((fewL t).length : Int) := by omega
                have HLOW := Lib.hid (fun h => HBR.out.low o HPO.out hs h)
                clear hs hfo
                go_wp2_with fail
                refine (HSU.out _ (Below.refl _ _)).mono ?_
                rintro e wu ⟨rfl, hBu⟩
                have HG1 := Lib.hid hBu
                clear hBu k0 k1 k2 hfo2
                obtain ⟨k0, k1, k2⟩ := blk3 (HTXS.out _ HG1.out)
                cases hsu : sureP t.turns (placesL o) with
                | false =>
                  clear hsu HLOW
                  go_wp2_with fail
                  refine (HWR.out _ HG1.out).mono ?_
                  rintro e wf ⟨rfl, hBf⟩
                  have HGf := Lib.hid (join HG1.out hBf)
                  clear hBf k0 k1 k2
                  obtain ⟨k0, k1, k2⟩ := blk3 (HTXS.out _ HGf.out)
                  go_wp2_with fail
                  refine (HSN.out _ HGf.out).mono ?_
                  rintro e wg ⟨rfl, hBg⟩
                  have HGg := Lib.hid (join HGf.out hBg)
                  clear hBg k0 k1 k2
                  go_wp2
                  go_roundw
                  case rel => first | exact ⟨k + 1, by omega, by go_num, HEND.out _ HGg.out⟩ | ((repeat apply Exists.intro); exact ⟨⟨k + 1, by omega, by go_num, HEND.out _ HGg.out⟩, rfl⟩)
                  case measure => simp [intOf]; omega
                | true =>
                  have hlow := (HLOW.out hsu).2
                  have hlow2 : ¬ (o.length : Int) < ((surL t).length : Int) := by omega
                  clear hsu hlow
                  go_wp2_with fail
                  refine (HWR.out _ HG1.out).mono ?_
                  rintro e wf ⟨rfl, hBf⟩
                  have HGf := Lib.hid (join HG1.out hBf)
                  clear hBf k0 k1 k2
                  obtain ⟨k0, k1, k2⟩ := blk3 (HTXS.out _ HGf.out)
                  go_wp2_with fail
                  refine (HSN.out _ HGf.out).mono ?_
                  rintro e wg ⟨rfl, hBg⟩
                  have HGg := Lib.hid (join HGf.out hBg)
                  clear hBg k0 k1 k2
                  go_wp2
                  go_roundw
                  case rel => first | exact ⟨k + 1, by omega, by go_num, HEND.out _ HGg.out⟩ | ((repeat apply Exists.intro); exact ⟨⟨k + 1, by omega, by go_num, HEND.out _ HGg.out⟩, rfl⟩)
                  case measure => simp [intOf]; omega
            · have hkk : k = 10 := by omega
              subst hkk
              clear hlt hk
              go_wp2_with fail
              refine (awake_any _).mono ?_
              rintro e w9 ⟨rfl, hB9⟩
              have HBF := Lib.hid (HW3.out.trans (((HB38.out.trans (hold_below HH3.out (by omega))).mono (show w.heap.size ≤ T + 1 by omega)).trans (hB9.mono (by omega))))
              clear hB9
              go_wp2
              go_ret
              exact ⟨rfl, HBF.out⟩
    · have HSE := Lib.hid hse
      clear hse
      go_wp2_with fail
      refine (Fewest_any t hn9 hn3 p q c d HC.out _ HT4.out).mono ?_
      rintro e W5 ⟨v, rfl, hown, hB5⟩
      rw [HFE.out]
      obtain ⟨pf, cf, rfl, hF, -, -⟩ := own_rd hown rfl
      have HF := Lib.hid hF
      have HT5 := Lib.hid (HT4.out.below hB5)
      have HBX5 := Lib.hid ((hB5.block T (by omega)).trans HBX4.out)
      have hz5 := hB5.size
      have HB5 := Lib.hid hB5
      clear hown hF hB5 k0 k1 k2
      obtain ⟨k0, k1, k2⟩ := blk3 HBX5.out
      go_wp2_with fail
      refine (Marks_any t hn9 hn3 p q c d HC.out _ HT5.out).mono ?_
      rintro e W6 ⟨pm, cm, rfl, hM, hB6⟩
      rw [HFE.out]
      have HM := Lib.hid hM
      have HF6 := Lib.hid (HF.out.below hB6)
      have HT6 := Lib.hid (HT5.out.below hB6)
      have HBX6 := Lib.hid ((hB6.block T (by omega)).trans HBX5.out)
      have hz6 := hB6.size
      have HB6 := Lib.hid (join HB5.out hB6)
      clear hM hB6 HF HB5 k0 k1 k2 HBX5 HT5
      obtain ⟨k0, k1, k2⟩ := blk3 HBX6.out
      go_wp2_with fail
      refine (Surest_any t hn9 hn3 p q c d HC.out _ HT6.out).mono ?_
      rintro e W7 ⟨v, rfl, hown, hB7⟩
      rw [HSE.out]
      obtain ⟨ps, cs, rfl, hS, -, -⟩ := own_rd hown rfl
      have HS := Lib.hid hS
      have HF7 := Lib.hid (HF6.out.below hB7)
      have HM7 := Lib.hid (HM.out.below hB7)
      have HT7 := Lib.hid (HT6.out.below hB7)
      have HBX7 := Lib.hid ((hB7.block T (by omega)).trans HBX6.out)
      have hz7 := hB7.size
      have HB7 := Lib.hid (join HB6.out hB7)
      clear hown hS hB7 HF6 HB6 HM k0 k1 k2 HBX6 HT6
      obtain ⟨k0, k1, k2⟩ := blk3 HBX7.out
      go_wp2_with fail
      refine (Check_any t hn9 hn3 p q c d _ HT7.out).mono ?_
      rintro e W8 ⟨rfl, hB8⟩
      rw [HE.out]
      have HS8 := Lib.hid (HS.out.below hB8)
      have HF8 := Lib.hid (HF7.out.below hB8)
      have HM8 := Lib.hid (HM7.out.below hB8)
      have HT8 := Lib.hid (HT7.out.below hB8)
      have HBX8 := Lib.hid ((hB8.block T (by omega)).trans HBX7.out)
      have hz8 := hB8.size
      have HB8 := Lib.hid (join HB7.out hB8)
      have HBQ8 := Lib.hid (HBQ.out.below HB8.out)
      have HB38 := Lib.hid (HB34.out.trans (HB8.out.mono (by omega)))
      have HMQ8 := Lib.hid (show nq ≠ 0 → ∀ mb mo, pq = some ⟨mb, mo, none⟩ → mb < W8.heap.size from fun h mb mo e => Nat.lt_of_lt_of_le (HMQ.out h mb mo e) HB8.out.size)
      have hz58 : T + 2 ≤ W8.heap.size := by have := HB8.out.size; omega
      clear hB8 HS HF7 HM7 HT7 HBX7 HB7 HBQ HMQ HT4 HBX4 hz4 HB34 hz5 hz6 hz7 hz8 HB8 k0 k1 k2
      obtain ⟨hF1, hF2, hF3⟩ := HBR.out.few HFE.out
      have HPF := Lib.hid hF1
      have hsF : soundB t (fewL t) = true := by rw [sound_ok hF1]; exact hF2
      have HSF := Lib.hid hsF
      have hF10 : (fewL t).length ≤ 100000 := by have := parts_len2 hF1; omega
      obtain ⟨hany, hsh⟩ := HMKS.out HFE.out
      have HSH := Lib.hid hsh
      have HANY := Lib.hid hany
      have hml := HML.out HFE.out
      have HLML := Lib.hid hml
      rcases HM8.out with h0 | ⟨gm, om, rfl, hgm, hcm⟩
      · rw [h0] at hml; simp at hml
      have HCM := Lib.hid (show ∀ i, i ≤ t.words.length → W8.cell? ⟨gm, om + i, none⟩ = some (.int .i64 ((greatest t.right t.words.length).getD i 0)) from fun i hi => by
        rw [← HMG.out HFE.out i hi]; exact hcm i (by omega))
      have HG0 := Lib.hid (show (greatest t.right t.words.length).getD 0 0 = 0 from HGI.out.zero)
      have HGN := Lib.hid (show (greatest t.right t.words.length).getD t.words.length 0 = ((fewL t).length : Int) from by
        have h1 : fewL t = (Tx.fewest t.right t.words.length).1 := if_pos HE.out
        have h2 : fewE t = (Tx.fewest t.right t.words.length).2 := if_pos HE.out
        rw [h1]; exact (greatest_last hn1 hn12 (by rw [← h2]; exact HFE.out)).1)
      clear hF1 hF2 hF3 hsF hany hsh hml hcm HM8
      obtain ⟨k0, k1, k2⟩ := blk3 HBX8.out
      go_wp2_with fail
      refine (Shows_in t (markL t) HE.out HLML.out HANY.out p q (some ⟨gm, om, none⟩) c d cm HC.out _ HT8.out (.inr ⟨gm, om, rfl, hgm, fun i hi => by
        rw [HMG.out HFE.out i (by have := HLML.out; omega)]; exact HCM.out i (by have := HLML.out; omega)⟩)).mono ?_
      rintro e W9 ⟨rfl, hB9⟩
      rw [HSH.out]
      dsimp only
      have HT9 := Lib.hid (HT8.out.below hB9)
      have HF9 := Lib.hid (HF8.out.below hB9)
      have HBX9 := Lib.hid ((hB9.block T (by omega)).trans HBX8.out)
      have hz9 := hB9.size
      have HB9 := Lib.hid hB9
      have hnf : (((fewL t).length : Int) != ((fewL t).length : Int)) = false := by simp
      clear hB9 k0 k1 k2
      obtain ⟨k0, k1, k2⟩ := blk3 HBX9.out
      go_wp2_with fail
      refine (sound_any t HOK.out p q c d HC.out (fewL t) hF10 pf cf _ HT9.out HF9.out).mono ?_
      rintro e WA ⟨rfl, hBA⟩
      rw [HSF.out]
      have HBXA := Lib.hid ((hBA.block T (by omega)).trans HBX9.out)
      have HBA := Lib.hid (join HB9.out hBA)
      have hzA := hBA.size
      have hgA : gm < WA.heap.size := by omega
      have hc0 := (HBA.out.cell (p := ⟨gm, om + 0, none⟩) hgm).trans (HCM.out 0 (Nat.zero_le _))
      have hcn := (HBA.out.cell (p := ⟨gm, om + t.words.length, none⟩) hgm).trans (HCM.out t.words.length (Nat.le_refl _))
      rw [HG0.out, Nat.add_zero] at hc0
      rw [HGN.out] at hcn
      have hml2 : ((markL t).length : Int) = (t.words.length : Int) + 1 := by have := HLML.out; omega
      have hl0 : (0 : Int) < ((markL t).length : Int) := by omega
      have hln : (t.words.length : Int) < ((markL t).length : Int) := by omega
      have hl00 : 0 < (markL t).length := by omega
      have hlnn : t.words.length < (markL t).length := by omega
      have hll : (((markL t).length : Int) != (t.words.length : Int) + 1) = false := by rw [hml2]; simp
      clear hBA k0 k1 k2
      obtain ⟨k0, k1, k2⟩ := blk3 HBXA.out
      go_wp2_with fail
      clear hc0 hcn hml2 hl0 hln hl00 hlnn hll hnf
      go_loopw [124] (fun i wr => ∃ a : Nat, a ≤ t.words.length ∧ i = .int .i64 a ∧ Hid (Below WA.heap.size WA wr)) (fun i _ => t.words.length - (intOf i).toNat)
      case atStart => exact ⟨0, Nat.zero_le _, rfl, Lib.hid (Below.refl _ _)⟩
      case round => as_aux_lemma =>
        clear k0 k1 k2
        obtain ⟨wb, rfl⟩ : ∃ wb : World, wb = wr := ⟨_, rfl⟩
        obtain ⟨a, ha, rfl, HBb⟩ := hrel
        have hzb := HBb.out.size
        have HBXb := Lib.hid ((HBb.out.block T (by omega)).trans HBXA.out)
        obtain ⟨k0, k1, k2⟩ := blk3 HBXb.out
        by_cases han : a < t.words.length
        · have han' : (a : Int) < t.words.length := by omega
          go_wp2_with fail
          go_loopw [16] (fun i wr => ∃ b : Nat, a + 1 ≤ b ∧ b ≤ t.words.length + 1 ∧ i = .int .i64 b ∧ Hid (Below wb.heap.size wb wr)) (fun i _ => t.words.length + 1 - (intOf i).toNat)
          case atStart => exact ⟨a + 1, Nat.le_refl _, by omega, by go_num, Lib.hid (Below.refl _ _)⟩
          case round => as_aux_lemma =>
            clear k0 k1 k2
            obtain ⟨wc, rfl⟩ : ∃ wc : World, wc = wr := ⟨_, rfl⟩
            obtain ⟨b, hab, hbn, rfl, HBc⟩ := hrel
            have hzc := HBc.out.size
            have HTX := Lib.hid ((HBc.out.block T (by omega)).trans HBXb.out)
            obtain ⟨k0, k1, k2⟩ := blk3 HTX.out
            by_cases hble : b ≤ t.words.length
            · have hble' : (b : Int) ≤ t.words.length := by omega
              have HBw := Lib.hid (join HBA.out (join HBb.out HBc.out))
              have hTl : T < wc.heap.size := by omega
              have hgl : gm < wc.heap.size := by omega
              have HFT := Lib.hid (fun W (h : Below wc.heap.size wc W) => fits_any t HOK.out p q c d a b (by omega) hble HC.out W (HT8.out.below (join HBw.out h)))
              obtain ⟨ma, hma⟩ : ∃ ma, ma = (greatest t.right t.words.length).getD a 0 := ⟨_, rfl⟩
              obtain ⟨mb, hmb⟩ : ∃ mb, mb = (greatest t.right t.words.length).getD b 0 := ⟨_, rfl⟩
              have HCA := Lib.hid ((HBw.out.cell (p := ⟨gm, om + a, none⟩) hgm).trans (HCM.out a (by omega)))
              have HCB := Lib.hid ((HBw.out.cell (p := ⟨gm, om + b, none⟩) hgm).trans (HCM.out b hble))
              have hbd := HGI.out.bd a
              have hgain := fun h => greatest_nogain t.right t.words.length hn12 a b (by omega) hble h
              rw [← hma] at HCA hbd hgain
              rw [← hmb] at HCB hgain
              have hia : (a : Int) < ((t.words.length + 1 : Nat) : Int) := by omega
              have hib : (b : Int) < ((t.words.length + 1 : Nat) : Int) := by omega
              have hia2 : (a : Int) < (t.words.length : Int) + 1 := by omega
              have hib2 : (b : Int) < (t.words.length : Int) + 1 := by omega
              have hwr : IntKind.i64.wrap (ma + 1) = ma + 1 := IntWalk.i64_in _ (by omega)
              have hwr2 : wrap64 (ma + 1) = ma + 1 := by unfold wrap64; omega
              clear hma hmb
              rw [HLML.out]
              cases hrt : t.right a b with
              | true =>
                rw [hrt] at HFT
                have hng0 := hgain hrt
                have hng : ¬ mb > ma + 1 := by omega
                clear hgain hng0 hrt hbd
                go_wp2_with fail
                refine Rs.region_gen 16 [[], [], [], [0, 1, 2], [0, 1, 2, 3], [0, 1, 2, 3, 4], [0, 1, 2, 3, 4], [0, 1, 2, 3, 4, 5, 6], [0, 1, 2, 3, 4, 5, 6, 7], [0, 1, 2, 3, 4], [0, 1, 2, 3, 4], [0, 1, 2, 3, 4, 9, 10], [0, 1, 2, 3, 4, 9, 10, 11], [0, 1, 2, 3, 4, 9, 10, 11, 12], [0, 1, 2, 3, 4, 5, 6, 7, 8, 9, 10, 11, 12, 13], [0, 1, 2, 3, 4, 5, 6, 7, 8, 9, 10, 11, 12, 13, 14]] [some 136, some 137, some 138, some 139, some 140, some 141, some 142, some 143, some 144, some 145, some 146, some 147, some 148, some 149, some 150, some 151] (spBr1 (.agg #[.slice p t.words.length c, .slice q t.turns.length d, .int .i64 t.breath]) gm om (t.words.length + 1) cm a b ma mb) (by kernel_rfl) (by kernel_rfl) rfl (spBr1_stable _ _ _ _ _ _ _ _ _) ?_ ?_
                · refine ⟨fun V w' hG hs => ?_, fun V w' hG hs => ?_, fun V w' hG hs => ?_, fun V w' hG hs => ?_, fun V w' hG hs => ?_, fun V w' hG hs => ?_, fun V w' hG hs => ?_, fun V w' hG hs => ?_, fun V w' hG hs => ?_, fun V w' hG hs => ?_, fun V w' hG hs => ?_, fun V w' hG hs => ?_, fun V w' hG hs => ?_, fun V w' hG hs => ?_, fun V w' hG hs => ?_, fun V w' hG hs => ?_, trivial⟩
                  all_goals
                    obtain ⟨k0, k1, k2⟩ := blk3 ((hG.block T hTl).trans HTX.out)
                    have hca := (hG.cell (p := ⟨gm, om + a, none⟩) hgl).trans HCA.out
                    have hcb := (hG.cell (p := ⟨gm, om + b, none⟩) hgl).trans HCB.out
                  · rw [if_pos (by rfl)]
                    exact Rs.GrowL.value (v := (.agg #[.slice p t.words.length c, .slice q t.turns.length d, .int .i64 t.breath])) (w' := w') (by simp [go_sem, Rs.look, k0, k1, k2]) (Rs.Gr.refl _) rfl
                  · rw [if_pos (by rfl)]
                    exact Rs.GrowL.value (v := .int .i64 (a : Int)) (w' := w') (by simp [go_sem, Rs.look]) (Rs.Gr.refl _) rfl
                  · rw [if_pos (by rfl)]
                    exact Rs.GrowL.value (v := .int .i64 (b : Int)) (w' := w') (by simp [go_sem, Rs.look]) (Rs.Gr.refl _) rfl
                  · have e0 : V 0 = (.agg #[.slice p t.words.length c, .slice q t.turns.length d, .int .i64 t.breath]) := hs 0 (by simp)
                    have e1 : V 1 = .int .i64 (a : Int) := hs 1 (by simp)
                    have e2 : V 2 = .int .i64 (b : Int) := hs 2 (by simp)
                    rw [if_pos (by rfl)]
                    refine Rs.GrowL.call (f := 58) (args := #[.agg #[.slice p t.words.length c, .slice q t.turns.length d, .int .i64 t.breath], .int .i64 (a : Int), .int .i64 (b : Int)]) (by simp [go_sem, Rs.look, e0, e1, e2]) ?_
                    refine (HFT.out w' hG).mono ?_
                    rintro e w2 ⟨rfl, hB2⟩
                    exact ⟨_, rfl, hB2, rfl⟩
                  · have e0 : V 0 = (.agg #[.slice p t.words.length c, .slice q t.turns.length d, .int .i64 t.breath]) := hs 0 (by simp)
                    have e1 : V 1 = .int .i64 (a : Int) := hs 1 (by simp)
                    have e2 : V 2 = .int .i64 (b : Int) := hs 2 (by simp)
                    have e3 : V 3 = .bool true := hs 3 (by simp)
                    rw [if_pos (by rfl)]
                    exact Rs.GrowL.value (v := .bool true) (w' := w') (by simp [go_sem, Rs.look, e0, e1, e2, e3]) (Rs.Gr.refl _) rfl
                  · have e0 : V 0 = (.agg #[.slice p t.words.length c, .slice q t.turns.length d, .int .i64 t.breath]) := hs 0 (by simp)
                    have e1 : V 1 = .int .i64 (a : Int) := hs 1 (by simp)
                    have e2 : V 2 = .int .i64 (b : Int) := hs 2 (by simp)
                    have e3 : V 3 = .bool true := hs 3 (by simp)
                    have e4 : V 4 = .bool true := hs 4 (by simp)
                    rw [if_pos (by simp [Rs.wantB, e4])]
                    exact Rs.GrowL.value (v := .slice (some ⟨gm, om, none⟩) (t.words.length + 1) cm) (w' := w') (by simp [go_sem, Rs.look, e0, e1, e2, e3, e4]) (Rs.Gr.refl _) rfl
                  · have e0 : V 0 = (.agg #[.slice p t.words.length c, .slice q t.turns.length d, .int .i64 t.breath]) := hs 0 (by simp)
                    have e1 : V 1 = .int .i64 (a : Int) := hs 1 (by simp)
                    have e2 : V 2 = .int .i64 (b : Int) := hs 2 (by simp)
                    have e3 : V 3 = .bool true := hs 3 (by simp)
                    have e4 : V 4 = .bool true := hs 4 (by simp)
                    rw [if_pos (by simp [Rs.wantB, e4])]
                    exact Rs.GrowL.value (v := .int .i64 (b : Int)) (w' := w') (by simp [go_sem, Rs.look, e0, e1, e2, e3, e4]) (Rs.Gr.refl _) rfl
                  · have e0 : V 0 = (.agg #[.slice p t.words.length c, .slice q t.turns.length d, .int .i64 t.breath]) := hs 0 (by simp)
                    have e1 : V 1 = .int .i64 (a : Int) := hs 1 (by simp)
                    have e2 : V 2 = .int .i64 (b : Int) := hs 2 (by simp)
                    have e3 : V 3 = .bool true := hs 3 (by simp)
                    have e4 : V 4 = .bool true := hs 4 (by simp)
                    have e5 : V 5 = .slice (some ⟨gm, om, none⟩) (t.words.length + 1) cm := hs 5 (by simp)
                    have e6 : V 6 = .int .i64 (b : Int) := hs 6 (by simp)
                    rw [if_pos (by simp [Rs.wantB, e4])]
                    exact Rs.GrowL.value (v := .pointer (some ⟨gm, om + b, none⟩)) (w' := w') (by simp [go_sem, Rs.look, e0, e1, e2, e3, e4, e5, e6, hib, hib2]) (Rs.Gr.refl _) rfl
                  · have e0 : V 0 = (.agg #[.slice p t.words.length c, .slice q t.turns.length d, .int .i64 t.breath]) := hs 0 (by simp)
                    have e1 : V 1 = .int .i64 (a : Int) := hs 1 (by simp)
                    have e2 : V 2 = .int .i64 (b : Int) := hs 2 (by simp)
                    have e3 : V 3 = .bool true := hs 3 (by simp)
                    have e4 : V 4 = .bool true := hs 4 (by simp)
                    have e5 : V 5 = .slice (some ⟨gm, om, none⟩) (t.words.length + 1) cm := hs 5 (by simp)
                    have e6 : V 6 = .int .i64 (b : Int) := hs 6 (by simp)
                    have e7 : V 7 = .pointer (some ⟨gm, om + b, none⟩) := hs 7 (by simp)
                    rw [if_pos (by simp [Rs.wantB, e4])]
                    exact Rs.GrowL.value (v := .int .i64 mb) (w' := w') (by simp [go_sem, Rs.look, e0, e1, e2, e3, e4, e5, e6, e7, hcb]) (Rs.Gr.refl _) rfl
                  · have e0 : V 0 = (.agg #[.slice p t.words.length c, .slice q t.turns.length d, .int .i64 t.breath]) := hs 0 (by simp)
                    have e1 : V 1 = .int .i64 (a : Int) := hs 1 (by simp)
                    have e2 : V 2 = .int .i64 (b : Int) := hs 2 (by simp)
                    have e3 : V 3 = .bool true := hs 3 (by simp)
                    have e4 : V 4 = .bool true := hs 4 (by simp)
                    rw [if_pos (by simp [Rs.wantB, e4])]
                    exact Rs.GrowL.value (v := .slice (some ⟨gm, om, none⟩) (t.words.length + 1) cm) (w' := w') (by simp [go_sem, Rs.look, e0, e1, e2, e3, e4]) (Rs.Gr.refl _) rfl
                  · have e0 : V 0 = (.agg #[.slice p t.words.length c, .slice q t.turns.length d, .int .i64 t.breath]) := hs 0 (by simp)
                    have e1 : V 1 = .int .i64 (a : Int) := hs 1 (by simp)
                    have e2 : V 2 = .int .i64 (b : Int) := hs 2 (by simp)
                    have e3 : V 3 = .bool true := hs 3 (by simp)
                    have e4 : V 4 = .bool true := hs 4 (by simp)
                    rw [if_pos (by simp [Rs.wantB, e4])]
                    exact Rs.GrowL.value (v := .int .i64 (a : Int)) (w' := w') (by simp [go_sem, Rs.look, e0, e1, e2, e3, e4]) (Rs.Gr.refl _) rfl
                  · have e0 : V 0 = (.agg #[.slice p t.words.length c, .slice q t.turns.length d, .int .i64 t.breath]) := hs 0 (by simp)
                    have e1 : V 1 = .int .i64 (a : Int) := hs 1 (by simp)
                    have e2 : V 2 = .int .i64 (b : Int) := hs 2 (by simp)
                    have e3 : V 3 = .bool true := hs 3 (by simp)
                    have e4 : V 4 = .bool true := hs 4 (by simp)
                    have e9 : V 9 = .slice (some ⟨gm, om, none⟩) (t.words.length + 1) cm := hs 9 (by simp)
                    have e10 : V 10 = .int .i64 (a : Int) := hs 10 (by simp)
                    rw [if_pos (by simp [Rs.wantB, e4])]
                    exact Rs.GrowL.value (v := .pointer (some ⟨gm, om + a, none⟩)) (w' := w') (by simp [go_sem, Rs.look, e0, e1, e2, e3, e4, e9, e10, hia, hia2]) (Rs.Gr.refl _) rfl
                  · have e0 : V 0 = (.agg #[.slice p t.words.length c, .slice q t.turns.length d, .int .i64 t.breath]) := hs 0 (by simp)
                    have e1 : V 1 = .int .i64 (a : Int) := hs 1 (by simp)
                    have e2 : V 2 = .int .i64 (b : Int) := hs 2 (by simp)
                    have e3 : V 3 = .bool true := hs 3 (by simp)
                    have e4 : V 4 = .bool true := hs 4 (by simp)
                    have e9 : V 9 = .slice (some ⟨gm, om, none⟩) (t.words.length + 1) cm := hs 9 (by simp)
                    have e10 : V 10 = .int .i64 (a : Int) := hs 10 (by simp)
                    have e11 : V 11 = .pointer (some ⟨gm, om + a, none⟩) := hs 11 (by simp)
                    rw [if_pos (by simp [Rs.wantB, e4])]
                    exact Rs.GrowL.value (v := .int .i64 ma) (w' := w') (by simp [go_sem, Rs.look, e0, e1, e2, e3, e4, e9, e10, e11, hca]) (Rs.Gr.refl _) rfl
                  · have e0 : V 0 = (.agg #[.slice p t.words.length c, .slice q t.turns.length d, .int .i64 t.breath]) := hs 0 (by simp)
                    have e1 : V 1 = .int .i64 (a : Int) := hs 1 (by simp)
                    have e2 : V 2 = .int .i64 (b : Int) := hs 2 (by simp)
                    have e3 : V 3 = .bool true := hs 3 (by simp)
                    have e4 : V 4 = .bool true := hs 4 (by simp)
                    have e9 : V 9 = .slice (some ⟨gm, om, none⟩) (t.words.length + 1) cm := hs 9 (by simp)
                    have e10 : V 10 = .int .i64 (a : Int) := hs 10 (by simp)
                    have e11 : V 11 = .pointer (some ⟨gm, om + a, none⟩) := hs 11 (by simp)
                    have e12 : V 12 = .int .i64 ma := hs 12 (by simp)
                    rw [if_pos (by simp [Rs.wantB, e4])]
                    exact Rs.GrowL.value (v := .int .i64 (ma + 1)) (w' := w') (by simp [go_sem, Rs.look, e0, e1, e2, e3, e4, e9, e10, e11, e12, hwr]) (Rs.Gr.refl _) rfl
                  · have e0 : V 0 = (.agg #[.slice p t.words.length c, .slice q t.turns.length d, .int .i64 t.breath]) := hs 0 (by simp)
                    have e1 : V 1 = .int .i64 (a : Int) := hs 1 (by simp)
                    have e2 : V 2 = .int .i64 (b : Int) := hs 2 (by simp)
                    have e3 : V 3 = .bool true := hs 3 (by simp)
                    have e4 : V 4 = .bool true := hs 4 (by simp)
                    have e5 : V 5 = .slice (some ⟨gm, om, none⟩) (t.words.length + 1) cm := hs 5 (by simp)
                    have e6 : V 6 = .int .i64 (b : Int) := hs 6 (by simp)
                    have e7 : V 7 = .pointer (some ⟨gm, om + b, none⟩) := hs 7 (by simp)
                    have e8 : V 8 = .int .i64 mb := hs 8 (by simp)
                    have e9 : V 9 = .slice (some ⟨gm, om, none⟩) (t.words.length + 1) cm := hs 9 (by simp)
                    have e10 : V 10 = .int .i64 (a : Int) := hs 10 (by simp)
                    have e11 : V 11 = .pointer (some ⟨gm, om + a, none⟩) := hs 11 (by simp)
                    have e12 : V 12 = .int .i64 ma := hs 12 (by simp)
                    have e13 : V 13 = .int .i64 (ma + 1) := hs 13 (by simp)
                    rw [if_pos (by simp [Rs.wantB, e4])]
                    exact Rs.GrowL.value (v := .bool false) (w' := w') (by simp [go_sem, Rs.look, e0, e1, e2, e3, e4, e5, e6, e7, e8, e9, e10, e11, e12, e13, hng]) (Rs.Gr.refl _) rfl
                  · have e0 : V 0 = (.agg #[.slice p t.words.length c, .slice q t.turns.length d, .int .i64 t.breath]) := hs 0 (by simp)
                    have e1 : V 1 = .int .i64 (a : Int) := hs 1 (by simp)
                    have e2 : V 2 = .int .i64 (b : Int) := hs 2 (by simp)
                    have e3 : V 3 = .bool true := hs 3 (by simp)
                    have e4 : V 4 = .bool true := hs 4 (by simp)
                    have e5 : V 5 = .slice (some ⟨gm, om, none⟩) (t.words.length + 1) cm := hs 5 (by simp)
                    have e6 : V 6 = .int .i64 (b : Int) := hs 6 (by simp)
                    have e7 : V 7 = .pointer (some ⟨gm, om + b, none⟩) := hs 7 (by simp)
                    have e8 : V 8 = .int .i64 mb := hs 8 (by simp)
                    have e9 : V 9 = .slice (some ⟨gm, om, none⟩) (t.words.length + 1) cm := hs 9 (by simp)
                    have e10 : V 10 = .int .i64 (a : Int) := hs 10 (by simp)
                    have e11 : V 11 = .pointer (some ⟨gm, om + a, none⟩) := hs 11 (by simp)
                    have e12 : V 12 = .int .i64 ma := hs 12 (by simp)
                    have e13 : V 13 = .int .i64 (ma + 1) := hs 13 (by simp)
                    have e14 : V 14 = .bool false := hs 14 (by simp)
                    rw [if_pos (by rfl)]
                    exact Rs.GrowL.value (v := .bool false) (w' := w') (by simp [go_sem, Rs.look, e0, e1, e2, e3, e4, e5, e6, e7, e8, e9, e10, e11, e12, e13, e14]) (Rs.Gr.refl _) rfl
                · intro V w' hG hs
                  have e0 : V 0 = (.agg #[.slice p t.words.length c, .slice q t.turns.length d, .int .i64 t.breath]) := hs 0 (by omega)
                  have e1 : V 1 = .int .i64 (a : Int) := hs 1 (by omega)
                  have e2 : V 2 = .int .i64 (b : Int) := hs 2 (by omega)
                  have e3 : V 3 = .bool true := hs 3 (by omega)
                  have e4 : V 4 = .bool true := hs 4 (by omega)
                  have e5 : V 5 = .slice (some ⟨gm, om, none⟩) (t.words.length + 1) cm := hs 5 (by omega)
                  have e6 : V 6 = .int .i64 (b : Int) := hs 6 (by omega)
                  have e7 : V 7 = .pointer (some ⟨gm, om + b, none⟩) := hs 7 (by omega)
                  have e8 : V 8 = .int .i64 mb := hs 8 (by omega)
                  have e9 : V 9 = .slice (some ⟨gm, om, none⟩) (t.words.length + 1) cm := hs 9 (by omega)
                  have e10 : V 10 = .int .i64 (a : Int) := hs 10 (by omega)
                  have e11 : V 11 = .pointer (some ⟨gm, om + a, none⟩) := hs 11 (by omega)
                  have e12 : V 12 = .int .i64 ma := hs 12 (by omega)
                  have e13 : V 13 = .int .i64 (ma + 1) := hs 13 (by omega)
                  have e14 : V 14 = .bool false := hs 14 (by omega)
                  have e15 : V 15 = .bool false := hs 15 (by omega)
                  simp only [Rs.canon, Rs.dstOf, List.range_succ, List.range_zero, List.nil_append, List.cons_append, List.foldl_cons, List.foldl_nil, List.drop_succ_cons, List.drop_zero, List.drop_nil, List.getElem?_toArray, List.getElem?_cons_succ, List.getElem?_cons_zero, Option.bind_some, List.getD_cons_succ, List.getD_cons_zero]
                  rw [e0, e1, e2, e3, e4, e5, e6, e7, e8, e9, e10, e11, e12, e13, e14, e15]
                  go_frame
                  clear e0 e1 e2 e3 e4 e5 e6 e7 e8 e9 e10 e11 e12 e13 e14 e15 hs
                  have HGG := Lib.hid (join HBc.out hG)
                  clear hG hng hwr hwr2 hia hib hia2 hib2
                  go_wp2
                  go_roundw
                  case rel => exact ⟨b + 1, by omega, by omega, by go_num, HGG⟩
                  case measure => simp [intOf]; omega
              | false =>
                rw [hrt] at HFT
                clear hgain hrt hbd
                go_wp2_with fail
                refine Rs.region_gen 16 [[], [], [], [0, 1, 2], [0, 1, 2, 3], [0, 1, 2, 3, 4], [0, 1, 2, 3, 4], [0, 1, 2, 3, 4, 5, 6], [0, 1, 2, 3, 4, 5, 6, 7], [0, 1, 2, 3, 4], [0, 1, 2, 3, 4], [0, 1, 2, 3, 4, 9, 10], [0, 1, 2, 3, 4, 9, 10, 11], [0, 1, 2, 3, 4, 9, 10, 11, 12], [0, 1, 2, 3, 4, 5, 6, 7, 8, 9, 10, 11, 12, 13], [0, 1, 2, 3, 4, 5, 6, 7, 8, 9, 10, 11, 12, 13, 14]] [some 136, some 137, some 138, some 139, some 140, some 141, some 142, some 143, some 144, some 145, some 146, some 147, some 148, some 149, some 150, some 151] (spBr0 (.agg #[.slice p t.words.length c, .slice q t.turns.length d, .int .i64 t.breath]) gm om (t.words.length + 1) cm a b ma mb) (by kernel_rfl) (by kernel_rfl) rfl (spBr0_stable _ _ _ _ _ _ _ _ _) ?_ ?_
                · refine ⟨fun V w' hG hs => ?_, fun V w' hG hs => ?_, fun V w' hG hs => ?_, fun V w' hG hs => ?_, fun V w' hG hs => ?_, fun V w' hG hs => ?_, fun V w' hG hs => ?_, fun V w' hG hs => ?_, fun V w' hG hs => ?_, fun V w' hG hs => ?_, fun V w' hG hs => ?_, fun V w' hG hs => ?_, fun V w' hG hs => ?_, fun V w' hG hs => ?_, fun V w' hG hs => ?_, fun V w' hG hs => ?_, trivial⟩
                  all_goals
                    obtain ⟨k0, k1, k2⟩ := blk3 ((hG.block T hTl).trans HTX.out)
                    have hca := (hG.cell (p := ⟨gm, om + a, none⟩) hgl).trans HCA.out
                    have hcb := (hG.cell (p := ⟨gm, om + b, none⟩) hgl).trans HCB.out
                  · rw [if_pos (by rfl)]
                    exact Rs.GrowL.value (v := (.agg #[.slice p t.words.length c, .slice q t.turns.length d, .int .i64 t.breath])) (w' := w') (by simp [go_sem, Rs.look, k0, k1, k2]) (Rs.Gr.refl _) rfl
                  · rw [if_pos (by rfl)]
                    exact Rs.GrowL.value (v := .int .i64 (a : Int)) (w' := w') (by simp [go_sem, Rs.look]) (Rs.Gr.refl _) rfl
                  · rw [if_pos (by rfl)]
                    exact Rs.GrowL.value (v := .int .i64 (b : Int)) (w' := w') (by simp [go_sem, Rs.look]) (Rs.Gr.refl _) rfl
                  · have e0 : V 0 = (.agg #[.slice p t.words.length c, .slice q t.turns.length d, .int .i64 t.breath]) := hs 0 (by simp)
                    have e1 : V 1 = .int .i64 (a : Int) := hs 1 (by simp)
                    have e2 : V 2 = .int .i64 (b : Int) := hs 2 (by simp)
                    rw [if_pos (by rfl)]
                    refine Rs.GrowL.call (f := 58) (args := #[.agg #[.slice p t.words.length c, .slice q t.turns.length d, .int .i64 t.breath], .int .i64 (a : Int), .int .i64 (b : Int)]) (by simp [go_sem, Rs.look, e0, e1, e2]) ?_
                    refine (HFT.out w' hG).mono ?_
                    rintro e w2 ⟨rfl, hB2⟩
                    exact ⟨_, rfl, hB2, rfl⟩
                  · have e0 : V 0 = (.agg #[.slice p t.words.length c, .slice q t.turns.length d, .int .i64 t.breath]) := hs 0 (by simp)
                    have e1 : V 1 = .int .i64 (a : Int) := hs 1 (by simp)
                    have e2 : V 2 = .int .i64 (b : Int) := hs 2 (by simp)
                    have e3 : V 3 = .bool false := hs 3 (by simp)
                    rw [if_pos (by rfl)]
                    exact Rs.GrowL.value (v := .bool false) (w' := w') (by simp [go_sem, Rs.look, e0, e1, e2, e3]) (Rs.Gr.refl _) rfl
                  · have e0 : V 0 = (.agg #[.slice p t.words.length c, .slice q t.turns.length d, .int .i64 t.breath]) := hs 0 (by simp)
                    have e1 : V 1 = .int .i64 (a : Int) := hs 1 (by simp)
                    have e2 : V 2 = .int .i64 (b : Int) := hs 2 (by simp)
                    have e3 : V 3 = .bool false := hs 3 (by simp)
                    have e4 : V 4 = .bool false := hs 4 (by simp)
                    rw [if_neg (by simp [Rs.wantB, e4])]
                    rfl
                  · have e0 : V 0 = (.agg #[.slice p t.words.length c, .slice q t.turns.length d, .int .i64 t.breath]) := hs 0 (by simp)
                    have e1 : V 1 = .int .i64 (a : Int) := hs 1 (by simp)
                    have e2 : V 2 = .int .i64 (b : Int) := hs 2 (by simp)
                    have e3 : V 3 = .bool false := hs 3 (by simp)
                    have e4 : V 4 = .bool false := hs 4 (by simp)
                    rw [if_neg (by simp [Rs.wantB, e4])]
                    rfl
                  · have e0 : V 0 = (.agg #[.slice p t.words.length c, .slice q t.turns.length d, .int .i64 t.breath]) := hs 0 (by simp)
                    have e1 : V 1 = .int .i64 (a : Int) := hs 1 (by simp)
                    have e2 : V 2 = .int .i64 (b : Int) := hs 2 (by simp)
                    have e3 : V 3 = .bool false := hs 3 (by simp)
                    have e4 : V 4 = .bool false := hs 4 (by simp)
                    have e5 : V 5 = undef := hs 5 (by simp)
                    have e6 : V 6 = undef := hs 6 (by simp)
                    rw [if_neg (by simp [Rs.wantB, e4])]
                    rfl
                  · have e0 : V 0 = (.agg #[.slice p t.words.length c, .slice q t.turns.length d, .int .i64 t.breath]) := hs 0 (by simp)
                    have e1 : V 1 = .int .i64 (a : Int) := hs 1 (by simp)
                    have e2 : V 2 = .int .i64 (b : Int) := hs 2 (by simp)
                    have e3 : V 3 = .bool false := hs 3 (by simp)
                    have e4 : V 4 = .bool false := hs 4 (by simp)
                    have e5 : V 5 = undef := hs 5 (by simp)
                    have e6 : V 6 = undef := hs 6 (by simp)
                    have e7 : V 7 = undef := hs 7 (by simp)
                    rw [if_neg (by simp [Rs.wantB, e4])]
                    rfl
                  · have e0 : V 0 = (.agg #[.slice p t.words.length c, .slice q t.turns.length d, .int .i64 t.breath]) := hs 0 (by simp)
                    have e1 : V 1 = .int .i64 (a : Int) := hs 1 (by simp)
                    have e2 : V 2 = .int .i64 (b : Int) := hs 2 (by simp)
                    have e3 : V 3 = .bool false := hs 3 (by simp)
                    have e4 : V 4 = .bool false := hs 4 (by simp)
                    rw [if_neg (by simp [Rs.wantB, e4])]
                    rfl
                  · have e0 : V 0 = (.agg #[.slice p t.words.length c, .slice q t.turns.length d, .int .i64 t.breath]) := hs 0 (by simp)
                    have e1 : V 1 = .int .i64 (a : Int) := hs 1 (by simp)
                    have e2 : V 2 = .int .i64 (b : Int) := hs 2 (by simp)
                    have e3 : V 3 = .bool false := hs 3 (by simp)
                    have e4 : V 4 = .bool false := hs 4 (by simp)
                    rw [if_neg (by simp [Rs.wantB, e4])]
                    rfl
                  · have e0 : V 0 = (.agg #[.slice p t.words.length c, .slice q t.turns.length d, .int .i64 t.breath]) := hs 0 (by simp)
                    have e1 : V 1 = .int .i64 (a : Int) := hs 1 (by simp)
                    have e2 : V 2 = .int .i64 (b : Int) := hs 2 (by simp)
                    have e3 : V 3 = .bool false := hs 3 (by simp)
                    have e4 : V 4 = .bool false := hs 4 (by simp)
                    have e9 : V 9 = undef := hs 9 (by simp)
                    have e10 : V 10 = undef := hs 10 (by simp)
                    rw [if_neg (by simp [Rs.wantB, e4])]
                    rfl
                  · have e0 : V 0 = (.agg #[.slice p t.words.length c, .slice q t.turns.length d, .int .i64 t.breath]) := hs 0 (by simp)
                    have e1 : V 1 = .int .i64 (a : Int) := hs 1 (by simp)
                    have e2 : V 2 = .int .i64 (b : Int) := hs 2 (by simp)
                    have e3 : V 3 = .bool false := hs 3 (by simp)
                    have e4 : V 4 = .bool false := hs 4 (by simp)
                    have e9 : V 9 = undef := hs 9 (by simp)
                    have e10 : V 10 = undef := hs 10 (by simp)
                    have e11 : V 11 = undef := hs 11 (by simp)
                    rw [if_neg (by simp [Rs.wantB, e4])]
                    rfl
                  · have e0 : V 0 = (.agg #[.slice p t.words.length c, .slice q t.turns.length d, .int .i64 t.breath]) := hs 0 (by simp)
                    have e1 : V 1 = .int .i64 (a : Int) := hs 1 (by simp)
                    have e2 : V 2 = .int .i64 (b : Int) := hs 2 (by simp)
                    have e3 : V 3 = .bool false := hs 3 (by simp)
                    have e4 : V 4 = .bool false := hs 4 (by simp)
                    have e9 : V 9 = undef := hs 9 (by simp)
                    have e10 : V 10 = undef := hs 10 (by simp)
                    have e11 : V 11 = undef := hs 11 (by simp)
                    have e12 : V 12 = undef := hs 12 (by simp)
                    rw [if_neg (by simp [Rs.wantB, e4])]
                    rfl
                  · have e0 : V 0 = (.agg #[.slice p t.words.length c, .slice q t.turns.length d, .int .i64 t.breath]) := hs 0 (by simp)
                    have e1 : V 1 = .int .i64 (a : Int) := hs 1 (by simp)
                    have e2 : V 2 = .int .i64 (b : Int) := hs 2 (by simp)
                    have e3 : V 3 = .bool false := hs 3 (by simp)
                    have e4 : V 4 = .bool false := hs 4 (by simp)
                    have e5 : V 5 = undef := hs 5 (by simp)
                    have e6 : V 6 = undef := hs 6 (by simp)
                    have e7 : V 7 = undef := hs 7 (by simp)
                    have e8 : V 8 = undef := hs 8 (by simp)
                    have e9 : V 9 = undef := hs 9 (by simp)
                    have e10 : V 10 = undef := hs 10 (by simp)
                    have e11 : V 11 = undef := hs 11 (by simp)
                    have e12 : V 12 = undef := hs 12 (by simp)
                    have e13 : V 13 = undef := hs 13 (by simp)
                    rw [if_neg (by simp [Rs.wantB, e4])]
                    rfl
                  · have e0 : V 0 = (.agg #[.slice p t.words.length c, .slice q t.turns.length d, .int .i64 t.breath]) := hs 0 (by simp)
                    have e1 : V 1 = .int .i64 (a : Int) := hs 1 (by simp)
                    have e2 : V 2 = .int .i64 (b : Int) := hs 2 (by simp)
                    have e3 : V 3 = .bool false := hs 3 (by simp)
                    have e4 : V 4 = .bool false := hs 4 (by simp)
                    have e5 : V 5 = undef := hs 5 (by simp)
                    have e6 : V 6 = undef := hs 6 (by simp)
                    have e7 : V 7 = undef := hs 7 (by simp)
                    have e8 : V 8 = undef := hs 8 (by simp)
                    have e9 : V 9 = undef := hs 9 (by simp)
                    have e10 : V 10 = undef := hs 10 (by simp)
                    have e11 : V 11 = undef := hs 11 (by simp)
                    have e12 : V 12 = undef := hs 12 (by simp)
                    have e13 : V 13 = undef := hs 13 (by simp)
                    have e14 : V 14 = undef := hs 14 (by simp)
                    rw [if_pos (by rfl)]
                    exact Rs.GrowL.value (v := .bool false) (w' := w') (by simp [go_sem, Rs.look, e0, e1, e2, e3, e4, e5, e6, e7, e8, e9, e10, e11, e12, e13, e14]) (Rs.Gr.refl _) rfl
                · intro V w' hG hs
                  have e0 : V 0 = (.agg #[.slice p t.words.length c, .slice q t.turns.length d, .int .i64 t.breath]) := hs 0 (by omega)
                  have e1 : V 1 = .int .i64 (a : Int) := hs 1 (by omega)
                  have e2 : V 2 = .int .i64 (b : Int) := hs 2 (by omega)
                  have e3 : V 3 = .bool false := hs 3 (by omega)
                  have e4 : V 4 = .bool false := hs 4 (by omega)
                  have e5 : V 5 = undef := hs 5 (by omega)
                  have e6 : V 6 = undef := hs 6 (by omega)
                  have e7 : V 7 = undef := hs 7 (by omega)
                  have e8 : V 8 = undef := hs 8 (by omega)
                  have e9 : V 9 = undef := hs 9 (by omega)
                  have e10 : V 10 = undef := hs 10 (by omega)
                  have e11 : V 11 = undef := hs 11 (by omega)
                  have e12 : V 12 = undef := hs 12 (by omega)
                  have e13 : V 13 = undef := hs 13 (by omega)
                  have e14 : V 14 = undef := hs 14 (by omega)
                  have e15 : V 15 = .bool false := hs 15 (by omega)
                  simp only [Rs.canon, Rs.dstOf, List.range_succ, List.range_zero, List.nil_append, List.cons_append, List.foldl_cons, List.foldl_nil, List.drop_succ_cons, List.drop_zero, List.drop_nil, List.getElem?_toArray, List.getElem?_cons_succ, List.getElem?_cons_zero, Option.bind_some, List.getD_cons_succ, List.getD_cons_zero]
                  rw [e0, e1, e2, e3, e4, e5, e6, e7, e8, e9, e10, e11, e12, e13, e14, e15]
                  go_frame
                  clear e0 e1 e2 e3 e4 e5 e6 e7 e8 e9 e10 e11 e12 e13 e14 e15 hs
                  have HGG := Lib.hid (join HBc.out hG)
                  clear hG hwr hwr2 hia hib hia2 hib2
                  go_wp2
                  go_roundw
                  case rel => exact ⟨b + 1, by omega, by omega, by go_num, HGG⟩
                  case measure => simp [intOf]; omega
            · go_wp2
              go_roundw
              case rel => exact ⟨a + 1, by omega, by go_num, Lib.hid (join HBb.out HBc.out)⟩
              case measure => simp [intOf]; omega
        · have HBW := Lib.hid (join HBA.out HBb.out)
          have HTW := Lib.hid (HT8.out.below HBW.out)
          have HFW := Lib.hid (HF8.out.below HBW.out)
          have HSW := Lib.hid (HS8.out.below HBW.out)
          have HBXW := Lib.hid ((HBW.out.block T (by omega)).trans HBX8.out)
          have hzW := HBW.out.size
          go_wp2_with fail
          go_loopw [174] (fun i wr => ∃ k : Nat, k ≤ 10 ∧ i = .int .i64 k ∧ Hid (BellOk wr (T + 1) pq nq cq) ∧ Hid (Hold (fun k => k ≠ T + 1) W8 wr)) (fun i _ => 10 - (intOf i).toNat)
          case atStart => exact ⟨0, by omega, rfl, Lib.hid (HBQ8.out.below HBW.out), Lib.hid (Hold.below HBW.out)⟩
          case round => as_aux_lemma =>
            clear k0 k1 k2
            obtain ⟨w3, rfl⟩ : ∃ w3 : World, w3 = wr := ⟨_, rfl⟩
            obtain ⟨k, hk, rfl, HB3, HH3⟩ := hrel
            have hz3 := HH3.out.size
            have HTx := Lib.hid (HTT.out _ (HB38.out.trans (hold_below HH3.out (by omega))))
            have HBX := Lib.hid ((HH3.out.same T (show T ≠ T + 1 by omega) (by omega)).trans HBX8.out)
            obtain ⟨k0, k1, k2⟩ := blk3 HBX.out
            by_cases hlt : k < 10
            · have hlt' : (k : Int) < 10 := by omega
              go_wp2_with fail
              refine (tried_any (T + 1) pq nq cq t.words HOK.out.n1 (by omega) (.slice q t.turns.length d) (.int .i64 t.breath) p c _ HB3.out (fun h mb mo e => Nat.lt_of_lt_of_le (HMQ8.out h mb mo e) hz3) HTx.out.words HPW.out).mono ?_
              rintro e wA ⟨v, o, rfl, HO, HPO, HBA, HHA⟩
              obtain ⟨po, co, rfl, hio, -, -⟩ := own_rd HO.out rfl
              have HIO := Lib.hid hio
              have hzA := HHA.out.size
              have HHB := Lib.hid (HH3.out.trans HHA.out)
              have HTA := Lib.hid (HTT.out _ (HB38.out.trans (hold_below HHB.out (by omega))))
              have HBXA := Lib.hid ((HHB.out.same T (show T ≠ T + 1 by omega) (by omega)).trans HBX8.out)
              have hol : o.length ≤ 100000 := by have := parts_len2 HPO.out; omega
              clear hio k0 k1 k2 HO
              obtain ⟨k0, k1, k2⟩ := blk3 HBXA.out
              go_wp2_with fail
              refine (sound_any t HOK.out p q c d HC.out o hol po co _ HTA.out HIO.out).mono ?_
              rintro e wS ⟨rfl, hBS⟩
              rw [sound_ok HPO.out]
              have HBXS := Lib.hid ((hBS.block T (by omega)).trans HBXA.out)
              have HTS := Lib.hid (HTA.out.below hBS)
              have HIS := Lib.hid (HIO.out.below hBS)
              have hzS := hBS.size
              have HEND := Lib.hid (show ∀ W', Below wS.heap.size wS W' → Hid (BellOk W' (T + 1) pq nq cq) ∧ Hid (Hold (fun k => k ≠ T + 1) W8 W') from fun W' h => ⟨Lib.hid (HBA.out.below (join hBS h)), Lib.hid (HHB.out.trans (Hold.below (join hBS h)))⟩)
              have HSN := Lib.hid (fun W (h : Below wS.heap.size wS W) => sound_any t HOK.out p q c d HC.out o hol po co W (HTS.out.below h) (HIS.out.below h))
              have HWR := Lib.hid (fun W (h : Below wS.heap.size wS W) => Wrong_any t o hn9 hn3 (by omega) p q po c d co HC.out W (HTS.out.below h) (HIS.out.below h))
              have HSU := Lib.hid (fun W (h : Below wS.heap.size wS W) => sure_any t HOK.out p q c d o hol po co W (HTS.out.below h) (HIS.out.below h))
              have HTXS := Lib.hid (fun W (h : Below wS.heap.size wS W) => (h.block T (by omega)).trans HBXS.out)
              have HWE := Lib.hid (wrongR_err HOK.out HE.out HPO.out)
              rw [sound_ok HPO.out] at HSN
              rw [plc_ok HPO.out] at HSU
              obtain ⟨wa, wk, we, hwr⟩ : ∃ wa wk we, wrongR t o = (wa, wk, we) := ⟨_, _, _, rfl⟩
              rw [hwr] at HWR HWE
              dsimp only at HWR HWE
              clear hBS k0 k1 k2 hwr
              obtain ⟨k0, k1, k2⟩ := blk3 HBXS.out
              cases hs : okFrom t.right 0 o with
              | false =>
                rw [hs] at HSN HWE
                clear hs
                obtain rfl : we = 0 := HWE.out
                have HG1 := Lib.hid (Below.refl wS.heap.size wS)
                go_wp2_with fail
                refine (HWR.out _ HG1.out).mono ?_
                rintro e wf ⟨rfl, hBf⟩
                have HGf := Lib.hid (join HG1.out hBf)
                clear hBf k0 k1 k2
                obtain ⟨k0, k1, k2⟩ := blk3 (HTXS.out _ HGf.out)
                go_wp2_with fail
                refine (HSN.out _ HGf.out).mono ?_
                rintro e wg ⟨rfl, hBg⟩
                have HGg := Lib.hid (join HGf.out hBg)
                clear hBg k0 k1 k2
                go_wp2
                go_roundw
                case rel => first | exact ⟨k + 1, by omega, by go_num, HEND.out _ HGg.out⟩ | ((repeat apply Exists.intro); exact ⟨⟨k + 1, by omega, by go_num, HEND.out _ HGg.out⟩, rfl⟩)
                case measure => simp [intOf]; omega
              | true =>
                rw [hs] at HSN HWE
                obtain rfl : we = 6 := HWE.out
                have hfo := (HBR.out.few HFE.out).2.2 o HPO.out hs
                have hfo2 : ¬ (o.length : Int) < ((fewL t).length : Int) := by omega
                have HLOW := Lib.hid (fun h => HBR.out.low o HPO.out hs h)
                clear hs hfo
                go_wp2_with fail
                refine (HSU.out _ (Below.refl _ _)).mono ?_
                rintro e wu ⟨rfl, hBu⟩
                have HG1 := Lib.hid hBu
                clear hBu k0 k1 k2 hfo2
                obtain ⟨k0, k1, k2⟩ := blk3 (HTXS.out _ HG1.out)
                cases hsu : sureP t.turns (placesL o) with
                | false =>
                  clear hsu HLOW
                  go_wp2_with fail
                  refine (HWR.out _ HG1.out).mono ?_
                  rintro e wf ⟨rfl, hBf⟩
                  have HGf := Lib.hid (join HG1.out hBf)
                  clear hBf k0 k1 k2
                  obtain ⟨k0, k1, k2⟩ := blk3 (HTXS.out _ HGf.out)
                  go_wp2_with fail
                  refine (HSN.out _ HGf.out).mono ?_
                  rintro e wg ⟨rfl, hBg⟩
                  have HGg := Lib.hid (join HGf.out hBg)
                  clear hBg k0 k1 k2
                  go_wp2
                  go_roundw
                  case rel => first | exact ⟨k + 1, by omega, by go_num, HEND.out _ HGg.out⟩ | ((repeat apply Exists.intro); exact ⟨⟨k + 1, by omega, by go_num, HEND.out _ HGg.out⟩, rfl⟩)
                  case measure => simp [intOf]; omega
                | true =>
                  have := (HLOW.out hsu).1
                  have := HSE.out
                  omega
            · have hkk : k = 10 := by omega
              subst hkk
              clear hlt hk
              go_wp2_with fail
              refine (awake_any _).mono ?_
              rintro e w9 ⟨rfl, hB9⟩
              have HBF := Lib.hid (HW3.out.trans (((HB38.out.trans (hold_below HH3.out (by omega))).mono (show w.heap.size ≤ T + 1 by omega)).trans (hB9.mono (by omega))))
              clear hB9
              go_wp2
              go_ret
              exact ⟨rfl, HBF.out⟩
  · have HFE := Lib.hid hfe
    have hse := (HBR.out.none hfe).1
    have HSE := Lib.hid hse
    clear hfe hse
    go_wp2_with fail
    refine (Fewest_any t hn9 hn3 p q c d HC.out _ HT4.out).mono ?_
    rintro e W5 ⟨v, rfl, hown, hB5⟩
    rw [HFE.out]
    obtain ⟨pf, cf, rfl, hF, -, -⟩ := own_rd hown rfl
    have HF := Lib.hid hF
    have HT5 := Lib.hid (HT4.out.below hB5)
    have HBX5 := Lib.hid ((hB5.block T (by omega)).trans HBX4.out)
    have hz5 := hB5.size
    have HB5 := Lib.hid hB5
    clear hown hF hB5 k0 k1 k2
    obtain ⟨k0, k1, k2⟩ := blk3 HBX5.out
    go_wp2_with fail
    refine (Marks_any t hn9 hn3 p q c d HC.out _ HT5.out).mono ?_
    rintro e W6 ⟨pm, cm, rfl, hM, hB6⟩
    rw [HFE.out]
    have HM := Lib.hid hM
    have HF6 := Lib.hid (HF.out.below hB6)
    have HT6 := Lib.hid (HT5.out.below hB6)
    have HBX6 := Lib.hid ((hB6.block T (by omega)).trans HBX5.out)
    have hz6 := hB6.size
    have HB6 := Lib.hid (join HB5.out hB6)
    clear hM hB6 HF HB5 k0 k1 k2 HBX5 HT5
    obtain ⟨k0, k1, k2⟩ := blk3 HBX6.out
    go_wp2_with fail
    refine (Surest_any t hn9 hn3 p q c d HC.out _ HT6.out).mono ?_
    rintro e W7 ⟨v, rfl, hown, hB7⟩
    rw [HSE.out]
    obtain ⟨ps, cs, rfl, hS, -, -⟩ := own_rd hown rfl
    have HS := Lib.hid hS
    have HF7 := Lib.hid (HF6.out.below hB7)
    have HM7 := Lib.hid (HM.out.below hB7)
    have HT7 := Lib.hid (HT6.out.below hB7)
    have HBX7 := Lib.hid ((hB7.block T (by omega)).trans HBX6.out)
    have hz7 := hB7.size
    have HB7 := Lib.hid (join HB6.out hB7)
    clear hown hS hB7 HF6 HB6 HM k0 k1 k2 HBX6 HT6
    obtain ⟨k0, k1, k2⟩ := blk3 HBX7.out
    go_wp2_with fail
    refine (Check_any t hn9 hn3 p q c d _ HT7.out).mono ?_
    rintro e W8 ⟨rfl, hB8⟩
    rw [HE.out]
    have HS8 := Lib.hid (HS.out.below hB8)
    have HF8 := Lib.hid (HF7.out.below hB8)
    have HM8 := Lib.hid (HM7.out.below hB8)
    have HT8 := Lib.hid (HT7.out.below hB8)
    have HBX8 := Lib.hid ((hB8.block T (by omega)).trans HBX7.out)
    have hz8 := hB8.size
    have HB8 := Lib.hid (join HB7.out hB8)
    have HBQ8 := Lib.hid (HBQ.out.below HB8.out)
    have HB38 := Lib.hid (HB34.out.trans (HB8.out.mono (by omega)))
    have HMQ8 := Lib.hid (show nq ≠ 0 → ∀ mb mo, pq = some ⟨mb, mo, none⟩ → mb < W8.heap.size from fun h mb mo e => Nat.lt_of_lt_of_le (HMQ.out h mb mo e) HB8.out.size)
    have hz58 : T + 2 ≤ W8.heap.size := by have := HB8.out.size; omega
    clear hB8 HS HF7 HM7 HT7 HBX7 HB7 HBQ HMQ HT4 HBX4 hz4 HB34 hz5 hz6 hz7 hz8 HB8 k0 k1 k2
    obtain ⟨k0, k1, k2⟩ := blk3 HBX8.out
    go_wp2_with fail
    go_loopw [174] (fun i wr => ∃ k : Nat, k ≤ 10 ∧ i = .int .i64 k ∧ Hid (BellOk wr (T + 1) pq nq cq) ∧ Hid (Hold (fun k => k ≠ T + 1) W8 wr)) (fun i _ => 10 - (intOf i).toNat)
    case atStart => exact ⟨0, by omega, rfl, HBQ8, Lib.hid (Hold.refl _ _)⟩
    case round => as_aux_lemma =>
      clear k0 k1 k2
      obtain ⟨w3, rfl⟩ : ∃ w3 : World, w3 = wr := ⟨_, rfl⟩
      obtain ⟨k, hk, rfl, HB3, HH3⟩ := hrel
      have hz3 := HH3.out.size
      have HTx := Lib.hid (HTT.out _ (HB38.out.trans (hold_below HH3.out (by omega))))
      have HBX := Lib.hid ((HH3.out.same T (show T ≠ T + 1 by omega) (by omega)).trans HBX8.out)
      obtain ⟨k0, k1, k2⟩ := blk3 HBX.out
      by_cases hlt : k < 10
      · have hlt' : (k : Int) < 10 := by omega
        go_wp2_with fail
        refine (tried_any (T + 1) pq nq cq t.words HOK.out.n1 (by omega) (.slice q t.turns.length d) (.int .i64 t.breath) p c _ HB3.out (fun h mb mo e => Nat.lt_of_lt_of_le (HMQ8.out h mb mo e) hz3) HTx.out.words HPW.out).mono ?_
        rintro e wA ⟨v, o, rfl, HO, HPO, HBA, HHA⟩
        obtain ⟨po, co, rfl, hio, -, -⟩ := own_rd HO.out rfl
        have HIO := Lib.hid hio
        have hzA := HHA.out.size
        have HHB := Lib.hid (HH3.out.trans HHA.out)
        have HTA := Lib.hid (HTT.out _ (HB38.out.trans (hold_below HHB.out (by omega))))
        have HBXA := Lib.hid ((HHB.out.same T (show T ≠ T + 1 by omega) (by omega)).trans HBX8.out)
        have hol : o.length ≤ 100000 := by have := parts_len2 HPO.out; omega
        clear hio k0 k1 k2 HO
        obtain ⟨k0, k1, k2⟩ := blk3 HBXA.out
        go_wp2_with fail
        refine (sound_any t HOK.out p q c d HC.out o hol po co _ HTA.out HIO.out).mono ?_
        rintro e wS ⟨rfl, hBS⟩
        rw [sound_ok HPO.out]
        have HBXS := Lib.hid ((hBS.block T (by omega)).trans HBXA.out)
        have HTS := Lib.hid (HTA.out.below hBS)
        have HIS := Lib.hid (HIO.out.below hBS)
        have hzS := hBS.size
        have HEND := Lib.hid (show ∀ W', Below wS.heap.size wS W' → Hid (BellOk W' (T + 1) pq nq cq) ∧ Hid (Hold (fun k => k ≠ T + 1) W8 W') from fun W' h => ⟨Lib.hid (HBA.out.below (join hBS h)), Lib.hid (HHB.out.trans (Hold.below (join hBS h)))⟩)
        have HSN := Lib.hid (fun W (h : Below wS.heap.size wS W) => sound_any t HOK.out p q c d HC.out o hol po co W (HTS.out.below h) (HIS.out.below h))
        have HWR := Lib.hid (fun W (h : Below wS.heap.size wS W) => Wrong_any t o hn9 hn3 (by omega) p q po c d co HC.out W (HTS.out.below h) (HIS.out.below h))
        have HSU := Lib.hid (fun W (h : Below wS.heap.size wS W) => sure_any t HOK.out p q c d o hol po co W (HTS.out.below h) (HIS.out.below h))
        have HTXS := Lib.hid (fun W (h : Below wS.heap.size wS W) => (h.block T (by omega)).trans HBXS.out)
        have HWE := Lib.hid (wrongR_err HOK.out HE.out HPO.out)
        rw [sound_ok HPO.out] at HSN
        rw [plc_ok HPO.out] at HSU
        obtain ⟨wa, wk, we, hwr⟩ : ∃ wa wk we, wrongR t o = (wa, wk, we) := ⟨_, _, _, rfl⟩
        rw [hwr] at HWR HWE
        dsimp only at HWR HWE
        clear hBS k0 k1 k2 hwr
        obtain ⟨k0, k1, k2⟩ := blk3 HBXS.out
        cases hs : okFrom t.right 0 o with
        | false =>
          rw [hs] at HSN HWE
          clear hs
          obtain rfl : we = 0 := HWE.out
          have HG1 := Lib.hid (Below.refl wS.heap.size wS)
          go_wp2_with fail
          refine (HWR.out _ HG1.out).mono ?_
          rintro e wf ⟨rfl, hBf⟩
          have HGf := Lib.hid (join HG1.out hBf)
          clear hBf k0 k1 k2
          obtain ⟨k0, k1, k2⟩ := blk3 (HTXS.out _ HGf.out)
          go_wp2_with fail
          refine (HSN.out _ HGf.out).mono ?_
          rintro e wg ⟨rfl, hBg⟩
          have HGg := Lib.hid (join HGf.out hBg)
          clear hBg k0 k1 k2
          go_wp2
          go_roundw
          case rel => first | exact ⟨k + 1, by omega, by go_num, HEND.out _ HGg.out⟩ | ((repeat apply Exists.intro); exact ⟨⟨k + 1, by omega, by go_num, HEND.out _ HGg.out⟩, rfl⟩)
          case measure => simp [intOf]; omega
        | true =>
          rw [hs] at HSN HWE
          exact ((HBR.out.none HFE.out).2 o HPO.out hs).elim
      · have hkk : k = 10 := by omega
        subst hkk
        clear hlt hk
        go_wp2_with fail
        refine (awake_any _).mono ?_
        rintro e w9 ⟨rfl, hB9⟩
        have HBF := Lib.hid (HW3.out.trans (((HB38.out.trans (hold_below HH3.out (by omega))).mono (show w.heap.size ≤ T + 1 by omega)).trans (hB9.mono (by omega))))
        clear hB9
        go_wp2
        go_ret
        exact ⟨rfl, HBF.out⟩
end Go.Proofs.Ytadnggecnjdhiaa
namespace Go.Proofs.Ytadnggecnjdhiaa
open Go.ChangeShapes Go.WideShapes Go.ChangeAt Go.RowKit Go.Joins Tx
set_option linter.unusedVariables false
set_option linter.unusedSimpArgs false

set_option maxRecDepth 100000 in
theorem TextBroken_lifted (os : Os) (started : os.Started) (H : Type) (enc : TypeId × Value → H) :
    ReturnsInHanded {} Try.checked os 9 .any (Rows.textBrokenSpec.pre6 enc Try.prog Try.f9 Rows.textBrokenRow.domain false) (Rows.textBrokenSpec.post enc Try.prog Try.f9 false true false false) := by
  refine returnsInHanded_of_change (C := Try.checked) Try.own started (by kernel_rfl) Try.func9
    (ChangeSpec.witness6 (enc := enc) (C := Try.checked) false ⟨#[], #[.slice none 0 0, .slice none 0 0], []⟩ 8 (by kernel_rfl) (by kernel_rfl) (by kernel_rfl) (by kernel_rfl)) ?_
  intro W base args ds gs before hval0 hW hcnd _
  have hval : ∀ (j : Nat) t v, Try.f9.params[j]? = some t → args[j]? = some v → Value.okWide Try.prog W .any base t v := hval0
  have hW' := hW
  obtain ⟨p, q, hA0, hV, rfl, hfz, hnd⟩ := hW
  have hA : DataW.TrodAll enc Try.prog W 0 (fun _ => true) true Try.f9.params.toList args.toList ds p := hA0
  rw [Try.params9] at hA hval
  obtain ⟨v0, vs0, d0, ds0, p0, q0, hargs, rfl, rfl, h0, r0⟩ := trodAll_cons hA
  obtain ⟨v1, vs1, d1, ds1, p1, q1, rfl, rfl, rfl, h1, r1⟩ := trodAll_cons r0
  obtain ⟨rfl, rfl, rfl⟩ := trodAll_nil r1
  obtain rfl : args = #[v0, v1] := by cases args; simp_all
  obtain ⟨rfl, rfl⟩ := trodVars_none hV
  have lt0 := lt_of_trod h0
  have k0 := h0
  obtain ⟨a0, n0, c0, e0, l0, hB0⟩ := bytes_of_Trod (fun _ => rfl) (hval 0 88 v0 rfl rfl) h0
  have lt1 := lt_of_trod h1
  have k1 := h1
  obtain ⟨a1, n1, c1, e1, l1, hB1⟩ := bytes_of_Trod (fun _ => rfl) (hval 1 88 v1 rfl rfl) h1
  clear hA0 hval0
  subst e0
  subst e1
  refine (TextBroken_any a0 a1 n0 c0 n1 c1 l0 l1 W hB0 hB1).mono fun e W' ⟨he, bel⟩ => ?_
  subst he
  exact ⟨_, rfl, _, _, _, [], _, [], hW', trodAll_mk1 (shut_bool Try.underlying4 _), (trodAll_cons_mk (Below.trod Try.laidOut (by kernel_rfl) (of_decide_eq_true (by kernel_rfl)) k0 bel lt0) (trodAll_cons_mk (Below.trod Try.laidOut (by kernel_rfl) (of_decide_eq_true (by kernel_rfl)) k1 bel lt1) trodAll_mk0)), rfl, bel.frame _, fun h => by cases h⟩

theorem TextBroken_holds : Rows.TextBrokenSaid :=
  OpenClaim.holds_of_wide 9 Try.f9 rfl rfl rfl rfl rfl rfl rfl ⟨rfl, rfl, rfl, rfl, rfl⟩ rfl rfl rfl rfl rfl (by kernel_rfl) Try.func9 (by kernel_rfl)
    (of_decide_eq_true (by kernel_rfl)) (by unfold Func.isWrapper; first | (rw [if_pos (by decide +kernel)]; kernel_rfl) | (rw [if_neg (by decide +kernel)]; exact ⟨rfl, rfl⟩))
    (fun os started H enc _ => TextBroken_lifted os started H enc)
end Go.Proofs.Ytadnggecnjdhiaa
