/- oyezlaw02.TextLone, for any input. No condition. -/
import Derived.Test.YtadnggecnjdhiaaZl
namespace Go.Proofs.Ytadnggecnjdhiaa
open Tx
set_option linter.unusedSimpArgs false
set_option linter.unusedVariables false

/-- the longest breath of a reading that begins at a place -/
def longGo (t : Text) : Nat → List Int → Int
  | _, [] => 0
  | a, x :: l => max (t.syl a (a + x.toNat)) (longGo t (a + x.toNat) l)
/-- what Even tries: breaths of at most so many syllables -/
def evGo (t : Text) : List Nat → List Int × Int × Int
  | [] => ([], 0, 6)
  | m :: ms => if (fewest (t.within (m : Nat)) t.words.length).2 = 0 then ((fewest (t.within (m : Nat)) t.words.length).1, (m : Int), 0) else evGo t ms
def evR (t : Text) : List Int × Int × Int := if t.err = 0 then evGo t (List.range' 1 t.breath.toNat) else ([], 0, t.err)
theorem okFrom_within (t : Text) (m : Int) (hm : 0 ≤ m) : ∀ (l : List Int) (a : Nat), okFrom (t.within m) a l = (okFrom t.right a l && decide (longGo t a l ≤ m))
  | [], a => by simp [okFrom, longGo, hm]
  | x :: l, a => by
    rw [okFrom, okFrom, longGo, okFrom_within t m hm l]
    unfold Tx.Text.within
    rw [Bool.eq_iff_iff]
    simp only [Bool.and_eq_true, decide_eq_true_eq]
    constructor
    · rintro ⟨⟨h1, h2⟩, h3, h4⟩
      exact ⟨⟨h2, h3⟩, by omega⟩
    · rintro ⟨⟨h2, h3⟩, h4⟩
      exact ⟨⟨by omega, h2⟩, h3, by omega⟩
theorem syl_pos {t : Text} (hs : ∀ x ∈ t.words, 1 ≤ x.syl ∧ x.syl ≤ 9) {a b : Nat} (hab : a < b) (hb : b ≤ t.words.length) : 1 ≤ t.syl a b := by
  unfold Text.syl
  have hl : ((slice t.words a b).map (·.syl)).length = b - a := by simp [slice]; omega
  have := isum_ge (l := (slice t.words a b).map (·.syl)) (fun x hx => by
    obtain ⟨y, hy, rfl⟩ := List.mem_map.1 hx
    exact (hs y (List.mem_of_mem_drop (List.mem_of_mem_take hy))).1)
  omega
theorem longGo_pos {t : Text} (hs : ∀ x ∈ t.words, 1 ≤ x.syl ∧ x.syl ≤ 9) {l : List Int} (hl : Parts t.words.length l) (h1 : 1 ≤ t.words.length) : 1 ≤ longGo t 0 l := by
  cases l with
  | nil => have := hl.2; simp [isum] at this; omega
  | cons x l =>
    rw [longGo]
    rw [parts_cons] at hl
    have := parts_pos hl.2
    have := syl_pos hs (a := 0) (b := 0 + x.toNat) (by omega) (by omega)
    omega
theorem longGo_breath {t : Text} (hb : 0 ≤ t.breath) : ∀ (l : List Int) (a : Nat), okFrom t.right a l = true → longGo t a l ≤ t.breath
  | [], a, _ => hb
  | x :: l, a, h => by
    rw [okFrom, Bool.and_eq_true] at h
    have h2 := longGo_breath hb l _ h.2
    have h1 := h.1
    unfold Text.right Text.isLong at h1
    simp only [Bool.and_eq_true, Bool.not_eq_true', decide_eq_false_iff_not] at h1
    rw [longGo]
    omega
theorem evGo_spec (t : Text) : ∀ (ms : List Nat), (evGo t ms = ([], 0, 6) ∧ ∀ m ∈ ms, (fewest (t.within (m : Nat)) t.words.length).2 ≠ 0) ∨
    ∃ pre m post, ms = pre ++ m :: post ∧ evGo t ms = ((fewest (t.within (m : Nat)) t.words.length).1, (m : Int), 0) ∧ (fewest (t.within (m : Nat)) t.words.length).2 = 0 ∧ ∀ k ∈ pre, (fewest (t.within (k : Nat)) t.words.length).2 ≠ 0
  | [] => .inl ⟨rfl, by simp⟩
  | m :: ms => by
    rw [evGo]
    by_cases h : (fewest (t.within (m : Nat)) t.words.length).2 = 0
    · rw [if_pos h]
      exact .inr ⟨[], m, ms, rfl, rfl, h, by simp⟩
    · rw [if_neg h]
      rcases evGo_spec t ms with ⟨h1, h2⟩ | ⟨pre, k, post, h1, h2, h3, h4⟩
      · exact .inl ⟨h1, fun k hk => by rcases List.mem_cons.1 hk with rfl | hk; exact h; exact h2 k hk⟩
      · exact .inr ⟨m :: pre, k, post, by rw [h1]; rfl, h2, h3, fun j hj => by rcases List.mem_cons.1 hj with rfl | hj; exact h; exact h4 j hj⟩
/-- what Even tells, as its law asks -/
theorem evR_spec {t : Text} (he : t.err = 0) (hs : ∀ x ∈ t.words, 1 ≤ x.syl ∧ x.syl ≤ 9) (hn1 : 1 ≤ t.words.length) (hn : t.words.length ≤ 12) (hb : 1 ≤ t.breath) :
    ((evR t).2.2 = 6 ∧ (evR t).1 = [] ∧ ∀ l, Parts t.words.length l → okFrom t.right 0 l = true → False) ∨
    ((evR t).2.2 = 0 ∧ Parts t.words.length (evR t).1 ∧ okFrom t.right 0 (evR t).1 = true ∧ longGo t 0 (evR t).1 = (evR t).2.1 ∧ 1 ≤ (evR t).2.1 ∧ (evR t).2.1 ≤ t.breath ∧
      ∀ l, Parts t.words.length l → okFrom t.right 0 l = true → (evR t).2.1 ≤ longGo t 0 l ∧ (longGo t 0 l = (evR t).2.1 → (evR t).1.length ≤ l.length)) := by
  unfold evR
  rw [if_pos he]
  have hfr := fun m : Nat => fewest_rights (may := t.within (m : Nat)) hn1 hn
  have hno : ∀ (m : Nat) l, Parts t.words.length l → okFrom t.right 0 l = true → longGo t 0 l ≤ m → l ∈ rights (t.within (m : Nat)) t.words.length := fun m l h1 h2 h3 => by
    rw [mem_rights]
    exact ⟨h1, by rw [okFrom_within t _ (by omega), h2]; simpa using h3⟩
  have hnot : ∀ (m : Nat), (fewest (t.within (m : Nat)) t.words.length).2 ≠ 0 → ∀ l, Parts t.words.length l → okFrom t.right 0 l = true → ¬ longGo t 0 l ≤ m := fun m hm l h1 h2 h3 => by
    apply hm
    rw [(hfr m).2.2.2]
    intro e
    have := hno m l h1 h2 h3
    rw [e] at this; simp at this
  rcases evGo_spec t (List.range' 1 t.breath.toNat) with ⟨h1, h2⟩ | ⟨pre, m, post, h1, h2, h3, h4⟩
  · left
    rw [h1]
    refine ⟨rfl, rfl, fun l hl ho => ?_⟩
    refine hnot t.breath.toNat (h2 _ (by rw [List.mem_range'_1]; omega)) l hl ho ?_
    have := longGo_breath (by omega) l 0 ho
    omega
  · right
    rw [h2]
    have hin := (hfr m).2.2.1 h3
    obtain ⟨g1, g2⟩ := mem_rights.1 hin
    rw [okFrom_within t _ (by omega), Bool.and_eq_true, decide_eq_true_eq] at g2
    have hmem : m ∈ List.range' 1 t.breath.toNat := by rw [h1]; simp
    rw [List.mem_range'_1] at hmem
    have hlow : ∀ l, Parts t.words.length l → okFrom t.right 0 l = true → (m : Int) ≤ longGo t 0 l := fun l hl ho => by
      have hp := longGo_pos hs hl hn1
      have hlb := longGo_breath (by omega) l 0 ho
      rcases Nat.lt_or_ge (longGo t 0 l).toNat m with hlt | hge
      · exfalso
        have hk : (longGo t 0 l).toNat ∈ pre := by
          have hlen : m = 1 + pre.length := by
            have e : (List.range' 1 t.breath.toNat)[pre.length]? = some m := by rw [h1]; simp
            rw [List.getElem?_range'] at e
            · simp at e; omega
            · have := congrArg List.length h1; simp at this; omega
          have e2 : (List.range' 1 t.breath.toNat)[(longGo t 0 l).toNat - 1]? = some (longGo t 0 l).toNat := by
            rw [List.getElem?_range' (by omega)]
            congr 1; omega
          rw [h1, List.getElem?_append_left (by omega)] at e2
          exact List.mem_of_getElem? e2
        exact hnot _ (h4 _ hk) l hl ho (by omega)
      · omega
    refine ⟨rfl, g1, g2.1, ?_, by show (1 : Int) ≤ (m : Int); omega, by show (m : Int) ≤ _; omega, fun l hl ho => ⟨hlow l hl ho, fun e => ?_⟩⟩
    · have := hlow _ g1 g2.1
      have := g2.2
      dsimp only at *
      omega
    · have hl2 := hno m l hl ho (by dsimp only at e; omega)
      dsimp only
      rw [(hfr m).1]
      exact (bestLen_spec _ 0 (rights_ne hn1)).2.1 l hl2
end Go.Proofs.Ytadnggecnjdhiaa
set_option linter.unusedSimpArgs false
set_option linter.unusedVariables false
namespace Go.Proofs.Ytadnggecnjdhiaa
open Go.RowKit Tx
attribute [local go_sem] Oper.semAt_some

theorem blk4 {W : World} {b : Nat} {v0 v1 v2 v3 : Value} {ty : TypeId} {fr : Nat × Nat} (h : W.heap[b]? = some (.cells #[v0, v1, v2, v3] ty fr)) : W.cell? ⟨b, 0, none⟩ = some v0 ∧ W.cell? ⟨b, 1, none⟩ = some v1 ∧ W.cell? ⟨b, 2, none⟩ = some v2 ∧ W.cell? ⟨b, 3, none⟩ = some v3 :=
  ⟨blk_cells h 0 _ rfl, blk_cells h 1 _ rfl, blk_cells h 2 _ rfl, blk_cells h 3 _ rfl⟩
theorem parts1_any (u : Turn) (x : Int) (A : Nat) (w : World) (hA : w.heap[A]? = some (.cells #[.int .i64 x] 3 (0, 0))) :
    Calls Try.prog 171 #[.agg #[.int .i64 u.word, .int .i64 u.lo, .int .i64 u.hi], .pointer (some ⟨A, 0, none⟩)] w fun e w' => e = .returned (.bool (u.parts x)) ∧ Below w.heap.size w w' := by
  have hAl := (Array.getElem?_eq_some_iff.1 hA).1
  have c0 := blk_cells hA 0 _ rfl
  obtain ⟨uw, ul, uh⟩ := u
  unfold Turn.parts
  dsimp only
  clear hA
  by_cases h1 : uw < x
  · by_cases h2 : x ≤ ul
    · go_enter Try.func171, Try.ntmps171
      go_wp2
      go_ret
      exact ⟨ret_bool (by simp [h1, h2]), below1 _ _⟩
    · by_cases h3 : uh < x
      · by_cases h4 : x ≤ uw
        · exact absurd h1 (by omega)
        · go_enter Try.func171, Try.ntmps171
          go_wp2
          go_ret
          exact ⟨ret_bool (by simp [h1, h2, h3, h4] <;> omega), below1 _ _⟩
      · go_enter Try.func171, Try.ntmps171
        go_wp2
        go_ret
        exact ⟨ret_bool (by simp [h1, h2, h3] <;> omega), below1 _ _⟩
  · by_cases h3 : uh < x
    · have h4 : x ≤ uw := by omega
      go_enter Try.func171, Try.ntmps171
      go_wp2
      go_ret
      exact ⟨ret_bool (by simp [h1, h3, h4] <;> omega), below1 _ _⟩
    · go_enter Try.func171, Try.ntmps171
      go_wp2
      go_ret
      exact ⟨ret_bool (by simp [h1, h3] <;> omega), below1 _ _⟩
theorem entered_parts1 : Entered 171 := fun args W => by kernel_rfl
theorem parts_any (ts : List Turn) (hl : ts.length ≤ 1000000) (x : Int) (pt : Option Addr) (ct : Nat) (v0 v2 v3 : Value) (w : World) (hT : Tns w pt ts) :
    Calls Try.prog 160 #[.agg #[v0, .slice pt ts.length ct, v2, v3], .int .i64 x] w fun e w' => e = .returned (.bool (ts.any fun u => u.parts x)) ∧ Below w.heap.size w w' := by
  have hmf := mf
  have hB3 : Below w.heap.size w ((w.alloc (.cells #[v0, .slice pt ts.length ct, v2, v3] 125)).alloc (.cells #[.int .i64 x] 3)) := (below1 _ _).alloc (by simp) _
  have hx : ((w.alloc (.cells #[v0, .slice pt ts.length ct, v2, v3] 125)).alloc (.cells #[.int .i64 x] 3)).heap[w.heap.size + 1]? = some (.cells #[.int .i64 x] 3 (0, 0)) := by
    have := heap_last (w.alloc (.cells #[v0, .slice pt ts.length ct, v2, v3] 125)) (.cells #[.int .i64 x] 3)
    rwa [World.size_alloc] at this
  have hcf := containsFuncT 171 entered_parts1 (.pointer (some ⟨w.heap.size + 1, 0, none⟩)) (fun u => u.parts x) ts pt ct _ hl (hT.below hB3) (fun W h u hu => parts1_any u x (w.heap.size + 1) W ((h.block _ (by simp)).trans hx))
  obtain ⟨kv, hkv⟩ : ∃ kv, kv = ts.any (fun u => u.parts x) := ⟨_, rfl⟩
  rw [← hkv] at hcf ⊢
  have HCF := Lib.hid hcf
  have HB3 := Lib.hid hB3
  clear hcf hx hB3 hT hkv
  go_enter Try.func160, Try.ntmps160
  go_wp2_with fail
  refine HCF.out.mono ?_
  rintro e w5 ⟨rfl, hB5⟩
  go_wp2
  go_ret
  exact ⟨rfl, join HB3.out hB5⟩
set_option maxHeartbeats 800000 in
theorem sureB_any (t : Text) (pw pt : Option Addr) (cw ct : Nat) (mf : Value) (a b : Nat) (hab : a ≤ b) (hb : b ≤ t.words.length) (w : World) (hW : WkAt w t pw pt cw) :
    Calls Try.prog 128 #[.agg #[.slice pw t.words.length cw, .slice pt t.turns.length ct, .int .i64 t.breath, mf], .int .i64 a, .int .i64 b] w fun e w' => e = .returned (.bool (t.sureB a b)) ∧ Below w.heap.size w w' := by
  have HR := Lib.hid (fun W (h : Below w.heap.size w W) => right_any t pw pt cw ct mf a b hab hb W (hW.below h))
  have hm6 := hW.ok.m6
  have HP := Lib.hid (fun (x : Int) W (h : Below w.heap.size w W) => parts_any t.turns (by omega) x pt ct (.slice pw t.words.length cw) (.int .i64 t.breath) mf W (hW.at_.turns.below h))
  have hsz : t.sureB a b = (t.right a b && !(t.turns.any fun u => u.parts a) && !(t.turns.any fun u => u.parts b)) := rfl
  clear hW
  obtain ⟨pa, hpa⟩ : ∃ pa, pa = t.turns.any (fun u => u.parts (a : Int)) := ⟨_, rfl⟩
  obtain ⟨pb, hpb⟩ : ∃ pb, pb = t.turns.any (fun u => u.parts (b : Int)) := ⟨_, rfl⟩
  obtain ⟨r, hr⟩ : ∃ r, r = t.right a b := ⟨_, rfl⟩
  have HPA := Lib.hid hpa
  have HPB := Lib.hid hpb
  have HRR := Lib.hid hr
  have HF : Hid (t.sureB a b = (r && !pa && !pb)) := Lib.hid (by rw [hpa, hpb, hr]; exact hsz)
  clear hpa hpb hr hsz
  go_enter Try.func128, Try.ntmps128
  go_wp2_with fail
  refine (HR.out _ (below1 _ _)).mono ?_
  rintro e w5 ⟨rfl, hB5⟩
  rw [← HRR.out]
  obtain ⟨hc5, hf5⟩ := bcell hB5
  have hz5 : w.heap.size < w5.heap.size := by have := hB5.size; simp at this; omega
  have HB5 := Lib.hid (join (below1 _ _) hB5)
  cases r with
  | false =>
    go_wp2
    go_ret
    exact ⟨ret_bool (by rw [HF.out]; rfl), HB5.out⟩
  | true =>
    clear hB5
    go_wp2_with fail
    refine (HP.out a _ HB5.out).mono ?_
    rintro e w6 ⟨rfl, hB6⟩
    rw [← HPA.out]
    obtain ⟨hc6, hf6⟩ := bcell hB6
    have hz6 : w.heap.size < w6.heap.size := by have := hB6.size; omega
    have HB6 := Lib.hid (join HB5.out hB6)
    cases pa with
    | true =>
      go_wp2
      go_ret
      exact ⟨ret_bool (by rw [HF.out]; rfl), HB6.out⟩
    | false =>
      clear hB6
      go_wp2_with fail
      refine (HP.out b _ HB6.out).mono ?_
      rintro e w7 ⟨rfl, hB7⟩
      rw [← HPB.out]
      go_wp2
      go_ret
      exact ⟨ret_bool (by rw [HF.out]; simp), join HB6.out hB7⟩
def spEv1 (pw : Option Addr) (n cw : Nat) (v1 v2 v3 : Value) (a b s m : Int) (r : Bool) : Nat → List Value → Value → World → Prop
  | 0, _, v, _ => v = .agg #[.slice pw n cw, v1, v2, v3]
  | 1, _, v, _ => v = .int .i64 a
  | 2, _, v, _ => v = .int .i64 b
  | 3, _, v, _ => v = .int .i64 s
  | 4, _, v, _ => v = .int .i64 m
  | 5, _, v, _ => v = .bool true
  | 6, _, v, _ => v = .bool true
  | 7, _, v, _ => v = .agg #[.slice pw n cw, v1, v2, v3]
  | 8, _, v, _ => v = .int .i64 a
  | 9, _, v, _ => v = .int .i64 b
  | 10, _, v, _ => v = .bool r
  | 11, _, v, _ => v = .bool r
  | 12, _, v, _ => v = .bool r
  | _, _, _, _ => False
theorem spEv1_stable (pw : Option Addr) (n cw : Nat) (v1 v2 v3 : Value) (a b s m : Int) (r : Bool) : ∀ i L v w w', spEv1 pw n cw v1 v2 v3 a b s m r i L v w → Rs.Gr w w' → spEv1 pw n cw v1 v2 v3 a b s m r i L v w' := by
  intro i L v w w' h hg
  match i with
  | 0 => exact h
  | 1 => exact h
  | 2 => exact h
  | 3 => exact h
  | 4 => exact h
  | 5 => exact h
  | 6 => exact h
  | 7 => exact h
  | 8 => exact h
  | 9 => exact h
  | 10 => exact h
  | 11 => exact h
  | 12 => exact h

def spEv0 (pw : Option Addr) (n cw : Nat) (v1 v2 v3 : Value) (a b s m : Int) (r : Bool) : Nat → List Value → Value → World → Prop
  | 0, _, v, _ => v = .agg #[.slice pw n cw, v1, v2, v3]
  | 1, _, v, _ => v = .int .i64 a
  | 2, _, v, _ => v = .int .i64 b
  | 3, _, v, _ => v = .int .i64 s
  | 4, _, v, _ => v = .int .i64 m
  | 5, _, v, _ => v = .bool false
  | 6, _, v, _ => v = .bool false
  | 7, _, v, _ => v = undef
  | 8, _, v, _ => v = undef
  | 9, _, v, _ => v = undef
  | 10, _, v, _ => v = undef
  | 11, _, v, _ => v = .bool false
  | 12, _, v, _ => v = .bool false
  | _, _, _, _ => False
theorem spEv0_stable (pw : Option Addr) (n cw : Nat) (v1 v2 v3 : Value) (a b s m : Int) (r : Bool) : ∀ i L v w w', spEv0 pw n cw v1 v2 v3 a b s m r i L v w → Rs.Gr w w' → spEv0 pw n cw v1 v2 v3 a b s m r i L v w' := by
  intro i L v w w' h hg
  match i with
  | 0 => exact h
  | 1 => exact h
  | 2 => exact h
  | 3 => exact h
  | 4 => exact h
  | 5 => exact h
  | 6 => exact h
  | 7 => exact h
  | 8 => exact h
  | 9 => exact h
  | 10 => exact h
  | 11 => exact h
  | 12 => exact h

set_option maxHeartbeats 1000000 in
set_option maxRecDepth 100000 in
theorem rightWithin1_any (t : Text) (pw pt : Option Addr) (cw ct : Nat) (mf : Value) (m : Int) (a b : Nat) (hab : a ≤ b) (hb : b ≤ t.words.length) (X Y : Nat) (w : World) (hW : WkAt w t pw pt cw)
    (hX : w.heap[X]? = some (.cells #[.slice pw t.words.length cw, .slice pt t.turns.length ct, .int .i64 t.breath, mf] 125 (0, 0))) (hY : w.heap[Y]? = some (.cells #[.int .i64 m] 3 (0, 0))) :
    Calls Try.prog 162 #[.int .i64 a, .int .i64 b, .pointer (some ⟨X, 0, none⟩), .pointer (some ⟨Y, 0, none⟩)] w fun e w' => e = .returned (.bool (t.within m a b)) ∧ Below w.heap.size w w' := by
  have HRT := Lib.hid (fun W (h : Below w.heap.size w W) => right_any t pw pt cw ct mf a b hab hb W (hW.below h))
  have HSY := Lib.hid (fun W (h : Below w.heap.size w W) => syl_any t hW.ok pw cw (.slice pt t.turns.length ct) (.int .i64 t.breath) mf a b hab hb hW.cap W (hW.at_.words.below h))
  have HX := Lib.hid hX
  have HY := Lib.hid hY
  have HXl := (Array.getElem?_eq_some_iff.1 hX).1
  have HYl := (Array.getElem?_eq_some_iff.1 hY).1
  have hF : t.within m a b = (decide (t.syl a b ≤ m) && t.right a b) := rfl
  have HF := Lib.hid hF
  clear hX hY hW hF
  by_cases hsm : t.syl a b ≤ m
  · have HSM := Lib.hid hsm
    go_enter Try.func162, Try.ntmps162
    go_wp2_with fail
    refine Rs.region_gen 13 [[], [], [], [0, 1, 2], [], [0, 1, 2, 3, 4], [0, 1, 2, 3, 4, 5], [0, 1, 2, 3, 4, 5, 6], [0, 1, 2, 3, 4, 5, 6], [0, 1, 2, 3, 4, 5, 6], [0, 1, 2, 3, 4, 5, 6, 7, 8, 9], [0, 1, 2, 3, 4, 5, 6, 7, 8, 9, 10], [0, 1, 2, 3, 4, 5, 6, 7, 8, 9, 10, 11]] [some 7, some 8, some 9, some 10, some 11, some 12, some 13, some 14, some 15, some 16, some 17, some 18, some 6] (spEv1 pw t.words.length cw (.slice pt t.turns.length ct) (.int .i64 t.breath) mf a b (t.syl a b) m (t.right a b)) (by kernel_rfl) (by kernel_rfl) rfl (spEv1_stable _ _ _ _ _ _ _ _ _ _ _) ?_ ?_
    · refine ⟨fun V w' hG hs => ?_, fun V w' hG hs => ?_, fun V w' hG hs => ?_, fun V w' hG hs => ?_, fun V w' hG hs => ?_, fun V w' hG hs => ?_, fun V w' hG hs => ?_, fun V w' hG hs => ?_, fun V w' hG hs => ?_, fun V w' hG hs => ?_, fun V w' hG hs => ?_, fun V w' hG hs => ?_, fun V w' hG hs => ?_, trivial⟩
      all_goals
        obtain ⟨k0, k1, k2, k3⟩ := blk4 ((hG.block X HXl).trans HX.out)
        have c0 := blk_cells ((hG.block Y HYl).trans HY.out) 0 _ rfl
      · rw [if_pos (by rfl)]
        exact Rs.GrowL.value (v := .agg #[.slice pw t.words.length cw, (.slice pt t.turns.length ct), (.int .i64 t.breath), mf]) (w' := w') (by simp [go_sem, Rs.look, k0, k1, k2, k3]) (Rs.Gr.refl _) rfl
      · rw [if_pos (by rfl)]
        exact Rs.GrowL.value (v := .int .i64 a) (w' := w') (by simp [go_sem, Rs.look]) (Rs.Gr.refl _) rfl
      · rw [if_pos (by rfl)]
        exact Rs.GrowL.value (v := .int .i64 b) (w' := w') (by simp [go_sem, Rs.look]) (Rs.Gr.refl _) rfl
      · have e0 : V 0 = .agg #[.slice pw t.words.length cw, (.slice pt t.turns.length ct), (.int .i64 t.breath), mf] := hs 0 (by simp)
        have e1 : V 1 = .int .i64 a := hs 1 (by simp)
        have e2 : V 2 = .int .i64 b := hs 2 (by simp)
        rw [if_pos (by rfl)]
        refine Rs.GrowL.call (f := 163) (args := #[.agg #[.slice pw t.words.length cw, .slice pt t.turns.length ct, .int .i64 t.breath, mf], .int .i64 a, .int .i64 b]) (by simp [go_sem, Rs.look, e0, e1, e2]) ?_
        refine (HSY.out w' hG).mono ?_
        rintro e w2 ⟨rfl, hB2⟩
        exact ⟨_, rfl, hB2, rfl⟩
      · rw [if_pos (by rfl)]
        exact Rs.GrowL.value (v := .int .i64 m) (w' := w') (by simp [go_sem, Rs.look, c0]) (Rs.Gr.refl _) rfl
      · have e0 : V 0 = .agg #[.slice pw t.words.length cw, (.slice pt t.turns.length ct), (.int .i64 t.breath), mf] := hs 0 (by simp)
        have e1 : V 1 = .int .i64 a := hs 1 (by simp)
        have e2 : V 2 = .int .i64 b := hs 2 (by simp)
        have e3 : V 3 = .int .i64 (t.syl a b) := hs 3 (by simp)
        have e4 : V 4 = .int .i64 m := hs 4 (by simp)
        rw [if_pos (by rfl)]
        exact Rs.GrowL.value (v := .bool true) (w' := w') (by simp [go_sem, Rs.look, e0, e1, e2, e3, e4, hsm]) (Rs.Gr.refl _) rfl
      · have e0 : V 0 = .agg #[.slice pw t.words.length cw, (.slice pt t.turns.length ct), (.int .i64 t.breath), mf] := hs 0 (by simp)
        have e1 : V 1 = .int .i64 a := hs 1 (by simp)
        have e2 : V 2 = .int .i64 b := hs 2 (by simp)
        have e3 : V 3 = .int .i64 (t.syl a b) := hs 3 (by simp)
        have e4 : V 4 = .int .i64 m := hs 4 (by simp)
        have e5 : V 5 = .bool true := hs 5 (by simp)
        rw [if_pos (by rfl)]
        exact Rs.GrowL.value (v := .bool true) (w' := w') (by simp [go_sem, Rs.look, e0, e1, e2, e3, e4, e5]) (Rs.Gr.refl _) rfl
      · have e0 : V 0 = .agg #[.slice pw t.words.length cw, (.slice pt t.turns.length ct), (.int .i64 t.breath), mf] := hs 0 (by simp)
        have e1 : V 1 = .int .i64 a := hs 1 (by simp)
        have e2 : V 2 = .int .i64 b := hs 2 (by simp)
        have e3 : V 3 = .int .i64 (t.syl a b) := hs 3 (by simp)
        have e4 : V 4 = .int .i64 m := hs 4 (by simp)
        have e5 : V 5 = .bool true := hs 5 (by simp)
        have e6 : V 6 = .bool true := hs 6 (by simp)
        rw [if_pos (by simp [Rs.wantB, e6])]
        exact Rs.GrowL.value (v := .agg #[.slice pw t.words.length cw, (.slice pt t.turns.length ct), (.int .i64 t.breath), mf]) (w' := w') (by simp [go_sem, Rs.look, e0, e1, e2, e3, e4, e5, e6, k0, k1, k2, k3]) (Rs.Gr.refl _) rfl
      · have e0 : V 0 = .agg #[.slice pw t.words.length cw, (.slice pt t.turns.length ct), (.int .i64 t.breath), mf] := hs 0 (by simp)
        have e1 : V 1 = .int .i64 a := hs 1 (by simp)
        have e2 : V 2 = .int .i64 b := hs 2 (by simp)
        have e3 : V 3 = .int .i64 (t.syl a b) := hs 3 (by simp)
        have e4 : V 4 = .int .i64 m := hs 4 (by simp)
        have e5 : V 5 = .bool true := hs 5 (by simp)
        have e6 : V 6 = .bool true := hs 6 (by simp)
        rw [if_pos (by simp [Rs.wantB, e6])]
        exact Rs.GrowL.value (v := .int .i64 a) (w' := w') (by simp [go_sem, Rs.look, e0, e1, e2, e3, e4, e5, e6]) (Rs.Gr.refl _) rfl
      · have e0 : V 0 = .agg #[.slice pw t.words.length cw, (.slice pt t.turns.length ct), (.int .i64 t.breath), mf] := hs 0 (by simp)
        have e1 : V 1 = .int .i64 a := hs 1 (by simp)
        have e2 : V 2 = .int .i64 b := hs 2 (by simp)
        have e3 : V 3 = .int .i64 (t.syl a b) := hs 3 (by simp)
        have e4 : V 4 = .int .i64 m := hs 4 (by simp)
        have e5 : V 5 = .bool true := hs 5 (by simp)
        have e6 : V 6 = .bool true := hs 6 (by simp)
        rw [if_pos (by simp [Rs.wantB, e6])]
        exact Rs.GrowL.value (v := .int .i64 b) (w' := w') (by simp [go_sem, Rs.look, e0, e1, e2, e3, e4, e5, e6]) (Rs.Gr.refl _) rfl
      · have e0 : V 0 = .agg #[.slice pw t.words.length cw, (.slice pt t.turns.length ct), (.int .i64 t.breath), mf] := hs 0 (by simp)
        have e1 : V 1 = .int .i64 a := hs 1 (by simp)
        have e2 : V 2 = .int .i64 b := hs 2 (by simp)
        have e3 : V 3 = .int .i64 (t.syl a b) := hs 3 (by simp)
        have e4 : V 4 = .int .i64 m := hs 4 (by simp)
        have e5 : V 5 = .bool true := hs 5 (by simp)
        have e6 : V 6 = .bool true := hs 6 (by simp)
        have e7 : V 7 = .agg #[.slice pw t.words.length cw, (.slice pt t.turns.length ct), (.int .i64 t.breath), mf] := hs 7 (by simp)
        have e8 : V 8 = .int .i64 a := hs 8 (by simp)
        have e9 : V 9 = .int .i64 b := hs 9 (by simp)
        rw [if_pos (by simp [Rs.wantB, e6])]
        refine Rs.GrowL.call (f := 138) (args := #[.agg #[.slice pw t.words.length cw, .slice pt t.turns.length ct, .int .i64 t.breath, mf], .int .i64 a, .int .i64 b]) (by simp [go_sem, Rs.look, e7, e8, e9]) ?_
        refine (HRT.out w' hG).mono ?_
        rintro e w2 ⟨rfl, hB2⟩
        exact ⟨_, rfl, hB2, rfl⟩
      · have e0 : V 0 = .agg #[.slice pw t.words.length cw, (.slice pt t.turns.length ct), (.int .i64 t.breath), mf] := hs 0 (by simp)
        have e1 : V 1 = .int .i64 a := hs 1 (by simp)
        have e2 : V 2 = .int .i64 b := hs 2 (by simp)
        have e3 : V 3 = .int .i64 (t.syl a b) := hs 3 (by simp)
        have e4 : V 4 = .int .i64 m := hs 4 (by simp)
        have e5 : V 5 = .bool true := hs 5 (by simp)
        have e6 : V 6 = .bool true := hs 6 (by simp)
        have e7 : V 7 = .agg #[.slice pw t.words.length cw, (.slice pt t.turns.length ct), (.int .i64 t.breath), mf] := hs 7 (by simp)
        have e8 : V 8 = .int .i64 a := hs 8 (by simp)
        have e9 : V 9 = .int .i64 b := hs 9 (by simp)
        have e10 : V 10 = .bool (t.right a b) := hs 10 (by simp)
        rw [if_pos (by rfl)]
        exact Rs.GrowL.value (v := .bool (t.right a b)) (w' := w') (by simp [go_sem, Rs.look, e0, e1, e2, e3, e4, e5, e6, e7, e8, e9, e10]) (Rs.Gr.refl _) rfl
      · have e0 : V 0 = .agg #[.slice pw t.words.length cw, (.slice pt t.turns.length ct), (.int .i64 t.breath), mf] := hs 0 (by simp)
        have e1 : V 1 = .int .i64 a := hs 1 (by simp)
        have e2 : V 2 = .int .i64 b := hs 2 (by simp)
        have e3 : V 3 = .int .i64 (t.syl a b) := hs 3 (by simp)
        have e4 : V 4 = .int .i64 m := hs 4 (by simp)
        have e5 : V 5 = .bool true := hs 5 (by simp)
        have e6 : V 6 = .bool true := hs 6 (by simp)
        have e7 : V 7 = .agg #[.slice pw t.words.length cw, (.slice pt t.turns.length ct), (.int .i64 t.breath), mf] := hs 7 (by simp)
        have e8 : V 8 = .int .i64 a := hs 8 (by simp)
        have e9 : V 9 = .int .i64 b := hs 9 (by simp)
        have e10 : V 10 = .bool (t.right a b) := hs 10 (by simp)
        have e11 : V 11 = .bool (t.right a b) := hs 11 (by simp)
        rw [if_pos (by rfl)]
        exact Rs.GrowL.value (v := .bool (t.right a b)) (w' := w') (by simp [go_sem, Rs.look, e0, e1, e2, e3, e4, e5, e6, e7, e8, e9, e10, e11]) (Rs.Gr.refl _) rfl
    · intro V w' hG hs
      have e0 : V 0 = .agg #[.slice pw t.words.length cw, (.slice pt t.turns.length ct), (.int .i64 t.breath), mf] := hs 0 (by omega)
      have e1 : V 1 = .int .i64 a := hs 1 (by omega)
      have e2 : V 2 = .int .i64 b := hs 2 (by omega)
      have e3 : V 3 = .int .i64 (t.syl a b) := hs 3 (by omega)
      have e4 : V 4 = .int .i64 m := hs 4 (by omega)
      have e5 : V 5 = .bool true := hs 5 (by omega)
      have e6 : V 6 = .bool true := hs 6 (by omega)
      have e7 : V 7 = .agg #[.slice pw t.words.length cw, (.slice pt t.turns.length ct), (.int .i64 t.breath), mf] := hs 7 (by omega)
      have e8 : V 8 = .int .i64 a := hs 8 (by omega)
      have e9 : V 9 = .int .i64 b := hs 9 (by omega)
      have e10 : V 10 = .bool (t.right a b) := hs 10 (by omega)
      have e11 : V 11 = .bool (t.right a b) := hs 11 (by omega)
      have e12 : V 12 = .bool (t.right a b) := hs 12 (by omega)
      simp only [Rs.canon, Rs.dstOf, List.range_succ, List.range_zero, List.nil_append, List.cons_append, List.foldl_cons, List.foldl_nil, List.drop_succ_cons, List.drop_zero, List.drop_nil, List.getElem?_toArray, List.getElem?_cons_succ, List.getElem?_cons_zero, Option.bind_some, Act.put, List.getD_cons_succ, List.getD_cons_zero, List.setIfInBounds_toArray, List.set_cons_succ, List.set_cons_zero]
      rw [e0, e1, e2, e3, e4, e5, e6, e7, e8, e9, e10, e11, e12]
      clear e0 e1 e2 e3 e4 e5 e6 e7 e8 e9 e10 e11 e12 hs
      go_wp2
      go_ret
      exact ⟨ret_bool (by rw [HF.out]; simp [HSM.out]), hG⟩
  · have HSM := Lib.hid hsm
    go_enter Try.func162, Try.ntmps162
    go_wp2_with fail
    refine Rs.region_gen 13 [[], [], [], [0, 1, 2], [], [0, 1, 2, 3, 4], [0, 1, 2, 3, 4, 5], [0, 1, 2, 3, 4, 5, 6], [0, 1, 2, 3, 4, 5, 6], [0, 1, 2, 3, 4, 5, 6], [0, 1, 2, 3, 4, 5, 6, 7, 8, 9], [0, 1, 2, 3, 4, 5, 6, 7, 8, 9, 10], [0, 1, 2, 3, 4, 5, 6, 7, 8, 9, 10, 11]] [some 7, some 8, some 9, some 10, some 11, some 12, some 13, some 14, some 15, some 16, some 17, some 18, some 6] (spEv0 pw t.words.length cw (.slice pt t.turns.length ct) (.int .i64 t.breath) mf a b (t.syl a b) m (t.right a b)) (by kernel_rfl) (by kernel_rfl) rfl (spEv0_stable _ _ _ _ _ _ _ _ _ _ _) ?_ ?_
    · refine ⟨fun V w' hG hs => ?_, fun V w' hG hs => ?_, fun V w' hG hs => ?_, fun V w' hG hs => ?_, fun V w' hG hs => ?_, fun V w' hG hs => ?_, fun V w' hG hs => ?_, fun V w' hG hs => ?_, fun V w' hG hs => ?_, fun V w' hG hs => ?_, fun V w' hG hs => ?_, fun V w' hG hs => ?_, fun V w' hG hs => ?_, trivial⟩
      all_goals
        obtain ⟨k0, k1, k2, k3⟩ := blk4 ((hG.block X HXl).trans HX.out)
        have c0 := blk_cells ((hG.block Y HYl).trans HY.out) 0 _ rfl
      · rw [if_pos (by rfl)]
        exact Rs.GrowL.value (v := .agg #[.slice pw t.words.length cw, (.slice pt t.turns.length ct), (.int .i64 t.breath), mf]) (w' := w') (by simp [go_sem, Rs.look, k0, k1, k2, k3]) (Rs.Gr.refl _) rfl
      · rw [if_pos (by rfl)]
        exact Rs.GrowL.value (v := .int .i64 a) (w' := w') (by simp [go_sem, Rs.look]) (Rs.Gr.refl _) rfl
      · rw [if_pos (by rfl)]
        exact Rs.GrowL.value (v := .int .i64 b) (w' := w') (by simp [go_sem, Rs.look]) (Rs.Gr.refl _) rfl
      · have e0 : V 0 = .agg #[.slice pw t.words.length cw, (.slice pt t.turns.length ct), (.int .i64 t.breath), mf] := hs 0 (by simp)
        have e1 : V 1 = .int .i64 a := hs 1 (by simp)
        have e2 : V 2 = .int .i64 b := hs 2 (by simp)
        rw [if_pos (by rfl)]
        refine Rs.GrowL.call (f := 163) (args := #[.agg #[.slice pw t.words.length cw, .slice pt t.turns.length ct, .int .i64 t.breath, mf], .int .i64 a, .int .i64 b]) (by simp [go_sem, Rs.look, e0, e1, e2]) ?_
        refine (HSY.out w' hG).mono ?_
        rintro e w2 ⟨rfl, hB2⟩
        exact ⟨_, rfl, hB2, rfl⟩
      · rw [if_pos (by rfl)]
        exact Rs.GrowL.value (v := .int .i64 m) (w' := w') (by simp [go_sem, Rs.look, c0]) (Rs.Gr.refl _) rfl
      · have e0 : V 0 = .agg #[.slice pw t.words.length cw, (.slice pt t.turns.length ct), (.int .i64 t.breath), mf] := hs 0 (by simp)
        have e1 : V 1 = .int .i64 a := hs 1 (by simp)
        have e2 : V 2 = .int .i64 b := hs 2 (by simp)
        have e3 : V 3 = .int .i64 (t.syl a b) := hs 3 (by simp)
        have e4 : V 4 = .int .i64 m := hs 4 (by simp)
        rw [if_pos (by rfl)]
        exact Rs.GrowL.value (v := .bool false) (w' := w') (by simp [go_sem, Rs.look, e0, e1, e2, e3, e4, hsm]) (Rs.Gr.refl _) rfl
      · have e0 : V 0 = .agg #[.slice pw t.words.length cw, (.slice pt t.turns.length ct), (.int .i64 t.breath), mf] := hs 0 (by simp)
        have e1 : V 1 = .int .i64 a := hs 1 (by simp)
        have e2 : V 2 = .int .i64 b := hs 2 (by simp)
        have e3 : V 3 = .int .i64 (t.syl a b) := hs 3 (by simp)
        have e4 : V 4 = .int .i64 m := hs 4 (by simp)
        have e5 : V 5 = .bool false := hs 5 (by simp)
        rw [if_pos (by rfl)]
        exact Rs.GrowL.value (v := .bool false) (w' := w') (by simp [go_sem, Rs.look, e0, e1, e2, e3, e4, e5]) (Rs.Gr.refl _) rfl
      · have e0 : V 0 = .agg #[.slice pw t.words.length cw, (.slice pt t.turns.length ct), (.int .i64 t.breath), mf] := hs 0 (by simp)
        have e1 : V 1 = .int .i64 a := hs 1 (by simp)
        have e2 : V 2 = .int .i64 b := hs 2 (by simp)
        have e3 : V 3 = .int .i64 (t.syl a b) := hs 3 (by simp)
        have e4 : V 4 = .int .i64 m := hs 4 (by simp)
        have e5 : V 5 = .bool false := hs 5 (by simp)
        have e6 : V 6 = .bool false := hs 6 (by simp)
        rw [if_neg (by simp [Rs.wantB, e6])]
        rfl
      · have e0 : V 0 = .agg #[.slice pw t.words.length cw, (.slice pt t.turns.length ct), (.int .i64 t.breath), mf] := hs 0 (by simp)
        have e1 : V 1 = .int .i64 a := hs 1 (by simp)
        have e2 : V 2 = .int .i64 b := hs 2 (by simp)
        have e3 : V 3 = .int .i64 (t.syl a b) := hs 3 (by simp)
        have e4 : V 4 = .int .i64 m := hs 4 (by simp)
        have e5 : V 5 = .bool false := hs 5 (by simp)
        have e6 : V 6 = .bool false := hs 6 (by simp)
        rw [if_neg (by simp [Rs.wantB, e6])]
        rfl
      · have e0 : V 0 = .agg #[.slice pw t.words.length cw, (.slice pt t.turns.length ct), (.int .i64 t.breath), mf] := hs 0 (by simp)
        have e1 : V 1 = .int .i64 a := hs 1 (by simp)
        have e2 : V 2 = .int .i64 b := hs 2 (by simp)
        have e3 : V 3 = .int .i64 (t.syl a b) := hs 3 (by simp)
        have e4 : V 4 = .int .i64 m := hs 4 (by simp)
        have e5 : V 5 = .bool false := hs 5 (by simp)
        have e6 : V 6 = .bool false := hs 6 (by simp)
        rw [if_neg (by simp [Rs.wantB, e6])]
        rfl
      · have e0 : V 0 = .agg #[.slice pw t.words.length cw, (.slice pt t.turns.length ct), (.int .i64 t.breath), mf] := hs 0 (by simp)
        have e1 : V 1 = .int .i64 a := hs 1 (by simp)
        have e2 : V 2 = .int .i64 b := hs 2 (by simp)
        have e3 : V 3 = .int .i64 (t.syl a b) := hs 3 (by simp)
        have e4 : V 4 = .int .i64 m := hs 4 (by simp)
        have e5 : V 5 = .bool false := hs 5 (by simp)
        have e6 : V 6 = .bool false := hs 6 (by simp)
        have e7 : V 7 = undef := hs 7 (by simp)
        have e8 : V 8 = undef := hs 8 (by simp)
        have e9 : V 9 = undef := hs 9 (by simp)
        rw [if_neg (by simp [Rs.wantB, e6])]
        rfl
      · have e0 : V 0 = .agg #[.slice pw t.words.length cw, (.slice pt t.turns.length ct), (.int .i64 t.breath), mf] := hs 0 (by simp)
        have e1 : V 1 = .int .i64 a := hs 1 (by simp)
        have e2 : V 2 = .int .i64 b := hs 2 (by simp)
        have e3 : V 3 = .int .i64 (t.syl a b) := hs 3 (by simp)
        have e4 : V 4 = .int .i64 m := hs 4 (by simp)
        have e5 : V 5 = .bool false := hs 5 (by simp)
        have e6 : V 6 = .bool false := hs 6 (by simp)
        have e7 : V 7 = undef := hs 7 (by simp)
        have e8 : V 8 = undef := hs 8 (by simp)
        have e9 : V 9 = undef := hs 9 (by simp)
        have e10 : V 10 = undef := hs 10 (by simp)
        rw [if_pos (by rfl)]
        exact Rs.GrowL.value (v := .bool false) (w' := w') (by simp [go_sem, Rs.look, e0, e1, e2, e3, e4, e5, e6, e7, e8, e9, e10]) (Rs.Gr.refl _) rfl
      · have e0 : V 0 = .agg #[.slice pw t.words.length cw, (.slice pt t.turns.length ct), (.int .i64 t.breath), mf] := hs 0 (by simp)
        have e1 : V 1 = .int .i64 a := hs 1 (by simp)
        have e2 : V 2 = .int .i64 b := hs 2 (by simp)
        have e3 : V 3 = .int .i64 (t.syl a b) := hs 3 (by simp)
        have e4 : V 4 = .int .i64 m := hs 4 (by simp)
        have e5 : V 5 = .bool false := hs 5 (by simp)
        have e6 : V 6 = .bool false := hs 6 (by simp)
        have e7 : V 7 = undef := hs 7 (by simp)
        have e8 : V 8 = undef := hs 8 (by simp)
        have e9 : V 9 = undef := hs 9 (by simp)
        have e10 : V 10 = undef := hs 10 (by simp)
        have e11 : V 11 = .bool false := hs 11 (by simp)
        rw [if_pos (by rfl)]
        exact Rs.GrowL.value (v := .bool false) (w' := w') (by simp [go_sem, Rs.look, e0, e1, e2, e3, e4, e5, e6, e7, e8, e9, e10, e11]) (Rs.Gr.refl _) rfl
    · intro V w' hG hs
      have e0 : V 0 = .agg #[.slice pw t.words.length cw, (.slice pt t.turns.length ct), (.int .i64 t.breath), mf] := hs 0 (by omega)
      have e1 : V 1 = .int .i64 a := hs 1 (by omega)
      have e2 : V 2 = .int .i64 b := hs 2 (by omega)
      have e3 : V 3 = .int .i64 (t.syl a b) := hs 3 (by omega)
      have e4 : V 4 = .int .i64 m := hs 4 (by omega)
      have e5 : V 5 = .bool false := hs 5 (by omega)
      have e6 : V 6 = .bool false := hs 6 (by omega)
      have e7 : V 7 = undef := hs 7 (by omega)
      have e8 : V 8 = undef := hs 8 (by omega)
      have e9 : V 9 = undef := hs 9 (by omega)
      have e10 : V 10 = undef := hs 10 (by omega)
      have e11 : V 11 = .bool false := hs 11 (by omega)
      have e12 : V 12 = .bool false := hs 12 (by omega)
      simp only [Rs.canon, Rs.dstOf, List.range_succ, List.range_zero, List.nil_append, List.cons_append, List.foldl_cons, List.foldl_nil, List.drop_succ_cons, List.drop_zero, List.drop_nil, List.getElem?_toArray, List.getElem?_cons_succ, List.getElem?_cons_zero, Option.bind_some, Act.put, List.getD_cons_succ, List.getD_cons_zero, List.setIfInBounds_toArray, List.set_cons_succ, List.set_cons_zero]
      rw [e0, e1, e2, e3, e4, e5, e6, e7, e8, e9, e10, e11, e12]
      clear e0 e1 e2 e3 e4 e5 e6 e7 e8 e9 e10 e11 e12 hs
      go_wp2
      go_ret
      exact ⟨ret_bool (by rw [HF.out, decide_eq_false (Int.not_le.2 HSM.out)]; rfl), hG⟩
theorem entered_rightWithin1 : Entered 162 := fun args W => by kernel_rfl
theorem rightWithin_any (v0 v1 v2 v3 : Value) (m : Int) (w : World) :
    Calls Try.prog 132 #[.agg #[v0, v1, v2, v3], .int .i64 m] w fun e w' => e = .returned (.func (.func 162) #[] #[.pointer (some ⟨w.heap.size, 0, none⟩), .pointer (some ⟨w.heap.size + 1, 0, none⟩)]) ∧ w' = (w.alloc (.cells #[v0, v1, v2, v3] 125)).alloc (.cells #[.int .i64 m] 3) := by
  have hmf := mf
  go_enter Try.func132, Try.ntmps132
  go_wp2
  go_ret
  exact ⟨by simp, rfl⟩
theorem entered_sure : Entered 128 := fun args W => by kernel_rfl
theorem sure_may (t : Text) (pw pt : Option Addr) (cw ct : Nat) (mf : Value) (w : World) (hW : WkAt w t pw pt cw) :
    MayAt (.func (.func 128) #[.agg #[.slice pw t.words.length cw, .slice pt t.turns.length ct, .int .i64 t.breath, mf]] #[]) t.sureB t.words.length (fun k => k < w.heap.size) w :=
  ⟨128, _, _, rfl, entered_sure, fun W hH a b hab hb => sureB_any t pw pt cw ct mf a b (by omega) hb W ⟨hW.ok, hW.at_.hold hH (fun k hk => hk), hW.cap⟩⟩
theorem within_may (t : Text) (pw pt : Option Addr) (cw ct : Nat) (mf : Value) (m : Int) (X Y : Nat) (w : World) (hW : WkAt w t pw pt cw)
    (hX : w.heap[X]? = some (.cells #[.slice pw t.words.length cw, .slice pt t.turns.length ct, .int .i64 t.breath, mf] 125 (0, 0))) (hY : w.heap[Y]? = some (.cells #[.int .i64 m] 3 (0, 0))) :
    MayAt (.func (.func 162) #[] #[.pointer (some ⟨X, 0, none⟩), .pointer (some ⟨Y, 0, none⟩)]) (t.within m) t.words.length (fun k => k < w.heap.size) w := by
  have hXl := (Array.getElem?_eq_some_iff.1 hX).1
  have hYl := (Array.getElem?_eq_some_iff.1 hY).1
  refine ⟨162, _, _, rfl, entered_rightWithin1, fun W hH a b hab hb => ?_⟩
  exact rightWithin1_any t pw pt cw ct mf m a b (by omega) hb X Y W ⟨hW.ok, hW.at_.hold hH (fun k hk => hk), hW.cap⟩ ((hH.same X hXl hXl).trans hX) ((hH.same Y hYl hYl).trans hY)
/-- what Surest tells -/
def surL (t : Text) : List Int := if t.err = 0 then (Tx.fewest t.sureB t.words.length).1 else []
def surE (t : Text) : Int := if t.err = 0 then (Tx.fewest t.sureB t.words.length).2 else t.err
set_option maxHeartbeats 800000 in
theorem Surest_any (t : Text) (hl1 : t.words.length ≤ 1000000) (hl2 : t.turns.length ≤ 1000000) (pw pt : Option Addr) (cw ct : Nat) (hcw : t.words.length ≤ cw ∧ cw ≤ maxLen) (w : World) (hW : TxAt w t pw pt) :
    Calls Try.prog 56 #[.agg #[.slice pw t.words.length cw, .slice pt t.turns.length ct, .int .i64 t.breath]] w (ListPost (surL t) (surE t) w) := by
  have hmf := mf
  by_cases he : t.err = 0
  · have ok := err_ok he
    have h1 : surL t = (Tx.fewest t.sureB t.words.length).1 := if_pos he
    have h2 : surE t = (Tx.fewest t.sureB t.words.length).2 := if_pos he
    rw [h1, h2]
    have HS := Lib.hid (fun W (h : Below w.heap.size w W) => open_ok t he pw pt cw ct W (hW.below h))
    have HF := Lib.hid (fun mv W (h : Below w.heap.size w W) => fewest_any t.sureB t.words.length cw ok.n1 ok.n12 pw (.slice pt t.turns.length ct) (.int .i64 t.breath) _ W (sure_may t pw pt cw ct mv W ⟨ok, hW.below h, hcw⟩))
    clear hW he h1 h2 ok
    go_enter Try.func56, Try.ntmps56
    go_wp2_with fail
    refine (HS.out _ (below1 _ _)).mono ?_
    rintro e w5 ⟨rfl, hB5⟩
    have HB5 := Lib.hid (join (below1 _ _) hB5)
    clear hB5
    go_wp2_with fail
    refine (HF.out _ _ ?_).mono ?_
    · exact join HB5.out (below1 _ _)
    rintro e w6 ⟨v, rfl, hown, hB6⟩
    have HO := Lib.hid hown
    have HB6 := Lib.hid hB6
    clear hown hB6
    go_wp2
    go_ret2
    have hz := HB5.out.size
    exact ⟨_, rfl, own_base HO.out (by simp; omega), join (join HB5.out (below1 _ _)) HB6.out⟩
  · have h1 : surL t = [] := if_neg he
    have h2 : surE t = t.err := if_neg he
    rw [h1, h2]
    have HS := Lib.hid (fun W (h : Below w.heap.size w W) => open_bad t he hl1 hl2 pw pt cw ct W (hW.below h))
    have HE : (t.err != 0) = true := by simpa using he
    clear hW he h1 h2
    generalize t.err = er at HE HS ⊢
    go_enter Try.func56, Try.ntmps56
    go_wp2_with fail
    refine (HS.out _ (below1 _ _)).mono ?_
    rintro e w5 ⟨rfl, hB5⟩
    have HB5 := Lib.hid (join (below1 _ _) hB5)
    clear hB5
    go_wp2
    go_ret2
    exact ⟨_, rfl, own_none _ _ _ _, join HB5.out (below1 _ _)⟩
end Go.Proofs.Ytadnggecnjdhiaa
namespace Go.Proofs.Ytadnggecnjdhiaa
open Tx
set_option linter.unusedSimpArgs false
set_option linter.unusedVariables false

theorem okFrom_mono {may may' : Nat → Nat → Bool} {n : Nat} (h : ∀ a b, a < b → b ≤ n → may a b = true → may' a b = true) : ∀ (l : List Int) (a : Nat), a ≤ n → Parts ((n : Int) - a) l → okFrom may a l = true → okFrom may' a l = true
  | [], a, _, _, _ => rfl
  | x :: l, a, ha, hp, ho => by
    rw [okFrom, Bool.and_eq_true] at ho ⊢
    rw [parts_cons] at hp
    have hp2 := parts_pos hp.2
    refine ⟨h a _ (by omega) (by omega) ho.1, okFrom_mono h l _ (by omega) ?_ ho.2⟩
    rw [show (n : Int) - ((a + x.toNat : Nat) : Int) = (n : Int) - a - x by omega]
    exact hp.2
theorem rights_mono {may may' : Nat → Nat → Bool} {n : Nat} (h : ∀ a b, a < b → b ≤ n → may a b = true → may' a b = true) {l : List Int} (hl : l ∈ rights may n) : l ∈ rights may' n := by
  rw [mem_rights] at hl ⊢
  exact ⟨hl.1, okFrom_mono h l 0 (Nat.zero_le _) (by simpa using hl.1) hl.2⟩
theorem count_mono {may may' : Nat → Nat → Bool} {n : Nat} (h : ∀ a b, a < b → b ≤ n → may a b = true → may' a b = true) : count may n 0 ≤ count may' n 0 := by
  rw [count_rights, count_rights]
  unfold rights
  rw [← List.countP_eq_length_filter, ← List.countP_eq_length_filter]
  apply List.countP_mono_left
  intro l hl ho
  exact okFrom_mono h l 0 (Nat.zero_le _) (by simpa using (compF_mem n n l (Nat.le_refl _)).1 hl) ho
theorem few_mono {may may' : Nat → Nat → Bool} {n : Nat} (hn1 : 1 ≤ n) (hn : n ≤ 12) (h : ∀ a b, a < b → b ≤ n → may a b = true → may' a b = true) (he : (fewest may n).2 = 0) :
    (fewest may' n).2 = 0 ∧ (fewest may' n).1.length ≤ (fewest may n).1.length := by
  have hin := (fewest_rights (may := may) hn1 hn).2.2.1 he
  have hin' := rights_mono h hin
  obtain ⟨f1, f2, f3, f4⟩ := fewest_rights (may := may') hn1 hn
  refine ⟨f4.2 (fun e => by rw [e] at hin'; simp at hin'), ?_⟩
  rw [f1]
  exact (bestLen_spec _ 0 (rights_ne hn1)).2.1 _ hin'
theorem fewest_err {may : Nat → Nat → Bool} {n : Nat} (hn1 : 1 ≤ n) (hn : n ≤ 12) : ((fewest may n).2 = 0 ∧ 0 < count may n 0) ∨ ((fewest may n).2 = 6 ∧ count may n 0 = 0) := by
  obtain ⟨f1, f2, f3, f4⟩ := fewest_rights (may := may) hn1 hn
  rw [count_rights]
  by_cases h : (fewest may n).2 = 0
  · exact .inl ⟨h, List.length_pos_iff.2 (f4.1 h)⟩
  · right
    rw [f2] at h ⊢
    have hz : bestLen (rights may n) 0 = 0 := by
      by_cases hz : bestLen (rights may n) 0 = 0
      · exact hz
      · rw [if_neg hz] at h; exact absurd rfl h
    rw [if_pos hz]
    refine ⟨rfl, ?_⟩
    rw [((bestLen_zero _ 0 (rights_ne hn1)).1 hz).2]
    rfl
theorem unbroken_err {may : Nat → Nat → Bool} {n : Nat} (hn1 : 1 ≤ n) (hn : n ≤ 12) : (unbroken may n).2 = (fewest may n).2 := by
  unfold unbroken
  rcases fewest_err (may := may) hn1 hn with ⟨h1, h2⟩ | ⟨h1, h2⟩
  · rw [if_neg (by omega), h1]
  · rw [if_pos h2, h1]
theorem mem_unbroken {may : Nat → Nat → Bool} {n : Nat} (hn1 : 1 ≤ n) (hn : n ≤ 12) (he : (fewest may n).2 = 0) {x : Int} : x ∈ (unbroken may n).1 ↔ ∃ p : Nat, x = p ∧ 1 ≤ p ∧ p < n ∧ ∀ l ∈ rights may n, breaksAt l p = false := by
  unfold unbroken
  rcases fewest_err (may := may) hn1 hn with ⟨h1, h2⟩ | ⟨h1, h2⟩
  · rw [if_neg (by omega)]
    simp only [List.mem_map, List.mem_filter, List.mem_range'_1]
    constructor
    · rintro ⟨p, ⟨hp1, hp2⟩, rfl⟩
      rw [unbr_rights hn (by omega) (by omega)] at hp2
      simp only [Bool.not_eq_true', List.any_eq_false, Bool.not_eq_true] at hp2
      exact ⟨p, rfl, by omega, by omega, hp2⟩
    · rintro ⟨p, rfl, hp1, hp2, hp3⟩
      refine ⟨p, ⟨by omega, ?_⟩, rfl⟩
      rw [unbr_rights hn hp1 hp2]
      simp only [Bool.not_eq_true', List.any_eq_false, Bool.not_eq_true]
      exact hp3
  · rw [he] at h1; simp at h1
theorem never_mono {may may' : Nat → Nat → Bool} {n : Nat} (hn1 : 1 ≤ n) (hn : n ≤ 12) (h : ∀ a b, a < b → b ≤ n → may a b = true → may' a b = true) (he : (fewest may n).2 = 0) {x : Int} (hx : x ∈ (unbroken may' n).1) : x ∈ (unbroken may n).1 := by
  rw [mem_unbroken hn1 hn (few_mono hn1 hn h he).1] at hx
  rw [mem_unbroken hn1 hn he]
  obtain ⟨p, h1, h2, h3, h4⟩ := hx
  exact ⟨p, h1, h2, h3, fun l hl => h4 l (rights_mono h hl)⟩
/-- in one text is right what is right in another one -/
structure More (t t' : Text) : Prop where
  len : t'.words.length = t.words.length
  syl : ∀ a b, t'.syl a b = t.syl a b
  right : ∀ a b, a < b → b ≤ t.words.length → t.right a b = true → t'.right a b = true
theorem longGo_more {t t' : Text} (h : More t t') : ∀ (l : List Int) (a : Nat), longGo t' a l = longGo t a l
  | [], _ => rfl
  | x :: l, a => by rw [longGo, longGo, h.syl, longGo_more h l]
theorem even_more {t t' : Text} (h : More t t') (he : t.err = 0) (he' : t'.err = 0) (hs : ∀ x ∈ t.words, 1 ≤ x.syl ∧ x.syl ≤ 9) (hs' : ∀ x ∈ t'.words, 1 ≤ x.syl ∧ x.syl ≤ 9) (hn1 : 1 ≤ t.words.length) (hn : t.words.length ≤ 12) (hb : 1 ≤ t.breath) (hb' : 1 ≤ t'.breath) (hz : (evR t).2.2 = 0) :
    (evR t').2.2 = 0 ∧ (evR t').2.1 ≤ (evR t).2.1 := by
  rcases evR_spec he hs hn1 hn hb with ⟨h1, _⟩ | ⟨_, h2, h3, h4, h5, h6, h7⟩
  · rw [hz] at h1; simp at h1
  · have ho : okFrom t'.right 0 (evR t).1 = true := okFrom_mono h.right _ 0 (Nat.zero_le _) (by simpa using h2) h3
    rcases evR_spec he' hs' (by rw [h.len]; exact hn1) (by rw [h.len]; exact hn) hb' with ⟨_, _, k3⟩ | ⟨k1, _, _, _, _, _, k7⟩
    · exact (k3 _ (by rw [h.len]; exact h2) ho).elim
    · refine ⟨k1, ?_⟩
      have := (k7 _ (by rw [h.len]; exact h2) ho).1
      rw [longGo_more h, h4] at this
      exact this
theorem even_err {t : Text} (he : t.err = 0) (hs : ∀ x ∈ t.words, 1 ≤ x.syl ∧ x.syl ≤ 9) (hn1 : 1 ≤ t.words.length) (hn : t.words.length ≤ 12) (hb : 1 ≤ t.breath) : (evR t).2.2 = (fewest t.right t.words.length).2 := by
  have f := fewest_rights (may := t.right) hn1 hn
  rcases evR_spec he hs hn1 hn hb with ⟨h1, h2, h3⟩ | ⟨h1, h2, h3, _⟩
  · rw [h1]
    rcases fewest_err (may := t.right) hn1 hn with ⟨g1, _⟩ | ⟨g1, _⟩
    · exfalso
      have := f.2.2.1 g1
      rw [mem_rights] at this
      exact h3 _ this.1 this.2
    · exact g1.symm
  · rw [h1]
    symm
    rw [f.2.2.2]
    intro e
    have := mem_rights.2 ⟨h2, h3⟩
    rw [e] at this
    simp at this
theorem more_stop (t : Text) (k : Nat) (hk : k < t.words.length) (t' : Text) (hw : t'.words = t.words.set k { t.words.getD k default with stop := true }) (ht : t'.turns = t.turns) (hb : t'.breath = t.breath) : More t t' := by
  have hlen : t'.words.length = t.words.length := by rw [hw]; simp
  have hg : ∀ i, (t'.words.getD i default).stop = (decide (i = k) || (t.words.getD i default).stop) := fun i => by
    rw [hw]
    by_cases h : i = k
    · subst h; simp [hk]
    · simp [List.getElem?_set, Ne.symm h, h]
  have hsyl : t'.words.map (·.syl) = t.words.map (·.syl) := by
    rw [hw]
    apply List.ext_getElem (by simp)
    intro i h1 h2
    simp only [List.getElem_map, List.getElem_set]
    split
    · rename_i e; subst e; simp [hk]
    · rfl
  have hs : ∀ a b, t'.syl a b = t.syl a b := fun a b => by
    unfold Text.syl slice
    rw [List.map_take, List.map_drop, hsyl, List.map_take, List.map_drop]
  refine ⟨hlen, hs, fun a b hab hbn hr => ?_⟩
  have hal : ∀ p, t.allow p = true → t'.allow p = true := fun p h => by
    unfold Text.allow Text.len at *
    rw [hlen, hg]
    simp only [Bool.or_eq_true] at *
    rcases h with h | h
    · exact .inl h
    · exact .inr (.inr h)
  unfold Text.right Text.isLong Text.isCut Text.isOther at *
  rw [hs, ht, hb]
  simp only [Bool.and_eq_true, Bool.not_eq_true', Bool.or_eq_false_iff, Bool.not_eq_false'] at hr ⊢
  exact ⟨⟨hr.1.1, hal a hr.1.2.1, hal b hr.1.2.2⟩, hr.2⟩
theorem more_breath (t : Text) (t' : Text) (hw : t'.words = t.words) (ht : t'.turns = t.turns) (hb : t.breath ≤ t'.breath) : More t t' := by
  have hs : ∀ a b, t'.syl a b = t.syl a b := fun a b => by unfold Text.syl; rw [hw]
  refine ⟨by rw [hw], hs, fun a b hab hbn hr => ?_⟩
  unfold Text.right Text.isLong Text.isCut Text.isOther Text.allow Text.len at *
  rw [hs, ht, hw]
  simp only [Bool.and_eq_true, Bool.not_eq_true', decide_eq_false_iff_not] at hr ⊢
  exact ⟨⟨by omega, hr.1.2⟩, hr.2⟩
theorem more_turn (t : Text) (t' : Text) (hw : t'.words = t.words) (ht : ∀ u ∈ t'.turns, u ∈ t.turns) (hb : t'.breath = t.breath) : More t t' := by
  have hs : ∀ a b, t'.syl a b = t.syl a b := fun a b => by unfold Text.syl; rw [hw]
  refine ⟨by rw [hw], hs, fun a b hab hbn hr => ?_⟩
  unfold Text.right Text.isLong Text.isCut Text.isOther Text.allow Text.len at *
  rw [hs, hw, hb]
  simp only [Bool.and_eq_true, Bool.not_eq_true', List.any_eq_false] at hr ⊢
  exact ⟨hr.1, fun u hu => hr.2 u (ht u hu)⟩
end Go.Proofs.Ytadnggecnjdhiaa
namespace Go.Proofs.Ytadnggecnjdhiaa
open Tx
set_option linter.unusedSimpArgs false
set_option linter.unusedVariables false

/-- the last words that are in the same breath: how they begin, and what a breath makes of them -/
def last0 (n : Nat) : List Int := (List.range 12).map fun w => if w < n then (w : Int) else 0
def lastW (b : Nat) (m : List Int) (w : Nat) : List Int := m.set w (max (m.getD w 0) ((b : Int) - 1))
def lastB (a b : Nat) (m : List Int) : List Int := (List.range' a (b - a)).foldl (lastW b) m
def lastRow (may : Nat → Nat → Bool) (n : Nat) (m : List Int) (a : Nat) : List Int := (brs may n a).foldl (fun m b => lastB a b m) m
def lastT (may : Nat → Nat → Bool) (n : Nat) : List Int := (List.range n).foldl (lastRow may n) (last0 n)
/-- no two neighbours are in the same breath -/
def apartB (last : List Int) (l : List Int) : Bool := (List.range (l.length - 1)).all fun i => decide (last.getD (l.getD i 0).toNat 0 < l.getD (i + 1) 0)
def loneGo (last : List Int) (n : Nat) : List Nat → List Int
  | [] => [0]
  | k :: ks => match (Tx.lists n k 0).find? (apartB last) with | some l => l | none => loneGo last n ks
def downTo2 (n : Nat) : List Nat := (List.range' 2 (n - 1)).reverse
def loneR (may : Nat → Nat → Bool) (n : Nat) : List Int := loneGo (lastT may n) n (downTo2 n)

theorem lastB_get (a b : Nat) : ∀ (k : Nat) (m : List Int), m.length = 12 → a + k ≤ 12 → ((List.range' a k).foldl (lastW b) m).length = 12 ∧
    ∀ w, ((List.range' a k).foldl (lastW b) m).getD w 0 = if a ≤ w ∧ w < a + k then max (m.getD w 0) ((b : Int) - 1) else m.getD w 0
  | 0, m, hm, _ => ⟨by simpa using hm, fun w => by rw [if_neg (by omega)]; simp⟩
  | k + 1, m, hm, hk => by
    obtain ⟨h1, h2⟩ := lastB_get a b k m hm (by omega)
    rw [show List.range' a (k + 1) = List.range' a k ++ [a + k] by rw [List.range'_concat]; simp, List.foldl_append, List.foldl_cons, List.foldl_nil]
    generalize (List.range' a k).foldl (lastW b) m = M at h1 h2 ⊢
    refine ⟨by simp [lastW, h1], fun w => ?_⟩
    unfold lastW
    by_cases hw : w = a + k
    · subst hw
      rw [if_pos (by omega)]
      simp only [List.getD_eq_getElem?_getD, List.getElem?_set]
      rw [if_pos (by trivial), if_pos (by omega)]
      have := h2 (a + k)
      rw [if_neg (by omega)] at this
      simp only [List.getD_eq_getElem?_getD] at this
      rw [← this]; rfl
    · have := h2 w
      simp only [List.getD_eq_getElem?_getD, List.getElem?_set] at this ⊢
      rw [if_neg (Ne.symm hw), this]
      by_cases h3 : a ≤ w ∧ w < a + k
      · rw [if_pos h3, if_pos (by omega)]
      · rw [if_neg h3, if_neg (by omega)]
/-- what the last words are, after the breaths of a set -/
structure LastInv (n : Nat) (S : Nat → Nat → Prop) (m : List Int) : Prop where
  len : m.length = 12
  low : ∀ w, w < n → (w : Int) ≤ m.getD w 0 ∧ m.getD w 0 < n
  up : ∀ a b w, S a b → a ≤ w → w < b → (b : Int) - 1 ≤ m.getD w 0
  back : ∀ w, w < n → m.getD w 0 = w ∨ ∃ a b, S a b ∧ a ≤ w ∧ w < b ∧ m.getD w 0 = (b : Int) - 1
theorem LastInv.add {n : Nat} {S : Nat → Nat → Prop} {m : List Int} (h : LastInv n S m) (hn : n ≤ 12) (a b : Nat) (hab : a < b) (hb : b ≤ n) : LastInv n (fun x y => S x y ∨ (x = a ∧ y = b)) (lastB a b m) := by
  obtain ⟨g1, g2⟩ := lastB_get a b (b - a) m h.len (by omega)
  have g3 : ∀ w, (lastB a b m).getD w 0 = if a ≤ w ∧ w < b then max (m.getD w 0) ((b : Int) - 1) else m.getD w 0 := fun w => by
    unfold lastB; rw [g2]; congr 1; rw [show a + (b - a) = b by omega]
  refine ⟨by unfold lastB; exact g1, fun w hw => ?_, fun x y w hs hx hy => ?_, fun w hw => ?_⟩
  · have := h.low w hw
    rw [g3]; split <;> omega
  · rw [g3]
    rcases hs with hs | ⟨rfl, rfl⟩
    · have := h.up x y w hs hx hy
      split <;> omega
    · rw [if_pos ⟨hx, hy⟩]; omega
  · rw [g3]
    have hl := h.low w hw
    by_cases hin : a ≤ w ∧ w < b
    · rw [if_pos hin]
      by_cases hm : m.getD w 0 ≤ (b : Int) - 1
      · exact .inr ⟨a, b, .inr ⟨rfl, rfl⟩, hin.1, hin.2, by omega⟩
      · rcases h.back w hw with e | ⟨x, y, hs, h1, h2, h3⟩
        · left; omega
        · exact .inr ⟨x, y, .inl hs, h1, h2, by omega⟩
    · rw [if_neg hin]
      rcases h.back w hw with e | ⟨x, y, hs, h1, h2, h3⟩
      · exact .inl e
      · exact .inr ⟨x, y, .inl hs, h1, h2, h3⟩
theorem LastInv.congr {n : Nat} {S S' : Nat → Nat → Prop} {m : List Int} (h : LastInv n S m) (e : ∀ a b, S a b ↔ S' a b) : LastInv n S' m :=
  ⟨h.len, h.low, fun a b w hs => h.up a b w ((e a b).2 hs), fun w hw => (h.back w hw).imp id fun ⟨a, b, hs, r⟩ => ⟨a, b, (e a b).1 hs, r⟩⟩
theorem last0_inv (n : Nat) (hn : n ≤ 12) : LastInv n (fun _ _ => False) (last0 n) := by
  have hg : ∀ w, w < n → (last0 n).getD w 0 = (w : Int) := fun w hw => by
    unfold last0
    simp [show w < 12 by omega, hw]
  refine ⟨by simp [last0], fun w hw => by rw [hg w hw]; omega, fun a b w h => h.elim, fun w hw => .inl (hg w hw)⟩
theorem lastT_inv (may : Nat → Nat → Bool) (n : Nat) (hn : n ≤ 12) : LastInv n (fun a b => a < b ∧ b ≤ n ∧ may a b = true) (lastT may n) := by
  have row : ∀ (a : Nat) (bs : List Nat) (m : List Int) (S : Nat → Nat → Prop), (∀ b ∈ bs, a < b ∧ b ≤ n) → LastInv n S m → LastInv n (fun x y => S x y ∨ (x = a ∧ y ∈ bs)) (bs.foldl (fun m b => lastB a b m) m) := by
    intro a bs
    induction bs with
    | nil => intro m S _ h; exact h.congr fun x y => by simp
    | cons b bs ih =>
      intro m S hb h
      rw [List.foldl_cons]
      have hb0 := hb b (by simp)
      refine (ih _ _ (fun c hc => hb c (by simp [hc])) (h.add hn a b hb0.1 hb0.2)).congr fun x y => ?_
      simp only [List.mem_cons]
      constructor
      · rintro ((h | ⟨h1, h2⟩) | ⟨h1, h2⟩)
        · exact .inl h
        · exact .inr ⟨h1, .inl h2⟩
        · exact .inr ⟨h1, .inr h2⟩
      · rintro (h | ⟨h1, h2 | h2⟩)
        · exact .inl (.inl h)
        · exact .inl (.inr ⟨h1, h2⟩)
        · exact .inr ⟨h1, h2⟩
  have key : ∀ k, k ≤ n → LastInv n (fun a b => a < k ∧ a < b ∧ b ≤ n ∧ may a b = true) ((List.range k).foldl (lastRow may n) (last0 n)) := by
    intro k
    induction k with
    | zero => intro _; exact (last0_inv n hn).congr fun a b => by simp
    | succ k ih =>
      intro hk
      rw [List.range_succ, List.foldl_append, List.foldl_cons, List.foldl_nil]
      refine (row k (brs may n k) _ _ (fun b hb => by rw [mem_brs] at hb; exact ⟨hb.1, hb.2.1⟩) (ih (by omega))).congr fun x y => ?_
      rw [mem_brs]
      constructor
      · rintro (⟨h1, h2⟩ | ⟨rfl, h2⟩)
        · exact ⟨by omega, h2⟩
        · exact ⟨by omega, h2⟩
      · rintro ⟨h1, h2⟩
        by_cases hx : x = k
        · subst hx; exact .inr ⟨rfl, h2⟩
        · exact .inl ⟨by omega, h2⟩
  exact (key n (Nat.le_refl _)).congr fun a b => ⟨fun h => h.2, fun h => ⟨by omega, h⟩⟩
/-- no right breath has two of some words -/
def Alone (may : Nat → Nat → Bool) (n : Nat) (l : List Int) : Prop := ∀ a b, a < b → b ≤ n → may a b = true → ∀ i j, i < j → j < l.length → ¬ ((a : Int) ≤ l.getD i 0 ∧ l.getD j 0 < b)
theorem incr_get {hi : Int} : ∀ {lo : Int} {l : List Int}, Incr lo hi l → ∀ i, i < l.length → lo ≤ l.getD i 0 ∧ l.getD i 0 < hi ∧ (∀ j, i < j → j < l.length → l.getD i 0 < l.getD j 0)
  | _, [], _, i, h => by simp at h
  | lo, x :: l, ⟨h1, h2, h3⟩, 0, _ => ⟨by simpa using h1, by simpa using h2, fun j hj hjl => by
      cases j with
      | zero => omega
      | succ j =>
        have := (incr_get h3 j (by simpa using hjl)).1
        simp at this ⊢; omega⟩
  | lo, x :: l, ⟨h1, h2, h3⟩, i + 1, h => by
    obtain ⟨g1, g2, g3⟩ := incr_get h3 i (by simpa using h)
    refine ⟨by simp at g1 ⊢; omega, by simpa using g2, fun j hj hjl => ?_⟩
    cases j with
    | zero => omega
    | succ j => have := g3 j (by omega) (by simpa using hjl); simpa using this
theorem apart_alone {may : Nat → Nat → Bool} {n : Nat} (hn : n ≤ 12) {l : List Int} (hl : Incr 0 n l) : apartB (lastT may n) l = true ↔ Alone may n l := by
  have hI := lastT_inv may n hn
  unfold apartB
  simp only [List.all_eq_true, List.mem_range, decide_eq_true_eq]
  constructor
  · rintro h a b hab hb hm i j hij hj ⟨h1, h2⟩
    obtain ⟨g1, g2, g3⟩ := incr_get hl i (by omega)
    have h5 := h i (by omega)
    have h6 := g3 j hij hj
    have h7 : l.getD (i + 1) 0 ≤ l.getD j 0 := by
      by_cases e : j = i + 1
      · rw [e]; omega
      · have := (incr_get hl (i + 1) (by omega)).2.2 j (by omega) hj; omega
    have := hI.up a b (l.getD i 0).toNat ⟨hab, hb, hm⟩ (by omega) (by omega)
    omega
  · intro h i hi
    obtain ⟨g1, g2, g3⟩ := incr_get hl i (by omega)
    have g4 := g3 (i + 1) (by omega) (by omega)
    rcases hI.back (l.getD i 0).toNat (by omega) with e | ⟨a, b, ⟨h1, h2, h3⟩, h4, h5, h6⟩
    · rw [e]; omega
    · rw [h6]
      rcases Int.lt_or_le ((b : Int) - 1) (l.getD (i + 1) 0) with h7 | h7
      · exact h7
      · exact absurd ⟨by omega, by omega⟩ (h a b h1 h2 h3 i (i + 1) (by omega) (by omega))
theorem loneGo_spec (may : Nat → Nat → Bool) (n : Nat) (hn1 : 1 ≤ n) (hn : n ≤ 12) : ∀ (ks : List Nat), ks.Pairwise (· > ·) → (∀ k ∈ ks, 2 ≤ k) →
    Incr 0 n (loneGo (lastT may n) n ks) ∧ Alone may n (loneGo (lastT may n) n ks) ∧ 1 ≤ (loneGo (lastT may n) n ks).length ∧
      (∀ m, Incr 0 n m → Alone may n m → (m.length ∈ ks ∨ m.length = 1) → m.length < (loneGo (lastT may n) n ks).length ∨ (m.length = (loneGo (lastT may n) n ks).length ∧ (m = loneGo (lastT may n) n ks ∨ lexB (loneGo (lastT may n) n ks) m = true)))
  | [], _, _ => by
    rw [loneGo]
    refine ⟨⟨by omega, by omega, trivial⟩, fun a b _ _ _ i j hij hj => by simp at hj; omega, by simp, fun m hm ha hl => .inr ?_⟩
    have hl1 : m.length = 1 := by simpa using hl
    refine ⟨hl1, ?_⟩
    match m, hl1 with
    | [x], _ =>
      obtain ⟨h1, h2, _⟩ := hm
      by_cases hx : x = 0
      · left; rw [hx]
      · right; rw [lexB, if_pos (Ne.symm hx)]; exact decide_eq_true (by omega)
  | k :: ks, hs, hk2 => by
    rw [List.pairwise_cons] at hs
    obtain ⟨i1, i2, i3, i4⟩ := loneGo_spec may n hn1 hn ks hs.2 (fun x hx => hk2 x (by simp [hx]))
    rw [loneGo]
    cases hf : (Tx.lists n k 0).find? (apartB (lastT may n)) with
    | some l =>
      obtain ⟨h1, h2, h3⟩ := find_first (lists_sorted _ _ _) hf
      obtain ⟨g1, g2⟩ := (lists_mem _ _ _ _).1 h1
      have hk := hk2 k (by simp)
      dsimp only
      refine ⟨g2, (apart_alone hn g2).1 h2, by omega, fun m hm ha hl => ?_⟩
      rcases hl with hl | hl
      · rcases List.mem_cons.1 hl with e | e
        · right
          refine ⟨by omega, ?_⟩
          exact h3 m ((lists_mem _ _ _ _).2 ⟨e, hm⟩) ((apart_alone hn hm).2 ha)
        · left; have := hs.1 _ e; omega
      · left; omega
    | none =>
      dsimp only
      refine ⟨i1, i2, i3, fun m hm ha hl => ?_⟩
      refine i4 m hm ha ?_
      rcases hl with hl | hl
      · rcases List.mem_cons.1 hl with e | e
        · exfalso
          have := List.find?_eq_none.1 hf m ((lists_mem _ _ _ _).2 ⟨e, hm⟩)
          exact this ((apart_alone hn hm).2 ha)
        · exact .inl e
      · exact .inr hl
/-- what Lone tells: words that are alone, as many as can be, the first ones of these -/
theorem loneR_spec (may : Nat → Nat → Bool) (n : Nat) (hn1 : 1 ≤ n) (hn : n ≤ 12) :
    Incr 0 n (loneR may n) ∧ Alone may n (loneR may n) ∧ 1 ≤ (loneR may n).length ∧
      (∀ m, Incr 0 n m → Alone may n m → m ≠ [] → m.length < (loneR may n).length ∨ (m.length = (loneR may n).length ∧ (m = loneR may n ∨ lexB (loneR may n) m = true))) := by
  obtain ⟨h1, h2, h3, h4⟩ := loneGo_spec may n hn1 hn (downTo2 n) (by unfold downTo2; rw [List.pairwise_reverse]; exact List.pairwise_lt_range') (fun k hk => by unfold downTo2 at hk; simp [List.mem_range'_1] at hk; omega)
  refine ⟨h1, h2, h3, fun m hm ha hne => h4 m hm ha ?_⟩
  have h0 : m.length ≠ 0 := fun e => hne (List.length_eq_zero_iff.1 e)
  rcases Incr.len hm with h | h
  · by_cases e : m.length = 1
    · exact .inr e
    · left; unfold downTo2; simp [List.mem_range'_1]; omega
  · exact absurd h hne
/-- no right reading has fewer breaths than there are lone words -/
theorem alone_le {may : Nat → Nat → Bool} {n : Nat} : ∀ (l : List Int) (a : Nat) (m : List Int), a ≤ n → Parts ((n : Int) - a) l → okFrom may a l = true → Incr a n m → Alone may n m → m.length ≤ l.length
  | [], a, m, ha, hp, _, hm, _ => by
    have h1 := hp.2
    simp only [isum, List.foldl_nil] at h1
    cases m with
    | nil => simp
    | cons x m => obtain ⟨h2, h3, _⟩ := hm; omega
  | x :: l, a, m, ha, hp, ho, hm, hal => by
    rw [okFrom, Bool.and_eq_true] at ho
    rw [parts_cons] at hp
    have hp2 := parts_pos hp.2
    cases m with
    | nil => simp
    | cons y m =>
      obtain ⟨h2, h3, h4⟩ := hm
      have hal' : Alone may n m := fun p q hpq hq hm' i j hij hj h => hal p q hpq hq hm' (i + 1) (j + 1) (by omega) (by simpa using hj) (by simpa using h)
      have key : Incr ((a + x.toNat : Nat) : Int) n m := by
        cases m with
        | nil => trivial
        | cons z m =>
          obtain ⟨k2, k3, k4⟩ := h4
          refine ⟨?_, k3, k4⟩
          by_cases hz : z < ((a + x.toNat : Nat) : Int)
          · exact absurd ⟨by simpa using h2, by simpa using hz⟩ (hal a (a + x.toNat) (by omega) (by omega) ho.1 0 1 (by omega) (by simp))
          · omega
      have := alone_le l (a + x.toNat) m (by omega) (by rw [show (n : Int) - ((a + x.toNat : Nat) : Int) = (n : Int) - a - x by omega]; exact hp.2) ho.2 key hal'
      simp only [List.length_cons]; omega
end Go.Proofs.Ytadnggecnjdhiaa
namespace Go.Proofs.Ytadnggecnjdhiaa
open Tx
set_option linter.unusedSimpArgs false
set_option linter.unusedVariables false

/-- what is right without turns: places where a break is allowed, with not too many syllables between them -/
structure Plain (may : Nat → Nat → Bool) (al : Nat → Bool) (n : Nat) : Prop where
  left : ∀ a b, may a b = true → al a = true
  right : ∀ a b, may a b = true → al b = true
  inner : ∀ a a' b, a ≤ a' → a' < b → b ≤ n → al a' = true → may a b = true → may a' b = true
theorem plain_from {may : Nat → Nat → Bool} {al : Nat → Bool} {n : Nat} (h : Plain may al n) : ∀ (l : List Int) (a q : Nat), a ≤ q → q < n → al q = true → Parts ((n : Int) - a) l → okFrom may a l = true → ∃ l', Parts ((n : Int) - q) l' ∧ okFrom may q l' = true
  | [], a, q, ha, hq, _, hp, _ => by
    have := hp.2
    simp only [isum, List.foldl_nil] at this
    omega
  | x :: l, a, q, ha, hq, hal, hp, ho => by
    have hp0 := hp
    rw [okFrom, Bool.and_eq_true] at ho
    rw [parts_cons] at hp
    have hp2 := parts_pos hp.2
    by_cases hb : q < a + x.toNat
    · refine ⟨(((a + x.toNat : Nat) : Int) - (q : Int)) :: l, ?_, ?_⟩
      · rw [parts_cons]
        refine ⟨by omega, ?_⟩
        rw [show (n : Int) - q - (((a + x.toNat : Nat) : Int) - q) = (n : Int) - a - x by omega]
        exact hp.2
      · rw [okFrom, Bool.and_eq_true, show q + (((a + x.toNat : Nat) : Int) - q).toNat = a + x.toNat by omega]
        exact ⟨h.inner a q _ ha hb (by omega) hal ho.1, ho.2⟩
    · exact plain_from h l (a + x.toNat) q (by omega) hq hal (by rw [show (n : Int) - ((a + x.toNat : Nat) : Int) = (n : Int) - a - x by omega]; exact hp.2) ho.2
theorem max_upto (p : Nat → Bool) : ∀ (n b : Nat), b ≤ n → p b = true → ∃ q, b ≤ q ∧ q ≤ n ∧ p q = true ∧ ∀ c, q < c → c ≤ n → p c = false
  | 0, b, hb, h => ⟨b, Nat.le_refl _, hb, h, fun c _ _ => by omega⟩
  | n + 1, b, hb, h => by
    by_cases hn : p (n + 1) = true
    · exact ⟨n + 1, hb, Nat.le_refl _, hn, fun c _ _ => by omega⟩
    · have hbn : b ≠ n + 1 := fun e => hn (e ▸ h)
      obtain ⟨q, h1, h2, h3, h4⟩ := max_upto p n b (by omega) h
      refine ⟨q, h1, by omega, h3, fun c hc hcn => ?_⟩
      by_cases e : c = n + 1
      · rw [e]; simpa using hn
      · exact h4 c hc (by omega)
theorem greedy {may : Nat → Nat → Bool} {al : Nat → Bool} {n : Nat} (h : Plain may al n) : ∀ (f p : Nat), n - p ≤ f → p < n → al p = true → ∀ l0, Parts ((n : Int) - p) l0 → okFrom may p l0 = true →
    ∃ l m, Parts ((n : Int) - p) l ∧ okFrom may p l = true ∧ Incr p n ((p : Int) :: m) ∧ Alone may n ((p : Int) :: m) ∧ l.length = m.length + 1
  | 0, p, hf, hp, _, _, _, _ => by omega
  | f + 1, p, hf, hp, hal, l0, hp0, ho0 => by
    have hfirst : ∃ b, p < b ∧ b ≤ n ∧ may p b = true := by
      cases l0 with
      | nil => have := hp0.2; simp only [isum, List.foldl_nil] at this; omega
      | cons x l =>
        rw [okFrom, Bool.and_eq_true] at ho0
        rw [parts_cons] at hp0
        have := parts_pos hp0.2
        exact ⟨p + x.toNat, by omega, by omega, ho0.1⟩
    obtain ⟨b, hb1, hb2, hb3⟩ := hfirst
    obtain ⟨q, h1, h2, h3, h4⟩ := max_upto (may p) n b hb2 hb3
    have far : ∀ a c, a ≤ p → q < c → c ≤ n → may a c = true → False := fun a c ha hc hcn hm => by
      have := h.inner a p c ha (by omega) hcn hal hm
      rw [h4 c hc hcn] at this; cases this
    by_cases hq : q = n
    · refine ⟨[(n : Int) - p], [], ?_, ?_, ⟨by omega, by omega, trivial⟩, fun a c _ _ _ i j hij hj => by simp at hj; omega, rfl⟩
      · rw [parts_cons]; exact ⟨by omega, by rw [show (n : Int) - p - ((n : Int) - p) = 0 by omega]; exact ⟨by simp, rfl⟩⟩
      · rw [okFrom, Bool.and_eq_true, show p + ((n : Int) - p).toNat = q by omega]
        exact ⟨h3, rfl⟩
    · have hqal := h.right p q h3
      obtain ⟨l1, g1, g2⟩ := plain_from h l0 p q (by omega) (by omega) hqal hp0 ho0
      obtain ⟨l, m, k1, k2, k3, k4, k5⟩ := greedy h f q (by omega) (by omega) hqal l1 g1 g2
      refine ⟨((q : Int) - p) :: l, (q : Int) :: m, ?_, ?_, ⟨by omega, by omega, k3.low (by omega)⟩, ?_, by simp [k5]⟩
      · rw [parts_cons]; exact ⟨by omega, by rw [show (n : Int) - p - ((q : Int) - p) = (n : Int) - q by omega]; exact k1⟩
      · rw [okFrom, Bool.and_eq_true, show p + ((q : Int) - p).toNat = q by omega]
        exact ⟨h3, k2⟩
      · intro a c hac hcn hm i j hij hj ⟨e1, e2⟩
        cases j with
        | zero => omega
        | succ j =>
          have e2' : ((q : Int) :: m).getD j 0 < c := by simpa using e2
          have hj' : j < ((q : Int) :: m).length := by simpa using hj
          have := (incr_get k3 j hj').1
          cases i with
          | zero =>
            have e1' : (a : Int) ≤ p := by simpa using e1
            exact far a c (by omega) (by omega) hcn hm
          | succ i => exact k4 a c hac hcn hm i j (by omega) hj' ⟨by simpa using e1, e2'⟩
theorem isum_nonneg {l : List Int} (h : ∀ x ∈ l, 0 ≤ x) : 0 ≤ isum l := by
  induction l with
  | nil => simp [isum]
  | cons x l ih => rw [isum_cons]; have := h x (by simp); have := ih (fun y hy => h y (by simp [hy])); omega
theorem syl_inner (t : Text) (hs : ∀ x ∈ t.words, 1 ≤ x.syl ∧ x.syl ≤ 9) {a a' b : Nat} (ha : a ≤ a') : t.syl a' b ≤ t.syl a b := by
  unfold Text.syl slice
  have e : (t.words.drop a).take (b - a) = (t.words.drop a).take (min (a' - a) (b - a)) ++ (t.words.drop a').take (b - a') := by
    rcases Nat.le_total a' b with h | h
    · rw [show min (a' - a) (b - a) = a' - a by omega, show b - a = (a' - a) + (b - a') by omega, List.take_add, List.drop_drop, show a + (a' - a) = a' by omega]
    · rw [show min (a' - a) (b - a) = b - a by omega, show b - a' = 0 by omega]; simp
  rw [e, List.map_append, isum_append]
  have := isum_nonneg (l := (((t.words.drop a).take (min (a' - a) (b - a))).map (·.syl))) (fun x hx => by
    obtain ⟨y, hy, rfl⟩ := List.mem_map.1 hx
    have := hs y (List.mem_of_mem_drop (List.mem_of_mem_take hy)); omega)
  omega
theorem plain_right (t : Text) (hs : ∀ x ∈ t.words, 1 ≤ x.syl ∧ x.syl ≤ 9) (ht : t.turns = []) : Plain t.right t.allow t.words.length := by
  have e : ∀ a b, t.right a b = true ↔ t.syl a b ≤ t.breath ∧ t.allow a = true ∧ t.allow b = true := fun a b => by
    unfold Text.right Text.isLong Text.isCut Text.isOther
    rw [ht]
    simp
  refine ⟨fun a b h => ((e a b).1 h).2.1, fun a b h => ((e a b).1 h).2.2, fun a a' b h1 h2 h3 h4 h5 => ?_⟩
  rw [e] at h5 ⊢
  have := syl_inner t hs (b := b) h1
  exact ⟨by omega, h4, h5.2.2⟩
/-- without turns there are as many lone words as breaths are needed -/
theorem lone_plain (t : Text) (hs : ∀ x ∈ t.words, 1 ≤ x.syl ∧ x.syl ≤ 9) (ht : t.turns = []) (hn1 : 1 ≤ t.words.length) (hn : t.words.length ≤ 12) (he : (fewest t.right t.words.length).2 = 0) :
    (loneR t.right t.words.length).length = (fewest t.right t.words.length).1.length := by
  obtain ⟨s1, s2, s3, s4⟩ := loneR_spec t.right t.words.length hn1 hn
  obtain ⟨f1, f2, f3, f4⟩ := fewest_rights (may := t.right) hn1 hn
  obtain ⟨r1, r2⟩ := mem_rights.1 (f3 he)
  have h1 := alone_le _ 0 _ (Nat.zero_le _) (by simpa using r1) r2 (by simpa using s1) s2
  obtain ⟨l, m, k1, k2, k3, k4, k5⟩ := greedy (plain_right t hs ht) t.words.length 0 (by omega) (by omega) (by simp [Text.allow]) _ (by simpa using r1) r2
  have h2 := s4 _ (by simpa using k3) (by simpa using k4) (by simp)
  have hl : l ∈ rights t.right t.words.length := mem_rights.2 ⟨by simpa using k1, k2⟩
  have h3 := (bestLen_spec _ 0 (rights_ne hn1)).2.1 l hl
  simp only [List.length_cons] at h2
  omega
theorem lone_le (may : Nat → Nat → Bool) (n : Nat) (hn1 : 1 ≤ n) (hn : n ≤ 12) (he : (fewest may n).2 = 0) : (loneR may n).length ≤ (fewest may n).1.length := by
  obtain ⟨s1, s2, s3, s4⟩ := loneR_spec may n hn1 hn
  obtain ⟨f1, f2, f3, f4⟩ := fewest_rights (may := may) hn1 hn
  obtain ⟨r1, r2⟩ := mem_rights.1 (f3 he)
  exact alone_le _ 0 _ (Nat.zero_le _) (by simpa using r1) r2 (by simpa using s1) s2
end Go.Proofs.Ytadnggecnjdhiaa
set_option linter.unusedSimpArgs false
set_option linter.unusedVariables false
namespace Go.Proofs.Ytadnggecnjdhiaa
open Go.RowKit Tx
attribute [local go_sem] Oper.semAt_some

theorem und_twelve : Try.prog.underlying 176 = some (.array 12 3) := by kernel_rfl
theorem size_twelve {A : Array Value} (h : A.size = 12) : (Try.prog.info? 176).map (·.size) = some A.size := by rw [h]; kernel_rfl
/-- numbers that aren't great -/
def Sm12 (m : List Int) : Prop := m.length = 12 ∧ ∀ k, k < 12 → 0 ≤ m.getD k 0 ∧ m.getD k 0 ≤ 1000
theorem sm12_lastW {m : List Int} (h : Sm12 m) (b w : Nat) (hb : b ≤ 13) : Sm12 (lastW b m w) := by
  refine ⟨by simp [lastW, h.1], fun k hk => ?_⟩
  unfold lastW
  have h1 := h.2 k hk
  simp only [List.getD_eq_getElem?_getD, List.getElem?_set] at *
  by_cases hkb : w = k
  · subst hkb; rw [if_pos rfl, if_pos (by rw [h.1]; exact hk)]; simp; omega
  · rw [if_neg hkb]; exact h1
theorem sm12_fold {m : List Int} (h : Sm12 m) (b : Nat) (hb : b ≤ 13) : ∀ l : List Nat, Sm12 (l.foldl (lastW b) m) := by
  intro l
  induction l generalizing m with
  | nil => exact h
  | cons x l ih => exact ih (sm12_lastW h b x hb)
/-- the first k words are the last ones of themselves -/
def lastK (k : Nat) : List Int := (List.range 12).map fun w => if w < k then (w : Int) else 0
theorem lastK_set (k : Nat) (hk : k < 12) : (lastK k).set k (k : Int) = lastK (k + 1) := by
  unfold lastK
  apply List.ext_getElem (by simp)
  intro i h1 h2
  simp only [List.getElem_set, List.getElem_map, List.getElem_range]
  by_cases hi : k = i
  · subst hi; simp
  · rw [if_neg hi]
    by_cases hik : i < k
    · rw [if_pos hik, if_pos (by omega)]
    · rw [if_neg hik, if_neg (by omega)]
theorem lastK_zero : lastK 0 = List.replicate 12 0 := by decide
theorem lastK_sm (k : Nat) (hk : k ≤ 12) : Sm12 (lastK k) := by
  refine ⟨by simp [lastK], fun i hi => ?_⟩
  unfold lastK
  simp only [List.getD_eq_getElem?_getD, List.getElem?_map, List.getElem?_range hi, Option.map_some, Option.getD_some]
  split <;> omega
theorem hold_bel {B M : Nat} {w w' : World} (h : Hold (fun k => k ≠ M) w w') (hM : B ≤ M) (hB : B ≤ w.heap.size) : Below B w w' :=
  ⟨h.os, h.tape, h.output, h.size, fun k hk => h.same k (show k ≠ M by omega) (by omega)⟩
/-- what holds in lastTogether -/
structure LtC (n cw : Nat) (pw : Option Addr) (v1 v2 mv : Value) (w W : World) (M : List Int) (C : Nat) (ds : List Deferred) : Prop where
  wk : W.heap[w.heap.size]? = some (.cells #[.slice pw n cw, v1, v2, mv] 125 (0, 0))
  mks : W.heap[w.heap.size + 1 + 1]? = some (.cells (arrOf M) 176 (0, 0))
  res : W.heap[w.heap.size + 1]? = some (.cells (arrOf (List.replicate 12 0)) 176 (0, 0))
  bel : Below w.heap.size w W
  ends : Ends (w.heap.size + 1 + 1 + 1) W C ds
  sz : w.heap.size + 1 + 1 + 1 ≤ W.heap.size ∧ C ≤ W.heap.size
  small : Sm12 M
theorem LtC.below {n cw : Nat} {pw : Option Addr} {v1 v2 mv : Value} {w W W' : World} {M : List Int} {C : Nat} {ds : List Deferred} (h : LtC n cw pw v1 v2 mv w W M C ds) {B : Nat} (h3 : w.heap.size + 1 + 1 + 1 ≤ B) (hC : C ≤ B) (hB : Below B W W') : LtC n cw pw v1 v2 mv w W' M C ds :=
  ⟨(hB.block _ (by omega)).trans h.wk, (hB.block _ (by omega)).trans h.mks, (hB.block _ (by omega)).trans h.res, h.bel.trans (hB.mono (by omega)), h.ends.keep (fun k _ hk => hB.block k (by omega)),
    ⟨Nat.le_trans h.sz.1 hB.size, Nat.le_trans h.sz.2 hB.size⟩, h.small⟩

set_option maxHeartbeats 4000000 in
set_option maxRecDepth 100000 in
theorem lastTogether_any (may : Nat → Nat → Bool) (n cw : Nat) (hn : n ≤ 12) (pw : Option Addr) (v1 v2 mv : Value) (w : World) (hMay : MayAt mv may n (fun k => k < w.heap.size) w) :
    Calls Try.prog 150 #[.agg #[.slice pw n cw, v1, v2, mv]] w fun e w' => e = .returned (.agg (arrOf (lastT may n))) ∧ Below w.heap.size w w' := by
  have HMAY := Lib.hid hMay
  clear hMay
  obtain ⟨m, hm9⟩ : ∃ m : Nat, 9 ≤ m := ⟨9, Nat.le_refl _⟩
  refine (callsIn_wide (n := m)).1 ?_
  refine callsIn_of_wp_marks Try.func150 rfl trivial ?_ rfl
  simp only [Try.ntmps150, List.size_toArray, List.length_cons, List.length_nil, Nat.reduceAdd, Nat.reduceSub, Array.replicate_succ, Array.replicate_zero, List.push_toArray, List.append_toArray, List.nil_append, List.cons_append]
  gi_wp2_with fail
  have hB3 : ∀ o1 o2 o3, Below w.heap.size w (((w.alloc o1).alloc o2).alloc o3) := fun o1 o2 o3 => (((below1 _ _).alloc (by simp) _).alloc (by simp; omega) _)
  generalize hW3 : ((w.alloc (Obj.cells #[Value.slice pw n cw, v1, v2, mv] 125)).alloc (Obj.cells #[Value.int IntKind.i64 0, Value.int IntKind.i64 0, Value.int IntKind.i64 0, Value.int IntKind.i64 0, Value.int IntKind.i64 0, Value.int IntKind.i64 0, Value.int IntKind.i64 0, Value.int IntKind.i64 0, Value.int IntKind.i64 0, Value.int IntKind.i64 0, Value.int IntKind.i64 0, Value.int IntKind.i64 0] 176)).alloc (Obj.cells #[Value.int IntKind.i64 0, Value.int IntKind.i64 0, Value.int IntKind.i64 0, Value.int IntKind.i64 0, Value.int IntKind.i64 0, Value.int IntKind.i64 0, Value.int IntKind.i64 0, Value.int IntKind.i64 0, Value.int IntKind.i64 0, Value.int IntKind.i64 0, Value.int IntKind.i64 0, Value.int IntKind.i64 0] 176) = W3
  have hA3 : LtC n cw pw v1 v2 mv w W3 (lastK 0) W3.heap.size [] := by
    have hb3 : Below w.heap.size w W3 := by rw [← hW3]; exact hB3 _ _ _
    refine ⟨?_, ?_, ?_, hb3, trivial, ⟨?_, Nat.le_refl _⟩, lastK_sm 0 (by omega)⟩
    · rw [← hW3, Below.heap_alloc _ _ _ (by first | (simp; done) | (simp; omega)), Below.heap_alloc _ _ _ (by simp)]; exact heap_last _ _
    · rw [← hW3, lastK_zero]
      have := heap_last ((w.alloc (Obj.cells #[Value.slice pw n cw, v1, v2, mv] 125)).alloc (Obj.cells (arrOf (List.replicate 12 0)) 176)) (Obj.cells (arrOf (List.replicate 12 0)) 176)
      rwa [World.size_alloc, World.size_alloc] at this
    · rw [← hW3, Below.heap_alloc _ _ _ (by simp)]
      have := heap_last (w.alloc (Obj.cells #[Value.slice pw n cw, v1, v2, mv] 125)) (Obj.cells (arrOf (List.replicate 12 0)) 176)
      rwa [World.size_alloc] at this
    · rw [← hW3]; simp
  clear hW3 hB3
  gi_loopw [12] (fun i wr => ∃ k : Nat, k ≤ n ∧ i = .int .i64 k ∧ Hid (LtC n cw pw v1 v2 mv w wr (lastK k) wr.heap.size [])) (fun i _ => n - (intOf i).toNat)
  case atStart => exact ⟨0, Nat.zero_le _, rfl, Lib.hid hA3⟩
  case round =>
    clear hA3
    obtain ⟨k, hk, rfl, HA⟩ := hrel
    have hsz0 := HA.out.sz.1
    by_cases hlt : k < n
    · have hlt' : (k : Int) < n := by omega
      have hk12 : (k : Int) < 12 := by omega
      have hk12' : k < 12 := by omega
      obtain ⟨Mb, hMb⟩ : ∃ Mb, Mb = w.heap.size + 1 + 1 := ⟨_, rfl⟩
      have HMb := Lib.hid hMb
      have hcb := blk_cells HA.out.mks k _ (arrOf_get (by simp [lastK]; omega))
      have hfz : wr.frozen? ⟨Mb, k, none⟩ = false := by simp [World.frozen?, hMb, HA.out.mks]
      rw [← hMb] at hcb
      have hMl : Mb < wr.heap.size := by omega
      have hblk := heap_set_same (w := wr) (g := Mb) (o := k) (.int .i64 (k : Int)) (cs := arrOf (lastK k)) (t := 176) (by rw [hMb]; exact HA.out.mks)
      rw [arrOf_set, lastK_set k hk12'] at hblk
      have hH : Hold (fun j => j ≠ Mb) wr (wr.setCell ⟨Mb, k, none⟩ (.int .i64 (k : Int))) := Hold.setCell _ _ _ (fun h => h rfl)
      have HNEW : Hid (LtC n cw pw v1 v2 mv w (wr.setCell ⟨Mb, k, none⟩ (.int .i64 (k : Int))) (lastK (k + 1)) (wr.setCell ⟨Mb, k, none⟩ (.int .i64 (k : Int))).heap.size []) := Lib.hid
        ⟨(hH.same _ (by omega) (by omega)).trans HA.out.wk, by rw [← hMb]; exact hblk, (hH.same _ (by omega) (by omega)).trans HA.out.res, HA.out.bel.setCell (p := ⟨Mb, k, none⟩) (show w.heap.size ≤ Mb by omega) _, trivial, ⟨by have := hH.size; omega, Nat.le_refl _⟩, lastK_sm _ (by omega)⟩
      clear hblk hH
      rw [← hMb]
      clear hMb
      gi_wp2
      go_roundw
      case rel => exact ⟨k + 1, by omega, by go_num, HNEW⟩
      case measure => simp [intOf]; omega
    · have hkn : n = k := by omega
      subst hkn
      obtain ⟨f0, f1, f2, f3⟩ : wr.cell? ⟨w.heap.size, 0, none⟩ = some (.slice pw n cw) ∧ wr.cell? ⟨w.heap.size, 1, none⟩ = some v1 ∧ wr.cell? ⟨w.heap.size, 2, none⟩ = some v2 ∧ wr.cell? ⟨w.heap.size, 3, none⟩ = some mv :=
        ⟨blk_cells HA.out.wk 0 _ rfl, blk_cells HA.out.wk 1 _ rfl, blk_cells HA.out.wk 2 _ rfl, blk_cells HA.out.wk 3 _ rfl⟩
      have hs00 : w.heap.size < wr.heap.size := by omega
      gi_wp2_with fail
      refine ⟨trivial, (fun h => by cases h), ?_⟩
      refine (callsIn_wide.2 (end_any _ _ _ _ _ _ _)).mono ?_
      rintro e W6 ⟨rfl, hw6⟩
      have hA6 : LtC n cw pw v1 v2 mv w W6 (lastK n) W6.heap.size [] := by
        have hb6 : Below wr.heap.size wr W6 := by rw [← hw6]; exact below1 _ _
        have := HA.out.below (C := wr.heap.size) hsz0 (Nat.le_refl _) hb6
        exact ⟨this.wk, this.mks, this.res, this.bel, trivial, ⟨this.sz.1, Nat.le_refl _⟩, this.small⟩
      clear hw6 f0 f1 f2 f3 HA hs00 hsz0
      gi_wp2_with fail
      refine wpIn_loop (fun a' w' => ∃ (k : Nat) (ds : List Deferred) (u4 u5 u6 u7 u8 u9 u10 u11 u12 u13 u14 u15 u16 u17 u18 u19 u22 u23 u24 u25 u26 u27 u28 u29 u30 u31 u32 u33 u34 u35 u36 u37 u38 u39 u40 u41 u42 u43 : Value), k ≤ n ∧ a' = { tmps := #[.agg #[.slice pw n cw, v1, v2, mv], .pointer (some ⟨w.heap.size, 0, none⟩), .pointer (some ⟨w.heap.size + 1, 0, none⟩), .pointer (some ⟨w.heap.size + 1 + 1, 0, none⟩), u4, u5, u6, u7, u8, u9, u10, u11, u12, u13, u14, u15, u16, u17, u18, u19, .int .i64 n, .int .i64 k, u22, u23, u24, u25, u26, u27, u28, u29, u30, u31, u32, u33, u34, u35, u36, u37, u38, u39, u40, u41, u42, u43], defers := ds } ∧ LtC n cw pw v1 v2 mv w w' ((List.range k).foldl (lastRow may n) (lastK n)) w'.heap.size ds) (fun a' _ => n - (intOf (a'.tmps.getD 21 undef)).toNat) ⟨0, [], _, _, _, _, _, _, _, _, _, _, _, _, _, _, _, _, _, _, _, _, _, _, _, _, _, _, _, _, _, _, _, _, _, _, _, _, _, _, Nat.zero_le _, rfl, hA6⟩ ?_
      clear hA6
      rintro a' wo ⟨k, ds, u4, u5, u6, u7, u8, u9, u10, u11, u12, u13, u14, u15, u16, u17, u18, u19, u22, u23, u24, u25, u26, u27, u28, u29, u30, u31, u32, u33, u34, u35, u36, u37, u38, u39, u40, u41, u42, u43, hk, rfl, hA⟩
      have HA := Lib.hid hA
      have hsz0 := hA.sz.1
      have f0 := blk_cells hA.wk 0 _ rfl
      have f1 := blk_cells hA.wk 1 _ rfl
      have f2 := blk_cells hA.wk 2 _ rfl
      have f3 := blk_cells hA.wk 3 _ rfl
      clear hA
      generalize hMk : (List.range k).foldl (lastRow may n) (lastK n) = Mk at HA
      have HMK := Lib.hid hMk
      clear hMk
      by_cases hlt : k < n
      · have hlt' : (k : Int) < n := by omega
        have hs0 : w.heap.size < wo.heap.size := by omega
        gi_wp2_with fail
        refine ⟨trivial, (fun h => by cases h), ?_⟩
        refine (callsIn_wide.2 (breaths_any _ _ _ _ _ _)).mono ?_
        rintro e W4 ⟨rfl, hW4⟩
        have hB4 : Below wo.heap.size wo W4 := by rw [← hW4]; exact (((below1 _ _).alloc (by simp) _).alloc (by simp; omega) _)
        have hs4 : W4.heap.size = wo.heap.size + 3 := by rw [← hW4]; simp
        have k0 : W4.cell? ⟨wo.heap.size, 0, none⟩ = some (.int .i64 k) := by rw [← hW4]; clear hW4; go_simp
        have hC4 : BrCap W4 n cw pw v1 v2 mv k (wo.heap.size + 1 + 1) (wo.heap.size + 1) := by
          refine ⟨?_, ?_⟩
          · rw [← hW4]
            have := heap_last ((wo.alloc (Obj.cells #[Value.int IntKind.i64 k] 3)).alloc (Obj.cells #[Value.slice pw n cw, v1, v2, mv] 125)) (Obj.cells #[Value.int IntKind.i64 k] 3)
            rwa [World.size_alloc, World.size_alloc] at this
          · rw [← hW4, Below.heap_alloc _ _ _ (by simp)]
            have := heap_last (wo.alloc (Obj.cells #[Value.int IntKind.i64 k] 3)) (Obj.cells #[Value.slice pw n cw, v1, v2, mv] 125)
            rwa [World.size_alloc] at this
        have hM4 : MayAt mv may n (fun j => j ≠ w.heap.size + 1 + 1 ∧ j < W4.heap.size) W4 :=
          (HMAY.out.hold (.of_below (HA.out.bel.trans (hB4.mono (by omega))) (fun _ h _ => h))).mono (fun j hj _ => ⟨by omega, by omega⟩)
        have hA4 := HA.out.below (C := wo.heap.size) hsz0 (Nat.le_refl _) hB4
        clear hW4 f0 f1 f2 f3
        gi_wp2_with fail
        refine range_of (gf := 166) (lb := #[.pointer (some ⟨wo.heap.size + 1 + 1, 0, none⟩), .pointer (some ⟨wo.heap.size + 1, 0, none⟩)]) rfl (enters_of Try.func166 (by kernel_rfl) rfl)
          (breaths_seq (m - 1) (fun j => j ≠ w.heap.size + 1 + 1) may n cw hn pw v1 v2 mv k _ _ hk W4 ⟨by omega, by omega⟩ hC4 hM4) (Below.refl _ _) (fun x vs W h => by rw [h]; rfl)
          (fun pre W' => LtC n cw pw v1 v2 mv w W' (pre.foldl (fun m b => lastB k b m) Mk) W4.heap.size ds ∧ W'.cell? ⟨wo.heap.size, 0, none⟩ = some (.int .i64 k) ∧ W4.heap.size ≤ W'.heap.size)
          (fun _ _ _ => False) ?lwI ?lwX ⟨⟨hA4.wk, hA4.mks, hA4.res, hA4.bel, hA4.ends.mono (by omega), ⟨by omega, Nat.le_refl _⟩, hA4.small⟩, k0, Nat.le_refl _⟩ ?round ?done ?stop
        case lwI =>
          rintro s' X Y ⟨i1, i2, i3⟩ hb
          exact ⟨i1.below (by omega) (Nat.le_refl _) hb, (hb.cell (p := ⟨wo.heap.size, 0, none⟩) (show wo.heap.size < W4.heap.size by omega)).trans i2, Nat.le_trans i3 hb.size⟩
        case lwX => rintro c s' X Y h; exact h.elim
        case stop => rintro D c pre W' hD h; exact h.elim
        case done =>
          rintro D W' hD ⟨i1, i2, i3⟩ hK
          have hDl := (Array.getElem?_eq_some_iff.1 hK).1
          have hnext : (List.range (k + 1)).foldl (lastRow may n) (lastK n) = (brs may n k).foldl (fun m b => lastB k b m) Mk := by
            rw [List.range_succ, List.foldl_append, HMK.out]; rfl
          gi_wp2
          refine ⟨⟨k + 1, _, _, _, _, _, _, _, _, _, _, _, _, _, _, _, _, _, _, _, _, _, _, _, _, _, _, _, _, _, _, _, _, _, _, _, _, _, _, _, by omega, rfl, by rw [hnext]; exact ⟨i1.wk, i1.mks, i1.res, i1.bel, ⟨D, rfl, by omega, hDl, hK, i1.ends.mono (Nat.le_of_eq hD.symm)⟩, ⟨i1.sz.1, Nat.le_refl _⟩, i1.small⟩⟩, ?_⟩
          simp [intOf]
          omega
        case round =>
          rintro lq pre b post vs W5 hl1 hl2 - hL rfl ⟨i1, i2, i3⟩
          have hb : k < b ∧ b ≤ n := by
            have : b ∈ brs may n k := by rw [hL]; simp
            unfold brs at this
            have := (List.mem_filter.1 this).1
            rw [List.mem_range'_1] at this; omega
          obtain ⟨hb1, hb2⟩ := hb
          clear i1 i2 i3 hA4 hC4 hM4
          gi_wp2
          refine ⟨Below.refl _ _, ?_⟩
          rintro Wb hg hsz ⟨j1, j2, j3⟩
          have J1 := Lib.hid j1
          have J2 := Lib.hid j2
          have hca0 := j2
          clear j1 hg j2
          gi_wp2_with fail
          gi_loopw [7] (fun i W' => ∃ c : Nat, k ≤ c ∧ c ≤ b ∧ i = .int .i64 c ∧ Hid (Hold (fun j => j ≠ w.heap.size + 1 + 1) Wb W') ∧ Hid (W'.heap[w.heap.size + 1 + 1]? = some (.cells (arrOf ((List.range' k (c - k)).foldl (lastW b) (pre.foldl (fun m b => lastB k b m) Mk))) 176 (0, 0)))) (fun i _ => b - (intOf i).toNat)
          case atStart => exact ⟨k, Nat.le_refl _, by omega, rfl, Lib.hid (Hold.refl _ _), Lib.hid (by rw [Nat.sub_self]; exact J1.out.mks)⟩
          case round =>
            obtain ⟨c, hkc, hcb, rfl, HHc, HMc⟩ := hrel
            have hzc := HHc.out.size
            have hz0 := J1.out.sz.1
            have hb12 : b ≤ 12 := by omega
            have HSMc := Lib.hid (show Sm12 ((List.range' k (c - k)).foldl (lastW b) (pre.foldl (fun m b => lastB k b m) Mk)) from sm12_fold J1.out.small b (by omega) _)
            by_cases hcl : c < b
            · have hcl' : (c : Int) < b := by omega
              have hc12 : (c : Int) < 12 := by omega
              obtain ⟨Mb, hMb⟩ : ∃ Mb, Mb = w.heap.size + 1 + 1 := ⟨_, rfl⟩
              have HMb := Lib.hid hMb
              have HST : Hid ((List.range' k (c + 1 - k)).foldl (lastW b) (pre.foldl (fun m b => lastB k b m) Mk) = lastW b ((List.range' k (c - k)).foldl (lastW b) (pre.foldl (fun m b => lastB k b m) Mk)) c) := Lib.hid (by
                rw [show c + 1 - k = (c - k) + 1 by omega, List.range'_concat, List.foldl_append, show k + 1 * (c - k) = c by omega]; rfl)
              have hcell := blk_cells HMc.out c _ (arrOf_get (by rw [HSMc.out.1]; omega))
              obtain ⟨L, hL2⟩ : ∃ L, L = (List.range' k (c - k)).foldl (lastW b) (pre.foldl (fun m b => lastB k b m) Mk) := ⟨_, rfl⟩
              rw [← hL2] at HST HMc hcell HSMc
              have hfz : wr.frozen? ⟨Mb, c, none⟩ = false := by simp [World.frozen?, hMb, HMc.out]
              have hblk := heap_set_same (w := wr) (g := Mb) (o := c) (.int .i64 (max (L.getD c 0) ((b : Int) - 1))) (cs := arrOf L) (t := 176) (by rw [hMb]; exact HMc.out)
              rw [arrOf_set] at hblk
              have hH := Hold.setCell (Kp := fun j => j ≠ Mb) wr ⟨Mb, c, none⟩ (.int .i64 (max (L.getD c 0) ((b : Int) - 1))) (fun h => h rfl)
              have HBLK := Lib.hid hblk
              have HHN := Lib.hid hH
              rw [← hMb] at hcell
              have hsub : IntKind.i64.wrap ((b : Int) - 1) = (b : Int) - 1 := IntWalk.i64_in _ (by omega)
              have hMl : Mb < wr.heap.size := by omega
              obtain ⟨x, hx⟩ : ∃ x, x = L.getD c 0 := ⟨_, rfl⟩
              rw [← hx] at hcell HBLK HHN
              have HX := Lib.hid hx
              have hmax : (if x < (b : Int) - 1 then (b : Int) - 1 else x) = max x ((b : Int) - 1) := by rw [Int.max_def]; split <;> split <;> omega
              clear hblk hH hL2 hx
              rw [← hMb]
              clear hMb
              gi_wp2
              go_roundw
              case rel => exact ⟨c + 1, by omega, by omega, by go_num, Lib.hid (by have h := HHc.out; rw [← HMb.out] at h; exact h.trans HHN.out), Lib.hid (by rw [HST.out]; unfold lastW; rw [← HX.out]; exact HBLK.out)⟩
              case measure => simp [intOf]; omega
            · have hbc : b = c := by omega
              subst hbc
              have hnew : (pre ++ [b]).foldl (fun m b => lastB k b m) Mk = (List.range' k (b - k)).foldl (lastW b) (pre.foldl (fun m b => lastB k b m) Mk) := by rw [List.foldl_append]; rfl
              have HNEW := Lib.hid hnew
              clear hnew
              gi_wp2
              refine ⟨HHc.out.mono (fun j hj _ => by rcases hj with h | h <;> omega), ⟨(HHc.out.same _ (by omega) (by omega)).trans J1.out.wk, by rw [HNEW.out]; exact HMc.out, (HHc.out.same _ (by omega) (by omega)).trans J1.out.res, ?_, J1.out.ends.keep (fun j h1 h2 => HHc.out.same j (by omega) (by omega)), ⟨by omega, by omega⟩, by rw [HNEW.out]; exact HSMc.out⟩,
                (HHc.out.cell (p := ⟨wo.heap.size, 0, none⟩) (show wo.heap.size ≠ w.heap.size + 1 + 1 by omega) (show wo.heap.size < Wb.heap.size by omega)).trans J2.out, by omega⟩
              exact J1.out.bel.trans (hold_bel HHc.out (by omega) (by omega))
      · have hkn : n = k := by omega
        subst hkn
        have hAsz : (arrOf Mk).size = 12 := by rw [arrOf_size]; exact HA.out.small.1
        have hi := size_twelve hAsz
        have hone := arrOf_one Mk
        have hthere : wo.there (w.heap.size + 1) 0 (arrOf Mk).size := fun j hj => by
          have hr := HA.out.res
          rw [Nat.zero_add, blk_cells hr j _ (arrOf_get (by simp; omega))]
          exact ⟨by simp, by simp [World.frozen?, hr]⟩
        have HROW := Lib.hid HA.out.mks
        have HI := Lib.hid hi
        have HTH := Lib.hid hthere
        have HON := Lib.hid hone
        have HSZ := Lib.hid hAsz
        clear hi hthere hone hAsz f0 f1 f2 f3
        generalize hBA : arrOf Mk = BA at HROW HI HTH HON HSZ
        have HBA := Lib.hid hBA
        clear hBA
        refine wpIn_wide.2 ?_
        go_wp2
        refine wpIn_wide.2 ?_
        go_wp2_with (first | (with_reducible refine wpList_load_row rfl 176 _ rfl (w.heap.size + 1 + 1) rfl 176 BA (0, 0) _ HROW.out und_twelve rfl HI.out ?_) | (with_reducible refine wpList_store_mid rfl 176 _ _ rfl (w.heap.size + 1) 0 BA rfl rfl HTH.out HI.out HON.out ?_))
        have hz := HA.out.sz.1
        have hH : Hold (fun j => j ≠ w.heap.size + 1) wo (wo.setCells (w.heap.size + 1) 0 BA.toList) := hold_setCells _ _ _ _
        have hres2 : (wo.setCells (w.heap.size + 1) 0 BA.toList).heap[w.heap.size + 1]? = some (.cells BA 176 (0, 0)) := by
          rw [heap_setCells _ _ _ _ _ _ _ HA.out.res, setFrom_all _ _ (by rw [Array.length_toList, HSZ.out]; simp [arrOf_size])]
        refine leaves_ends (B := w.heap.size + 1 + 1 + 1) (by simp) _ wo.heap.size _ (HA.out.ends.keep (fun j h1 h2 => hH.same j (by omega) h2)) hH.size (fun w' hh => ?_)
        have hres := (hh.same _ (show w.heap.size + 1 < w.heap.size + 1 + 1 + 1 by omega) (by have := hH.size; omega)).trans hres2
        refine ⟨.agg BA, results_cell_row rfl _ _ (w.heap.size + 1) 176 BA (0, 0) _ rfl hres und_twelve rfl HI.out, ?_⟩
        exact ⟨by rw [← HBA.out, ← HMK.out]; rfl, (below_setCells' (by omega) _ _ _ HA.out.bel).trans ((hh.to_below (by have := hH.size; omega)).mono (by omega))⟩
end Go.Proofs.Ytadnggecnjdhiaa
set_option linter.unusedSimpArgs false
set_option linter.unusedVariables false
namespace Go.Proofs.Ytadnggecnjdhiaa
open Go.RowKit Tx

theorem apart_cut (last l : List Int) (i : Nat) (hi : i < l.length - 1) : apartB last l = true → last.getD (l.getD i 0).toNat 0 < l.getD (i + 1) 0 := by
  unfold apartB
  intro h
  rw [List.all_eq_true] at h
  exact of_decide_eq_true (h i (List.mem_range.2 hi))
theorem apart_all (last l : List Int) (h : ∀ i, i < l.length - 1 → last.getD (l.getD i 0).toNat 0 < l.getD (i + 1) 0) : apartB last l = true := by
  unfold apartB
  rw [List.all_eq_true]
  intro i hi
  exact decide_eq_true (h i (List.mem_range.1 hi))
set_option maxHeartbeats 2000000 in
set_option maxRecDepth 100000 in
theorem apart_any (last l : List Int) (hlast : last.length = 12) (k : Nat) (hk : l.length = k) (hk2 : 2 ≤ k) (hk12 : k ≤ 1000) (hl : ∀ x ∈ l, 0 ≤ x ∧ x < 12) (b o : Nat) (w : World) (hb : b < w.heap.size) (hL : ∀ i, i < l.length → w.cell? ⟨b, o + i, none⟩ = some (.int .i64 (l.getD i 0))) :
    Calls Try.prog 152 #[.slice (some ⟨b, o, none⟩) k k, .agg (arrOf last)] w fun e w' => e = .returned (.bool (apartB last l)) ∧ Below w.heap.size w w' := by
  have HL := Lib.hid hL
  have HLEN := Lib.hid hk
  have HIN := Lib.hid hl
  have HB1 := Lib.hid (below1 w (.cells (arrOf last) 176))
  have HX := Lib.hid (heap_last w (.cells (arrOf last) 176))
  have hz1 : (w.alloc (.cells (arrOf last) 176)).heap.size = w.heap.size + 1 := by simp
  have h1k : (1 : Int) ≤ (k : Int) := by omega
  have h1k2 : 1 < k := by omega
  have h1k3 : (1 : Int) < (k : Int) := by omega
  have hne1 : ¬ k = 1 := by omega
  clear hL hk hl
  go_enter Try.func152, Try.ntmps152
  go_wp2_with fail
  generalize w.alloc (.cells (arrOf last) 176) = W1 at HB1 HX hz1 ⊢
  go_loopw [10] (fun i wr => ∃ j : Nat, j ≤ k - 1 ∧ i = .int .i64 j ∧ Hid (∀ q, q < j → last.getD (l.getD q 0).toNat 0 < l.getD (q + 1) 0) ∧ Hid (Below W1.heap.size W1 wr)) (fun i _ => k - (intOf i).toNat)
  case atStart => exact ⟨0, Nat.zero_le _, rfl, Lib.hid (fun q hq => absurd hq (Nat.not_lt_zero _)), Lib.hid (Below.refl _ _)⟩
  case round =>
    obtain ⟨j, hj, rfl, HQ, HB⟩ := hrel
    have hzr := HB.out.size
    have HBw := Lib.hid (join HB1.out HB.out)
    by_cases hlt : j < k - 1
    · have hlt' : (j : Int) < ((k - 1 : Nat) : Int) := by omega
      have hjk : (j : Int) < (k : Int) := by omega
      have hlen := HLEN.out
      have c1 := (HBw.out.cell (p := ⟨b, o + (j + 1), none⟩) hb).trans (HL.out (j + 1) (by omega))
      have c0 := (HBw.out.cell (p := ⟨b, o + j, none⟩) hb).trans (HL.out j (by omega))
      have hx := HIN.out _ (getD_mem (xs := l) 0 (show j < l.length by omega))
      obtain ⟨x, hxe⟩ : ∃ x : Nat, l.getD j 0 = (x : Int) := ⟨(l.getD j 0).toNat, by omega⟩
      obtain ⟨y, hye⟩ : ∃ y, y = l.getD (j + 1) 0 := ⟨_, rfl⟩
      rw [hxe] at c0 hx
      rw [← hye] at c1
      have hx12 : x < 12 := by omega
      have hx12' : (x : Int) < 12 := by omega
      have cl := blk_cells ((HB.out.block w.heap.size (by omega)).trans HX.out) x _ (arrOf_get (M := last) (by omega))
      obtain ⟨z, hze⟩ : ∃ z, z = last.getD x 0 := ⟨_, rfl⟩
      rw [← hze] at cl
      have ho : o + 1 + j = o + (j + 1) := by omega
      rw [← ho] at c1
      have HZ : Hid (last.getD (l.getD j 0).toNat 0 = z ∧ l.getD (j + 1) 0 = y) := Lib.hid ⟨by rw [hxe, hze]; rfl, hye.symm⟩
      have hsz1 : w.heap.size < wr.heap.size := by omega
      clear hlen hx hxe hye hze ho
      by_cases hyz : y ≤ z
      · have HF : Hid (apartB last l = false) := Lib.hid (by
          cases h : apartB last l with
          | false => rfl
          | true =>
            have := apart_cut last l j (by have := HLEN.out; omega) h
            rw [HZ.out.1, HZ.out.2] at this; omega)
        go_wp2
        go_ret
        exact ⟨ret_bool (by rw [HF.out]), HBw.out⟩
      · have HQ2 : Hid (∀ q, q < j + 1 → last.getD (l.getD q 0).toNat 0 < l.getD (q + 1) 0) := Lib.hid (fun q hq => by
          by_cases hqj : q = j
          · rw [hqj, HZ.out.1, HZ.out.2]; omega
          · exact HQ.out q (by omega))
        go_wp2
        go_roundw
        case rel => exact ⟨j + 1, by omega, by go_num, HQ2, HB⟩
        case measure => simp [intOf]; omega
    · have HF : Hid (apartB last l = true) := Lib.hid (apart_all last l (fun q hq => HQ.out q (by have := HLEN.out; omega)))
      go_wp2
      go_ret
      exact ⟨ret_bool (by rw [HF.out]), HBw.out⟩
end Go.Proofs.Ytadnggecnjdhiaa
set_option linter.unusedSimpArgs false
set_option linter.unusedVariables false
namespace Go.Proofs.Ytadnggecnjdhiaa
open Go.RowKit Tx
attribute [local go_sem] Oper.semAt_some

/-- the numbers of words that are tried, from the greatest one down -/
def downK (k : Nat) : List Nat := (List.range' 2 (k - 1)).reverse
theorem downK_succ (k : Nat) (h : 2 ≤ k) : downK k = k :: downK (k - 1) := by
  unfold downK
  rw [show k - 1 = (k - 1 - 1) + 1 by omega, List.range'_concat, List.reverse_append, show 2 + 1 * (k - 1 - 1) = k by omega]
  simp
theorem downK_one (k : Nat) (h : k ≤ 1) : downK k = [] := by unfold downK; rw [show k - 1 = 0 by omega]; rfl
theorem lone_step {last : List Int} {n k : Nat} (h2 : 2 ≤ k) (h : ∀ L ∈ Tx.lists n k 0, apartB last L = false) : loneGo last n (downK k) = loneGo last n (downK (k - 1)) := by
  rw [downK_succ k h2, loneGo, List.find?_eq_none.2 (fun x hx => by rw [h x hx]; simp)]
theorem lone_hit {last : List Int} {n k : Nat} {pre post : List (List Int)} {L : List Int} (h2 : 2 ≤ k) (hL : Tx.lists n k 0 = pre ++ L :: post) (h : ∀ x ∈ pre, apartB last x = false) (hP : apartB last L = true) : loneGo last n (downK k) = L := by
  rw [downK_succ k h2, loneGo, hL, List.find?_append, List.find?_eq_none.2 (fun x hx => by rw [h x hx]; simp), List.find?_cons_of_pos hP]
  rfl
/-- what holds in lone -/
structure LoC (n cw : Nat) (pw : Option Addr) (v1 v2 mv : Value) (last : List Int) (LB : Nat) (w W : World) (C : Nat) (ds : List Deferred) : Prop where
  wk : W.heap[w.heap.size]? = some (.cells #[.slice pw n cw, v1, v2, mv] 125 (0, 0))
  r : W.heap[w.heap.size + 1]? = some (.cells #[.slice none 0 0] 28 (0, 0))
  la : W.heap[LB]? = some (.cells (arrOf last) 176 (0, 0))
  bel : Below w.heap.size w W
  ends : Ends (LB + 1) W C ds
  sz : w.heap.size + 1 + 1 ≤ LB ∧ LB + 1 ≤ W.heap.size ∧ C ≤ W.heap.size
theorem LoC.below {n cw : Nat} {pw : Option Addr} {v1 v2 mv : Value} {last : List Int} {LB : Nat} {w W W' : World} {C : Nat} {ds : List Deferred} (h : LoC n cw pw v1 v2 mv last LB w W C ds) {B : Nat} (h3 : LB + 1 ≤ B) (hC : C ≤ B) (hB : Below B W W') : LoC n cw pw v1 v2 mv last LB w W' C ds :=
  ⟨(hB.block _ (by have := h.sz; omega)).trans h.wk, (hB.block _ (by have := h.sz; omega)).trans h.r, (hB.block _ (by omega)).trans h.la, h.bel.trans (hB.mono (by have := h.sz; omega)), h.ends.keep (fun k _ hk => hB.block k (by omega)),
    ⟨h.sz.1, Nat.le_trans h.sz.2.1 hB.size, Nat.le_trans h.sz.2.2 hB.size⟩⟩
/-- what is found, and where it lies -/
def LoHit (last : List Int) (n : Nat) (LB : Nat) (w : World) (B : Nat) (ds : List Deferred) (W : World) : Prop :=
  ∃ L v, loneGo last n (downK n) = L ∧ W.heap[w.heap.size + 1]? = some (.cells #[v] 28 (0, 0)) ∧
    W.ownsRow (B + 2) 3 1 v L.length (L.map (Value.int .i64)) ∧ Below w.heap.size w W ∧ Ends (LB + 1) W B ds ∧ w.heap.size + 1 + 1 ≤ LB ∧ LB + 1 ≤ B ∧ B ≤ W.heap.size
theorem LoHit.hold {last : List Int} {n LB : Nat} {w W W' : World} {B : Nat} {ds : List Deferred} (h : LoHit last n LB w B ds W) (hh : Hold (fun k => k ≠ B + 1) W W') : LoHit last n LB w B ds W' := by
  obtain ⟨L, v, h1, h2, h4, h5, h6, h7, h7', h8⟩ := h
  exact ⟨L, v, h1, (hh.same _ (by omega) (by omega)).trans h2, own_hold h4 hh (fun k hk => by omega), h5.trans ((hh.mono (fun k hk _ => (by omega : k ≠ B + 1)) : Hold (fun k => k < w.heap.size) W W').to_below (by omega)), h6.keep (fun k _ hk => hh.same k (by omega) (by omega)), h7, h7', Nat.le_trans h8 hh.size⟩

set_option maxHeartbeats 4000000 in
set_option maxRecDepth 100000 in
theorem lone_any (may : Nat → Nat → Bool) (n cw : Nat) (hn1 : 1 ≤ n) (hn12 : n ≤ 12) (pw : Option Addr) (v1 v2 mv : Value) (w : World) (hMay : MayAt mv may n (fun k => k < w.heap.size) w) :
    Calls Try.prog 110 #[.agg #[.slice pw n cw, v1, v2, mv]] w (RowPost (loneR may n) w) := by
  obtain ⟨m, hm9⟩ : ∃ m : Nat, 9 ≤ m := ⟨9, Nat.le_refl _⟩
  have HLT := Lib.hid (fun W (h : Below w.heap.size w W) => lastTogether_any may n cw hn12 pw v1 v2 mv W ((hMay.hold (.of_below h (fun _ h _ => h))).mono (fun j hj _ => by have := h.size; omega)))
  have hl12 := (lastT_inv may n hn12).len
  have hLR : loneR may n = loneGo (lastT may n) n (downK n) := rfl
  rw [hLR]
  obtain ⟨last, hlast⟩ : ∃ last, last = lastT may n := ⟨_, rfl⟩
  rw [← hlast] at HLT hl12 ⊢
  obtain ⟨a0, a1, a2, a3, a4, a5, a6, a7, a8, a9, a10, a11, hae⟩ : ∃ a0 a1 a2 a3 a4 a5 a6 a7 a8 a9 a10 a11 : Int, arrOf last = #[.int .i64 a0, .int .i64 a1, .int .i64 a2, .int .i64 a3, .int .i64 a4, .int .i64 a5, .int .i64 a6, .int .i64 a7, .int .i64 a8, .int .i64 a9, .int .i64 a10, .int .i64 a11] := by
    match last, hl12 with
    | [b0, b1, b2, b3, b4, b5, b6, b7, b8, b9, b10, b11], _ => exact ⟨_, _, _, _, _, _, _, _, _, _, _, _, rfl⟩
  have HAE := Lib.hid hae
  clear hMay hLR hlast hae
  refine (callsIn_wide (n := m)).1 ?_
  refine callsIn_of_wp_marks Try.func110 rfl trivial ?_ rfl
  simp only [Try.ntmps110, List.size_toArray, List.length_cons, List.length_nil, Nat.reduceAdd, Nat.reduceSub, Array.replicate_succ, Array.replicate_zero, List.push_toArray, List.append_toArray, List.nil_append, List.cons_append]
  gi_wp2_with fail
  refine ⟨trivial, (fun h => by cases h), ?_⟩
  refine (callsIn_wide.2 (HLT.out _ ((below1 _ _).alloc (by simp) _))).mono ?_
  rintro e W2 ⟨rfl, hB2⟩
  have hx2 := (hB2.block w.heap.size (by simp; omega)).trans (show ((w.alloc (.cells #[.slice pw n cw, v1, v2, mv] 125)).alloc (.cells #[.slice none 0 0] 28)).heap[w.heap.size]? = some (.cells #[.slice pw n cw, v1, v2, mv] 125 (0, 0)) by rw [Below.heap_alloc _ _ _ (by simp)]; exact heap_last _ _)
  have hr2 := (hB2.block (w.heap.size + 1) (by simp)).trans (show ((w.alloc (.cells #[.slice pw n cw, v1, v2, mv] 125)).alloc (.cells #[.slice none 0 0] 28)).heap[w.heap.size + 1]? = some (.cells #[.slice none 0 0] 28 (0, 0)) by
    have := heap_last (w.alloc (.cells #[.slice pw n cw, v1, v2, mv] 125)) (.cells #[.slice none 0 0] 28)
    rwa [World.size_alloc] at this)
  have hz2 : w.heap.size + 2 ≤ W2.heap.size := by have := hB2.size; simp at this; omega
  have HB2 := Lib.hid (((below1 w (.cells #[.slice pw n cw, v1, v2, mv] 125)).alloc (by simp) (.cells #[.slice none 0 0] 28)).trans (hB2.mono (show w.heap.size ≤ _ by simp; omega)))
  have HX2 := Lib.hid hx2
  have HR2 := Lib.hid hr2
  have hsz : (arrOf last).size = 12 := by rw [arrOf_size]; exact hl12
  have HI := Lib.hid (size_twelve hsz)
  have HON := Lib.hid (arrOf_one last)
  clear hB2 hx2 hr2
  obtain ⟨BA, hBA⟩ : ∃ BA, BA = arrOf last := ⟨_, rfl⟩
  rw [← hBA] at HI HON hsz ⊢
  have HBA := Lib.hid hBA
  have HSZ := Lib.hid hsz
  clear hBA hsz
  have hst := run_storeCells_new (P := Try.prog) W2 176 #[.int .i64 0, .int .i64 0, .int .i64 0, .int .i64 0, .int .i64 0, .int .i64 0, .int .i64 0, .int .i64 0, .int .i64 0, .int .i64 0, .int .i64 0, .int .i64 0] BA HI.out (by rw [HSZ.out]; rfl) HON.out
  obtain ⟨k0, k1, k2, k3⟩ := blk4 HX2.out
  have hqw : w.heap.size < W2.heap.size := by omega
  gi_wp2_with fail
  clear hst k0 k1 k2 k3 hqw
  have hA3 : LoC n cw pw v1 v2 mv last W2.heap.size w (W2.alloc (.cells BA 176)) (W2.heap.size + 1) [] := by
    refine ⟨(Below.heap_alloc _ _ _ (by omega)).trans HX2.out, (Below.heap_alloc _ _ _ (by omega)).trans HR2.out, by rw [heap_last, HBA.out], HB2.out.alloc (by omega) _, trivial, ⟨by omega, by simp, by simp⟩⟩
  have hz3 : (W2.alloc (.cells BA 176)).heap.size = W2.heap.size + 1 := by simp
  generalize W2.alloc (.cells BA 176) = W3 at hA3 hz3 ⊢
  obtain ⟨LB, hLB⟩ : ∃ LB, LB = W2.heap.size := ⟨_, rfl⟩
  rw [← hLB] at hA3 hz3
  rw [← hLB]
  have hLB2 : w.heap.size + 2 ≤ LB := by omega
  clear hLB HB2 HX2 HR2 hz2
  refine wpIn_loop (fun a' w' => ∃ (k C : Nat) (ds : List Deferred) (u5 u6 u7 u8 u9 u10 u11 u12 u13 u14 u15 u16 u17 u18 u19 u20 u21 u22 u23 u24 u25 : Value), 1 ≤ k ∧ k ≤ n ∧ a' = { tmps := #[.agg #[.slice pw n cw, v1, v2, mv], .pointer (some ⟨w.heap.size, 0, none⟩), .pointer (some ⟨w.heap.size + 1, 0, none⟩), .pointer (some ⟨LB, 0, none⟩), .int .i64 k, u5, u6, u7, u8, u9, u10, u11, u12, u13, u14, u15, u16, u17, u18, u19, u20, u21, u22, u23, u24, u25], defers := ds } ∧ loneGo last n (downK k) = loneGo last n (downK n) ∧ LoC n cw pw v1 v2 mv last LB w w' C ds) (fun a' _ => (intOf (a'.tmps.getD 4 undef)).toNat) ⟨n, _, [], _, _, _, _, _, _, _, _, _, _, _, _, _, _, _, _, _, _, _, _, _, hn1, Nat.le_refl _, rfl, rfl, hA3⟩ ?_
  clear hA3
  rintro a' wr ⟨k, C, ds, u5, u6, u7, u8, u9, u10, u11, u12, u13, u14, u15, u16, u17, u18, u19, u20, u21, u22, u23, u24, u25, hk1, hk2, rfl, hgo, hA⟩
  have HGO := Lib.hid hgo
  have HA := Lib.hid hA
  have hsz0 := hA.sz
  obtain ⟨f0, f1, f2, f3⟩ := blk4 hA.wk
  have hs0 : w.heap.size < wr.heap.size := by omega
  clear hA hgo
  by_cases hlt : 1 < k
  · have hlt' : (k : Int) > 1 := by omega
    gi_wp2_with fail
    refine ⟨trivial, (fun h => by cases h), ?_⟩
    refine (callsIn_wide.2 (lists_any _ _ _ _ _ _)).mono ?_
    rintro e W4 ⟨rfl, hW4⟩
    have hB4 : Below wr.heap.size wr W4 := by rw [← hW4]; exact (below1 _ _).alloc (by simp) _
    have hs4 : W4.heap.size = wr.heap.size + 2 := by rw [← hW4]; simp
    have h41 : W4.heap[wr.heap.size + 1]? = some (.cells #[.int .i64 k] 3 (0, 0)) := by
      rw [← hW4]
      have := heap_last (wr.alloc (Obj.cells #[.slice pw n cw, v1, v2, mv] 125)) (Obj.cells #[Value.int IntKind.i64 k] 3)
      rwa [World.size_alloc] at this
    have h42 : W4.heap[wr.heap.size]? = some (.cells #[.slice pw n cw, v1, v2, mv] 125 (0, 0)) := by
      rw [← hW4, Below.heap_alloc _ _ _ (by simp)]; exact heap_last _ _
    have hA4 := HA.out.below (B := wr.heap.size) hsz0.2.1 hsz0.2.2 hB4
    have hC4 := HA.out.sz.2.2
    clear hW4 f0 f1 f2 f3
    gi_wp2_with fail
    refine range_of (gf := 167) (lb := #[.pointer (some ⟨wr.heap.size + 1, 0, none⟩), .pointer (some ⟨wr.heap.size, 0, none⟩)]) rfl (enters_of Try.func167 (by kernel_rfl) rfl)
      (lists1_seq (m - 1) n cw k hn12 (by omega) pw _ _ mv _ _ W4 (fun j => j ≠ w.heap.size + 1) ⟨by omega, by omega⟩ h41 h42) (Below.refl _ _) (fun x vs W h => by obtain ⟨g, h, _⟩ := h; rw [h]; rfl)
      (fun pre W' => LoC n cw pw v1 v2 mv last LB w W' W4.heap.size ds ∧ (∀ L ∈ pre, apartB last L = false) ∧ W4.heap.size ≤ W'.heap.size)
      (fun c _ W' => c = .ret ∧ LoHit last n LB w W4.heap.size ds W') ?leI ?leX ⟨⟨hA4.wk, hA4.r, hA4.la, hA4.bel, hA4.ends.mono (by omega), ⟨by omega, by omega, Nat.le_refl _⟩⟩, (fun _ h => by simp at h), Nat.le_refl _⟩ ?round ?done ?stop
    case leI =>
      rintro s' X Y ⟨i1, i2, i3⟩ hb
      exact ⟨i1.below (by omega) (Nat.le_refl _) hb, i2, Nat.le_trans i3 hb.size⟩
    case leX =>
      rintro c s' X r ⟨rfl, h⟩
      exact ⟨rfl, h.hold (hold_putObj _ _ _)⟩
    case stop =>
      rintro D c pre W' rfl ⟨rfl, h⟩ hK
      obtain ⟨L, v, h1, h2, h4, h5, h6, h7, h7', h8⟩ := h
      have hDl := (Array.getElem?_eq_some_iff.1 hK).1
      clear hA4 h41 h42 hB4
      gi_wp2
      refine leaves_ends2 (B := LB + 1) (by simp) _ (W4.heap.size + 1) W' ⟨_, rfl, h7', Nat.lt_succ_self _, hK, h6⟩ (by omega) (fun w' hh => ?_)
      rw [h1]
      have c0 := blk_cells ((hh.same _ (.inl (by omega)) (by omega)).trans h2) 0 _ rfl
      refine ⟨v, by simp [results, Try.results110, go_sem, c0], v, rfl, own_base (own_hold (base := W4.heap.size + 2) h4 hh (fun k hk => .inr (by omega))) (by omega), h5.trans ((hh.mono (fun k hk _ => (.inl (by omega) : k < LB + 1 ∨ W4.heap.size + 1 ≤ k)) : Hold (fun k => k < w.heap.size) W' w').to_below (by omega))⟩
    case done =>
      rintro D W' rfl ⟨i1, i2, i3⟩ hK
      have hDl := (Array.getElem?_eq_some_iff.1 hK).1
      have hst := lone_step (by omega) i2
      have hsubk : IntKind.i64.wrap ((k : Int) - 1) = ((k - 1 : Nat) : Int) := by rw [IntWalk.i64_in _ (by omega)]; omega
      clear hA4 h41 h42 hB4
      gi_wp2
      refine ⟨⟨k - 1, W'.heap.size, _, _, _, _, _, _, _, _, _, _, _, _, _, _, _, _, _, _, _, _, _, _, by omega, by omega, rfl, by rw [← hst]; exact HGO.out, ⟨i1.wk, i1.r, i1.la, i1.bel, ⟨W4.heap.size, rfl, by omega, hDl, hK, i1.ends⟩, ⟨i1.sz.1, i1.sz.2.1, Nat.le_refl _⟩⟩⟩, ?_⟩
      simp [intOf]
      omega
    case round =>
      rintro lq pre L post vs W5 hl1 hl2 ho hL ⟨g, rfl, hLm, hLg⟩ ⟨i1, i2, i3⟩
      have hin := lists_in n k 0 L (by rw [hL]; simp)
      clear i1 i3 hA4 h41 h42 hB4
      gi_wp2
      refine ⟨Below.refl _ _, ?_⟩
      rintro Wb hg hsz ⟨j1, j2, j3⟩
      have hLb := ints_grown hLg hg (fun r e => by cases e; exact ho)
      have hz5 : LB + 1 ≤ Wb.heap.size ∧ W4.heap.size + 2 ≤ Wb.heap.size ∧ LB + 1 ≤ W4.heap.size := by omega
      have HAP : Hid (∀ W, Below Wb.heap.size Wb W → Calls Try.prog 152 #[.slice (some ⟨g, 0, none⟩) k k, .agg (arrOf last)] W fun e w' => e = .returned (.bool (apartB last L)) ∧ Below W.heap.size W w') := Lib.hid (fun W h => by
        rcases hLb.below h with h0 | ⟨b, o, hp, hl, hc⟩
        · rw [h0] at hLm; simp at hLm; omega
        · cases hp
          exact apart_any last L hl12 k hLm (by omega) (by omega) (fun x hx => by have := hin.2 x hx; omega) g 0 W hl hc)
      have HHIT : Hid (apartB last L = true → loneGo last n (downK n) = L) := Lib.hid (fun hp => HGO.out ▸ lone_hit (by omega) hL j2 hp)
      have HCL : Hid (∀ W, Below Wb.heap.size Wb W → Calls Try.prog 72 #[.slice (some ⟨g, 0, none⟩) k k] W fun e w' => ∃ g' c', e = .returned (.slice (some ⟨g', 0, none⟩) k c') ∧ w'.ownsRow W.heap.size 3 1 (.slice (some ⟨g', 0, none⟩) k c') L.length (L.map (Value.int .i64)) ∧ Below W.heap.size W w') := Lib.hid (fun W h => by
        rcases hLb.below h with h0 | ⟨b, o, hp, hl, hc⟩
        · subst h0; simp at hLm; omega
        · cases hp
          refine (Try.slices_Clone_int g 0 k k L W (by omega) (by omega) (fun j hj => hc j hj)).mono ?_
          rintro e w' ⟨v', rfl, hown, -, hb⟩
          obtain ⟨g', c', rfl, -⟩ := hown.form (by omega)
          have ht : L.take k = L := List.take_of_length_le (by omega)
          rw [ht] at hown
          exact ⟨g', c', rfl, by rw [hLm]; exact hown, hb⟩)
      have HLAb := Lib.hid j1.la
      have J1 := Lib.hid j1
      have J2 := Lib.hid j2
      have HLM := Lib.hid hLm
      clear j1 j2 hLg hLb hin hg i2 hs4
      rw [HAE.out] at HAP HLAb
      generalize hap : apartB last L = ap at HAP HHIT
      have HAPE := Lib.hid hap
      clear hap
      have y0 := blk_cells HLAb.out 0 _ rfl
      have y1 := blk_cells HLAb.out 1 _ rfl
      have y2 := blk_cells HLAb.out 2 _ rfl
      have y3 := blk_cells HLAb.out 3 _ rfl
      have y4 := blk_cells HLAb.out 4 _ rfl
      have y5 := blk_cells HLAb.out 5 _ rfl
      have y6 := blk_cells HLAb.out 6 _ rfl
      have y7 := blk_cells HLAb.out 7 _ rfl
      have y8 := blk_cells HLAb.out 8 _ rfl
      have y9 := blk_cells HLAb.out 9 _ rfl
      have y10 := blk_cells HLAb.out 10 _ rfl
      have y11 := blk_cells HLAb.out 11 _ rfl
      gi_wp2_with fail
      refine ⟨trivial, (fun h => by cases h), ?_⟩
      refine (callsIn_wide.2 (HAP.out _ (Below.refl _ _))).mono ?_
      rintro e w' ⟨rfl, hG⟩
      · clear y0 y1 y2 y3 y4 y5 y6 y7 y8 y9 y10 y11
        have hz9 := hG.size
        have HG9 := Lib.hid hG
        clear hG
        cases ap with
        | false =>
          gi_wp2
          refine ⟨Hold.below HG9.out, J1.out.below (B := Wb.heap.size) (by omega) (by omega) HG9.out, fun y hy => ?_, by omega⟩
          rcases List.mem_append.1 hy with hy | hy
          · exact J2.out y hy
          · rw [List.mem_singleton.1 hy]; exact HAPE.out
        | true =>
          have hr4 := (HG9.out.block (w.heap.size + 1) (by omega)).trans J1.out.r
          gi_wp2_with fail
          refine ⟨trivial, (fun h => by cases h), ?_⟩
          refine (callsIn_wide.2 (HCL.out _ HG9.out)).mono ?_
          rintro e w9 ⟨g', c', rfl, hown, hb9⟩
          have hs9 := hb9.size
          have hr4' := (hb9.block (w.heap.size + 1) (by omega)).trans hr4
          have y4 := blk_cells hr4' 0 _ rfl
          have z4 : w9.frozen? ⟨w.heap.size + 1, 0, none⟩ = false := by simp [World.frozen?, hr4']
          have HR4 := Lib.hid hr4'
          have HO := Lib.hid hown
          have HB9 := Lib.hid hb9
          clear hr4 hr4' hown hb9
          gi_wp2
          have g4 : (w9.setCell ⟨w.heap.size + 1, 0, none⟩ (.slice (some ⟨g', 0, none⟩) k c')).heap[w.heap.size + 1]? = some (.cells #[.slice (some ⟨g', 0, none⟩) k c'] 28 (0, 0)) := heap_set_same _ HR4.out
          have hH : Hold (fun j => j ≠ w.heap.size + 1) w9 (w9.setCell ⟨w.heap.size + 1, 0, none⟩ (.slice (some ⟨g', 0, none⟩) k c')) := Hold.setCell _ _ _ (fun h => h rfl)
          have hHb := Hold.trans (Hold.below (join HG9.out HB9.out)) hH
          refine ⟨hHb.mono (fun j hj _ => by rcases hj with h | h <;> omega), rfl, L, _, HHIT.out (by first | rfl | trivial), g4, own_hold (own_base HO.out (by omega)) hH (fun j hj => by omega), ?_, J1.out.ends.keep (fun j h1 h2 => hHb.same j (by omega) (by omega)), by omega, by omega, by have := hHb.size; omega⟩
          exact J1.out.bel.trans ((hHb.mono (fun j hj _ => (by omega : j ≠ w.heap.size + 1)) : Hold (fun j => j < w.heap.size) Wb _).to_below (by omega))
  · obtain rfl : k = 1 := by omega
    have hone : loneGo last n (downK n) = [0] := by rw [← HGO.out, downK_one 1 (Nat.le_refl _)]; rfl
    have HR4 := Lib.hid HA.out.r
    have c0 := blk_cells HA.out.r 0 _ rfl
    have z4 : wr.frozen? ⟨w.heap.size + 1, 0, none⟩ = false := by simp [World.frozen?, HA.out.r]
    have hsr : w.heap.size + 1 < wr.heap.size := by omega
    gi_wp2
    have hC := HA.out.sz.2.2
    have g4 : ((wr.setCell ⟨w.heap.size + 1, 0, none⟩ (.slice (some ⟨wr.heap.size, 0, none⟩) 1 1)).alloc (.cells #[.int .i64 0] 3)).heap[w.heap.size + 1]? = some (.cells #[.slice (some ⟨wr.heap.size, 0, none⟩) 1 1] 28 (0, 0)) :=
      (Below.heap_alloc _ _ _ (by simpa using hsr)).trans (heap_set_same _ HR4.out)
    have g5 : ((wr.setCell ⟨w.heap.size + 1, 0, none⟩ (.slice (some ⟨wr.heap.size, 0, none⟩) 1 1)).alloc (.cells #[.int .i64 0] 3)).heap[wr.heap.size]? = some (.cells #[.int .i64 0] 3 (0, 0)) := by
      have := heap_last (wr.setCell ⟨w.heap.size + 1, 0, none⟩ (.slice (some ⟨wr.heap.size, 0, none⟩) 1 1)) (.cells #[.int .i64 0] 3)
      simpa using this
    have hH : Hold (fun j => j ≠ w.heap.size + 1) wr ((wr.setCell ⟨w.heap.size + 1, 0, none⟩ (.slice (some ⟨wr.heap.size, 0, none⟩) 1 1)).alloc (.cells #[.int .i64 0] 3)) := (Hold.setCell _ _ _ (fun h => h rfl)).trans (Hold.below (below1 _ _))
    have hsz9 : ((wr.setCell ⟨w.heap.size + 1, 0, none⟩ (.slice (some ⟨wr.heap.size, 0, none⟩) 1 1)).alloc (.cells #[.int .i64 0] 3)).heap.size = wr.heap.size + 1 := by simp
    refine leaves_ends2 (B := LB + 1) (by simp) _ C _ (HA.out.ends.keep (fun j h1 h2 => hH.same j (by omega) (by omega))) (by omega) (fun w' hh => ?_)
    have d0 := blk_cells ((hh.same _ (.inl (by omega)) (by omega)).trans g4) 0 _ rfl
    have d1 := (hh.same wr.heap.size (.inr (by omega)) (by omega)).trans g5
    rw [hone]
    refine ⟨.slice (some ⟨wr.heap.size, 0, none⟩) 1 1, by simp [results, Try.results110, go_sem, d0], _, rfl, ⟨rfl, .inr ⟨wr.heap.size, 1, #[.int .i64 0], rfl, by omega, d1, Nat.le_refl _, by unfold maxLen; omega, rfl, rfl⟩⟩, ?_⟩
    exact HA.out.bel.trans (((hH.mono (fun j hj _ => (by omega : j ≠ w.heap.size + 1)) : Hold (fun j => j < w.heap.size) wr _).trans (hh.mono (fun j hj _ => (.inl (by omega) : j < LB + 1 ∨ C ≤ j)))).to_below (by omega))
/-- what Lone tells -/
def loneL (t : Text) : List Int := if t.err = 0 then loneR t.right t.words.length else []
set_option maxHeartbeats 800000 in
theorem Lone_any (t : Text) (hl1 : t.words.length ≤ 1000000) (hl2 : t.turns.length ≤ 1000000) (pw pt : Option Addr) (cw ct : Nat) (hcw : t.words.length ≤ cw ∧ cw ≤ maxLen) (w : World) (hW : TxAt w t pw pt) :
    Calls Try.prog 39 #[.agg #[.slice pw t.words.length cw, .slice pt t.turns.length ct, .int .i64 t.breath]] w (ListPost (loneL t) t.err w) := by
  by_cases he : t.err = 0
  · have ok := err_ok he
    have h1 : loneL t = loneR t.right t.words.length := if_pos he
    rw [h1, he]
    have HS := Lib.hid (fun W (h : Below w.heap.size w W) => open_ok t he pw pt cw ct W (hW.below h))
    have HF := Lib.hid (fun W (h : Below w.heap.size w W) => lone_any t.right t.words.length cw ok.n1 ok.n12 pw (.slice pt t.turns.length ct) (.int .i64 t.breath) _ W (right_may t pw pt cw ct .nilFunc W ⟨ok, hW.below h, hcw⟩))
    clear hW he h1 ok
    go_enter Try.func39, Try.ntmps39
    go_wp2_with fail
    refine (HS.out _ (below1 _ _)).mono ?_
    rintro e w5 ⟨rfl, hB5⟩
    have HB5 := Lib.hid (join (below1 _ _) hB5)
    clear hB5
    go_wp2_with fail
    refine (HF.out _ (join HB5.out (below1 _ _))).mono ?_
    rintro e w6 ⟨v, rfl, hown, hB6⟩
    have HO := Lib.hid hown
    have HB6 := Lib.hid hB6
    clear hown hB6
    go_wp2
    go_ret2
    have hz := HB5.out.size
    exact ⟨_, rfl, own_base HO.out (by simp; omega), join (join HB5.out (below1 _ _)) HB6.out⟩
  · have h1 : loneL t = [] := if_neg he
    rw [h1]
    have HS := Lib.hid (fun W (h : Below w.heap.size w W) => open_bad t he hl1 hl2 pw pt cw ct W (hW.below h))
    have HE : (t.err != 0) = true := by simpa using he
    clear hW he h1
    generalize t.err = er at HE HS ⊢
    go_enter Try.func39, Try.ntmps39
    go_wp2_with fail
    refine (HS.out _ (below1 _ _)).mono ?_
    rintro e w5 ⟨rfl, hB5⟩
    have HB5 := Lib.hid (join (below1 _ _) hB5)
    clear hB5
    go_wp2
    go_ret2
    exact ⟨_, rfl, own_none _ _ _ _, join HB5.out (below1 _ _)⟩
end Go.Proofs.Ytadnggecnjdhiaa
set_option linter.unusedSimpArgs false
set_option linter.unusedVariables false
namespace Go.Proofs.Ytadnggecnjdhiaa
open Go.RowKit Tx

/-- a text without its turns -/
def plainT (t : Text) : Text := ⟨t.words, [], t.breath⟩
theorem plain_err {t : Text} (he : t.err = 0) : (plainT t).err = 0 := by
  unfold Text.err at he ⊢
  unfold plainT Text.len at *
  by_cases h1 : t.words.length < 1 ∨ 12 < t.words.length ∨ 6 < t.turns.length
  · rw [if_pos h1] at he; omega
  · rw [if_neg h1] at he
    rw [if_neg (by simp only [List.length_nil]; omega)]
    by_cases h2 : t.breath < 1 ∨ 40 < t.breath
    · rw [if_pos h2] at he; omega
    · rw [if_neg h2] at he ⊢
      by_cases h3 : t.words.any badWord = true
      · rw [if_pos h3] at he; omega
      · rw [if_neg h3]; simp
/-- what TextLone needs of Lone and Fewest -/
structure LoneOk (t : Text) : Prop where
  pos : 1 ≤ (loneL t).length ∧ (loneL t).length ≤ 12
  incr : ∀ i, i < (loneL t).length → 0 ≤ (loneL t).getD i 0 ∧ (loneL t).getD i 0 < t.words.length
  step : ∀ i, i + 1 < (loneL t).length → (loneL t).getD i 0 < (loneL t).getD (i + 1) 0
  alone : ∀ (a b : Nat) i, i + 1 < (loneL t).length → (a : Int) ≤ (loneL t).getD i 0 → (loneL t).getD (i + 1) 0 < (b : Int) → b ≤ t.words.length → t.right a b = false
  few : fewE t = 0 ∨ fewE t = 6
  le : fewE t = 0 → (loneL t).length ≤ (fewL t).length
  same : fewE t = 0 → t.turns = [] → (loneL t).length = (fewL t).length
theorem lone_ok {t : Text} (ok : Text.Ok t) (he : t.err = 0) : LoneOk t := by
  have h1 : loneL t = loneR t.right t.words.length := if_pos he
  have h2 : fewE t = (fewest t.right t.words.length).2 := if_pos he
  have h3 : fewL t = (fewest t.right t.words.length).1 := if_pos he
  obtain ⟨s1, s2, s3, s4⟩ := loneR_spec t.right t.words.length ok.n1 ok.n12
  rw [← h1] at s1 s2 s3
  refine ⟨⟨s3, ?_⟩, fun i hi => ⟨(incr_get s1 i hi).1, (incr_get s1 i hi).2.1⟩, fun i hi => (incr_get s1 i (by omega)).2.2 (i + 1) (by omega) hi, fun a b i hi ha hb hbn => ?_, ?_, fun h => ?_, fun h ht => ?_⟩
  · have := ok.n12
    rcases Incr.len s1 with h | h
    · omega
    · rw [h]; simp
  · cases hr : t.right a b with
    | false => rfl
    | true =>
      have h5 := (incr_get s1 i (by omega)).2.2 (i + 1) (by omega) hi
      exact absurd ⟨ha, hb⟩ (s2 a b (by omega) hbn hr i (i + 1) (by omega) hi)
  · rw [h2]
    rcases fewest_err (may := t.right) ok.n1 ok.n12 with ⟨h, _⟩ | ⟨h, _⟩
    · exact .inl h
    · exact .inr h
  · rw [h1, h3]; rw [h2] at h; exact lone_le _ _ ok.n1 ok.n12 h
  · rw [h1, h3]; rw [h2] at h
    exact lone_plain t (fun x hx => ⟨(ok.word x hx).1, (ok.word x hx).2.1⟩) ht ok.n1 ok.n12 h
end Go.Proofs.Ytadnggecnjdhiaa
set_option linter.unusedSimpArgs false
set_option linter.unusedVariables false
namespace Go.Proofs.Ytadnggecnjdhiaa
open Go.RowKit Tx

theorem blk6 {W : World} {b : Nat} {v0 v1 v2 v3 v4 v5 : Value} {ty : TypeId} {fr : Nat × Nat} (h : W.heap[b]? = some (.cells #[v0, v1, v2, v3, v4, v5] ty fr)) : (W.cell? ⟨b, 0, none⟩ = some v0 ∧ W.cell? ⟨b, 1, none⟩ = some v1 ∧ W.cell? ⟨b, 2, none⟩ = some v2) ∧ W.cell? ⟨b, 3, none⟩ = some v3 ∧ W.cell? ⟨b, 4, none⟩ = some v4 ∧ W.cell? ⟨b, 5, none⟩ = some v5 :=
  ⟨⟨blk_cells h 0 _ rfl, blk_cells h 1 _ rfl, blk_cells h 2 _ rfl⟩, blk_cells h 3 _ rfl, blk_cells h 4 _ rfl, blk_cells h 5 _ rfl⟩
set_option maxHeartbeats 16000000 in
set_option maxRecDepth 100000 in
theorem TextLone_any (pn : Option Addr) (nn cn : Nat) (hnn : nn ≤ 9223372036854775807) (w : World) (hN : Bytes w pn nn) :
    Calls Try.prog 11 #[.slice pn nn cn] w fun e w' => e = .returned (.bool true) ∧ Below w.heap.size w w' := by
  have hmf := mf
  obtain ⟨hb0, hm0⟩ := hang_made pn nn cn hnn w hN
  have HB0 := Lib.hid hb0
  have HM0 := Lib.hid hm0
  have hal := below1 w (.cells #[.slice pn nn cn, .int .i64 0, .int .u32 0] 159)
  have HAL := Lib.hid hal
  have hz1 : (w.alloc (.cells #[.slice pn nn cn, .int .i64 0, .int .u32 0] 159)).heap.size = w.heap.size + 1 := by simp
  clear hb0 hm0 hN hal
  go_enter Try.func11, Try.ntmps11
  go_wp2_with fail
  refine (hang_any _ _ _ _).mono ?_
  rintro e w1 ⟨rfl, rfl⟩
  generalize w.alloc (.cells #[.slice pn nn cn, .int .i64 0, .int .u32 0] 159) = W1 at HB0 HM0 HAL hz1 ⊢
  go_wp2_with fail
  refine (made_ok (words := 10) (turns := 3) (by omega) (by omega) (by omega) _ HB0.out HM0.out).mono ?_
  rintro e W2 ⟨t, p, q, c, d, rfl, HT, HC, HD, HE, HOK, HW9, HT3, -, HH⟩
  have HWA := Lib.hid (HAL.out.trans (hold_below HH.out (by omega)))
  have hwA : w.heap.size ≤ W2.heap.size := by have := HH.out.size; omega
  clear HB0 HM0 HAL HH hz1
  have HT2 := Lib.hid (HT.out.below (below1 W2 (.cells #[.slice p t.words.length c, .slice q t.turns.length d, .int .i64 t.breath] 25)))
  have HBX := Lib.hid (heap_last W2 (.cells #[.slice p t.words.length c, .slice q t.turns.length d, .int .i64 t.breath] 25))
  obtain ⟨T, hTT⟩ : ∃ T, T = W2.heap.size := ⟨_, rfl⟩
  have hz3 : (W2.alloc (.cells #[.slice p t.words.length c, .slice q t.turns.length d, .int .i64 t.breath] 25)).heap.size = T + 1 := by rw [hTT]; simp
  have HW3 := Lib.hid (HWA.out.trans ((below1 W2 (.cells #[.slice p t.words.length c, .slice q t.turns.length d, .int .i64 t.breath] 25)).mono hwA))
  rw [← hTT] at HBX hwA
  clear HT HWA
  go_wp2_with fail
  rw [← hTT]
  clear hTT
  generalize W2.alloc (.cells #[.slice p t.words.length c, .slice q t.turns.length d, .int .i64 t.breath] 25) = W3 at HT2 HBX hz3 HW3 ⊢
  obtain ⟨k0, k1, k2⟩ := blk3 HBX.out
  have hn9 : t.words.length ≤ 1000000 := by have := HW9.out; omega
  have hn3 : t.turns.length ≤ 1000000 := by have := HT3.out; omega
  go_wp2_with fail
  refine (lCopy_any t hn9 hn3 p q c d _ HT2.out).mono ?_
  rintro e W4 ⟨g, h, rfl, hog, hoh, hB4⟩
  obtain ⟨p', c', e1, hWd, -, -⟩ := own_wds hog rfl
  injection e1 with e1 _ e2
  subst e1 e2
  have HWD := Lib.hid hWd
  have HB4 := Lib.hid hB4
  have hz4 := hB4.size
  have hgb : t.words.length ≤ t.words.length ∧ t.words.length ≤ maxLen := ⟨Nat.le_refl _, by have := HW9.out; unfold maxLen; omega⟩
  have HGB := Lib.hid hgb
  clear hog hoh hWd hB4 k0 k1 k2 hgb
  obtain ⟨P, hP⟩ : ∃ P, P = W4.heap.size := ⟨_, rfl⟩
  have hqP : T < W4.heap.size := by omega
  obtain ⟨k0, k1, k2⟩ := blk3 ((HB4.out.block T (by omega)).trans HBX.out)
  go_wp2_with fail
  have hwf : Below W4.heap.size W4 ((W4.alloc (.cells #[.slice (some ⟨g, 0, none⟩) t.words.length t.words.length, .slice none 0 0, .int .i64 t.breath] 25)).alloc (.cells #[.slice p t.words.length c, .slice q t.turns.length d, .int .i64 t.breath, .slice (some ⟨g, 0, none⟩) t.words.length t.words.length, .slice none 0 0, .int .i64 t.breath] 25)) := (below1 _ _).alloc (by simp) _
  have hrw := heap_last (W4.alloc (.cells #[.slice (some ⟨g, 0, none⟩) t.words.length t.words.length, .slice none 0 0, .int .i64 t.breath] 25)) (.cells #[.slice p t.words.length c, .slice q t.turns.length d, .int .i64 t.breath, .slice (some ⟨g, 0, none⟩) t.words.length t.words.length, .slice none 0 0, .int .i64 t.breath] 25)
  rw [World.size_alloc] at hrw
  have hz6 : ((W4.alloc (.cells #[.slice (some ⟨g, 0, none⟩) t.words.length t.words.length, .slice none 0 0, .int .i64 t.breath] 25)).alloc (.cells #[.slice p t.words.length c, .slice q t.turns.length d, .int .i64 t.breath, .slice (some ⟨g, 0, none⟩) t.words.length t.words.length, .slice none 0 0, .int .i64 t.breath] 25)).heap.size = W4.heap.size + 2 := by simp
  have HWF := Lib.hid hwf
  have HRW := Lib.hid hrw
  clear hwf hrw k0 k1 k2
  generalize ((W4.alloc (.cells #[.slice (some ⟨g, 0, none⟩) t.words.length t.words.length, .slice none 0 0, .int .i64 t.breath] 25)).alloc (.cells #[.slice p t.words.length c, .slice q t.turns.length d, .int .i64 t.breath, .slice (some ⟨g, 0, none⟩) t.words.length t.words.length, .slice none 0 0, .int .i64 t.breath] 25)) = W6 at HWF HRW hz6 ⊢
  have hR : ∃ R, R = W4.heap.size + 1 := ⟨_, rfl⟩
  obtain ⟨R, hR⟩ := hR
  rw [← hR] at HRW
  rw [← hR]
  have HT6 := Lib.hid (HT2.out.below (join HB4.out HWF.out))
  have HTP : Hid (TxAt W6 (plainT t) (some ⟨g, 0, none⟩) none) := Lib.hid ⟨HWD.out.below HWF.out, .inl rfl⟩
  have HFIN := Lib.hid (show ∀ W', Below W6.heap.size W6 W' → Below w.heap.size w W' from fun W' hb => HW3.out.trans ((join HB4.out (join HWF.out hb)).mono (by omega)))
  have hR6 : R < W6.heap.size := by omega
  have HX2 : Hid (∀ k : Nat, k < 2 → ∃ (x : Text) (px qx : Option Addr) (cx dx : Nat), (∀ W', Below W6.heap.size W6 W' → W'.cell? ⟨R, k * 3, none⟩ = some (.slice px x.words.length cx) ∧ W'.cell? ⟨R, k * 3 + 1, none⟩ = some (.slice qx x.turns.length dx) ∧ W'.cell? ⟨R, k * 3 + 2, none⟩ = some (.int .i64 x.breath)) ∧ TxAt W6 x px qx ∧ (x.words.length ≤ cx ∧ cx ≤ maxLen) ∧ x.err = 0) := Lib.hid (fun k hk => by
    have hb6 := fun W' (hb : Below W6.heap.size W6 W') => blk6 ((hb.block R hR6).trans HRW.out)
    rcases (show k = 0 ∨ k = 1 by omega) with rfl | rfl
    · exact ⟨t, p, q, c, d, fun W' hb => (hb6 W' hb).1, HT6.out, HC.out, HE.out⟩
    · exact ⟨plainT t, some ⟨g, 0, none⟩, none, t.words.length, 0, fun W' hb => (hb6 W' hb).2, HTP.out, HGB.out, plain_err HE.out⟩)
  clear hR hqP hP HT6 HTP HRW hz6 HGB HWD HT2 HBX HB4 HWF
  go_loopw [26] (fun i wr => ∃ k : Nat, k ≤ 2 ∧ i = .int .i64 k ∧ Hid (Below W6.heap.size W6 wr)) (fun i _ => 2 - (intOf i).toNat)
  case atStart => exact ⟨0, by omega, rfl, Lib.hid (Below.refl _ _)⟩
  case round => as_aux_lemma =>
    obtain ⟨w7, rfl⟩ : ∃ w7 : World, w7 = wr := ⟨_, rfl⟩
    obtain ⟨k, hk, rfl, HB7⟩ := hrel
    have hz7 := HB7.out.size
    by_cases hlt : k < 2
    · have hlt' : (k : Int) < 2 := by omega
      obtain ⟨x, px, qx, cx, dx, hcells, htx, hcx, hxe⟩ := HX2.out k hlt
      obtain ⟨y0, y1, y2⟩ := hcells _ HB7.out
      have hRl : R < w7.heap.size := by omega
      have HTX := Lib.hid (htx.below HB7.out)
      have HCX := Lib.hid hcx
      have hok := err_ok hxe
      have hLO := lone_ok hok hxe
      have HOX := Lib.hid hok
      have hx12 := hok.n12
      have hx6 := hok.m6
      have hxw : x.words.length ≤ 1000000 := by omega
      have hxt : x.turns.length ≤ 1000000 := by omega
      have HXE := Lib.hid hxe
      clear hcells htx hcx hok hxe
      go_wp2_with fail
      have hbx := below1 w7 (.cells #[.slice px x.words.length cx, .slice qx x.turns.length dx, .int .i64 x.breath] 25)
      have HXB := Lib.hid (heap_last w7 (.cells #[.slice px x.words.length cx, .slice qx x.turns.length dx, .int .i64 x.breath] 25))
      have HBX1 := Lib.hid hbx
      have HT8 := Lib.hid (HTX.out.below hbx)
      have hz8 : (w7.alloc (.cells #[.slice px x.words.length cx, .slice qx x.turns.length dx, .int .i64 x.breath] 25)).heap.size = w7.heap.size + 1 := by simp
      clear hbx y0 y1 y2
      generalize w7.alloc (.cells #[.slice px x.words.length cx, .slice qx x.turns.length dx, .int .i64 x.breath] 25) = W8 at HXB HBX1 HT8 hz8 ⊢
      refine (Lone_any x hxw hxt px qx cx dx HCX.out _ HT8.out).mono ?_
      rintro e W9 ⟨v, rfl, hown, hB9⟩
      rw [HXE.out]
      obtain ⟨pl, cl, rfl, hL, -, hclm, hcl⟩ := own_rd hown rfl
      obtain ⟨L, hLe⟩ : ∃ L, L = loneL x := ⟨_, rfl⟩
      obtain ⟨FE, hFE⟩ : ∃ FE, FE = fewE x := ⟨_, rfl⟩
      obtain ⟨FL, hFL⟩ : ∃ FL, FL = (fewL x).length := ⟨_, rfl⟩
      obtain ⟨l1, l2, l3, l4, l5, l6, l7⟩ := hLO
      rw [← hLe] at l1 l2 l3 l4 l6 l7 hL hcl ⊢
      rw [← hFE] at l5 l6 l7
      rw [← hFL] at l6 l7
      have HFE := Lib.hid hFE
      have HFL := Lib.hid hFL
      have H2 := Lib.hid l2
      have H3 := Lib.hid l3
      have H4 := Lib.hid l4
      have HT9 := Lib.hid (HT8.out.below hB9)
      have HXB9 := Lib.hid ((hB9.block w7.heap.size (by omega)).trans HXB.out)
      have hz9 := hB9.size
      have HB9 := Lib.hid hB9
      rcases hL with h0 | ⟨gl, ol, rfl, hgl, hcL⟩
      · rw [h0] at l1; simp at l1
      have HCL := Lib.hid hcL
      clear hown hLe hFE hFL l2 l3 l4 hB9 hcL
      have hcl3 : (L.length : Int) ≤ (cl : Int) := by omega
      have hcl4 := hclm
      unfold maxLen at hcl4
      obtain ⟨y0, y1, y2⟩ := blk3 HXB9.out
      go_wp2_with fail
      refine (Fewest_any x hxw hxt px qx cx dx HCX.out _ HT9.out).mono ?_
      rintro e WA ⟨v, rfl, hown, hBA⟩
      rw [← HFE.out]
      obtain ⟨pf, cf, rfl, -, -, -⟩ := own_rd hown rfl
      rw [← HFL.out]
      have HXBA := Lib.hid ((hBA.block w7.heap.size (by omega)).trans HXB9.out)
      have HTA := Lib.hid (HT9.out.below hBA)
      have hzA := hBA.size
      have HBA := Lib.hid hBA
      have hlp : ¬ (L.length : Int) < 1 := by omega
      have hlp0 : 0 < L.length := by omega
      have hl12 := l1.2
      have hglA : gl < WA.heap.size := by omega
      have HEND := Lib.hid (show ∀ W', Below WA.heap.size WA W' → Below W6.heap.size W6 W' from fun W' hb => join HB7.out (join HBX1.out (join HB9.out (join HBA.out hb))))
      clear hown hBA y0 y1 y2 l1
      obtain ⟨y0, y1, y2⟩ := blk3 HXBA.out
      rcases l5 with rfl | rfl
      · have hle := l6 rfl
        have hle2 : ¬ (L.length : Int) > (FL : Int) := by omega
        have hle3 : ¬ FL < L.length := by omega
        have hle4 : ¬ L.length < 1 := by omega
        by_cases hxt0 : x.turns.length = 0
        · have heq := l7 rfl (List.length_eq_zero_iff.1 hxt0)
          have hneq : ((L.length : Int) != (FL : Int)) = false := by rw [heq]; simp
          have htz : ((x.turns.length : Int) == 0) = true := by rw [hxt0]; rfl
          have HXT := Lib.hid hxt0
          clear heq l6 l7 hle hxt0
          go_wp2_with fail
          clear hneq htz hle2 hle3 hle4
          go_loopw [81] (fun i wr => ∃ a : Nat, a ≤ L.length ∧ i = .int .i64 a ∧ Hid (Below WA.heap.size WA wr)) (fun i _ => L.length - (intOf i).toNat)
          case atStart => exact ⟨0, Nat.zero_le _, rfl, Lib.hid (Below.refl _ _)⟩
          case round => as_aux_lemma =>
            clear y0 y1 y2
            obtain ⟨wb, rfl⟩ : ∃ wb : World, wb = wr := ⟨_, rfl⟩
            obtain ⟨a, ha, rfl, HBb⟩ := hrel
            have hzb := HBb.out.size
            have HXBb := Lib.hid ((HBb.out.block w7.heap.size (by omega)).trans HXBA.out)
            obtain ⟨y0, y1, y2⟩ := blk3 HXBb.out
            have HRD := Lib.hid (show ∀ i, i < L.length → wb.cell? ⟨gl, ol + i, none⟩ = some (.int .i64 (L.getD i 0)) from fun i hi => (join HBA.out HBb.out).cell (p := ⟨gl, ol + i, none⟩) hgl |>.trans (HCL.out i hi))
            by_cases hal : a < L.length
            · have hal' : (a : Int) < L.length := by omega
              obtain ⟨ra0, ra1⟩ := H2.out a hal
              have hca := HRD.out a hal
              obtain ⟨v, hv⟩ : ∃ v, v = L.getD a 0 := ⟨_, rfl⟩
              rw [← hv] at ra0 ra1 hca
              have hn0 : ¬ v < 0 := by omega
              have hnn2 : ¬ v ≥ (x.words.length : Int) := by omega
              have HV := Lib.hid hv
              clear hv ra0 ra1
              by_cases ha0 : a = 0
              · subst ha0
                have hz0 : ¬ ((0 : Nat) : Int) > 0 := by omega
                have hal0 : (0 : Int) < (L.length : Int) := by omega
                rw [Nat.add_zero] at hca
                go_wp2
                go_roundw
                case rel => first | exact ⟨1, by omega, by go_num, HBb⟩ | exact ⟨_, _, _, _, ⟨1, by omega, rfl⟩, rfl, rfl, rfl, by go_num⟩
                case measure => simp [intOf]; omega
              · have hz0 : (a : Int) > 0 := by omega
                obtain ⟨b, hb⟩ : ∃ b : Nat, a = b + 1 := ⟨a - 1, by omega⟩
                have hsub : IntKind.i64.wrap ((a : Int) - 1) = (b : Int) := by rw [IntWalk.i64_in _ (by omega)]; omega
                have hcb := HRD.out b (by omega)
                have hst := H3.out b (by omega)
                rw [← hb, ← HV.out] at hst
                obtain ⟨u, hu⟩ : ∃ u, u = L.getD b 0 := ⟨_, rfl⟩
                rw [← hu] at hcb hst
                have hge : ¬ u ≥ v := by omega
                have hbl : (b : Int) < L.length := by omega
                clear hst hu hb
                go_wp2
                go_roundw
                case rel => first | exact ⟨a + 1, by omega, by go_num, HBb⟩ | exact ⟨_, _, _, _, ⟨a + 1, by omega, rfl⟩, rfl, rfl, rfl, by go_num⟩
                case measure => simp [intOf]; omega
            · have hlc : (1 : Int) ≤ (L.length : Int) := by omega
              have hl1 : IntKind.i64.wrap ((L.length : Int) - 1) = ((L.length - 1 : Nat) : Int) := by rw [IntWalk.i64_in _ (by omega)]; omega
              by_cases hc1 : cl = 1
              · subst hc1
                go_wp2_with fail
                clear hal ha
                go_loopw [112] (fun i wr => ∃ a : Nat, a ≤ L.length - 1 ∧ i = .int .i64 a ∧ Hid (Below wb.heap.size wb wr)) (fun i _ => L.length - (intOf i).toNat)
                case atStart => exact ⟨0, Nat.zero_le _, rfl, Lib.hid (Below.refl _ _)⟩
                case round => as_aux_lemma =>
                  clear y0 y1 y2
                  obtain ⟨wc, rfl⟩ : ∃ wc : World, wc = wr := ⟨_, rfl⟩
                  obtain ⟨i, hi, rfl, HBc⟩ := hrel
                  by_cases hil : i < L.length - 1
                  · exact absurd hil (by omega)
                  · go_wp2
                    go_roundw
                    case rel => exact ⟨k + 1, by omega, by go_num, Lib.hid (HEND.out _ (join HBb.out HBc.out))⟩
                    case measure => simp [intOf]; omega
              · have hc2 : ¬ 1 = cl := fun e => hc1 e.symm
                go_wp2_with fail
                clear hal ha
                go_loopw [112] (fun i wr => ∃ a : Nat, a ≤ L.length - 1 ∧ i = .int .i64 a ∧ Hid (Below wb.heap.size wb wr)) (fun i _ => L.length - (intOf i).toNat)
                case atStart => exact ⟨0, Nat.zero_le _, rfl, Lib.hid (Below.refl _ _)⟩
                case round => as_aux_lemma =>
                  clear y0 y1 y2
                  obtain ⟨wc, rfl⟩ : ∃ wc : World, wc = wr := ⟨_, rfl⟩
                  obtain ⟨i, hi, rfl, HBc⟩ := hrel
                  have hzc := HBc.out.size
                  have HXBc := Lib.hid ((HBc.out.block w7.heap.size (by omega)).trans HXBb.out)
                  obtain ⟨y0, y1, y2⟩ := blk3 HXBc.out
                  by_cases hil : i < L.length - 1
                  · have hil' : (i : Int) < ((L.length - 1 : Nat) : Int) := by omega
                    have hil2 : (i : Int) < L.length := by omega
                    have hil3 : (i : Int) + 1 < L.length := by omega
                    have hc0 := (HBc.out.cell (p := ⟨gl, ol + i, none⟩) (show gl < wb.heap.size by omega)).trans (HRD.out i (by omega))
                    obtain ⟨ra0, ra1⟩ := H2.out i (by omega)
                    obtain ⟨rb0, rb1⟩ := H2.out (i + 1) (by omega)
                    have hst := H3.out i (by omega)
                    obtain ⟨ai, hai⟩ : ∃ ai : Nat, L.getD i 0 = (ai : Int) := ⟨(L.getD i 0).toNat, by omega⟩
                    obtain ⟨bi, hbi⟩ : ∃ bi : Nat, L.getD (i + 1) 0 = (bi : Int) := ⟨(L.getD (i + 1) 0).toNat, by omega⟩
                    have HAL := Lib.hid (show ∀ a b : Nat, a ≤ ai → bi < b → b ≤ x.words.length → x.right a b = false from fun a b h1 h2 h3 => H4.out a b i (by omega) (by omega) (by omega) h3)
                    rw [hai] at hc0 ra0 ra1 hst
                    rw [hbi] at rb0 rb1 hst
                    have HBI := Lib.hid hbi
                    have hsa : IntKind.i64.wrap ((ai : Int) + 1) = ((ai + 1 : Nat) : Int) := by rw [IntWalk.i64_in _ (by omega)]; omega
                    clear hai hbi
                    go_wp2_with fail
                    clear hc0
                    go_loopw [120] (fun j wr => ∃ a : Nat, a ≤ ai + 1 ∧ j = .int .i64 a ∧ Hid (Below wc.heap.size wc wr)) (fun j _ => ai + 1 - (intOf j).toNat)
                    case atStart => exact ⟨0, Nat.zero_le _, rfl, Lib.hid (Below.refl _ _)⟩
                    case round => as_aux_lemma =>
                      clear y0 y1 y2
                      obtain ⟨wd, rfl⟩ : ∃ wd : World, wd = wr := ⟨_, rfl⟩
                      obtain ⟨a, haa, rfl, HBd⟩ := hrel
                      have hzd := HBd.out.size
                      have HXBd := Lib.hid ((HBd.out.block w7.heap.size (by omega)).trans HXBc.out)
                      obtain ⟨y0, y1, y2⟩ := blk3 HXBd.out
                      by_cases haj : a < ai + 1
                      · have haj' : (a : Int) < ((ai + 1 : Nat) : Int) := by omega
                        have haj2 : (a : Int) < (ai : Int) + 1 := by omega
                        have hc1 := ((join HBc.out HBd.out).cell (p := ⟨gl, ol + (i + 1), none⟩) (show gl < wb.heap.size by omega)).trans (HRD.out (i + 1) (by omega))
                        rw [HBI.out] at hc1
                        have hsi : IntKind.i64.wrap ((i : Int) + 1) = ((i + 1 : Nat) : Int) := by rw [IntWalk.i64_in _ (by omega)]; omega
                        have hsi2 : ((i + 1 : Nat) : Int) < L.length := by omega
                        have hsb : IntKind.i64.wrap ((bi : Int) + 1) = ((bi + 1 : Nat) : Int) := by rw [IntWalk.i64_in _ (by omega)]; omega
                        have hi10 : 0 ≤ (i : Int) + 1 := by omega
                        have hi11 : ((i : Int) + 1).toNat = i + 1 := by omega
                        go_wp2_with fail
                        clear hc1
                        go_loopw [15] (fun j wr => ∃ b : Nat, bi + 1 ≤ b ∧ b ≤ x.words.length + 1 ∧ j = .int .i64 b ∧ Hid (Below wd.heap.size wd wr)) (fun j _ => x.words.length + 1 - (intOf j).toNat)
                        case atStart => exact ⟨bi + 1, Nat.le_refl _, by omega, by go_num, Lib.hid (Below.refl _ _)⟩
                        case round => as_aux_lemma =>
                          clear y0 y1 y2
                          obtain ⟨we, rfl⟩ : ∃ we : World, we = wr := ⟨_, rfl⟩
                          obtain ⟨b, hbb, hbn, rfl, HBe⟩ := hrel
                          have hze := HBe.out.size
                          have HXBe := Lib.hid ((HBe.out.block w7.heap.size (by omega)).trans HXBd.out)
                          obtain ⟨y0, y1, y2⟩ := blk3 HXBe.out
                          have hqe : w7.heap.size < we.heap.size := by omega
                          by_cases hbl : b ≤ x.words.length
                          · have hbl' : (b : Int) ≤ x.words.length := by omega
                            have HFA := Lib.hid (HAL.out a b (by omega) (by omega) hbl)
                            have HTE := Lib.hid (HTA.out.below (join HBb.out (join HBc.out (join HBd.out HBe.out))))
                            go_wp2_with fail
                            refine (fits_any x HOX.out px qx cx dx a b (by omega) hbl HCX.out _ HTE.out).mono ?_
                            rintro e wf ⟨rfl, hBf⟩
                            rw [HFA.out]
                            have HGG := Lib.hid (join HBe.out hBf)
                            clear hBf
                            go_wp2
                            go_roundw
                            case rel => first | exact ⟨b + 1, by omega, by omega, by go_num, HGG⟩ | ((repeat apply Exists.intro); exact ⟨⟨b + 1, by omega, by omega, by go_num, HGG⟩, rfl⟩)
                            case measure => simp [intOf]; omega
                          · go_wp2
                            go_roundw
                            case rel => exact ⟨a + 1, by omega, by go_num, Lib.hid (join HBd.out HBe.out)⟩
                            case measure => simp [intOf]; omega
                      · go_wp2
                        go_roundw
                        case rel => exact ⟨i + 1, by omega, by go_num, Lib.hid (join HBc.out HBd.out)⟩
                        case measure => simp [intOf]; omega
                  · go_wp2
                    go_roundw
                    case rel => exact ⟨k + 1, by omega, by go_num, Lib.hid (HEND.out _ (join HBb.out HBc.out))⟩
                    case measure => simp [intOf]; omega
        · have htz : ((x.turns.length : Int) == 0) = false := by rw [beq_eq_false_iff_ne]; omega
          have htz2 : ¬ ((x.turns.length : Int) = 0) := by omega
          have HXT := Lib.hid hxt0
          clear l6 l7 hle hxt0
          go_wp2_with fail
          clear htz hle2 htz2 hle3 hle4
          go_loopw [81] (fun i wr => ∃ a : Nat, a ≤ L.length ∧ i = .int .i64 a ∧ Hid (Below WA.heap.size WA wr)) (fun i _ => L.length - (intOf i).toNat)
          case atStart => exact ⟨0, Nat.zero_le _, rfl, Lib.hid (Below.refl _ _)⟩
          case round => as_aux_lemma =>
            clear y0 y1 y2
            obtain ⟨wb, rfl⟩ : ∃ wb : World, wb = wr := ⟨_, rfl⟩
            obtain ⟨a, ha, rfl, HBb⟩ := hrel
            have hzb := HBb.out.size
            have HXBb := Lib.hid ((HBb.out.block w7.heap.size (by omega)).trans HXBA.out)
            obtain ⟨y0, y1, y2⟩ := blk3 HXBb.out
            have HRD := Lib.hid (show ∀ i, i < L.length → wb.cell? ⟨gl, ol + i, none⟩ = some (.int .i64 (L.getD i 0)) from fun i hi => (join HBA.out HBb.out).cell (p := ⟨gl, ol + i, none⟩) hgl |>.trans (HCL.out i hi))
            by_cases hal : a < L.length
            · have hal' : (a : Int) < L.length := by omega
              obtain ⟨ra0, ra1⟩ := H2.out a hal
              have hca := HRD.out a hal
              obtain ⟨v, hv⟩ : ∃ v, v = L.getD a 0 := ⟨_, rfl⟩
              rw [← hv] at ra0 ra1 hca
              have hn0 : ¬ v < 0 := by omega
              have hnn2 : ¬ v ≥ (x.words.length : Int) := by omega
              have HV := Lib.hid hv
              clear hv ra0 ra1
              by_cases ha0 : a = 0
              · subst ha0
                have hz0 : ¬ ((0 : Nat) : Int) > 0 := by omega
                have hal0 : (0 : Int) < (L.length : Int) := by omega
                rw [Nat.add_zero] at hca
                go_wp2
                go_roundw
                case rel => first | exact ⟨1, by omega, by go_num, HBb⟩ | exact ⟨_, _, _, _, ⟨1, by omega, rfl⟩, rfl, rfl, rfl, by go_num⟩
                case measure => simp [intOf]; omega
              · have hz0 : (a : Int) > 0 := by omega
                obtain ⟨b, hb⟩ : ∃ b : Nat, a = b + 1 := ⟨a - 1, by omega⟩
                have hsub : IntKind.i64.wrap ((a : Int) - 1) = (b : Int) := by rw [IntWalk.i64_in _ (by omega)]; omega
                have hcb := HRD.out b (by omega)
                have hst := H3.out b (by omega)
                rw [← hb, ← HV.out] at hst
                obtain ⟨u, hu⟩ : ∃ u, u = L.getD b 0 := ⟨_, rfl⟩
                rw [← hu] at hcb hst
                have hge : ¬ u ≥ v := by omega
                have hbl : (b : Int) < L.length := by omega
                clear hst hu hb
                go_wp2
                go_roundw
                case rel => first | exact ⟨a + 1, by omega, by go_num, HBb⟩ | exact ⟨_, _, _, _, ⟨a + 1, by omega, rfl⟩, rfl, rfl, rfl, by go_num⟩
                case measure => simp [intOf]; omega
            · have hlc : (1 : Int) ≤ (L.length : Int) := by omega
              have hl1 : IntKind.i64.wrap ((L.length : Int) - 1) = ((L.length - 1 : Nat) : Int) := by rw [IntWalk.i64_in _ (by omega)]; omega
              by_cases hc1 : cl = 1
              · subst hc1
                go_wp2_with fail
                clear hal ha
                go_loopw [112] (fun i wr => ∃ a : Nat, a ≤ L.length - 1 ∧ i = .int .i64 a ∧ Hid (Below wb.heap.size wb wr)) (fun i _ => L.length - (intOf i).toNat)
                case atStart => exact ⟨0, Nat.zero_le _, rfl, Lib.hid (Below.refl _ _)⟩
                case round => as_aux_lemma =>
                  clear y0 y1 y2
                  obtain ⟨wc, rfl⟩ : ∃ wc : World, wc = wr := ⟨_, rfl⟩
                  obtain ⟨i, hi, rfl, HBc⟩ := hrel
                  by_cases hil : i < L.length - 1
                  · exact absurd hil (by omega)
                  · go_wp2
                    go_roundw
                    case rel => exact ⟨k + 1, by omega, by go_num, Lib.hid (HEND.out _ (join HBb.out HBc.out))⟩
                    case measure => simp [intOf]; omega
              · have hc2 : ¬ 1 = cl := fun e => hc1 e.symm
                go_wp2_with fail
                clear hal ha
                go_loopw [112] (fun i wr => ∃ a : Nat, a ≤ L.length - 1 ∧ i = .int .i64 a ∧ Hid (Below wb.heap.size wb wr)) (fun i _ => L.length - (intOf i).toNat)
                case atStart => exact ⟨0, Nat.zero_le _, rfl, Lib.hid (Below.refl _ _)⟩
                case round => as_aux_lemma =>
                  clear y0 y1 y2
                  obtain ⟨wc, rfl⟩ : ∃ wc : World, wc = wr := ⟨_, rfl⟩
                  obtain ⟨i, hi, rfl, HBc⟩ := hrel
                  have hzc := HBc.out.size
                  have HXBc := Lib.hid ((HBc.out.block w7.heap.size (by omega)).trans HXBb.out)
                  obtain ⟨y0, y1, y2⟩ := blk3 HXBc.out
                  by_cases hil : i < L.length - 1
                  · have hil' : (i : Int) < ((L.length - 1 : Nat) : Int) := by omega
                    have hil2 : (i : Int) < L.length := by omega
                    have hil3 : (i : Int) + 1 < L.length := by omega
                    have hc0 := (HBc.out.cell (p := ⟨gl, ol + i, none⟩) (show gl < wb.heap.size by omega)).trans (HRD.out i (by omega))
                    obtain ⟨ra0, ra1⟩ := H2.out i (by omega)
                    obtain ⟨rb0, rb1⟩ := H2.out (i + 1) (by omega)
                    have hst := H3.out i (by omega)
                    obtain ⟨ai, hai⟩ : ∃ ai : Nat, L.getD i 0 = (ai : Int) := ⟨(L.getD i 0).toNat, by omega⟩
                    obtain ⟨bi, hbi⟩ : ∃ bi : Nat, L.getD (i + 1) 0 = (bi : Int) := ⟨(L.getD (i + 1) 0).toNat, by omega⟩
                    have HAL := Lib.hid (show ∀ a b : Nat, a ≤ ai → bi < b → b ≤ x.words.length → x.right a b = false from fun a b h1 h2 h3 => H4.out a b i (by omega) (by omega) (by omega) h3)
                    rw [hai] at hc0 ra0 ra1 hst
                    rw [hbi] at rb0 rb1 hst
                    have HBI := Lib.hid hbi
                    have hsa : IntKind.i64.wrap ((ai : Int) + 1) = ((ai + 1 : Nat) : Int) := by rw [IntWalk.i64_in _ (by omega)]; omega
                    clear hai hbi
                    go_wp2_with fail
                    clear hc0
                    go_loopw [120] (fun j wr => ∃ a : Nat, a ≤ ai + 1 ∧ j = .int .i64 a ∧ Hid (Below wc.heap.size wc wr)) (fun j _ => ai + 1 - (intOf j).toNat)
                    case atStart => exact ⟨0, Nat.zero_le _, rfl, Lib.hid (Below.refl _ _)⟩
                    case round => as_aux_lemma =>
                      clear y0 y1 y2
                      obtain ⟨wd, rfl⟩ : ∃ wd : World, wd = wr := ⟨_, rfl⟩
                      obtain ⟨a, haa, rfl, HBd⟩ := hrel
                      have hzd := HBd.out.size
                      have HXBd := Lib.hid ((HBd.out.block w7.heap.size (by omega)).trans HXBc.out)
                      obtain ⟨y0, y1, y2⟩ := blk3 HXBd.out
                      by_cases haj : a < ai + 1
                      · have haj' : (a : Int) < ((ai + 1 : Nat) : Int) := by omega
                        have haj2 : (a : Int) < (ai : Int) + 1 := by omega
                        have hc1 := ((join HBc.out HBd.out).cell (p := ⟨gl, ol + (i + 1), none⟩) (show gl < wb.heap.size by omega)).trans (HRD.out (i + 1) (by omega))
                        rw [HBI.out] at hc1
                        have hsi : IntKind.i64.wrap ((i : Int) + 1) = ((i + 1 : Nat) : Int) := by rw [IntWalk.i64_in _ (by omega)]; omega
                        have hsi2 : ((i + 1 : Nat) : Int) < L.length := by omega
                        have hsb : IntKind.i64.wrap ((bi : Int) + 1) = ((bi + 1 : Nat) : Int) := by rw [IntWalk.i64_in _ (by omega)]; omega
                        have hi10 : 0 ≤ (i : Int) + 1 := by omega
                        have hi11 : ((i : Int) + 1).toNat = i + 1 := by omega
                        go_wp2_with fail
                        clear hc1
                        go_loopw [15] (fun j wr => ∃ b : Nat, bi + 1 ≤ b ∧ b ≤ x.words.length + 1 ∧ j = .int .i64 b ∧ Hid (Below wd.heap.size wd wr)) (fun j _ => x.words.length + 1 - (intOf j).toNat)
                        case atStart => exact ⟨bi + 1, Nat.le_refl _, by omega, by go_num, Lib.hid (Below.refl _ _)⟩
                        case round => as_aux_lemma =>
                          clear y0 y1 y2
                          obtain ⟨we, rfl⟩ : ∃ we : World, we = wr := ⟨_, rfl⟩
                          obtain ⟨b, hbb, hbn, rfl, HBe⟩ := hrel
                          have hze := HBe.out.size
                          have HXBe := Lib.hid ((HBe.out.block w7.heap.size (by omega)).trans HXBd.out)
                          obtain ⟨y0, y1, y2⟩ := blk3 HXBe.out
                          have hqe : w7.heap.size < we.heap.size := by omega
                          by_cases hbl : b ≤ x.words.length
                          · have hbl' : (b : Int) ≤ x.words.length := by omega
                            have HFA := Lib.hid (HAL.out a b (by omega) (by omega) hbl)
                            have HTE := Lib.hid (HTA.out.below (join HBb.out (join HBc.out (join HBd.out HBe.out))))
                            go_wp2_with fail
                            refine (fits_any x HOX.out px qx cx dx a b (by omega) hbl HCX.out _ HTE.out).mono ?_
                            rintro e wf ⟨rfl, hBf⟩
                            rw [HFA.out]
                            have HGG := Lib.hid (join HBe.out hBf)
                            clear hBf
                            go_wp2
                            go_roundw
                            case rel => first | exact ⟨b + 1, by omega, by omega, by go_num, HGG⟩ | ((repeat apply Exists.intro); exact ⟨⟨b + 1, by omega, by omega, by go_num, HGG⟩, rfl⟩)
                            case measure => simp [intOf]; omega
                          · go_wp2
                            go_roundw
                            case rel => exact ⟨a + 1, by omega, by go_num, Lib.hid (join HBd.out HBe.out)⟩
                            case measure => simp [intOf]; omega
                      · go_wp2
                        go_roundw
                        case rel => exact ⟨i + 1, by omega, by go_num, Lib.hid (join HBc.out HBd.out)⟩
                        case measure => simp [intOf]; omega
                  · go_wp2
                    go_roundw
                    case rel => exact ⟨k + 1, by omega, by go_num, Lib.hid (HEND.out _ (join HBb.out HBc.out))⟩
                    case measure => simp [intOf]; omega
      · clear l6 l7
        go_wp2_with fail
        go_loopw [81] (fun i wr => ∃ a : Nat, a ≤ L.length ∧ i = .int .i64 a ∧ Hid (Below WA.heap.size WA wr)) (fun i _ => L.length - (intOf i).toNat)
        case atStart => exact ⟨0, Nat.zero_le _, rfl, Lib.hid (Below.refl _ _)⟩
        case round => as_aux_lemma =>
          clear y0 y1 y2
          obtain ⟨wb, rfl⟩ : ∃ wb : World, wb = wr := ⟨_, rfl⟩
          obtain ⟨a, ha, rfl, HBb⟩ := hrel
          have hzb := HBb.out.size
          have HXBb := Lib.hid ((HBb.out.block w7.heap.size (by omega)).trans HXBA.out)
          obtain ⟨y0, y1, y2⟩ := blk3 HXBb.out
          have HRD := Lib.hid (show ∀ i, i < L.length → wb.cell? ⟨gl, ol + i, none⟩ = some (.int .i64 (L.getD i 0)) from fun i hi => (join HBA.out HBb.out).cell (p := ⟨gl, ol + i, none⟩) hgl |>.trans (HCL.out i hi))
          by_cases hal : a < L.length
          · have hal' : (a : Int) < L.length := by omega
            obtain ⟨ra0, ra1⟩ := H2.out a hal
            have hca := HRD.out a hal
            obtain ⟨v, hv⟩ : ∃ v, v = L.getD a 0 := ⟨_, rfl⟩
            rw [← hv] at ra0 ra1 hca
            have hn0 : ¬ v < 0 := by omega
            have hnn2 : ¬ v ≥ (x.words.length : Int) := by omega
            have HV := Lib.hid hv
            clear hv ra0 ra1
            by_cases ha0 : a = 0
            · subst ha0
              have hz0 : ¬ ((0 : Nat) : Int) > 0 := by omega
              have hal0 : (0 : Int) < (L.length : Int) := by omega
              rw [Nat.add_zero] at hca
              go_wp2
              go_roundw
              case rel => first | exact ⟨1, by omega, by go_num, HBb⟩ | exact ⟨_, _, _, _, ⟨1, by omega, rfl⟩, rfl, rfl, rfl, by go_num⟩
              case measure => simp [intOf]; omega
            · have hz0 : (a : Int) > 0 := by omega
              obtain ⟨b, hb⟩ : ∃ b : Nat, a = b + 1 := ⟨a - 1, by omega⟩
              have hsub : IntKind.i64.wrap ((a : Int) - 1) = (b : Int) := by rw [IntWalk.i64_in _ (by omega)]; omega
              have hcb := HRD.out b (by omega)
              have hst := H3.out b (by omega)
              rw [← hb, ← HV.out] at hst
              obtain ⟨u, hu⟩ : ∃ u, u = L.getD b 0 := ⟨_, rfl⟩
              rw [← hu] at hcb hst
              have hge : ¬ u ≥ v := by omega
              have hbl : (b : Int) < L.length := by omega
              clear hst hu hb
              go_wp2
              go_roundw
              case rel => first | exact ⟨a + 1, by omega, by go_num, HBb⟩ | exact ⟨_, _, _, _, ⟨a + 1, by omega, rfl⟩, rfl, rfl, rfl, by go_num⟩
              case measure => simp [intOf]; omega
          · have hlc : (1 : Int) ≤ (L.length : Int) := by omega
            have hl1 : IntKind.i64.wrap ((L.length : Int) - 1) = ((L.length - 1 : Nat) : Int) := by rw [IntWalk.i64_in _ (by omega)]; omega
            by_cases hc1 : cl = 1
            · subst hc1
              go_wp2_with fail
              clear hal ha
              go_loopw [112] (fun i wr => ∃ a : Nat, a ≤ L.length - 1 ∧ i = .int .i64 a ∧ Hid (Below wb.heap.size wb wr)) (fun i _ => L.length - (intOf i).toNat)
              case atStart => exact ⟨0, Nat.zero_le _, rfl, Lib.hid (Below.refl _ _)⟩
              case round => as_aux_lemma =>
                clear y0 y1 y2
                obtain ⟨wc, rfl⟩ : ∃ wc : World, wc = wr := ⟨_, rfl⟩
                obtain ⟨i, hi, rfl, HBc⟩ := hrel
                by_cases hil : i < L.length - 1
                · exact absurd hil (by omega)
                · go_wp2
                  go_roundw
                  case rel => exact ⟨k + 1, by omega, by go_num, Lib.hid (HEND.out _ (join HBb.out HBc.out))⟩
                  case measure => simp [intOf]; omega
            · have hc2 : ¬ 1 = cl := fun e => hc1 e.symm
              go_wp2_with fail
              clear hal ha
              go_loopw [112] (fun i wr => ∃ a : Nat, a ≤ L.length - 1 ∧ i = .int .i64 a ∧ Hid (Below wb.heap.size wb wr)) (fun i _ => L.length - (intOf i).toNat)
              case atStart => exact ⟨0, Nat.zero_le _, rfl, Lib.hid (Below.refl _ _)⟩
              case round => as_aux_lemma =>
                clear y0 y1 y2
                obtain ⟨wc, rfl⟩ : ∃ wc : World, wc = wr := ⟨_, rfl⟩
                obtain ⟨i, hi, rfl, HBc⟩ := hrel
                have hzc := HBc.out.size
                have HXBc := Lib.hid ((HBc.out.block w7.heap.size (by omega)).trans HXBb.out)
                obtain ⟨y0, y1, y2⟩ := blk3 HXBc.out
                by_cases hil : i < L.length - 1
                · have hil' : (i : Int) < ((L.length - 1 : Nat) : Int) := by omega
                  have hil2 : (i : Int) < L.length := by omega
                  have hil3 : (i : Int) + 1 < L.length := by omega
                  have hc0 := (HBc.out.cell (p := ⟨gl, ol + i, none⟩) (show gl < wb.heap.size by omega)).trans (HRD.out i (by omega))
                  obtain ⟨ra0, ra1⟩ := H2.out i (by omega)
                  obtain ⟨rb0, rb1⟩ := H2.out (i + 1) (by omega)
                  have hst := H3.out i (by omega)
                  obtain ⟨ai, hai⟩ : ∃ ai : Nat, L.getD i 0 = (ai : Int) := ⟨(L.getD i 0).toNat, by omega⟩
                  obtain ⟨bi, hbi⟩ : ∃ bi : Nat, L.getD (i + 1) 0 = (bi : Int) := ⟨(L.getD (i + 1) 0).toNat, by omega⟩
                  have HAL := Lib.hid (show ∀ a b : Nat, a ≤ ai → bi < b → b ≤ x.words.length → x.right a b = false from fun a b h1 h2 h3 => H4.out a b i (by omega) (by omega) (by omega) h3)
                  rw [hai] at hc0 ra0 ra1 hst
                  rw [hbi] at rb0 rb1 hst
                  have HBI := Lib.hid hbi
                  have hsa : IntKind.i64.wrap ((ai : Int) + 1) = ((ai + 1 : Nat) : Int) := by rw [IntWalk.i64_in _ (by omega)]; omega
                  clear hai hbi
                  go_wp2_with fail
                  clear hc0
                  go_loopw [120] (fun j wr => ∃ a : Nat, a ≤ ai + 1 ∧ j = .int .i64 a ∧ Hid (Below wc.heap.size wc wr)) (fun j _ => ai + 1 - (intOf j).toNat)
                  case atStart => exact ⟨0, Nat.zero_le _, rfl, Lib.hid (Below.refl _ _)⟩
                  case round => as_aux_lemma =>
                    clear y0 y1 y2
                    obtain ⟨wd, rfl⟩ : ∃ wd : World, wd = wr := ⟨_, rfl⟩
                    obtain ⟨a, haa, rfl, HBd⟩ := hrel
                    have hzd := HBd.out.size
                    have HXBd := Lib.hid ((HBd.out.block w7.heap.size (by omega)).trans HXBc.out)
                    obtain ⟨y0, y1, y2⟩ := blk3 HXBd.out
                    by_cases haj : a < ai + 1
                    · have haj' : (a : Int) < ((ai + 1 : Nat) : Int) := by omega
                      have haj2 : (a : Int) < (ai : Int) + 1 := by omega
                      have hc1 := ((join HBc.out HBd.out).cell (p := ⟨gl, ol + (i + 1), none⟩) (show gl < wb.heap.size by omega)).trans (HRD.out (i + 1) (by omega))
                      rw [HBI.out] at hc1
                      have hsi : IntKind.i64.wrap ((i : Int) + 1) = ((i + 1 : Nat) : Int) := by rw [IntWalk.i64_in _ (by omega)]; omega
                      have hsi2 : ((i + 1 : Nat) : Int) < L.length := by omega
                      have hsb : IntKind.i64.wrap ((bi : Int) + 1) = ((bi + 1 : Nat) : Int) := by rw [IntWalk.i64_in _ (by omega)]; omega
                      have hi10 : 0 ≤ (i : Int) + 1 := by omega
                      have hi11 : ((i : Int) + 1).toNat = i + 1 := by omega
                      go_wp2_with fail
                      clear hc1
                      go_loopw [15] (fun j wr => ∃ b : Nat, bi + 1 ≤ b ∧ b ≤ x.words.length + 1 ∧ j = .int .i64 b ∧ Hid (Below wd.heap.size wd wr)) (fun j _ => x.words.length + 1 - (intOf j).toNat)
                      case atStart => exact ⟨bi + 1, Nat.le_refl _, by omega, by go_num, Lib.hid (Below.refl _ _)⟩
                      case round => as_aux_lemma =>
                        clear y0 y1 y2
                        obtain ⟨we, rfl⟩ : ∃ we : World, we = wr := ⟨_, rfl⟩
                        obtain ⟨b, hbb, hbn, rfl, HBe⟩ := hrel
                        have hze := HBe.out.size
                        have HXBe := Lib.hid ((HBe.out.block w7.heap.size (by omega)).trans HXBd.out)
                        obtain ⟨y0, y1, y2⟩ := blk3 HXBe.out
                        have hqe : w7.heap.size < we.heap.size := by omega
                        by_cases hbl : b ≤ x.words.length
                        · have hbl' : (b : Int) ≤ x.words.length := by omega
                          have HFA := Lib.hid (HAL.out a b (by omega) (by omega) hbl)
                          have HTE := Lib.hid (HTA.out.below (join HBb.out (join HBc.out (join HBd.out HBe.out))))
                          go_wp2_with fail
                          refine (fits_any x HOX.out px qx cx dx a b (by omega) hbl HCX.out _ HTE.out).mono ?_
                          rintro e wf ⟨rfl, hBf⟩
                          rw [HFA.out]
                          have HGG := Lib.hid (join HBe.out hBf)
                          clear hBf
                          go_wp2
                          go_roundw
                          case rel => first | exact ⟨b + 1, by omega, by omega, by go_num, HGG⟩ | ((repeat apply Exists.intro); exact ⟨⟨b + 1, by omega, by omega, by go_num, HGG⟩, rfl⟩)
                          case measure => simp [intOf]; omega
                        · go_wp2
                          go_roundw
                          case rel => exact ⟨a + 1, by omega, by go_num, Lib.hid (join HBd.out HBe.out)⟩
                          case measure => simp [intOf]; omega
                    · go_wp2
                      go_roundw
                      case rel => exact ⟨i + 1, by omega, by go_num, Lib.hid (join HBc.out HBd.out)⟩
                      case measure => simp [intOf]; omega
                · go_wp2
                  go_roundw
                  case rel => exact ⟨k + 1, by omega, by go_num, Lib.hid (HEND.out _ (join HBb.out HBc.out))⟩
                  case measure => simp [intOf]; omega
    · have hkk : k = 2 := by omega
      subst hkk
      clear hlt hk
      go_wp2_with fail
      refine (awake_any _).mono ?_
      rintro e w9 ⟨rfl, hB9⟩
      have HBF := Lib.hid (HFIN.out _ (join HB7.out hB9))
      clear hB9
      go_wp2
      go_ret
      exact ⟨rfl, HBF.out⟩
end Go.Proofs.Ytadnggecnjdhiaa
namespace Go.Proofs.Ytadnggecnjdhiaa
open Go.ChangeShapes Go.WideShapes Go.ChangeAt Go.RowKit Go.Joins Tx
set_option linter.unusedVariables false
set_option linter.unusedSimpArgs false

set_option maxRecDepth 100000 in
theorem TextLone_lifted (os : Os) (started : os.Started) (H : Type) (enc : TypeId × Value → H) :
    ReturnsInHanded {} Try.checked os 11 .any (Rows.textLoneSpec.pre6 enc Try.prog Try.f11 Rows.textLoneRow.domain false) (Rows.textLoneSpec.post enc Try.prog Try.f11 false true false false) := by
  refine returnsInHanded_of_change (C := Try.checked) Try.own started (by kernel_rfl) Try.func11
    (ChangeSpec.witness6 (enc := enc) (C := Try.checked) false ⟨#[], #[.slice none 0 0], []⟩ 8 (by kernel_rfl) (by kernel_rfl) (by kernel_rfl) (by kernel_rfl)) ?_
  intro W base args ds gs before hval0 hW hcnd _
  have hval : ∀ (j : Nat) t v, Try.f11.params[j]? = some t → args[j]? = some v → Value.okWide Try.prog W .any base t v := hval0
  have hW' := hW
  obtain ⟨p, q, hA0, hV, rfl, hfz, hnd⟩ := hW
  have hA : DataW.TrodAll enc Try.prog W 0 (fun _ => true) true Try.f11.params.toList args.toList ds p := hA0
  rw [Try.params11] at hA hval
  obtain ⟨v0, vs0, d0, ds0, p0, q0, hargs, rfl, rfl, h0, r0⟩ := trodAll_cons hA
  obtain ⟨rfl, rfl, rfl⟩ := trodAll_nil r0
  obtain rfl : args = #[v0] := by cases args; simp_all
  obtain ⟨rfl, rfl⟩ := trodVars_none hV
  have lt0 := lt_of_trod h0
  have k0 := h0
  obtain ⟨a0, n0, c0, e0, l0, hB0⟩ := bytes_of_Trod (fun _ => rfl) (hval 0 88 v0 rfl rfl) h0
  clear hA0 hval0
  subst e0
  refine (TextLone_any a0 n0 c0 l0 W hB0).mono fun e W' ⟨he, bel⟩ => ?_
  subst he
  exact ⟨_, rfl, _, _, _, [], _, [], hW', trodAll_mk1 (shut_bool Try.underlying4 _), (trodAll_cons_mk (Below.trod Try.laidOut (by kernel_rfl) (of_decide_eq_true (by kernel_rfl)) k0 bel lt0) trodAll_mk0), rfl, bel.frame _, fun h => by cases h⟩

theorem TextLone_holds : Rows.TextLoneSaid :=
  OpenClaim.holds_of_wide 11 Try.f11 rfl rfl rfl rfl rfl rfl rfl ⟨rfl, rfl, rfl, rfl, rfl⟩ rfl rfl rfl rfl rfl (by kernel_rfl) Try.func11 (by kernel_rfl)
    (of_decide_eq_true (by kernel_rfl)) (by unfold Func.isWrapper; first | (rw [if_pos (by decide +kernel)]; kernel_rfl) | (rw [if_neg (by decide +kernel)]; exact ⟨rfl, rfl⟩))
    (fun os started H enc _ => TextLone_lifted os started H enc)
end Go.Proofs.Ytadnggecnjdhiaa
