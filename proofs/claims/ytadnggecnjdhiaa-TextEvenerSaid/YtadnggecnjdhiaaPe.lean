/- oyezlaw02.TextEvener: no right reading that is tried has a longest breath that is shorter than that of the most even one, nor as long with fewer breaths, for any bytes. No condition. -/
import Derived.Test.YtadnggecnjdhiaaZl
namespace Go.Proofs.Ytadnggecnjdhiaa
open Tx
set_option linter.unusedSimpArgs false
set_option linter.unusedVariables false

/-- the longest breath of a reading that begins at a place -/
def longGo (t : Text) : Nat → List Int → Int
  | _, [] => 0
  | a, x :: l => max (t.syl a (a + x.toNat)) (longGo t (a + x.toNat) l)
/-- what Even tries: breaths of at most so many syllables -/
def evGo (t : Text) : List Nat → List Int × Int × Int
  | [] => ([], 0, 6)
  | m :: ms => if (fewest (t.within (m : Nat)) t.words.length).2 = 0 then ((fewest (t.within (m : Nat)) t.words.length).1, (m : Int), 0) else evGo t ms
def evR (t : Text) : List Int × Int × Int := if t.err = 0 then evGo t (List.range' 1 t.breath.toNat) else ([], 0, t.err)
theorem okFrom_within (t : Text) (m : Int) (hm : 0 ≤ m) : ∀ (l : List Int) (a : Nat), okFrom (t.within m) a l = (okFrom t.right a l && decide (longGo t a l ≤ m))
  | [], a => by simp [okFrom, longGo, hm]
  | x :: l, a => by
    rw [okFrom, okFrom, longGo, okFrom_within t m hm l]
    unfold Tx.Text.within
    rw [Bool.eq_iff_iff]
    simp only [Bool.and_eq_true, decide_eq_true_eq]
    constructor
    · rintro ⟨⟨h1, h2⟩, h3, h4⟩
      exact ⟨⟨h2, h3⟩, by omega⟩
    · rintro ⟨⟨h2, h3⟩, h4⟩
      exact ⟨⟨by omega, h2⟩, h3, by omega⟩
theorem syl_pos {t : Text} (hs : ∀ x ∈ t.words, 1 ≤ x.syl ∧ x.syl ≤ 9) {a b : Nat} (hab : a < b) (hb : b ≤ t.words.length) : 1 ≤ t.syl a b := by
  unfold Text.syl
  have hl : ((slice t.words a b).map (·.syl)).length = b - a := by simp [slice]; omega
  have := isum_ge (l := (slice t.words a b).map (·.syl)) (fun x hx => by
    obtain ⟨y, hy, rfl⟩ := List.mem_map.1 hx
    exact (hs y (List.mem_of_mem_drop (List.mem_of_mem_take hy))).1)
  omega
theorem longGo_pos {t : Text} (hs : ∀ x ∈ t.words, 1 ≤ x.syl ∧ x.syl ≤ 9) {l : List Int} (hl : Parts t.words.length l) (h1 : 1 ≤ t.words.length) : 1 ≤ longGo t 0 l := by
  cases l with
  | nil => have := hl.2; simp [isum] at this; omega
  | cons x l =>
    rw [longGo]
    rw [parts_cons] at hl
    have := parts_pos hl.2
    have := syl_pos hs (a := 0) (b := 0 + x.toNat) (by omega) (by omega)
    omega
theorem longGo_breath {t : Text} (hb : 0 ≤ t.breath) : ∀ (l : List Int) (a : Nat), okFrom t.right a l = true → longGo t a l ≤ t.breath
  | [], a, _ => hb
  | x :: l, a, h => by
    rw [okFrom, Bool.and_eq_true] at h
    have h2 := longGo_breath hb l _ h.2
    have h1 := h.1
    unfold Text.right Text.isLong at h1
    simp only [Bool.and_eq_true, Bool.not_eq_true', decide_eq_false_iff_not] at h1
    rw [longGo]
    omega
theorem evGo_spec (t : Text) : ∀ (ms : List Nat), (evGo t ms = ([], 0, 6) ∧ ∀ m ∈ ms, (fewest (t.within (m : Nat)) t.words.length).2 ≠ 0) ∨
    ∃ pre m post, ms = pre ++ m :: post ∧ evGo t ms = ((fewest (t.within (m : Nat)) t.words.length).1, (m : Int), 0) ∧ (fewest (t.within (m : Nat)) t.words.length).2 = 0 ∧ ∀ k ∈ pre, (fewest (t.within (k : Nat)) t.words.length).2 ≠ 0
  | [] => .inl ⟨rfl, by simp⟩
  | m :: ms => by
    rw [evGo]
    by_cases h : (fewest (t.within (m : Nat)) t.words.length).2 = 0
    · rw [if_pos h]
      exact .inr ⟨[], m, ms, rfl, rfl, h, by simp⟩
    · rw [if_neg h]
      rcases evGo_spec t ms with ⟨h1, h2⟩ | ⟨pre, k, post, h1, h2, h3, h4⟩
      · exact .inl ⟨h1, fun k hk => by rcases List.mem_cons.1 hk with rfl | hk; exact h; exact h2 k hk⟩
      · exact .inr ⟨m :: pre, k, post, by rw [h1]; rfl, h2, h3, fun j hj => by rcases List.mem_cons.1 hj with rfl | hj; exact h; exact h4 j hj⟩
/-- what Even tells, as its law asks -/
theorem evR_spec {t : Text} (he : t.err = 0) (hs : ∀ x ∈ t.words, 1 ≤ x.syl ∧ x.syl ≤ 9) (hn1 : 1 ≤ t.words.length) (hn : t.words.length ≤ 12) (hb : 1 ≤ t.breath) :
    ((evR t).2.2 = 6 ∧ (evR t).1 = [] ∧ ∀ l, Parts t.words.length l → okFrom t.right 0 l = true → False) ∨
    ((evR t).2.2 = 0 ∧ Parts t.words.length (evR t).1 ∧ okFrom t.right 0 (evR t).1 = true ∧ longGo t 0 (evR t).1 = (evR t).2.1 ∧ 1 ≤ (evR t).2.1 ∧ (evR t).2.1 ≤ t.breath ∧
      ∀ l, Parts t.words.length l → okFrom t.right 0 l = true → (evR t).2.1 ≤ longGo t 0 l ∧ (longGo t 0 l = (evR t).2.1 → (evR t).1.length ≤ l.length)) := by
  unfold evR
  rw [if_pos he]
  have hfr := fun m : Nat => fewest_rights (may := t.within (m : Nat)) hn1 hn
  have hno : ∀ (m : Nat) l, Parts t.words.length l → okFrom t.right 0 l = true → longGo t 0 l ≤ m → l ∈ rights (t.within (m : Nat)) t.words.length := fun m l h1 h2 h3 => by
    rw [mem_rights]
    exact ⟨h1, by rw [okFrom_within t _ (by omega), h2]; simpa using h3⟩
  have hnot : ∀ (m : Nat), (fewest (t.within (m : Nat)) t.words.length).2 ≠ 0 → ∀ l, Parts t.words.length l → okFrom t.right 0 l = true → ¬ longGo t 0 l ≤ m := fun m hm l h1 h2 h3 => by
    apply hm
    rw [(hfr m).2.2.2]
    intro e
    have := hno m l h1 h2 h3
    rw [e] at this; simp at this
  rcases evGo_spec t (List.range' 1 t.breath.toNat) with ⟨h1, h2⟩ | ⟨pre, m, post, h1, h2, h3, h4⟩
  · left
    rw [h1]
    refine ⟨rfl, rfl, fun l hl ho => ?_⟩
    refine hnot t.breath.toNat (h2 _ (by rw [List.mem_range'_1]; omega)) l hl ho ?_
    have := longGo_breath (by omega) l 0 ho
    omega
  · right
    rw [h2]
    have hin := (hfr m).2.2.1 h3
    obtain ⟨g1, g2⟩ := mem_rights.1 hin
    rw [okFrom_within t _ (by omega), Bool.and_eq_true, decide_eq_true_eq] at g2
    have hmem : m ∈ List.range' 1 t.breath.toNat := by rw [h1]; simp
    rw [List.mem_range'_1] at hmem
    have hlow : ∀ l, Parts t.words.length l → okFrom t.right 0 l = true → (m : Int) ≤ longGo t 0 l := fun l hl ho => by
      have hp := longGo_pos hs hl hn1
      have hlb := longGo_breath (by omega) l 0 ho
      rcases Nat.lt_or_ge (longGo t 0 l).toNat m with hlt | hge
      · exfalso
        have hk : (longGo t 0 l).toNat ∈ pre := by
          have hlen : m = 1 + pre.length := by
            have e : (List.range' 1 t.breath.toNat)[pre.length]? = some m := by rw [h1]; simp
            rw [List.getElem?_range'] at e
            · simp at e; omega
            · have := congrArg List.length h1; simp at this; omega
          have e2 : (List.range' 1 t.breath.toNat)[(longGo t 0 l).toNat - 1]? = some (longGo t 0 l).toNat := by
            rw [List.getElem?_range' (by omega)]
            congr 1; omega
          rw [h1, List.getElem?_append_left (by omega)] at e2
          exact List.mem_of_getElem? e2
        exact hnot _ (h4 _ hk) l hl ho (by omega)
      · omega
    refine ⟨rfl, g1, g2.1, ?_, by show (1 : Int) ≤ (m : Int); omega, by show (m : Int) ≤ _; omega, fun l hl ho => ⟨hlow l hl ho, fun e => ?_⟩⟩
    · have := hlow _ g1 g2.1
      have := g2.2
      dsimp only at *
      omega
    · have hl2 := hno m l hl ho (by dsimp only at e; omega)
      dsimp only
      rw [(hfr m).1]
      exact (bestLen_spec _ 0 (rights_ne hn1)).2.1 l hl2
end Go.Proofs.Ytadnggecnjdhiaa
set_option linter.unusedSimpArgs false
set_option linter.unusedVariables false
namespace Go.Proofs.Ytadnggecnjdhiaa
open Go.RowKit Tx
attribute [local go_sem] Oper.semAt_some

theorem blk4 {W : World} {b : Nat} {v0 v1 v2 v3 : Value} {ty : TypeId} {fr : Nat × Nat} (h : W.heap[b]? = some (.cells #[v0, v1, v2, v3] ty fr)) : W.cell? ⟨b, 0, none⟩ = some v0 ∧ W.cell? ⟨b, 1, none⟩ = some v1 ∧ W.cell? ⟨b, 2, none⟩ = some v2 ∧ W.cell? ⟨b, 3, none⟩ = some v3 :=
  ⟨blk_cells h 0 _ rfl, blk_cells h 1 _ rfl, blk_cells h 2 _ rfl, blk_cells h 3 _ rfl⟩
theorem parts1_any (u : Turn) (x : Int) (A : Nat) (w : World) (hA : w.heap[A]? = some (.cells #[.int .i64 x] 3 (0, 0))) :
    Calls Try.prog 171 #[.agg #[.int .i64 u.word, .int .i64 u.lo, .int .i64 u.hi], .pointer (some ⟨A, 0, none⟩)] w fun e w' => e = .returned (.bool (u.parts x)) ∧ Below w.heap.size w w' := by
  have hAl := (Array.getElem?_eq_some_iff.1 hA).1
  have c0 := blk_cells hA 0 _ rfl
  obtain ⟨uw, ul, uh⟩ := u
  unfold Turn.parts
  dsimp only
  clear hA
  by_cases h1 : uw < x
  · by_cases h2 : x ≤ ul
    · go_enter Try.func171, Try.ntmps171
      go_wp2
      go_ret
      exact ⟨ret_bool (by simp [h1, h2]), below1 _ _⟩
    · by_cases h3 : uh < x
      · by_cases h4 : x ≤ uw
        · exact absurd h1 (by omega)
        · go_enter Try.func171, Try.ntmps171
          go_wp2
          go_ret
          exact ⟨ret_bool (by simp [h1, h2, h3, h4] <;> omega), below1 _ _⟩
      · go_enter Try.func171, Try.ntmps171
        go_wp2
        go_ret
        exact ⟨ret_bool (by simp [h1, h2, h3] <;> omega), below1 _ _⟩
  · by_cases h3 : uh < x
    · have h4 : x ≤ uw := by omega
      go_enter Try.func171, Try.ntmps171
      go_wp2
      go_ret
      exact ⟨ret_bool (by simp [h1, h3, h4] <;> omega), below1 _ _⟩
    · go_enter Try.func171, Try.ntmps171
      go_wp2
      go_ret
      exact ⟨ret_bool (by simp [h1, h3] <;> omega), below1 _ _⟩
theorem entered_parts1 : Entered 171 := fun args W => by kernel_rfl
theorem parts_any (ts : List Turn) (hl : ts.length ≤ 1000000) (x : Int) (pt : Option Addr) (ct : Nat) (v0 v2 v3 : Value) (w : World) (hT : Tns w pt ts) :
    Calls Try.prog 160 #[.agg #[v0, .slice pt ts.length ct, v2, v3], .int .i64 x] w fun e w' => e = .returned (.bool (ts.any fun u => u.parts x)) ∧ Below w.heap.size w w' := by
  have hmf := mf
  have hB3 : Below w.heap.size w ((w.alloc (.cells #[v0, .slice pt ts.length ct, v2, v3] 125)).alloc (.cells #[.int .i64 x] 3)) := (below1 _ _).alloc (by simp) _
  have hx : ((w.alloc (.cells #[v0, .slice pt ts.length ct, v2, v3] 125)).alloc (.cells #[.int .i64 x] 3)).heap[w.heap.size + 1]? = some (.cells #[.int .i64 x] 3 (0, 0)) := by
    have := heap_last (w.alloc (.cells #[v0, .slice pt ts.length ct, v2, v3] 125)) (.cells #[.int .i64 x] 3)
    rwa [World.size_alloc] at this
  have hcf := containsFuncT 171 entered_parts1 (.pointer (some ⟨w.heap.size + 1, 0, none⟩)) (fun u => u.parts x) ts pt ct _ hl (hT.below hB3) (fun W h u hu => parts1_any u x (w.heap.size + 1) W ((h.block _ (by simp)).trans hx))
  obtain ⟨kv, hkv⟩ : ∃ kv, kv = ts.any (fun u => u.parts x) := ⟨_, rfl⟩
  rw [← hkv] at hcf ⊢
  have HCF := Lib.hid hcf
  have HB3 := Lib.hid hB3
  clear hcf hx hB3 hT hkv
  go_enter Try.func160, Try.ntmps160
  go_wp2_with fail
  refine HCF.out.mono ?_
  rintro e w5 ⟨rfl, hB5⟩
  go_wp2
  go_ret
  exact ⟨rfl, join HB3.out hB5⟩
set_option maxHeartbeats 800000 in
theorem sureB_any (t : Text) (pw pt : Option Addr) (cw ct : Nat) (mf : Value) (a b : Nat) (hab : a ≤ b) (hb : b ≤ t.words.length) (w : World) (hW : WkAt w t pw pt cw) :
    Calls Try.prog 128 #[.agg #[.slice pw t.words.length cw, .slice pt t.turns.length ct, .int .i64 t.breath, mf], .int .i64 a, .int .i64 b] w fun e w' => e = .returned (.bool (t.sureB a b)) ∧ Below w.heap.size w w' := by
  have HR := Lib.hid (fun W (h : Below w.heap.size w W) => right_any t pw pt cw ct mf a b hab hb W (hW.below h))
  have hm6 := hW.ok.m6
  have HP := Lib.hid (fun (x : Int) W (h : Below w.heap.size w W) => parts_any t.turns (by omega) x pt ct (.slice pw t.words.length cw) (.int .i64 t.breath) mf W (hW.at_.turns.below h))
  have hsz : t.sureB a b = (t.right a b && !(t.turns.any fun u => u.parts a) && !(t.turns.any fun u => u.parts b)) := rfl
  clear hW
  obtain ⟨pa, hpa⟩ : ∃ pa, pa = t.turns.any (fun u => u.parts (a : Int)) := ⟨_, rfl⟩
  obtain ⟨pb, hpb⟩ : ∃ pb, pb = t.turns.any (fun u => u.parts (b : Int)) := ⟨_, rfl⟩
  obtain ⟨r, hr⟩ : ∃ r, r = t.right a b := ⟨_, rfl⟩
  have HPA := Lib.hid hpa
  have HPB := Lib.hid hpb
  have HRR := Lib.hid hr
  have HF : Hid (t.sureB a b = (r && !pa && !pb)) := Lib.hid (by rw [hpa, hpb, hr]; exact hsz)
  clear hpa hpb hr hsz
  go_enter Try.func128, Try.ntmps128
  go_wp2_with fail
  refine (HR.out _ (below1 _ _)).mono ?_
  rintro e w5 ⟨rfl, hB5⟩
  rw [← HRR.out]
  obtain ⟨hc5, hf5⟩ := bcell hB5
  have hz5 : w.heap.size < w5.heap.size := by have := hB5.size; simp at this; omega
  have HB5 := Lib.hid (join (below1 _ _) hB5)
  cases r with
  | false =>
    go_wp2
    go_ret
    exact ⟨ret_bool (by rw [HF.out]; rfl), HB5.out⟩
  | true =>
    clear hB5
    go_wp2_with fail
    refine (HP.out a _ HB5.out).mono ?_
    rintro e w6 ⟨rfl, hB6⟩
    rw [← HPA.out]
    obtain ⟨hc6, hf6⟩ := bcell hB6
    have hz6 : w.heap.size < w6.heap.size := by have := hB6.size; omega
    have HB6 := Lib.hid (join HB5.out hB6)
    cases pa with
    | true =>
      go_wp2
      go_ret
      exact ⟨ret_bool (by rw [HF.out]; rfl), HB6.out⟩
    | false =>
      clear hB6
      go_wp2_with fail
      refine (HP.out b _ HB6.out).mono ?_
      rintro e w7 ⟨rfl, hB7⟩
      rw [← HPB.out]
      go_wp2
      go_ret
      exact ⟨ret_bool (by rw [HF.out]; simp), join HB6.out hB7⟩
def spEv1 (pw : Option Addr) (n cw : Nat) (v1 v2 v3 : Value) (a b s m : Int) (r : Bool) : Nat → List Value → Value → World → Prop
  | 0, _, v, _ => v = .agg #[.slice pw n cw, v1, v2, v3]
  | 1, _, v, _ => v = .int .i64 a
  | 2, _, v, _ => v = .int .i64 b
  | 3, _, v, _ => v = .int .i64 s
  | 4, _, v, _ => v = .int .i64 m
  | 5, _, v, _ => v = .bool true
  | 6, _, v, _ => v = .bool true
  | 7, _, v, _ => v = .agg #[.slice pw n cw, v1, v2, v3]
  | 8, _, v, _ => v = .int .i64 a
  | 9, _, v, _ => v = .int .i64 b
  | 10, _, v, _ => v = .bool r
  | 11, _, v, _ => v = .bool r
  | 12, _, v, _ => v = .bool r
  | _, _, _, _ => False
theorem spEv1_stable (pw : Option Addr) (n cw : Nat) (v1 v2 v3 : Value) (a b s m : Int) (r : Bool) : ∀ i L v w w', spEv1 pw n cw v1 v2 v3 a b s m r i L v w → Rs.Gr w w' → spEv1 pw n cw v1 v2 v3 a b s m r i L v w' := by
  intro i L v w w' h hg
  match i with
  | 0 => exact h
  | 1 => exact h
  | 2 => exact h
  | 3 => exact h
  | 4 => exact h
  | 5 => exact h
  | 6 => exact h
  | 7 => exact h
  | 8 => exact h
  | 9 => exact h
  | 10 => exact h
  | 11 => exact h
  | 12 => exact h

def spEv0 (pw : Option Addr) (n cw : Nat) (v1 v2 v3 : Value) (a b s m : Int) (r : Bool) : Nat → List Value → Value → World → Prop
  | 0, _, v, _ => v = .agg #[.slice pw n cw, v1, v2, v3]
  | 1, _, v, _ => v = .int .i64 a
  | 2, _, v, _ => v = .int .i64 b
  | 3, _, v, _ => v = .int .i64 s
  | 4, _, v, _ => v = .int .i64 m
  | 5, _, v, _ => v = .bool false
  | 6, _, v, _ => v = .bool false
  | 7, _, v, _ => v = undef
  | 8, _, v, _ => v = undef
  | 9, _, v, _ => v = undef
  | 10, _, v, _ => v = undef
  | 11, _, v, _ => v = .bool false
  | 12, _, v, _ => v = .bool false
  | _, _, _, _ => False
theorem spEv0_stable (pw : Option Addr) (n cw : Nat) (v1 v2 v3 : Value) (a b s m : Int) (r : Bool) : ∀ i L v w w', spEv0 pw n cw v1 v2 v3 a b s m r i L v w → Rs.Gr w w' → spEv0 pw n cw v1 v2 v3 a b s m r i L v w' := by
  intro i L v w w' h hg
  match i with
  | 0 => exact h
  | 1 => exact h
  | 2 => exact h
  | 3 => exact h
  | 4 => exact h
  | 5 => exact h
  | 6 => exact h
  | 7 => exact h
  | 8 => exact h
  | 9 => exact h
  | 10 => exact h
  | 11 => exact h
  | 12 => exact h

set_option maxHeartbeats 1000000 in
set_option maxRecDepth 100000 in
theorem rightWithin1_any (t : Text) (pw pt : Option Addr) (cw ct : Nat) (mf : Value) (m : Int) (a b : Nat) (hab : a ≤ b) (hb : b ≤ t.words.length) (X Y : Nat) (w : World) (hW : WkAt w t pw pt cw)
    (hX : w.heap[X]? = some (.cells #[.slice pw t.words.length cw, .slice pt t.turns.length ct, .int .i64 t.breath, mf] 125 (0, 0))) (hY : w.heap[Y]? = some (.cells #[.int .i64 m] 3 (0, 0))) :
    Calls Try.prog 162 #[.int .i64 a, .int .i64 b, .pointer (some ⟨X, 0, none⟩), .pointer (some ⟨Y, 0, none⟩)] w fun e w' => e = .returned (.bool (t.within m a b)) ∧ Below w.heap.size w w' := by
  have HRT := Lib.hid (fun W (h : Below w.heap.size w W) => right_any t pw pt cw ct mf a b hab hb W (hW.below h))
  have HSY := Lib.hid (fun W (h : Below w.heap.size w W) => syl_any t hW.ok pw cw (.slice pt t.turns.length ct) (.int .i64 t.breath) mf a b hab hb hW.cap W (hW.at_.words.below h))
  have HX := Lib.hid hX
  have HY := Lib.hid hY
  have HXl := (Array.getElem?_eq_some_iff.1 hX).1
  have HYl := (Array.getElem?_eq_some_iff.1 hY).1
  have hF : t.within m a b = (decide (t.syl a b ≤ m) && t.right a b) := rfl
  have HF := Lib.hid hF
  clear hX hY hW hF
  by_cases hsm : t.syl a b ≤ m
  · have HSM := Lib.hid hsm
    go_enter Try.func162, Try.ntmps162
    go_wp2_with fail
    refine Rs.region_gen 13 [[], [], [], [0, 1, 2], [], [0, 1, 2, 3, 4], [0, 1, 2, 3, 4, 5], [0, 1, 2, 3, 4, 5, 6], [0, 1, 2, 3, 4, 5, 6], [0, 1, 2, 3, 4, 5, 6], [0, 1, 2, 3, 4, 5, 6, 7, 8, 9], [0, 1, 2, 3, 4, 5, 6, 7, 8, 9, 10], [0, 1, 2, 3, 4, 5, 6, 7, 8, 9, 10, 11]] [some 7, some 8, some 9, some 10, some 11, some 12, some 13, some 14, some 15, some 16, some 17, some 18, some 6] (spEv1 pw t.words.length cw (.slice pt t.turns.length ct) (.int .i64 t.breath) mf a b (t.syl a b) m (t.right a b)) (by kernel_rfl) (by kernel_rfl) rfl (spEv1_stable _ _ _ _ _ _ _ _ _ _ _) ?_ ?_
    · refine ⟨fun V w' hG hs => ?_, fun V w' hG hs => ?_, fun V w' hG hs => ?_, fun V w' hG hs => ?_, fun V w' hG hs => ?_, fun V w' hG hs => ?_, fun V w' hG hs => ?_, fun V w' hG hs => ?_, fun V w' hG hs => ?_, fun V w' hG hs => ?_, fun V w' hG hs => ?_, fun V w' hG hs => ?_, fun V w' hG hs => ?_, trivial⟩
      all_goals
        obtain ⟨k0, k1, k2, k3⟩ := blk4 ((hG.block X HXl).trans HX.out)
        have c0 := blk_cells ((hG.block Y HYl).trans HY.out) 0 _ rfl
      · rw [if_pos (by rfl)]
        exact Rs.GrowL.value (v := .agg #[.slice pw t.words.length cw, (.slice pt t.turns.length ct), (.int .i64 t.breath), mf]) (w' := w') (by simp [go_sem, Rs.look, k0, k1, k2, k3]) (Rs.Gr.refl _) rfl
      · rw [if_pos (by rfl)]
        exact Rs.GrowL.value (v := .int .i64 a) (w' := w') (by simp [go_sem, Rs.look]) (Rs.Gr.refl _) rfl
      · rw [if_pos (by rfl)]
        exact Rs.GrowL.value (v := .int .i64 b) (w' := w') (by simp [go_sem, Rs.look]) (Rs.Gr.refl _) rfl
      · have e0 : V 0 = .agg #[.slice pw t.words.length cw, (.slice pt t.turns.length ct), (.int .i64 t.breath), mf] := hs 0 (by simp)
        have e1 : V 1 = .int .i64 a := hs 1 (by simp)
        have e2 : V 2 = .int .i64 b := hs 2 (by simp)
        rw [if_pos (by rfl)]
        refine Rs.GrowL.call (f := 163) (args := #[.agg #[.slice pw t.words.length cw, .slice pt t.turns.length ct, .int .i64 t.breath, mf], .int .i64 a, .int .i64 b]) (by simp [go_sem, Rs.look, e0, e1, e2]) ?_
        refine (HSY.out w' hG).mono ?_
        rintro e w2 ⟨rfl, hB2⟩
        exact ⟨_, rfl, hB2, rfl⟩
      · rw [if_pos (by rfl)]
        exact Rs.GrowL.value (v := .int .i64 m) (w' := w') (by simp [go_sem, Rs.look, c0]) (Rs.Gr.refl _) rfl
      · have e0 : V 0 = .agg #[.slice pw t.words.length cw, (.slice pt t.turns.length ct), (.int .i64 t.breath), mf] := hs 0 (by simp)
        have e1 : V 1 = .int .i64 a := hs 1 (by simp)
        have e2 : V 2 = .int .i64 b := hs 2 (by simp)
        have e3 : V 3 = .int .i64 (t.syl a b) := hs 3 (by simp)
        have e4 : V 4 = .int .i64 m := hs 4 (by simp)
        rw [if_pos (by rfl)]
        exact Rs.GrowL.value (v := .bool true) (w' := w') (by simp [go_sem, Rs.look, e0, e1, e2, e3, e4, hsm]) (Rs.Gr.refl _) rfl
      · have e0 : V 0 = .agg #[.slice pw t.words.length cw, (.slice pt t.turns.length ct), (.int .i64 t.breath), mf] := hs 0 (by simp)
        have e1 : V 1 = .int .i64 a := hs 1 (by simp)
        have e2 : V 2 = .int .i64 b := hs 2 (by simp)
        have e3 : V 3 = .int .i64 (t.syl a b) := hs 3 (by simp)
        have e4 : V 4 = .int .i64 m := hs 4 (by simp)
        have e5 : V 5 = .bool true := hs 5 (by simp)
        rw [if_pos (by rfl)]
        exact Rs.GrowL.value (v := .bool true) (w' := w') (by simp [go_sem, Rs.look, e0, e1, e2, e3, e4, e5]) (Rs.Gr.refl _) rfl
      · have e0 : V 0 = .agg #[.slice pw t.words.length cw, (.slice pt t.turns.length ct), (.int .i64 t.breath), mf] := hs 0 (by simp)
        have e1 : V 1 = .int .i64 a := hs 1 (by simp)
        have e2 : V 2 = .int .i64 b := hs 2 (by simp)
        have e3 : V 3 = .int .i64 (t.syl a b) := hs 3 (by simp)
        have e4 : V 4 = .int .i64 m := hs 4 (by simp)
        have e5 : V 5 = .bool true := hs 5 (by simp)
        have e6 : V 6 = .bool true := hs 6 (by simp)
        rw [if_pos (by simp [Rs.wantB, e6])]
        exact Rs.GrowL.value (v := .agg #[.slice pw t.words.length cw, (.slice pt t.turns.length ct), (.int .i64 t.breath), mf]) (w' := w') (by simp [go_sem, Rs.look, e0, e1, e2, e3, e4, e5, e6, k0, k1, k2, k3]) (Rs.Gr.refl _) rfl
      · have e0 : V 0 = .agg #[.slice pw t.words.length cw, (.slice pt t.turns.length ct), (.int .i64 t.breath), mf] := hs 0 (by simp)
        have e1 : V 1 = .int .i64 a := hs 1 (by simp)
        have e2 : V 2 = .int .i64 b := hs 2 (by simp)
        have e3 : V 3 = .int .i64 (t.syl a b) := hs 3 (by simp)
        have e4 : V 4 = .int .i64 m := hs 4 (by simp)
        have e5 : V 5 = .bool true := hs 5 (by simp)
        have e6 : V 6 = .bool true := hs 6 (by simp)
        rw [if_pos (by simp [Rs.wantB, e6])]
        exact Rs.GrowL.value (v := .int .i64 a) (w' := w') (by simp [go_sem, Rs.look, e0, e1, e2, e3, e4, e5, e6]) (Rs.Gr.refl _) rfl
      · have e0 : V 0 = .agg #[.slice pw t.words.length cw, (.slice pt t.turns.length ct), (.int .i64 t.breath), mf] := hs 0 (by simp)
        have e1 : V 1 = .int .i64 a := hs 1 (by simp)
        have e2 : V 2 = .int .i64 b := hs 2 (by simp)
        have e3 : V 3 = .int .i64 (t.syl a b) := hs 3 (by simp)
        have e4 : V 4 = .int .i64 m := hs 4 (by simp)
        have e5 : V 5 = .bool true := hs 5 (by simp)
        have e6 : V 6 = .bool true := hs 6 (by simp)
        rw [if_pos (by simp [Rs.wantB, e6])]
        exact Rs.GrowL.value (v := .int .i64 b) (w' := w') (by simp [go_sem, Rs.look, e0, e1, e2, e3, e4, e5, e6]) (Rs.Gr.refl _) rfl
      · have e0 : V 0 = .agg #[.slice pw t.words.length cw, (.slice pt t.turns.length ct), (.int .i64 t.breath), mf] := hs 0 (by simp)
        have e1 : V 1 = .int .i64 a := hs 1 (by simp)
        have e2 : V 2 = .int .i64 b := hs 2 (by simp)
        have e3 : V 3 = .int .i64 (t.syl a b) := hs 3 (by simp)
        have e4 : V 4 = .int .i64 m := hs 4 (by simp)
        have e5 : V 5 = .bool true := hs 5 (by simp)
        have e6 : V 6 = .bool true := hs 6 (by simp)
        have e7 : V 7 = .agg #[.slice pw t.words.length cw, (.slice pt t.turns.length ct), (.int .i64 t.breath), mf] := hs 7 (by simp)
        have e8 : V 8 = .int .i64 a := hs 8 (by simp)
        have e9 : V 9 = .int .i64 b := hs 9 (by simp)
        rw [if_pos (by simp [Rs.wantB, e6])]
        refine Rs.GrowL.call (f := 138) (args := #[.agg #[.slice pw t.words.length cw, .slice pt t.turns.length ct, .int .i64 t.breath, mf], .int .i64 a, .int .i64 b]) (by simp [go_sem, Rs.look, e7, e8, e9]) ?_
        refine (HRT.out w' hG).mono ?_
        rintro e w2 ⟨rfl, hB2⟩
        exact ⟨_, rfl, hB2, rfl⟩
      · have e0 : V 0 = .agg #[.slice pw t.words.length cw, (.slice pt t.turns.length ct), (.int .i64 t.breath), mf] := hs 0 (by simp)
        have e1 : V 1 = .int .i64 a := hs 1 (by simp)
        have e2 : V 2 = .int .i64 b := hs 2 (by simp)
        have e3 : V 3 = .int .i64 (t.syl a b) := hs 3 (by simp)
        have e4 : V 4 = .int .i64 m := hs 4 (by simp)
        have e5 : V 5 = .bool true := hs 5 (by simp)
        have e6 : V 6 = .bool true := hs 6 (by simp)
        have e7 : V 7 = .agg #[.slice pw t.words.length cw, (.slice pt t.turns.length ct), (.int .i64 t.breath), mf] := hs 7 (by simp)
        have e8 : V 8 = .int .i64 a := hs 8 (by simp)
        have e9 : V 9 = .int .i64 b := hs 9 (by simp)
        have e10 : V 10 = .bool (t.right a b) := hs 10 (by simp)
        rw [if_pos (by rfl)]
        exact Rs.GrowL.value (v := .bool (t.right a b)) (w' := w') (by simp [go_sem, Rs.look, e0, e1, e2, e3, e4, e5, e6, e7, e8, e9, e10]) (Rs.Gr.refl _) rfl
      · have e0 : V 0 = .agg #[.slice pw t.words.length cw, (.slice pt t.turns.length ct), (.int .i64 t.breath), mf] := hs 0 (by simp)
        have e1 : V 1 = .int .i64 a := hs 1 (by simp)
        have e2 : V 2 = .int .i64 b := hs 2 (by simp)
        have e3 : V 3 = .int .i64 (t.syl a b) := hs 3 (by simp)
        have e4 : V 4 = .int .i64 m := hs 4 (by simp)
        have e5 : V 5 = .bool true := hs 5 (by simp)
        have e6 : V 6 = .bool true := hs 6 (by simp)
        have e7 : V 7 = .agg #[.slice pw t.words.length cw, (.slice pt t.turns.length ct), (.int .i64 t.breath), mf] := hs 7 (by simp)
        have e8 : V 8 = .int .i64 a := hs 8 (by simp)
        have e9 : V 9 = .int .i64 b := hs 9 (by simp)
        have e10 : V 10 = .bool (t.right a b) := hs 10 (by simp)
        have e11 : V 11 = .bool (t.right a b) := hs 11 (by simp)
        rw [if_pos (by rfl)]
        exact Rs.GrowL.value (v := .bool (t.right a b)) (w' := w') (by simp [go_sem, Rs.look, e0, e1, e2, e3, e4, e5, e6, e7, e8, e9, e10, e11]) (Rs.Gr.refl _) rfl
    · intro V w' hG hs
      have e0 : V 0 = .agg #[.slice pw t.words.length cw, (.slice pt t.turns.length ct), (.int .i64 t.breath), mf] := hs 0 (by omega)
      have e1 : V 1 = .int .i64 a := hs 1 (by omega)
      have e2 : V 2 = .int .i64 b := hs 2 (by omega)
      have e3 : V 3 = .int .i64 (t.syl a b) := hs 3 (by omega)
      have e4 : V 4 = .int .i64 m := hs 4 (by omega)
      have e5 : V 5 = .bool true := hs 5 (by omega)
      have e6 : V 6 = .bool true := hs 6 (by omega)
      have e7 : V 7 = .agg #[.slice pw t.words.length cw, (.slice pt t.turns.length ct), (.int .i64 t.breath), mf] := hs 7 (by omega)
      have e8 : V 8 = .int .i64 a := hs 8 (by omega)
      have e9 : V 9 = .int .i64 b := hs 9 (by omega)
      have e10 : V 10 = .bool (t.right a b) := hs 10 (by omega)
      have e11 : V 11 = .bool (t.right a b) := hs 11 (by omega)
      have e12 : V 12 = .bool (t.right a b) := hs 12 (by omega)
      simp only [Rs.canon, Rs.dstOf, List.range_succ, List.range_zero, List.nil_append, List.cons_append, List.foldl_cons, List.foldl_nil, List.drop_succ_cons, List.drop_zero, List.drop_nil, List.getElem?_toArray, List.getElem?_cons_succ, List.getElem?_cons_zero, Option.bind_some, Act.put, List.getD_cons_succ, List.getD_cons_zero, List.setIfInBounds_toArray, List.set_cons_succ, List.set_cons_zero]
      rw [e0, e1, e2, e3, e4, e5, e6, e7, e8, e9, e10, e11, e12]
      clear e0 e1 e2 e3 e4 e5 e6 e7 e8 e9 e10 e11 e12 hs
      go_wp2
      go_ret
      exact ⟨ret_bool (by rw [HF.out]; simp [HSM.out]), hG⟩
  · have HSM := Lib.hid hsm
    go_enter Try.func162, Try.ntmps162
    go_wp2_with fail
    refine Rs.region_gen 13 [[], [], [], [0, 1, 2], [], [0, 1, 2, 3, 4], [0, 1, 2, 3, 4, 5], [0, 1, 2, 3, 4, 5, 6], [0, 1, 2, 3, 4, 5, 6], [0, 1, 2, 3, 4, 5, 6], [0, 1, 2, 3, 4, 5, 6, 7, 8, 9], [0, 1, 2, 3, 4, 5, 6, 7, 8, 9, 10], [0, 1, 2, 3, 4, 5, 6, 7, 8, 9, 10, 11]] [some 7, some 8, some 9, some 10, some 11, some 12, some 13, some 14, some 15, some 16, some 17, some 18, some 6] (spEv0 pw t.words.length cw (.slice pt t.turns.length ct) (.int .i64 t.breath) mf a b (t.syl a b) m (t.right a b)) (by kernel_rfl) (by kernel_rfl) rfl (spEv0_stable _ _ _ _ _ _ _ _ _ _ _) ?_ ?_
    · refine ⟨fun V w' hG hs => ?_, fun V w' hG hs => ?_, fun V w' hG hs => ?_, fun V w' hG hs => ?_, fun V w' hG hs => ?_, fun V w' hG hs => ?_, fun V w' hG hs => ?_, fun V w' hG hs => ?_, fun V w' hG hs => ?_, fun V w' hG hs => ?_, fun V w' hG hs => ?_, fun V w' hG hs => ?_, fun V w' hG hs => ?_, trivial⟩
      all_goals
        obtain ⟨k0, k1, k2, k3⟩ := blk4 ((hG.block X HXl).trans HX.out)
        have c0 := blk_cells ((hG.block Y HYl).trans HY.out) 0 _ rfl
      · rw [if_pos (by rfl)]
        exact Rs.GrowL.value (v := .agg #[.slice pw t.words.length cw, (.slice pt t.turns.length ct), (.int .i64 t.breath), mf]) (w' := w') (by simp [go_sem, Rs.look, k0, k1, k2, k3]) (Rs.Gr.refl _) rfl
      · rw [if_pos (by rfl)]
        exact Rs.GrowL.value (v := .int .i64 a) (w' := w') (by simp [go_sem, Rs.look]) (Rs.Gr.refl _) rfl
      · rw [if_pos (by rfl)]
        exact Rs.GrowL.value (v := .int .i64 b) (w' := w') (by simp [go_sem, Rs.look]) (Rs.Gr.refl _) rfl
      · have e0 : V 0 = .agg #[.slice pw t.words.length cw, (.slice pt t.turns.length ct), (.int .i64 t.breath), mf] := hs 0 (by simp)
        have e1 : V 1 = .int .i64 a := hs 1 (by simp)
        have e2 : V 2 = .int .i64 b := hs 2 (by simp)
        rw [if_pos (by rfl)]
        refine Rs.GrowL.call (f := 163) (args := #[.agg #[.slice pw t.words.length cw, .slice pt t.turns.length ct, .int .i64 t.breath, mf], .int .i64 a, .int .i64 b]) (by simp [go_sem, Rs.look, e0, e1, e2]) ?_
        refine (HSY.out w' hG).mono ?_
        rintro e w2 ⟨rfl, hB2⟩
        exact ⟨_, rfl, hB2, rfl⟩
      · rw [if_pos (by rfl)]
        exact Rs.GrowL.value (v := .int .i64 m) (w' := w') (by simp [go_sem, Rs.look, c0]) (Rs.Gr.refl _) rfl
      · have e0 : V 0 = .agg #[.slice pw t.words.length cw, (.slice pt t.turns.length ct), (.int .i64 t.breath), mf] := hs 0 (by simp)
        have e1 : V 1 = .int .i64 a := hs 1 (by simp)
        have e2 : V 2 = .int .i64 b := hs 2 (by simp)
        have e3 : V 3 = .int .i64 (t.syl a b) := hs 3 (by simp)
        have e4 : V 4 = .int .i64 m := hs 4 (by simp)
        rw [if_pos (by rfl)]
        exact Rs.GrowL.value (v := .bool false) (w' := w') (by simp [go_sem, Rs.look, e0, e1, e2, e3, e4, hsm]) (Rs.Gr.refl _) rfl
      · have e0 : V 0 = .agg #[.slice pw t.words.length cw, (.slice pt t.turns.length ct), (.int .i64 t.breath), mf] := hs 0 (by simp)
        have e1 : V 1 = .int .i64 a := hs 1 (by simp)
        have e2 : V 2 = .int .i64 b := hs 2 (by simp)
        have e3 : V 3 = .int .i64 (t.syl a b) := hs 3 (by simp)
        have e4 : V 4 = .int .i64 m := hs 4 (by simp)
        have e5 : V 5 = .bool false := hs 5 (by simp)
        rw [if_pos (by rfl)]
        exact Rs.GrowL.value (v := .bool false) (w' := w') (by simp [go_sem, Rs.look, e0, e1, e2, e3, e4, e5]) (Rs.Gr.refl _) rfl
      · have e0 : V 0 = .agg #[.slice pw t.words.length cw, (.slice pt t.turns.length ct), (.int .i64 t.breath), mf] := hs 0 (by simp)
        have e1 : V 1 = .int .i64 a := hs 1 (by simp)
        have e2 : V 2 = .int .i64 b := hs 2 (by simp)
        have e3 : V 3 = .int .i64 (t.syl a b) := hs 3 (by simp)
        have e4 : V 4 = .int .i64 m := hs 4 (by simp)
        have e5 : V 5 = .bool false := hs 5 (by simp)
        have e6 : V 6 = .bool false := hs 6 (by simp)
        rw [if_neg (by simp [Rs.wantB, e6])]
        rfl
      · have e0 : V 0 = .agg #[.slice pw t.words.length cw, (.slice pt t.turns.length ct), (.int .i64 t.breath), mf] := hs 0 (by simp)
        have e1 : V 1 = .int .i64 a := hs 1 (by simp)
        have e2 : V 2 = .int .i64 b := hs 2 (by simp)
        have e3 : V 3 = .int .i64 (t.syl a b) := hs 3 (by simp)
        have e4 : V 4 = .int .i64 m := hs 4 (by simp)
        have e5 : V 5 = .bool false := hs 5 (by simp)
        have e6 : V 6 = .bool false := hs 6 (by simp)
        rw [if_neg (by simp [Rs.wantB, e6])]
        rfl
      · have e0 : V 0 = .agg #[.slice pw t.words.length cw, (.slice pt t.turns.length ct), (.int .i64 t.breath), mf] := hs 0 (by simp)
        have e1 : V 1 = .int .i64 a := hs 1 (by simp)
        have e2 : V 2 = .int .i64 b := hs 2 (by simp)
        have e3 : V 3 = .int .i64 (t.syl a b) := hs 3 (by simp)
        have e4 : V 4 = .int .i64 m := hs 4 (by simp)
        have e5 : V 5 = .bool false := hs 5 (by simp)
        have e6 : V 6 = .bool false := hs 6 (by simp)
        rw [if_neg (by simp [Rs.wantB, e6])]
        rfl
      · have e0 : V 0 = .agg #[.slice pw t.words.length cw, (.slice pt t.turns.length ct), (.int .i64 t.breath), mf] := hs 0 (by simp)
        have e1 : V 1 = .int .i64 a := hs 1 (by simp)
        have e2 : V 2 = .int .i64 b := hs 2 (by simp)
        have e3 : V 3 = .int .i64 (t.syl a b) := hs 3 (by simp)
        have e4 : V 4 = .int .i64 m := hs 4 (by simp)
        have e5 : V 5 = .bool false := hs 5 (by simp)
        have e6 : V 6 = .bool false := hs 6 (by simp)
        have e7 : V 7 = undef := hs 7 (by simp)
        have e8 : V 8 = undef := hs 8 (by simp)
        have e9 : V 9 = undef := hs 9 (by simp)
        rw [if_neg (by simp [Rs.wantB, e6])]
        rfl
      · have e0 : V 0 = .agg #[.slice pw t.words.length cw, (.slice pt t.turns.length ct), (.int .i64 t.breath), mf] := hs 0 (by simp)
        have e1 : V 1 = .int .i64 a := hs 1 (by simp)
        have e2 : V 2 = .int .i64 b := hs 2 (by simp)
        have e3 : V 3 = .int .i64 (t.syl a b) := hs 3 (by simp)
        have e4 : V 4 = .int .i64 m := hs 4 (by simp)
        have e5 : V 5 = .bool false := hs 5 (by simp)
        have e6 : V 6 = .bool false := hs 6 (by simp)
        have e7 : V 7 = undef := hs 7 (by simp)
        have e8 : V 8 = undef := hs 8 (by simp)
        have e9 : V 9 = undef := hs 9 (by simp)
        have e10 : V 10 = undef := hs 10 (by simp)
        rw [if_pos (by rfl)]
        exact Rs.GrowL.value (v := .bool false) (w' := w') (by simp [go_sem, Rs.look, e0, e1, e2, e3, e4, e5, e6, e7, e8, e9, e10]) (Rs.Gr.refl _) rfl
      · have e0 : V 0 = .agg #[.slice pw t.words.length cw, (.slice pt t.turns.length ct), (.int .i64 t.breath), mf] := hs 0 (by simp)
        have e1 : V 1 = .int .i64 a := hs 1 (by simp)
        have e2 : V 2 = .int .i64 b := hs 2 (by simp)
        have e3 : V 3 = .int .i64 (t.syl a b) := hs 3 (by simp)
        have e4 : V 4 = .int .i64 m := hs 4 (by simp)
        have e5 : V 5 = .bool false := hs 5 (by simp)
        have e6 : V 6 = .bool false := hs 6 (by simp)
        have e7 : V 7 = undef := hs 7 (by simp)
        have e8 : V 8 = undef := hs 8 (by simp)
        have e9 : V 9 = undef := hs 9 (by simp)
        have e10 : V 10 = undef := hs 10 (by simp)
        have e11 : V 11 = .bool false := hs 11 (by simp)
        rw [if_pos (by rfl)]
        exact Rs.GrowL.value (v := .bool false) (w' := w') (by simp [go_sem, Rs.look, e0, e1, e2, e3, e4, e5, e6, e7, e8, e9, e10, e11]) (Rs.Gr.refl _) rfl
    · intro V w' hG hs
      have e0 : V 0 = .agg #[.slice pw t.words.length cw, (.slice pt t.turns.length ct), (.int .i64 t.breath), mf] := hs 0 (by omega)
      have e1 : V 1 = .int .i64 a := hs 1 (by omega)
      have e2 : V 2 = .int .i64 b := hs 2 (by omega)
      have e3 : V 3 = .int .i64 (t.syl a b) := hs 3 (by omega)
      have e4 : V 4 = .int .i64 m := hs 4 (by omega)
      have e5 : V 5 = .bool false := hs 5 (by omega)
      have e6 : V 6 = .bool false := hs 6 (by omega)
      have e7 : V 7 = undef := hs 7 (by omega)
      have e8 : V 8 = undef := hs 8 (by omega)
      have e9 : V 9 = undef := hs 9 (by omega)
      have e10 : V 10 = undef := hs 10 (by omega)
      have e11 : V 11 = .bool false := hs 11 (by omega)
      have e12 : V 12 = .bool false := hs 12 (by omega)
      simp only [Rs.canon, Rs.dstOf, List.range_succ, List.range_zero, List.nil_append, List.cons_append, List.foldl_cons, List.foldl_nil, List.drop_succ_cons, List.drop_zero, List.drop_nil, List.getElem?_toArray, List.getElem?_cons_succ, List.getElem?_cons_zero, Option.bind_some, Act.put, List.getD_cons_succ, List.getD_cons_zero, List.setIfInBounds_toArray, List.set_cons_succ, List.set_cons_zero]
      rw [e0, e1, e2, e3, e4, e5, e6, e7, e8, e9, e10, e11, e12]
      clear e0 e1 e2 e3 e4 e5 e6 e7 e8 e9 e10 e11 e12 hs
      go_wp2
      go_ret
      exact ⟨ret_bool (by rw [HF.out, decide_eq_false (Int.not_le.2 HSM.out)]; rfl), hG⟩
theorem entered_rightWithin1 : Entered 162 := fun args W => by kernel_rfl
theorem rightWithin_any (v0 v1 v2 v3 : Value) (m : Int) (w : World) :
    Calls Try.prog 132 #[.agg #[v0, v1, v2, v3], .int .i64 m] w fun e w' => e = .returned (.func (.func 162) #[] #[.pointer (some ⟨w.heap.size, 0, none⟩), .pointer (some ⟨w.heap.size + 1, 0, none⟩)]) ∧ w' = (w.alloc (.cells #[v0, v1, v2, v3] 125)).alloc (.cells #[.int .i64 m] 3) := by
  have hmf := mf
  go_enter Try.func132, Try.ntmps132
  go_wp2
  go_ret
  exact ⟨by simp, rfl⟩
theorem entered_sure : Entered 128 := fun args W => by kernel_rfl
theorem sure_may (t : Text) (pw pt : Option Addr) (cw ct : Nat) (mf : Value) (w : World) (hW : WkAt w t pw pt cw) :
    MayAt (.func (.func 128) #[.agg #[.slice pw t.words.length cw, .slice pt t.turns.length ct, .int .i64 t.breath, mf]] #[]) t.sureB t.words.length (fun k => k < w.heap.size) w :=
  ⟨128, _, _, rfl, entered_sure, fun W hH a b hab hb => sureB_any t pw pt cw ct mf a b (by omega) hb W ⟨hW.ok, hW.at_.hold hH (fun k hk => hk), hW.cap⟩⟩
theorem within_may (t : Text) (pw pt : Option Addr) (cw ct : Nat) (mf : Value) (m : Int) (X Y : Nat) (w : World) (hW : WkAt w t pw pt cw)
    (hX : w.heap[X]? = some (.cells #[.slice pw t.words.length cw, .slice pt t.turns.length ct, .int .i64 t.breath, mf] 125 (0, 0))) (hY : w.heap[Y]? = some (.cells #[.int .i64 m] 3 (0, 0))) :
    MayAt (.func (.func 162) #[] #[.pointer (some ⟨X, 0, none⟩), .pointer (some ⟨Y, 0, none⟩)]) (t.within m) t.words.length (fun k => k < w.heap.size) w := by
  have hXl := (Array.getElem?_eq_some_iff.1 hX).1
  have hYl := (Array.getElem?_eq_some_iff.1 hY).1
  refine ⟨162, _, _, rfl, entered_rightWithin1, fun W hH a b hab hb => ?_⟩
  exact rightWithin1_any t pw pt cw ct mf m a b (by omega) hb X Y W ⟨hW.ok, hW.at_.hold hH (fun k hk => hk), hW.cap⟩ ((hH.same X hXl hXl).trans hX) ((hH.same Y hYl hYl).trans hY)
/-- what Surest tells -/
def surL (t : Text) : List Int := if t.err = 0 then (Tx.fewest t.sureB t.words.length).1 else []
def surE (t : Text) : Int := if t.err = 0 then (Tx.fewest t.sureB t.words.length).2 else t.err
set_option maxHeartbeats 800000 in
theorem Surest_any (t : Text) (hl1 : t.words.length ≤ 1000000) (hl2 : t.turns.length ≤ 1000000) (pw pt : Option Addr) (cw ct : Nat) (hcw : t.words.length ≤ cw ∧ cw ≤ maxLen) (w : World) (hW : TxAt w t pw pt) :
    Calls Try.prog 56 #[.agg #[.slice pw t.words.length cw, .slice pt t.turns.length ct, .int .i64 t.breath]] w (ListPost (surL t) (surE t) w) := by
  have hmf := mf
  by_cases he : t.err = 0
  · have ok := err_ok he
    have h1 : surL t = (Tx.fewest t.sureB t.words.length).1 := if_pos he
    have h2 : surE t = (Tx.fewest t.sureB t.words.length).2 := if_pos he
    rw [h1, h2]
    have HS := Lib.hid (fun W (h : Below w.heap.size w W) => open_ok t he pw pt cw ct W (hW.below h))
    have HF := Lib.hid (fun mv W (h : Below w.heap.size w W) => fewest_any t.sureB t.words.length cw ok.n1 ok.n12 pw (.slice pt t.turns.length ct) (.int .i64 t.breath) _ W (sure_may t pw pt cw ct mv W ⟨ok, hW.below h, hcw⟩))
    clear hW he h1 h2 ok
    go_enter Try.func56, Try.ntmps56
    go_wp2_with fail
    refine (HS.out _ (below1 _ _)).mono ?_
    rintro e w5 ⟨rfl, hB5⟩
    have HB5 := Lib.hid (join (below1 _ _) hB5)
    clear hB5
    go_wp2_with fail
    refine (HF.out _ _ ?_).mono ?_
    · exact join HB5.out (below1 _ _)
    rintro e w6 ⟨v, rfl, hown, hB6⟩
    have HO := Lib.hid hown
    have HB6 := Lib.hid hB6
    clear hown hB6
    go_wp2
    go_ret2
    have hz := HB5.out.size
    exact ⟨_, rfl, own_base HO.out (by simp; omega), join (join HB5.out (below1 _ _)) HB6.out⟩
  · have h1 : surL t = [] := if_neg he
    have h2 : surE t = t.err := if_neg he
    rw [h1, h2]
    have HS := Lib.hid (fun W (h : Below w.heap.size w W) => open_bad t he hl1 hl2 pw pt cw ct W (hW.below h))
    have HE : (t.err != 0) = true := by simpa using he
    clear hW he h1 h2
    generalize t.err = er at HE HS ⊢
    go_enter Try.func56, Try.ntmps56
    go_wp2_with fail
    refine (HS.out _ (below1 _ _)).mono ?_
    rintro e w5 ⟨rfl, hB5⟩
    have HB5 := Lib.hid (join (below1 _ _) hB5)
    clear hB5
    go_wp2
    go_ret2
    exact ⟨_, rfl, own_none _ _ _ _, join HB5.out (below1 _ _)⟩
end Go.Proofs.Ytadnggecnjdhiaa
set_option linter.unusedSimpArgs false
set_option linter.unusedVariables false
namespace Go.Proofs.Ytadnggecnjdhiaa
open Go.RowKit Tx

def EvenPost (r : List Int × Int × Int) (w : World) (e : Ending) (w' : World) : Prop := ∃ v, e = .returned (.tuple #[v, .int .i64 r.2.1, .int .i64 r.2.2]) ∧ w'.ownsRow w.heap.size 3 1 v r.1.length (r.1.map (Value.int .i64)) ∧ Below w.heap.size w w'
theorem evGo_step (t : Text) (m : Nat) (h : (m : Int) ≤ t.breath) : evGo t (List.range' m (t.breath.toNat + 1 - m)) = if (fewest (t.within (m : Nat)) t.words.length).2 = 0 then ((fewest (t.within (m : Nat)) t.words.length).1, (m : Int), 0) else evGo t (List.range' (m + 1) (t.breath.toNat + 1 - (m + 1))) := by
  rw [show t.breath.toNat + 1 - m = (t.breath.toNat + 1 - (m + 1)) + 1 by omega, List.range'_succ, evGo]
set_option maxHeartbeats 2000000 in
set_option maxRecDepth 100000 in
theorem Even_any (t : Text) (hl1 : t.words.length ≤ 1000000) (hl2 : t.turns.length ≤ 1000000) (pw pt : Option Addr) (cw ct : Nat) (hcw : t.words.length ≤ cw ∧ cw ≤ maxLen) (w : World) (hW : TxAt w t pw pt) :
    Calls Try.prog 66 #[.agg #[.slice pw t.words.length cw, .slice pt t.turns.length ct, .int .i64 t.breath]] w (EvenPost (evR t) w) := by
  by_cases he : t.err = 0
  · have ok := err_ok he
    have h1 : evR t = evGo t (List.range' 1 (t.breath.toNat + 1 - 1)) := if_pos he
    have HEV := Lib.hid h1
    have HS := Lib.hid (fun W (h : Below w.heap.size w W) => open_ok t he pw pt cw ct W (hW.below h))
    have HF := Lib.hid (fun mv m X Y W (h : Below w.heap.size w W) hX hY => fewest_any (t.within m) t.words.length cw ok.n1 ok.n12 pw (.slice pt t.turns.length ct) (.int .i64 t.breath) _ W (within_may t pw pt cw ct mv m X Y W ⟨ok, hW.below h, hcw⟩ hX hY))
    have HOK := Lib.hid ok
    have hb40 := ok.b40
    have hb1 := ok.b1
    clear hW he h1 ok
    go_enter Try.func66, Try.ntmps66
    go_wp2_with fail
    refine (HS.out _ (below1 _ _)).mono ?_
    rintro e w5 ⟨rfl, hB5⟩
    have hz5 : w.heap.size < w5.heap.size := by have := hB5.size; simp at this; omega
    have HT5 := Lib.hid ((hB5.block w.heap.size (by simp)).trans (heap_last w _))
    have HB5 := Lib.hid (join (below1 _ _) hB5)
    obtain ⟨B5, hB5e⟩ : ∃ B5, B5 = w5.heap.size := ⟨_, rfl⟩
    clear hB5
    go_wp2_with fail
    go_loopw [7] (fun i wr => ∃ (m : Nat) (mv : Value), 1 ≤ m ∧ (m : Int) ≤ t.breath + 1 ∧ i = .int .i64 m ∧ Hid (wr.heap[w5.heap.size]? = some (.cells #[.slice pw t.words.length cw, .slice pt t.turns.length ct, .int .i64 t.breath, mv] 125 (0, 0))) ∧ Hid (wr.heap[w.heap.size]? = some (.cells #[.slice pw t.words.length cw, .slice pt t.turns.length ct, .int .i64 t.breath] 25 (0, 0))) ∧ Hid (Below w.heap.size w wr) ∧ Hid (evR t = evGo t (List.range' m (t.breath.toNat + 1 - m)))) (fun i _ => 100 - (intOf i).toNat)
    case atStart => exact ⟨1, _, by omega, by omega, rfl, Lib.hid (heap_last w5 _), Lib.hid ((Below.heap_alloc _ _ _ hz5).trans HT5.out), Lib.hid (join HB5.out (below1 _ _)), HEV⟩
    case round =>
      obtain ⟨w6, rfl⟩ : ∃ w6 : World, w6 = wr := ⟨_, rfl⟩
      obtain ⟨m, mv, hm1, hm2, rfl, HX, HT, HB, HE⟩ := hrel
      obtain ⟨k0, k1, k2, k3⟩ := blk4 HX.out
      obtain ⟨j0, j1, j2⟩ := blk3 HT.out
      have hz6 := (Array.getElem?_eq_some_iff.1 HX.out).1
      by_cases hlt : (m : Int) ≤ t.breath
      · have HST := Lib.hid (evGo_step t m hlt)
        go_wp2_with fail
        refine (rightWithin_any _ _ _ _ _ _).mono ?_
        rintro e w7 ⟨rfl, hw7⟩
        have hB7 : Below w6.heap.size w6 w7 := by rw [hw7]; exact (below1 _ _).alloc (by simp) _
        have hz7 : w7.heap.size = w6.heap.size + 2 := by rw [hw7]; simp
        have hX7 : w7.heap[w6.heap.size]? = some (.cells #[.slice pw t.words.length cw, .slice pt t.turns.length ct, .int .i64 t.breath, mv] 125 (0, 0)) := by
          rw [hw7, Below.heap_alloc _ _ _ (by simp)]; exact heap_last _ _
        have hY7 : w7.heap[w6.heap.size + 1]? = some (.cells #[.int .i64 m] 3 (0, 0)) := by
          rw [hw7]
          have := heap_last (w6.alloc (.cells #[.slice pw t.words.length cw, .slice pt t.turns.length ct, .int .i64 t.breath, mv] 125)) (.cells #[.int .i64 m] 3)
          rwa [World.size_alloc] at this
        have HX7 := Lib.hid hX7
        have HY7 := Lib.hid hY7
        have hx7 := (hB7.block _ hz6).trans HX.out
        have HT7 := Lib.hid ((hB7.block _ (by omega)).trans HT.out)
        have HB7 := Lib.hid (join HB.out hB7)
        clear hw7 hB7 hX7 hY7 k0 k1 k2 k3 j0 j1 j2
        obtain ⟨k0, k1, k2, k3⟩ := blk4 hx7
        have HXX := Lib.hid hx7
        have hfz : w7.frozen? ⟨w5.heap.size, 3, none⟩ = false := by simp [World.frozen?, hx7]
        clear hx7
        go_wp2_with fail
        obtain ⟨w8, hw8⟩ : ∃ w8, w8 = w7.setCell ⟨w5.heap.size, 3, none⟩ (.func (.func 162) #[] #[.pointer (some ⟨w6.heap.size, 0, none⟩), .pointer (some ⟨w6.heap.size + 1, 0, none⟩)]) := ⟨_, rfl⟩
        rw [← hw8]
        have hz8 : w8.heap.size = w6.heap.size + 2 := by rw [hw8]; simp [hz7]
        have hB8 : Below w.heap.size w w8 := by rw [hw8]; exact belS HB7.out HB5.out.size
        have hX8 : w8.heap[w6.heap.size]? = some (.cells #[.slice pw t.words.length cw, .slice pt t.turns.length ct, .int .i64 t.breath, mv] 125 (0, 0)) := by rw [hw8, Below.heap_setCell _ _ _ _ (show w6.heap.size ≠ w5.heap.size by omega)]; exact HX7.out
        have hY8 : w8.heap[w6.heap.size + 1]? = some (.cells #[.int .i64 m] 3 (0, 0)) := by rw [hw8, Below.heap_setCell _ _ _ _ (show w6.heap.size + 1 ≠ w5.heap.size by omega)]; exact HY7.out
        have HT8 : Hid (w8.heap[w.heap.size]? = some (.cells #[.slice pw t.words.length cw, .slice pt t.turns.length ct, .int .i64 t.breath] 25 (0, 0))) := Lib.hid (by rw [hw8, Below.heap_setCell _ _ _ _ (show w.heap.size ≠ w5.heap.size by omega)]; exact HT7.out)
        have HXW : Hid (w8.heap[w5.heap.size]? = some (.cells #[.slice pw t.words.length cw, .slice pt t.turns.length ct, .int .i64 t.breath, .func (.func 162) #[] #[.pointer (some ⟨w6.heap.size, 0, none⟩), .pointer (some ⟨w6.heap.size + 1, 0, none⟩)]] 125 (0, 0))) := Lib.hid (by rw [hw8]; exact heap_set_same _ HXX.out)
        have HB8 := Lib.hid hB8
        have hc := HF.out mv m w6.heap.size (w6.heap.size + 1) w8 hB8 hX8 hY8
        obtain ⟨fw, hfw⟩ : ∃ fw, fw = fewest (t.within (m : Nat)) t.words.length := ⟨_, rfl⟩
        rw [← hfw] at HST hc
        have HC := Lib.hid hc
        clear hc hw8 hB8 hX8 hY8 hfw k0 k1 k2 k3 HXX HB7 HX7 HY7 HT7 hz7
        obtain ⟨f1, f2⟩ := fw
        refine HC.out.mono ?_
        rintro e w9 ⟨v, rfl, hown, hB9⟩
        have HO := Lib.hid hown
        have HT9 := Lib.hid ((hB9.block _ (by omega)).trans HT8.out)
        have HX9 := Lib.hid ((hB9.block _ (by omega)).trans HXW.out)
        have HB9 := Lib.hid (join HB8.out hB9)
        have hz9 := hB9.size
        clear hown hB9
        dsimp only at HST HO ⊢
        by_cases hf : f2 = 0
        · subst hf
          have HEE : Hid (evR t = (f1, (m : Int), 0)) := Lib.hid (by rw [HE.out, HST.out, if_pos rfl])
          clear HST
          go_wp2
          go_ret3
          exact ⟨_, by rw [HEE.out]; rfl, by rw [HEE.out]; exact own_base HO.out (by omega), HB9.out⟩
        · have HEE : Hid (evR t = evGo t (List.range' (m + 1) (t.breath.toNat + 1 - (m + 1)))) := Lib.hid (by rw [HE.out, HST.out, if_neg hf])
          have hf2 : (f2 == 0) = false := by simpa using hf
          clear HST
          go_wp2
          go_roundw
          case rel => exact ⟨m + 1, _, by omega, by omega, by go_num, HX9, HT9, HB9, HEE⟩
          case measure => simp [intOf]; omega
      · have HEE : Hid (evR t = ([], 0, 6)) := Lib.hid (by rw [HE.out, show t.breath.toNat + 1 - m = 0 by omega]; rfl)
        go_wp2
        go_ret3
        exact ⟨_, by rw [HEE.out]; rfl, by rw [HEE.out]; exact own_none _ _ _ _, HB.out⟩
  · have h1 : evR t = ([], 0, t.err) := if_neg he
    rw [h1]
    have HS := Lib.hid (fun W (h : Below w.heap.size w W) => open_bad t he hl1 hl2 pw pt cw ct W (hW.below h))
    have HE : (t.err != 0) = true := by simpa using he
    clear hW he h1
    generalize t.err = er at HE HS ⊢
    go_enter Try.func66, Try.ntmps66
    go_wp2_with fail
    refine (HS.out _ (below1 _ _)).mono ?_
    rintro e w5 ⟨rfl, hB5⟩
    have HB5 := Lib.hid (join (below1 _ _) hB5)
    clear hB5
    go_wp2
    go_ret3
    exact ⟨_, rfl, own_none _ _ _ _, join HB5.out (below1 _ _)⟩
end Go.Proofs.Ytadnggecnjdhiaa
set_option linter.unusedSimpArgs false
set_option linter.unusedVariables false
namespace Go.Proofs.Ytadnggecnjdhiaa
open Go.RowKit Tx

theorem longGo_le {t : Text} (ok : Text.Ok t) : ∀ (l : List Int) (a : Nat), 0 ≤ longGo t a l ∧ longGo t a l ≤ 1000
  | [], a => by simp [longGo]
  | x :: l, a => by
    have ih := longGo_le ok l (a + x.toNat)
    rw [longGo]
    have hb := isum_bd ((slice t.words a (a + x.toNat)).map (·.syl)) 0 9 (fun y hy => by
      obtain ⟨z, hz, rfl⟩ := List.mem_map.1 hy
      have := ok.word z (List.mem_of_mem_drop (List.mem_of_mem_take hz)); omega)
    have hlen : ((slice t.words a (a + x.toNat)).map (·.syl)).length ≤ 12 := by
      have := ok.n12
      simp [slice]; omega
    unfold Text.syl
    omega
/-- one breath more of a reading that is looked through -/
theorem longGo_step {t : Text} {l : List Int} (h : Parts t.words.length l) {k : Nat} (hk : k < l.length) (m : Int) :
    max m (longGo t (isum (l.take k)).toNat (l.drop k)) = max (max m (t.syl (isum (l.take k)).toNat (isum (l.take (k + 1))).toNat)) (longGo t (isum (l.take (k + 1))).toNat (l.drop (k + 1))) := by
  have hx := h.1 _ (getD_mem 0 hk)
  have hs : isum (l.take (k + 1)) = isum (l.take k) + l.getD k 0 := by rw [take_snocD 0 hk, isum_snoc]
  have h0 := isum_ge (l := l.take k) (fun x hx => h.1 x (List.mem_of_mem_take hx))
  have e : (isum (l.take k)).toNat + (l.getD k 0).toNat = (isum (l.take (k + 1))).toNat := by omega
  have hd : l.drop k = l.getD k 0 :: l.drop (k + 1) := by rw [List.drop_eq_getElem_cons hk]; simp [hk]
  rw [hd, longGo, e]
  omega
set_option maxHeartbeats 4000000 in
set_option maxRecDepth 100000 in
theorem evener1_any (t : Text) (ok : Text.Ok t) (pw pt : Option Addr) (cw ct : Nat) (hcw : t.words.length ≤ cw ∧ cw ≤ maxLen) (l : List Int) (hl : Parts t.words.length l) (pl : Option Addr) (cl B : Nat) (w : World) (hW : TxAt w t pw pt) (hL : Ints w pl l)
    (hB : w.heap[B]? = some (.cells #[.slice pw t.words.length cw, .slice pt t.turns.length ct, .int .i64 t.breath] 25 (0, 0))) :
    Calls Try.prog 76 #[.slice pl l.length cl, .pointer (some ⟨B, 0, none⟩)] w fun e w' => e = .returned (.int .i64 (longGo t 0 l)) ∧ Below w.heap.size w w' := by
  have hn := ok.n12
  have hne := ok.n1
  have hll : l.length ≤ 12 := by have := isum_ge hl.1; have := hl.2; omega
  have hl1 : 1 ≤ l.length := by
    rcases Nat.eq_zero_or_pos l.length with h | h
    · rw [List.length_eq_zero_iff.1 h] at hl; have := hl.2; simp [isum] at this; omega
    · exact h
  obtain ⟨bw, ow, x0, rfl, hbb, _⟩ := hW.words.at (i := 0) (by omega)
  have HW := Lib.hid hW.words
  have HOK := Lib.hid ok
  have HPT := Lib.hid hl
  have hpl : plcL (t.words.length : Int) l = placesL l := by unfold plcL; rw [if_pos ((partsB_iff _ _).2 hl)]
  have HPC := Lib.hid (fun W (h : Below w.heap.size w W) => places_any t.words.length (by omega) (some ⟨bw, ow, none⟩) cw (.slice pt t.turns.length ct) (.int .i64 t.breath) l pl cl W (hL.below h) (by omega))
  have hBl := (Array.getElem?_eq_some_iff.1 hB).1
  have HBX := Lib.hid hB
  obtain ⟨k0, k1, k2⟩ := blk3 hB
  obtain ⟨hcw1, hcw2⟩ := hcw
  unfold maxLen at hcw2
  rw [hpl] at HPC
  clear hW hL hl hpl hB ok
  go_enter Try.func76, Try.ntmps76
  go_wp2_with fail
  refine (HPC.out _ (Below.refl _ _)).mono ?_
  rintro e W2 ⟨v, rfl, hown, hB2⟩
  obtain ⟨p, c, rfl, hints, -, hcm, hcl⟩ := own_rd hown rfl
  have hPl := placesL_len l
  rcases hints with h0 | ⟨gp, og, rfl, hgp, hcP⟩
  · rw [h0] at hPl; simp at hPl
  have hcm2 := hcm
  unfold maxLen at hcm2
  have HPE := Lib.hid (fun i (hi : i ≤ l.length) => placesL_get l i hi)
  obtain ⟨P, hP⟩ : ∃ P, P = placesL l := ⟨_, rfl⟩
  rw [← hP] at hPl hcP hcl HPE ⊢
  have HCP := Lib.hid hcP
  have HPL := Lib.hid hPl
  have hsub : IntKind.i64.wrap ((P.length : Int) - 1) = (P.length : Int) - 1 := IntWalk.i64_in _ (by omega)
  have hmax : max 0 ((P.length : Int) - 1) = ((l.length : Nat) : Int) := by omega
  have hmax2 : (((l.length : Nat) : Int)) ≤ (c : Int) := by omega
  have HB2 := Lib.hid hB2
  have hz2 := hB2.size
  clear hown hcP hP hB2 hPl k0 k1 k2
  go_wp2_with fail
  go_loopw [4, 20] (fun y i wr => ∃ (k : Nat) (m : Int), k ≤ l.length ∧ i = .int .i64 k ∧ y = .int .i64 m ∧ Hid (0 ≤ m ∧ m ≤ 1000) ∧ Hid (max m (longGo t (isum (l.take k)).toNat (l.drop k)) = longGo t 0 l) ∧ Hid (Below W2.heap.size W2 wr)) (fun _ i _ => l.length - (intOf i).toNat)
  case atStart => exact ⟨0, 0, Nat.zero_le _, rfl, rfl, Lib.hid (by omega), Lib.hid (by have := (longGo_le HOK.out l 0).1; simp only [List.take_zero, isum, List.foldl_nil, List.drop_zero, Int.toNat_zero]; omega), Lib.hid (Below.refl _ _)⟩
  case round =>
    obtain ⟨w3, rfl⟩ : ∃ w3 : World, w3 = wr := ⟨_, rfl⟩
    obtain ⟨k, m, hk, rfl, rfl, HM, HLG, HB3⟩ := hrel
    have hz3 := HB3.out.size
    have HB3w := Lib.hid (join HB2.out HB3.out)
    obtain ⟨k0, k1, k2⟩ := blk3 ((HB3w.out.block B hBl).trans HBX.out)
    by_cases hlt : k < l.length
    · have hlt' : (k : Int) < ((l.length : Nat) : Int) := by omega
      have han : (k : Int) < P.length := by have := HPL.out; omega
      have hbn : (k : Int) + 1 < P.length := by have := HPL.out; omega
      have hbn2 : 0 ≤ (k : Int) + 1 := by omega
      have hbn3 : ((k : Int) + 1).toNat = k + 1 := by omega
      have hsum : IntKind.i64.wrap ((k : Int) + 1) = (k : Int) + 1 := IntWalk.i64_in _ (by omega)
      obtain ⟨s1, s2, s3, s4, s5⟩ := ok_step (may := t.right) HPT.out hlt
      have HST := Lib.hid (longGo_step HPT.out hlt m)
      have hca := (HB3.out.cell (p := ⟨gp, og + k, none⟩) hgp).trans (HCP.out k (by have := HPL.out; omega))
      have hcb := (HB3.out.cell (p := ⟨gp, og + (k + 1), none⟩) hgp).trans (HCP.out (k + 1) (by have := HPL.out; omega))
      rw [HPE.out k (by omega)] at hca
      rw [HPE.out (k + 1) (by omega)] at hcb
      obtain ⟨a, ha⟩ : ∃ a : Nat, isum (l.take k) = (a : Int) := ⟨(isum (l.take k)).toNat, by omega⟩
      obtain ⟨b, hb⟩ : ∃ b : Nat, isum (l.take (k + 1)) = (b : Int) := ⟨(isum (l.take (k + 1))).toNat, by omega⟩
      rw [ha, hb, Int.toNat_natCast, Int.toNat_natCast] at HST
      rw [ha, Int.toNat_natCast] at HLG
      rw [ha] at hca s4
      rw [hb] at hcb s4 s5
      have hab : a < b := by omega
      have hbL : b ≤ t.words.length := by omega
      have HBB := Lib.hid hb
      have HTX := Lib.hid (HW.out.below HB3w.out)
      have hbc : (b : Int) ≤ (cw : Int) := by omega
      have habi : (a : Int) ≤ (b : Int) := by omega
      clear s1 s2 s3 s4 s5 ha hb HPE HPC
      go_wp2_with fail
      go_quiet (fail)
      have HLEN := Lib.hid (slice_len t.words (a := a) hbL)
      go_wp2_with fail
      go_loopw [7, 36] (fun s i wr => ∃ j : Nat, j ≤ b - a ∧ i = .int .i64 j ∧ s = .int .i64 (isum (((slice t.words a b).take j).map (·.syl))) ∧ Hid (Below w3.heap.size w3 wr)) (fun _ i _ => (b - a) - (intOf i).toNat)
      case atStart => exact ⟨0, Nat.zero_le _, rfl, rfl, Lib.hid (below_drewN' (Below.refl _ _) _)⟩
      case round =>
        obtain ⟨j, hj, rfl, rfl, HB⟩ := hrel
        have hzr := HB.out.size
        clear hca hcb k0 k1 k2
        by_cases hjt : j < b - a
        · have hjt' : (j : Int) < ((b - a : Nat) : Int) := by omega
          obtain ⟨b', o', x, hp, hbl, hxx, c1, c2, c3⟩ := (HW.out.below (join HB3w.out HB.out)).at (i := a + j) (by omega)
          injection hp with hp; injection hp with hp1 hp2 _
          subst hp1; subst hp2
          have hxm : x ∈ t.words := by rw [hxx]; exact getD_mem default (by omega)
          obtain ⟨x1, x2, _, _⟩ := HOK.out.word x hxm
          have hxs : x = (slice t.words a b).getD j default := by rw [slice_getD _ _ hjt hbL]; exact hxx
          have hsm : isum (((slice t.words a b).take (j + 1)).map (·.syl)) = isum (((slice t.words a b).take j).map (·.syl)) + x.syl := by
            rw [take_snocD default (by rw [HLEN.out]; exact hjt), List.map_append, List.map_cons, List.map_nil, isum_snoc, hxs]
          have HS := Lib.hid hsm
          have hbd := isum_bd (((slice t.words a b).take j).map (·.syl)) 0 9 (fun y hy => by
            obtain ⟨z, hz, rfl⟩ := List.mem_map.1 hy
            have := HOK.out.word z (List.mem_of_mem_drop (List.mem_of_mem_take (List.mem_of_mem_take hz))); omega)
          have hlk : (((slice t.words a b).take j).map (·.syl)).length = j := by rw [List.length_map, List.length_take, HLEN.out]; omega
          rw [hlk] at hbd
          generalize hsk : isum (((slice t.words a b).take j).map (·.syl)) = sk at hbd HS ⊢
          have hadd : ow + (a + j) * 3 = ow + a * 3 + j * 3 := by omega
          rw [hadd] at c1 c2 c3
          clear hsk hsm hxs hxx hlk hadd hxm
          go_wp2
          all_goals
            go_roundw
            case rel => exact ⟨j + 1, by omega, by go_num, by rw [HS.out], Lib.hid (HB.out.alloc hzr _)⟩
            case measure => simp [intOf]; omega
        · obtain rfl : j = b - a := by omega
          have hfull : isum (((slice t.words a b).take (b - a)).map (·.syl)) = t.syl a b := by rw [← HLEN.out, List.take_length]; rfl
          rw [hfull]
          have hsb : 0 ≤ t.syl a b ∧ t.syl a b ≤ 1000 := by
            have := isum_bd ((slice t.words a b).map (·.syl)) 0 9 (fun y hy => by
              obtain ⟨z, hz, rfl⟩ := List.mem_map.1 hy
              have := HOK.out.word z (List.mem_of_mem_drop (List.mem_of_mem_take hz)); omega)
            rw [List.length_map, HLEN.out] at this
            unfold Text.syl
            omega
          have HSB := Lib.hid hsb
          have HLN : Hid (max (max m (t.syl a b)) (longGo t (isum (l.take (k + 1))).toNat (l.drop (k + 1))) = longGo t 0 l) := Lib.hid (by rw [HBB.out, Int.toNat_natCast, ← HST.out]; exact HLG.out)
          clear hfull hsb HST HLG
          go_wp2_with fail
          go_roundw
          case rel => exact ⟨k + 1, max m (t.syl a b), by omega, by go_num, rfl, Lib.hid (by have := HM.out; have := HSB.out; omega), HLN, Lib.hid (join HB3.out HB.out)⟩
          case measure => simp [intOf]; omega
    · have hkk : k = l.length := by omega
      subst hkk
      have HFIN : Hid (m = longGo t 0 l) := Lib.hid (by have := HLG.out; rw [List.drop_length, longGo] at this; have := HM.out; omega)
      go_wp2
      go_ret
      exact ⟨by rw [HFIN.out]; rfl, HB3w.out⟩
end Go.Proofs.Ytadnggecnjdhiaa
set_option linter.unusedSimpArgs false
set_option linter.unusedVariables false
namespace Go.Proofs.Ytadnggecnjdhiaa
open Go.RowKit Tx

theorem parts_len' {L : Nat} {l : List Int} (h : Parts L l) : l.length ≤ L := by
  have := isum_ge h.1
  have := h.2
  omega
/-- what TextEvener needs of Even -/
theorem evR_law {t : Text} (ok : Text.Ok t) (he : t.err = 0) :
    ((evR t).2.2 = 6 ∧ ∀ l, Parts t.words.length l → okFrom t.right 0 l = true → False) ∨
    ((evR t).2.2 = 0 ∧ Parts t.words.length (evR t).1 ∧ okFrom t.right 0 (evR t).1 = true ∧ longGo t 0 (evR t).1 = (evR t).2.1 ∧ (evR t).2.1 ≤ t.breath ∧
      ∀ l, Parts t.words.length l → okFrom t.right 0 l = true → (evR t).2.1 ≤ longGo t 0 l ∧ (longGo t 0 l = (evR t).2.1 → (evR t).1.length ≤ l.length)) := by
  rcases evR_spec he (fun x hx => ⟨(ok.word x hx).1, (ok.word x hx).2.1⟩) ok.n1 ok.n12 ok.b1 with ⟨h1, h2, h3⟩ | ⟨h1, h2, h3, h4, h5, h6, h7⟩
  · exact .inl ⟨h1, h3⟩
  · exact .inr ⟨h1, h2, h3, h4, h6, h7⟩
set_option maxHeartbeats 8000000 in
set_option maxRecDepth 100000 in
theorem TextEvener_any (pn pq : Option Addr) (nn cn nq cq : Nat) (hnn : nn ≤ 9223372036854775807) (hnq : nq ≤ 9223372036854775807) (w : World) (hN : Bytes w pn nn) (hQ : Bytes w pq nq) :
    Calls Try.prog 15 #[.slice pn nn cn, .slice pq nq cq] w fun e w' => e = .returned (.bool true) ∧ Below w.heap.size w w' := by
  have hmf := mf
  obtain ⟨hb0, hm0⟩ := hang_made pn nn cn hnn w hN
  have HB0 := Lib.hid hb0
  have HM0 := Lib.hid hm0
  have HQ := Lib.hid hQ
  have hal := below1 w (.cells #[.slice pn nn cn, .int .i64 0, .int .u32 0] 159)
  have HAL := Lib.hid hal
  have hz1 : (w.alloc (.cells #[.slice pn nn cn, .int .i64 0, .int .u32 0] 159)).heap.size = w.heap.size + 1 := by simp
  clear hb0 hm0 hN hQ hal
  go_enter Try.func15, Try.ntmps15
  go_wp2_with fail
  refine (hang_any _ _ _ _).mono ?_
  rintro e w1 ⟨rfl, rfl⟩
  generalize w.alloc (.cells #[.slice pn nn cn, .int .i64 0, .int .u32 0] 159) = W1 at HB0 HM0 HAL hz1 ⊢
  go_wp2_with fail
  refine (made_ok (words := 10) (turns := 3) (by omega) (by omega) (by omega) _ HB0.out HM0.out).mono ?_
  rintro e W2 ⟨t, p, q, c, d, rfl, HT, HC, HD, HE, HOK, HW9, HT3, -, HH⟩
  have HQ2 := Lib.hid (HQ.out.below (HAL.out.trans (hold_below HH.out (by omega))))
  have HWA := Lib.hid (HAL.out.trans (hold_below HH.out (by omega)))
  have hwA : w.heap.size ≤ W2.heap.size := by have := HH.out.size; omega
  clear HB0 HM0 HAL HQ HH hz1
  have HT2 := Lib.hid (HT.out.below (below1 W2 (.cells #[.slice p t.words.length c, .slice q t.turns.length d, .int .i64 t.breath] 25)))
  have HQ3 := Lib.hid (HQ2.out.below (below1 W2 (.cells #[.slice p t.words.length c, .slice q t.turns.length d, .int .i64 t.breath] 25)))
  have HBX := Lib.hid (heap_last W2 (.cells #[.slice p t.words.length c, .slice q t.turns.length d, .int .i64 t.breath] 25))
  obtain ⟨T, hTT⟩ : ∃ T, T = W2.heap.size := ⟨_, rfl⟩
  have hz3 : (W2.alloc (.cells #[.slice p t.words.length c, .slice q t.turns.length d, .int .i64 t.breath] 25)).heap.size = T + 1 := by rw [hTT]; simp
  have HW3 := Lib.hid (HWA.out.trans ((below1 W2 (.cells #[.slice p t.words.length c, .slice q t.turns.length d, .int .i64 t.breath] 25)).mono hwA))
  rw [← hTT] at HBX hwA
  clear HT HQ2 HWA
  go_wp2_with fail
  rw [← hTT]
  clear hTT
  generalize W2.alloc (.cells #[.slice p t.words.length c, .slice q t.turns.length d, .int .i64 t.breath] 25) = W3 at HT2 HQ3 HBX hz3 HW3 ⊢
  refine (hang_any _ _ _ _).mono ?_
  rintro e w4 ⟨rfl, rfl⟩
  obtain ⟨hbq, hmq⟩ := hang_made pq nq cq hnq W3 HQ3.out
  have HBQ := Lib.hid hbq
  have HMQ := Lib.hid hmq
  have ha4 := below1 W3 (.cells #[.slice pq nq cq, .int .i64 0, .int .u32 0] 159)
  have HT4 := Lib.hid (HT2.out.below ha4)
  have HBX4 := Lib.hid ((ha4.block T (by omega)).trans HBX.out)
  have hz4 : (W3.alloc (.cells #[.slice pq nq cq, .int .i64 0, .int .u32 0] 159)).heap.size = T + 2 := by simp; omega
  have hB : W3.heap.size = T + 1 := hz3
  have HTT := Lib.hid (show ∀ W, Below (T + 1) W3 W → TxAt W t p q from fun W h => HT2.out.below (by rw [hB]; exact h))
  have HB34 := Lib.hid (show Below (T + 1) W3 (W3.alloc (.cells #[.slice pq nq cq, .int .i64 0, .int .u32 0] 159)) by rw [← hB]; exact ha4)
  rw [hB] at HBQ
  rw [hB]
  clear hbq hmq ha4 HQ3
  generalize W3.alloc (.cells #[.slice pq nq cq, .int .i64 0, .int .u32 0] 159) = W4 at HBQ HMQ HT4 HBX4 hz4 HB34 ⊢
  obtain ⟨k0, k1, k2⟩ := blk3 HBX4.out
  have hn9 : t.words.length ≤ 1000000 := by have := HW9.out; omega
  have hn3 : t.turns.length ≤ 1000000 := by have := HT3.out; omega
  have HPW := Lib.hid (show ∀ b o, p = some ⟨b, o, none⟩ → b ≠ T + 1 from fun b o e => by
    rcases HT2.out.words with h | ⟨b', o', e', l', _⟩
    · have := HOK.out.n1; rw [h] at this; simp at this
    · rw [e'] at e; injection e with e; injection e with e _ _; omega)
  clear hB hz3 HT2 HBX W2
  go_wp2_with fail
  refine (Even_any t hn9 hn3 p q c d HC.out _ HT4.out).mono ?_
  rintro e W5 ⟨v, rfl, hown, hB5⟩
  obtain ⟨pf, cf, rfl, hF, -, -⟩ := own_rd hown rfl
  have HF := Lib.hid hF
  have HEV := Lib.hid (evR_law HOK.out HE.out)
  obtain ⟨F, n, er, hFe⟩ : ∃ F n er, evR t = (F, n, er) := ⟨_, _, _, rfl⟩
  rw [hFe] at HF HEV ⊢
  dsimp only at HF HEV ⊢
  have HBQ5 := Lib.hid (HBQ.out.below (hB5.mono (by omega)))
  have HB35 := Lib.hid (HB34.out.trans (hB5.mono (by omega)))
  have HBX5 := Lib.hid ((hB5.block T (by omega)).trans HBX4.out)
  have HMQ5 := Lib.hid (show nq ≠ 0 → ∀ mb mo, pq = some ⟨mb, mo, none⟩ → mb < W5.heap.size from fun h mb mo e => Nat.lt_of_lt_of_le (HMQ.out h mb mo e) hB5.size)
  have HT5 := Lib.hid (HT4.out.below hB5)
  have hz5 : T + 2 ≤ W5.heap.size := by have := hB5.size; omega
  clear hown hF hFe hB5 HBQ HMQ HT4 HBX4 hz4 HB34 k0 k1 k2
  obtain ⟨k0, k1, k2⟩ := blk3 HBX5.out
  rcases HEV.out with ⟨rfl, hno⟩ | ⟨rfl, he1, he2, he3, he4, he5⟩
  · have HNO := Lib.hid hno
    clear hno HEV
    go_wp2_with fail
    go_loopw [53] (fun i wr => ∃ k : Nat, k ≤ 10 ∧ i = .int .i64 k ∧ Hid (BellOk wr (T + 1) pq nq cq) ∧ Hid (Hold (fun k => k ≠ T + 1) W5 wr)) (fun i _ => 10 - (intOf i).toNat)
    case atStart => exact ⟨0, by omega, rfl, HBQ5, Lib.hid (Hold.refl _ _)⟩
    case round =>
      obtain ⟨w3, rfl⟩ : ∃ w3 : World, w3 = wr := ⟨_, rfl⟩
      obtain ⟨k, hk, rfl, HB3, HH3⟩ := hrel
      have hz3 := HH3.out.size
      have HTx := Lib.hid (HTT.out _ (HB35.out.trans (hold_below HH3.out (by omega))))
      have HBX := Lib.hid ((HH3.out.same T (show T ≠ T + 1 by omega) (by omega)).trans HBX5.out)
      obtain ⟨k0, k1, k2⟩ := blk3 HBX.out
      by_cases hlt : k < 10
      · have hlt' : (k : Int) < 10 := by omega
        go_wp2_with fail
        refine (tried_any (T + 1) pq nq cq t.words HOK.out.n1 (by have := HW9.out; omega) (.slice q t.turns.length d) (.int .i64 t.breath) p c _ HB3.out (fun h mb mo e => Nat.lt_of_lt_of_le (HMQ5.out h mb mo e) hz3) HTx.out.words HPW.out).mono ?_
        rintro e wA ⟨v, o, rfl, HO, HPO, HBA, HHA⟩
        obtain ⟨po, co, rfl, hio, -, -⟩ := own_rd HO.out rfl
        have HIO := Lib.hid hio
        have hzA := HHA.out.size
        have HHB := Lib.hid (HH3.out.trans HHA.out)
        have HTA := Lib.hid (HTT.out _ (HB35.out.trans (hold_below HHB.out (by omega))))
        have HBXA := Lib.hid ((HHB.out.same T (show T ≠ T + 1 by omega) (by omega)).trans HBX5.out)
        have hol : o.length ≤ 100000 := by have := parts_len' HPO.out; have := HW9.out; omega
        clear hio k0 k1 k2 HO
        obtain ⟨k0, k1, k2⟩ := blk3 HBXA.out
        go_wp2_with fail
        refine (sound_any t HOK.out p q c d HC.out o hol po co _ HTA.out HIO.out).mono ?_
        rintro e wS ⟨rfl, hBS⟩
        rw [sound_ok HPO.out]
        have HBXS := Lib.hid ((hBS.block T (by omega)).trans HBXA.out)
        have HTS := Lib.hid (HTA.out.below hBS)
        have HIS := Lib.hid (HIO.out.below hBS)
        have hzS := hBS.size
        have HEND := Lib.hid (show ∀ W', Below wS.heap.size wS W' → Hid (BellOk W' (T + 1) pq nq cq) ∧ Hid (Hold (fun k => k ≠ T + 1) W5 W') from fun W' h => ⟨Lib.hid (HBA.out.below (join hBS h)), Lib.hid (HHB.out.trans (Hold.below (join hBS h)))⟩)
        clear hBS k0 k1 k2
        obtain ⟨k0, k1, k2⟩ := blk3 HBXS.out
        cases hs : okFrom t.right 0 o with
        | false =>
          clear hs
          go_wp2
          go_roundw
          case rel => exact ⟨k + 1, by omega, by go_num, HEND.out _ (Below.refl _ _)⟩
          case measure => simp [intOf]; omega
        | true =>
          exact (HNO.out o HPO.out hs).elim
      · have hkk : k = 10 := by omega
        subst hkk
        clear hlt hk
        go_wp2_with fail
        refine (awake_any _).mono ?_
        rintro e w9 ⟨rfl, hB9⟩
        have HBF := Lib.hid (HW3.out.trans (((HB35.out.trans (hold_below HH3.out (by omega))).mono (show w.heap.size ≤ T + 1 by omega)).trans (hB9.mono (by omega))))
        clear hB9
        go_wp2
        go_ret
        exact ⟨rfl, HBF.out⟩
  · have HEX := Lib.hid he5
    have HE4 := Lib.hid he4
    have hF10 : F.length ≤ 100000 := by have := parts_len' he1; have := HW9.out; omega
    have hsF : soundB t F = true := by rw [sound_ok he1]; exact he2
    have HSF := Lib.hid hsF
    have HPF := Lib.hid he1
    have HE3 := Lib.hid he3
    clear he1 he2 he3 he4 he5 hsF HEV
    go_wp2_with fail
    refine (sound_any t HOK.out p q c d HC.out F hF10 pf cf _ HT5.out HF.out).mono ?_
    rintro e wB ⟨rfl, hBB⟩
    rw [HSF.out]
    have HTB := Lib.hid (HT5.out.below hBB)
    have HIB := Lib.hid (HF.out.below hBB)
    have HBXB := Lib.hid ((hBB.block T (by omega)).trans HBX5.out)
    have HBB := Lib.hid hBB
    have hzB := hBB.size
    clear hBB k0 k1 k2
    obtain ⟨k0, k1, k2⟩ := blk3 HBXB.out
    go_wp2_with fail
    refine (evener1_any t HOK.out p q c d HC.out F HPF.out pf cf T _ HTB.out HIB.out HBXB.out).mono ?_
    rintro e wC ⟨rfl, hBC⟩
    rw [HE3.out]
    have HBXC := Lib.hid ((hBC.block T (by omega)).trans HBXB.out)
    have HBC := Lib.hid (join HBB.out hBC)
    have hgt : ¬ n > t.breath := by have := HE4.out; omega
    have hnn1 : (n != n) = false := by simp
    clear hBC k0 k1 k2
    obtain ⟨k0, k1, k2⟩ := blk3 HBXC.out
    go_wp2_with fail
    go_loopw [53] (fun i wr => ∃ k : Nat, k ≤ 10 ∧ i = .int .i64 k ∧ Hid (BellOk wr (T + 1) pq nq cq) ∧ Hid (Hold (fun k => k ≠ T + 1) W5 wr)) (fun i _ => 10 - (intOf i).toNat)
    case atStart => exact ⟨0, by omega, rfl, Lib.hid (HBQ5.out.below HBC.out), Lib.hid (Hold.below HBC.out)⟩
    case round =>
      obtain ⟨w3, rfl⟩ : ∃ w3 : World, w3 = wr := ⟨_, rfl⟩
      obtain ⟨k, hk, rfl, HB3, HH3⟩ := hrel
      have hz3 := HH3.out.size
      have HTx := Lib.hid (HTT.out _ (HB35.out.trans (hold_below HH3.out (by omega))))
      have HBX := Lib.hid ((HH3.out.same T (show T ≠ T + 1 by omega) (by omega)).trans HBX5.out)
      obtain ⟨k0, k1, k2⟩ := blk3 HBX.out
      by_cases hlt : k < 10
      · have hlt' : (k : Int) < 10 := by omega
        go_wp2_with fail
        refine (tried_any (T + 1) pq nq cq t.words HOK.out.n1 (by have := HW9.out; omega) (.slice q t.turns.length d) (.int .i64 t.breath) p c _ HB3.out (fun h mb mo e => Nat.lt_of_lt_of_le (HMQ5.out h mb mo e) hz3) HTx.out.words HPW.out).mono ?_
        rintro e wA ⟨v, o, rfl, HO, HPO, HBA, HHA⟩
        obtain ⟨po, co, rfl, hio, -, -⟩ := own_rd HO.out rfl
        have HIO := Lib.hid hio
        have hzA := HHA.out.size
        have HHB := Lib.hid (HH3.out.trans HHA.out)
        have HTA := Lib.hid (HTT.out _ (HB35.out.trans (hold_below HHB.out (by omega))))
        have HBXA := Lib.hid ((HHB.out.same T (show T ≠ T + 1 by omega) (by omega)).trans HBX5.out)
        have hol : o.length ≤ 100000 := by have := parts_len' HPO.out; have := HW9.out; omega
        clear hio k0 k1 k2 HO
        obtain ⟨k0, k1, k2⟩ := blk3 HBXA.out
        go_wp2_with fail
        refine (sound_any t HOK.out p q c d HC.out o hol po co _ HTA.out HIO.out).mono ?_
        rintro e wS ⟨rfl, hBS⟩
        rw [sound_ok HPO.out]
        have HBXS := Lib.hid ((hBS.block T (by omega)).trans HBXA.out)
        have HTS := Lib.hid (HTA.out.below hBS)
        have HIS := Lib.hid (HIO.out.below hBS)
        have hzS := hBS.size
        have HEND := Lib.hid (show ∀ W', Below wS.heap.size wS W' → Hid (BellOk W' (T + 1) pq nq cq) ∧ Hid (Hold (fun k => k ≠ T + 1) W5 W') from fun W' h => ⟨Lib.hid (HBA.out.below (join hBS h)), Lib.hid (HHB.out.trans (Hold.below (join hBS h)))⟩)
        clear hBS k0 k1 k2
        obtain ⟨k0, k1, k2⟩ := blk3 HBXS.out
        cases hs : okFrom t.right 0 o with
        | false =>
          clear hs
          go_wp2
          go_roundw
          case rel => exact ⟨k + 1, by omega, by go_num, HEND.out _ (Below.refl _ _)⟩
          case measure => simp [intOf]; omega
        | true =>
          have hsp := HEX.out o HPO.out hs
          clear hs
          go_wp2_with fail
          refine (evener1_any t HOK.out p q c d HC.out o HPO.out po co T _ HTS.out HIS.out HBXS.out).mono ?_
          rintro e wL ⟨rfl, hBL⟩
          have HIL := Lib.hid (HIS.out.below hBL)
          have HTL := Lib.hid (HTS.out.below hBL)
          have HBXL := Lib.hid ((hBL.block T (by omega)).trans HBXS.out)
          have HBL := Lib.hid hBL
          have hzL := hBL.size
          have HCL := Lib.hid (fun W (h : Below wS.heap.size wS W) => evener1_any t HOK.out p q c d HC.out o HPO.out po co T W (HTS.out.below h) (HIS.out.below h) ((h.block T (by omega)).trans HBXS.out))
          obtain ⟨lo, hlo⟩ : ∃ lo, lo = longGo t 0 o := ⟨_, rfl⟩
          rw [← hlo] at hsp HCL ⊢
          obtain ⟨hs1, hs2⟩ := hsp
          have hs3 : ¬ lo < n := by omega
          clear hlo hBL k0 k1 k2
          obtain ⟨k0, k1, k2⟩ := blk3 HBXL.out
          by_cases hq : lo = n
          · have hs4 : ¬ (o.length : Int) < (F.length : Int) := by have := hs2 hq; omega
            have hq1 : (lo == n) = true := by simpa using hq
            clear hs1 hs2
            go_wp2_with fail
            refine (HCL.out _ HBL.out).mono ?_
            rintro e wM ⟨rfl, hBM⟩
            have HBM := Lib.hid (join HBL.out hBM)
            clear hBM
            go_wp2
            go_roundw
            case rel => exact ⟨k + 1, by omega, by go_num, HEND.out _ HBM.out⟩
            case measure => simp [intOf]; omega
          · have hq1 : (lo == n) = false := by simpa using hq
            clear hs1 hs2
            go_wp2_with fail
            refine (HCL.out _ HBL.out).mono ?_
            rintro e wM ⟨rfl, hBM⟩
            have HBM := Lib.hid (join HBL.out hBM)
            clear hBM
            go_wp2
            go_roundw
            case rel => exact ⟨k + 1, by omega, by go_num, HEND.out _ HBM.out⟩
            case measure => simp [intOf]; omega
      · have hkk : k = 10 := by omega
        subst hkk
        clear hlt hk
        go_wp2_with fail
        refine (awake_any _).mono ?_
        rintro e w9 ⟨rfl, hB9⟩
        have HBF := Lib.hid (HW3.out.trans (((HB35.out.trans (hold_below HH3.out (by omega))).mono (show w.heap.size ≤ T + 1 by omega)).trans (hB9.mono (by omega))))
        clear hB9
        go_wp2
        go_ret
        exact ⟨rfl, HBF.out⟩
end Go.Proofs.Ytadnggecnjdhiaa
namespace Go.Proofs.Ytadnggecnjdhiaa
open Go.ChangeShapes Go.WideShapes Go.ChangeAt Go.RowKit Go.Joins Tx
set_option linter.unusedVariables false
set_option linter.unusedSimpArgs false

set_option maxRecDepth 100000 in
theorem TextEvener_lifted (os : Os) (started : os.Started) (H : Type) (enc : TypeId × Value → H) :
    ReturnsInHanded {} Try.checked os 15 .any (Rows.textEvenerSpec.pre6 enc Try.prog Try.f15 Rows.textEvenerRow.domain false) (Rows.textEvenerSpec.post enc Try.prog Try.f15 false true false false) := by
  refine returnsInHanded_of_change (C := Try.checked) Try.own started (by kernel_rfl) Try.func15
    (ChangeSpec.witness6 (enc := enc) (C := Try.checked) false ⟨#[], #[.slice none 0 0, .slice none 0 0], []⟩ 8 (by kernel_rfl) (by kernel_rfl) (by kernel_rfl) (by kernel_rfl)) ?_
  intro W base args ds gs before hval0 hW hcnd _
  have hval : ∀ (j : Nat) t v, Try.f15.params[j]? = some t → args[j]? = some v → Value.okWide Try.prog W .any base t v := hval0
  have hW' := hW
  obtain ⟨p, q, hA0, hV, rfl, hfz, hnd⟩ := hW
  have hA : DataW.TrodAll enc Try.prog W 0 (fun _ => true) true Try.f15.params.toList args.toList ds p := hA0
  rw [Try.params15] at hA hval
  obtain ⟨v0, vs0, d0, ds0, p0, q0, hargs, rfl, rfl, h0, r0⟩ := trodAll_cons hA
  obtain ⟨v1, vs1, d1, ds1, p1, q1, rfl, rfl, rfl, h1, r1⟩ := trodAll_cons r0
  obtain ⟨rfl, rfl, rfl⟩ := trodAll_nil r1
  obtain rfl : args = #[v0, v1] := by cases args; simp_all
  obtain ⟨rfl, rfl⟩ := trodVars_none hV
  have lt0 := lt_of_trod h0
  have k0 := h0
  obtain ⟨a0, n0, c0, e0, l0, hB0⟩ := bytes_of_Trod (fun _ => rfl) (hval 0 88 v0 rfl rfl) h0
  have lt1 := lt_of_trod h1
  have k1 := h1
  obtain ⟨a1, n1, c1, e1, l1, hB1⟩ := bytes_of_Trod (fun _ => rfl) (hval 1 88 v1 rfl rfl) h1
  clear hA0 hval0
  subst e0
  subst e1
  refine (TextEvener_any a0 a1 n0 c0 n1 c1 l0 l1 W hB0 hB1).mono fun e W' ⟨he, bel⟩ => ?_
  subst he
  exact ⟨_, rfl, _, _, _, [], _, [], hW', trodAll_mk1 (shut_bool Try.underlying4 _), (trodAll_cons_mk (Below.trod Try.laidOut (by kernel_rfl) (of_decide_eq_true (by kernel_rfl)) k0 bel lt0) (trodAll_cons_mk (Below.trod Try.laidOut (by kernel_rfl) (of_decide_eq_true (by kernel_rfl)) k1 bel lt1) trodAll_mk0)), rfl, bel.frame _, fun h => by cases h⟩

theorem TextEvener_holds : Rows.TextEvenerSaid :=
  OpenClaim.holds_of_wide 15 Try.f15 rfl rfl rfl rfl rfl rfl rfl ⟨rfl, rfl, rfl, rfl, rfl⟩ rfl rfl rfl rfl rfl (by kernel_rfl) Try.func15 (by kernel_rfl)
    (of_decide_eq_true (by kernel_rfl)) (by unfold Func.isWrapper; first | (rw [if_pos (by decide +kernel)]; kernel_rfl) | (rw [if_neg (by decide +kernel)]; exact ⟨rfl, rfl⟩))
    (fun os started H enc _ => TextEvener_lifted os started H enc)
end Go.Proofs.Ytadnggecnjdhiaa
