/- oyezlaw02.TextMore, for any input. No condition. -/
import Derived.Test.YtadnggecnjdhiaaZl
import Derived.Shelf.RegionOpenPlain
import Derived.Deep.RegionLaw
namespace Go.Proofs.Ytadnggecnjdhiaa
open Tx
set_option linter.unusedSimpArgs false
set_option linter.unusedVariables false

/-- the longest breath of a reading that begins at a place -/
def longGo (t : Text) : Nat → List Int → Int
  | _, [] => 0
  | a, x :: l => max (t.syl a (a + x.toNat)) (longGo t (a + x.toNat) l)
/-- what Even tries: breaths of at most so many syllables -/
def evGo (t : Text) : List Nat → List Int × Int × Int
  | [] => ([], 0, 6)
  | m :: ms => if (fewest (t.within (m : Nat)) t.words.length).2 = 0 then ((fewest (t.within (m : Nat)) t.words.length).1, (m : Int), 0) else evGo t ms
def evR (t : Text) : List Int × Int × Int := if t.err = 0 then evGo t (List.range' 1 t.breath.toNat) else ([], 0, t.err)
theorem okFrom_within (t : Text) (m : Int) (hm : 0 ≤ m) : ∀ (l : List Int) (a : Nat), okFrom (t.within m) a l = (okFrom t.right a l && decide (longGo t a l ≤ m))
  | [], a => by simp [okFrom, longGo, hm]
  | x :: l, a => by
    rw [okFrom, okFrom, longGo, okFrom_within t m hm l]
    unfold Tx.Text.within
    rw [Bool.eq_iff_iff]
    simp only [Bool.and_eq_true, decide_eq_true_eq]
    constructor
    · rintro ⟨⟨h1, h2⟩, h3, h4⟩
      exact ⟨⟨h2, h3⟩, by omega⟩
    · rintro ⟨⟨h2, h3⟩, h4⟩
      exact ⟨⟨by omega, h2⟩, h3, by omega⟩
theorem syl_pos {t : Text} (hs : ∀ x ∈ t.words, 1 ≤ x.syl ∧ x.syl ≤ 9) {a b : Nat} (hab : a < b) (hb : b ≤ t.words.length) : 1 ≤ t.syl a b := by
  unfold Text.syl
  have hl : ((slice t.words a b).map (·.syl)).length = b - a := by simp [slice]; omega
  have := isum_ge (l := (slice t.words a b).map (·.syl)) (fun x hx => by
    obtain ⟨y, hy, rfl⟩ := List.mem_map.1 hx
    exact (hs y (List.mem_of_mem_drop (List.mem_of_mem_take hy))).1)
  omega
theorem longGo_pos {t : Text} (hs : ∀ x ∈ t.words, 1 ≤ x.syl ∧ x.syl ≤ 9) {l : List Int} (hl : Parts t.words.length l) (h1 : 1 ≤ t.words.length) : 1 ≤ longGo t 0 l := by
  cases l with
  | nil => have := hl.2; simp [isum] at this; omega
  | cons x l =>
    rw [longGo]
    rw [parts_cons] at hl
    have := parts_pos hl.2
    have := syl_pos hs (a := 0) (b := 0 + x.toNat) (by omega) (by omega)
    omega
theorem longGo_breath {t : Text} (hb : 0 ≤ t.breath) : ∀ (l : List Int) (a : Nat), okFrom t.right a l = true → longGo t a l ≤ t.breath
  | [], a, _ => hb
  | x :: l, a, h => by
    rw [okFrom, Bool.and_eq_true] at h
    have h2 := longGo_breath hb l _ h.2
    have h1 := h.1
    unfold Text.right Text.isLong at h1
    simp only [Bool.and_eq_true, Bool.not_eq_true', decide_eq_false_iff_not] at h1
    rw [longGo]
    omega
theorem evGo_spec (t : Text) : ∀ (ms : List Nat), (evGo t ms = ([], 0, 6) ∧ ∀ m ∈ ms, (fewest (t.within (m : Nat)) t.words.length).2 ≠ 0) ∨
    ∃ pre m post, ms = pre ++ m :: post ∧ evGo t ms = ((fewest (t.within (m : Nat)) t.words.length).1, (m : Int), 0) ∧ (fewest (t.within (m : Nat)) t.words.length).2 = 0 ∧ ∀ k ∈ pre, (fewest (t.within (k : Nat)) t.words.length).2 ≠ 0
  | [] => .inl ⟨rfl, by simp⟩
  | m :: ms => by
    rw [evGo]
    by_cases h : (fewest (t.within (m : Nat)) t.words.length).2 = 0
    · rw [if_pos h]
      exact .inr ⟨[], m, ms, rfl, rfl, h, by simp⟩
    · rw [if_neg h]
      rcases evGo_spec t ms with ⟨h1, h2⟩ | ⟨pre, k, post, h1, h2, h3, h4⟩
      · exact .inl ⟨h1, fun k hk => by rcases List.mem_cons.1 hk with rfl | hk; exact h; exact h2 k hk⟩
      · exact .inr ⟨m :: pre, k, post, by rw [h1]; rfl, h2, h3, fun j hj => by rcases List.mem_cons.1 hj with rfl | hj; exact h; exact h4 j hj⟩
/-- what Even tells, as its law asks -/
theorem evR_spec {t : Text} (he : t.err = 0) (hs : ∀ x ∈ t.words, 1 ≤ x.syl ∧ x.syl ≤ 9) (hn1 : 1 ≤ t.words.length) (hn : t.words.length ≤ 12) (hb : 1 ≤ t.breath) :
    ((evR t).2.2 = 6 ∧ (evR t).1 = [] ∧ ∀ l, Parts t.words.length l → okFrom t.right 0 l = true → False) ∨
    ((evR t).2.2 = 0 ∧ Parts t.words.length (evR t).1 ∧ okFrom t.right 0 (evR t).1 = true ∧ longGo t 0 (evR t).1 = (evR t).2.1 ∧ 1 ≤ (evR t).2.1 ∧ (evR t).2.1 ≤ t.breath ∧
      ∀ l, Parts t.words.length l → okFrom t.right 0 l = true → (evR t).2.1 ≤ longGo t 0 l ∧ (longGo t 0 l = (evR t).2.1 → (evR t).1.length ≤ l.length)) := by
  unfold evR
  rw [if_pos he]
  have hfr := fun m : Nat => fewest_rights (may := t.within (m : Nat)) hn1 hn
  have hno : ∀ (m : Nat) l, Parts t.words.length l → okFrom t.right 0 l = true → longGo t 0 l ≤ m → l ∈ rights (t.within (m : Nat)) t.words.length := fun m l h1 h2 h3 => by
    rw [mem_rights]
    exact ⟨h1, by rw [okFrom_within t _ (by omega), h2]; simpa using h3⟩
  have hnot : ∀ (m : Nat), (fewest (t.within (m : Nat)) t.words.length).2 ≠ 0 → ∀ l, Parts t.words.length l → okFrom t.right 0 l = true → ¬ longGo t 0 l ≤ m := fun m hm l h1 h2 h3 => by
    apply hm
    rw [(hfr m).2.2.2]
    intro e
    have := hno m l h1 h2 h3
    rw [e] at this; simp at this
  rcases evGo_spec t (List.range' 1 t.breath.toNat) with ⟨h1, h2⟩ | ⟨pre, m, post, h1, h2, h3, h4⟩
  · left
    rw [h1]
    refine ⟨rfl, rfl, fun l hl ho => ?_⟩
    refine hnot t.breath.toNat (h2 _ (by rw [List.mem_range'_1]; omega)) l hl ho ?_
    have := longGo_breath (by omega) l 0 ho
    omega
  · right
    rw [h2]
    have hin := (hfr m).2.2.1 h3
    obtain ⟨g1, g2⟩ := mem_rights.1 hin
    rw [okFrom_within t _ (by omega), Bool.and_eq_true, decide_eq_true_eq] at g2
    have hmem : m ∈ List.range' 1 t.breath.toNat := by rw [h1]; simp
    rw [List.mem_range'_1] at hmem
    have hlow : ∀ l, Parts t.words.length l → okFrom t.right 0 l = true → (m : Int) ≤ longGo t 0 l := fun l hl ho => by
      have hp := longGo_pos hs hl hn1
      have hlb := longGo_breath (by omega) l 0 ho
      rcases Nat.lt_or_ge (longGo t 0 l).toNat m with hlt | hge
      · exfalso
        have hk : (longGo t 0 l).toNat ∈ pre := by
          have hlen : m = 1 + pre.length := by
            have e : (List.range' 1 t.breath.toNat)[pre.length]? = some m := by rw [h1]; simp
            rw [List.getElem?_range'] at e
            · simp at e; omega
            · have := congrArg List.length h1; simp at this; omega
          have e2 : (List.range' 1 t.breath.toNat)[(longGo t 0 l).toNat - 1]? = some (longGo t 0 l).toNat := by
            rw [List.getElem?_range' (by omega)]
            congr 1; omega
          rw [h1, List.getElem?_append_left (by omega)] at e2
          exact List.mem_of_getElem? e2
        exact hnot _ (h4 _ hk) l hl ho (by omega)
      · omega
    refine ⟨rfl, g1, g2.1, ?_, by show (1 : Int) ≤ (m : Int); omega, by show (m : Int) ≤ _; omega, fun l hl ho => ⟨hlow l hl ho, fun e => ?_⟩⟩
    · have := hlow _ g1 g2.1
      have := g2.2
      dsimp only at *
      omega
    · have hl2 := hno m l hl ho (by dsimp only at e; omega)
      dsimp only
      rw [(hfr m).1]
      exact (bestLen_spec _ 0 (rights_ne hn1)).2.1 l hl2
end Go.Proofs.Ytadnggecnjdhiaa
set_option linter.unusedSimpArgs false
set_option linter.unusedVariables false
namespace Go.Proofs.Ytadnggecnjdhiaa
open Go.RowKit Tx
attribute [local go_sem] Oper.semAt_some

theorem blk4 {W : World} {b : Nat} {v0 v1 v2 v3 : Value} {ty : TypeId} {fr : Nat × Nat} (h : W.heap[b]? = some (.cells #[v0, v1, v2, v3] ty fr)) : W.cell? ⟨b, 0, none⟩ = some v0 ∧ W.cell? ⟨b, 1, none⟩ = some v1 ∧ W.cell? ⟨b, 2, none⟩ = some v2 ∧ W.cell? ⟨b, 3, none⟩ = some v3 :=
  ⟨blk_cells h 0 _ rfl, blk_cells h 1 _ rfl, blk_cells h 2 _ rfl, blk_cells h 3 _ rfl⟩
theorem parts1_any (u : Turn) (x : Int) (A : Nat) (w : World) (hA : w.heap[A]? = some (.cells #[.int .i64 x] 3 (0, 0))) :
    Calls Try.prog 171 #[.agg #[.int .i64 u.word, .int .i64 u.lo, .int .i64 u.hi], .pointer (some ⟨A, 0, none⟩)] w fun e w' => e = .returned (.bool (u.parts x)) ∧ Below w.heap.size w w' := by
  have hAl := (Array.getElem?_eq_some_iff.1 hA).1
  have c0 := blk_cells hA 0 _ rfl
  obtain ⟨uw, ul, uh⟩ := u
  unfold Turn.parts
  dsimp only
  clear hA
  by_cases h1 : uw < x
  · by_cases h2 : x ≤ ul
    · go_enter Try.func171, Try.ntmps171
      go_wp2
      go_ret
      exact ⟨ret_bool (by simp [h1, h2]), below1 _ _⟩
    · by_cases h3 : uh < x
      · by_cases h4 : x ≤ uw
        · exact absurd h1 (by omega)
        · go_enter Try.func171, Try.ntmps171
          go_wp2
          go_ret
          exact ⟨ret_bool (by simp [h1, h2, h3, h4] <;> omega), below1 _ _⟩
      · go_enter Try.func171, Try.ntmps171
        go_wp2
        go_ret
        exact ⟨ret_bool (by simp [h1, h2, h3] <;> omega), below1 _ _⟩
  · by_cases h3 : uh < x
    · have h4 : x ≤ uw := by omega
      go_enter Try.func171, Try.ntmps171
      go_wp2
      go_ret
      exact ⟨ret_bool (by simp [h1, h3, h4] <;> omega), below1 _ _⟩
    · go_enter Try.func171, Try.ntmps171
      go_wp2
      go_ret
      exact ⟨ret_bool (by simp [h1, h3] <;> omega), below1 _ _⟩
theorem entered_parts1 : Entered 171 := fun args W => by kernel_rfl
theorem parts_any (ts : List Turn) (hl : ts.length ≤ 1000000) (x : Int) (pt : Option Addr) (ct : Nat) (v0 v2 v3 : Value) (w : World) (hT : Tns w pt ts) :
    Calls Try.prog 160 #[.agg #[v0, .slice pt ts.length ct, v2, v3], .int .i64 x] w fun e w' => e = .returned (.bool (ts.any fun u => u.parts x)) ∧ Below w.heap.size w w' := by
  have hmf := mf
  have hB3 : Below w.heap.size w ((w.alloc (.cells #[v0, .slice pt ts.length ct, v2, v3] 125)).alloc (.cells #[.int .i64 x] 3)) := (below1 _ _).alloc (by simp) _
  have hx : ((w.alloc (.cells #[v0, .slice pt ts.length ct, v2, v3] 125)).alloc (.cells #[.int .i64 x] 3)).heap[w.heap.size + 1]? = some (.cells #[.int .i64 x] 3 (0, 0)) := by
    have := heap_last (w.alloc (.cells #[v0, .slice pt ts.length ct, v2, v3] 125)) (.cells #[.int .i64 x] 3)
    rwa [World.size_alloc] at this
  have hcf := containsFuncT 171 entered_parts1 (.pointer (some ⟨w.heap.size + 1, 0, none⟩)) (fun u => u.parts x) ts pt ct _ hl (hT.below hB3) (fun W h u hu => parts1_any u x (w.heap.size + 1) W ((h.block _ (by simp)).trans hx))
  obtain ⟨kv, hkv⟩ : ∃ kv, kv = ts.any (fun u => u.parts x) := ⟨_, rfl⟩
  rw [← hkv] at hcf ⊢
  have HCF := Lib.hid hcf
  have HB3 := Lib.hid hB3
  clear hcf hx hB3 hT hkv
  go_enter Try.func160, Try.ntmps160
  go_wp2_with fail
  refine HCF.out.mono ?_
  rintro e w5 ⟨rfl, hB5⟩
  go_wp2
  go_ret
  exact ⟨rfl, join HB3.out hB5⟩
set_option maxHeartbeats 800000 in
theorem sureB_any (t : Text) (pw pt : Option Addr) (cw ct : Nat) (mf : Value) (a b : Nat) (hab : a ≤ b) (hb : b ≤ t.words.length) (w : World) (hW : WkAt w t pw pt cw) :
    Calls Try.prog 128 #[.agg #[.slice pw t.words.length cw, .slice pt t.turns.length ct, .int .i64 t.breath, mf], .int .i64 a, .int .i64 b] w fun e w' => e = .returned (.bool (t.sureB a b)) ∧ Below w.heap.size w w' := by
  have HR := Lib.hid (fun W (h : Below w.heap.size w W) => right_any t pw pt cw ct mf a b hab hb W (hW.below h))
  have hm6 := hW.ok.m6
  have HP := Lib.hid (fun (x : Int) W (h : Below w.heap.size w W) => parts_any t.turns (by omega) x pt ct (.slice pw t.words.length cw) (.int .i64 t.breath) mf W (hW.at_.turns.below h))
  have hsz : t.sureB a b = (t.right a b && !(t.turns.any fun u => u.parts a) && !(t.turns.any fun u => u.parts b)) := rfl
  clear hW
  obtain ⟨pa, hpa⟩ : ∃ pa, pa = t.turns.any (fun u => u.parts (a : Int)) := ⟨_, rfl⟩
  obtain ⟨pb, hpb⟩ : ∃ pb, pb = t.turns.any (fun u => u.parts (b : Int)) := ⟨_, rfl⟩
  obtain ⟨r, hr⟩ : ∃ r, r = t.right a b := ⟨_, rfl⟩
  have HPA := Lib.hid hpa
  have HPB := Lib.hid hpb
  have HRR := Lib.hid hr
  have HF : Hid (t.sureB a b = (r && !pa && !pb)) := Lib.hid (by rw [hpa, hpb, hr]; exact hsz)
  clear hpa hpb hr hsz
  go_enter Try.func128, Try.ntmps128
  go_wp2_with fail
  refine (HR.out _ (below1 _ _)).mono ?_
  rintro e w5 ⟨rfl, hB5⟩
  rw [← HRR.out]
  obtain ⟨hc5, hf5⟩ := bcell hB5
  have hz5 : w.heap.size < w5.heap.size := by have := hB5.size; simp at this; omega
  have HB5 := Lib.hid (join (below1 _ _) hB5)
  cases r with
  | false =>
    go_wp2
    go_ret
    exact ⟨ret_bool (by rw [HF.out]; rfl), HB5.out⟩
  | true =>
    clear hB5
    go_wp2_with fail
    refine (HP.out a _ HB5.out).mono ?_
    rintro e w6 ⟨rfl, hB6⟩
    rw [← HPA.out]
    obtain ⟨hc6, hf6⟩ := bcell hB6
    have hz6 : w.heap.size < w6.heap.size := by have := hB6.size; omega
    have HB6 := Lib.hid (join HB5.out hB6)
    cases pa with
    | true =>
      go_wp2
      go_ret
      exact ⟨ret_bool (by rw [HF.out]; rfl), HB6.out⟩
    | false =>
      clear hB6
      go_wp2_with fail
      refine (HP.out b _ HB6.out).mono ?_
      rintro e w7 ⟨rfl, hB7⟩
      rw [← HPB.out]
      go_wp2
      go_ret
      exact ⟨ret_bool (by rw [HF.out]; simp), join HB6.out hB7⟩
def spEv1 (pw : Option Addr) (n cw : Nat) (v1 v2 v3 : Value) (a b s m : Int) (r : Bool) : Nat → List Value → Value → World → Prop
  | 0, _, v, _ => v = .agg #[.slice pw n cw, v1, v2, v3]
  | 1, _, v, _ => v = .int .i64 a
  | 2, _, v, _ => v = .int .i64 b
  | 3, _, v, _ => v = .int .i64 s
  | 4, _, v, _ => v = .int .i64 m
  | 5, _, v, _ => v = .bool true
  | 6, _, v, _ => v = .bool true
  | 7, _, v, _ => v = .agg #[.slice pw n cw, v1, v2, v3]
  | 8, _, v, _ => v = .int .i64 a
  | 9, _, v, _ => v = .int .i64 b
  | 10, _, v, _ => v = .bool r
  | 11, _, v, _ => v = .bool r
  | 12, _, v, _ => v = .bool r
  | _, _, _, _ => False
theorem spEv1_stable (pw : Option Addr) (n cw : Nat) (v1 v2 v3 : Value) (a b s m : Int) (r : Bool) : ∀ i L v w w', spEv1 pw n cw v1 v2 v3 a b s m r i L v w → Rs.Gr w w' → spEv1 pw n cw v1 v2 v3 a b s m r i L v w' := by
  intro i L v w w' h hg
  match i with
  | 0 => exact h
  | 1 => exact h
  | 2 => exact h
  | 3 => exact h
  | 4 => exact h
  | 5 => exact h
  | 6 => exact h
  | 7 => exact h
  | 8 => exact h
  | 9 => exact h
  | 10 => exact h
  | 11 => exact h
  | 12 => exact h

def spEv0 (pw : Option Addr) (n cw : Nat) (v1 v2 v3 : Value) (a b s m : Int) (r : Bool) : Nat → List Value → Value → World → Prop
  | 0, _, v, _ => v = .agg #[.slice pw n cw, v1, v2, v3]
  | 1, _, v, _ => v = .int .i64 a
  | 2, _, v, _ => v = .int .i64 b
  | 3, _, v, _ => v = .int .i64 s
  | 4, _, v, _ => v = .int .i64 m
  | 5, _, v, _ => v = .bool false
  | 6, _, v, _ => v = .bool false
  | 7, _, v, _ => v = undef
  | 8, _, v, _ => v = undef
  | 9, _, v, _ => v = undef
  | 10, _, v, _ => v = undef
  | 11, _, v, _ => v = .bool false
  | 12, _, v, _ => v = .bool false
  | _, _, _, _ => False
theorem spEv0_stable (pw : Option Addr) (n cw : Nat) (v1 v2 v3 : Value) (a b s m : Int) (r : Bool) : ∀ i L v w w', spEv0 pw n cw v1 v2 v3 a b s m r i L v w → Rs.Gr w w' → spEv0 pw n cw v1 v2 v3 a b s m r i L v w' := by
  intro i L v w w' h hg
  match i with
  | 0 => exact h
  | 1 => exact h
  | 2 => exact h
  | 3 => exact h
  | 4 => exact h
  | 5 => exact h
  | 6 => exact h
  | 7 => exact h
  | 8 => exact h
  | 9 => exact h
  | 10 => exact h
  | 11 => exact h
  | 12 => exact h

set_option maxHeartbeats 1000000 in
set_option maxRecDepth 100000 in
theorem rightWithin1_any (t : Text) (pw pt : Option Addr) (cw ct : Nat) (mf : Value) (m : Int) (a b : Nat) (hab : a ≤ b) (hb : b ≤ t.words.length) (X Y : Nat) (w : World) (hW : WkAt w t pw pt cw)
    (hX : w.heap[X]? = some (.cells #[.slice pw t.words.length cw, .slice pt t.turns.length ct, .int .i64 t.breath, mf] 125 (0, 0))) (hY : w.heap[Y]? = some (.cells #[.int .i64 m] 3 (0, 0))) :
    Calls Try.prog 162 #[.int .i64 a, .int .i64 b, .pointer (some ⟨X, 0, none⟩), .pointer (some ⟨Y, 0, none⟩)] w fun e w' => e = .returned (.bool (t.within m a b)) ∧ Below w.heap.size w w' := by
  have HRT := Lib.hid (fun W (h : Below w.heap.size w W) => right_any t pw pt cw ct mf a b hab hb W (hW.below h))
  have HSY := Lib.hid (fun W (h : Below w.heap.size w W) => syl_any t hW.ok pw cw (.slice pt t.turns.length ct) (.int .i64 t.breath) mf a b hab hb hW.cap W (hW.at_.words.below h))
  have HX := Lib.hid hX
  have HY := Lib.hid hY
  have HXl := (Array.getElem?_eq_some_iff.1 hX).1
  have HYl := (Array.getElem?_eq_some_iff.1 hY).1
  have hF : t.within m a b = (decide (t.syl a b ≤ m) && t.right a b) := rfl
  have HF := Lib.hid hF
  clear hX hY hW hF
  by_cases hsm : t.syl a b ≤ m
  · have HSM := Lib.hid hsm
    go_enter Try.func162, Try.ntmps162
    go_wp2_with fail
    refine Rs.region_gen 13 [[], [], [], [0, 1, 2], [], [0, 1, 2, 3, 4], [0, 1, 2, 3, 4, 5], [0, 1, 2, 3, 4, 5, 6], [0, 1, 2, 3, 4, 5, 6], [0, 1, 2, 3, 4, 5, 6], [0, 1, 2, 3, 4, 5, 6, 7, 8, 9], [0, 1, 2, 3, 4, 5, 6, 7, 8, 9, 10], [0, 1, 2, 3, 4, 5, 6, 7, 8, 9, 10, 11]] [some 7, some 8, some 9, some 10, some 11, some 12, some 13, some 14, some 15, some 16, some 17, some 18, some 6] (spEv1 pw t.words.length cw (.slice pt t.turns.length ct) (.int .i64 t.breath) mf a b (t.syl a b) m (t.right a b)) (by kernel_rfl) (by kernel_rfl) rfl (spEv1_stable _ _ _ _ _ _ _ _ _ _ _) ?_ ?_
    · refine ⟨fun V w' hG hs => ?_, fun V w' hG hs => ?_, fun V w' hG hs => ?_, fun V w' hG hs => ?_, fun V w' hG hs => ?_, fun V w' hG hs => ?_, fun V w' hG hs => ?_, fun V w' hG hs => ?_, fun V w' hG hs => ?_, fun V w' hG hs => ?_, fun V w' hG hs => ?_, fun V w' hG hs => ?_, fun V w' hG hs => ?_, trivial⟩
      all_goals
        obtain ⟨k0, k1, k2, k3⟩ := blk4 ((hG.block X HXl).trans HX.out)
        have c0 := blk_cells ((hG.block Y HYl).trans HY.out) 0 _ rfl
      · rw [if_pos (by rfl)]
        exact Rs.GrowL.value (v := .agg #[.slice pw t.words.length cw, (.slice pt t.turns.length ct), (.int .i64 t.breath), mf]) (w' := w') (by simp [go_sem, Rs.look, k0, k1, k2, k3]) (Rs.Gr.refl _) rfl
      · rw [if_pos (by rfl)]
        exact Rs.GrowL.value (v := .int .i64 a) (w' := w') (by simp [go_sem, Rs.look]) (Rs.Gr.refl _) rfl
      · rw [if_pos (by rfl)]
        exact Rs.GrowL.value (v := .int .i64 b) (w' := w') (by simp [go_sem, Rs.look]) (Rs.Gr.refl _) rfl
      · have e0 : V 0 = .agg #[.slice pw t.words.length cw, (.slice pt t.turns.length ct), (.int .i64 t.breath), mf] := hs 0 (by simp)
        have e1 : V 1 = .int .i64 a := hs 1 (by simp)
        have e2 : V 2 = .int .i64 b := hs 2 (by simp)
        rw [if_pos (by rfl)]
        refine Rs.GrowL.call (f := 163) (args := #[.agg #[.slice pw t.words.length cw, .slice pt t.turns.length ct, .int .i64 t.breath, mf], .int .i64 a, .int .i64 b]) (by simp [go_sem, Rs.look, e0, e1, e2]) ?_
        refine (HSY.out w' hG).mono ?_
        rintro e w2 ⟨rfl, hB2⟩
        exact ⟨_, rfl, hB2, rfl⟩
      · rw [if_pos (by rfl)]
        exact Rs.GrowL.value (v := .int .i64 m) (w' := w') (by simp [go_sem, Rs.look, c0]) (Rs.Gr.refl _) rfl
      · have e0 : V 0 = .agg #[.slice pw t.words.length cw, (.slice pt t.turns.length ct), (.int .i64 t.breath), mf] := hs 0 (by simp)
        have e1 : V 1 = .int .i64 a := hs 1 (by simp)
        have e2 : V 2 = .int .i64 b := hs 2 (by simp)
        have e3 : V 3 = .int .i64 (t.syl a b) := hs 3 (by simp)
        have e4 : V 4 = .int .i64 m := hs 4 (by simp)
        rw [if_pos (by rfl)]
        exact Rs.GrowL.value (v := .bool true) (w' := w') (by simp [go_sem, Rs.look, e0, e1, e2, e3, e4, hsm]) (Rs.Gr.refl _) rfl
      · have e0 : V 0 = .agg #[.slice pw t.words.length cw, (.slice pt t.turns.length ct), (.int .i64 t.breath), mf] := hs 0 (by simp)
        have e1 : V 1 = .int .i64 a := hs 1 (by simp)
        have e2 : V 2 = .int .i64 b := hs 2 (by simp)
        have e3 : V 3 = .int .i64 (t.syl a b) := hs 3 (by simp)
        have e4 : V 4 = .int .i64 m := hs 4 (by simp)
        have e5 : V 5 = .bool true := hs 5 (by simp)
        rw [if_pos (by rfl)]
        exact Rs.GrowL.value (v := .bool true) (w' := w') (by simp [go_sem, Rs.look, e0, e1, e2, e3, e4, e5]) (Rs.Gr.refl _) rfl
      · have e0 : V 0 = .agg #[.slice pw t.words.length cw, (.slice pt t.turns.length ct), (.int .i64 t.breath), mf] := hs 0 (by simp)
        have e1 : V 1 = .int .i64 a := hs 1 (by simp)
        have e2 : V 2 = .int .i64 b := hs 2 (by simp)
        have e3 : V 3 = .int .i64 (t.syl a b) := hs 3 (by simp)
        have e4 : V 4 = .int .i64 m := hs 4 (by simp)
        have e5 : V 5 = .bool true := hs 5 (by simp)
        have e6 : V 6 = .bool true := hs 6 (by simp)
        rw [if_pos (by simp [Rs.wantB, e6])]
        exact Rs.GrowL.value (v := .agg #[.slice pw t.words.length cw, (.slice pt t.turns.length ct), (.int .i64 t.breath), mf]) (w' := w') (by simp [go_sem, Rs.look, e0, e1, e2, e3, e4, e5, e6, k0, k1, k2, k3]) (Rs.Gr.refl _) rfl
      · have e0 : V 0 = .agg #[.slice pw t.words.length cw, (.slice pt t.turns.length ct), (.int .i64 t.breath), mf] := hs 0 (by simp)
        have e1 : V 1 = .int .i64 a := hs 1 (by simp)
        have e2 : V 2 = .int .i64 b := hs 2 (by simp)
        have e3 : V 3 = .int .i64 (t.syl a b) := hs 3 (by simp)
        have e4 : V 4 = .int .i64 m := hs 4 (by simp)
        have e5 : V 5 = .bool true := hs 5 (by simp)
        have e6 : V 6 = .bool true := hs 6 (by simp)
        rw [if_pos (by simp [Rs.wantB, e6])]
        exact Rs.GrowL.value (v := .int .i64 a) (w' := w') (by simp [go_sem, Rs.look, e0, e1, e2, e3, e4, e5, e6]) (Rs.Gr.refl _) rfl
      · have e0 : V 0 = .agg #[.slice pw t.words.length cw, (.slice pt t.turns.length ct), (.int .i64 t.breath), mf] := hs 0 (by simp)
        have e1 : V 1 = .int .i64 a := hs 1 (by simp)
        have e2 : V 2 = .int .i64 b := hs 2 (by simp)
        have e3 : V 3 = .int .i64 (t.syl a b) := hs 3 (by simp)
        have e4 : V 4 = .int .i64 m := hs 4 (by simp)
        have e5 : V 5 = .bool true := hs 5 (by simp)
        have e6 : V 6 = .bool true := hs 6 (by simp)
        rw [if_pos (by simp [Rs.wantB, e6])]
        exact Rs.GrowL.value (v := .int .i64 b) (w' := w') (by simp [go_sem, Rs.look, e0, e1, e2, e3, e4, e5, e6]) (Rs.Gr.refl _) rfl
      · have e0 : V 0 = .agg #[.slice pw t.words.length cw, (.slice pt t.turns.length ct), (.int .i64 t.breath), mf] := hs 0 (by simp)
        have e1 : V 1 = .int .i64 a := hs 1 (by simp)
        have e2 : V 2 = .int .i64 b := hs 2 (by simp)
        have e3 : V 3 = .int .i64 (t.syl a b) := hs 3 (by simp)
        have e4 : V 4 = .int .i64 m := hs 4 (by simp)
        have e5 : V 5 = .bool true := hs 5 (by simp)
        have e6 : V 6 = .bool true := hs 6 (by simp)
        have e7 : V 7 = .agg #[.slice pw t.words.length cw, (.slice pt t.turns.length ct), (.int .i64 t.breath), mf] := hs 7 (by simp)
        have e8 : V 8 = .int .i64 a := hs 8 (by simp)
        have e9 : V 9 = .int .i64 b := hs 9 (by simp)
        rw [if_pos (by simp [Rs.wantB, e6])]
        refine Rs.GrowL.call (f := 138) (args := #[.agg #[.slice pw t.words.length cw, .slice pt t.turns.length ct, .int .i64 t.breath, mf], .int .i64 a, .int .i64 b]) (by simp [go_sem, Rs.look, e7, e8, e9]) ?_
        refine (HRT.out w' hG).mono ?_
        rintro e w2 ⟨rfl, hB2⟩
        exact ⟨_, rfl, hB2, rfl⟩
      · have e0 : V 0 = .agg #[.slice pw t.words.length cw, (.slice pt t.turns.length ct), (.int .i64 t.breath), mf] := hs 0 (by simp)
        have e1 : V 1 = .int .i64 a := hs 1 (by simp)
        have e2 : V 2 = .int .i64 b := hs 2 (by simp)
        have e3 : V 3 = .int .i64 (t.syl a b) := hs 3 (by simp)
        have e4 : V 4 = .int .i64 m := hs 4 (by simp)
        have e5 : V 5 = .bool true := hs 5 (by simp)
        have e6 : V 6 = .bool true := hs 6 (by simp)
        have e7 : V 7 = .agg #[.slice pw t.words.length cw, (.slice pt t.turns.length ct), (.int .i64 t.breath), mf] := hs 7 (by simp)
        have e8 : V 8 = .int .i64 a := hs 8 (by simp)
        have e9 : V 9 = .int .i64 b := hs 9 (by simp)
        have e10 : V 10 = .bool (t.right a b) := hs 10 (by simp)
        rw [if_pos (by rfl)]
        exact Rs.GrowL.value (v := .bool (t.right a b)) (w' := w') (by simp [go_sem, Rs.look, e0, e1, e2, e3, e4, e5, e6, e7, e8, e9, e10]) (Rs.Gr.refl _) rfl
      · have e0 : V 0 = .agg #[.slice pw t.words.length cw, (.slice pt t.turns.length ct), (.int .i64 t.breath), mf] := hs 0 (by simp)
        have e1 : V 1 = .int .i64 a := hs 1 (by simp)
        have e2 : V 2 = .int .i64 b := hs 2 (by simp)
        have e3 : V 3 = .int .i64 (t.syl a b) := hs 3 (by simp)
        have e4 : V 4 = .int .i64 m := hs 4 (by simp)
        have e5 : V 5 = .bool true := hs 5 (by simp)
        have e6 : V 6 = .bool true := hs 6 (by simp)
        have e7 : V 7 = .agg #[.slice pw t.words.length cw, (.slice pt t.turns.length ct), (.int .i64 t.breath), mf] := hs 7 (by simp)
        have e8 : V 8 = .int .i64 a := hs 8 (by simp)
        have e9 : V 9 = .int .i64 b := hs 9 (by simp)
        have e10 : V 10 = .bool (t.right a b) := hs 10 (by simp)
        have e11 : V 11 = .bool (t.right a b) := hs 11 (by simp)
        rw [if_pos (by rfl)]
        exact Rs.GrowL.value (v := .bool (t.right a b)) (w' := w') (by simp [go_sem, Rs.look, e0, e1, e2, e3, e4, e5, e6, e7, e8, e9, e10, e11]) (Rs.Gr.refl _) rfl
    · intro V w' hG hs
      have e0 : V 0 = .agg #[.slice pw t.words.length cw, (.slice pt t.turns.length ct), (.int .i64 t.breath), mf] := hs 0 (by omega)
      have e1 : V 1 = .int .i64 a := hs 1 (by omega)
      have e2 : V 2 = .int .i64 b := hs 2 (by omega)
      have e3 : V 3 = .int .i64 (t.syl a b) := hs 3 (by omega)
      have e4 : V 4 = .int .i64 m := hs 4 (by omega)
      have e5 : V 5 = .bool true := hs 5 (by omega)
      have e6 : V 6 = .bool true := hs 6 (by omega)
      have e7 : V 7 = .agg #[.slice pw t.words.length cw, (.slice pt t.turns.length ct), (.int .i64 t.breath), mf] := hs 7 (by omega)
      have e8 : V 8 = .int .i64 a := hs 8 (by omega)
      have e9 : V 9 = .int .i64 b := hs 9 (by omega)
      have e10 : V 10 = .bool (t.right a b) := hs 10 (by omega)
      have e11 : V 11 = .bool (t.right a b) := hs 11 (by omega)
      have e12 : V 12 = .bool (t.right a b) := hs 12 (by omega)
      simp only [Rs.canon, Rs.dstOf, List.range_succ, List.range_zero, List.nil_append, List.cons_append, List.foldl_cons, List.foldl_nil, List.drop_succ_cons, List.drop_zero, List.drop_nil, List.getElem?_toArray, List.getElem?_cons_succ, List.getElem?_cons_zero, Option.bind_some, Act.put, List.getD_cons_succ, List.getD_cons_zero, List.setIfInBounds_toArray, List.set_cons_succ, List.set_cons_zero]
      rw [e0, e1, e2, e3, e4, e5, e6, e7, e8, e9, e10, e11, e12]
      clear e0 e1 e2 e3 e4 e5 e6 e7 e8 e9 e10 e11 e12 hs
      go_wp2
      go_ret
      exact ⟨ret_bool (by rw [HF.out]; simp [HSM.out]), hG⟩
  · have HSM := Lib.hid hsm
    go_enter Try.func162, Try.ntmps162
    go_wp2_with fail
    refine Rs.region_gen 13 [[], [], [], [0, 1, 2], [], [0, 1, 2, 3, 4], [0, 1, 2, 3, 4, 5], [0, 1, 2, 3, 4, 5, 6], [0, 1, 2, 3, 4, 5, 6], [0, 1, 2, 3, 4, 5, 6], [0, 1, 2, 3, 4, 5, 6, 7, 8, 9], [0, 1, 2, 3, 4, 5, 6, 7, 8, 9, 10], [0, 1, 2, 3, 4, 5, 6, 7, 8, 9, 10, 11]] [some 7, some 8, some 9, some 10, some 11, some 12, some 13, some 14, some 15, some 16, some 17, some 18, some 6] (spEv0 pw t.words.length cw (.slice pt t.turns.length ct) (.int .i64 t.breath) mf a b (t.syl a b) m (t.right a b)) (by kernel_rfl) (by kernel_rfl) rfl (spEv0_stable _ _ _ _ _ _ _ _ _ _ _) ?_ ?_
    · refine ⟨fun V w' hG hs => ?_, fun V w' hG hs => ?_, fun V w' hG hs => ?_, fun V w' hG hs => ?_, fun V w' hG hs => ?_, fun V w' hG hs => ?_, fun V w' hG hs => ?_, fun V w' hG hs => ?_, fun V w' hG hs => ?_, fun V w' hG hs => ?_, fun V w' hG hs => ?_, fun V w' hG hs => ?_, fun V w' hG hs => ?_, trivial⟩
      all_goals
        obtain ⟨k0, k1, k2, k3⟩ := blk4 ((hG.block X HXl).trans HX.out)
        have c0 := blk_cells ((hG.block Y HYl).trans HY.out) 0 _ rfl
      · rw [if_pos (by rfl)]
        exact Rs.GrowL.value (v := .agg #[.slice pw t.words.length cw, (.slice pt t.turns.length ct), (.int .i64 t.breath), mf]) (w' := w') (by simp [go_sem, Rs.look, k0, k1, k2, k3]) (Rs.Gr.refl _) rfl
      · rw [if_pos (by rfl)]
        exact Rs.GrowL.value (v := .int .i64 a) (w' := w') (by simp [go_sem, Rs.look]) (Rs.Gr.refl _) rfl
      · rw [if_pos (by rfl)]
        exact Rs.GrowL.value (v := .int .i64 b) (w' := w') (by simp [go_sem, Rs.look]) (Rs.Gr.refl _) rfl
      · have e0 : V 0 = .agg #[.slice pw t.words.length cw, (.slice pt t.turns.length ct), (.int .i64 t.breath), mf] := hs 0 (by simp)
        have e1 : V 1 = .int .i64 a := hs 1 (by simp)
        have e2 : V 2 = .int .i64 b := hs 2 (by simp)
        rw [if_pos (by rfl)]
        refine Rs.GrowL.call (f := 163) (args := #[.agg #[.slice pw t.words.length cw, .slice pt t.turns.length ct, .int .i64 t.breath, mf], .int .i64 a, .int .i64 b]) (by simp [go_sem, Rs.look, e0, e1, e2]) ?_
        refine (HSY.out w' hG).mono ?_
        rintro e w2 ⟨rfl, hB2⟩
        exact ⟨_, rfl, hB2, rfl⟩
      · rw [if_pos (by rfl)]
        exact Rs.GrowL.value (v := .int .i64 m) (w' := w') (by simp [go_sem, Rs.look, c0]) (Rs.Gr.refl _) rfl
      · have e0 : V 0 = .agg #[.slice pw t.words.length cw, (.slice pt t.turns.length ct), (.int .i64 t.breath), mf] := hs 0 (by simp)
        have e1 : V 1 = .int .i64 a := hs 1 (by simp)
        have e2 : V 2 = .int .i64 b := hs 2 (by simp)
        have e3 : V 3 = .int .i64 (t.syl a b) := hs 3 (by simp)
        have e4 : V 4 = .int .i64 m := hs 4 (by simp)
        rw [if_pos (by rfl)]
        exact Rs.GrowL.value (v := .bool false) (w' := w') (by simp [go_sem, Rs.look, e0, e1, e2, e3, e4, hsm]) (Rs.Gr.refl _) rfl
      · have e0 : V 0 = .agg #[.slice pw t.words.length cw, (.slice pt t.turns.length ct), (.int .i64 t.breath), mf] := hs 0 (by simp)
        have e1 : V 1 = .int .i64 a := hs 1 (by simp)
        have e2 : V 2 = .int .i64 b := hs 2 (by simp)
        have e3 : V 3 = .int .i64 (t.syl a b) := hs 3 (by simp)
        have e4 : V 4 = .int .i64 m := hs 4 (by simp)
        have e5 : V 5 = .bool false := hs 5 (by simp)
        rw [if_pos (by rfl)]
        exact Rs.GrowL.value (v := .bool false) (w' := w') (by simp [go_sem, Rs.look, e0, e1, e2, e3, e4, e5]) (Rs.Gr.refl _) rfl
      · have e0 : V 0 = .agg #[.slice pw t.words.length cw, (.slice pt t.turns.length ct), (.int .i64 t.breath), mf] := hs 0 (by simp)
        have e1 : V 1 = .int .i64 a := hs 1 (by simp)
        have e2 : V 2 = .int .i64 b := hs 2 (by simp)
        have e3 : V 3 = .int .i64 (t.syl a b) := hs 3 (by simp)
        have e4 : V 4 = .int .i64 m := hs 4 (by simp)
        have e5 : V 5 = .bool false := hs 5 (by simp)
        have e6 : V 6 = .bool false := hs 6 (by simp)
        rw [if_neg (by simp [Rs.wantB, e6])]
        rfl
      · have e0 : V 0 = .agg #[.slice pw t.words.length cw, (.slice pt t.turns.length ct), (.int .i64 t.breath), mf] := hs 0 (by simp)
        have e1 : V 1 = .int .i64 a := hs 1 (by simp)
        have e2 : V 2 = .int .i64 b := hs 2 (by simp)
        have e3 : V 3 = .int .i64 (t.syl a b) := hs 3 (by simp)
        have e4 : V 4 = .int .i64 m := hs 4 (by simp)
        have e5 : V 5 = .bool false := hs 5 (by simp)
        have e6 : V 6 = .bool false := hs 6 (by simp)
        rw [if_neg (by simp [Rs.wantB, e6])]
        rfl
      · have e0 : V 0 = .agg #[.slice pw t.words.length cw, (.slice pt t.turns.length ct), (.int .i64 t.breath), mf] := hs 0 (by simp)
        have e1 : V 1 = .int .i64 a := hs 1 (by simp)
        have e2 : V 2 = .int .i64 b := hs 2 (by simp)
        have e3 : V 3 = .int .i64 (t.syl a b) := hs 3 (by simp)
        have e4 : V 4 = .int .i64 m := hs 4 (by simp)
        have e5 : V 5 = .bool false := hs 5 (by simp)
        have e6 : V 6 = .bool false := hs 6 (by simp)
        rw [if_neg (by simp [Rs.wantB, e6])]
        rfl
      · have e0 : V 0 = .agg #[.slice pw t.words.length cw, (.slice pt t.turns.length ct), (.int .i64 t.breath), mf] := hs 0 (by simp)
        have e1 : V 1 = .int .i64 a := hs 1 (by simp)
        have e2 : V 2 = .int .i64 b := hs 2 (by simp)
        have e3 : V 3 = .int .i64 (t.syl a b) := hs 3 (by simp)
        have e4 : V 4 = .int .i64 m := hs 4 (by simp)
        have e5 : V 5 = .bool false := hs 5 (by simp)
        have e6 : V 6 = .bool false := hs 6 (by simp)
        have e7 : V 7 = undef := hs 7 (by simp)
        have e8 : V 8 = undef := hs 8 (by simp)
        have e9 : V 9 = undef := hs 9 (by simp)
        rw [if_neg (by simp [Rs.wantB, e6])]
        rfl
      · have e0 : V 0 = .agg #[.slice pw t.words.length cw, (.slice pt t.turns.length ct), (.int .i64 t.breath), mf] := hs 0 (by simp)
        have e1 : V 1 = .int .i64 a := hs 1 (by simp)
        have e2 : V 2 = .int .i64 b := hs 2 (by simp)
        have e3 : V 3 = .int .i64 (t.syl a b) := hs 3 (by simp)
        have e4 : V 4 = .int .i64 m := hs 4 (by simp)
        have e5 : V 5 = .bool false := hs 5 (by simp)
        have e6 : V 6 = .bool false := hs 6 (by simp)
        have e7 : V 7 = undef := hs 7 (by simp)
        have e8 : V 8 = undef := hs 8 (by simp)
        have e9 : V 9 = undef := hs 9 (by simp)
        have e10 : V 10 = undef := hs 10 (by simp)
        rw [if_pos (by rfl)]
        exact Rs.GrowL.value (v := .bool false) (w' := w') (by simp [go_sem, Rs.look, e0, e1, e2, e3, e4, e5, e6, e7, e8, e9, e10]) (Rs.Gr.refl _) rfl
      · have e0 : V 0 = .agg #[.slice pw t.words.length cw, (.slice pt t.turns.length ct), (.int .i64 t.breath), mf] := hs 0 (by simp)
        have e1 : V 1 = .int .i64 a := hs 1 (by simp)
        have e2 : V 2 = .int .i64 b := hs 2 (by simp)
        have e3 : V 3 = .int .i64 (t.syl a b) := hs 3 (by simp)
        have e4 : V 4 = .int .i64 m := hs 4 (by simp)
        have e5 : V 5 = .bool false := hs 5 (by simp)
        have e6 : V 6 = .bool false := hs 6 (by simp)
        have e7 : V 7 = undef := hs 7 (by simp)
        have e8 : V 8 = undef := hs 8 (by simp)
        have e9 : V 9 = undef := hs 9 (by simp)
        have e10 : V 10 = undef := hs 10 (by simp)
        have e11 : V 11 = .bool false := hs 11 (by simp)
        rw [if_pos (by rfl)]
        exact Rs.GrowL.value (v := .bool false) (w' := w') (by simp [go_sem, Rs.look, e0, e1, e2, e3, e4, e5, e6, e7, e8, e9, e10, e11]) (Rs.Gr.refl _) rfl
    · intro V w' hG hs
      have e0 : V 0 = .agg #[.slice pw t.words.length cw, (.slice pt t.turns.length ct), (.int .i64 t.breath), mf] := hs 0 (by omega)
      have e1 : V 1 = .int .i64 a := hs 1 (by omega)
      have e2 : V 2 = .int .i64 b := hs 2 (by omega)
      have e3 : V 3 = .int .i64 (t.syl a b) := hs 3 (by omega)
      have e4 : V 4 = .int .i64 m := hs 4 (by omega)
      have e5 : V 5 = .bool false := hs 5 (by omega)
      have e6 : V 6 = .bool false := hs 6 (by omega)
      have e7 : V 7 = undef := hs 7 (by omega)
      have e8 : V 8 = undef := hs 8 (by omega)
      have e9 : V 9 = undef := hs 9 (by omega)
      have e10 : V 10 = undef := hs 10 (by omega)
      have e11 : V 11 = .bool false := hs 11 (by omega)
      have e12 : V 12 = .bool false := hs 12 (by omega)
      simp only [Rs.canon, Rs.dstOf, List.range_succ, List.range_zero, List.nil_append, List.cons_append, List.foldl_cons, List.foldl_nil, List.drop_succ_cons, List.drop_zero, List.drop_nil, List.getElem?_toArray, List.getElem?_cons_succ, List.getElem?_cons_zero, Option.bind_some, Act.put, List.getD_cons_succ, List.getD_cons_zero, List.setIfInBounds_toArray, List.set_cons_succ, List.set_cons_zero]
      rw [e0, e1, e2, e3, e4, e5, e6, e7, e8, e9, e10, e11, e12]
      clear e0 e1 e2 e3 e4 e5 e6 e7 e8 e9 e10 e11 e12 hs
      go_wp2
      go_ret
      exact ⟨ret_bool (by rw [HF.out, decide_eq_false (Int.not_le.2 HSM.out)]; rfl), hG⟩
theorem entered_rightWithin1 : Entered 162 := fun args W => by kernel_rfl
theorem rightWithin_any (v0 v1 v2 v3 : Value) (m : Int) (w : World) :
    Calls Try.prog 132 #[.agg #[v0, v1, v2, v3], .int .i64 m] w fun e w' => e = .returned (.func (.func 162) #[] #[.pointer (some ⟨w.heap.size, 0, none⟩), .pointer (some ⟨w.heap.size + 1, 0, none⟩)]) ∧ w' = (w.alloc (.cells #[v0, v1, v2, v3] 125)).alloc (.cells #[.int .i64 m] 3) := by
  have hmf := mf
  go_enter Try.func132, Try.ntmps132
  go_wp2
  go_ret
  exact ⟨by simp, rfl⟩
theorem entered_sure : Entered 128 := fun args W => by kernel_rfl
theorem sure_may (t : Text) (pw pt : Option Addr) (cw ct : Nat) (mf : Value) (w : World) (hW : WkAt w t pw pt cw) :
    MayAt (.func (.func 128) #[.agg #[.slice pw t.words.length cw, .slice pt t.turns.length ct, .int .i64 t.breath, mf]] #[]) t.sureB t.words.length (fun k => k < w.heap.size) w :=
  ⟨128, _, _, rfl, entered_sure, fun W hH a b hab hb => sureB_any t pw pt cw ct mf a b (by omega) hb W ⟨hW.ok, hW.at_.hold hH (fun k hk => hk), hW.cap⟩⟩
theorem within_may (t : Text) (pw pt : Option Addr) (cw ct : Nat) (mf : Value) (m : Int) (X Y : Nat) (w : World) (hW : WkAt w t pw pt cw)
    (hX : w.heap[X]? = some (.cells #[.slice pw t.words.length cw, .slice pt t.turns.length ct, .int .i64 t.breath, mf] 125 (0, 0))) (hY : w.heap[Y]? = some (.cells #[.int .i64 m] 3 (0, 0))) :
    MayAt (.func (.func 162) #[] #[.pointer (some ⟨X, 0, none⟩), .pointer (some ⟨Y, 0, none⟩)]) (t.within m) t.words.length (fun k => k < w.heap.size) w := by
  have hXl := (Array.getElem?_eq_some_iff.1 hX).1
  have hYl := (Array.getElem?_eq_some_iff.1 hY).1
  refine ⟨162, _, _, rfl, entered_rightWithin1, fun W hH a b hab hb => ?_⟩
  exact rightWithin1_any t pw pt cw ct mf m a b (by omega) hb X Y W ⟨hW.ok, hW.at_.hold hH (fun k hk => hk), hW.cap⟩ ((hH.same X hXl hXl).trans hX) ((hH.same Y hYl hYl).trans hY)
/-- what Surest tells -/
def surL (t : Text) : List Int := if t.err = 0 then (Tx.fewest t.sureB t.words.length).1 else []
def surE (t : Text) : Int := if t.err = 0 then (Tx.fewest t.sureB t.words.length).2 else t.err
set_option maxHeartbeats 800000 in
theorem Surest_any (t : Text) (hl1 : t.words.length ≤ 1000000) (hl2 : t.turns.length ≤ 1000000) (pw pt : Option Addr) (cw ct : Nat) (hcw : t.words.length ≤ cw ∧ cw ≤ maxLen) (w : World) (hW : TxAt w t pw pt) :
    Calls Try.prog 56 #[.agg #[.slice pw t.words.length cw, .slice pt t.turns.length ct, .int .i64 t.breath]] w (ListPost (surL t) (surE t) w) := by
  have hmf := mf
  by_cases he : t.err = 0
  · have ok := err_ok he
    have h1 : surL t = (Tx.fewest t.sureB t.words.length).1 := if_pos he
    have h2 : surE t = (Tx.fewest t.sureB t.words.length).2 := if_pos he
    rw [h1, h2]
    have HS := Lib.hid (fun W (h : Below w.heap.size w W) => open_ok t he pw pt cw ct W (hW.below h))
    have HF := Lib.hid (fun mv W (h : Below w.heap.size w W) => fewest_any t.sureB t.words.length cw ok.n1 ok.n12 pw (.slice pt t.turns.length ct) (.int .i64 t.breath) _ W (sure_may t pw pt cw ct mv W ⟨ok, hW.below h, hcw⟩))
    clear hW he h1 h2 ok
    go_enter Try.func56, Try.ntmps56
    go_wp2_with fail
    refine (HS.out _ (below1 _ _)).mono ?_
    rintro e w5 ⟨rfl, hB5⟩
    have HB5 := Lib.hid (join (below1 _ _) hB5)
    clear hB5
    go_wp2_with fail
    refine (HF.out _ _ ?_).mono ?_
    · exact join HB5.out (below1 _ _)
    rintro e w6 ⟨v, rfl, hown, hB6⟩
    have HO := Lib.hid hown
    have HB6 := Lib.hid hB6
    clear hown hB6
    go_wp2
    go_ret2
    have hz := HB5.out.size
    exact ⟨_, rfl, own_base HO.out (by simp; omega), join (join HB5.out (below1 _ _)) HB6.out⟩
  · have h1 : surL t = [] := if_neg he
    have h2 : surE t = t.err := if_neg he
    rw [h1, h2]
    have HS := Lib.hid (fun W (h : Below w.heap.size w W) => open_bad t he hl1 hl2 pw pt cw ct W (hW.below h))
    have HE : (t.err != 0) = true := by simpa using he
    clear hW he h1 h2
    generalize t.err = er at HE HS ⊢
    go_enter Try.func56, Try.ntmps56
    go_wp2_with fail
    refine (HS.out _ (below1 _ _)).mono ?_
    rintro e w5 ⟨rfl, hB5⟩
    have HB5 := Lib.hid (join (below1 _ _) hB5)
    clear hB5
    go_wp2
    go_ret2
    exact ⟨_, rfl, own_none _ _ _ _, join HB5.out (below1 _ _)⟩
end Go.Proofs.Ytadnggecnjdhiaa
set_option linter.unusedSimpArgs false
set_option linter.unusedVariables false
namespace Go.Proofs.Ytadnggecnjdhiaa
open Go.RowKit Tx

def EvenPost (r : List Int × Int × Int) (w : World) (e : Ending) (w' : World) : Prop := ∃ v, e = .returned (.tuple #[v, .int .i64 r.2.1, .int .i64 r.2.2]) ∧ w'.ownsRow w.heap.size 3 1 v r.1.length (r.1.map (Value.int .i64)) ∧ Below w.heap.size w w'
theorem evGo_step (t : Text) (m : Nat) (h : (m : Int) ≤ t.breath) : evGo t (List.range' m (t.breath.toNat + 1 - m)) = if (fewest (t.within (m : Nat)) t.words.length).2 = 0 then ((fewest (t.within (m : Nat)) t.words.length).1, (m : Int), 0) else evGo t (List.range' (m + 1) (t.breath.toNat + 1 - (m + 1))) := by
  rw [show t.breath.toNat + 1 - m = (t.breath.toNat + 1 - (m + 1)) + 1 by omega, List.range'_succ, evGo]
set_option maxHeartbeats 2000000 in
set_option maxRecDepth 100000 in
theorem Even_any (t : Text) (hl1 : t.words.length ≤ 1000000) (hl2 : t.turns.length ≤ 1000000) (pw pt : Option Addr) (cw ct : Nat) (hcw : t.words.length ≤ cw ∧ cw ≤ maxLen) (w : World) (hW : TxAt w t pw pt) :
    Calls Try.prog 66 #[.agg #[.slice pw t.words.length cw, .slice pt t.turns.length ct, .int .i64 t.breath]] w (EvenPost (evR t) w) := by
  by_cases he : t.err = 0
  · have ok := err_ok he
    have h1 : evR t = evGo t (List.range' 1 (t.breath.toNat + 1 - 1)) := if_pos he
    have HEV := Lib.hid h1
    have HS := Lib.hid (fun W (h : Below w.heap.size w W) => open_ok t he pw pt cw ct W (hW.below h))
    have HF := Lib.hid (fun mv m X Y W (h : Below w.heap.size w W) hX hY => fewest_any (t.within m) t.words.length cw ok.n1 ok.n12 pw (.slice pt t.turns.length ct) (.int .i64 t.breath) _ W (within_may t pw pt cw ct mv m X Y W ⟨ok, hW.below h, hcw⟩ hX hY))
    have HOK := Lib.hid ok
    have hb40 := ok.b40
    have hb1 := ok.b1
    clear hW he h1 ok
    go_enter Try.func66, Try.ntmps66
    go_wp2_with fail
    refine (HS.out _ (below1 _ _)).mono ?_
    rintro e w5 ⟨rfl, hB5⟩
    have hz5 : w.heap.size < w5.heap.size := by have := hB5.size; simp at this; omega
    have HT5 := Lib.hid ((hB5.block w.heap.size (by simp)).trans (heap_last w _))
    have HB5 := Lib.hid (join (below1 _ _) hB5)
    obtain ⟨B5, hB5e⟩ : ∃ B5, B5 = w5.heap.size := ⟨_, rfl⟩
    clear hB5
    go_wp2_with fail
    go_loopw [7] (fun i wr => ∃ (m : Nat) (mv : Value), 1 ≤ m ∧ (m : Int) ≤ t.breath + 1 ∧ i = .int .i64 m ∧ Hid (wr.heap[w5.heap.size]? = some (.cells #[.slice pw t.words.length cw, .slice pt t.turns.length ct, .int .i64 t.breath, mv] 125 (0, 0))) ∧ Hid (wr.heap[w.heap.size]? = some (.cells #[.slice pw t.words.length cw, .slice pt t.turns.length ct, .int .i64 t.breath] 25 (0, 0))) ∧ Hid (Below w.heap.size w wr) ∧ Hid (evR t = evGo t (List.range' m (t.breath.toNat + 1 - m)))) (fun i _ => 100 - (intOf i).toNat)
    case atStart => exact ⟨1, _, by omega, by omega, rfl, Lib.hid (heap_last w5 _), Lib.hid ((Below.heap_alloc _ _ _ hz5).trans HT5.out), Lib.hid (join HB5.out (below1 _ _)), HEV⟩
    case round =>
      obtain ⟨w6, rfl⟩ : ∃ w6 : World, w6 = wr := ⟨_, rfl⟩
      obtain ⟨m, mv, hm1, hm2, rfl, HX, HT, HB, HE⟩ := hrel
      obtain ⟨k0, k1, k2, k3⟩ := blk4 HX.out
      obtain ⟨j0, j1, j2⟩ := blk3 HT.out
      have hz6 := (Array.getElem?_eq_some_iff.1 HX.out).1
      by_cases hlt : (m : Int) ≤ t.breath
      · have HST := Lib.hid (evGo_step t m hlt)
        go_wp2_with fail
        refine (rightWithin_any _ _ _ _ _ _).mono ?_
        rintro e w7 ⟨rfl, hw7⟩
        have hB7 : Below w6.heap.size w6 w7 := by rw [hw7]; exact (below1 _ _).alloc (by simp) _
        have hz7 : w7.heap.size = w6.heap.size + 2 := by rw [hw7]; simp
        have hX7 : w7.heap[w6.heap.size]? = some (.cells #[.slice pw t.words.length cw, .slice pt t.turns.length ct, .int .i64 t.breath, mv] 125 (0, 0)) := by
          rw [hw7, Below.heap_alloc _ _ _ (by simp)]; exact heap_last _ _
        have hY7 : w7.heap[w6.heap.size + 1]? = some (.cells #[.int .i64 m] 3 (0, 0)) := by
          rw [hw7]
          have := heap_last (w6.alloc (.cells #[.slice pw t.words.length cw, .slice pt t.turns.length ct, .int .i64 t.breath, mv] 125)) (.cells #[.int .i64 m] 3)
          rwa [World.size_alloc] at this
        have HX7 := Lib.hid hX7
        have HY7 := Lib.hid hY7
        have hx7 := (hB7.block _ hz6).trans HX.out
        have HT7 := Lib.hid ((hB7.block _ (by omega)).trans HT.out)
        have HB7 := Lib.hid (join HB.out hB7)
        clear hw7 hB7 hX7 hY7 k0 k1 k2 k3 j0 j1 j2
        obtain ⟨k0, k1, k2, k3⟩ := blk4 hx7
        have HXX := Lib.hid hx7
        have hfz : w7.frozen? ⟨w5.heap.size, 3, none⟩ = false := by simp [World.frozen?, hx7]
        clear hx7
        go_wp2_with fail
        obtain ⟨w8, hw8⟩ : ∃ w8, w8 = w7.setCell ⟨w5.heap.size, 3, none⟩ (.func (.func 162) #[] #[.pointer (some ⟨w6.heap.size, 0, none⟩), .pointer (some ⟨w6.heap.size + 1, 0, none⟩)]) := ⟨_, rfl⟩
        rw [← hw8]
        have hz8 : w8.heap.size = w6.heap.size + 2 := by rw [hw8]; simp [hz7]
        have hB8 : Below w.heap.size w w8 := by rw [hw8]; exact belS HB7.out HB5.out.size
        have hX8 : w8.heap[w6.heap.size]? = some (.cells #[.slice pw t.words.length cw, .slice pt t.turns.length ct, .int .i64 t.breath, mv] 125 (0, 0)) := by rw [hw8, Below.heap_setCell _ _ _ _ (show w6.heap.size ≠ w5.heap.size by omega)]; exact HX7.out
        have hY8 : w8.heap[w6.heap.size + 1]? = some (.cells #[.int .i64 m] 3 (0, 0)) := by rw [hw8, Below.heap_setCell _ _ _ _ (show w6.heap.size + 1 ≠ w5.heap.size by omega)]; exact HY7.out
        have HT8 : Hid (w8.heap[w.heap.size]? = some (.cells #[.slice pw t.words.length cw, .slice pt t.turns.length ct, .int .i64 t.breath] 25 (0, 0))) := Lib.hid (by rw [hw8, Below.heap_setCell _ _ _ _ (show w.heap.size ≠ w5.heap.size by omega)]; exact HT7.out)
        have HXW : Hid (w8.heap[w5.heap.size]? = some (.cells #[.slice pw t.words.length cw, .slice pt t.turns.length ct, .int .i64 t.breath, .func (.func 162) #[] #[.pointer (some ⟨w6.heap.size, 0, none⟩), .pointer (some ⟨w6.heap.size + 1, 0, none⟩)]] 125 (0, 0))) := Lib.hid (by rw [hw8]; exact heap_set_same _ HXX.out)
        have HB8 := Lib.hid hB8
        have hc := HF.out mv m w6.heap.size (w6.heap.size + 1) w8 hB8 hX8 hY8
        obtain ⟨fw, hfw⟩ : ∃ fw, fw = fewest (t.within (m : Nat)) t.words.length := ⟨_, rfl⟩
        rw [← hfw] at HST hc
        have HC := Lib.hid hc
        clear hc hw8 hB8 hX8 hY8 hfw k0 k1 k2 k3 HXX HB7 HX7 HY7 HT7 hz7
        obtain ⟨f1, f2⟩ := fw
        refine HC.out.mono ?_
        rintro e w9 ⟨v, rfl, hown, hB9⟩
        have HO := Lib.hid hown
        have HT9 := Lib.hid ((hB9.block _ (by omega)).trans HT8.out)
        have HX9 := Lib.hid ((hB9.block _ (by omega)).trans HXW.out)
        have HB9 := Lib.hid (join HB8.out hB9)
        have hz9 := hB9.size
        clear hown hB9
        dsimp only at HST HO ⊢
        by_cases hf : f2 = 0
        · subst hf
          have HEE : Hid (evR t = (f1, (m : Int), 0)) := Lib.hid (by rw [HE.out, HST.out, if_pos rfl])
          clear HST
          go_wp2
          go_ret3
          exact ⟨_, by rw [HEE.out]; rfl, by rw [HEE.out]; exact own_base HO.out (by omega), HB9.out⟩
        · have HEE : Hid (evR t = evGo t (List.range' (m + 1) (t.breath.toNat + 1 - (m + 1)))) := Lib.hid (by rw [HE.out, HST.out, if_neg hf])
          have hf2 : (f2 == 0) = false := by simpa using hf
          clear HST
          go_wp2
          go_roundw
          case rel => exact ⟨m + 1, _, by omega, by omega, by go_num, HX9, HT9, HB9, HEE⟩
          case measure => simp [intOf]; omega
      · have HEE : Hid (evR t = ([], 0, 6)) := Lib.hid (by rw [HE.out, show t.breath.toNat + 1 - m = 0 by omega]; rfl)
        go_wp2
        go_ret3
        exact ⟨_, by rw [HEE.out]; rfl, by rw [HEE.out]; exact own_none _ _ _ _, HB.out⟩
  · have h1 : evR t = ([], 0, t.err) := if_neg he
    rw [h1]
    have HS := Lib.hid (fun W (h : Below w.heap.size w W) => open_bad t he hl1 hl2 pw pt cw ct W (hW.below h))
    have HE : (t.err != 0) = true := by simpa using he
    clear hW he h1
    generalize t.err = er at HE HS ⊢
    go_enter Try.func66, Try.ntmps66
    go_wp2_with fail
    refine (HS.out _ (below1 _ _)).mono ?_
    rintro e w5 ⟨rfl, hB5⟩
    have HB5 := Lib.hid (join (below1 _ _) hB5)
    clear hB5
    go_wp2
    go_ret3
    exact ⟨_, rfl, own_none _ _ _ _, join HB5.out (below1 _ _)⟩
end Go.Proofs.Ytadnggecnjdhiaa
namespace Go.Proofs.Ytadnggecnjdhiaa
open Tx
set_option linter.unusedSimpArgs false
set_option linter.unusedVariables false

theorem okFrom_mono {may may' : Nat → Nat → Bool} {n : Nat} (h : ∀ a b, a < b → b ≤ n → may a b = true → may' a b = true) : ∀ (l : List Int) (a : Nat), a ≤ n → Parts ((n : Int) - a) l → okFrom may a l = true → okFrom may' a l = true
  | [], a, _, _, _ => rfl
  | x :: l, a, ha, hp, ho => by
    rw [okFrom, Bool.and_eq_true] at ho ⊢
    rw [parts_cons] at hp
    have hp2 := parts_pos hp.2
    refine ⟨h a _ (by omega) (by omega) ho.1, okFrom_mono h l _ (by omega) ?_ ho.2⟩
    rw [show (n : Int) - ((a + x.toNat : Nat) : Int) = (n : Int) - a - x by omega]
    exact hp.2
theorem rights_mono {may may' : Nat → Nat → Bool} {n : Nat} (h : ∀ a b, a < b → b ≤ n → may a b = true → may' a b = true) {l : List Int} (hl : l ∈ rights may n) : l ∈ rights may' n := by
  rw [mem_rights] at hl ⊢
  exact ⟨hl.1, okFrom_mono h l 0 (Nat.zero_le _) (by simpa using hl.1) hl.2⟩
theorem count_mono {may may' : Nat → Nat → Bool} {n : Nat} (h : ∀ a b, a < b → b ≤ n → may a b = true → may' a b = true) : count may n 0 ≤ count may' n 0 := by
  rw [count_rights, count_rights]
  unfold rights
  rw [← List.countP_eq_length_filter, ← List.countP_eq_length_filter]
  apply List.countP_mono_left
  intro l hl ho
  exact okFrom_mono h l 0 (Nat.zero_le _) (by simpa using (compF_mem n n l (Nat.le_refl _)).1 hl) ho
theorem few_mono {may may' : Nat → Nat → Bool} {n : Nat} (hn1 : 1 ≤ n) (hn : n ≤ 12) (h : ∀ a b, a < b → b ≤ n → may a b = true → may' a b = true) (he : (fewest may n).2 = 0) :
    (fewest may' n).2 = 0 ∧ (fewest may' n).1.length ≤ (fewest may n).1.length := by
  have hin := (fewest_rights (may := may) hn1 hn).2.2.1 he
  have hin' := rights_mono h hin
  obtain ⟨f1, f2, f3, f4⟩ := fewest_rights (may := may') hn1 hn
  refine ⟨f4.2 (fun e => by rw [e] at hin'; simp at hin'), ?_⟩
  rw [f1]
  exact (bestLen_spec _ 0 (rights_ne hn1)).2.1 _ hin'
theorem fewest_err {may : Nat → Nat → Bool} {n : Nat} (hn1 : 1 ≤ n) (hn : n ≤ 12) : ((fewest may n).2 = 0 ∧ 0 < count may n 0) ∨ ((fewest may n).2 = 6 ∧ count may n 0 = 0) := by
  obtain ⟨f1, f2, f3, f4⟩ := fewest_rights (may := may) hn1 hn
  rw [count_rights]
  by_cases h : (fewest may n).2 = 0
  · exact .inl ⟨h, List.length_pos_iff.2 (f4.1 h)⟩
  · right
    rw [f2] at h ⊢
    have hz : bestLen (rights may n) 0 = 0 := by
      by_cases hz : bestLen (rights may n) 0 = 0
      · exact hz
      · rw [if_neg hz] at h; exact absurd rfl h
    rw [if_pos hz]
    refine ⟨rfl, ?_⟩
    rw [((bestLen_zero _ 0 (rights_ne hn1)).1 hz).2]
    rfl
theorem unbroken_err {may : Nat → Nat → Bool} {n : Nat} (hn1 : 1 ≤ n) (hn : n ≤ 12) : (unbroken may n).2 = (fewest may n).2 := by
  unfold unbroken
  rcases fewest_err (may := may) hn1 hn with ⟨h1, h2⟩ | ⟨h1, h2⟩
  · rw [if_neg (by omega), h1]
  · rw [if_pos h2, h1]
theorem mem_unbroken {may : Nat → Nat → Bool} {n : Nat} (hn1 : 1 ≤ n) (hn : n ≤ 12) (he : (fewest may n).2 = 0) {x : Int} : x ∈ (unbroken may n).1 ↔ ∃ p : Nat, x = p ∧ 1 ≤ p ∧ p < n ∧ ∀ l ∈ rights may n, breaksAt l p = false := by
  unfold unbroken
  rcases fewest_err (may := may) hn1 hn with ⟨h1, h2⟩ | ⟨h1, h2⟩
  · rw [if_neg (by omega)]
    simp only [List.mem_map, List.mem_filter, List.mem_range'_1]
    constructor
    · rintro ⟨p, ⟨hp1, hp2⟩, rfl⟩
      rw [unbr_rights hn (by omega) (by omega)] at hp2
      simp only [Bool.not_eq_true', List.any_eq_false, Bool.not_eq_true] at hp2
      exact ⟨p, rfl, by omega, by omega, hp2⟩
    · rintro ⟨p, rfl, hp1, hp2, hp3⟩
      refine ⟨p, ⟨by omega, ?_⟩, rfl⟩
      rw [unbr_rights hn hp1 hp2]
      simp only [Bool.not_eq_true', List.any_eq_false, Bool.not_eq_true]
      exact hp3
  · rw [he] at h1; simp at h1
theorem never_mono {may may' : Nat → Nat → Bool} {n : Nat} (hn1 : 1 ≤ n) (hn : n ≤ 12) (h : ∀ a b, a < b → b ≤ n → may a b = true → may' a b = true) (he : (fewest may n).2 = 0) {x : Int} (hx : x ∈ (unbroken may' n).1) : x ∈ (unbroken may n).1 := by
  rw [mem_unbroken hn1 hn (few_mono hn1 hn h he).1] at hx
  rw [mem_unbroken hn1 hn he]
  obtain ⟨p, h1, h2, h3, h4⟩ := hx
  exact ⟨p, h1, h2, h3, fun l hl => h4 l (rights_mono h hl)⟩
/-- in one text is right what is right in another one -/
structure More (t t' : Text) : Prop where
  len : t'.words.length = t.words.length
  syl : ∀ a b, t'.syl a b = t.syl a b
  right : ∀ a b, a < b → b ≤ t.words.length → t.right a b = true → t'.right a b = true
theorem longGo_more {t t' : Text} (h : More t t') : ∀ (l : List Int) (a : Nat), longGo t' a l = longGo t a l
  | [], _ => rfl
  | x :: l, a => by rw [longGo, longGo, h.syl, longGo_more h l]
theorem even_more {t t' : Text} (h : More t t') (he : t.err = 0) (he' : t'.err = 0) (hs : ∀ x ∈ t.words, 1 ≤ x.syl ∧ x.syl ≤ 9) (hs' : ∀ x ∈ t'.words, 1 ≤ x.syl ∧ x.syl ≤ 9) (hn1 : 1 ≤ t.words.length) (hn : t.words.length ≤ 12) (hb : 1 ≤ t.breath) (hb' : 1 ≤ t'.breath) (hz : (evR t).2.2 = 0) :
    (evR t').2.2 = 0 ∧ (evR t').2.1 ≤ (evR t).2.1 := by
  rcases evR_spec he hs hn1 hn hb with ⟨h1, _⟩ | ⟨_, h2, h3, h4, h5, h6, h7⟩
  · rw [hz] at h1; simp at h1
  · have ho : okFrom t'.right 0 (evR t).1 = true := okFrom_mono h.right _ 0 (Nat.zero_le _) (by simpa using h2) h3
    rcases evR_spec he' hs' (by rw [h.len]; exact hn1) (by rw [h.len]; exact hn) hb' with ⟨_, _, k3⟩ | ⟨k1, _, _, _, _, _, k7⟩
    · exact (k3 _ (by rw [h.len]; exact h2) ho).elim
    · refine ⟨k1, ?_⟩
      have := (k7 _ (by rw [h.len]; exact h2) ho).1
      rw [longGo_more h, h4] at this
      exact this
theorem even_err {t : Text} (he : t.err = 0) (hs : ∀ x ∈ t.words, 1 ≤ x.syl ∧ x.syl ≤ 9) (hn1 : 1 ≤ t.words.length) (hn : t.words.length ≤ 12) (hb : 1 ≤ t.breath) : (evR t).2.2 = (fewest t.right t.words.length).2 := by
  have f := fewest_rights (may := t.right) hn1 hn
  rcases evR_spec he hs hn1 hn hb with ⟨h1, h2, h3⟩ | ⟨h1, h2, h3, _⟩
  · rw [h1]
    rcases fewest_err (may := t.right) hn1 hn with ⟨g1, _⟩ | ⟨g1, _⟩
    · exfalso
      have := f.2.2.1 g1
      rw [mem_rights] at this
      exact h3 _ this.1 this.2
    · exact g1.symm
  · rw [h1]
    symm
    rw [f.2.2.2]
    intro e
    have := mem_rights.2 ⟨h2, h3⟩
    rw [e] at this
    simp at this
theorem more_stop (t : Text) (k : Nat) (hk : k < t.words.length) (t' : Text) (hw : t'.words = t.words.set k { t.words.getD k default with stop := true }) (ht : t'.turns = t.turns) (hb : t'.breath = t.breath) : More t t' := by
  have hlen : t'.words.length = t.words.length := by rw [hw]; simp
  have hg : ∀ i, (t'.words.getD i default).stop = (decide (i = k) || (t.words.getD i default).stop) := fun i => by
    rw [hw]
    by_cases h : i = k
    · subst h; simp [hk]
    · simp [List.getElem?_set, Ne.symm h, h]
  have hsyl : t'.words.map (·.syl) = t.words.map (·.syl) := by
    rw [hw]
    apply List.ext_getElem (by simp)
    intro i h1 h2
    simp only [List.getElem_map, List.getElem_set]
    split
    · rename_i e; subst e; simp [hk]
    · rfl
  have hs : ∀ a b, t'.syl a b = t.syl a b := fun a b => by
    unfold Text.syl slice
    rw [List.map_take, List.map_drop, hsyl, List.map_take, List.map_drop]
  refine ⟨hlen, hs, fun a b hab hbn hr => ?_⟩
  have hal : ∀ p, t.allow p = true → t'.allow p = true := fun p h => by
    unfold Text.allow Text.len at *
    rw [hlen, hg]
    simp only [Bool.or_eq_true] at *
    rcases h with h | h
    · exact .inl h
    · exact .inr (.inr h)
  unfold Text.right Text.isLong Text.isCut Text.isOther at *
  rw [hs, ht, hb]
  simp only [Bool.and_eq_true, Bool.not_eq_true', Bool.or_eq_false_iff, Bool.not_eq_false'] at hr ⊢
  exact ⟨⟨hr.1.1, hal a hr.1.2.1, hal b hr.1.2.2⟩, hr.2⟩
theorem more_breath (t : Text) (t' : Text) (hw : t'.words = t.words) (ht : t'.turns = t.turns) (hb : t.breath ≤ t'.breath) : More t t' := by
  have hs : ∀ a b, t'.syl a b = t.syl a b := fun a b => by unfold Text.syl; rw [hw]
  refine ⟨by rw [hw], hs, fun a b hab hbn hr => ?_⟩
  unfold Text.right Text.isLong Text.isCut Text.isOther Text.allow Text.len at *
  rw [hs, ht, hw]
  simp only [Bool.and_eq_true, Bool.not_eq_true', decide_eq_false_iff_not] at hr ⊢
  exact ⟨⟨by omega, hr.1.2⟩, hr.2⟩
theorem more_turn (t : Text) (t' : Text) (hw : t'.words = t.words) (ht : ∀ u ∈ t'.turns, u ∈ t.turns) (hb : t'.breath = t.breath) : More t t' := by
  have hs : ∀ a b, t'.syl a b = t.syl a b := fun a b => by unfold Text.syl; rw [hw]
  refine ⟨by rw [hw], hs, fun a b hab hbn hr => ?_⟩
  unfold Text.right Text.isLong Text.isCut Text.isOther Text.allow Text.len at *
  rw [hs, hw, hb]
  simp only [Bool.and_eq_true, Bool.not_eq_true', List.any_eq_false] at hr ⊢
  exact ⟨hr.1, fun u hu => hr.2 u (ht u hu)⟩
end Go.Proofs.Ytadnggecnjdhiaa
set_option linter.unusedSimpArgs false
set_option linter.unusedVariables false
namespace Go.Proofs.Ytadnggecnjdhiaa
open Go.RowKit Tx
attribute [local go_sem] Oper.semAt_some

theorem clear_turn (w : World) (ty : TypeId) (b o c : Nat) (hc : ∀ j, j < 3 → (w.cell? ⟨b, o + j, none⟩).isSome = true) (hf : ∀ j, j < 3 → w.frozen? ⟨b, o + j, none⟩ = false) :
    (Builtin.clear_ #[23] ty #[.slice (some ⟨b, o, none⟩) 1 c]).run Try.prog w = .ok (.tuple #[]) (w.setCells b o [.int .i64 0, .int .i64 0, .int .i64 0]) := by
  have hst := run_storeCells_cells (P := Try.prog) b o [.int .i64 0, .int .i64 0, .int .i64 0] 0 w (by simpa using hc) (by simpa using hf) (by intro v hv; simp at hv; rw [hv]; rfl)
  simp only [Nat.add_zero] at hst
  obtain ⟨i0, hi0, hz0, hz1, hz2⟩ := info_parts A_infoTn
  have hv : ∀ w, (zeroValue 80).run Try.prog w = .ok (.agg #[.int .i64 0, .int .i64 0, .int .i64 0]) w := fun w => by
    simp [zeroValue, typeInfo, hi0, hz0]
  have hzc : (Builtin.zeroCells (Value.agg #[.int .i64 0, .int .i64 0, .int .i64 0]).cells 1).toList = [.int .i64 0, .int .i64 0, .int .i64 0] := by
    first | kernel_rfl | simp [Builtin.zeroCells, Value.cells]
  simp [Builtin.clear_, run_underlying A_undTs, hv, hzc, hst]
theorem setFrom_len (c : Array Value) (o : Nat) (vs : List Value) : (setFrom c o vs).size = c.size := size_setFrom vs c o
/-- what a row of turns holds behind the deletion -/
theorem del_cells (ts : List Turn) (i : Nat) (hi : i < ts.length) (cur : Array Value) (z : List Value) (hz : z.length = 3) (hs : ts.length * 3 ≤ cur.size) (hc : cur.toList.take (ts.length * 3) = tcells ts) :
    (setFrom (setFrom cur (i * 3) (tcells (ts.drop (i + 1)))) ((ts.length - 1) * 3) z).toList.take ((ts.length - 1) * 3) = tcells (ts.eraseIdx i) := by
  have hl : (tcells (ts.drop (i + 1))).length = (ts.length - (i + 1)) * 3 := by rw [tcells_len]; simp
  have he : tcells (ts.eraseIdx i) = tcells (ts.take i) ++ tcells (ts.drop (i + 1)) := by
    rw [List.eraseIdx_eq_take_drop_succ]; unfold tcells; simp
  have ht : (tcells (ts.take i)).length = i * 3 := by rw [tcells_len]; simp; omega
  have hsp : tcells ts = tcells (ts.take i) ++ tcells (ts.drop i) := by
    unfold tcells; rw [← List.flatMap_append, List.take_append_drop]
  apply List.ext_getElem?
  intro j
  rw [List.getElem?_take, Array.getElem?_toList]
  by_cases hj : j < (ts.length - 1) * 3
  · rw [if_pos hj, get_setFrom _ _ _ _ (by rw [size_setFrom, hz]; omega), if_neg (by omega), get_setFrom _ _ _ _ (by rw [hl]; omega), he]
    by_cases hji : j < i * 3
    · rw [if_neg (by omega), List.getElem?_append_left (by omega)]
      have h1 : (cur.toList.take (ts.length * 3))[j]? = (tcells ts)[j]? := by rw [hc]
      rw [List.getElem?_take, if_pos (by omega), Array.getElem?_toList, hsp, List.getElem?_append_left (by omega)] at h1
      exact h1
    · rw [if_pos (by omega), List.getElem?_append_right (by omega), ht]
  · rw [if_neg hj, List.getElem?_eq_none]
    rw [he, List.length_append, ht, hl]; omega
set_option maxHeartbeats 4000000 in
set_option maxRecDepth 1000000 in
theorem Delete_turn (ts : List Turn) (i : Nat) (hi : i < ts.length) (hl : ts.length ≤ 1000000) (B g c : Nat) (w : World) (h : w.ownsRow B 80 3 (.slice (some ⟨g, 0, none⟩) ts.length c) ts.length (tcells ts)) :
    Calls Try.prog 65 #[.slice (some ⟨g, 0, none⟩) ts.length c, .int .i64 i, .int .i64 (i + 1 : Nat)] w fun e w' =>
      e = .returned (.slice (some ⟨g, 0, none⟩) (ts.length - 1) c) ∧ w'.ownsRow B 80 3 (.slice (some ⟨g, 0, none⟩) (ts.length - 1) c) (ts.length - 1) (tcells (ts.eraseIdx i)) ∧ Below B w w' ∧ Hold (fun j => j ≠ g) w w' := by
  obtain ⟨hl0, ⟨h1, h2⟩ | ⟨g', cap, cur, hv, hb, hg, hnc, hcm, hcs, htake⟩⟩ := h
  · cases h1
  injection hv with e1 e2 e3
  injection e1 with e1; injection e1 with e1
  subst e1; subst e3
  obtain ⟨i0, hi0, hz0, hz1, hz2⟩ := info_parts A_infoTn
  obtain ⟨news, hnews⟩ : ∃ news, news = tcells (ts.drop (i + 1)) := ⟨_, rfl⟩
  have hnl : news.length = (ts.length - (i + 1)) * 3 := by rw [hnews, tcells_len]; simp
  have hone : Hid (∀ u ∈ news, u.oneCell' = true) := Lib.hid (by rw [hnews]; exact tcells_one)
  have hcell : ∀ j, j < ts.length * 3 → w.cell? ⟨g, j, none⟩ = (tcells ts)[j]? := fun j hj => by
    have h1 : (cur.toList.take (ts.length * 3))[j]? = (tcells ts)[j]? := by rw [htake]
    rw [List.getElem?_take, if_pos hj, Array.getElem?_toList] at h1
    rw [← h1]; simp [World.cell?, hg]
  have hsp : tcells ts = tcells (ts.take (i + 1)) ++ news := by
    rw [hnews]; unfold tcells; rw [← List.flatMap_append, List.take_append_drop]
  have ht : (tcells (ts.take (i + 1))).length = (i + 1) * 3 := by rw [tcells_len]; simp; omega
  obtain ⟨A, hA, hsrc⟩ : ∃ A : Addr, (if c = i + 1 then some (⟨g, 0, none⟩ : Addr) else some ⟨g, (i + 1) * 3, none⟩) = some A ∧ Hid (∀ t u, news[t]? = some u → w.drew.cell? (A.add t) = some u) := by
    by_cases hh : c = i + 1
    · refine ⟨⟨g, 0, none⟩, by simp [hh], Lib.hid fun t u hu => ?_⟩
      have h0 : news.length = 0 := by rw [hnl]; omega
      rw [List.length_eq_zero_iff.1 h0] at hu
      simp at hu
    · refine ⟨⟨g, (i + 1) * 3, none⟩, by simp [hh], Lib.hid fun t u hu => ?_⟩
      have ht' : t < news.length := (List.getElem?_eq_some_iff.1 hu).1
      have hadd : (⟨g, (i + 1) * 3, none⟩ : Addr).add t = ⟨g, (i + 1) * 3 + t, none⟩ := by unfold Addr.add; split <;> simp_all
      rw [hadd]
      have := hcell ((i + 1) * 3 + t) (by omega)
      rw [hsp, List.getElem?_append_right (by omega), ht, Nat.add_sub_cancel_left, hu] at this
      exact this
  have s1 : Hid (news.length = (ts.length - (i + 1)) * 3) := Lib.hid hnl
  have s3 : Hid (∀ t, t < news.length → (w.drew.cell? ⟨g, 0 + i * 3 + t, none⟩).isSome = true ∧ w.drew.frozen? ⟨g, 0 + i * 3 + t, none⟩ = false) := Lib.hid fun t ht' => by
    rw [hnl] at ht'
    refine ⟨?_, by show w.frozen? _ = false; simp only [World.frozen?, hg]; simp⟩
    show (w.cell? _).isSome = true
    rw [hcell _ (by omega), List.getElem?_eq_getElem (by rw [tcells_len]; omega)]; rfl
  obtain ⟨W1, hW1⟩ : ∃ W1, W1 = w.drew.setCells g (0 + i * 3) news := ⟨_, rfl⟩
  have hg1 : W1.heap[g]? = some (.cells (setFrom cur (i * 3) news) 80 (0, 0)) := by
    rw [hW1, Nat.zero_add]; exact heap_setCells g news (i * 3) w.drew cur _ _ hg
  have hcl : ∀ ty cc, (Builtin.clear_ #[23] ty #[.slice (some ⟨g, (ts.length - 1) * 3, none⟩) 1 cc]).run Try.prog W1 = .ok (.tuple #[]) (W1.setCells g ((ts.length - 1) * 3) [.int .i64 0, .int .i64 0, .int .i64 0]) := fun ty cc => by
    refine clear_turn W1 ty g _ cc (fun j hj => ?_) (fun j hj => by simp [World.frozen?, hg1])
    have : ((setFrom cur (i * 3) news)[(ts.length - 1) * 3 + j]?).isSome = true := by
      rw [Array.getElem?_eq_getElem (by rw [size_setFrom]; omega)]; rfl
    simpa [World.cell?, hg1] using this
  have hg2 : (W1.setCells g ((ts.length - 1) * 3) [.int .i64 0, .int .i64 0, .int .i64 0]).heap[g]? = some (.cells (setFrom (setFrom cur (i * 3) news) ((ts.length - 1) * 3) [.int .i64 0, .int .i64 0, .int .i64 0]) 80 (0, 0)) := heap_setCells g _ _ _ _ _ _ hg1
  have hown : Hid ((W1.setCells g ((ts.length - 1) * 3) [.int .i64 0, .int .i64 0, .int .i64 0]).ownsRow B 80 3 (.slice (some ⟨g, 0, none⟩) (ts.length - 1) c) (ts.length - 1) (tcells (ts.eraseIdx i))) := Lib.hid
    ⟨by rw [tcells_len, List.length_eraseIdx_of_lt hi], .inr ⟨g, c, _, rfl, hb, hg2, by omega, hcm, by rw [size_setFrom, size_setFrom, hcs], by rw [hnews]; exact del_cells ts i hi cur _ rfl (by omega) htake⟩⟩
  have hbel : Hid (Below B w (W1.setCells g ((ts.length - 1) * 3) [.int .i64 0, .int .i64 0, .int .i64 0])) := Lib.hid (below_setCells' hb _ _ _ (by rw [hW1]; exact below_setCells' hb _ _ _ (below_drewN' (Below.refl _ _) 1)))
  have hhold : Hid (Hold (fun j => j ≠ g) w (W1.setCells g ((ts.length - 1) * 3) [.int .i64 0, .int .i64 0, .int .i64 0])) := Lib.hid (Hold.trans (by
    rw [hW1]; exact Hold.trans (show Hold (fun j => j ≠ g) w w.drew from ⟨rfl, rfl, rfl, Nat.le_refl _, fun _ _ _ => rfl⟩) (hold_setCells g news _ w.drew)) (hold_setCells g _ _ _))
  have hW : Hid (W1 = w.drew.setCells g (0 + i * 3) news) := Lib.hid hW1
  have hic : i ≤ c := by omega
  have hjc : i + 1 ≤ c := by omega
  have h01 : (0 : Int) ≤ (i : Int) + 1 := by omega
  have h02 : (i : Int) + 1 ≤ (ts.length : Int) := by omega
  have h03 : ((i : Int) + 1).toNat = i + 1 := by omega
  have mixed := mixed
  have h04 : ts.length - (ts.length - 1) = 1 := by omega
  have h05 : ¬ c = ts.length - 1 := by omega
  have h06 : ((ts.length - 1 : Nat) : Int) ≤ (ts.length : Int) := by omega
  have h07 : ts.length - 1 ≤ ts.length := by omega
  have h08 : i + (ts.length - (i + 1)) = ts.length - 1 := by omega
  have h09 : ts.length ≤ c := by omega
  clear hW1 hg1 hg2 hcell hsp ht hg htake hnl hnews hl0
  go_enter Try.func65, Try.ntmps65
  go_wp2_with fail
  go_region_law_o (refine step_append_room rfl (.tmp 22) (.tmp 25) 23 rfl 80 i0 3 A_undTs hi0 hz1 g 0 i c (by simp [Act.eval, Act.put]) A (ts.length - (i + 1)) (c - (i + 1)) news (by simp [Act.eval, Act.put]) s1.out hsrc.out hone.out (by omega) s3.out ?_; rw [← hW.out])
  go_wp2
  go_ret
  exact ⟨rfl, hown.out, hbel.out, hhold.out⟩
end Go.Proofs.Ytadnggecnjdhiaa
set_option linter.unusedSimpArgs false
set_option linter.unusedVariables false
namespace Go.Proofs.Ytadnggecnjdhiaa
open Go.RowKit Tx

theorem ints_atJ {w : World} {p : Option Addr} {xs : List Int} {k : Nat} (h : Ints w p xs) (hk : k < xs.length) : ∃ b o x, p = some ⟨b, o, none⟩ ∧ b < w.heap.size ∧ x = xs.getD k 0 ∧ w.cell? ⟨b, o + k, none⟩ = some (.int .i64 x) := by
  rcases h with rfl | ⟨b, o, hp, hb, hc⟩
  · simp at hk
  · exact ⟨b, o, _, hp, hb, rfl, hc k hk⟩
def idxJ (p : Int → Bool) (ts : List Int) (z : Int) : Prop := (z = -1 ∧ ts.any p = false) ∨ (0 ≤ z ∧ ts.any p = true)
set_option maxHeartbeats 1000000 in
set_option maxRecDepth 100000 in
theorem indexFuncJ (F : FuncId) (hF : Entered F) (E : Value) (q : Int → Bool) (ts : List Int) (p : Option Addr) (c : Nat) (w : World) (hl : ts.length ≤ 1000000) (hi : Ints w p ts) (hq : ∀ W, Below w.heap.size w W → ∀ u ∈ ts, Calls Try.prog F #[.int .i64 u, E] W fun e w' => e = .returned (.bool (q u)) ∧ Below W.heap.size W w') :
    Calls Try.prog 130 #[.slice p ts.length c, .func (.func F) #[] #[E]] w fun e w' => ∃ z : Int, e = .returned (.int .i64 z) ∧ idxJ q ts z ∧ Below w.heap.size w w' := by
  have HI := Lib.hid hi
  have HQ := Lib.hid hq
  have HF := Lib.hid hF
  clear hi hq hF
  go_enter Try.func130, Try.ntmps130
  go_wp2_with fail
  go_loopw [5, 8] (fun u5 i wr => ∃ k : Nat, k ≤ ts.length ∧ i = .int .i64 k ∧ (ts.take k).any q = false ∧ Below w.heap.size w wr) (fun _ i _ => ts.length - (intOf i).toNat)
  case atStart => exact ⟨0, Nat.zero_le _, rfl, rfl, Below.refl _ _⟩
  case round =>
    obtain ⟨k, hk, rfl, hA, hB⟩ := hrel
    have HA := Lib.hid hA
    clear hA
    by_cases hlt : k < ts.length
    · have hlt' : (k : Int) < ts.length := by omega
      obtain ⟨b, o, x, rfl, hb, hxx, c1⟩ := ints_atJ (HI.out.below hB) hlt
      have HX := Lib.hid hxx
      have HB := Lib.hid hB
      have HASK := Lib.hid (HQ.out _ hB x (by rw [hxx]; exact getD_mem 0 hlt))
      clear hxx hB
      go_wp2_with fail
      rw [HF.out, Oper.upon_enter]
      refine HASK.out.mono ?_
      rintro e w5 ⟨rfl, hB5⟩
      have HB5 := Lib.hid (join HB.out hB5)
      clear HASK hB5
      cases hbad : q x with
      | true =>
        have HBAD := Lib.hid hbad
        clear hbad
        go_wp2
        go_ret
        exact ⟨_, rfl, .inr ⟨by omega, any_hit 0 hlt _ (by rw [← HX.out]; exact HBAD.out)⟩, HB5.out⟩
      | false =>
        have HBAD := Lib.hid hbad
        clear hbad
        go_wp2
        go_roundw
        case rel => exact ⟨k + 1, by omega, by go_num, any_snoc 0 hlt _ HA.out (by rw [← HX.out]; exact HBAD.out), HB5.out⟩
        case measure => simp [intOf]; omega
    · obtain rfl : k = ts.length := by omega
      have HB := Lib.hid hB
      clear hB
      go_wp2
      go_ret
      exact ⟨_, rfl, .inl ⟨rfl, by have := HA.out; rwa [List.take_length] at this⟩, HB.out⟩

set_option maxHeartbeats 1000000 in
set_option maxRecDepth 100000 in
theorem containsFuncJ (F : FuncId) (hF : Entered F) (E : Value) (q : Int → Bool) (ts : List Int) (p : Option Addr) (c : Nat) (w : World) (hl : ts.length ≤ 1000000) (hi : Ints w p ts) (hq : ∀ W, Below w.heap.size w W → ∀ u ∈ ts, Calls Try.prog F #[.int .i64 u, E] W fun e w' => e = .returned (.bool (q u)) ∧ Below W.heap.size W w') :
    Calls Try.prog 62 #[.slice p ts.length c, .func (.func F) #[] #[E]] w fun e w' => e = .returned (.bool (ts.any q)) ∧ Below w.heap.size w w' := by
  have HI := Lib.hid (indexFuncJ F hF E q ts p c w hl hi hq)
  clear hi hq
  go_enter Try.func62, Try.ntmps62
  go_wp2_with fail
  refine HI.out.mono ?_
  rintro e w5 ⟨z, rfl, hz, hB5⟩
  rcases hz with ⟨rfl, ha⟩ | ⟨h0, ha⟩
  · have HA := Lib.hid ha
    clear ha
    go_wp2
    go_ret
    exact ⟨by rw [HA.out]; rfl, hB5⟩
  · have HA := Lib.hid ha
    have hz0 : decide (0 ≤ z) = true := by simpa using h0
    clear ha
    go_wp2
    go_ret
    exact ⟨by rw [HA.out]; rfl, hB5⟩

theorem more1_any (x : Int) (l : List Int) (hll : l.length ≤ 1000000) (p : Option Addr) (c A : Nat) (w : World) (hA : w.heap[A]? = some (.cells #[.slice p l.length c] 28 (0, 0))) (hL : Ints w p l) :
    Calls Try.prog 67 #[.int .i64 x, .pointer (some ⟨A, 0, none⟩)] w fun e w' => e = .returned (.bool (!l.contains x)) ∧ Below w.heap.size w w' := by
  have hAl := (Array.getElem?_eq_some_iff.1 hA).1
  have c0 := blk_cells hA 0 _ rfl
  have HCO := Lib.hid (fun W (h : Below w.heap.size w W) => contains_any l hll p c x W (hL.below h))
  obtain ⟨cv, hcv⟩ : ∃ cv, cv = l.contains x := ⟨_, rfl⟩
  rw [← hcv] at HCO ⊢
  clear hcv hA hL
  go_enter Try.func67, Try.ntmps67
  go_wp2_with fail
  refine (HCO.out _ (Below.refl _ _)).mono ?_
  rintro e w6 ⟨rfl, rfl⟩
  go_wp2
  go_ret
  exact ⟨rfl, Below.refl _ _⟩
theorem entered_more1 : Entered 67 := fun args W => by kernel_rfl
end Go.Proofs.Ytadnggecnjdhiaa
set_option linter.unusedSimpArgs false
set_option linter.unusedVariables false
namespace Go.Proofs.Ytadnggecnjdhiaa
open Tx
theorem ok_err {t : Text} (ok : Text.Ok t) : t.err = 0 := by
  have h1 := ok.n1
  have h2 := ok.n12
  have h3 := ok.m6
  have h4 := ok.b1
  have h5 := ok.b40
  unfold Text.err Text.len
  rw [if_neg (by omega), if_neg (by omega), if_neg, if_neg, if_neg, if_neg]
  · intro h
    obtain ⟨u, hu, h⟩ := List.any_eq_true.1 h
    have := ok.turn u hu
    simp [itself, btw] at h
    omega
  · intro h
    obtain ⟨u, hu, h⟩ := List.any_eq_true.1 h
    have := ok.turn u hu
    simp [endsB] at h
    omega
  · intro h
    obtain ⟨u, hu, h⟩ := List.any_eq_true.1 h
    have := ok.turn u hu
    simp [namesNo, absent, btw] at h
    omega
  · intro h
    obtain ⟨u, hu, h⟩ := List.any_eq_true.1 h
    have := ok.word u hu
    simp [badWord, btw] at h
    omega
structure MoreOk (t t' : Text) : Prop where
  ok : Text.Ok t'
  er : t'.err = 0
  n : t'.words.length = t.words.length
  ct : cntN t ≤ cntN t'
  fw : fewE t = 0 → fewE t' = 0 ∧ (evR t').2.2 = 0 ∧ nevE t' = 0 ∧ (fewL t').length ≤ (fewL t).length ∧ (evR t').2.1 ≤ (evR t).2.1 ∧ (nevL t').any (fun x => !(nevL t).contains x) = false
theorem more_ok {t t' : Text} (ok : Text.Ok t) (ok' : Text.Ok t') (h : More t t') : MoreOk t t' := by
  have he := ok_err ok
  have he' := ok_err ok'
  have hl := h.len
  have hsy : ∀ x ∈ t.words, 1 ≤ x.syl ∧ x.syl ≤ 9 := fun x hx => ⟨(ok.word x hx).1, (ok.word x hx).2.1⟩
  have hsy' : ∀ x ∈ t'.words, 1 ≤ x.syl ∧ x.syl ≤ 9 := fun x hx => ⟨(ok'.word x hx).1, (ok'.word x hx).2.1⟩
  refine ⟨ok', he', hl, ?_, fun hf => ?_⟩
  · unfold cntN
    rw [if_pos he, if_pos he', hl]
    exact_mod_cast count_mono h.right
  · have hf0 : (fewest t.right t.words.length).2 = 0 := by rw [← hf]; exact (if_pos he).symm
    obtain ⟨g1, g2⟩ := few_mono ok.n1 ok.n12 h.right hf0
    have hez : (evR t).2.2 = 0 := by rw [even_err he hsy ok.n1 ok.n12 ok.b1, hf0]
    obtain ⟨e1, e2⟩ := even_more h he he' hsy hsy' ok.n1 ok.n12 ok.b1 ok'.b1 hez
    refine ⟨?_, e1, ?_, ?_, e2, ?_⟩
    · unfold fewE; rw [if_pos he', hl]; exact g1
    · unfold nevE; rw [if_pos he', hl, unbroken_err ok.n1 ok.n12]; exact g1
    · unfold fewL; rw [if_pos he, if_pos he', hl]; exact g2
    · rw [← Bool.not_eq_true]
      intro ha
      obtain ⟨x, hx, h2⟩ := List.any_eq_true.1 ha
      unfold nevL at hx h2
      rw [if_pos he', hl] at hx
      rw [if_pos he] at h2
      have := never_mono ok.n1 ok.n12 h.right hf0 hx
      rw [Bool.not_eq_true', ← Bool.not_eq_true, List.contains_iff_mem] at h2
      exact h2 this
theorem more_same {t : Text} (ok : Text.Ok t) : cntN t = (count t.right t.words.length 0 : Int) ∧ (evR t).2.2 = fewE t ∧ nevE t = fewE t ∧ ((fewE t = 0 ∧ 0 < cntN t) ∨ (fewE t = 6 ∧ cntN t = 0)) := by
  have he := ok_err ok
  have hsy : ∀ x ∈ t.words, 1 ≤ x.syl ∧ x.syl ≤ 9 := fun x hx => ⟨(ok.word x hx).1, (ok.word x hx).2.1⟩
  have h1 : fewE t = (fewest t.right t.words.length).2 := if_pos he
  have h2 : cntN t = (count t.right t.words.length 0 : Int) := if_pos he
  refine ⟨h2, by rw [even_err he hsy ok.n1 ok.n12 ok.b1, h1], ?_, ?_⟩
  · unfold nevE; rw [if_pos he, unbroken_err ok.n1 ok.n12, h1]
  · rw [h1, h2]
    rcases fewest_err (may := t.right) ok.n1 ok.n12 with ⟨g1, g2⟩ | ⟨g1, g2⟩
    · exact .inl ⟨g1, by omega⟩
    · exact .inr ⟨g1, by omega⟩
def stopT (t : Text) (k : Nat) : Text := { t with words := t.words.set k { t.words.getD k default with stop := true } }
def breathT (t : Text) (x : Int) : Text := { t with breath := min 40 (t.breath + x) }
def turnT (t : Text) (i : Nat) : Text := { t with turns := t.turns.eraseIdx i }
theorem stop_ok {t : Text} (ok : Text.Ok t) {k : Nat} (hk : k < t.words.length) : MoreOk t (stopT t k) := by
  have hl : (stopT t k).words.length = t.words.length := by simp [stopT]
  refine more_ok ok ⟨by rw [hl]; exact ok.n1, by rw [hl]; exact ok.n12, ok.m6, ok.b1, ok.b40, fun x hx => ?_, fun u hu => by rw [hl]; exact ok.turn u hu⟩ (more_stop t k hk _ rfl rfl rfl)
  rcases List.mem_or_eq_of_mem_set hx with h | h
  · exact ok.word x h
  · rw [h]
    exact ok.word (t.words.getD k default) (getD_mem default hk)
theorem breath_ok {t : Text} (ok : Text.Ok t) {x : Int} (hx : 0 ≤ x) : MoreOk t (breathT t x) := by
  have h1 := ok.b1
  have h2 := ok.b40
  refine more_ok ok ⟨ok.n1, ok.n12, ok.m6, ?_, ?_, ok.word, ok.turn⟩ (more_breath t _ rfl rfl ?_)
  · show 1 ≤ min 40 (t.breath + x); omega
  · show min 40 (t.breath + x) ≤ 40; omega
  · show t.breath ≤ min 40 (t.breath + x); omega
theorem turn_ok {t : Text} (ok : Text.Ok t) (i : Nat) : MoreOk t (turnT t i) := by
  have hs : ∀ u ∈ (turnT t i).turns, u ∈ t.turns := fun u hu => List.mem_of_mem_eraseIdx hu
  refine more_ok ok ⟨ok.n1, ok.n12, ?_, ok.b1, ok.b40, ok.word, fun u hu => ok.turn u (hs u hu)⟩ (more_turn t _ rfl hs rfl)
  have := List.length_eraseIdx_le t.turns i
  have := ok.m6
  show (t.turns.eraseIdx i).length ≤ 6
  omega
end Go.Proofs.Ytadnggecnjdhiaa
namespace Go.Proofs.Ytadnggecnjdhiaa.Rdt
set_option linter.unusedSimpArgs false
set_option linter.unusedVariables false
open Go Go.RowKit Go.Proofs.Ytadnggecnjdhiaa.Rs
variable {P : Program} {ops : Array Oper}
section main
variable {n : Nat} {dl : List (List Nat)} {a0 : Act} {w0 : World} {Q : Exit → Act → World → Prop}
/-- as Inv, and what the operations made is apart -/
structure Inv2 (bl : Nat → Value → List Nat) (ops : Array Oper) (n : Nat) (dl : List (List Nat)) (Spec : Nat → List Value → Value → World → Prop) (a0 : Act) (w0 : World) (V : Nat → Value) (listed : Array Bool) (a : Act) (w : World) : Prop extends Rs.Inv ops n dl Spec a0 w0 V listed a w where
  ap : ∀ i k, i < n → k < n → listed.getD i false = true → listed.getD k false = true → i ≠ k → ∀ b ∈ bl i (V i), b ∉ bl k (V k)
def New (bl : Nat → Value → List Nat) (i : Nat) (v : Value) (w : World) : Prop := ∀ b ∈ bl i v, w.heap.size ≤ b
theorem Inv2.step {bl : Nat → Value → List Nat} {Spec : Nat → List Value → Value → World → Prop} {V : Nat → Value} {listed : Array Bool} {a : Act} {w w' : World} (inv : Inv2 bl ops n dl Spec a0 w0 V listed a w) {i : Nat} {o : Oper} {v : Value} (hi : ops[i]? = some o) (hin : i < n) (hiu : listed.getD i false = false)
    (hri : i ∈ Region.ready .any ops listed)
    (hdl : ∀ j, j < n → ∀ k ∈ dl.getD j [], k < n ∧ k ∈ depsOf ops n j)
    (hnd : ∀ j k, j < n → k < n → j ≠ k → ∀ d, dstOf ops k = some d → dstOf ops j ≠ some d)
    (stable : ∀ i L v w w', Spec i L v w → Gr w w' → Spec i L v w')
    (old : ∀ i L v w, Spec i L v w → ∀ b ∈ bl i v, b < w.heap.size)
    (hg : Gr w w') (hs : Spec i ((dl.getD i []).map V) v w') (hn : New bl i v w) :
    Inv2 bl ops n dl Spec a0 w0 (fun k => if k = i then v else V k) (listed.setIfInBounds i true) (a.put o.dst v) w' := by
  refine ⟨inv.toInv.step hi hin hiu hri hdl hnd stable hg hs, fun j k hj hk hlj hlk hjk => ?_⟩
  have hl : ∀ m, m ≠ i → (listed.setIfInBounds i true).getD m false = true → listed.getD m false = true := fun m hm h => by
    rwa [getD_set_ne false (fun e => hm e.symm)] at h
  by_cases hji : j = i
  · subst hji
    have hkj : k ≠ j := fun e => hjk e.symm
    simp only [if_true, if_neg hkj]
    intro b hb hb2
    have h1 := hn b hb
    have h2 := old _ _ _ _ (inv.spec k hk (hl k hkj hlk)) b hb2
    omega
  · by_cases hki : k = i
    · subst hki
      simp only [if_true, if_neg hji]
      intro b hb hb2
      have h1 := hn b hb2
      have h2 := old _ _ _ _ (inv.spec j hj (hl j hji hlj)) b hb
      omega
    · simp only [if_neg hji, if_neg hki]
      exact inv.ap j k hj hk (hl j hji hlj) (hl k hki hlk) hjk
theorem head_all (bl : Nat → Value → List Nat) {Spec : Nat → List Value → Value → World → Prop} (g : Nat)
    (hsel : ∀ (j : Nat) (o : Oper) cs b, ops[j]? = some o → o.op ≠ .select cs b) (hn : n ≤ ops.size)
    (hsink : n = ops.size ∨ (Region.sinkB .any ops n = true ∧ Region.chainB .any ops n = true))
    (hlow : ∀ i, i < n → ∀ o, ops[i]? = some o → ∀ e ∈ o.after, Region.binds .any e = true → e.on < i)
    (hdl : ∀ j, j < n → ∀ k ∈ dl.getD j [], k < n ∧ k ∈ depsOf ops n j)
    (hlook : ∀ i, i < n → ∀ o, ops[i]? = some o → ∀ k, k < n → ∀ d, dstOf ops k = some d → (d ∈ o.looksAt ops → k ∈ dl.getD i [] ∨ i ∈ depsOf ops n k ∨ i = k) ∧ True)
    (hnd : ∀ j k, j < n → k < n → j ≠ k → ∀ d, dstOf ops k = some d → dstOf ops j ≠ some d)
    (stable : ∀ i L v w w', Spec i L v w → Gr w w' → Spec i L v w')
    (old : ∀ i L v w, Spec i L v w → ∀ b ∈ bl i v, b < w.heap.size)
    (step : ∀ i o V w, ops[i]? = some o → i < n → Gr w0 w → (∀ k ∈ dl.getD i [], Spec k ((dl.getD k []).map V) (V k) w) → StepOk P ops o (canon ops V a0 (dl.getD i [])) w (fun v w' => Spec i ((dl.getD i []).map V) v w' ∧ New bl i v w))
    (fin : ∀ V listed a w, Inv2 bl ops n dl Spec a0 w0 V listed a w → (∀ k, k < n → listed.getD k false = true) → wpAny P .any ops Q g listed a w) :
    ∀ (f : Nat) (V : Nat → Value) (listed : Array Bool) (a : Act) (w : World), left n listed = f → Inv2 bl ops n dl Spec a0 w0 V listed a w → wpAny P .any ops Q (f + g) listed a w := by
  intro f
  induction f with
  | zero => intro V listed a w hf inv; rw [Nat.zero_add]; exact fin V listed a w inv (left_zero hf)
  | succ f ih =>
    intro V listed a w hf inv
    have hun : ∃ i, i < n ∧ listed.getD i false = false ∧ ∀ j, j < i → listed.getD j false = true := by
      have hex : ∃ i, i < n ∧ listed.getD i false = false := by
        apply Classical.byContradiction
        intro hno
        have : left n listed = 0 := by
          unfold left
          rw [List.length_eq_zero_iff, List.filter_eq_nil_iff]
          intro i hi
          cases hv : listed.getD i false with
          | true => simp
          | false => exact absurd ⟨i, List.mem_range.1 hi, hv⟩ hno
        omega
      obtain ⟨i, h1, h2⟩ := hex
      induction i using Nat.strongRecOn with
      | _ i ihi =>
        by_cases h3 : ∀ j, j < i → listed.getD j false = true
        · exact ⟨i, h1, h2, h3⟩
        · simp only [Classical.not_forall] at h3
          obtain ⟨j, hj, hj2⟩ := h3
          exact ihi j hj (by omega) (by simpa using hj2)
    obtain ⟨i0, hi0, hi0u, hi0m⟩ := hun
    have hready0 : i0 ∈ Region.ready .any ops listed := by
      rw [mem_ready]
      have hlt : i0 < ops.size := by omega
      refine ⟨getD_in (by rw [inv.head.size]; exact hlt) hi0u, ops[i0], Array.getElem?_eq_getElem hlt, fun e he hb => hi0m _ (hlow i0 hi0 _ (Array.getElem?_eq_getElem hlt) e he hb)⟩
    rw [show f + 1 + g = (f + g) + 1 by omega]
    refine ⟨fun h => (by rw [h] at hready0; cases hready0), fun i hi => ?_⟩
    obtain ⟨hiu, o, ho, hall⟩ := mem_ready.1 hi
    have hiu' := getD_both hiu
    have hilt : i < ops.size := (Array.getElem?_eq_some_iff.1 ho).1
    have hin : i < n := by
      rcases hsink with h | ⟨h1, h2⟩
      · omega
      · by_cases hns : n < ops.size
        · rcases Nat.lt_or_ge i n with h | h
          · exact h
          · exact absurd hi (tail_waits h1 h2 hns inv.head _ i0 rfl hi0 (getD_in (by rw [inv.head.size]; omega) hi0u) i h)
        · omega
    have hso := step i o V w ho hin inv.gr (fun k hk => inv.spec k (hdl i hin k hk).1 (depsOf_listed inv.head.closed n i (fun o' ho' => by rw [ho] at ho'; cases ho'; exact hall) k (hdl i hin k hk).2))
    have hlk := inv.toInv.looks ho hin hiu' hall (hdl i hin) (hlook i hin o ho) hnd
    have hw := wanted_congr (ops := ops) o hlk
    have hex := exec_congr (ops := ops) o (fun cs b => hsel i o cs b ho) hlk
    have hnext : ∀ v w', Gr w w' → (Spec i ((dl.getD i []).map V) v w' ∧ New bl i v w) → wpAny P .any ops Q (f + g) (listed.setIfInBounds i true) (a.put o.dst v) w' := fun v w' hg hs =>
      ih _ _ _ _ (by have := left_set (n := n) hin (by rw [inv.head.size]; exact hilt) hiu'; omega) (inv.step ho hin hiu' hi hdl hnd stable old hg hs.1 hs.2)
    unfold StepOk at hso
    rw [← hw] at hso
    unfold wpOp
    simp only [ho]
    by_cases hwt : Region.wanted o (yielded ops a.tmps) = true
    · rw [if_pos hwt] at hso ⊢
      refine .inl ?_
      unfold GrowAt at hso
      unfold Oper.wp
      rw [← hex] at hso
      generalize (execOp a.eval o).run P w = r at hso
      cases r with
      | halt x w' => exact hso.elim
      | ok nx w' =>
        cases nx with
        | value v => exact hnext v w' hso.1 hso.2
        | skip => exact hnext undef w' hso.1 hso.2
        | enter fn args =>
          refine hso.2.mono ?_
          rintro e w'' ⟨v, rfl, h1, h2⟩
          exact hnext v w'' (hso.1.trans h1) h2
        | _ => exact hso.elim
    · rw [if_neg hwt] at hso ⊢
      exact hnext undef w (Gr.refl _) hso

theorem region_spec (bl : Nat → Value → List Nat) {id : Nat} {l : List Oper} {w : World} {a0 : Act} {Q : Exit → Act → World → Prop} (n : Nat) (dl : List (List Nat)) (hm : P.follows .mixedOrders = true) (hB : shapeB l.toArray n dl = true)
    (Spec : Nat → List Value → Value → World → Prop) (stable : ∀ i L v w w', Spec i L v w → Gr w w' → Spec i L v w') (old : ∀ i L v w, Spec i L v w → ∀ b ∈ bl i v, b < w.heap.size)
    (step : ∀ i o V w', l[i]? = some o → i < n → Gr w w' → (∀ k ∈ dl.getD i [], Spec k ((dl.getD k []).map V) (V k) w') → StepOk P l.toArray o (canon l.toArray V a0 (dl.getD i [])) w' (fun v w'' => Spec i ((dl.getD i []).map V) v w'' ∧ New bl i v w'))
    (fin : ∀ V w', Gr w w' → (∀ k, k < n → Spec k ((dl.getD k []).map V) (V k) w') → (∀ i k, i < n → k < n → i ≠ k → ∀ b ∈ bl i (V i), b ∉ bl k (V k)) → wpList P l.toArray Q (l.drop n) (canon l.toArray V a0 (List.range n)) w') :
    (Code.region id l.toArray true).wp P Q a0 w := by
  simp only [shapeB, Bool.and_eq_true, decide_eq_true_eq, Bool.or_eq_true] at hB
  obtain ⟨⟨⟨⟨⟨hsel, hn⟩, hdlen⟩, hsink⟩, hall⟩, hseq⟩ := hB
  rw [List.all_eq_true] at hall
  have hops : ∀ i, i < n → ∃ o, l.toArray[i]? = some o ∧ (∀ e ∈ o.after, Region.binds .any e = true → e.on < i) ∧ (∀ k ∈ dl.getD i [], k < n ∧ k ∈ depsOf l.toArray n i) ∧
      (∀ k, k < n → ∀ d, dstOf l.toArray k = some d → (d ∈ o.looksAt l.toArray → k ∈ dl.getD i [] ∨ i ∈ depsOf l.toArray n k ∨ i = k) ∧ (k ≠ i → dstOf l.toArray i ≠ some d)) := by
    intro i hi
    have h := hall i (List.mem_range.2 hi)
    cases ho : l.toArray[i]? with
    | none => rw [ho] at h; cases h
    | some o =>
      rw [ho] at h
      simp only [Bool.and_eq_true, List.all_eq_true] at h
      obtain ⟨⟨h1, h2⟩, h3⟩ := h
      refine ⟨o, rfl, fun e he hb => ?_, fun k hk => ?_, fun k hk d hd => ?_⟩
      · have := h1 e (by simpa using he)
        rw [hb] at this; simpa using this
      · have := h2 k hk
        simpa using this
      · have := h3 k (List.mem_range.2 hk)
        rw [hd] at this
        simp only [Bool.and_eq_true, Bool.or_eq_true, Bool.not_eq_true', beq_iff_eq, decide_eq_true_eq, List.contains_iff_mem] at this
        refine ⟨fun hm => ?_, fun hne => ?_⟩
        · rcases this.1 with ((h | h) | h) | h
          · rw [show (o.looksAt l.toArray).contains d = true from List.contains_iff_mem.2 hm] at h; cases h
          · exact .inl h
          · exact .inr (.inl h)
          · exact .inr (.inr h)
        · rcases this.2 with h | h
          · exact absurd h hne
          · exact h
  have hnd : ∀ j k, j < n → k < n → j ≠ k → ∀ d, dstOf l.toArray k = some d → dstOf l.toArray j ≠ some d := fun j k hj hk hne d hd => by
    obtain ⟨o, _, _, _, h⟩ := hops j hj
    exact (h k hk d hd).2 (fun e => hne e.symm)
  refine wp_region_any hm ?_
  have inv0 : Inv2 bl l.toArray n dl Spec a0 w (fun _ => undef) (Array.replicate l.toArray.size false) a0 { w with drawn := w.drawn + 1 } :=
    ⟨⟨⟨by simp, fun j oj _ hl => (by rw [getD_replicate_false] at hl; cases hl), fun t _ ht => getD_in (by simpa using ht) (getD_replicate_false _ _)⟩, rfl, rfl,
      fun k _ hl => (by rw [getD_replicate_false] at hl; cases hl), fun _ _ => rfl, fun k _ hl => (by rw [getD_replicate_false] at hl; cases hl), (Below.refl _ _).drew⟩, fun i k _ _ hl => (by rw [getD_replicate_false] at hl; cases hl)⟩
  have hleft : left n (Array.replicate l.toArray.size false) = n := by
    unfold left
    rw [List.filter_eq_self.2 (fun i _ => by rw [getD_replicate_false]; rfl)]
    simp
  have := head_all bl (P := P) (Q := Q) (Spec := Spec) (dl := dl) (a0 := a0) (w0 := w) (l.toArray.size - n) (Region.noSelect_spec hsel) hn (by rcases hsink with h | h; exact .inl h; exact .inr h)
    (fun i hi o ho e he hb => by obtain ⟨o', ho', h1, _⟩ := hops i hi; rw [ho] at ho'; cases ho'; exact h1 e he hb)
    (fun j hj => by obtain ⟨_, _, _, h, _⟩ := hops j hj; exact h)
    (fun i hi o ho k hk d hd => by obtain ⟨o', ho', _, _, h⟩ := hops i hi; rw [ho] at ho'; cases ho'; exact ⟨(h k hk d hd).1, trivial⟩)
    hnd stable old (fun i o V w' ho => step i o V w' (by simpa using ho)) ?_ n _ _ _ _ hleft inv0
  · rwa [show n + (l.toArray.size - n) = l.toArray.size by omega] at this
  · intro V listed a w' inv hl
    have hld : listed = ((List.range l.toArray.size).map (fun i => decide (i < n))).toArray := by
      apply Array.ext
      · rw [inv.head.size]; simp
      · intro i h1 h2
        have hi : i < l.toArray.size := by rw [inv.head.size] at h1; exact h1
        have e2 : ((List.range l.toArray.size).map (fun i => decide (i < n))).toArray[i] = decide (i < n) := by simp
        rw [e2]
        by_cases hin : i < n
        · have := hl i hin
          simp only [hin, decide_true]
          simpa [h1] using this
        · have := inv.head.tail i (by omega) hi
          simp only [hin, decide_false]
          simpa [h1] using this
    have hact : a = canon l.toArray V a0 (List.range n) := by
      have ht : a.tmps = (canon l.toArray V a0 (List.range n)).tmps := by
        apply Array.ext_getElem?
        intro d
        by_cases hlt : d < a0.tmps.size
        · by_cases hex : ∃ k, k < n ∧ dstOf l.toArray k = some d
          · obtain ⟨k, hk, hd⟩ := hex
            rw [inv.slot k hk (hl k hk) d hd hlt, canon_in V hd _ _ (List.mem_range.2 hk) (fun j hj hjk => hnd j k (List.mem_range.1 hj) hk hjk d hd) hlt]
          · rw [inv.other d (fun k hk _ e => hex ⟨k, hk, e⟩), canon_out V _ _ (fun k hk e => hex ⟨k, List.mem_range.1 hk, e⟩)]
        · have e1 : a.tmps[d]? = none := Array.getElem?_eq_none (by rw [inv.size]; exact Nat.le_of_not_lt hlt)
          have e2 : (canon l.toArray V a0 (List.range n)).tmps[d]? = none := Array.getElem?_eq_none (by rw [size_canon]; exact Nat.le_of_not_lt hlt)
          rw [e1, e2]
      have hdf : a.defers = (canon l.toArray V a0 (List.range n)).defers := by rw [inv.defers, defers_canon]
      obtain ⟨t, d⟩ := a
      generalize canon l.toArray V a0 (List.range n) = b at ht hdf
      obtain ⟨t', d'⟩ := b
      dsimp only at ht hdf
      rw [ht, hdf]
    have hf := fin V w' inv.gr (fun k hk => inv.spec k hk (hl k hk)) (fun i k hi hk hik => inv.ap i k hi hk (hl i hi) (hl k hk) hik)
    rw [← hact] at hf
    have hdl : (l.drop n).length = l.toArray.size - n := by simp
    have hsq := wpAny_of_seq (P := P) (md := .any) (Q' := Q) (l.drop n) n listed a w' (fun j => by simp [List.getElem?_drop]) (by rw [hdl, hld]; exact hseq) hf
    rwa [hdl] at hsq
/-- each operation by what it leaves, which may be told of what the others left -/
def genSteps (bl : Nat → Value → List Nat) (P : Program) (ds : List (Option Nat)) (a0 : Act) (w : World) (dl0 : List (List Nat)) (Sp : Nat → List Value → Value → World → Prop) : List Oper → Nat → List (List Nat) → Prop
  | o :: l, i, d :: dl => (∀ (V : Nat → Value) w', Gr w w' → (∀ k ∈ d, Sp k ((dl0.getD k []).map V) (V k) w') → if wantB o V = true then GrowL P o (Rs.look ds V a0 d) w' (fun v w'' => Sp i (d.map V) v w'' ∧ New bl i v w') else (Sp i (d.map V) undef w' ∧ New bl i undef w')) ∧ genSteps bl P ds a0 w dl0 Sp l (i + 1) dl
  | _, _, _ => True
theorem genSteps_get {bl : Nat → Value → List Nat} {ds : List (Option Nat)} {a0 : Act} {w : World} {dl0 : List (List Nat)} {Sp : Nat → List Value → Value → World → Prop} : ∀ (l : List Oper) (i : Nat) (dl : List (List Nat)), genSteps bl P ds a0 w dl0 Sp l i dl → ∀ (j : Nat) (o : Oper) (d : List Nat), l[j]? = some o → dl[j]? = some d →
    ∀ (V : Nat → Value) w', Gr w w' → (∀ k ∈ d, Sp k ((dl0.getD k []).map V) (V k) w') → if wantB o V = true then GrowL P o (Rs.look ds V a0 d) w' (fun v w'' => Sp (i + j) (d.map V) v w'' ∧ New bl (i + j) v w') else (Sp (i + j) (d.map V) undef w' ∧ New bl (i + j) undef w')
  | [], _, _, _, j, o, d, ho, _ => by simp at ho
  | _ :: _, _, [], _, j, o, d, _, hd => by simp at hd
  | o' :: l, i, d' :: dl, h, 0, o, d, ho, hd => by simp at ho hd; subst ho; subst hd; exact h.1
  | o' :: l, i, d' :: dl, h, j + 1, o, d, ho, hd => by
    have := genSteps_get l (i + 1) dl h.2 j o d (by simpa using ho) (by simpa using hd)
    rwa [show i + (j + 1) = i + 1 + j by omega]

/-- **A region by what each of its first operations leaves**, in whatever order. -/
theorem region_gen (bl : Nat → Value → List Nat) {id : Nat} {l : List Oper} {w : World} {a0 : Act} {Q : Exit → Act → World → Prop} (n : Nat) (dl : List (List Nat)) (ds : List (Option Nat)) (Sp : Nat → List Value → Value → World → Prop) (hm : P.follows .mixedOrders = true) (hB : shapeB l.toArray n dl = true) (hS : slotsB l.toArray n a0.tmps.size dl ds = true)
    (stable : ∀ i L v w w', Sp i L v w → Gr w w' → Sp i L v w') (old : ∀ i L v w, Sp i L v w → ∀ b ∈ bl i v, b < w.heap.size)
    (step : genSteps bl P ds a0 w dl Sp l 0 dl)
    (fin : ∀ V w', Gr w w' → (∀ k, k < n → Sp k ((dl.getD k []).map V) (V k) w') → (∀ i k, i < n → k < n → i ≠ k → ∀ b ∈ bl i (V i), b ∉ bl k (V k)) → wpList P l.toArray Q (l.drop n) (canon l.toArray V a0 (List.range n)) w') :
    (Code.region id l.toArray true).wp P Q a0 w := by
  have hB' := hB
  simp only [shapeB, Bool.and_eq_true, decide_eq_true_eq] at hB'
  obtain ⟨⟨⟨⟨⟨hsel, hn⟩, hdlen⟩, _⟩, hall⟩, _⟩ := hB'
  rw [List.all_eq_true] at hall
  unfold slotsB at hS
  rw [List.all_eq_true] at hS
  have hdst : ∀ i, i < n → dstOf l.toArray i = ds.getD i none ∧ ∀ d, dstOf l.toArray i = some d → d < a0.tmps.size := fun i hi => by
    have h := hS i (List.mem_range.2 hi)
    simp only [Bool.and_eq_true, beq_iff_eq] at h
    refine ⟨h.1.1, fun d hd => ?_⟩
    have h2 := h.1.2
    rw [← h.1.1, hd] at h2
    simpa using h2
  refine region_spec bl n dl hm hB Sp stable old (fun i o V w' ho hi hg hs => ?_) fin
  have hst := genSteps_get l 0 dl step i o (dl.getD i []) ho (by simp [List.getElem?_eq_getElem (show i < dl.length by omega)]) V w' hg hs
  rw [Nat.zero_add] at hst
  have hio := hall i (List.mem_range.2 hi)
  have hoo : l.toArray[i]? = some o := by simpa using ho
  rw [hoo] at hio
  simp only [Bool.and_eq_true, List.all_eq_true] at hio
  obtain ⟨⟨_, h2⟩, h3⟩ := hio
  have hdl : ∀ k ∈ dl.getD i [], k < n := fun k hk => by have := h2 k hk; simp only [Bool.and_eq_true, decide_eq_true_eq] at this; exact this.1
  have hnd : ∀ j k, j < n → k < n → j ≠ k → ∀ d, dstOf l.toArray k = some d → dstOf l.toArray j ≠ some d := fun j k hj hk hne d hd => by
    have h := hall j (List.mem_range.2 hj)
    cases hoj : l.toArray[j]? with
    | none => rw [hoj] at h; cases h
    | some oj =>
      rw [hoj] at h
      simp only [Bool.and_eq_true, List.all_eq_true] at h
      have := h.2 k (List.mem_range.2 hk)
      rw [hd] at this
      simp only [Bool.and_eq_true, Bool.or_eq_true, beq_iff_eq, decide_eq_true_eq] at this
      rcases this.2 with h | h
      · exact absurd h.symm hne
      · exact h
  have hslot : ∀ t, (canon l.toArray V a0 (dl.getD i [])).eval (.tmp t) = Rs.look ds V a0 (dl.getD i []) (.tmp t) := fun t => by
    unfold Rs.look
    simp only
    split
    · rename_i k hk
      have hkm := List.mem_of_find?_eq_some hk
      have hkd := List.find?_some hk
      simp only [beq_iff_eq] at hkd
      have hkn := hdl k hkm
      have e : dstOf l.toArray k = some t := by rw [(hdst k hkn).1]; exact hkd
      have := canon_in (ops := l.toArray) V e (dl.getD i []) a0 hkm (fun j hj hjk => hnd j k (hdl j hj) hkn hjk t e) ((hdst k hkn).2 t e)
      simp only [Act.eval, Array.getD_eq_getD_getElem?, this, Option.getD_some]
    · rename_i hk
      have hno : ∀ k ∈ dl.getD i [], dstOf l.toArray k ≠ some t := fun k hkm e => by
        have := List.find?_eq_none.1 hk k hkm
        rw [(hdst k (hdl k hkm)).1] at e
        rw [e] at this; exact this (by simp)
      have := canon_out (ops := l.toArray) V (d := t) (dl.getD i []) a0 hno
      simp only [Act.eval, Array.getD_eq_getD_getElem?, this]
  have hex : execOp (canon l.toArray V a0 (dl.getD i [])).eval o = execOp (Rs.look ds V a0 (dl.getD i [])) o :=
    execOp_congr o (fun c b => Region.noSelect_spec hsel i o c b hoo) fun x _ => by
      cases x with
      | tmp t => exact hslot t
      | _ => rfl
  have hwant : Region.wanted o (yielded l.toArray (canon l.toArray V a0 (dl.getD i [])).tmps) = wantB o V := by
    unfold Region.wanted wantB
    cases hgd : o.guard with
    | none => rfl
    | some gb =>
      obtain ⟨g, b⟩ := gb
      have h := hS i (List.mem_range.2 hi)
      rw [hoo] at h
      simp only [Option.bind_some, hgd, Bool.and_eq_true, List.contains_iff_mem] at h
      obtain ⟨hgm, hgs⟩ := h.2
      obtain ⟨t, ht⟩ := Option.isSome_iff_exists.1 hgs
      have hgn := hdl g hgm
      have hv := canon_in (ops := l.toArray) V ht (dl.getD i []) a0 hgm (fun j hj hjk => hnd j g (hdl j hj) hgn hjk t ht) ((hdst g hgn).2 t ht)
      have hy : yielded l.toArray (canon l.toArray V a0 (dl.getD i [])).tmps g = match V g with | .bool x => some x | _ => none := by
        unfold yielded
        unfold dstOf at ht
        simp only [ht, Option.bind_some, hv]
        cases V g <;> rfl
      simp only [hy]
      cases V g <;> simp
  unfold StepOk
  rw [hwant]
  by_cases hw : wantB o V = true
  · rw [if_pos hw] at hst ⊢
    unfold GrowL at hst
    unfold GrowAt
    rw [hex]
    exact hst
  · rw [if_neg hw] at hst ⊢
    exact hst
end main
end Go.Proofs.Ytadnggecnjdhiaa.Rdt
set_option linter.unusedSimpArgs false
set_option linter.unusedVariables false
namespace Go.Proofs.Ytadnggecnjdhiaa
open Go.RowKit Tx

theorem own_lt {w : World} {base : Nat} {e : TypeId} {s g n c k : Nat} {xs : List Value} (h : w.ownsRow base e s (.slice (some ⟨g, 0, none⟩) n c) k xs) : base ≤ g ∧ g < w.heap.size := by
  rcases h.2 with ⟨h1, _⟩ | ⟨g', cap, cur, hv, hb, hg, _⟩
  · cases h1
  · injection hv with e1 _ _
    injection e1 with e1; injection e1 with e1
    subst e1
    exact ⟨hb, (Array.getElem?_eq_some_iff.1 hg).1⟩
theorem own_holdB {Kp : Nat → Prop} {w w' : World} {base : Nat} {e : TypeId} {s g n c k : Nat} {xs : List Value} (h : w.ownsRow base e s (.slice (some ⟨g, 0, none⟩) n c) k xs) (hh : Hold Kp w w') (hk : Kp g) : w'.ownsRow base e s (.slice (some ⟨g, 0, none⟩) n c) k xs := by
  refine ⟨h.1, ?_⟩
  rcases h.2 with ⟨h1, h2⟩ | ⟨g', cap, cur, hv, hb, hg, h1, h2, h3, h4⟩
  · cases h1
  · injection hv with e1 e2 e3
    injection e1 with e1; injection e1 with e1
    subst e1; subst e3
    exact .inr ⟨g, c, cur, by rw [e2], hb, (hh.same g hk (Array.getElem?_eq_some_iff.1 hg).1).trans hg, h1, h2, h3, h4⟩
/-- the blocks that a value names -/
def blV : Value → List Nat
  | .pointer (some a) => [a.block]
  | .agg A => A.toList.filterMap fun v => match v with
    | .slice (some a) _ _ => some a.block
    | _ => none
  | _ => []
def blMo : Nat → Value → List Nat
  | 1, v => blV v
  | 3, v => blV v
  | 5, v => blV v
  | 6, v => blV v
  | 7, v => blV v
  | 8, v => blV v
  | _, _ => []
def storeText (w : World) (c : Nat) (a b x : Value) : World := ((w.setCell ⟨c, 0, none⟩ a).setCell ⟨c, 1, none⟩ b).setCell ⟨c, 2, none⟩ x
theorem storeText_same {w : World} {c : Nat} {u v z : Value} {ty : TypeId} (a b x : Value) (h : w.heap[c]? = some (.cells #[u, v, z] ty (0, 0))) : (storeText w c a b x).heap[c]? = some (.cells #[a, b, x] ty (0, 0)) := by
  unfold storeText
  exact heap_set_same x (heap_set_same b (heap_set_same a h))
theorem storeText_hold (w : World) (c : Nat) (a b x : Value) : Hold (fun j => j ≠ c) w (storeText w c a b x) := by
  unfold storeText
  exact ((Hold.setCell w _ _ (fun h => h rfl)).trans (Hold.setCell _ _ _ (fun h => h rfl))).trans (Hold.setCell _ _ _ (fun h => h rfl))
theorem storeText_bel {B : Nat} {A w : World} {c : Nat} (h : Below B A w) (hc : B ≤ c) (a b x : Value) : Below B A (storeText w c a b x) := ((h.setCell hc a).setCell hc b).setCell hc x
theorem Hold.blk {Kp : Nat → Prop} {A C : World} (h : Hold Kp A C) {c : Nat} (hc : Kp c) {o : Obj} (hb : A.heap[c]? = some o) : C.heap[c]? = some o := (h.same c hc (Array.getElem?_eq_some_iff.1 hb).1).trans hb
/-- a stop more in a row of words that is owned -/
theorem own_stop {w : World} {base g c : Nat} {ws : List Word} (k : Nat) (hk : k < ws.length) (h : w.ownsRow base 77 3 (.slice (some ⟨g, 0, none⟩) ws.length c) ws.length (wcells ws)) :
    (w.setCell ⟨g, k * 3 + 2, none⟩ (.bool true)).ownsRow base 77 3 (.slice (some ⟨g, 0, none⟩) ws.length c) ws.length (wcells (ws.set k { ws.getD k default with stop := true })) := by
  refine ⟨by rw [wcells_len, List.length_set], ?_⟩
  rcases h.2 with ⟨h1, _⟩ | ⟨g', cap, cur, hv, hb, hg, h1, h2, h3, h4⟩
  · cases h1
  · injection hv with e1 e2 e3
    injection e1 with e1; injection e1 with e1
    subst e1; subst e3
    refine .inr ⟨g, c, _, rfl, hb, heap_set_same _ hg, h1, h2, by rw [Array.size_setIfInBounds, h3], ?_⟩
    apply List.ext_getElem?
    intro j
    rw [List.getElem?_take, Array.getElem?_toList, Array.getElem?_setIfInBounds]
    by_cases hj : j < ws.length * 3
    · have hc : cur[j]? = (wcells ws)[j]? := by rw [← h4, List.getElem?_take, if_pos hj, Array.getElem?_toList]
      have hdm : j = j / 3 * 3 + j % 3 := by omega
      have hq : j / 3 < ws.length := by omega
      have hr : j % 3 < 3 := by omega
      have f1 := flat3_get default wcell (fun _ => rfl) ws (j / 3) (j % 3) hq hr
      have f2 := flat3_get default wcell (fun _ => rfl) (ws.set k { ws.getD k default with stop := true }) (j / 3) (j % 3) (by rw [List.length_set]; exact hq) hr
      rw [← hdm] at f1 f2
      rw [if_pos hj, hc]
      unfold wcells
      rw [f1, f2]
      by_cases hqk : j / 3 = k
      · subst hqk
        have e0 : (ws.set (j / 3) { ws.getD (j / 3) default with stop := true }).getD (j / 3) default = { ws.getD (j / 3) default with stop := true } := by simp [hk]
        rw [e0]
        by_cases hr2 : j % 3 = 2
        · rw [if_pos (by omega), if_pos (by omega), hr2]; rfl
        · rw [if_neg (by omega)]
          have : j % 3 = 0 ∨ j % 3 = 1 := by omega
          rcases this with h | h <;> rw [h] <;> rfl
      · have e0 : (ws.set k { ws.getD k default with stop := true }).getD (j / 3) default = ws.getD (j / 3) default := by
          simp [List.getElem?_set, Ne.symm hqk]
        rw [e0, if_neg (by omega)]
    · rw [if_neg hj, List.getElem?_eq_none (by rw [wcells_len, List.length_set]; omega)]
end Go.Proofs.Ytadnggecnjdhiaa
set_option linter.unusedSimpArgs false
set_option linter.unusedVariables false
namespace Go.Proofs.Ytadnggecnjdhiaa
open Go.RowKit Tx
attribute [local go_sem] Oper.semAt_some
/-- a text with more, in a box -/
def MoreAt (W : World) (t x : Text) (b : Nat) : Prop := ∃ (g h cw ct : Nat), W.heap[b]? = some (.cells #[.slice (some ⟨g, 0, none⟩) x.words.length cw, .slice (some ⟨h, 0, none⟩) x.turns.length ct, .int .i64 x.breath] 25 (0, 0)) ∧ TxAt W x (some ⟨g, 0, none⟩) (some ⟨h, 0, none⟩) ∧ (x.words.length ≤ cw ∧ cw ≤ maxLen) ∧ MoreOk t x
theorem MoreAt.below {W W' : World} {t x : Text} {b : Nat} (h : MoreAt W t x b) (hb : Below W.heap.size W W') : MoreAt W' t x b := by
  obtain ⟨g, h', cw, ct, h1, h2, h3, h4⟩ := h
  exact ⟨g, h', cw, ct, (hb.block b (Array.getElem?_eq_some_iff.1 h1).1).trans h1, h2.below hb, h3, h4⟩
theorem more_at {W : World} {t : Text} (x : Text) {b g h n m cw ct B : Nat} {br : Int} (hn : n = x.words.length) (hm : m = x.turns.length) (hb : br = x.breath)
    (box : W.heap[b]? = some (.cells #[.slice (some ⟨g, 0, none⟩) n cw, .slice (some ⟨h, 0, none⟩) m ct, .int .i64 br] 25 (0, 0)))
    (hw : W.ownsRow B 77 3 (.slice (some ⟨g, 0, none⟩) n cw) n (wcells x.words)) (ht : W.ownsRow B 80 3 (.slice (some ⟨h, 0, none⟩) m ct) m (tcells x.turns)) (mo : MoreOk t x) : MoreAt W t x b := by
  subst hn; subst hm; subst hb
  obtain ⟨p, c, e1, h1, h2, h3⟩ := own_wds hw rfl
  obtain ⟨q, d, e2, h4, -, -⟩ := own_tns ht rfl
  injection e1 with e1 _ e3
  injection e2 with e2 _ e4
  subst e1; subst e2; subst e3
  exact ⟨g, h, cw, ct, box, ⟨h1, h4⟩, ⟨h2, h3⟩, mo⟩
theorem nevL_len (t : Text) : (nevL t).length ≤ t.words.length := by
  unfold nevL Tx.unbroken
  split
  · split
    · simp
    · simp only [List.length_map]
      refine Nat.le_trans (List.length_filter_le _ _) ?_
      simp
  · simp
/-- text k of a row of texts, with more -/
def RowAt (W : World) (t : Text) (R k : Nat) : Prop := ∃ (x : Text) (g h cw ct : Nat), W.cell? ⟨R, k * 3, none⟩ = some (.slice (some ⟨g, 0, none⟩) x.words.length cw) ∧ W.cell? ⟨R, k * 3 + 1, none⟩ = some (.slice (some ⟨h, 0, none⟩) x.turns.length ct) ∧ W.cell? ⟨R, k * 3 + 2, none⟩ = some (.int .i64 x.breath) ∧ TxAt W x (some ⟨g, 0, none⟩) (some ⟨h, 0, none⟩) ∧ (x.words.length ≤ cw ∧ cw ≤ maxLen) ∧ MoreOk t x
theorem RowAt.below {W W' : World} {t : Text} {R k : Nat} (h : RowAt W t R k) (hR : R < W.heap.size) (hb : Below W.heap.size W W') : RowAt W' t R k := by
  obtain ⟨x, g, h', cw, ct, h1, h2, h3, h4, h5⟩ := h
  exact ⟨x, g, h', cw, ct, (hb.cell (p := ⟨R, k * 3, none⟩) hR).trans h1, (hb.cell (p := ⟨R, k * 3 + 1, none⟩) hR).trans h2, (hb.cell (p := ⟨R, k * 3 + 2, none⟩) hR).trans h3, h4.below hb, h5⟩
theorem row_at {w : World} {t x y z : Text} {o : Obj} {gA hA cA dA gB hB cB dB gC hC cC dC : Nat}
    (mA : TxAt w x (some ⟨gA, 0, none⟩) (some ⟨hA, 0, none⟩) ∧ (x.words.length ≤ cA ∧ cA ≤ maxLen) ∧ MoreOk t x)
    (mB : TxAt w y (some ⟨gB, 0, none⟩) (some ⟨hB, 0, none⟩) ∧ (y.words.length ≤ cB ∧ cB ≤ maxLen) ∧ MoreOk t y)
    (mC : TxAt w z (some ⟨gC, 0, none⟩) (some ⟨hC, 0, none⟩) ∧ (z.words.length ≤ cC ∧ cC ≤ maxLen) ∧ MoreOk t z) (W : World)
    (hW : W = (w.alloc o).alloc (.cells #[.slice (some ⟨gA, 0, none⟩) x.words.length cA, .slice (some ⟨hA, 0, none⟩) x.turns.length dA, .int .i64 x.breath, .slice (some ⟨gB, 0, none⟩) y.words.length cB, .slice (some ⟨hB, 0, none⟩) y.turns.length dB, .int .i64 y.breath, .slice (some ⟨gC, 0, none⟩) z.words.length cC, .slice (some ⟨hC, 0, none⟩) z.turns.length dC, .int .i64 z.breath] 25)) :
    ∀ k, k < 3 → RowAt W t (w.heap.size + 1) k := by
  have hl := heap_last (w.alloc o) (.cells #[.slice (some ⟨gA, 0, none⟩) x.words.length cA, .slice (some ⟨hA, 0, none⟩) x.turns.length dA, .int .i64 x.breath, .slice (some ⟨gB, 0, none⟩) y.words.length cB, .slice (some ⟨hB, 0, none⟩) y.turns.length dB, .int .i64 y.breath, .slice (some ⟨gC, 0, none⟩) z.words.length cC, .slice (some ⟨hC, 0, none⟩) z.turns.length dC, .int .i64 z.breath] 25)
  rw [World.size_alloc, ← hW] at hl
  have hb : Below w.heap.size w W := by rw [hW]; exact (below1 _ _).alloc (by simp) _
  intro k hk
  match k, hk with
  | 0, _ => exact ⟨x, gA, hA, cA, dA, blk_cells hl 0 _ rfl, blk_cells hl 1 _ rfl, blk_cells hl 2 _ rfl, mA.1.below hb, mA.2⟩
  | 1, _ => exact ⟨y, gB, hB, cB, dB, blk_cells hl 3 _ rfl, blk_cells hl 4 _ rfl, blk_cells hl 5 _ rfl, mB.1.below hb, mB.2⟩
  | 2, _ => exact ⟨z, gC, hC, cC, dC, blk_cells hl 6 _ rfl, blk_cells hl 7 _ rfl, blk_cells hl 8 _ rfl, mC.1.below hb, mC.2⟩
def spMo (t : Text) (p q : Option Addr) (c d B : Nat) : Nat → List Value → Value → World → Prop
  | 0, _, v, _ => v = .agg #[.slice p t.words.length c, .slice q t.turns.length d, .int .i64 t.breath]
  | 1, L, v, w => ∃ g h, v = .agg #[.slice (some ⟨g, 0, none⟩) t.words.length t.words.length, .slice (some ⟨h, 0, none⟩) t.turns.length t.turns.length, .int .i64 t.breath] ∧ w.ownsRow B 77 3 (.slice (some ⟨g, 0, none⟩) t.words.length t.words.length) t.words.length (wcells t.words) ∧ w.ownsRow B 80 3 (.slice (some ⟨h, 0, none⟩) t.turns.length t.turns.length) t.turns.length (tcells t.turns)
  | 2, _, v, _ => v = .agg #[.slice p t.words.length c, .slice q t.turns.length d, .int .i64 t.breath]
  | 3, L, v, w => ∃ g h, v = .agg #[.slice (some ⟨g, 0, none⟩) t.words.length t.words.length, .slice (some ⟨h, 0, none⟩) t.turns.length t.turns.length, .int .i64 t.breath] ∧ w.ownsRow B 77 3 (.slice (some ⟨g, 0, none⟩) t.words.length t.words.length) t.words.length (wcells t.words) ∧ w.ownsRow B 80 3 (.slice (some ⟨h, 0, none⟩) t.turns.length t.turns.length) t.turns.length (tcells t.turns)
  | 4, _, v, _ => v = .agg #[.slice p t.words.length c, .slice q t.turns.length d, .int .i64 t.breath]
  | 5, L, v, w => ∃ g h, v = .agg #[.slice (some ⟨g, 0, none⟩) t.words.length t.words.length, .slice (some ⟨h, 0, none⟩) t.turns.length t.turns.length, .int .i64 t.breath] ∧ w.ownsRow B 77 3 (.slice (some ⟨g, 0, none⟩) t.words.length t.words.length) t.words.length (wcells t.words) ∧ w.ownsRow B 80 3 (.slice (some ⟨h, 0, none⟩) t.turns.length t.turns.length) t.turns.length (tcells t.turns)
  | 6, L, v, w => ∃ p, v = .pointer (some ⟨p, 0, none⟩) ∧ B ≤ p ∧ w.heap[p]? = some (.cells #[.slice none 0 0, .slice none 0 0, .int .i64 0] 25 (0, 0))
  | 7, L, v, w => ∃ p, v = .pointer (some ⟨p, 0, none⟩) ∧ B ≤ p ∧ w.heap[p]? = some (.cells #[.slice none 0 0, .slice none 0 0, .int .i64 0] 25 (0, 0))
  | 8, L, v, w => ∃ p, v = .pointer (some ⟨p, 0, none⟩) ∧ B ≤ p ∧ w.heap[p]? = some (.cells #[.slice none 0 0, .slice none 0 0, .int .i64 0] 25 (0, 0))
  | _, _, _, _ => False
theorem spMo_stable (t : Text) (p q : Option Addr) (c d B : Nat) : ∀ i L v w w', spMo t p q c d B i L v w → Rs.Gr w w' → spMo t p q c d B i L v w' := by
  intro i L v w w' h hg
  match i with
  | 0 => exact h
  | 1 => obtain ⟨g, h, h1, h2, h3⟩ := h; exact ⟨g, h, h1, own_below h2 hg, own_below h3 hg⟩
  | 2 => exact h
  | 3 => obtain ⟨g, h, h1, h2, h3⟩ := h; exact ⟨g, h, h1, own_below h2 hg, own_below h3 hg⟩
  | 4 => exact h
  | 5 => obtain ⟨g, h, h1, h2, h3⟩ := h; exact ⟨g, h, h1, own_below h2 hg, own_below h3 hg⟩
  | 6 => obtain ⟨p, h1, h2, h3⟩ := h; exact ⟨p, h1, h2, (hg.block p (Array.getElem?_eq_some_iff.1 h3).1).trans h3⟩
  | 7 => obtain ⟨p, h1, h2, h3⟩ := h; exact ⟨p, h1, h2, (hg.block p (Array.getElem?_eq_some_iff.1 h3).1).trans h3⟩
  | 8 => obtain ⟨p, h1, h2, h3⟩ := h; exact ⟨p, h1, h2, (hg.block p (Array.getElem?_eq_some_iff.1 h3).1).trans h3⟩
theorem spMo_old (t : Text) (p q : Option Addr) (c d B : Nat) : ∀ i L v w, spMo t p q c d B i L v w → ∀ b ∈ blMo i v, b < w.heap.size := by
  intro i L v w h
  match i with
  | 0 => intro b hb; simp [blMo] at hb
  | 2 => intro b hb; simp [blMo] at hb
  | 4 => intro b hb; simp [blMo] at hb
  | 1 => obtain ⟨g, h, rfl, h2, h3⟩ := h; intro b hb; have a1 := (own_lt h2).2; have a2 := (own_lt h3).2; simp [blMo, blV] at hb; omega
  | 3 => obtain ⟨g, h, rfl, h2, h3⟩ := h; intro b hb; have a1 := (own_lt h2).2; have a2 := (own_lt h3).2; simp [blMo, blV] at hb; omega
  | 5 => obtain ⟨g, h, rfl, h2, h3⟩ := h; intro b hb; have a1 := (own_lt h2).2; have a2 := (own_lt h3).2; simp [blMo, blV] at hb; omega
  | 6 => obtain ⟨p, rfl, h2, h3⟩ := h; intro b hb; have a1 := (Array.getElem?_eq_some_iff.1 h3).1; simp [blMo, blV] at hb; omega
  | 7 => obtain ⟨p, rfl, h2, h3⟩ := h; intro b hb; have a1 := (Array.getElem?_eq_some_iff.1 h3).1; simp [blMo, blV] at hb; omega
  | 8 => obtain ⟨p, rfl, h2, h3⟩ := h; intro b hb; have a1 := (Array.getElem?_eq_some_iff.1 h3).1; simp [blMo, blV] at hb; omega
  | _ + 9 => exact h.elim

def spMo3 (t : Text) (p : Option Addr) (c T c1 g1 wn kq : Nat) : Nat → List Value → Value → World → Prop
  | 0, _, v, _ => v = .pointer (some ⟨c1, 0, none⟩)
  | 1, _, v, _ => v = .slice (some ⟨g1, 0, none⟩) t.words.length t.words.length
  | 2, _, v, _ => v = .int .u8 (wn : Int)
  | 3, _, v, _ => v = .int .i64 (wn : Int)
  | 4, _, v, _ => v = .pointer (some ⟨T, 0, none⟩)
  | 5, _, v, _ => v = .slice p t.words.length c
  | 6, _, v, _ => v = .int .i64 (t.words.length : Int)
  | 7, _, v, _ => v = .int .i64 (kq : Int)
  | 8, _, v, _ => v = .pointer (some ⟨g1, kq * 3, none⟩)
  | 9, _, v, _ => v = .pointer (some ⟨g1, kq * 3 + 2, none⟩)
  | _, _, _, _ => False
theorem spMo3_stable (t : Text) (p : Option Addr) (c T c1 g1 wn kq : Nat) : ∀ i L v w w', spMo3 t p c T c1 g1 wn kq i L v w → Rs.Gr w w' → spMo3 t p c T c1 g1 wn kq i L v w' := by
  intro i L v w w' h hg
  match i with
  | 0 => exact h
  | 1 => exact h
  | 2 => exact h
  | 3 => exact h
  | 4 => exact h
  | 5 => exact h
  | 6 => exact h
  | 7 => exact h
  | 8 => exact h
  | 9 => exact h
def spMo6 (t : Text) (q : Option Addr) (d T c3 h3 wn iq : Nat) : Nat → List Value → Value → World → Prop
  | 0, _, v, _ => v = .pointer (some ⟨c3, 1, none⟩)
  | 1, _, v, _ => v = .slice (some ⟨h3, 0, none⟩) t.turns.length t.turns.length
  | 2, _, v, _ => v = .int .u8 (wn : Int)
  | 3, _, v, _ => v = .int .i64 (wn : Int)
  | 4, _, v, _ => v = .pointer (some ⟨T, 1, none⟩)
  | 5, _, v, _ => v = .slice q t.turns.length d
  | 6, _, v, _ => v = .int .i64 (t.turns.length : Int)
  | 7, _, v, _ => v = .int .i64 (iq : Int)
  | 8, _, v, _ => v = .int .u8 (wn : Int)
  | 9, _, v, _ => v = .int .i64 (wn : Int)
  | 10, _, v, _ => v = .pointer (some ⟨T, 1, none⟩)
  | 11, _, v, _ => v = .slice q t.turns.length d
  | 12, _, v, _ => v = .int .i64 (t.turns.length : Int)
  | 13, _, v, _ => v = .int .i64 (iq : Int)
  | 14, _, v, _ => v = .int .i64 ((iq + 1 : Nat) : Int)
  | _, _, _, _ => False
theorem spMo6_stable (t : Text) (q : Option Addr) (d T c3 h3 wn iq : Nat) : ∀ i L v w w', spMo6 t q d T c3 h3 wn iq i L v w → Rs.Gr w w' → spMo6 t q d T c3 h3 wn iq i L v w' := by
  intro i L v w w' h hg
  match i with
  | 0 => exact h
  | 1 => exact h
  | 2 => exact h
  | 3 => exact h
  | 4 => exact h
  | 5 => exact h
  | 6 => exact h
  | 7 => exact h
  | 8 => exact h
  | 9 => exact h
  | 10 => exact h
  | 11 => exact h
  | 12 => exact h
  | 13 => exact h
  | 14 => exact h
set_option maxHeartbeats 8000000 in
set_option maxRecDepth 100000 in
theorem TextMore_any (pn : Option Addr) (nn cn : Nat) (hnn : nn ≤ 9223372036854775807) (wh lo : Int) (hwh : 0 ≤ wh ∧ wh ≤ 255) (hlo : 0 ≤ lo ∧ lo ≤ 255) (w : World) (hN : Bytes w pn nn) :
    Calls Try.prog 12 #[.slice pn nn cn, .int .u8 wh, .int .u8 lo] w fun e w' => e = .returned (.bool true) ∧ Below w.heap.size w w' := by
  obtain ⟨wn, rfl⟩ : ∃ n : Nat, wh = n := ⟨wh.toNat, by omega⟩
  obtain ⟨ln, rfl⟩ : ∃ n : Nat, lo = n := ⟨lo.toNat, by omega⟩
  have hmf := mf
  obtain ⟨hb0, hm0⟩ := hang_made pn nn cn hnn w hN
  have HB0 := Lib.hid hb0
  have HM0 := Lib.hid hm0
  have hal := below1 w (.cells #[.slice pn nn cn, .int .i64 0, .int .u32 0] 159)
  have HAL := Lib.hid hal
  have hz1 : (w.alloc (.cells #[.slice pn nn cn, .int .i64 0, .int .u32 0] 159)).heap.size = w.heap.size + 1 := by simp
  clear hb0 hm0 hN hal
  go_enter Try.func12, Try.ntmps12
  go_wp2_with fail
  refine (hang_any _ _ _ _).mono ?_
  rintro e w1 ⟨rfl, rfl⟩
  generalize w.alloc (.cells #[.slice pn nn cn, .int .i64 0, .int .u32 0] 159) = W1 at HB0 HM0 HAL hz1 ⊢
  go_wp2_with fail
  refine (made_ok (words := 10) (turns := 3) (by omega) (by omega) (by omega) _ HB0.out HM0.out).mono ?_
  rintro e W2 ⟨t, p, q, c, d, rfl, HT, HC, HD, HE, HOK, HW9, HT3, -, HH⟩
  have HWA := Lib.hid (HAL.out.trans (hold_below HH.out (by omega)))
  have hwA : w.heap.size ≤ W2.heap.size := by have := HH.out.size; omega
  clear HB0 HM0 HAL HH hz1
  have HT2 := Lib.hid (HT.out.below (below1 W2 (.cells #[.slice p t.words.length c, .slice q t.turns.length d, .int .i64 t.breath] 25)))
  have HBX := Lib.hid (heap_last W2 (.cells #[.slice p t.words.length c, .slice q t.turns.length d, .int .i64 t.breath] 25))
  obtain ⟨T, hTT⟩ : ∃ T, T = W2.heap.size := ⟨_, rfl⟩
  have hz3 : (W2.alloc (.cells #[.slice p t.words.length c, .slice q t.turns.length d, .int .i64 t.breath] 25)).heap.size = T + 1 := by rw [hTT]; simp
  have HW3 := Lib.hid (HWA.out.trans ((below1 W2 (.cells #[.slice p t.words.length c, .slice q t.turns.length d, .int .i64 t.breath] 25)).mono hwA))
  rw [← hTT] at HBX hwA
  clear HT HWA
  go_wp2_with fail
  rw [← hTT]
  clear hTT
  generalize W2.alloc (.cells #[.slice p t.words.length c, .slice q t.turns.length d, .int .i64 t.breath] 25) = W3 at HT2 HBX hz3 HW3 ⊢
  obtain ⟨k0, k1, k2⟩ := blk3 HBX.out
  have hn9 : t.words.length ≤ 1000000 := by have := HW9.out; omega
  have hn3 : t.turns.length ≤ 1000000 := by have := HT3.out; omega
  clear k0 k1 k2
  refine Rdt.region_gen blMo 9 [[], [0], [], [0, 1, 2], [], [0, 1, 2, 3, 4], [], [], []] [some 34, some 35, some 36, some 37, some 38, some 39, some 8, some 9, some 10] (spMo t p q c d (T + 1)) (by kernel_rfl) (by kernel_rfl) rfl (spMo_stable _ _ _ _ _ _) (spMo_old _ _ _ _ _ _) ?_ ?_
  · refine ⟨fun V w' hG hs => ?_, fun V w' hG hs => ?_, fun V w' hG hs => ?_, fun V w' hG hs => ?_, fun V w' hG hs => ?_, fun V w' hG hs => ?_, fun V w' hG hs => ?_, fun V w' hG hs => ?_, fun V w' hG hs => ?_, trivial⟩
    all_goals
      have HQ := HT2
      obtain ⟨k0, k1, k2⟩ := blk3 ((hG.block T (by omega)).trans HBX.out)
    · rw [if_pos (by rfl)]
      exact Rs.GrowL.value (v := .agg #[.slice p t.words.length c, .slice q t.turns.length d, .int .i64 t.breath]) (w' := w') (by simp [go_sem, Rs.look, k0, k1, k2]) (Rs.Gr.refl _) ⟨rfl, by intro b hb; simp [blMo] at hb⟩
    · have e0 : V 0 = .agg #[.slice p t.words.length c, .slice q t.turns.length d, .int .i64 t.breath] := hs 0 (by simp)
      rw [if_pos (by rfl)]
      refine Rs.GrowL.call (f := 19) (args := #[.agg #[.slice p t.words.length c, .slice q t.turns.length d, .int .i64 t.breath]]) (by simp [go_sem, Rs.look, e0]) ?_
      refine (lCopy_any t hn9 hn3 p q c d w' (HT2.out.below hG)).mono ?_
      rintro e w2 ⟨g, h, rfl, o1, o2, hB2⟩
      exact ⟨_, rfl, hB2, ⟨_, _, rfl, own_base o1 (by have := hG.size; omega), own_base o2 (by have := hG.size; omega)⟩, fun b hb => by have a1 := (own_lt o1).1; have a2 := (own_lt o2).1; simp [blMo, blV] at hb; omega⟩
    · rw [if_pos (by rfl)]
      exact Rs.GrowL.value (v := .agg #[.slice p t.words.length c, .slice q t.turns.length d, .int .i64 t.breath]) (w' := w') (by simp [go_sem, Rs.look, k0, k1, k2]) (Rs.Gr.refl _) ⟨rfl, by intro b hb; simp [blMo] at hb⟩
    · have e0 : V 0 = .agg #[.slice p t.words.length c, .slice q t.turns.length d, .int .i64 t.breath] := hs 0 (by simp)
      have r1 := hs 1 (by simp)
      have e2 : V 2 = .agg #[.slice p t.words.length c, .slice q t.turns.length d, .int .i64 t.breath] := hs 2 (by simp)
      rw [if_pos (by rfl)]
      refine Rs.GrowL.call (f := 19) (args := #[.agg #[.slice p t.words.length c, .slice q t.turns.length d, .int .i64 t.breath]]) (by simp [go_sem, Rs.look, e2]) ?_
      refine (lCopy_any t hn9 hn3 p q c d w' (HT2.out.below hG)).mono ?_
      rintro e w2 ⟨g, h, rfl, o1, o2, hB2⟩
      exact ⟨_, rfl, hB2, ⟨_, _, rfl, own_base o1 (by have := hG.size; omega), own_base o2 (by have := hG.size; omega)⟩, fun b hb => by have a1 := (own_lt o1).1; have a2 := (own_lt o2).1; simp [blMo, blV] at hb; omega⟩
    · rw [if_pos (by rfl)]
      exact Rs.GrowL.value (v := .agg #[.slice p t.words.length c, .slice q t.turns.length d, .int .i64 t.breath]) (w' := w') (by simp [go_sem, Rs.look, k0, k1, k2]) (Rs.Gr.refl _) ⟨rfl, by intro b hb; simp [blMo] at hb⟩
    · have e0 : V 0 = .agg #[.slice p t.words.length c, .slice q t.turns.length d, .int .i64 t.breath] := hs 0 (by simp)
      have r1 := hs 1 (by simp)
      have e2 : V 2 = .agg #[.slice p t.words.length c, .slice q t.turns.length d, .int .i64 t.breath] := hs 2 (by simp)
      have r3 := hs 3 (by simp)
      have e4 : V 4 = .agg #[.slice p t.words.length c, .slice q t.turns.length d, .int .i64 t.breath] := hs 4 (by simp)
      rw [if_pos (by rfl)]
      refine Rs.GrowL.call (f := 19) (args := #[.agg #[.slice p t.words.length c, .slice q t.turns.length d, .int .i64 t.breath]]) (by simp [go_sem, Rs.look, e4]) ?_
      refine (lCopy_any t hn9 hn3 p q c d w' (HT2.out.below hG)).mono ?_
      rintro e w2 ⟨g, h, rfl, o1, o2, hB2⟩
      exact ⟨_, rfl, hB2, ⟨_, _, rfl, own_base o1 (by have := hG.size; omega), own_base o2 (by have := hG.size; omega)⟩, fun b hb => by have a1 := (own_lt o1).1; have a2 := (own_lt o2).1; simp [blMo, blV] at hb; omega⟩
    · rw [if_pos (by rfl)]
      exact Rs.GrowL.value (v := .pointer (some ⟨w'.heap.size, 0, none⟩)) (w' := w'.alloc (.cells #[.slice none 0 0, .slice none 0 0, .int .i64 0] 25)) (by simp [go_sem, Rs.look]) (below1 _ _) ⟨⟨_, rfl, by have := hG.size; omega, heap_last _ _⟩, fun b hb => by simp [blMo, blV] at hb; omega⟩
    · rw [if_pos (by rfl)]
      exact Rs.GrowL.value (v := .pointer (some ⟨w'.heap.size, 0, none⟩)) (w' := w'.alloc (.cells #[.slice none 0 0, .slice none 0 0, .int .i64 0] 25)) (by simp [go_sem, Rs.look]) (below1 _ _) ⟨⟨_, rfl, by have := hG.size; omega, heap_last _ _⟩, fun b hb => by simp [blMo, blV] at hb; omega⟩
    · rw [if_pos (by rfl)]
      exact Rs.GrowL.value (v := .pointer (some ⟨w'.heap.size, 0, none⟩)) (w' := w'.alloc (.cells #[.slice none 0 0, .slice none 0 0, .int .i64 0] 25)) (by simp [go_sem, Rs.look]) (below1 _ _) ⟨⟨_, rfl, by have := hG.size; omega, heap_last _ _⟩, fun b hb => by simp [blMo, blV] at hb; omega⟩
  · intro V w' hG hs hap
    have e0 : V 0 = .agg #[.slice p t.words.length c, .slice q t.turns.length d, .int .i64 t.breath] := hs 0 (by omega)
    have r1 := hs 1 (by omega)
    have e2 : V 2 = .agg #[.slice p t.words.length c, .slice q t.turns.length d, .int .i64 t.breath] := hs 2 (by omega)
    have r3 := hs 3 (by omega)
    have e4 : V 4 = .agg #[.slice p t.words.length c, .slice q t.turns.length d, .int .i64 t.breath] := hs 4 (by omega)
    have r5 := hs 5 (by omega)
    have r6 := hs 6 (by omega)
    have r7 := hs 7 (by omega)
    have r8 := hs 8 (by omega)
    have a13 := hap 1 3 (by omega) (by omega) (by omega)
    have a15 := hap 1 5 (by omega) (by omega) (by omega)
    have a16 := hap 1 6 (by omega) (by omega) (by omega)
    have a17 := hap 1 7 (by omega) (by omega) (by omega)
    have a18 := hap 1 8 (by omega) (by omega) (by omega)
    have a35 := hap 3 5 (by omega) (by omega) (by omega)
    have a36 := hap 3 6 (by omega) (by omega) (by omega)
    have a37 := hap 3 7 (by omega) (by omega) (by omega)
    have a38 := hap 3 8 (by omega) (by omega) (by omega)
    have a56 := hap 5 6 (by omega) (by omega) (by omega)
    have a57 := hap 5 7 (by omega) (by omega) (by omega)
    have a58 := hap 5 8 (by omega) (by omega) (by omega)
    have a67 := hap 6 7 (by omega) (by omega) (by omega)
    have a68 := hap 6 8 (by omega) (by omega) (by omega)
    have a78 := hap 7 8 (by omega) (by omega) (by omega)
    obtain ⟨g1, h1, e1, u1, v1⟩ := r1
    obtain ⟨g2, h2, e3, u2, v2⟩ := r3
    obtain ⟨g3, h3, e5, u3, v3⟩ := r5
    obtain ⟨c1, e6, hc1, x1⟩ := r6
    obtain ⟨c2, e7, hc2, x2⟩ := r7
    obtain ⟨c3, e8, hc3, x3⟩ := r8
    rw [e1, e3] at a13
    rw [e1, e5] at a15
    rw [e1, e6] at a16
    rw [e1, e7] at a17
    rw [e1, e8] at a18
    rw [e3, e5] at a35
    rw [e3, e6] at a36
    rw [e3, e7] at a37
    rw [e3, e8] at a38
    rw [e5, e6] at a56
    rw [e5, e7] at a57
    rw [e5, e8] at a58
    rw [e6, e7] at a67
    rw [e6, e8] at a68
    rw [e7, e8] at a78
    simp [blMo, blV] at a13 a15 a16 a17 a18 a35 a36 a37 a38 a56 a57 a58 a67 a68 a78
    have hg1h1 : h1 ≠ g1 := fun e => by
      rcases u1.2 with ⟨e0, _⟩ | ⟨_, _, _, e0, _, x0, _⟩
      · cases e0
      · rcases v1.2 with ⟨e1, _⟩ | ⟨_, _, _, e1, _, x1', _⟩
        · cases e1
        · injection e0 with e0; injection e0 with e0; injection e0 with e0
          injection e1 with e1; injection e1 with e1; injection e1 with e1
          subst e0; subst e1; rw [e] at x1'; rw [x0] at x1'
          injection x1' with x1'; injection x1' with _ x1'; exact absurd x1' (by decide)
    have hg3h3 : h3 ≠ g3 := fun e => by
      rcases u3.2 with ⟨e0, _⟩ | ⟨_, _, _, e0, _, x0, _⟩
      · cases e0
      · rcases v3.2 with ⟨e1, _⟩ | ⟨_, _, _, e1, _, x1', _⟩
        · cases e1
        · injection e0 with e0; injection e0 with e0; injection e0 with e0
          injection e1 with e1; injection e1 with e1; injection e1 with e1
          subst e0; subst e1; rw [e] at x1'; rw [x0] at x1'
          injection x1' with x1'; injection x1' with _ x1'; exact absurd x1' (by decide)
    have A13 := Lib.hid a13
    clear a13
    have A15 := Lib.hid a15
    clear a15
    have A16 := Lib.hid a16
    clear a16
    have A17 := Lib.hid a17
    clear a17
    have A18 := Lib.hid a18
    clear a18
    have A35 := Lib.hid a35
    clear a35
    have A36 := Lib.hid a36
    clear a36
    have A37 := Lib.hid a37
    clear a37
    have A38 := Lib.hid a38
    clear a38
    have A56 := Lib.hid a56
    clear a56
    have A57 := Lib.hid a57
    clear a57
    have A58 := Lib.hid a58
    clear a58
    have A67 := Lib.hid a67
    clear a67
    have A68 := Lib.hid a68
    clear a68
    have A78 := Lib.hid a78
    clear a78
    simp only [Rs.canon, Rs.dstOf, List.range_succ, List.range_zero, List.nil_append, List.cons_append, List.foldl_cons, List.foldl_nil, List.drop_succ_cons, List.drop_zero, List.drop_nil, List.getElem?_toArray, List.getElem?_cons_succ, List.getElem?_cons_zero, Option.bind_some, Act.put, List.getD_cons_succ, List.getD_cons_zero, List.setIfInBounds_toArray, List.set_cons_succ, List.set_cons_zero]
    rw [e0, e1, e2, e3, e4, e5, e6, e7, e8]
    clear e0 e1 e2 e3 e4 e5 e6 e7 e8 hs hap
    have hzz := hG.size
    have hBw := hG
    unfold Rs.Gr at hBw
    rw [hz3] at hBw
    have f1 : ∀ i, w'.frozen? ⟨c1, i, none⟩ = false := fun i => by simp only [World.frozen?, x1]; simp
    have f2 : ∀ i, w'.frozen? ⟨c2, i, none⟩ = false := fun i => by simp only [World.frozen?, x2]; simp
    have f3 : ∀ i, w'.frozen? ⟨c3, i, none⟩ = false := fun i => by simp only [World.frozen?, x3]; simp
    obtain ⟨m0, m1, m2⟩ := blk3 x1
    obtain ⟨n0, n1, n2⟩ := blk3 x2
    obtain ⟨s0, s1, s2⟩ := blk3 x3
    have l1 : c1 < w'.heap.size := (Array.getElem?_eq_some_iff.1 x1).1
    have l2 : c2 < w'.heap.size := (Array.getElem?_eq_some_iff.1 x2).1
    have l3 : c3 < w'.heap.size := (Array.getElem?_eq_some_iff.1 x3).1
    obtain ⟨W, hW⟩ : ∃ W, W = storeText (storeText (storeText w' c1 (.slice (some ⟨g1, 0, none⟩) t.words.length t.words.length) (.slice (some ⟨h1, 0, none⟩) t.turns.length t.turns.length) (.int .i64 t.breath)) c2 (.slice (some ⟨g2, 0, none⟩) t.words.length t.words.length) (.slice (some ⟨h2, 0, none⟩) t.turns.length t.turns.length) (.int .i64 t.breath)) c3 (.slice (some ⟨g3, 0, none⟩) t.words.length t.words.length) (.slice (some ⟨h3, 0, none⟩) t.turns.length t.turns.length) (.int .i64 t.breath) := ⟨_, rfl⟩
    have HH := Lib.hid (show Hold (fun j => j ≠ c1 ∧ j ≠ c2 ∧ j ≠ c3) w' W by
      rw [hW]
      exact (((storeText_hold w' c1 _ _ _).mono fun j h _ => h.1).trans ((storeText_hold _ c2 _ _ _).mono fun j h _ => h.2.1)).trans ((storeText_hold _ c3 _ _ _).mono fun j h _ => h.2.2))
    have y1 : (storeText w' c1 (.slice (some ⟨g1, 0, none⟩) t.words.length t.words.length) (.slice (some ⟨h1, 0, none⟩) t.turns.length t.turns.length) (.int .i64 t.breath)).heap[c1]? = _ := storeText_same _ _ _ x1
    have y2 : (storeText w' c1 (.slice (some ⟨g1, 0, none⟩) t.words.length t.words.length) (.slice (some ⟨h1, 0, none⟩) t.turns.length t.turns.length) (.int .i64 t.breath)).heap[c2]? = _ := (storeText_hold w' c1 (.slice (some ⟨g1, 0, none⟩) t.words.length t.words.length) (.slice (some ⟨h1, 0, none⟩) t.turns.length t.turns.length) (.int .i64 t.breath)).blk (Ne.symm A67.out) x2
    have y3 : (storeText w' c1 (.slice (some ⟨g1, 0, none⟩) t.words.length t.words.length) (.slice (some ⟨h1, 0, none⟩) t.turns.length t.turns.length) (.int .i64 t.breath)).heap[c3]? = _ := (storeText_hold w' c1 (.slice (some ⟨g1, 0, none⟩) t.words.length t.words.length) (.slice (some ⟨h1, 0, none⟩) t.turns.length t.turns.length) (.int .i64 t.breath)).blk (Ne.symm A68.out) x3
    have z1 := (storeText_hold (storeText w' c1 (.slice (some ⟨g1, 0, none⟩) t.words.length t.words.length) (.slice (some ⟨h1, 0, none⟩) t.turns.length t.turns.length) (.int .i64 t.breath)) c2 (.slice (some ⟨g2, 0, none⟩) t.words.length t.words.length) (.slice (some ⟨h2, 0, none⟩) t.turns.length t.turns.length) (.int .i64 t.breath)).blk A67.out y1
    have z2 := storeText_same (.slice (some ⟨g2, 0, none⟩) t.words.length t.words.length) (.slice (some ⟨h2, 0, none⟩) t.turns.length t.turns.length) (.int .i64 t.breath) y2
    have z3 := (storeText_hold (storeText w' c1 (.slice (some ⟨g1, 0, none⟩) t.words.length t.words.length) (.slice (some ⟨h1, 0, none⟩) t.turns.length t.turns.length) (.int .i64 t.breath)) c2 (.slice (some ⟨g2, 0, none⟩) t.words.length t.words.length) (.slice (some ⟨h2, 0, none⟩) t.turns.length t.turns.length) (.int .i64 t.breath)).blk (Ne.symm A78.out) y3
    have X1 := Lib.hid (show W.heap[c1]? = some (.cells #[.slice (some ⟨g1, 0, none⟩) t.words.length t.words.length, .slice (some ⟨h1, 0, none⟩) t.turns.length t.turns.length, .int .i64 t.breath] 25 (0, 0)) by rw [hW]; exact (storeText_hold _ c3 (.slice (some ⟨g3, 0, none⟩) t.words.length t.words.length) (.slice (some ⟨h3, 0, none⟩) t.turns.length t.turns.length) (.int .i64 t.breath)).blk A68.out z1)
    have X2 := Lib.hid (show W.heap[c2]? = some (.cells #[.slice (some ⟨g2, 0, none⟩) t.words.length t.words.length, .slice (some ⟨h2, 0, none⟩) t.turns.length t.turns.length, .int .i64 t.breath] 25 (0, 0)) by rw [hW]; exact (storeText_hold _ c3 (.slice (some ⟨g3, 0, none⟩) t.words.length t.words.length) (.slice (some ⟨h3, 0, none⟩) t.turns.length t.turns.length) (.int .i64 t.breath)).blk A78.out z2)
    have X3 := Lib.hid (show W.heap[c3]? = some (.cells #[.slice (some ⟨g3, 0, none⟩) t.words.length t.words.length, .slice (some ⟨h3, 0, none⟩) t.turns.length t.turns.length, .int .i64 t.breath] 25 (0, 0)) by rw [hW]; exact storeText_same (.slice (some ⟨g3, 0, none⟩) t.words.length t.words.length) (.slice (some ⟨h3, 0, none⟩) t.turns.length t.turns.length) (.int .i64 t.breath) z3)
    have HBW := Lib.hid (show Below (T + 1) W3 W by
      rw [hW]; exact storeText_bel (storeText_bel (storeText_bel hBw hc1 _ _ _) hc2 _ _ _) hc3 _ _ _)
    have U1 := Lib.hid (own_holdB u1 HH.out ⟨A16.out.1, A17.out.1, A18.out.1⟩)
    have U2 := Lib.hid (own_holdB u2 HH.out ⟨A36.out.1, A37.out.1, A38.out.1⟩)
    have U3 := Lib.hid (own_holdB u3 HH.out ⟨A56.out.1, A57.out.1, A58.out.1⟩)
    have O1 := Lib.hid (own_holdB v1 HH.out ⟨A16.out.2, A17.out.2, A18.out.2⟩)
    have O2 := Lib.hid (own_holdB v2 HH.out ⟨A36.out.2, A37.out.2, A38.out.2⟩)
    have O3 := Lib.hid (own_holdB v3 HH.out ⟨A56.out.2, A57.out.2, A58.out.2⟩)
    have HZ : W.heap.size = w'.heap.size := by rw [hW]; simp [storeText]
    have b1 := own_lt u1
    have b2 := own_lt u2
    have b3 := own_lt u3
    have b4 := own_lt v1
    have b5 := own_lt v2
    have b6 := own_lt v3
    have HGE := Lib.hid (show (T + 1 ≤ c1 ∧ T + 1 ≤ c2 ∧ T + 1 ≤ c3 ∧ T + 1 ≤ g1 ∧ T + 1 ≤ h1 ∧ T + 1 ≤ g2 ∧ T + 1 ≤ h2 ∧ T + 1 ≤ g3 ∧ T + 1 ≤ h3) from ⟨hc1, hc2, hc3, b1.1, b4.1, b2.1, b5.1, b3.1, b6.1⟩)
    have HLT := Lib.hid (show (c1 < W.heap.size ∧ c2 < W.heap.size ∧ c3 < W.heap.size ∧ g1 < W.heap.size ∧ h1 < W.heap.size ∧ g2 < W.heap.size ∧ h2 < W.heap.size ∧ g3 < W.heap.size ∧ h3 < W.heap.size) by rw [HZ]; exact ⟨l1, l2, l3, b1.2, b4.2, b2.2, b5.2, b3.2, b6.2⟩)
    clear u1 u2 u3 v1 v2 v3 y1 y2 y3 z1 z2 z3 b1 b2 b3 b4 b5 b6 HH HZ hBw hzz hG x1 x2 x3 hc1 hc2 hc3
    have q12 := A67.out
    have q13 := A68.out
    have q23 := A78.out
    have q21 := Ne.symm q12
    have q31 := Ne.symm q13
    have q32 := Ne.symm q23
    go_wp2_with fail
    unfold storeText at hW
    rw [← hW]
    clear hW f1 f2 f3 m0 m1 m2 n0 n1 n2 s0 s1 s2 l1 l2 l3 q12 q13 q23 q21 q31 q32
    have hZW := HBW.out.size
    rw [hz3] at hZW
    have HT5 := Lib.hid (HT2.out.below (show Below W3.heap.size W3 W by rw [hz3]; exact HBW.out))
    have HBX5 := Lib.hid ((HBW.out.block T (by omega)).trans HBX.out)
    obtain ⟨kq, hkq⟩ : ∃ kq : Nat, kq = wn % t.words.length := ⟨_, rfl⟩
    have hn1 := HOK.out.n1
    have hkl : kq < t.words.length := by rw [hkq]; exact Nat.mod_lt _ (by omega)
    have hrem : Int.tmod (wn : Int) (t.words.length : Int) = (kq : Int) := by
      rw [Int.tmod_eq_emod_of_nonneg hwh.1, hkq]; rfl
    have hnz : ((t.words.length : Int) == 0) = false := by rw [beq_eq_false_iff_ne]; omega
    have hnz2 : ¬ (t.words.length : Int) = 0 := by omega
    have hwe : ¬ t.words = [] := fun e => by rw [e] at hn1; simp at hn1
    have hkl0 : (0 : Int) ≤ (kq : Int) := by omega
    have hkl1 : (kq : Int) < (t.words.length : Int) := by omega
    have hcvt : IntKind.wrap .i64 (wn : Int) = (wn : Int) := by rw [IntWalk.i64_in _ (by omega)]
    have hcv2 : IntKind.wrap .i64 (kq : Int) = (kq : Int) := by rw [IntWalk.i64_in _ (by omega)]
    have hfz : w.frozen? ⟨g1, 0, none⟩ = w.frozen? ⟨g1, 0, none⟩ := rfl
    have hcel : ∃ v, W.cell? ⟨g1, kq * 3 + 2, none⟩ = some v ∧ W.frozen? ⟨g1, kq * 3 + 2, none⟩ = false := by
      rcases U1.out.2 with ⟨h1, _⟩ | ⟨g', cap, cur, hv, hb, hg, h1, h2, h3, h4⟩
      · cases h1
      · injection hv with e1 _ e3
        injection e1 with e1; injection e1 with e1
        subst e1
        have hlt : kq * 3 + 2 < cur.size := by omega
        exact ⟨cur[kq * 3 + 2], by simp only [World.cell?, hg]; simp [hlt], by simp only [World.frozen?, hg]; simp⟩
    obtain ⟨vq, hcq, hfq⟩ := hcel
    obtain ⟨k0, k1, k2⟩ := blk3 HBX5.out
    obtain ⟨m0, m1, m2⟩ := blk3 X1.out
    clear hkq hfz
    refine Rs.region_gen 10 [[], [0], [], [2], [], [4], [4, 5], [2, 3, 4, 5, 6], [0, 1, 2, 3, 4, 5, 6, 7], [0, 1, 2, 3, 4, 5, 6, 7, 8]] [some 40, some 41, some 42, some 43, some 44, some 45, some 46, some 47, some 48, some 49] (spMo3 t p c T c1 g1 wn kq) (by kernel_rfl) (by kernel_rfl) rfl (spMo3_stable _ _ _ _ _ _ _ _) ?_ ?_
    · refine ⟨fun V w' hG hs => ?_, fun V w' hG hs => ?_, fun V w' hG hs => ?_, fun V w' hG hs => ?_, fun V w' hG hs => ?_, fun V w' hG hs => ?_, fun V w' hG hs => ?_, fun V w' hG hs => ?_, fun V w' hG hs => ?_, fun V w' hG hs => ?_, trivial⟩
      all_goals
        obtain ⟨k0, k1, k2⟩ := blk3 ((hG.block T (by omega)).trans HBX5.out)
        obtain ⟨m0, m1, m2⟩ := blk3 ((hG.block c1 HLT.out.1).trans X1.out)
      · rw [if_pos (by rfl)]
        exact Rs.GrowL.value (v := .pointer (some ⟨c1, 0, none⟩)) (w' := w') (by simp [go_sem, Rs.look]) (Rs.Gr.refl _) rfl
      · have e0 : V 0 = .pointer (some ⟨c1, 0, none⟩) := hs 0 (by simp)
        rw [if_pos (by rfl)]
        exact Rs.GrowL.value (v := .slice (some ⟨g1, 0, none⟩) t.words.length t.words.length) (w' := w') (by simp [go_sem, Rs.look, e0, m0]) (Rs.Gr.refl _) rfl
      · rw [if_pos (by rfl)]
        exact Rs.GrowL.value (v := .int .u8 (wn : Int)) (w' := w') (by simp [go_sem, Rs.look]) (Rs.Gr.refl _) rfl
      · have e2 : V 2 = .int .u8 (wn : Int) := hs 2 (by simp)
        rw [if_pos (by rfl)]
        exact Rs.GrowL.value (v := .int .i64 (wn : Int)) (w' := w') (by simp [go_sem, Rs.look, e2, hcvt]) (Rs.Gr.refl _) rfl
      · rw [if_pos (by rfl)]
        exact Rs.GrowL.value (v := .pointer (some ⟨T, 0, none⟩)) (w' := w') (by simp [go_sem, Rs.look]) (Rs.Gr.refl _) rfl
      · have e4 : V 4 = .pointer (some ⟨T, 0, none⟩) := hs 4 (by simp)
        rw [if_pos (by rfl)]
        exact Rs.GrowL.value (v := .slice p t.words.length c) (w' := w') (by simp [go_sem, Rs.look, e4, k0]) (Rs.Gr.refl _) rfl
      · have e4 : V 4 = .pointer (some ⟨T, 0, none⟩) := hs 4 (by simp)
        have e5 : V 5 = .slice p t.words.length c := hs 5 (by simp)
        rw [if_pos (by rfl)]
        exact Rs.GrowL.value (v := .int .i64 (t.words.length : Int)) (w' := w') (by simp [go_sem, Rs.look, e4, e5]) (Rs.Gr.refl _) rfl
      · have e2 : V 2 = .int .u8 (wn : Int) := hs 2 (by simp)
        have e3 : V 3 = .int .i64 (wn : Int) := hs 3 (by simp)
        have e4 : V 4 = .pointer (some ⟨T, 0, none⟩) := hs 4 (by simp)
        have e5 : V 5 = .slice p t.words.length c := hs 5 (by simp)
        have e6 : V 6 = .int .i64 (t.words.length : Int) := hs 6 (by simp)
        rw [if_pos (by rfl)]
        exact Rs.GrowL.value (v := .int .i64 (kq : Int)) (w' := w') (by simp [go_sem, Rs.look, e2, e3, e4, e5, e6, hrem, hnz, hnz2, hcv2, hwe]) (Rs.Gr.refl _) rfl
      · have e0 : V 0 = .pointer (some ⟨c1, 0, none⟩) := hs 0 (by simp)
        have e1 : V 1 = .slice (some ⟨g1, 0, none⟩) t.words.length t.words.length := hs 1 (by simp)
        have e2 : V 2 = .int .u8 (wn : Int) := hs 2 (by simp)
        have e3 : V 3 = .int .i64 (wn : Int) := hs 3 (by simp)
        have e4 : V 4 = .pointer (some ⟨T, 0, none⟩) := hs 4 (by simp)
        have e5 : V 5 = .slice p t.words.length c := hs 5 (by simp)
        have e6 : V 6 = .int .i64 (t.words.length : Int) := hs 6 (by simp)
        have e7 : V 7 = .int .i64 (kq : Int) := hs 7 (by simp)
        rw [if_pos (by rfl)]
        exact Rs.GrowL.value (v := .pointer (some ⟨g1, kq * 3, none⟩)) (w' := w') (by simp [go_sem, Rs.look, e0, e1, e2, e3, e4, e5, e6, e7, hkl0, hkl1, hkl]) (Rs.Gr.refl _) rfl
      · have e0 : V 0 = .pointer (some ⟨c1, 0, none⟩) := hs 0 (by simp)
        have e1 : V 1 = .slice (some ⟨g1, 0, none⟩) t.words.length t.words.length := hs 1 (by simp)
        have e2 : V 2 = .int .u8 (wn : Int) := hs 2 (by simp)
        have e3 : V 3 = .int .i64 (wn : Int) := hs 3 (by simp)
        have e4 : V 4 = .pointer (some ⟨T, 0, none⟩) := hs 4 (by simp)
        have e5 : V 5 = .slice p t.words.length c := hs 5 (by simp)
        have e6 : V 6 = .int .i64 (t.words.length : Int) := hs 6 (by simp)
        have e7 : V 7 = .int .i64 (kq : Int) := hs 7 (by simp)
        have e8 : V 8 = .pointer (some ⟨g1, kq * 3, none⟩) := hs 8 (by simp)
        rw [if_pos (by rfl)]
        exact Rs.GrowL.value (v := .pointer (some ⟨g1, kq * 3 + 2, none⟩)) (w' := w') (by simp [go_sem, Rs.look, e0, e1, e2, e3, e4, e5, e6, e7, e8]) (Rs.Gr.refl _) rfl
    · intro V w' hG hs
      have e0 : V 0 = .pointer (some ⟨c1, 0, none⟩) := hs 0 (by omega)
      have e1 : V 1 = .slice (some ⟨g1, 0, none⟩) t.words.length t.words.length := hs 1 (by omega)
      have e2 : V 2 = .int .u8 (wn : Int) := hs 2 (by omega)
      have e3 : V 3 = .int .i64 (wn : Int) := hs 3 (by omega)
      have e4 : V 4 = .pointer (some ⟨T, 0, none⟩) := hs 4 (by omega)
      have e5 : V 5 = .slice p t.words.length c := hs 5 (by omega)
      have e6 : V 6 = .int .i64 (t.words.length : Int) := hs 6 (by omega)
      have e7 : V 7 = .int .i64 (kq : Int) := hs 7 (by omega)
      have e8 : V 8 = .pointer (some ⟨g1, kq * 3, none⟩) := hs 8 (by omega)
      have e9 : V 9 = .pointer (some ⟨g1, kq * 3 + 2, none⟩) := hs 9 (by omega)
      simp only [Rs.canon, Rs.dstOf, List.range_succ, List.range_zero, List.nil_append, List.cons_append, List.foldl_cons, List.foldl_nil, List.drop_succ_cons, List.drop_zero, List.drop_nil, List.getElem?_toArray, List.getElem?_cons_succ, List.getElem?_cons_zero, Option.bind_some, Act.put, List.getD_cons_succ, List.getD_cons_zero, List.setIfInBounds_toArray, List.set_cons_succ, List.set_cons_zero]
      rw [e0, e1, e2, e3, e4, e5, e6, e7, e8, e9]
      clear e0 e1 e2 e3 e4 e5 e6 e7 e8 e9 hs
      have hcq' := (hG.cell (p := ⟨g1, kq * 3 + 2, none⟩) HLT.out.2.2.2.1).trans hcq
      have hfq' : w'.frozen? ⟨g1, kq * 3 + 2, none⟩ = false := by
        have hb := hG.block g1 HLT.out.2.2.2.1
        unfold World.frozen? at hfq ⊢
        rw [hb]; exact hfq
      have hB6 := hG
      unfold Rs.Gr at hB6
      have HBX6 := Lib.hid ((hB6.block T (by omega)).trans HBX5.out)
      have X16 := Lib.hid ((hB6.block c1 HLT.out.1).trans X1.out)
      have X26 := Lib.hid ((hB6.block c2 HLT.out.2.1).trans X2.out)
      have X36 := Lib.hid ((hB6.block c3 HLT.out.2.2.1).trans X3.out)
      have U16 := Lib.hid (own_below U1.out hB6)
      have U26 := Lib.hid (own_below U2.out hB6)
      have U36 := Lib.hid (own_below U3.out hB6)
      have O16 := Lib.hid (own_below O1.out hB6)
      have O26 := Lib.hid (own_below O2.out hB6)
      have O36 := Lib.hid (own_below O3.out hB6)
      have HBW6 := Lib.hid (HBW.out.trans (hB6.mono hZW))
      clear k0 k1 k2 m0 m1 m2 hG hB6 X1 X2 X3 U1 U2 U3 O1 O2 O3 HBX5 hcq hfq
      obtain ⟨k0, k1, k2⟩ := blk3 HBX6.out
      obtain ⟨n0, n1, n2⟩ := blk3 X26.out
      have qT1 : ¬ T = g1 := fun e => by have := HGE.out.2.2.2.1; omega
      have qT2 : ¬ T = c2 := fun e => by have := HGE.out.2.1; omega
      have q21 : ¬ c2 = g1 := fun e => A17.out.1 e.symm
      have fn : ∀ i, w'.frozen? ⟨c2, i, none⟩ = false := fun i => by simp only [World.frozen?, X26.out]; simp
      have hb1 := HOK.out.b1
      have hb2 := HOK.out.b40
      have hrl : Int.tmod (ln : Int) 9 = ((ln % 9 : Nat) : Int) := by
        rw [Int.tmod_eq_emod_of_nonneg hlo.1]; rfl
      have hcl1 : IntKind.wrap .i64 (ln : Int) = (ln : Int) := by rw [IntWalk.i64_in _ (by omega)]
      have hcl2 : IntKind.wrap .i64 ((ln % 9 : Nat) : Int) = ((ln % 9 : Nat) : Int) := by rw [IntWalk.i64_in _ (by omega)]
      have hcl3 : IntKind.wrap .i64 (t.breath + ((ln % 9 : Nat) : Int)) = t.breath + ((ln % 9 : Nat) : Int) := by rw [IntWalk.i64_in _ (by omega)]
      obtain ⟨lx, hlx⟩ : ∃ lx : Int, lx = ((ln % 9 : Nat) : Int) := ⟨_, rfl⟩
      have hlx0 : 0 ≤ lx ∧ lx ≤ 8 := by omega
      rw [← hlx] at hrl hcl2 hcl3
      obtain ⟨W7, hW7⟩ : ∃ W7, W7 = (w'.setCell ⟨g1, kq * 3 + 2, none⟩ (.bool true)).setCell ⟨c2, 2, none⟩ (.int .i64 (min 40 (t.breath + (ln : Int) % 9))) := ⟨_, rfl⟩
      have HHa := Lib.hid (Hold.set w' g1 (kq * 3 + 2) (.bool true))
      have HHb := Lib.hid (Hold.set (w'.setCell ⟨g1, kq * 3 + 2, none⟩ (.bool true)) c2 2 (.int .i64 (min 40 (t.breath + (ln : Int) % 9))))
      rw [← hW7] at HHb
      have hTg : T ≠ g1 := qT1
      have HBX7 := Lib.hid (HHb.out.blk (show T ≠ c2 from qT2) (HHa.out.blk hTg HBX6.out))
      have X17 := Lib.hid (HHb.out.blk (show c1 ≠ c2 from A67.out) (HHa.out.blk (show c1 ≠ g1 from fun e => A16.out.1 e.symm) X16.out))
      have X27 := Lib.hid (show W7.heap[c2]? = some (.cells #[.slice (some ⟨g2, 0, none⟩) t.words.length t.words.length, .slice (some ⟨h2, 0, none⟩) t.turns.length t.turns.length, .int .i64 (min 40 (t.breath + (ln : Int) % 9))] 25 (0, 0)) by
        rw [hW7]; exact heap_set_same _ (HHa.out.blk (show c2 ≠ g1 from q21) X26.out))
      have X37 := Lib.hid (HHb.out.blk (show c3 ≠ c2 from fun e => A78.out e.symm) (HHa.out.blk (show c3 ≠ g1 from fun e => A18.out.1 e.symm) X36.out))
      have U17 := Lib.hid (own_holdB (own_stop kq hkl U16.out) HHb.out (show g1 ≠ c2 from A17.out.1))
      have U27 := Lib.hid (own_holdB (own_holdB U26.out HHa.out (show g2 ≠ g1 from fun e => A13.out.1.1 e.symm)) HHb.out (show g2 ≠ c2 from A37.out.1))
      have U37 := Lib.hid (own_holdB (own_holdB U36.out HHa.out (show g3 ≠ g1 from fun e => A15.out.1.1 e.symm)) HHb.out (show g3 ≠ c2 from A57.out.1))
      have O17 := Lib.hid (own_holdB (own_holdB O16.out HHa.out (show h1 ≠ g1 from hg1h1)) HHb.out (show h1 ≠ c2 from A17.out.2))
      have O27 := Lib.hid (own_holdB (own_holdB O26.out HHa.out (show h2 ≠ g1 from fun e => A13.out.1.2 e.symm)) HHb.out (show h2 ≠ c2 from A37.out.2))
      have O37 := Lib.hid (own_holdB (own_holdB O36.out HHa.out (show h3 ≠ g1 from fun e => A15.out.1.2 e.symm)) HHb.out (show h3 ≠ c2 from A57.out.2))
      have HBW7 := Lib.hid (show Below (T + 1) W3 W7 by rw [hW7]; exact (HBW6.out.setCell HGE.out.2.2.2.1 _).setCell HGE.out.2.1 _)
      have hZ7 : W7.heap.size = w'.heap.size := by rw [hW7]; simp
      have HLT7 := Lib.hid (show (c1 < W7.heap.size ∧ c2 < W7.heap.size ∧ c3 < W7.heap.size) from ⟨(Array.getElem?_eq_some_iff.1 X17.out).1, (Array.getElem?_eq_some_iff.1 X27.out).1, (Array.getElem?_eq_some_iff.1 X37.out).1⟩)
      clear HHa HHb X16 X26 X36 U16 U26 U36 O16 O26 O36 HBW6 HBX6
      go_wp2_with fail
      · rw [← hW7]
        clear hW7
        have ht0 : 0 < t.turns.length := by
          rcases Nat.eq_zero_or_pos t.turns.length with h | h
          · simp_all
          · exact h
        obtain ⟨iq, hiq⟩ : ∃ iq : Nat, iq = wn % t.turns.length := ⟨_, rfl⟩
        have hil : iq < t.turns.length := by rw [hiq]; exact Nat.mod_lt _ ht0
        have hrem6 : Int.tmod (wn : Int) (t.turns.length : Int) = (iq : Int) := by
          rw [Int.tmod_eq_emod_of_nonneg hwh.1, hiq]; rfl
        have hnz6 : ((t.turns.length : Int) == 0) = false := by rw [beq_eq_false_iff_ne]; omega
        have hnz26 : ¬ (t.turns.length : Int) = 0 := by omega
        have hte : ¬ t.turns = [] := fun e => by rw [e] at ht0; simp at ht0
        have hcv26 : IntKind.wrap .i64 (iq : Int) = (iq : Int) := by rw [IntWalk.i64_in _ (by omega)]
        have hcv36 : IntKind.wrap .i64 ((iq : Int) + 1) = ((iq + 1 : Nat) : Int) := by rw [IntWalk.i64_in _ (by omega)]; rfl
        have HZ7 := Lib.hid hZ7
        clear hiq k0 k1 k2 n0 n1 n2 fn qT1 qT2 q21 hZ7
        refine Rs.region_gen 15 [[], [0], [], [2], [], [4], [4, 5], [2, 3, 4, 5, 6], [], [8], [], [10], [10, 11], [8, 9, 10, 11, 12], [8, 9, 10, 11, 12, 13]] [some 62, some 63, some 64, some 65, some 66, some 67, some 68, some 69, some 70, some 71, some 72, some 73, some 74, some 75, some 76] (spMo6 t q d T c3 h3 wn iq) (by kernel_rfl) (by kernel_rfl) rfl (spMo6_stable _ _ _ _ _ _ _ _) ?_ ?_
        · refine ⟨fun V w' hG hs => ?_, fun V w' hG hs => ?_, fun V w' hG hs => ?_, fun V w' hG hs => ?_, fun V w' hG hs => ?_, fun V w' hG hs => ?_, fun V w' hG hs => ?_, fun V w' hG hs => ?_, fun V w' hG hs => ?_, fun V w' hG hs => ?_, fun V w' hG hs => ?_, fun V w' hG hs => ?_, fun V w' hG hs => ?_, fun V w' hG hs => ?_, fun V w' hG hs => ?_, trivial⟩
          all_goals
            obtain ⟨k0, k1, k2⟩ := blk3 ((hG.block T (by have := HBX7.out; exact (Array.getElem?_eq_some_iff.1 this).1)).trans HBX7.out)
            obtain ⟨m0, m1, m2⟩ := blk3 ((hG.block c3 HLT7.out.2.2).trans X37.out)
          · rw [if_pos (by rfl)]
            exact Rs.GrowL.value (v := .pointer (some ⟨c3, 1, none⟩)) (w' := w') (by simp [go_sem, Rs.look]) (Rs.Gr.refl _) rfl
          · have e0 : V 0 = .pointer (some ⟨c3, 1, none⟩) := hs 0 (by simp)
            rw [if_pos (by rfl)]
            exact Rs.GrowL.value (v := .slice (some ⟨h3, 0, none⟩) t.turns.length t.turns.length) (w' := w') (by simp [go_sem, Rs.look, e0, m1]) (Rs.Gr.refl _) rfl
          · rw [if_pos (by rfl)]
            exact Rs.GrowL.value (v := .int .u8 (wn : Int)) (w' := w') (by simp [go_sem, Rs.look]) (Rs.Gr.refl _) rfl
          · have e2 : V 2 = .int .u8 (wn : Int) := hs 2 (by simp)
            rw [if_pos (by rfl)]
            exact Rs.GrowL.value (v := .int .i64 (wn : Int)) (w' := w') (by simp [go_sem, Rs.look, e2, hcvt]) (Rs.Gr.refl _) rfl
          · rw [if_pos (by rfl)]
            exact Rs.GrowL.value (v := .pointer (some ⟨T, 1, none⟩)) (w' := w') (by simp [go_sem, Rs.look]) (Rs.Gr.refl _) rfl
          · have e4 : V 4 = .pointer (some ⟨T, 1, none⟩) := hs 4 (by simp)
            rw [if_pos (by rfl)]
            exact Rs.GrowL.value (v := .slice q t.turns.length d) (w' := w') (by simp [go_sem, Rs.look, e4, k1]) (Rs.Gr.refl _) rfl
          · have e4 : V 4 = .pointer (some ⟨T, 1, none⟩) := hs 4 (by simp)
            have e5 : V 5 = .slice q t.turns.length d := hs 5 (by simp)
            rw [if_pos (by rfl)]
            exact Rs.GrowL.value (v := .int .i64 (t.turns.length : Int)) (w' := w') (by simp [go_sem, Rs.look, e4, e5]) (Rs.Gr.refl _) rfl
          · have e2 : V 2 = .int .u8 (wn : Int) := hs 2 (by simp)
            have e3 : V 3 = .int .i64 (wn : Int) := hs 3 (by simp)
            have e4 : V 4 = .pointer (some ⟨T, 1, none⟩) := hs 4 (by simp)
            have e5 : V 5 = .slice q t.turns.length d := hs 5 (by simp)
            have e6 : V 6 = .int .i64 (t.turns.length : Int) := hs 6 (by simp)
            rw [if_pos (by rfl)]
            exact Rs.GrowL.value (v := .int .i64 (iq : Int)) (w' := w') (by simp [go_sem, Rs.look, e2, e3, e4, e5, e6, hrem6, hnz6, hnz26, hcv26, hte]) (Rs.Gr.refl _) rfl
          · rw [if_pos (by rfl)]
            exact Rs.GrowL.value (v := .int .u8 (wn : Int)) (w' := w') (by simp [go_sem, Rs.look]) (Rs.Gr.refl _) rfl
          · have e8 : V 8 = .int .u8 (wn : Int) := hs 8 (by simp)
            rw [if_pos (by rfl)]
            exact Rs.GrowL.value (v := .int .i64 (wn : Int)) (w' := w') (by simp [go_sem, Rs.look, e8, hcvt]) (Rs.Gr.refl _) rfl
          · rw [if_pos (by rfl)]
            exact Rs.GrowL.value (v := .pointer (some ⟨T, 1, none⟩)) (w' := w') (by simp [go_sem, Rs.look]) (Rs.Gr.refl _) rfl
          · have e10 : V 10 = .pointer (some ⟨T, 1, none⟩) := hs 10 (by simp)
            rw [if_pos (by rfl)]
            exact Rs.GrowL.value (v := .slice q t.turns.length d) (w' := w') (by simp [go_sem, Rs.look, e10, k1]) (Rs.Gr.refl _) rfl
          · have e10 : V 10 = .pointer (some ⟨T, 1, none⟩) := hs 10 (by simp)
            have e11 : V 11 = .slice q t.turns.length d := hs 11 (by simp)
            rw [if_pos (by rfl)]
            exact Rs.GrowL.value (v := .int .i64 (t.turns.length : Int)) (w' := w') (by simp [go_sem, Rs.look, e10, e11]) (Rs.Gr.refl _) rfl
          · have e8 : V 8 = .int .u8 (wn : Int) := hs 8 (by simp)
            have e9 : V 9 = .int .i64 (wn : Int) := hs 9 (by simp)
            have e10 : V 10 = .pointer (some ⟨T, 1, none⟩) := hs 10 (by simp)
            have e11 : V 11 = .slice q t.turns.length d := hs 11 (by simp)
            have e12 : V 12 = .int .i64 (t.turns.length : Int) := hs 12 (by simp)
            rw [if_pos (by rfl)]
            exact Rs.GrowL.value (v := .int .i64 (iq : Int)) (w' := w') (by simp [go_sem, Rs.look, e8, e9, e10, e11, e12, hrem6, hnz6, hnz26, hcv26, hte]) (Rs.Gr.refl _) rfl
          · have e8 : V 8 = .int .u8 (wn : Int) := hs 8 (by simp)
            have e9 : V 9 = .int .i64 (wn : Int) := hs 9 (by simp)
            have e10 : V 10 = .pointer (some ⟨T, 1, none⟩) := hs 10 (by simp)
            have e11 : V 11 = .slice q t.turns.length d := hs 11 (by simp)
            have e12 : V 12 = .int .i64 (t.turns.length : Int) := hs 12 (by simp)
            have e13 : V 13 = .int .i64 (iq : Int) := hs 13 (by simp)
            rw [if_pos (by rfl)]
            exact Rs.GrowL.value (v := .int .i64 ((iq + 1 : Nat) : Int)) (w' := w') (by simp [go_sem, Rs.look, e8, e9, e10, e11, e12, e13, hcv36]) (Rs.Gr.refl _) rfl
        · intro V w' hG hs
          have e0 : V 0 = .pointer (some ⟨c3, 1, none⟩) := hs 0 (by omega)
          have e1 : V 1 = .slice (some ⟨h3, 0, none⟩) t.turns.length t.turns.length := hs 1 (by omega)
          have e2 : V 2 = .int .u8 (wn : Int) := hs 2 (by omega)
          have e3 : V 3 = .int .i64 (wn : Int) := hs 3 (by omega)
          have e4 : V 4 = .pointer (some ⟨T, 1, none⟩) := hs 4 (by omega)
          have e5 : V 5 = .slice q t.turns.length d := hs 5 (by omega)
          have e6 : V 6 = .int .i64 (t.turns.length : Int) := hs 6 (by omega)
          have e7 : V 7 = .int .i64 (iq : Int) := hs 7 (by omega)
          have e8 : V 8 = .int .u8 (wn : Int) := hs 8 (by omega)
          have e9 : V 9 = .int .i64 (wn : Int) := hs 9 (by omega)
          have e10 : V 10 = .pointer (some ⟨T, 1, none⟩) := hs 10 (by omega)
          have e11 : V 11 = .slice q t.turns.length d := hs 11 (by omega)
          have e12 : V 12 = .int .i64 (t.turns.length : Int) := hs 12 (by omega)
          have e13 : V 13 = .int .i64 (iq : Int) := hs 13 (by omega)
          have e14 : V 14 = .int .i64 ((iq + 1 : Nat) : Int) := hs 14 (by omega)
          simp only [Rs.canon, Rs.dstOf, List.range_succ, List.range_zero, List.nil_append, List.cons_append, List.foldl_cons, List.foldl_nil, List.drop_succ_cons, List.drop_zero, List.drop_nil, List.getElem?_toArray, List.getElem?_cons_succ, List.getElem?_cons_zero, Option.bind_some, Act.put, List.getD_cons_succ, List.getD_cons_zero, List.setIfInBounds_toArray, List.set_cons_succ, List.set_cons_zero]
          rw [e0, e1, e2, e3, e4, e5, e6, e7, e8, e9, e10, e11, e12, e13, e14]
          clear e0 e1 e2 e3 e4 e5 e6 e7 e8 e9 e10 e11 e12 e13 e14 hs
          have O38 := own_below O37.out hG
          have hB8 := hG
          unfold Rs.Gr at hB8
          have HBX8 := (hB8.block T (Array.getElem?_eq_some_iff.1 HBX7.out).1).trans HBX7.out
          have X18 := (hB8.block c1 HLT7.out.1).trans X17.out
          have X28 := (hB8.block c2 HLT7.out.2.1).trans X27.out
          have X38 := (hB8.block c3 HLT7.out.2.2).trans X37.out
          have U18 := own_below U17.out hB8
          have U28 := own_below U27.out hB8
          have U38 := own_below U37.out hB8
          have O18 := own_below O17.out hB8
          have O28 := own_below O27.out hB8
          have HBW8 := HBW7.out.trans (hB8.mono (by have := HBW7.out.size; omega))
          go_wp2_with fail
          refine (Delete_turn t.turns iq hil (by omega) (T + 1) h3 t.turns.length _ O38).mono ?_
          rintro e w9 ⟨rfl, O39, hB9, HH9⟩
          have qh3T : T ≠ h3 := fun e => by have := HGE.out.2.2.2.2.2.2.2.2; omega
          have HBX9 := HH9.blk qh3T HBX8
          have X19 := HH9.blk (show c1 ≠ h3 from fun e => A56.out.2 e.symm) X18
          have X29 := HH9.blk (show c2 ≠ h3 from fun e => A57.out.2 e.symm) X28
          have X39 := HH9.blk (show c3 ≠ h3 from fun e => A58.out.2 e.symm) X38
          have U19 := own_holdB U18 HH9 (show g1 ≠ h3 from A15.out.1.2)
          have U29 := own_holdB U28 HH9 (show g2 ≠ h3 from A35.out.1.2)
          have U39 := own_holdB U38 HH9 (show g3 ≠ h3 from fun e => hg3h3 e.symm)
          have O19 := own_holdB O18 HH9 (show h1 ≠ h3 from A15.out.2.2)
          have O29 := own_holdB O28 HH9 (show h2 ≠ h3 from A35.out.2.2)
          have HBW9 := HBW8.trans hB9
          obtain ⟨W8, hW8⟩ : ∃ W8, W8 = w9.setCell ⟨c3, 1, none⟩ (.slice (some ⟨h3, 0, none⟩) (t.turns.length - 1) t.turns.length) := ⟨_, rfl⟩
          have HHc := Hold.set w9 c3 1 (.slice (some ⟨h3, 0, none⟩) (t.turns.length - 1) t.turns.length)
          rw [← hW8] at HHc
          have qT3 : ¬ T = c3 := fun e => by have := HGE.out.2.2.1; omega
          have ht3 : (turnT t iq).turns.length = t.turns.length - 1 := List.length_eraseIdx_of_lt hil
          have hiqO := turn_ok HOK.out iq
          have HBX := Lib.hid (HHc.blk qT3 HBX9)
          have Y1 := Lib.hid (HHc.blk (show c1 ≠ c3 from A68.out) X19)
          have Y2 := Lib.hid (HHc.blk (show c2 ≠ c3 from A78.out) X29)
          have Y3 := Lib.hid (show W8.heap[c3]? = some (.cells #[.slice (some ⟨g3, 0, none⟩) t.words.length t.words.length, .slice (some ⟨h3, 0, none⟩) (t.turns.length - 1) t.turns.length, .int .i64 t.breath] 25 (0, 0)) by
            rw [hW8]; exact heap_set_same _ X39)
          have V1 := own_holdB U19 HHc (show g1 ≠ c3 from A18.out.1)
          have V2 := own_holdB U29 HHc (show g2 ≠ c3 from A38.out.1)
          have V3 := own_holdB U39 HHc (show g3 ≠ c3 from A58.out.1)
          have P1 := own_holdB O19 HHc (show h1 ≠ c3 from A18.out.2)
          have P2 := own_holdB O29 HHc (show h2 ≠ c3 from A38.out.2)
          have P3 := own_holdB O39 HHc (show h3 ≠ c3 from A58.out.2)
          have HBW := Lib.hid (show Below (T + 1) W3 W8 by rw [hW8]; exact HBW9.setCell HGE.out.2.2.1 _)
          obtain ⟨tt, htt⟩ : ∃ tt, tt = turnT t iq := ⟨_, rfl⟩
          have HM3 := Lib.hid (show MoreOk t tt by rw [htt]; exact hiqO)
          have hlt3 := Lib.hid (show t.turns.length - 1 = tt.turns.length by rw [htt]; exact ht3.symm)
          have hw3 := Lib.hid (show tt.words = t.words by rw [htt]; rfl)
          have hb3 := Lib.hid (show t.breath = tt.breath by rw [htt]; rfl)
          have hp3 := Lib.hid (show tt.turns = t.turns.eraseIdx iq by rw [htt]; rfl)
          have hsl := Lib.hid (show t.words.length = (stopT t kq).words.length by simp [stopT])
          have Z1 := Lib.hid (more_at (stopT t kq) hsl.out rfl rfl Y1.out V1 P1 (stop_ok HOK.out hkl))
          have Z2 := Lib.hid (more_at (breathT t ((ln : Int) % 9)) rfl rfl rfl Y2.out V2 P2 (breath_ok HOK.out (by omega)))
          have Z3 := Lib.hid (more_at tt (by rw [hw3.out]) hlt3.out hb3.out Y3.out (by rw [hw3.out]; exact V3) (by rw [hp3.out]; exact P3) HM3.out)
          clear htt hlt3 hw3 hb3 hp3 hsl Y1 Y2 Y3 V1 V2 V3 P1 P2 P3
          obtain ⟨k0, k1, k2⟩ := blk3 HBX9
          obtain ⟨m0, m1, m2⟩ := blk3 X39
          have fn : ∀ i, w9.frozen? ⟨c3, i, none⟩ = false := fun i => by simp only [World.frozen?, X39]; simp
          clear X18 X28 X38 X19 X29 X39 U18 U28 U38 U19 U29 U39 O18 O28 O38 O39 O19 O29 HBX8 HBX9 hB8 hB9 hG HH9 HHc HBW8 HBW9 ht3 hiqO
          go_wp2_with fail
          rw [← hW8]
          clear hW8 k0 k1 k2 m0 m1 m2 fn
          clear hrem hnz hnz2 hwe hcvt hcv2 hkl0 hkl1 hrl hcl1 hcl2 hcl3 hlx0 hb1 hb2 hlx ht0 hil hrem6 hnz6 hnz26 hte hcv26 hcv36 qh3T qT3
          have HT := Lib.hid (HT2.out.below (show Below W3.heap.size W3 _ by rw [hz3]; exact HBW.out))
          obtain ⟨-, hs2, hs3, hs4⟩ := more_same HOK.out
          have HS2 := Lib.hid hs2
          have HS3 := Lib.hid hs3
          clear hs2 hs3
          rcases hs4 with ⟨hf, hc0⟩ | ⟨hf, hc0⟩
          · have HF0 := Lib.hid hf
            have HC0 := Lib.hid hc0
            clear hf hc0
            refine (Fewest_any t hn9 hn3 p q c d HC.out _ HT.out).mono ?_
            rintro e w10 ⟨v, rfl, ho, hB⟩
            obtain ⟨pf, cf, rfl, -⟩ := own_rd ho rfl
            rw [HF0.out]
            clear ho
            have HBX := Lib.hid ((hB.block _ (Array.getElem?_eq_some_iff.1 HBX.out).1).trans HBX.out)
            have HBW := Lib.hid (HBW.out.trans (hB.mono (by have := HBW.out.size; omega)))
            have HT := Lib.hid (HT.out.below hB)
            have Z1 := Lib.hid (Z1.out.below hB)
            have Z2 := Lib.hid (Z2.out.below hB)
            have Z3 := Lib.hid (Z3.out.below hB)
            clear hB
            obtain ⟨k0, k1, k2⟩ := blk3 HBX.out
            go_wp2_with fail
            clear k0 k1 k2
            refine (Count_any t hn9 hn3 p q c d HC.out _ HT.out).mono ?_
            rintro e w11 ⟨rfl, hB⟩
            rw [HE.out]
            have HBX := Lib.hid ((hB.block _ (Array.getElem?_eq_some_iff.1 HBX.out).1).trans HBX.out)
            have HBW := Lib.hid (HBW.out.trans (hB.mono (by have := HBW.out.size; omega)))
            have HT := Lib.hid (HT.out.below hB)
            have Z1 := Lib.hid (Z1.out.below hB)
            have Z2 := Lib.hid (Z2.out.below hB)
            have Z3 := Lib.hid (Z3.out.below hB)
            clear hB
            obtain ⟨k0, k1, k2⟩ := blk3 HBX.out
            go_wp2_with fail
            clear k0 k1 k2
            refine (Even_any t hn9 hn3 p q c d HC.out _ HT.out).mono ?_
            rintro e w12 ⟨v, rfl, ho, hB⟩
            obtain ⟨pe, ce, rfl, -⟩ := own_rd ho rfl
            rw [HS2.out, HF0.out]
            clear ho
            have HBX := Lib.hid ((hB.block _ (Array.getElem?_eq_some_iff.1 HBX.out).1).trans HBX.out)
            have HBW := Lib.hid (HBW.out.trans (hB.mono (by have := HBW.out.size; omega)))
            have HT := Lib.hid (HT.out.below hB)
            have Z1 := Lib.hid (Z1.out.below hB)
            have Z2 := Lib.hid (Z2.out.below hB)
            have Z3 := Lib.hid (Z3.out.below hB)
            clear hB
            obtain ⟨k0, k1, k2⟩ := blk3 HBX.out
            go_wp2_with fail
            clear k0 k1 k2
            refine (Never_any t hn9 hn3 p q c d HC.out _ HT.out).mono ?_
            rintro e w13 ⟨v, rfl, ho, hB⟩
            obtain ⟨pv, cv, rfl, HNV, -⟩ := own_rd ho rfl
            rw [HS3.out, HF0.out]
            clear ho
            have HBX := Lib.hid ((hB.block _ (Array.getElem?_eq_some_iff.1 HBX.out).1).trans HBX.out)
            have HBW := Lib.hid (HBW.out.trans (hB.mono (by have := HBW.out.size; omega)))
            have HT := Lib.hid (HT.out.below hB)
            have Z1 := Lib.hid (Z1.out.below hB)
            have Z2 := Lib.hid (Z2.out.below hB)
            have Z3 := Lib.hid (Z3.out.below hB)
            clear hB
            have HNV := Lib.hid HNV
            obtain ⟨cN, hcN⟩ : ∃ cN, cN = cntN t := ⟨_, rfl⟩
            rw [← hcN]
            have hcc := HC0.out
            rw [← hcN] at hcc
            have hcp : decide (cN > 0) = true := by simpa using hcc
            obtain ⟨gA, hA, cA, dA, bA, mA⟩ := Z1.out
            obtain ⟨gB, hBB, cB, dB, bB, mB⟩ := Z2.out
            obtain ⟨gC, hCC, cC, dC, bC, mC⟩ := Z3.out
            obtain ⟨a0, a1, a2⟩ := blk3 bA
            obtain ⟨b0, b1, b2⟩ := blk3 bB
            obtain ⟨d0, d1, d2⟩ := blk3 bC
            have lA := (Array.getElem?_eq_some_iff.1 bA).1
            have lB := (Array.getElem?_eq_some_iff.1 bB).1
            have lC := (Array.getElem?_eq_some_iff.1 bC).1
            have MA := Lib.hid mA
            have MB := Lib.hid mB
            have MC := Lib.hid mC
            have HCN := Lib.hid hcN
            clear bA bB bC mA mB mC hcN
            go_wp2_with fail
            obtain ⟨WL, hWL⟩ : ∃ WL, WL = (w13.alloc (.cells #[.slice pv (nevL t).length cv] 28)).alloc (.cells #[.slice (some ⟨gA, 0, none⟩) (stopT t kq).words.length cA, .slice (some ⟨hA, 0, none⟩) (stopT t kq).turns.length dA, .int .i64 (stopT t kq).breath, .slice (some ⟨gB, 0, none⟩) (breathT t ((ln : Int) % 9)).words.length cB, .slice (some ⟨hBB, 0, none⟩) (breathT t ((ln : Int) % 9)).turns.length dB, .int .i64 (breathT t ((ln : Int) % 9)).breath, .slice (some ⟨gC, 0, none⟩) tt.words.length cC, .slice (some ⟨hCC, 0, none⟩) tt.turns.length dC, .int .i64 tt.breath] 25) := ⟨_, rfl⟩
            rw [← hWL]
            have HROW := Lib.hid (row_at MA.out MB.out MC.out WL hWL)
            have hBL : Below w13.heap.size w13 WL := by rw [hWL]; exact (below1 _ _).alloc (by simp) _
            have HX18 := Lib.hid (show WL.heap[w13.heap.size]? = some (.cells #[.slice pv (nevL t).length cv] 28 (0, 0)) by
              rw [hWL]; exact ((below1 (w13.alloc (.cells #[.slice pv (nevL t).length cv] 28)) _).block w13.heap.size (by simp)).trans (heap_last _ _))
            have HNVL := Lib.hid (HNV.out.below hBL)
            have HBWL := Lib.hid (HBW.out.trans (hBL.mono (by have := HBW.out.size; omega)))
            have HZL := Lib.hid (show WL.heap.size = w13.heap.size + 2 by rw [hWL]; simp)
            obtain ⟨B18, hB18⟩ : ∃ B18, B18 = w13.heap.size := ⟨_, rfl⟩
            rw [← hB18] at HROW HX18 HZL ⊢
            clear hWL hBL a0 a1 a2 b0 b1 b2 d0 d1 d2 lA lB lC MA MB MC HNV HBW hcp hB18 HBX HT Z1 Z2 Z3
            have HBL := Lib.hid (show T + 1 ≤ WL.heap.size by have := HBWL.out.size; omega)
            go_loopw [124] (fun i wr => ∃ k : Nat, k ≤ 3 ∧ i = .int .i64 k ∧ Hid (Below WL.heap.size WL wr)) (fun i _ => 3 - (intOf i).toNat)
            case atStart => exact ⟨0, by omega, rfl, Lib.hid (Below.refl _ _)⟩
            case round =>
              obtain ⟨k, hk, rfl, HB⟩ := hrel
              by_cases hlt : k < 3
              · have hlt' : (k : Int) < 3 := by omega
                obtain ⟨x, g, h, cw, ct, c0, c1, c2, hTx, hcw, mo⟩ := (HROW.out k hlt).below (by rw [HZL.out]; omega) HB.out
                have HTX := Lib.hid (hTx.below (below1 wr (.cells #[.slice (some ⟨g, 0, none⟩) x.words.length cw, .slice (some ⟨h, 0, none⟩) x.turns.length ct, .int .i64 x.breath] 25)))
                have HXB := Lib.hid (heap_last wr (.cells #[.slice (some ⟨g, 0, none⟩) x.words.length cw, .slice (some ⟨h, 0, none⟩) x.turns.length ct, .int .i64 x.breath] 25))
                have HB := Lib.hid (HB.out.trans ((below1 wr (.cells #[.slice (some ⟨g, 0, none⟩) x.words.length cw, .slice (some ⟨h, 0, none⟩) x.turns.length ct, .int .i64 x.breath] 25)).mono HB.out.size))
                have HMO := Lib.hid mo
                have HCW := Lib.hid hcw
                have HX9 := Lib.hid (show x.words.length ≤ 1000000 by have := mo.ok.n12; omega)
                have HX3 := Lib.hid (show x.turns.length ≤ 1000000 by have := mo.ok.m6; omega)
                clear hTx mo hcw
                go_wp2_with fail
                clear c0 c1 c2
                obtain ⟨y1, y2, y3, y4, y5, y6⟩ := HMO.out.fw HF0.out
                refine (Fewest_any x HX9.out HX3.out (some ⟨g, 0, none⟩) (some ⟨h, 0, none⟩) cw ct HCW.out _ HTX.out).mono ?_
                rintro e wa ⟨v, rfl, ho, hB⟩
                obtain ⟨pk, ck, rfl, -⟩ := own_rd ho rfl
                rw [y1]
                clear ho
                have HXB := Lib.hid ((hB.block _ (Array.getElem?_eq_some_iff.1 HXB.out).1).trans HXB.out)
                have HB := Lib.hid (HB.out.trans (hB.mono HB.out.size))
                have HTX := Lib.hid (HTX.out.below hB)
                clear hB
                obtain ⟨k0, k1, k2⟩ := blk3 HXB.out
                go_wp2_with fail
                clear k0 k1 k2
                refine (Count_any x HX9.out HX3.out (some ⟨g, 0, none⟩) (some ⟨h, 0, none⟩) cw ct HCW.out _ HTX.out).mono ?_
                rintro e wb ⟨rfl, hB⟩
                rw [HMO.out.er]
                have HXB := Lib.hid ((hB.block _ (Array.getElem?_eq_some_iff.1 HXB.out).1).trans HXB.out)
                have HB := Lib.hid (HB.out.trans (hB.mono HB.out.size))
                have HTX := Lib.hid (HTX.out.below hB)
                clear hB
                obtain ⟨k0, k1, k2⟩ := blk3 HXB.out
                go_wp2_with fail
                clear k0 k1 k2
                refine (Even_any x HX9.out HX3.out (some ⟨g, 0, none⟩) (some ⟨h, 0, none⟩) cw ct HCW.out _ HTX.out).mono ?_
                rintro e wc ⟨v, rfl, ho, hB⟩
                obtain ⟨pe2, ce2, rfl, -⟩ := own_rd ho rfl
                rw [y2]
                clear ho
                have HXB := Lib.hid ((hB.block _ (Array.getElem?_eq_some_iff.1 HXB.out).1).trans HXB.out)
                have HB := Lib.hid (HB.out.trans (hB.mono HB.out.size))
                have HTX := Lib.hid (HTX.out.below hB)
                clear hB
                obtain ⟨k0, k1, k2⟩ := blk3 HXB.out
                go_wp2_with fail
                clear k0 k1 k2
                refine (Never_any x HX9.out HX3.out (some ⟨g, 0, none⟩) (some ⟨h, 0, none⟩) cw ct HCW.out _ HTX.out).mono ?_
                rintro e wd ⟨v, rfl, ho, hB⟩
                obtain ⟨pl, cl, rfl, hNX, -⟩ := own_rd ho rfl
                rw [y3]
                clear ho
                have HXB := Lib.hid ((hB.block _ (Array.getElem?_eq_some_iff.1 HXB.out).1).trans HXB.out)
                have HB := Lib.hid (HB.out.trans (hB.mono HB.out.size))
                have HTX := Lib.hid (HTX.out.below hB)
                clear hB
                have hct : ¬ cntN x < cN := by have := HMO.out.ct; have := HCN.out; omega
                have hyl : ¬ ((fewL t).length : Int) < ((fewL x).length : Int) := by omega
                have hym : ¬ (evR t).2.1 < (evR x).2.1 := by omega
                have HNX := Lib.hid hNX
                have HY6 := Lib.hid y6
                clear hNX y1 y2 y3 y4 y5 y6
                go_wp2_with fail
                have hX18 := (HB.out.block B18 (by rw [HZL.out]; omega)).trans HX18.out
                refine (containsFuncJ 67 entered_more1 (.pointer (some ⟨B18, 0, none⟩)) (fun y => !(nevL t).contains y) (nevL x) pl cl _ (Nat.le_trans (nevL_len x) HX9.out) HNX.out (fun W hW u _ => more1_any u (nevL t) (Nat.le_trans (nevL_len t) hn9) pv cv B18 W ((hW.block B18 (Array.getElem?_eq_some_iff.1 hX18).1).trans hX18) (HNVL.out.below (HB.out.trans (hW.mono HB.out.size))))).mono ?_
                rintro e we ⟨rfl, hB⟩
                rw [HY6.out]
                have HB := Lib.hid (HB.out.trans (hB.mono HB.out.size))
                clear hB hX18
                go_wp2
                go_roundw
                case rel => exact ⟨k + 1, by omega, by go_num, HB⟩
                case measure => simp [intOf]; omega
              · obtain rfl : k = 3 := by omega
                go_wp2_with fail
                refine (awake_any wr).mono ?_
                rintro e wz ⟨rfl, hB⟩
                have hBz := HBWL.out.trans ((HB.out.trans (hB.mono HB.out.size)).mono HBL.out)
                go_wp2
                go_ret
                exact ⟨rfl, HW3.out.trans (hBz.mono (by omega))⟩
          · have HF0 := Lib.hid hf
            have HC0 := Lib.hid hc0
            clear hf hc0
            refine (Fewest_any t hn9 hn3 p q c d HC.out _ HT.out).mono ?_
            rintro e w10 ⟨v, rfl, ho, hB⟩
            obtain ⟨pf, cf, rfl, -⟩ := own_rd ho rfl
            rw [HF0.out]
            clear ho
            have HBX := Lib.hid ((hB.block _ (Array.getElem?_eq_some_iff.1 HBX.out).1).trans HBX.out)
            have HBW := Lib.hid (HBW.out.trans (hB.mono (by have := HBW.out.size; omega)))
            have HT := Lib.hid (HT.out.below hB)
            have Z1 := Lib.hid (Z1.out.below hB)
            have Z2 := Lib.hid (Z2.out.below hB)
            have Z3 := Lib.hid (Z3.out.below hB)
            clear hB
            obtain ⟨k0, k1, k2⟩ := blk3 HBX.out
            go_wp2_with fail
            clear k0 k1 k2
            refine (Count_any t hn9 hn3 p q c d HC.out _ HT.out).mono ?_
            rintro e w11 ⟨rfl, hB⟩
            rw [HE.out]
            have HBX := Lib.hid ((hB.block _ (Array.getElem?_eq_some_iff.1 HBX.out).1).trans HBX.out)
            have HBW := Lib.hid (HBW.out.trans (hB.mono (by have := HBW.out.size; omega)))
            have HT := Lib.hid (HT.out.below hB)
            have Z1 := Lib.hid (Z1.out.below hB)
            have Z2 := Lib.hid (Z2.out.below hB)
            have Z3 := Lib.hid (Z3.out.below hB)
            clear hB
            obtain ⟨k0, k1, k2⟩ := blk3 HBX.out
            go_wp2_with fail
            clear k0 k1 k2
            refine (Even_any t hn9 hn3 p q c d HC.out _ HT.out).mono ?_
            rintro e w12 ⟨v, rfl, ho, hB⟩
            obtain ⟨pe, ce, rfl, -⟩ := own_rd ho rfl
            rw [HS2.out, HF0.out]
            clear ho
            have HBX := Lib.hid ((hB.block _ (Array.getElem?_eq_some_iff.1 HBX.out).1).trans HBX.out)
            have HBW := Lib.hid (HBW.out.trans (hB.mono (by have := HBW.out.size; omega)))
            have HT := Lib.hid (HT.out.below hB)
            have Z1 := Lib.hid (Z1.out.below hB)
            have Z2 := Lib.hid (Z2.out.below hB)
            have Z3 := Lib.hid (Z3.out.below hB)
            clear hB
            obtain ⟨k0, k1, k2⟩ := blk3 HBX.out
            go_wp2_with fail
            clear k0 k1 k2
            refine (Never_any t hn9 hn3 p q c d HC.out _ HT.out).mono ?_
            rintro e w13 ⟨v, rfl, ho, hB⟩
            obtain ⟨pv, cv, rfl, HNV, -⟩ := own_rd ho rfl
            rw [HS3.out, HF0.out]
            clear ho
            have HBX := Lib.hid ((hB.block _ (Array.getElem?_eq_some_iff.1 HBX.out).1).trans HBX.out)
            have HBW := Lib.hid (HBW.out.trans (hB.mono (by have := HBW.out.size; omega)))
            have HT := Lib.hid (HT.out.below hB)
            have Z1 := Lib.hid (Z1.out.below hB)
            have Z2 := Lib.hid (Z2.out.below hB)
            have Z3 := Lib.hid (Z3.out.below hB)
            clear hB
            have HNV := Lib.hid HNV
            obtain ⟨cN, hcN⟩ : ∃ cN, cN = cntN t := ⟨_, rfl⟩
            rw [← hcN]
            have hcc := HC0.out
            rw [← hcN] at hcc
            have hcp : decide (cN > 0) = false := by rw [hcc]; rfl
            obtain ⟨gA, hA, cA, dA, bA, mA⟩ := Z1.out
            obtain ⟨gB, hBB, cB, dB, bB, mB⟩ := Z2.out
            obtain ⟨gC, hCC, cC, dC, bC, mC⟩ := Z3.out
            obtain ⟨a0, a1, a2⟩ := blk3 bA
            obtain ⟨b0, b1, b2⟩ := blk3 bB
            obtain ⟨d0, d1, d2⟩ := blk3 bC
            have lA := (Array.getElem?_eq_some_iff.1 bA).1
            have lB := (Array.getElem?_eq_some_iff.1 bB).1
            have lC := (Array.getElem?_eq_some_iff.1 bC).1
            have MA := Lib.hid mA
            have MB := Lib.hid mB
            have MC := Lib.hid mC
            have HCN := Lib.hid hcN
            clear bA bB bC mA mB mC hcN
            go_wp2_with fail
            obtain ⟨WL, hWL⟩ : ∃ WL, WL = (w13.alloc (.cells #[.slice pv (nevL t).length cv] 28)).alloc (.cells #[.slice (some ⟨gA, 0, none⟩) (stopT t kq).words.length cA, .slice (some ⟨hA, 0, none⟩) (stopT t kq).turns.length dA, .int .i64 (stopT t kq).breath, .slice (some ⟨gB, 0, none⟩) (breathT t ((ln : Int) % 9)).words.length cB, .slice (some ⟨hBB, 0, none⟩) (breathT t ((ln : Int) % 9)).turns.length dB, .int .i64 (breathT t ((ln : Int) % 9)).breath, .slice (some ⟨gC, 0, none⟩) tt.words.length cC, .slice (some ⟨hCC, 0, none⟩) tt.turns.length dC, .int .i64 tt.breath] 25) := ⟨_, rfl⟩
            rw [← hWL]
            have HROW := Lib.hid (row_at MA.out MB.out MC.out WL hWL)
            have hBL : Below w13.heap.size w13 WL := by rw [hWL]; exact (below1 _ _).alloc (by simp) _
            have HX18 := Lib.hid (show WL.heap[w13.heap.size]? = some (.cells #[.slice pv (nevL t).length cv] 28 (0, 0)) by
              rw [hWL]; exact ((below1 (w13.alloc (.cells #[.slice pv (nevL t).length cv] 28)) _).block w13.heap.size (by simp)).trans (heap_last _ _))
            have HNVL := Lib.hid (HNV.out.below hBL)
            have HBWL := Lib.hid (HBW.out.trans (hBL.mono (by have := HBW.out.size; omega)))
            have HZL := Lib.hid (show WL.heap.size = w13.heap.size + 2 by rw [hWL]; simp)
            obtain ⟨B18, hB18⟩ : ∃ B18, B18 = w13.heap.size := ⟨_, rfl⟩
            rw [← hB18] at HROW HX18 HZL ⊢
            clear hWL hBL a0 a1 a2 b0 b1 b2 d0 d1 d2 lA lB lC MA MB MC HNV HBW hcp hB18 HBX HT Z1 Z2 Z3
            have HBL := Lib.hid (show T + 1 ≤ WL.heap.size by have := HBWL.out.size; omega)
            go_loopw [124] (fun i wr => ∃ k : Nat, k ≤ 3 ∧ i = .int .i64 k ∧ Hid (Below WL.heap.size WL wr)) (fun i _ => 3 - (intOf i).toNat)
            case atStart => exact ⟨0, by omega, rfl, Lib.hid (Below.refl _ _)⟩
            case round =>
              obtain ⟨k, hk, rfl, HB⟩ := hrel
              by_cases hlt : k < 3
              · have hlt' : (k : Int) < 3 := by omega
                obtain ⟨x, g, h, cw, ct, c0, c1, c2, hTx, hcw, mo⟩ := (HROW.out k hlt).below (by rw [HZL.out]; omega) HB.out
                have HTX := Lib.hid (hTx.below (below1 wr (.cells #[.slice (some ⟨g, 0, none⟩) x.words.length cw, .slice (some ⟨h, 0, none⟩) x.turns.length ct, .int .i64 x.breath] 25)))
                have HXB := Lib.hid (heap_last wr (.cells #[.slice (some ⟨g, 0, none⟩) x.words.length cw, .slice (some ⟨h, 0, none⟩) x.turns.length ct, .int .i64 x.breath] 25))
                have HB := Lib.hid (HB.out.trans ((below1 wr (.cells #[.slice (some ⟨g, 0, none⟩) x.words.length cw, .slice (some ⟨h, 0, none⟩) x.turns.length ct, .int .i64 x.breath] 25)).mono HB.out.size))
                have HMO := Lib.hid mo
                have HCW := Lib.hid hcw
                have HX9 := Lib.hid (show x.words.length ≤ 1000000 by have := mo.ok.n12; omega)
                have HX3 := Lib.hid (show x.turns.length ≤ 1000000 by have := mo.ok.m6; omega)
                clear hTx mo hcw
                go_wp2_with fail
                clear c0 c1 c2
                refine (Fewest_any x HX9.out HX3.out (some ⟨g, 0, none⟩) (some ⟨h, 0, none⟩) cw ct HCW.out _ HTX.out).mono ?_
                rintro e wa ⟨v, rfl, ho, hB⟩
                obtain ⟨pk, ck, rfl, -⟩ := own_rd ho rfl
                clear ho
                have HXB := Lib.hid ((hB.block _ (Array.getElem?_eq_some_iff.1 HXB.out).1).trans HXB.out)
                have HB := Lib.hid (HB.out.trans (hB.mono HB.out.size))
                have HTX := Lib.hid (HTX.out.below hB)
                clear hB
                obtain ⟨k0, k1, k2⟩ := blk3 HXB.out
                go_wp2_with fail
                clear k0 k1 k2
                refine (Count_any x HX9.out HX3.out (some ⟨g, 0, none⟩) (some ⟨h, 0, none⟩) cw ct HCW.out _ HTX.out).mono ?_
                rintro e wb ⟨rfl, hB⟩
                rw [HMO.out.er]
                have HXB := Lib.hid ((hB.block _ (Array.getElem?_eq_some_iff.1 HXB.out).1).trans HXB.out)
                have HB := Lib.hid (HB.out.trans (hB.mono HB.out.size))
                have HTX := Lib.hid (HTX.out.below hB)
                clear hB
                obtain ⟨k0, k1, k2⟩ := blk3 HXB.out
                go_wp2_with fail
                clear k0 k1 k2
                refine (Even_any x HX9.out HX3.out (some ⟨g, 0, none⟩) (some ⟨h, 0, none⟩) cw ct HCW.out _ HTX.out).mono ?_
                rintro e wc ⟨v, rfl, ho, hB⟩
                obtain ⟨pe2, ce2, rfl, -⟩ := own_rd ho rfl
                clear ho
                have HXB := Lib.hid ((hB.block _ (Array.getElem?_eq_some_iff.1 HXB.out).1).trans HXB.out)
                have HB := Lib.hid (HB.out.trans (hB.mono HB.out.size))
                have HTX := Lib.hid (HTX.out.below hB)
                clear hB
                obtain ⟨k0, k1, k2⟩ := blk3 HXB.out
                go_wp2_with fail
                clear k0 k1 k2
                refine (Never_any x HX9.out HX3.out (some ⟨g, 0, none⟩) (some ⟨h, 0, none⟩) cw ct HCW.out _ HTX.out).mono ?_
                rintro e wd ⟨v, rfl, ho, hB⟩
                obtain ⟨pl, cl, rfl, hNX, -⟩ := own_rd ho rfl
                clear ho
                have HXB := Lib.hid ((hB.block _ (Array.getElem?_eq_some_iff.1 HXB.out).1).trans HXB.out)
                have HB := Lib.hid (HB.out.trans (hB.mono HB.out.size))
                have HTX := Lib.hid (HTX.out.below hB)
                clear hB
                have hct : ¬ cntN x < cN := by have := HMO.out.ct; have := HCN.out; omega
                go_wp2
                go_roundw
                case rel => exact ⟨k + 1, by omega, by go_num, HB⟩
                case measure => simp [intOf]; omega
              · obtain rfl : k = 3 := by omega
                go_wp2_with fail
                refine (awake_any wr).mono ?_
                rintro e wz ⟨rfl, hB⟩
                have hBz := HBWL.out.trans ((HB.out.trans (hB.mono HB.out.size)).mono HBL.out)
                go_wp2
                go_ret
                exact ⟨rfl, HW3.out.trans (hBz.mono (by omega))⟩
      · rw [← hW7]
        clear hW7
        have htz : t.turns = [] := by
          rcases Nat.eq_zero_or_pos t.turns.length with h | h
          · exact List.length_eq_zero_iff.1 h
          · simp_all
        have HM3 := turn_ok HOK.out 0
        have hsl := Lib.hid (show t.words.length = (stopT t kq).words.length by simp [stopT])
        have htt : (turnT t 0).turns = t.turns := by unfold turnT; rw [htz]; rfl
        have HTT := Lib.hid htt
        have Z1 := Lib.hid (more_at (stopT t kq) hsl.out rfl rfl X17.out U17.out O17.out (stop_ok HOK.out hkl))
        have Z2 := Lib.hid (more_at (breathT t ((ln : Int) % 9)) rfl rfl rfl X27.out U27.out O27.out (breath_ok HOK.out (by omega)))
        have Z3 := Lib.hid (more_at (turnT t 0) rfl (by rw [HTT.out]) rfl X37.out U37.out (by rw [HTT.out]; exact O37.out) HM3)
        have HBX := HBX7
        have HBW := HBW7
        clear HBX7 HBW7
        clear hrem hnz hnz2 hwe hcvt hcv2 hkl0 hkl1 hrl hcl1 hcl2 hcl3 hcq' hfq' n0 n1 n2 fn qT1 qT2 q21 k0 k1 k2 hlx0 hb1 hb2 hlx htz htt hsl
        have HT := Lib.hid (HT2.out.below (show Below W3.heap.size W3 _ by rw [hz3]; exact HBW.out))
        obtain ⟨-, hs2, hs3, hs4⟩ := more_same HOK.out
        have HS2 := Lib.hid hs2
        have HS3 := Lib.hid hs3
        clear hs2 hs3
        rcases hs4 with ⟨hf, hc0⟩ | ⟨hf, hc0⟩
        · have HF0 := Lib.hid hf
          have HC0 := Lib.hid hc0
          clear hf hc0
          refine (Fewest_any t hn9 hn3 p q c d HC.out _ HT.out).mono ?_
          rintro e w10 ⟨v, rfl, ho, hB⟩
          obtain ⟨pf, cf, rfl, -⟩ := own_rd ho rfl
          rw [HF0.out]
          clear ho
          have HBX := Lib.hid ((hB.block _ (Array.getElem?_eq_some_iff.1 HBX.out).1).trans HBX.out)
          have HBW := Lib.hid (HBW.out.trans (hB.mono (by have := HBW.out.size; omega)))
          have HT := Lib.hid (HT.out.below hB)
          have Z1 := Lib.hid (Z1.out.below hB)
          have Z2 := Lib.hid (Z2.out.below hB)
          have Z3 := Lib.hid (Z3.out.below hB)
          clear hB
          obtain ⟨k0, k1, k2⟩ := blk3 HBX.out
          go_wp2_with fail
          clear k0 k1 k2
          refine (Count_any t hn9 hn3 p q c d HC.out _ HT.out).mono ?_
          rintro e w11 ⟨rfl, hB⟩
          rw [HE.out]
          have HBX := Lib.hid ((hB.block _ (Array.getElem?_eq_some_iff.1 HBX.out).1).trans HBX.out)
          have HBW := Lib.hid (HBW.out.trans (hB.mono (by have := HBW.out.size; omega)))
          have HT := Lib.hid (HT.out.below hB)
          have Z1 := Lib.hid (Z1.out.below hB)
          have Z2 := Lib.hid (Z2.out.below hB)
          have Z3 := Lib.hid (Z3.out.below hB)
          clear hB
          obtain ⟨k0, k1, k2⟩ := blk3 HBX.out
          go_wp2_with fail
          clear k0 k1 k2
          refine (Even_any t hn9 hn3 p q c d HC.out _ HT.out).mono ?_
          rintro e w12 ⟨v, rfl, ho, hB⟩
          obtain ⟨pe, ce, rfl, -⟩ := own_rd ho rfl
          rw [HS2.out, HF0.out]
          clear ho
          have HBX := Lib.hid ((hB.block _ (Array.getElem?_eq_some_iff.1 HBX.out).1).trans HBX.out)
          have HBW := Lib.hid (HBW.out.trans (hB.mono (by have := HBW.out.size; omega)))
          have HT := Lib.hid (HT.out.below hB)
          have Z1 := Lib.hid (Z1.out.below hB)
          have Z2 := Lib.hid (Z2.out.below hB)
          have Z3 := Lib.hid (Z3.out.below hB)
          clear hB
          obtain ⟨k0, k1, k2⟩ := blk3 HBX.out
          go_wp2_with fail
          clear k0 k1 k2
          refine (Never_any t hn9 hn3 p q c d HC.out _ HT.out).mono ?_
          rintro e w13 ⟨v, rfl, ho, hB⟩
          obtain ⟨pv, cv, rfl, HNV, -⟩ := own_rd ho rfl
          rw [HS3.out, HF0.out]
          clear ho
          have HBX := Lib.hid ((hB.block _ (Array.getElem?_eq_some_iff.1 HBX.out).1).trans HBX.out)
          have HBW := Lib.hid (HBW.out.trans (hB.mono (by have := HBW.out.size; omega)))
          have HT := Lib.hid (HT.out.below hB)
          have Z1 := Lib.hid (Z1.out.below hB)
          have Z2 := Lib.hid (Z2.out.below hB)
          have Z3 := Lib.hid (Z3.out.below hB)
          clear hB
          have HNV := Lib.hid HNV
          obtain ⟨cN, hcN⟩ : ∃ cN, cN = cntN t := ⟨_, rfl⟩
          rw [← hcN]
          have hcc := HC0.out
          rw [← hcN] at hcc
          have hcp : decide (cN > 0) = true := by simpa using hcc
          obtain ⟨gA, hA, cA, dA, bA, mA⟩ := Z1.out
          obtain ⟨gB, hBB, cB, dB, bB, mB⟩ := Z2.out
          obtain ⟨gC, hCC, cC, dC, bC, mC⟩ := Z3.out
          obtain ⟨a0, a1, a2⟩ := blk3 bA
          obtain ⟨b0, b1, b2⟩ := blk3 bB
          obtain ⟨d0, d1, d2⟩ := blk3 bC
          have lA := (Array.getElem?_eq_some_iff.1 bA).1
          have lB := (Array.getElem?_eq_some_iff.1 bB).1
          have lC := (Array.getElem?_eq_some_iff.1 bC).1
          have MA := Lib.hid mA
          have MB := Lib.hid mB
          have MC := Lib.hid mC
          have HCN := Lib.hid hcN
          clear bA bB bC mA mB mC hcN
          go_wp2_with fail
          obtain ⟨WL, hWL⟩ : ∃ WL, WL = (w13.alloc (.cells #[.slice pv (nevL t).length cv] 28)).alloc (.cells #[.slice (some ⟨gA, 0, none⟩) (stopT t kq).words.length cA, .slice (some ⟨hA, 0, none⟩) (stopT t kq).turns.length dA, .int .i64 (stopT t kq).breath, .slice (some ⟨gB, 0, none⟩) (breathT t ((ln : Int) % 9)).words.length cB, .slice (some ⟨hBB, 0, none⟩) (breathT t ((ln : Int) % 9)).turns.length dB, .int .i64 (breathT t ((ln : Int) % 9)).breath, .slice (some ⟨gC, 0, none⟩) (turnT t 0).words.length cC, .slice (some ⟨hCC, 0, none⟩) (turnT t 0).turns.length dC, .int .i64 (turnT t 0).breath] 25) := ⟨_, rfl⟩
          rw [← hWL]
          have HROW := Lib.hid (row_at MA.out MB.out MC.out WL hWL)
          have hBL : Below w13.heap.size w13 WL := by rw [hWL]; exact (below1 _ _).alloc (by simp) _
          have HX18 := Lib.hid (show WL.heap[w13.heap.size]? = some (.cells #[.slice pv (nevL t).length cv] 28 (0, 0)) by
            rw [hWL]; exact ((below1 (w13.alloc (.cells #[.slice pv (nevL t).length cv] 28)) _).block w13.heap.size (by simp)).trans (heap_last _ _))
          have HNVL := Lib.hid (HNV.out.below hBL)
          have HBWL := Lib.hid (HBW.out.trans (hBL.mono (by have := HBW.out.size; omega)))
          have HZL := Lib.hid (show WL.heap.size = w13.heap.size + 2 by rw [hWL]; simp)
          obtain ⟨B18, hB18⟩ : ∃ B18, B18 = w13.heap.size := ⟨_, rfl⟩
          rw [← hB18] at HROW HX18 HZL ⊢
          clear hWL hBL a0 a1 a2 b0 b1 b2 d0 d1 d2 lA lB lC MA MB MC HNV HBW hcp hB18 HBX HT Z1 Z2 Z3
          have HBL := Lib.hid (show T + 1 ≤ WL.heap.size by have := HBWL.out.size; omega)
          go_loopw [124] (fun i wr => ∃ k : Nat, k ≤ 3 ∧ i = .int .i64 k ∧ Hid (Below WL.heap.size WL wr)) (fun i _ => 3 - (intOf i).toNat)
          case atStart => exact ⟨0, by omega, rfl, Lib.hid (Below.refl _ _)⟩
          case round =>
            obtain ⟨k, hk, rfl, HB⟩ := hrel
            by_cases hlt : k < 3
            · have hlt' : (k : Int) < 3 := by omega
              obtain ⟨x, g, h, cw, ct, c0, c1, c2, hTx, hcw, mo⟩ := (HROW.out k hlt).below (by rw [HZL.out]; omega) HB.out
              have HTX := Lib.hid (hTx.below (below1 wr (.cells #[.slice (some ⟨g, 0, none⟩) x.words.length cw, .slice (some ⟨h, 0, none⟩) x.turns.length ct, .int .i64 x.breath] 25)))
              have HXB := Lib.hid (heap_last wr (.cells #[.slice (some ⟨g, 0, none⟩) x.words.length cw, .slice (some ⟨h, 0, none⟩) x.turns.length ct, .int .i64 x.breath] 25))
              have HB := Lib.hid (HB.out.trans ((below1 wr (.cells #[.slice (some ⟨g, 0, none⟩) x.words.length cw, .slice (some ⟨h, 0, none⟩) x.turns.length ct, .int .i64 x.breath] 25)).mono HB.out.size))
              have HMO := Lib.hid mo
              have HCW := Lib.hid hcw
              have HX9 := Lib.hid (show x.words.length ≤ 1000000 by have := mo.ok.n12; omega)
              have HX3 := Lib.hid (show x.turns.length ≤ 1000000 by have := mo.ok.m6; omega)
              clear hTx mo hcw
              go_wp2_with fail
              clear c0 c1 c2
              obtain ⟨y1, y2, y3, y4, y5, y6⟩ := HMO.out.fw HF0.out
              refine (Fewest_any x HX9.out HX3.out (some ⟨g, 0, none⟩) (some ⟨h, 0, none⟩) cw ct HCW.out _ HTX.out).mono ?_
              rintro e wa ⟨v, rfl, ho, hB⟩
              obtain ⟨pk, ck, rfl, -⟩ := own_rd ho rfl
              rw [y1]
              clear ho
              have HXB := Lib.hid ((hB.block _ (Array.getElem?_eq_some_iff.1 HXB.out).1).trans HXB.out)
              have HB := Lib.hid (HB.out.trans (hB.mono HB.out.size))
              have HTX := Lib.hid (HTX.out.below hB)
              clear hB
              obtain ⟨k0, k1, k2⟩ := blk3 HXB.out
              go_wp2_with fail
              clear k0 k1 k2
              refine (Count_any x HX9.out HX3.out (some ⟨g, 0, none⟩) (some ⟨h, 0, none⟩) cw ct HCW.out _ HTX.out).mono ?_
              rintro e wb ⟨rfl, hB⟩
              rw [HMO.out.er]
              have HXB := Lib.hid ((hB.block _ (Array.getElem?_eq_some_iff.1 HXB.out).1).trans HXB.out)
              have HB := Lib.hid (HB.out.trans (hB.mono HB.out.size))
              have HTX := Lib.hid (HTX.out.below hB)
              clear hB
              obtain ⟨k0, k1, k2⟩ := blk3 HXB.out
              go_wp2_with fail
              clear k0 k1 k2
              refine (Even_any x HX9.out HX3.out (some ⟨g, 0, none⟩) (some ⟨h, 0, none⟩) cw ct HCW.out _ HTX.out).mono ?_
              rintro e wc ⟨v, rfl, ho, hB⟩
              obtain ⟨pe2, ce2, rfl, -⟩ := own_rd ho rfl
              rw [y2]
              clear ho
              have HXB := Lib.hid ((hB.block _ (Array.getElem?_eq_some_iff.1 HXB.out).1).trans HXB.out)
              have HB := Lib.hid (HB.out.trans (hB.mono HB.out.size))
              have HTX := Lib.hid (HTX.out.below hB)
              clear hB
              obtain ⟨k0, k1, k2⟩ := blk3 HXB.out
              go_wp2_with fail
              clear k0 k1 k2
              refine (Never_any x HX9.out HX3.out (some ⟨g, 0, none⟩) (some ⟨h, 0, none⟩) cw ct HCW.out _ HTX.out).mono ?_
              rintro e wd ⟨v, rfl, ho, hB⟩
              obtain ⟨pl, cl, rfl, hNX, -⟩ := own_rd ho rfl
              rw [y3]
              clear ho
              have HXB := Lib.hid ((hB.block _ (Array.getElem?_eq_some_iff.1 HXB.out).1).trans HXB.out)
              have HB := Lib.hid (HB.out.trans (hB.mono HB.out.size))
              have HTX := Lib.hid (HTX.out.below hB)
              clear hB
              have hct : ¬ cntN x < cN := by have := HMO.out.ct; have := HCN.out; omega
              have hyl : ¬ ((fewL t).length : Int) < ((fewL x).length : Int) := by omega
              have hym : ¬ (evR t).2.1 < (evR x).2.1 := by omega
              have HNX := Lib.hid hNX
              have HY6 := Lib.hid y6
              clear hNX y1 y2 y3 y4 y5 y6
              go_wp2_with fail
              have hX18 := (HB.out.block B18 (by rw [HZL.out]; omega)).trans HX18.out
              refine (containsFuncJ 67 entered_more1 (.pointer (some ⟨B18, 0, none⟩)) (fun y => !(nevL t).contains y) (nevL x) pl cl _ (Nat.le_trans (nevL_len x) HX9.out) HNX.out (fun W hW u _ => more1_any u (nevL t) (Nat.le_trans (nevL_len t) hn9) pv cv B18 W ((hW.block B18 (Array.getElem?_eq_some_iff.1 hX18).1).trans hX18) (HNVL.out.below (HB.out.trans (hW.mono HB.out.size))))).mono ?_
              rintro e we ⟨rfl, hB⟩
              rw [HY6.out]
              have HB := Lib.hid (HB.out.trans (hB.mono HB.out.size))
              clear hB hX18
              go_wp2
              go_roundw
              case rel => exact ⟨k + 1, by omega, by go_num, HB⟩
              case measure => simp [intOf]; omega
            · obtain rfl : k = 3 := by omega
              go_wp2_with fail
              refine (awake_any wr).mono ?_
              rintro e wz ⟨rfl, hB⟩
              have hBz := HBWL.out.trans ((HB.out.trans (hB.mono HB.out.size)).mono HBL.out)
              go_wp2
              go_ret
              exact ⟨rfl, HW3.out.trans (hBz.mono (by omega))⟩
        · have HF0 := Lib.hid hf
          have HC0 := Lib.hid hc0
          clear hf hc0
          refine (Fewest_any t hn9 hn3 p q c d HC.out _ HT.out).mono ?_
          rintro e w10 ⟨v, rfl, ho, hB⟩
          obtain ⟨pf, cf, rfl, -⟩ := own_rd ho rfl
          rw [HF0.out]
          clear ho
          have HBX := Lib.hid ((hB.block _ (Array.getElem?_eq_some_iff.1 HBX.out).1).trans HBX.out)
          have HBW := Lib.hid (HBW.out.trans (hB.mono (by have := HBW.out.size; omega)))
          have HT := Lib.hid (HT.out.below hB)
          have Z1 := Lib.hid (Z1.out.below hB)
          have Z2 := Lib.hid (Z2.out.below hB)
          have Z3 := Lib.hid (Z3.out.below hB)
          clear hB
          obtain ⟨k0, k1, k2⟩ := blk3 HBX.out
          go_wp2_with fail
          clear k0 k1 k2
          refine (Count_any t hn9 hn3 p q c d HC.out _ HT.out).mono ?_
          rintro e w11 ⟨rfl, hB⟩
          rw [HE.out]
          have HBX := Lib.hid ((hB.block _ (Array.getElem?_eq_some_iff.1 HBX.out).1).trans HBX.out)
          have HBW := Lib.hid (HBW.out.trans (hB.mono (by have := HBW.out.size; omega)))
          have HT := Lib.hid (HT.out.below hB)
          have Z1 := Lib.hid (Z1.out.below hB)
          have Z2 := Lib.hid (Z2.out.below hB)
          have Z3 := Lib.hid (Z3.out.below hB)
          clear hB
          obtain ⟨k0, k1, k2⟩ := blk3 HBX.out
          go_wp2_with fail
          clear k0 k1 k2
          refine (Even_any t hn9 hn3 p q c d HC.out _ HT.out).mono ?_
          rintro e w12 ⟨v, rfl, ho, hB⟩
          obtain ⟨pe, ce, rfl, -⟩ := own_rd ho rfl
          rw [HS2.out, HF0.out]
          clear ho
          have HBX := Lib.hid ((hB.block _ (Array.getElem?_eq_some_iff.1 HBX.out).1).trans HBX.out)
          have HBW := Lib.hid (HBW.out.trans (hB.mono (by have := HBW.out.size; omega)))
          have HT := Lib.hid (HT.out.below hB)
          have Z1 := Lib.hid (Z1.out.below hB)
          have Z2 := Lib.hid (Z2.out.below hB)
          have Z3 := Lib.hid (Z3.out.below hB)
          clear hB
          obtain ⟨k0, k1, k2⟩ := blk3 HBX.out
          go_wp2_with fail
          clear k0 k1 k2
          refine (Never_any t hn9 hn3 p q c d HC.out _ HT.out).mono ?_
          rintro e w13 ⟨v, rfl, ho, hB⟩
          obtain ⟨pv, cv, rfl, HNV, -⟩ := own_rd ho rfl
          rw [HS3.out, HF0.out]
          clear ho
          have HBX := Lib.hid ((hB.block _ (Array.getElem?_eq_some_iff.1 HBX.out).1).trans HBX.out)
          have HBW := Lib.hid (HBW.out.trans (hB.mono (by have := HBW.out.size; omega)))
          have HT := Lib.hid (HT.out.below hB)
          have Z1 := Lib.hid (Z1.out.below hB)
          have Z2 := Lib.hid (Z2.out.below hB)
          have Z3 := Lib.hid (Z3.out.below hB)
          clear hB
          have HNV := Lib.hid HNV
          obtain ⟨cN, hcN⟩ : ∃ cN, cN = cntN t := ⟨_, rfl⟩
          rw [← hcN]
          have hcc := HC0.out
          rw [← hcN] at hcc
          have hcp : decide (cN > 0) = false := by rw [hcc]; rfl
          obtain ⟨gA, hA, cA, dA, bA, mA⟩ := Z1.out
          obtain ⟨gB, hBB, cB, dB, bB, mB⟩ := Z2.out
          obtain ⟨gC, hCC, cC, dC, bC, mC⟩ := Z3.out
          obtain ⟨a0, a1, a2⟩ := blk3 bA
          obtain ⟨b0, b1, b2⟩ := blk3 bB
          obtain ⟨d0, d1, d2⟩ := blk3 bC
          have lA := (Array.getElem?_eq_some_iff.1 bA).1
          have lB := (Array.getElem?_eq_some_iff.1 bB).1
          have lC := (Array.getElem?_eq_some_iff.1 bC).1
          have MA := Lib.hid mA
          have MB := Lib.hid mB
          have MC := Lib.hid mC
          have HCN := Lib.hid hcN
          clear bA bB bC mA mB mC hcN
          go_wp2_with fail
          obtain ⟨WL, hWL⟩ : ∃ WL, WL = (w13.alloc (.cells #[.slice pv (nevL t).length cv] 28)).alloc (.cells #[.slice (some ⟨gA, 0, none⟩) (stopT t kq).words.length cA, .slice (some ⟨hA, 0, none⟩) (stopT t kq).turns.length dA, .int .i64 (stopT t kq).breath, .slice (some ⟨gB, 0, none⟩) (breathT t ((ln : Int) % 9)).words.length cB, .slice (some ⟨hBB, 0, none⟩) (breathT t ((ln : Int) % 9)).turns.length dB, .int .i64 (breathT t ((ln : Int) % 9)).breath, .slice (some ⟨gC, 0, none⟩) (turnT t 0).words.length cC, .slice (some ⟨hCC, 0, none⟩) (turnT t 0).turns.length dC, .int .i64 (turnT t 0).breath] 25) := ⟨_, rfl⟩
          rw [← hWL]
          have HROW := Lib.hid (row_at MA.out MB.out MC.out WL hWL)
          have hBL : Below w13.heap.size w13 WL := by rw [hWL]; exact (below1 _ _).alloc (by simp) _
          have HX18 := Lib.hid (show WL.heap[w13.heap.size]? = some (.cells #[.slice pv (nevL t).length cv] 28 (0, 0)) by
            rw [hWL]; exact ((below1 (w13.alloc (.cells #[.slice pv (nevL t).length cv] 28)) _).block w13.heap.size (by simp)).trans (heap_last _ _))
          have HNVL := Lib.hid (HNV.out.below hBL)
          have HBWL := Lib.hid (HBW.out.trans (hBL.mono (by have := HBW.out.size; omega)))
          have HZL := Lib.hid (show WL.heap.size = w13.heap.size + 2 by rw [hWL]; simp)
          obtain ⟨B18, hB18⟩ : ∃ B18, B18 = w13.heap.size := ⟨_, rfl⟩
          rw [← hB18] at HROW HX18 HZL ⊢
          clear hWL hBL a0 a1 a2 b0 b1 b2 d0 d1 d2 lA lB lC MA MB MC HNV HBW hcp hB18 HBX HT Z1 Z2 Z3
          have HBL := Lib.hid (show T + 1 ≤ WL.heap.size by have := HBWL.out.size; omega)
          go_loopw [124] (fun i wr => ∃ k : Nat, k ≤ 3 ∧ i = .int .i64 k ∧ Hid (Below WL.heap.size WL wr)) (fun i _ => 3 - (intOf i).toNat)
          case atStart => exact ⟨0, by omega, rfl, Lib.hid (Below.refl _ _)⟩
          case round =>
            obtain ⟨k, hk, rfl, HB⟩ := hrel
            by_cases hlt : k < 3
            · have hlt' : (k : Int) < 3 := by omega
              obtain ⟨x, g, h, cw, ct, c0, c1, c2, hTx, hcw, mo⟩ := (HROW.out k hlt).below (by rw [HZL.out]; omega) HB.out
              have HTX := Lib.hid (hTx.below (below1 wr (.cells #[.slice (some ⟨g, 0, none⟩) x.words.length cw, .slice (some ⟨h, 0, none⟩) x.turns.length ct, .int .i64 x.breath] 25)))
              have HXB := Lib.hid (heap_last wr (.cells #[.slice (some ⟨g, 0, none⟩) x.words.length cw, .slice (some ⟨h, 0, none⟩) x.turns.length ct, .int .i64 x.breath] 25))
              have HB := Lib.hid (HB.out.trans ((below1 wr (.cells #[.slice (some ⟨g, 0, none⟩) x.words.length cw, .slice (some ⟨h, 0, none⟩) x.turns.length ct, .int .i64 x.breath] 25)).mono HB.out.size))
              have HMO := Lib.hid mo
              have HCW := Lib.hid hcw
              have HX9 := Lib.hid (show x.words.length ≤ 1000000 by have := mo.ok.n12; omega)
              have HX3 := Lib.hid (show x.turns.length ≤ 1000000 by have := mo.ok.m6; omega)
              clear hTx mo hcw
              go_wp2_with fail
              clear c0 c1 c2
              refine (Fewest_any x HX9.out HX3.out (some ⟨g, 0, none⟩) (some ⟨h, 0, none⟩) cw ct HCW.out _ HTX.out).mono ?_
              rintro e wa ⟨v, rfl, ho, hB⟩
              obtain ⟨pk, ck, rfl, -⟩ := own_rd ho rfl
              clear ho
              have HXB := Lib.hid ((hB.block _ (Array.getElem?_eq_some_iff.1 HXB.out).1).trans HXB.out)
              have HB := Lib.hid (HB.out.trans (hB.mono HB.out.size))
              have HTX := Lib.hid (HTX.out.below hB)
              clear hB
              obtain ⟨k0, k1, k2⟩ := blk3 HXB.out
              go_wp2_with fail
              clear k0 k1 k2
              refine (Count_any x HX9.out HX3.out (some ⟨g, 0, none⟩) (some ⟨h, 0, none⟩) cw ct HCW.out _ HTX.out).mono ?_
              rintro e wb ⟨rfl, hB⟩
              rw [HMO.out.er]
              have HXB := Lib.hid ((hB.block _ (Array.getElem?_eq_some_iff.1 HXB.out).1).trans HXB.out)
              have HB := Lib.hid (HB.out.trans (hB.mono HB.out.size))
              have HTX := Lib.hid (HTX.out.below hB)
              clear hB
              obtain ⟨k0, k1, k2⟩ := blk3 HXB.out
              go_wp2_with fail
              clear k0 k1 k2
              refine (Even_any x HX9.out HX3.out (some ⟨g, 0, none⟩) (some ⟨h, 0, none⟩) cw ct HCW.out _ HTX.out).mono ?_
              rintro e wc ⟨v, rfl, ho, hB⟩
              obtain ⟨pe2, ce2, rfl, -⟩ := own_rd ho rfl
              clear ho
              have HXB := Lib.hid ((hB.block _ (Array.getElem?_eq_some_iff.1 HXB.out).1).trans HXB.out)
              have HB := Lib.hid (HB.out.trans (hB.mono HB.out.size))
              have HTX := Lib.hid (HTX.out.below hB)
              clear hB
              obtain ⟨k0, k1, k2⟩ := blk3 HXB.out
              go_wp2_with fail
              clear k0 k1 k2
              refine (Never_any x HX9.out HX3.out (some ⟨g, 0, none⟩) (some ⟨h, 0, none⟩) cw ct HCW.out _ HTX.out).mono ?_
              rintro e wd ⟨v, rfl, ho, hB⟩
              obtain ⟨pl, cl, rfl, hNX, -⟩ := own_rd ho rfl
              clear ho
              have HXB := Lib.hid ((hB.block _ (Array.getElem?_eq_some_iff.1 HXB.out).1).trans HXB.out)
              have HB := Lib.hid (HB.out.trans (hB.mono HB.out.size))
              have HTX := Lib.hid (HTX.out.below hB)
              clear hB
              have hct : ¬ cntN x < cN := by have := HMO.out.ct; have := HCN.out; omega
              go_wp2
              go_roundw
              case rel => exact ⟨k + 1, by omega, by go_num, HB⟩
              case measure => simp [intOf]; omega
            · obtain rfl : k = 3 := by omega
              go_wp2_with fail
              refine (awake_any wr).mono ?_
              rintro e wz ⟨rfl, hB⟩
              have hBz := HBWL.out.trans ((HB.out.trans (hB.mono HB.out.size)).mono HBL.out)
              go_wp2
              go_ret
              exact ⟨rfl, HW3.out.trans (hBz.mono (by omega))⟩
end Go.Proofs.Ytadnggecnjdhiaa
namespace Go.Proofs.Ytadnggecnjdhiaa
open Go.ChangeShapes Go.WideShapes Go.ChangeAt Go.RowKit Go.Joins Tx
set_option linter.unusedVariables false
set_option linter.unusedSimpArgs false

set_option maxRecDepth 100000 in
theorem TextMore_lifted (os : Os) (started : os.Started) (H : Type) (enc : TypeId × Value → H) :
    ReturnsInHanded {} Try.checked os 12 .any (Rows.textMoreSpec.pre6 enc Try.prog Try.f12 Rows.textMoreRow.domain false) (Rows.textMoreSpec.post enc Try.prog Try.f12 false true false false) := by
  refine returnsInHanded_of_change (C := Try.checked) Try.own started (by kernel_rfl) Try.func12
    (ChangeSpec.witness6 (enc := enc) (C := Try.checked) false ⟨#[], #[.slice none 0 0, .int .u8 0, .int .u8 0], []⟩ 8 (by kernel_rfl) (by kernel_rfl) (by kernel_rfl) (by kernel_rfl)) ?_
  intro W base args ds gs before hval0 hW hcnd _
  have hval : ∀ (j : Nat) t v, Try.f12.params[j]? = some t → args[j]? = some v → Value.okWide Try.prog W .any base t v := hval0
  have hW' := hW
  obtain ⟨p, q, hA0, hV, rfl, hfz, hnd⟩ := hW
  have hA : DataW.TrodAll enc Try.prog W 0 (fun _ => true) true Try.f12.params.toList args.toList ds p := hA0
  rw [Try.params12] at hA hval
  obtain ⟨v0, vs0, d0, ds0, p0, q0, hargs, rfl, rfl, h0, r0⟩ := trodAll_cons hA
  obtain ⟨v1, vs1, d1, ds1, p1, q1, rfl, rfl, rfl, h1, r1⟩ := trodAll_cons r0
  obtain ⟨v2, vs2, d2, ds2, p2, q2, rfl, rfl, rfl, h2, r2⟩ := trodAll_cons r1
  obtain ⟨rfl, rfl, rfl⟩ := trodAll_nil r2
  obtain rfl : args = #[v0, v1, v2] := by cases args; simp_all
  obtain ⟨rfl, rfl⟩ := trodVars_none hV
  have lt0 := lt_of_trod h0
  have k0 := h0
  obtain ⟨a0, n0, c0, e0, l0, hB0⟩ := bytes_of_Trod (fun _ => rfl) (hval 0 88 v0 rfl rfl) h0
  obtain ⟨x1, rfl, rfl, rfl, w1⟩ := open_int Try.underlying5 (hval 1 5 v1 rfl rfl) h1
  have b1 := bounds_u8 w1
  obtain ⟨x2, rfl, rfl, rfl, w2⟩ := open_int Try.underlying5 (hval 2 5 v2 rfl rfl) h2
  have b2 := bounds_u8 w2
  clear hA0 hval0
  subst e0
  refine (TextMore_any a0 n0 c0 l0 x1 x2 ⟨b1.1, by omega⟩ ⟨b2.1, by omega⟩ W hB0).mono fun e W' ⟨he, bel⟩ => ?_
  subst he
  exact ⟨_, rfl, _, _, _, [], _, [], hW', trodAll_mk1 (shut_bool Try.underlying4 _), (trodAll_cons_mk (Below.trod Try.laidOut (by kernel_rfl) (of_decide_eq_true (by kernel_rfl)) k0 bel lt0) (trodAll_cons_mk (shut_int Try.underlying5 w1) (trodAll_cons_mk (shut_int Try.underlying5 w2) trodAll_mk0))), rfl, bel.frame _, fun h => by cases h⟩

theorem TextMore_holds : Rows.TextMoreSaid :=
  OpenClaim.holds_of_wide 12 Try.f12 rfl rfl rfl rfl rfl rfl rfl ⟨rfl, rfl, rfl, rfl, rfl⟩ rfl rfl rfl rfl rfl (by kernel_rfl) Try.func12 (by kernel_rfl)
    (of_decide_eq_true (by kernel_rfl)) (by unfold Func.isWrapper; first | (rw [if_pos (by decide +kernel)]; kernel_rfl) | (rw [if_neg (by decide +kernel)]; exact ⟨rfl, rfl⟩))
    (fun os started H enc _ => TextMore_lifted os started H enc)
end Go.Proofs.Ytadnggecnjdhiaa
