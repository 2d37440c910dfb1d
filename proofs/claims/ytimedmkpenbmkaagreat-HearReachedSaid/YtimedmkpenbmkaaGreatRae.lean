/- Contracts and mathematics, part 5. -/
import Derived.Test.YtimedmkpenbmkaaGreatRad
import Derived.Maps.AppendAt
import Derived.Laws.OwnMore
section
namespace Go.Proofs.YtimedmkpenbmkaaGreat
open Go.RowKit Go.Shelf
set_option linter.unusedSimpArgs false
set_option linter.unusedVariables false
theorem hearB_mono {t : Hr.Town} {wind v v' : Int} {h s : Nat} (hv : v ≤ v') (hb : hearB t wind v h s = true) : hearB t wind v' h s = true := by
  unfold hearB at hb ⊢
  simp only [Bool.and_eq_true, decide_eq_true_iff] at hb ⊢
  exact ⟨hb.1, hb.2.1, by omega⟩
theorem housesOf_mono {t : Hr.Town} {wind v v' : Int} {s : Nat} (hv : v ≤ v') : ∀ x ∈ housesOf t wind v s, x ∈ housesOf t wind v' s := fun x hx => by
  obtain ⟨p, rfl⟩ : ∃ p : Nat, x = p := by
    unfold housesOf housesTo at hx
    obtain ⟨p, _, e⟩ := List.mem_map.1 hx
    exact ⟨p, e.symm⟩
  rw [mem_housesOf] at hx ⊢
  exact ⟨hx.1, hx.2.1, hearB_mono hv hx.2.2⟩
theorem ears_get {t : Hr.Town} {wind voice : Int} {h s : Nat} : (ears t wind voice h).getD s false = (decide (s < 30) && hearB t wind voice h s) := by
  unfold ears
  rw [List.getD_eq_getElem?_getD, List.getElem?_map]
  by_cases e : s < 30
  · simp [List.getElem?_range, e]
  · simp [e]
theorem hit_ears {t : Hr.Town} {wind voice : Int} {S : List Nat} {h : Nat} : hit S (ears t wind voice h) = true ↔ ∃ s ∈ S, s < 30 ∧ hearB t wind voice h s = true := by
  unfold hit
  rw [List.any_eq_true]
  constructor
  · rintro ⟨s, hs, e⟩
    rw [ears_get, Bool.and_eq_true, decide_eq_true_iff] at e
    exact ⟨s, hs, e⟩
  · rintro ⟨s, hs, e⟩
    exact ⟨s, hs, by rw [ears_get, Bool.and_eq_true, decide_eq_true_iff]; exact e⟩
theorem hit_mono {t : Hr.Town} {wind v v' : Int} (hv : v ≤ v') {S : List Nat} {h : Nat} (hb : hit S (ears t wind v h) = true) : hit S (ears t wind v' h) = true := by
  rw [hit_ears] at hb ⊢
  obtain ⟨s, a, b, c⟩ := hb
  exact ⟨s, a, b, hearB_mono hv c⟩
theorem cnt_lis (t : Hr.Town) (wind voice : Int) (cnt : Nat → Bool) (S : List Nat) : cntS (lis t wind voice cnt) S = ((List.range t.len).filter fun p => t.at p == 1 && cnt p).countP fun p => hit S (ears t wind voice p) := by
  unfold cntS lis lisTo
  rw [List.filter_map, List.length_map, List.countP_eq_length_filter]
  rfl
theorem cnt_mono {t : Hr.Town} {wind v v' : Int} (hv : v ≤ v') (cnt : Nat → Bool) (S : List Nat) : cntS (lis t wind v cnt) S ≤ cntS (lis t wind v' cnt) S := by
  rw [cnt_lis, cnt_lis]
  exact List.countP_mono_left fun p _ h => hit_mono hv h
theorem lis_length (t : Hr.Town) (wind voice : Int) (cnt : Nat → Bool) : (lis t wind voice cnt).length = ((List.range t.len).filter fun p => t.at p == 1 && cnt p).length := by
  unfold lis lisTo; rw [List.length_map]
theorem no_deaf {e : List Bool} {s : Nat} (h : e.getD s false = true) : deafB e = false := by
  cases hd : deafB e
  · rfl
  · unfold deafB at hd
    rw [decide_eq_true_iff] at hd
    rw [hd, List.getD_eq_getElem?_getD, List.getElem?_replicate] at h
    split at h <;> cases h
theorem heard_mono {t : Hr.Town} {wind v v' : Int} (hv : v ≤ v') {cnt : Nat → Bool} (h : Heard (lis t wind v cnt)) : Heard (lis t wind v' cnt) := fun x hx => by
  refine ⟨lis_30 _ _ _ _ x hx, ?_⟩
  unfold lis lisTo at hx
  obtain ⟨p, hp, rfl⟩ := List.mem_map.1 hx
  have h1 := h (p, ears t wind v p) (List.mem_map.2 ⟨p, hp, rfl⟩)
  obtain ⟨s, hs, he⟩ := deaf_hit h1.1 h1.2
  have he2 : (ears t wind v p).getD s false = true := he
  rw [ears_get, Bool.and_eq_true] at he2
  exact no_deaf (s := s) (by show (ears t wind v' p).getD s false = true; rw [ears_get, Bool.and_eq_true]; exact ⟨he2.1, hearB_mono hv he2.2⟩)
theorem lis_ten {t : Hr.Town} (hc : checkErr t.wide t.plots = 0) (wind voice : Int) : (lis t wind voice fun _ => true).length ≤ 10 := by
  have h := houses_ten hc
  rw [lis_length]
  have e : (kindIdx t.plots 1).length = ((List.range t.len).filter fun p => t.at p == 1 && true).length := by
    unfold kindIdx kindTo
    rw [List.length_map]
    congr 1
    apply List.filter_congr
    intro p _
    rw [Bool.and_true]; rfl
  rw [← e]; exact h
theorem lis_houses_len (t : Hr.Town) (wind voice : Int) : (lis t wind voice fun _ => true).length = (kindIdx t.plots 1).length := by
  rw [lis_length]
  unfold kindIdx kindTo
  rw [List.length_map]
  congr 1
  apply List.filter_congr
  intro p _
  rw [Bool.and_true]; rfl
/-- a louder voice needs no more stands -/
theorem louder_few {t : Hr.Town} (hc : checkErr t.wide t.plots = 0) {wind v v' : Int} (hv : v ≤ v') (h0 : firstE (lis t wind v fun _ => true) = 0) :
    firstE (lis t wind v' fun _ => true) = 0 ∧ (chooseP (lis t wind v' fun _ => true) 30).1.length ≤ (chooseP (lis t wind v fun _ => true) 30).1.length := by
  have hh := err_heard (lis_30 t wind v fun _ => true) h0
  have hh' := heard_mono hv hh
  refine ⟨heard_err hh', ?_⟩
  obtain ⟨ch, n, h1, h2, hch⟩ := chosen (lis t wind v fun _ => true) (lis_ten hc wind v) 30
  obtain ⟨ch', n', h1', h2', hch'⟩ := chosen (lis t wind v' fun _ => true) (lis_ten hc wind v') 30
  rw [h1, h1', List.length_map, List.length_map]
  refine hch'.short ch hch.bd ?_
  have e1 := chosen_all hh (Nat.le_refl _) hch
  have e2 := chosen_all hh' (Nat.le_refl _) hch'
  have e3 := cnt_mono hv (fun _ => true) ch (t := t) (wind := wind)
  rw [hch.cnt, e1] at e3
  rw [e2]
  rw [lis_houses_len] at e3 ⊢
  exact e3
/-- stands that are chosen are streets -/
theorem chosen_street {t : Hr.Town} {wind voice : Int} {cnt : Nat → Bool} {st : Nat} {ch : List Nat} {n : Nat} (hc : Chosen (lis t wind voice cnt) st ch n) : ∀ s ∈ ch, s < t.len ∧ t.at s = 0 := by
  intro s hs
  false_or_by_contra
  rename_i hno
  have hb : ∀ h, hearB t wind voice h s = false := fun h => by
    unfold hearB
    rw [decide_eq_false hno, Bool.false_and]
  have e : cntS (lis t wind voice cnt) (ch.erase s) = n := by
    rw [← hc.cnt, cnt_lis, cnt_lis]
    apply List.countP_congr
    intro p _
    rw [hit_ears, hit_ears]
    constructor
    · rintro ⟨q, hq, h1, h2⟩
      exact ⟨q, List.mem_of_mem_erase hq, h1, h2⟩
    · rintro ⟨q, hq, h1, h2⟩
      have hne : q ≠ s := fun e => by rw [e, hb p] at h2; cases h2
      exact ⟨q, (List.mem_erase_of_ne hne).2 hq, h1, h2⟩
  have h1 := hc.short (ch.erase s) (fun q hq => hc.bd q (List.mem_of_mem_erase hq)) (by omega)
  rw [List.length_erase_of_mem hs] at h1
  have : 0 < ch.length := List.length_pos_of_mem hs
  omega
/-- how many houses are served by stands of a list -/
theorem served_cnt {t : Hr.Town} (ok : t.Ok) (hc : checkErr t.wide t.plots = 0) {wind voice : Int} (ha : airErr wind voice = 0) (ch : List Nat) (hS : ∀ s ∈ ch, s < t.len ∧ t.at s = 0) :
    countTo (heardTo t.wide t.plots wind voice (natI ch) (natI ch).length) (kindIdx t.plots 1) (kindIdx t.plots 1).length = cntS (lis t wind voice fun _ => true) ch := by
  have h30 : t.len ≤ 30 := ok.n30
  have hat : ∀ s : Nat, s < t.len → t.at s = 0 → housesL t.wide t.plots wind voice s = housesOf t wind voice s := fun s hs h0 => by
    unfold housesL
    have : atE t.wide t.plots wind voice s 0 = 0 := by
      unfold atE openErr plotErr
      rw [hc, ha]
      have hs' : s < t.plots.length := hs
      have h0' : t.plots.getD s 0 = 0 := h0
      rw [if_neg (by simp), if_neg (by omega), Int.toNat_natCast, if_pos h0']
    rw [if_pos this, townOf_self, Int.toNat_natCast]
  have hA : ∀ h : Nat, h < t.len → t.at h = 1 → ((h : Int) ∈ heardTo t.wide t.plots wind voice (natI ch) (natI ch).length ↔ hit ch (ears t wind voice h) = true) := fun h hl h1 => by
    unfold heardTo
    rw [List.take_length, List.mem_flatMap, hit_ears]
    constructor
    · rintro ⟨s, hs, hm⟩
      obtain ⟨q, hq, rfl⟩ := List.mem_map.1 hs
      obtain ⟨a, b⟩ := hS q hq
      rw [hat q a b, mem_housesOf] at hm
      exact ⟨q, hq, by omega, hm.2.2⟩
    · rintro ⟨s, hs, _, hh⟩
      obtain ⟨a, b⟩ := hS s hs
      exact ⟨(s : Int), List.mem_map.2 ⟨s, hs, rfl⟩, by rw [hat s a b, mem_housesOf]; exact ⟨hl, h1, hh⟩⟩
  rw [cnt_lis]
  unfold countTo
  rw [List.take_length]
  generalize heardTo t.wide t.plots wind voice (natI ch) (natI ch).length = A at hA
  unfold kindIdx kindTo
  rw [List.filter_map, List.length_map, ← List.countP_eq_length_filter]
  have e : (List.range t.plots.length).filter (fun p => t.plots.getD p 0 == 1) = (List.range t.len).filter fun p => t.at p == 1 && true := by
    apply List.filter_congr
    intro p _
    rw [Bool.and_true]; rfl
  rw [e]
  apply List.countP_congr
  intro p hp
  rw [List.mem_filter, List.mem_range, Bool.and_true, beq_iff_eq] at hp
  show decide ((p : Int) ∈ A) = true ↔ _
  rw [decide_eq_true_iff]
  exact hA p hp.1 hp.2
/-- just if all houses are served, the voice is loud enough -/
theorem okV_eq {t : Hr.Town} (hc : checkErr t.wide t.plots = 0) (wind voice : Int) (st : Nat) : okV (lis t wind voice fun _ => true) st = decide ((chooseP (lis t wind voice fun _ => true) st).2 = ((lis t wind voice fun _ => true).length : Nat)) := by
  unfold okV
  obtain ⟨ch, n, h1, h2, hch⟩ := chosen (lis t wind voice fun _ => true) (lis_ten hc wind voice) st
  by_cases e : (chooseP (lis t wind voice fun _ => true) st).2 = ((lis t wind voice fun _ => true).length : Nat)
  · rw [decide_eq_true e, Bool.and_true, List.all_eq_true]
    intro x hx
    rw [h2] at e
    have e2 : cntS (lis t wind voice fun _ => true) ch = (lis t wind voice fun _ => true).length := by rw [hch.cnt]; omega
    have h3 := cnt_all.1 e2 x hx
    unfold hit at h3
    obtain ⟨s, _, hs⟩ := List.any_eq_true.1 h3
    rw [no_deaf hs]; rfl
  · rw [decide_eq_false e, Bool.and_false]
theorem lvF_spec (t : Hr.Town) (wind : Int) (cnt : Nat → Bool) (st : Nat) : ∀ f v, (lvF t wind cnt st f v = -1 ∧ ∀ u, v ≤ u → u < v + f → okV (lis t wind (u : Nat) cnt) st = false) ∨ (∃ x : Nat, lvF t wind cnt st f v = x ∧ v ≤ x ∧ x < v + f ∧ okV (lis t wind x cnt) st = true ∧ ∀ u, v ≤ u → u < x → okV (lis t wind (u : Nat) cnt) st = false)
  | 0, v => .inl ⟨rfl, fun u h1 h2 => by omega⟩
  | f + 1, v => by
    rw [lvF]
    by_cases e : okV (lis t wind v cnt) st = true
    · rw [if_pos e]
      exact .inr ⟨v, rfl, Nat.le_refl _, by omega, e, fun u h1 h2 => by omega⟩
    · rw [if_neg e]
      have e' : okV (lis t wind v cnt) st = false := by simpa using e
      rcases lvF_spec t wind cnt st f (v + 1) with ⟨h1, h2⟩ | ⟨x, h1, h2, h3, h4, h5⟩
      · refine .inl ⟨h1, fun u a b => ?_⟩
        by_cases hu : u = v
        · rw [hu]; exact e'
        · exact h2 u (by omega) (by omega)
      · refine .inr ⟨x, h1, by omega, by omega, h4, fun u a b => ?_⟩
        by_cases hu : u = v
        · rw [hu]; exact e'
        · exact h5 u (by omega) b
/-- the least voice: it is enough, and one less is not -/
theorem leastV_spec (t : Hr.Town) (wind : Int) (cnt : Nat → Bool) (st : Nat) : (leastV t wind cnt st = -1 ∧ okV (lis t wind 40 cnt) st = false) ∨ (∃ x : Nat, leastV t wind cnt st = x ∧ 1 ≤ x ∧ x ≤ 40 ∧ okV (lis t wind x cnt) st = true ∧ (1 < x → okV (lis t wind ((x : Int) - 1) cnt) st = false)) := by
  rcases lvF_spec t wind cnt st 40 1 with ⟨h1, h2⟩ | ⟨x, h1, h2, h3, h4, h5⟩
  · exact .inl ⟨h1, h2 40 (by omega) (by omega)⟩
  · refine .inr ⟨x, h1, h2, by omega, h4, fun h => ?_⟩
    have := h5 (x - 1) (by omega) (by omega)
    rwa [show ((x - 1 : Nat) : Int) = (x : Int) - 1 by omega] at this
/-- no stands that are tried do better than those that are told -/
theorem chosen_best {l : List (Nat × List Bool)} {st : Nat} {ch : List Nat} {n : Nat} (hc : Chosen l st ch n) {O : List Nat} (hO : O.Pairwise (· < ·)) (hb : ∀ s ∈ O, s < 30) (hl : O.length ≤ st) :
    cntS l O ≤ n ∧ (cntS l O = n → ch.length ≤ O.length ∧ (O.length = ch.length → ch = O ∨ Bef ch O)) :=
  ⟨hc.most O hb hl, fun e => ⟨hc.short O hb (by omega), fun e2 => hc.first O hO hb e2 e⟩⟩
end Go.Proofs.YtimedmkpenbmkaaGreat
end
section
namespace Go.Proofs.YtimedmkpenbmkaaGreat
open Go.RowKit Go.Shelf
set_option linter.unusedSimpArgs false
set_option linter.unusedVariables false
theorem aft_below {bl : Nat} {w w5 w8 : World} (h : Aft bl w w5) (hB : Below w.heap.size w5 w8) : Aft bl w w8 :=
  ⟨hB.os.trans h.os, hB.tape.trans h.tape, hB.output.trans h.output, Nat.le_trans h.size hB.size, fun k hk hl => (hB.block k hl).trans (h.same k hk hl)⟩
theorem bell_low {bl : Nat} {ma : Option Addr} {n mc B : Nat} {w w' : World} (h : BellOk w bl ma n mc) (hB : Below B w w') (hl : bl < B) (hm : n ≠ 0 → ∀ mb mo, ma = some ⟨mb, mo, none⟩ → mb < B) : BellOk w' bl ma n mc :=
  h.hold (Kp := fun k => k < B) ⟨hB.os, hB.tape, hB.output, hB.size, fun k hk _ => hB.block k hk⟩ hl hm
def ints (l : List Nat) : List Value := l.map fun (x : Nat) => Value.int .i64 x
theorem ints_set (l : List Nat) (i x : Nat) : ints (l.set i x) = (ints l).set i (.int .i64 x) := by unfold ints; rw [List.map_set]
theorem ints_len (l : List Nat) : (ints l).length = l.length := by unfold ints; simp
theorem swap_perm {l : List Nat} {i j : Nat} (hi : i < l.length) (hj : j < l.length) : ((l.set i (l.getD j 0)).set j (l.getD i 0)).Perm l := by
  have := List.set_set_perm hi hj
  rwa [List.getD_eq_getElem?_getD, List.getD_eq_getElem?_getD, List.getElem?_eq_getElem hi, List.getElem?_eq_getElem hj]
set_option maxHeartbeats 4000000 in
set_option maxRecDepth 100000 in
theorem rung_any (bl : Nat) (ma : Option Addr) (n mc : Nat) (m : Nat) (hm : m ≤ 30) (w : World) (hb : BellOk w bl ma n mc) (hma : n ≠ 0 → ∀ mb mo, ma = some ⟨mb, mo, none⟩ → mb < w.heap.size) :
    Calls Tryz.prog 82 #[.pointer (some ⟨bl, 0, none⟩), .int .i64 m] w fun e w' => ∃ v out, e = .returned v ∧ w'.ownsRow w.heap.size 3 1 v m (ints out) ∧ out.Perm (List.range m) ∧ BellOk w' bl ma n mc ∧ Aft bl w w' := by
  obtain ⟨i0, hi, hz0, hz1, hz2⟩ := info_parts A_info3
  have HBL := Lib.hid hb
  have HMA := Lib.hid hma
  have hbl := hb.lt
  have hmx : max 0 (m : Int) = m := by omega
  clear hb hma
  go_enter Tryz.func82, Tryz.ntmps82
  go_wp2_with fail
  go_loopw [5, 10] (fun v i wr => ∃ (k : Nat) (out : List Nat) (c : Value), k ≤ m ∧ i = .int .i64 k ∧ c = v ∧ wr.ownsRow w.heap.size 3 1 c k (ints out) ∧ out.Perm (List.range k) ∧ BellOk wr bl ma n mc ∧ Aft bl w wr) (fun _ i _ => m - (intOf i).toNat)
  case atStart => exact ⟨0, [], _, Nat.zero_le _, rfl, rfl, own_none _ _ _ _, List.Perm.refl _, HBL.out, Aft.of (Hold.refl _ _)⟩
  case round =>
    obtain ⟨k, out, c, hk, rfl, rfl, ho, hp, hb, hA⟩ := hrel
    obtain ⟨wk, rfl⟩ : ∃ wk : World, wk = wr := ⟨_, rfl⟩
    have HO := Lib.hid ho
    have HP := Lib.hid hp
    have HB := Lib.hid hb
    have HA := Lib.hid hA
    clear ho hp hb hA
    by_cases hlt : k < m
    · have hlt' : (k : Int) < m := by omega
      go_wp2_with fail
      refine (stroke_z bl ma n mc k (by omega) (by omega) wk HB.out).mono ?_
      rintro e w5 ⟨x, x0, x1, rfl, hb5, hH5⟩
      have HB5 := Lib.hid hb5
      have HA5 := Lib.hid (Hold.trans HA.out hH5)
      have HO5 := Lib.hid (own_hold HO.out hH5 hbl)
      have hsz5 : w.heap.size ≤ w5.heap.size := Nat.le_trans HA.out.size hH5.size
      clear hb5 hH5
      go_wp2_with (at_builtin; refine wpList_append_own _ rfl _ _ 22 rfl w.heap.size 3 i0 (.int .i64 0) 1 8 A_und31 hi hz0 hz1 hz2 rfl (by decide) _ _ _ rfl (HO5.out.alloc _) ⟨w5.heap.size, 0, none⟩ 1 1 [.int .i64 (k : Int)] rfl rfl ?f1 ?f2 ?f3 ?f4 ?f5 ?_)
      (try (case f1 => intro j u hj; match j, hj with | 0, hj => simp at hj; subst hj; simp [Addr.add]))
      case f2 => first | rfl | (intro u hu; simp at hu; subst hu; rfl)
      case f3 => unfold maxLen; omega
      case f4 => omega
      case f5 => first | omega | (simp; omega)
      intro v' w8 hown8 hgrow _
      have hB8 : Below w.heap.size w5 w8 := below_grown (al2 (Below.refl w.heap.size w5) hsz5 (.cells #[.int .i64 k] 3)) (HO5.out.alloc _) (Nat.le_refl _) (by simp; omega) hgrow
      have HB8 := Lib.hid (bell_low HB5.out hB8 hbl HMA.out)
      have HA8 := Lib.hid (aft_below HA5.out hB8)
      obtain ⟨i, rfl⟩ : ∃ i : Nat, x = i := ⟨x.toNat, by omega⟩
      obtain ⟨T, hT⟩ : ∃ T, T = out ++ [k] := ⟨_, rfl⟩
      have hol : out.length = k := by have := HP.out.length_eq; simpa using this
      have hTl : T.length = k + 1 := by rw [hT]; simp [hol]
      have hTP : T.Perm (List.range (k + 1)) := by rw [hT, List.range_succ]; exact HP.out.append_right _
      have hown : w8.ownsRow w.heap.size 3 1 v' (k + 1) (ints T) := by rw [hT]; unfold ints; rw [List.map_append]; exact hown8
      have hik : i ≤ k := by omega
      clear hown8 hgrow hB8 hT
      obtain ⟨g, cp, cur, rfl, hgb, hrow, hrest⟩ : ∃ g cp cur, v' = .slice (some ⟨g, 0, none⟩) (k + 1) cp ∧ w.heap.size ≤ g ∧ w8.heap[g]? = some (.cells cur 3 (0, 0)) ∧ True := by
        rcases hown.2 with ⟨_, h0⟩ | ⟨g, cp, cur, h1, h2, h3, _⟩
        · omega
        · exact ⟨g, cp, cur, h1, h2, h3, trivial⟩
      have hI := RdI.own (xs := T.map fun (x : Nat) => (x : Int)) (by simp [hTl]) (by unfold ints; rw [List.map_map]; rfl) hown
      obtain ⟨b', o', e', -, hI⟩ := rd_ints hI (by intro e; simp at e; rw [e] at hTl; simp at hTl)
      cases e'
      have hget : ∀ j, j < k + 1 → (T.map fun (x : Nat) => (x : Int)).getD j 0 = (T.getD j 0 : Nat) := fun j hj => by
        rw [List.getD_eq_getElem?_getD, List.getD_eq_getElem?_getD, List.getElem?_map, List.getElem?_eq_getElem (by omega : j < T.length)]; rfl
      have ci := hI.2 i (by simp; omega)
      have ck := hI.2 k (by simp; omega)
      rw [hget i (by omega), Nat.zero_add] at ci
      rw [hget k (by omega), Nat.zero_add] at ck
      have fi := frozen_of_row w8 g i _ _ hrow
      have fk := frozen_of_row w8 g k _ _ hrow
      have hgl := hI.1
      have hi' : (i : Int) < k + 1 := by omega
      have HOW := Lib.hid hown
      have HTP := Lib.hid ((swap_perm (l := T) (i := i) (j := k) (by omega) (by omega)).trans hTP)
      obtain ⟨ti, hti⟩ : ∃ ti, ti = T.getD i 0 := ⟨_, rfl⟩
      obtain ⟨tk, htk⟩ : ∃ tk, tk = T.getD k 0 := ⟨_, rfl⟩
      rw [← hti] at ci HTP
      rw [← htk] at ck HTP
      have HTL := Lib.hid hTl
      have two : ∀ (a b : Nat) (u : Value), w8.cell? ⟨g, b, none⟩ = some u → (w8.setCell ⟨g, a, none⟩ u).cell? ⟨g, b, none⟩ = some u ∧ (w8.setCell ⟨g, a, none⟩ u).frozen? ⟨g, b, none⟩ = false := fun a b u hb => by
        have h1 := heap_set_same (o := a) u hrow
        refine ⟨?_, frozen_of_row _ _ _ _ _ h1⟩
        rw [cell_of_row _ _ _ _ _ _ hrow] at hb
        rw [cell_of_row _ _ _ _ _ _ h1]
        have hbl : b < cur.size := (Array.getElem?_eq_some_iff.1 hb).1
        by_cases e : a = b
        · subst e; rw [Array.getElem?_setIfInBounds_self_of_lt hbl]
        · rw [Array.getElem?_setIfInBounds_ne e]; exact hb
      obtain ⟨c2, f2⟩ := two i k _ ck
      obtain ⟨c3, f3⟩ := two k i _ ci
      clear hI hget hown hTP hrest hti htk hTl hol hrow two
      go_wp2_with fail
      go_region
      go_wp2_with fail
      have hgn : g ≠ bl := by omega
      have hS : Hold (fun j => j ≠ g) w8 ((w8.setCell ⟨g, i, none⟩ (.int .i64 tk)).setCell ⟨g, k, none⟩ (.int .i64 ti)) := (Hold.set _ _ _ _).trans (Hold.set _ _ _ _)
      have hB2 : Below w.heap.size w8 ((w8.setCell ⟨g, i, none⟩ (.int .i64 tk)).setCell ⟨g, k, none⟩ (.int .i64 ti)) := ⟨hS.os, hS.tape, hS.output, hS.size, fun j hj => hS.same j (show j ≠ g by omega) (by have := HA8.out.size; omega)⟩
      have hO2 : ((w8.setCell ⟨g, i, none⟩ (.int .i64 tk)).setCell ⟨g, k, none⟩ (.int .i64 ti)).ownsRow w.heap.size 3 1 (.slice (some ⟨g, 0, none⟩) (k + 1) cp) (k + 1) (ints ((T.set i tk).set k ti)) := by
        rw [ints_set, ints_set]
        exact own_setCell_at (own_setCell_at HOW.out (by rw [ints_len, HTL.out]; omega) _) (by rw [List.length_set, ints_len, HTL.out]; omega) _
      refine ⟨⟨k + 1, (T.set i tk).set k ti, _, by omega, by simp, rfl, own_below hO2 (Below.refl _ _).drew, HTP.out, (bell_low HB8.out hB2 hbl HMA.out).below (Below.refl _ _).drew, Aft.below (aft_below HA8.out hB2) (Below.refl _ _).drew⟩, ?_⟩
      simp [intOf]; omega
    · obtain rfl : k = m := by omega
      go_wp2_with fail
      go_ret
      exact ⟨_, out, rfl, HO.out, HP.out, HB.out, HA.out⟩
end Go.Proofs.YtimedmkpenbmkaaGreat
end
section
namespace Go.Proofs.YtimedmkpenbmkaaGreat
open Go.RowKit Go.Shelf
set_option linter.unusedSimpArgs false
set_option linter.unusedVariables false
set_option maxHeartbeats 2000000 in
set_option maxRecDepth 100000 in
theorem isSorted_any (v : Value) (xs : List Int) (hl : xs.length ≤ 1000000) (hs : ∀ k, k + 1 < xs.length → xs.getD k 0 ≤ xs.getD (k + 1) 0) (w : World) (hR : RdI w v xs) :
    Calls Tryz.prog 24 #[v] w fun e w' => e = .returned (.bool true) ∧ Below w.heap.size w w' := by
  have HS := Lib.hid hs
  have HR := Lib.hid hR
  obtain ⟨_, a, cap, rfl, -⟩ := hR
  clear hs
  go_enter Tryz.func24, Tryz.ntmps24
  go_wp2_with fail
  go_loopw [3] (fun i wr => ∃ z : Int, i = .int .i64 z ∧ -1 ≤ z ∧ z < xs.length ∧ Below w.heap.size w wr) (fun i _ => (intOf i).toNat)
  case atStart => exact ⟨(xs.length : Int) - 1, rfl, by omega, by omega, Below.refl _ _⟩
  case round =>
    obtain ⟨z, rfl, hz0, hz1, hB⟩ := hrel
    have HB := Lib.hid hB
    by_cases hz : 0 < z
    · obtain ⟨k, rfl⟩ : ∃ k : Nat, z = (k : Int) + 1 := ⟨(z - 1).toNat, by omega⟩
      obtain ⟨b, o, rfl, -, hI⟩ := rd_ints (HR.out.below hB) (by intro e; rw [e] at hz1; simp at hz1; omega)
      have hle := HS.out k (by omega)
      have ck := hI.2 k (by omega)
      have ck1 := hI.2 (k + 1) (by omega)
      have hbl := hI.1
      obtain ⟨x, hx⟩ : ∃ x, xs.getD k 0 = x := ⟨_, rfl⟩
      obtain ⟨y, hy⟩ : ∃ y, xs.getD (k + 1) 0 = y := ⟨_, rfl⟩
      rw [hx] at ck hle
      rw [hy] at ck1 hle
      have hlt : decide (y < x) = false := by simp; omega
      have hk1 : ((k + 1 : Nat) : Int) = (k : Int) + 1 := by omega
      have hk2 : ((k : Int) + 1).toNat = k + 1 := by omega
      have hk3 : ((k : Int) + 1 - 1) = k := by omega
      have HCL := Lib.hid (fun W => Tryz.cmp_Less_int2 y x W)
      rw [hlt] at HCL
      clear hI hx hy hle hB hlt
      go_wp2_with fail
      go_quiet ((go_at_call 80; exact Calls.quiet_of_same (HCL.out _)))
      go_wp2_with fail
      go_roundw
      case rel => exact ⟨(k : Int), rfl, by omega, by omega, ⟨HB.out.os, HB.out.tape, HB.out.output, HB.out.size, HB.out.block⟩⟩
      case measure => simp [intOf]
    · have hz' : decide (0 < z) = false := by simp; omega
      clear hB
      go_wp2_with fail
      go_ret
      exact ⟨rfl, HB.out⟩
set_option maxHeartbeats 2000000 in
set_option maxRecDepth 100000 in
/-- a list that does not come ahead of another one of the same length -/
theorem compare_any (u v : Value) (xs ys : List Int) (hl : xs.length ≤ 1000000) (hn : xs.length = ys.length) (hc : ∀ k, k < xs.length → (∀ i, i < k → xs.getD i 0 = ys.getD i 0) → ys.getD k 0 ≤ xs.getD k 0) (w : World) (hu : RdI w u xs) (hv : RdI w v ys) :
    Calls Tryz.prog 26 #[u, v] w fun e w' => ∃ z : Int, e = .returned (.int .i64 z) ∧ 0 ≤ z ∧ Below w.heap.size w w' := by
  have HC := Lib.hid hc
  have HN := Lib.hid hn
  have HU := Lib.hid hu
  have HV := Lib.hid hv
  obtain ⟨_, a, cap, rfl, -⟩ := hu
  obtain ⟨_, a2, cap2, rfl, -⟩ := hv
  clear hc hn
  go_enter Tryz.func26, Tryz.ntmps26
  go_wp2_with fail
  go_loopw [11] (fun i wr => ∃ k : Nat, i = .int .i64 k ∧ k ≤ xs.length ∧ (∀ i, i < k → xs.getD i 0 = ys.getD i 0) ∧ wr = w) (fun i _ => xs.length - (intOf i).toNat)
  case atStart => exact ⟨0, rfl, Nat.zero_le _, fun i hi => absurd hi (Nat.not_lt_zero _), rfl⟩
  case round =>
    obtain ⟨k, rfl, hk, he, rfl⟩ := hrel
    by_cases hlt : k < xs.length
    · have hlt' : (k : Int) < xs.length := by omega
      have hn := HN.out
      have hlt2 : (k : Int) < ys.length := by omega
      have hge : decide ((k : Int) ≥ (ys.length : Int)) = false := by simp; omega
      obtain ⟨b, o, rfl, -, hI⟩ := rd_ints HU.out (by intro e; rw [e] at hlt; simp at hlt)
      obtain ⟨b2, o2, rfl, -, hI2⟩ := rd_ints HV.out (by intro e; rw [e] at hn; simp at hn; rw [hn] at hlt; simp at hlt)
      have ck := hI.2 k hlt
      have ck2 := hI2.2 k (by omega)
      have hbl := hI.1
      have hbl2 := hI2.1
      have hle := HC.out k hlt he
      obtain ⟨x, hx⟩ : ∃ x, xs.getD k 0 = x := ⟨_, rfl⟩
      obtain ⟨y, hy⟩ : ∃ y, ys.getD k 0 = y := ⟨_, rfl⟩
      rw [hx] at ck hle
      rw [hy] at ck2 hle
      have HE := Lib.hid he
      have HX := Lib.hid hx
      have HY := Lib.hid hy
      clear hI hI2 hx hy he hn
      go_wp2_with fail
      refine (Tryz.cmp_Compare_int _ _ _).mono ?_
      rintro e w1 ⟨rfl, rfl⟩
      by_cases hxy : x = y
      · have hz : Lib.compareInt x y = 0 := by unfold Lib.compareInt; rw [hxy]; simp
        rw [hz]
        go_wp2_with fail
        go_roundw
        case rel =>
          refine ⟨k + 1, by simp, by omega, fun i hi => ?_, trivial⟩
          by_cases e : i = k
          · rw [e, HX.out, HY.out, hxy]
          · exact HE.out i (by omega)
        case measure => simp [intOf]; omega
      · have hz : Lib.compareInt x y = 1 := by
          unfold Lib.compareInt
          have h1 : ¬ (x < y) := by omega
          have h2 : y < x := by omega
          simp [h1, h2, hxy]
        rw [hz]
        go_wp2_with fail
        go_ret
        exact ⟨1, rfl, by omega, Below.refl _ _⟩
    · obtain rfl : k = xs.length := by omega
      have hd : decide (xs.length < ys.length) = false := by have := HN.out; simp; omega
      go_wp2_with fail
      go_ret
      exact ⟨0, rfl, by omega, Below.refl _ _⟩
theorem heap_grow_lt {W : World} {os : Array Obj} {k : Nat} (h : k < W.heap.size) : (Go.Sort.grow W os).heap[k]? = W.heap[k]? := by
  show (W.heap ++ os)[k]? = _
  rw [Array.getElem?_append_left h]
open Go.Sort in
theorem sort_any (base : Nat) (v : Value) (xs : List Int) (hl : xs.length ≤ 1000000) (w : World) (hO : w.ownsRow base 3 1 v xs.length (xs.map (Value.int .i64))) :
    Calls Tryz.prog 83 #[v] w fun e w' => e = .returned (.tuple #[]) ∧ RdI w' v (xs.mergeSort fun x y => decide (x ≤ y)) ∧ ∃ g, base ≤ g ∧ Aft g w w' := by
  obtain ⟨a, cap, rfl⟩ := own_slice hO
  by_cases h0 : xs = []
  · subst h0
    refine (Tryz.slices_Sort_int_none a cap w).mono ?_
    rintro e w' ⟨rfl, rfl⟩
    exact ⟨rfl, ⟨by simp, a, cap, by simp, fun hn => absurd (by simp) hn⟩, base, Nat.le_refl _, Aft.of (Hold.refl _ _)⟩
  · obtain ⟨g, rfl, hb, hc, hT⟩ := TabQ.of_own hO h0
    obtain ⟨cur, hg, -⟩ := id hT
    have hH : Holds (Value.int .i64) w g 0 xs.toArray := fun j hj => by
      have hj' : j < xs.length := by simpa using hj
      refine ⟨?_, by rw [Nat.zero_add]; exact frozen_of_row _ _ _ _ _ hg⟩
      rw [Nat.zero_add, hT.cell hj', getElem!_pos xs.toArray j hj, List.getElem_toArray, List.getD_eq_getElem?_getD, List.getElem?_eq_getElem hj']
      rfl
    refine (Tryz.slices_Sort_int g 0 cap xs w hH hT.lt (by omega)).mono ?_
    rintro e w' ⟨rfl, q, os, rfl⟩
    obtain ⟨ys, hys⟩ : ∃ ys, ys = xs.mergeSort fun x y => decide (x ≤ y) := ⟨_, rfl⟩
    have hyl : ys.length = xs.length := by rw [hys]; exact List.length_mergeSort _
    rw [← hys]
    have hP := holds_putRow (Value.int .i64) (Sort.ahead w q) g 0 xs.toArray ys.toArray hH (by simp [hyl])
    have hgl : g < (putRow (Value.int .i64) (Sort.ahead w q) g 0 ys.toArray).heap.size := by rw [size_putRow]; exact hT.lt
    refine ⟨rfl, ⟨by omega, some ⟨g, 0, none⟩, cap, by rw [hyl], fun _ => ⟨g, 0, rfl, ?_, fun i hi => ?_⟩⟩, g, hb, ⟨rfl, rfl, rfl, ?_, fun k hk hkl => ?_⟩⟩
    · rw [size_grow]; omega
    · have h1 := (hP i (by simpa using hi)).1
      have e1 : (Go.Sort.grow (putRow (Value.int .i64) (Sort.ahead w q) g 0 ys.toArray) os).cell? ⟨g, 0 + i, none⟩ = (putRow (Value.int .i64) (Sort.ahead w q) g 0 ys.toArray).cell? ⟨g, 0 + i, none⟩ := by
        unfold World.cell?
        rw [heap_grow_lt hgl]
      rw [e1, h1, getElem!_pos ys.toArray i (by simpa using hi), List.getElem_toArray, List.getD_eq_getElem?_getD, List.getElem?_eq_getElem hi]
      rfl
    · rw [size_grow, size_putRow]; exact Nat.le_add_right _ _
    · rw [heap_grow_lt (by rw [size_putRow]; exact hkl)]
      show ((Sort.ahead w q).heap.modify g _)[k]? = _
      rw [Array.getElem?_modify, if_neg (fun e => hk e.symm)]
      rfl
end Go.Proofs.YtimedmkpenbmkaaGreat
end
section
namespace Go.Proofs.YtimedmkpenbmkaaGreat
open Go.RowKit Go.Shelf
set_option linter.unusedSimpArgs false
set_option linter.unusedVariables false
theorem lvF_congr {t u : Hr.Town} {w1 w2 : Int} {c1 c2 : Nat → Bool} {st : Nat} (h : ∀ v : Nat, okV (lis t w1 v c1) st = okV (lis u w2 v c2) st) : ∀ f v, lvF t w1 c1 st f v = lvF u w2 c2 st f v
  | 0, _ => rfl
  | f + 1, v => by rw [lvF, lvF, h, lvF_congr h f]
end Go.Proofs.YtimedmkpenbmkaaGreat
end
section
namespace Go.Proofs.YtimedmkpenbmkaaGreat
open Go.RowKit Go.Shelf
set_option linter.unusedSimpArgs false
set_option linter.unusedVariables false
def mxU (A : List Int) (out : List Nat) (k : Nat) : List Int := (out.take k).map fun i => A.getD i 0
theorem mxU_len {A : List Int} {out : List Nat} {k : Nat} (h : k ≤ out.length) : (mxU A out k).length = k := by unfold mxU; rw [List.length_map, List.length_take]; omega
theorem mxU_next {A : List Int} {out : List Nat} {k : Nat} (h : k < out.length) : mxU A out (k + 1) = mxU A out k ++ [A.getD (out.getD k 0) 0] := by
  unfold mxU
  rw [List.take_succ_eq_append_getElem h, List.map_append, List.getD_eq_getElem?_getD (l := out), List.getElem?_eq_getElem h]
  rfl
theorem mxU_sub {A : List Int} {out : List Nat} (h : out.Perm (List.range A.length)) (k : Nat) (hn : A.Nodup) : (mxU A out k).Nodup ∧ ∀ x ∈ mxU A out k, x ∈ A := by
  have hl : out.length = A.length := by have := h.length_eq; simpa using this
  have e : (List.range A.length).map (fun i => A.getD i 0) = A := by
    apply List.ext_getElem (by simp)
    intro i h1 h2
    rw [List.getElem_map, List.getElem_range, List.getD_eq_getElem?_getD, List.getElem?_eq_getElem h2]; rfl
  have hp := h.map fun i => A.getD i 0
  rw [e] at hp
  have hs : (mxU A out k).Sublist (out.map fun i => A.getD i 0) := by unfold mxU; exact (List.take_sublist k out).map _
  exact ⟨hs.nodup (hp.nodup_iff.2 hn), fun x hx => hp.mem_iff.1 (hs.subset hx)⟩
theorem sort_spec {t : Hr.Town} {l : List Int} (hn : l.Nodup) (hm : ∀ x ∈ l, x ∈ kindIdx t.plots 0) : ∃ O : List Nat, (l.mergeSort fun x y => decide (x ≤ y)) = natI O ∧ O.Pairwise (· < ·) ∧ (∀ s ∈ O, s < t.len ∧ t.at s = 0) ∧ O.length = l.length := by
  have hp := List.mergeSort_perm l fun x y => decide (x ≤ y)
  have hs : (l.mergeSort fun x y => decide (x ≤ y)).Pairwise (fun x y => decide (x ≤ y) = true) := List.pairwise_mergeSort (by intro a b c; simp; omega) (by intro a b; simp; omega) l
  have hn2 : (l.mergeSort fun x y => decide (x ≤ y)).Nodup := hp.nodup_iff.2 hn
  generalize (l.mergeSort fun x y => decide (x ≤ y)) = ys at hp hs hn2
  have hc : ∀ x ∈ ys, ∃ p : Nat, x = p ∧ p < t.len ∧ t.at p = 0 := fun x hx => by
    obtain ⟨p, e, h1, h2⟩ := mem_kindIdx.1 (hm x (hp.mem_iff.1 hx))
    exact ⟨p, e, h1, h2⟩
  have hy : natI (ys.map Int.toNat) = ys := by
    unfold natI
    rw [List.map_map]
    conv => rhs; rw [← List.map_id ys]
    apply List.map_congr_left
    intro x hx
    obtain ⟨p, rfl, _⟩ := hc x hx
    rfl
  refine ⟨ys.map Int.toNat, hy.symm, ?_, fun s hs => ?_, by rw [List.length_map]; exact hp.length_eq⟩
  · rw [List.pairwise_map]
    unfold List.Nodup at hn2
    refine List.Pairwise.imp_of_mem (fun {a b} ha hb h => ?_) (hs.and hn2)
    obtain ⟨p, rfl, _⟩ := hc a ha
    obtain ⟨q, rfl, _⟩ := hc b hb
    have h1 : (p : Int) ≤ (q : Int) := by simpa using h.1
    have h2 := h.2
    omega
  · obtain ⟨x, hx, rfl⟩ := List.mem_map.1 hs
    obtain ⟨p, rfl, h1, h2⟩ := hc x hx
    exact ⟨h1, h2⟩
set_option maxHeartbeats 4000000 in
set_option maxRecDepth 100000 in
theorem some_any (bl : Nat) (ma : Option Addr) (n mc : Nat) (t : Hr.Town) (ok : t.Ok) (b o pc : Nat) (most : Nat) (hm : most ≤ 30) (w : World) (hb : BellOk w bl ma n mc) (hma : n ≠ 0 → ∀ mb mo, ma = some ⟨mb, mo, none⟩ → mb < w.heap.size) (hR : RdI w (.slice (some ⟨b, o, none⟩) t.plots.length pc) t.plots) :
    Calls Tryz.prog 25 #[.pointer (some ⟨bl, 0, none⟩), .agg #[.int .i64 t.wide, .slice (some ⟨b, o, none⟩) t.plots.length pc], .int .i64 most] w fun e w' => ∃ v O, e = .returned v ∧ RdI w' v (natI O) ∧ O.Pairwise (· < ·) ∧ (∀ s ∈ O, s < t.len ∧ t.at s = 0) ∧ O.length ≤ most ∧ BellOk w' bl ma n mc ∧ Aft bl w w' := by
  obtain ⟨i0, hi, hz0, hz1, hz2⟩ := info_parts A_info3
  have hl30 : t.plots.length ≤ 30 := ok.n30
  have HBL := Lib.hid hb
  have HMA := Lib.hid hma
  have hbl := hb.lt
  obtain ⟨w1, hw1⟩ : ∃ w1 : World, w1 = w.alloc (.cells #[.int .i64 t.wide, .slice (some ⟨b, o, none⟩) t.plots.length pc] 25) := ⟨_, rfl⟩
  have hB1 : Below w.heap.size w w1 := by rw [hw1]; exact below1 _ _
  have hb4 : w1.heap[w.heap.size]? = some (.cells #[.int .i64 t.wide, .slice (some ⟨b, o, none⟩) t.plots.length pc] 25 (0, 0)) := by rw [hw1]; exact heap_alloc_last _ _
  have HR1 := Lib.hid (hR.below hB1)
  have HB1 := Lib.hid hB1
  have HW1 := Lib.hid hw1
  obtain ⟨k0, k1⟩ := blk_cells2 hb4
  have k2 : w.heap.size < w1.heap.size := (Array.getElem?_eq_some_iff.1 hb4).1
  have hL30 : (kindIdx t.plots 0).length ≤ 30 := by have := kindTo_len t.plots 0 t.plots.length; unfold kindIdx; omega
  have HND := Lib.hid (kind_nodup t.plots 0)
  obtain ⟨L, hL⟩ : ∃ L, L = kindIdx t.plots 0 := ⟨_, rfl⟩
  have HST := Lib.hid (streets_any t.wide (some ⟨b, o, none⟩) pc t.plots (by omega) w1 HR1.out)
  rw [← hL] at HST hL30 HND
  have HLQ := Lib.hid hL
  clear hb hma hR hB1 hb4 hw1 hL
  go_enter Tryz.func25, Tryz.ntmps25
  go_upto_region 1 with fail
  rw [← HW1.out]
  go_wp2_with fail
  refine HST.out.mono ?_
  rintro e w2 ⟨va, rfl, hoL, hB⟩
  have HOL := Lib.hid hoL
  obtain ⟨a7, p7, rfl⟩ := own_slice hoL
  have HBL2 := Lib.hid ((HBL.out.below HB1.out).below hB)
  have HA2 := Lib.hid (Aft.below (Aft.below (Aft.of (Hold.refl _ _)) HB1.out : Aft bl w w1) hB)
  have hz2' := hB.size
  clear hoL hB k0 k1 HST HR1
  go_wp2_with fail
  refine (rung_any bl ma n mc L.length hL30 w2 HBL2.out (fun hn mb mo e => by have := HMA.out hn mb mo e; omega)).mono ?_
  rintro e w3 ⟨v16, out, rfl, ho16, hperm, hbl3, hA3⟩
  have hz3 := hA3.size
  have HOL := Lib.hid (own_hold HOL.out hA3 (by omega))
  have HBL3 := Lib.hid hbl3
  have HA3 := Lib.hid (Hold.trans HA2.out hA3)
  have HO16 := Lib.hid ho16
  have HPM := Lib.hid hperm
  have hol : out.length = L.length := by have := hperm.length_eq; simpa using this
  obtain ⟨a16, p16, rfl⟩ := own_slice ho16
  clear ho16 hperm hbl3 hA3
  have hmin : ((min (most : Int) (L.length : Int))) = ((min most L.length : Nat) : Int) := by omega
  obtain ⟨q, hq⟩ : ∃ q, q = min most L.length := ⟨_, rfl⟩
  rw [← hq] at hmin
  have hq1 : q ≤ most := by omega
  have hq2 : q ≤ L.length := by omega
  clear hq
  go_wp2_with fail
  try rw [hmin]
  refine (stroke_z bl ma n mc q (by omega) (by omega) w3 HBL3.out).mono ?_
  rintro e w4 ⟨x, x0, x1, rfl, hb4, hH4⟩
  obtain ⟨x, rfl⟩ : ∃ z : Nat, x = z := ⟨x.toNat, by omega⟩
  have hz4 := hH4.size
  have HBL4 := Lib.hid hb4
  have HA4 := Lib.hid (Hold.trans HA3.out hH4)
  have HOL := Lib.hid (own_hold HOL.out hH4 (by omega))
  have HO16 := Lib.hid (own_hold HO16.out hH4 (by omega))
  have hxl : x ≤ L.length := by omega
  have hxm : x ≤ most := by omega
  have hcap : x ≤ p16 := by
    by_cases h0 : L.length = 0
    · omega
    · rcases HO16.out.2 with ⟨_, h1⟩ | ⟨g, cap', cur, h1, _, _, hn, _⟩
      · exact absurd h1 h0
      · injection h1 with _ _ h3
        omega
  have hxl' : (x : Int) ≤ L.length := by omega
  have hcap' : (x : Int) ≤ p16 := by omega
  have HRL := Lib.hid (RdI.own rfl rfl HOL.out)
  have HR16 := Lib.hid (show RdI w4 (.slice a16 L.length p16) (out.map fun (x : Nat) => (x : Int)) from RdI.own (by rw [List.length_map, hol]) (by unfold ints; rw [List.map_map]; rfl) HO16.out)
  clear hb4 hH4 x0 x1 hmin HA3 HBL3 HBL2 HA2
  go_wp2_with fail
  go_loopw [8, 25] (fun v i wr => ∃ k : Nat, k ≤ x ∧ i = .int .i64 k ∧ wr.ownsRow w4.heap.size 3 1 v (mxU L out k).length ((mxU L out k).map (Value.int .i64)) ∧ Below w4.heap.size w4 wr) (fun _ i _ => x - (intOf i).toNat)
  case atStart => exact ⟨0, Nat.zero_le _, rfl, own_none _ _ _ _, Below.refl _ _⟩
  case round =>
    obtain ⟨k, hk, rfl, hown, hB⟩ := hrel
    obtain ⟨wk, rfl⟩ : ∃ wk : World, wk = wr := ⟨_, rfl⟩
    have HO := Lib.hid hown
    have HB := Lib.hid hB
    have hzk := hB.size
    have hml := mxU_len (A := L) (out := out) (k := k) (by omega)
    by_cases hlt : k < x
    · have hlt' : (k : Int) < x := by omega
      obtain ⟨b1, o1, rfl, -, hI1⟩ := rd_ints (HRL.out.below hB) (by intro e; rw [e] at hxl; simp at hxl; omega)
      obtain ⟨b2, o2, rfl, -, hI2⟩ := rd_ints (HR16.out.below hB) (by intro e; have h0 := congrArg List.length e; rw [List.length_map, hol] at h0; exact absurd h0 (by show L.length ≠ 0; omega))
      obtain ⟨y, hy⟩ : ∃ y : Nat, out.getD k 0 = y := ⟨_, rfl⟩
      have hyl : y < L.length := by
        have h1 : out.getD k 0 ∈ out := by rw [List.getD_eq_getElem?_getD, List.getElem?_eq_getElem (by omega)]; exact List.getElem_mem _
        rw [hy, HPM.out.mem_iff, List.mem_range] at h1
        exact h1
      have hyl' : (y : Int) < L.length := by omega
      have c2 := hI2.2 k (by rw [List.length_map, hol]; omega)
      have e2 : (out.map fun (x : Nat) => (x : Int)).getD k 0 = (y : Int) := by
        rw [← hy, List.getD_eq_getElem?_getD, List.getD_eq_getElem?_getD, List.getElem?_map, List.getElem?_eq_getElem (by omega : k < out.length)]; rfl
      rw [e2] at c2
      have c1 := hI1.2 y hyl
      have hb1 := hI1.1
      have hb2 := hI2.1
      obtain ⟨z, hz⟩ : ∃ z, L.getD y 0 = z := ⟨_, rfl⟩
      rw [hz] at c1
      have HNX : Hid (mxU L out (k + 1) = mxU L out k ++ [z]) := Lib.hid (by rw [mxU_next (by omega), hy, hz])
      clear hI1 hI2 e2 hy hz hown hB
      go_wp2_with (at_builtin; refine wpList_append_own _ rfl _ _ 22 rfl w4.heap.size 3 i0 (.int .i64 0) 1 8 A_und31 hi hz0 hz1 hz2 rfl (by decide) _ _ _ rfl (HO.out.alloc _) ⟨wk.heap.size, 0, none⟩ 1 1 [.int .i64 z] rfl rfl ?d1 ?d2 ?d3 ?d4 ?d5 ?_)
      case d1 =>
        intro j u hj
        match j, hj with
        | 0, hj => simp at hj; subst hj; simp [Addr.add]
      case d2 => intro u hu; simp at hu; subst hu; rfl
      case d3 => unfold maxLen; omega
      case d4 => omega
      case d5 => first | omega | (simp; omega)
      intro v' w8 hown8 hgrow _
      have hB8 := below_grown (al2 HB.out (by omega) _) (HO.out.alloc _) (Nat.le_refl _) (by simp; omega) hgrow
      have HO8 := Lib.hid hown8
      have HB8 := Lib.hid hB8
      clear hgrow hown8 hB8
      go_wp2_with fail
      go_roundw
      case rel => exact ⟨k + 1, by omega, by simp, by rw [HNX.out, List.length_append, hml]; simpa using HO8.out, HB8.out⟩
      case measure => simp [intOf]; omega
    · obtain rfl : k = x := by omega
      obtain ⟨hnd, hsub⟩ := mxU_sub HPM.out k HND.out
      have hsub' : ∀ z ∈ mxU L out k, z ∈ kindIdx t.plots 0 := fun z hz => by rw [← HLQ.out]; exact hsub z hz
      have HSP := Lib.hid (sort_spec hnd hsub')
      have HSO := Lib.hid (sort_any w4.heap.size u8 (mxU L out k) (by omega) wk HO.out)
      have HML := Lib.hid hml
      have HA5 := Lib.hid (aft_below HA4.out (show Below w.heap.size w4 wk from ⟨HB.out.os, HB.out.tape, HB.out.output, HB.out.size, fun j hj => HB.out.block j (by omega)⟩))
      have HBL5 := Lib.hid (HBL4.out.below HB.out)
      clear hown hB hnd hsub hsub' hml
      go_wp2_with fail
      refine HSO.out.mono ?_
      rintro e w9 ⟨rfl, hrd, g, hg, hA9⟩
      have HBL9 := Lib.hid (HBL5.out.hold hA9 (show bl ≠ g by omega) (fun hn mb mo e => by have := HMA.out hn mb mo e; show mb ≠ g; omega))
      have HA9 := Lib.hid (aft_below HA5.out (Aft.low hA9 (show w.heap.size ≤ g by omega) (by omega)))
      have HRD := Lib.hid hrd
      clear hrd hA9
      go_wp2_with fail
      go_ret
      obtain ⟨O, h1, h2, h3, h4⟩ := HSP.out
      exact ⟨_, O, rfl, by rw [← h1]; exact HRD.out, h2, h3, by rw [h4, HML.out]; omega, HBL9.out, HA9.out⟩
end Go.Proofs.YtimedmkpenbmkaaGreat
end
section
namespace Go.Proofs.YtimedmkpenbmkaaGreat
open Go.RowKit Go.Shelf
set_option linter.unusedSimpArgs false
set_option linter.unusedVariables false
theorem houses_named {t : Hr.Town} (ok : t.Ok) (hc : checkErr t.wide t.plots = 0) : Named t (kindIdx t.plots 1) := ⟨ok, hc, fun _ h => h, kind_nodup _ _⟩
theorem lis_inH (t : Hr.Town) (wind voice : Int) : lis t wind voice (inL (kindIdx t.plots 1)) = lis t wind voice fun _ => true := by
  unfold lis lisTo
  congr 1
  apply List.filter_congr
  intro p hp
  have hp := List.mem_range.1 hp
  by_cases h1 : t.at p = 1
  · have : inL (kindIdx t.plots 1) p = true := by unfold inL; rw [decide_eq_true_iff]; exact mem_kindIdx.2 ⟨p, rfl, hp, h1⟩
    rw [this]
  · have : (t.at p == 1) = false := by simpa using h1
    rw [this, Bool.false_and, Bool.false_and]
theorem Few_h {t : Hr.Town} (ok : t.Ok) (hc : checkErr t.wide t.plots = 0) (wind voice : Int) (ha : airErr wind voice = 0) (b o cap : Nat) (a : Option Addr) (hcap : Nat) (w : World) (hP : RdI w (.slice (some ⟨b, o, none⟩) t.plots.length cap) t.plots)
    (hR : RdI w (.slice a (kindIdx t.plots 1).length hcap) (kindIdx t.plots 1)) :
    Calls Tryz.prog 19 #[.agg #[.int .i64 t.wide, .slice (some ⟨b, o, none⟩) t.plots.length cap], .agg #[.int .i64 wind, .int .i64 voice], .slice a (kindIdx t.plots 1).length hcap] w fun e w' =>
      ∃ v X, e = .returned (.tuple #[v, .int .i64 (firstE (lis t wind voice fun _ => true))]) ∧ Below w.heap.size w w' ∧ RdI w' v X ∧ (firstE (lis t wind voice fun _ => true) = 0 → X = (chooseP (lis t wind voice fun _ => true) 30).1) := by
  have h := houses_named ok hc
  obtain ⟨hI, hOQ⟩ := named_OQ h wind voice ha b o cap a hcap w hP hR
  obtain ⟨w0, w4, v1, v40⟩ := wind_ok ha
  obtain ⟨-, hnl, hl⟩ := lis_named h.ok wind voice h.all h.nd
  refine (Fewest_ok t h.ok wind voice w0 w4 b o cap _ (qN t (kindIdx t.plots 1)) hnl w hI hOQ).mono ?_
  rintro e w' ⟨v, rfl, hB, h1, h2⟩
  change lis t wind voice ((qN t (kindIdx t.plots 1)).getD · false) = _ at hl
  rw [hl, lis_inH] at h1 h2 ⊢
  by_cases h0 : firstE (lis t wind voice fun _ => true) = 0
  · exact ⟨v, _, rfl, hB, RdI.own rfl rfl (h2 h0), fun _ => rfl⟩
  · refine ⟨v, [], rfl, hB, ?_, fun e => absurd e h0⟩
    rw [h1 h0]
    exact ⟨by simp, none, 0, rfl, fun h => absurd rfl h⟩
theorem Best_h {t : Hr.Town} (ok : t.Ok) (hc : checkErr t.wide t.plots = 0) (wind voice : Int) (ha : airErr wind voice = 0) (b o cap : Nat) (a : Option Addr) (hcap : Nat) (st : Nat) (hst : st ≤ 30) (w : World) (hP : RdI w (.slice (some ⟨b, o, none⟩) t.plots.length cap) t.plots)
    (hR : RdI w (.slice a (kindIdx t.plots 1).length hcap) (kindIdx t.plots 1)) :
    Calls Tryz.prog 61 #[.agg #[.int .i64 t.wide, .slice (some ⟨b, o, none⟩) t.plots.length cap], .agg #[.int .i64 wind, .int .i64 voice], .slice a (kindIdx t.plots 1).length hcap, .int .i64 st] w fun e w' =>
      ∃ v, e = .returned (.tuple #[v, .int .i64 (chooseP (lis t wind voice fun _ => true) st).2, .int .i64 0]) ∧ Below w.heap.size w w' ∧ w'.ownsRow w.heap.size 3 1 v (chooseP (lis t wind voice fun _ => true) st).1.length ((chooseP (lis t wind voice fun _ => true) st).1.map (Value.int .i64)) := by
  have h := houses_named ok hc
  obtain ⟨hI, hOQ⟩ := named_OQ h wind voice ha b o cap a hcap w hP hR
  obtain ⟨w0, w4, v1, v40⟩ := wind_ok ha
  obtain ⟨-, hnl, hl⟩ := lis_named h.ok wind voice h.all h.nd
  have hh := Best_ok t h.ok wind voice w0 w4 b o cap _ (qN t (kindIdx t.plots 1)) hnl st hst w hI hOQ
  change lis t wind voice ((qN t (kindIdx t.plots 1)).getD · false) = _ at hl
  rwa [hl, lis_inH] at hh
theorem Louder_h {t : Hr.Town} (ok : t.Ok) (hc : checkErr t.wide t.plots = 0) (wind : Int) (hw0 : 0 ≤ wind) (hw4 : wind ≤ 4) (b o cap : Nat) (a : Option Addr) (hcap : Nat) (st : Nat) (hst : st ≤ 30) (w : World) (hP : RdI w (.slice (some ⟨b, o, none⟩) t.plots.length cap) t.plots)
    (hR : RdI w (.slice a (kindIdx t.plots 1).length hcap) (kindIdx t.plots 1)) :
    Calls Tryz.prog 62 #[.agg #[.int .i64 t.wide, .slice (some ⟨b, o, none⟩) t.plots.length cap], .int .i64 wind, .slice a (kindIdx t.plots 1).length hcap, .int .i64 st] w fun e w' => e = .returned (louderAns (leastV t wind (fun _ => true) st)) ∧ Below w.heap.size w w' := by
  have h := houses_named ok hc
  have ha : airErr wind 40 = 0 := by unfold airErr; rw [if_neg (by omega)]
  obtain ⟨hI, hOQ⟩ := named_OQ h wind 40 ha b o cap a hcap w hP hR
  obtain ⟨-, hnl, -⟩ := lis_named h.ok wind 40 h.all h.nd
  have hh := Louder_ok t ok wind hw0 hw4 b o cap _ (qN t (kindIdx t.plots 1)) hnl st hst w hI hOQ
  have e : leastV t wind ((qN t (kindIdx t.plots 1)).getD · false) st = leastV t wind (fun _ => true) st := by
    unfold leastV
    refine lvF_congr (fun v => ?_) _ _
    have hl := (lis_named h.ok wind v h.all h.nd).2.2
    change lis t wind v ((qN t (kindIdx t.plots 1)).getD · false) = _ at hl
    rw [hl, lis_inH]
  rwa [e] at hh
theorem street_at {t : Hr.Town} (hc : checkErr t.wide t.plots = 0) {wind voice : Int} (ha : airErr wind voice = 0) {s : Nat} (hs : s < t.len) (h0 : t.at s = 0) : atE t.wide t.plots wind voice s 0 = 0 := by
  unfold atE openErr plotErr
  rw [hc, ha]
  have hs' : s < t.plots.length := hs
  have h0' : t.plots.getD s 0 = 0 := h0
  rw [if_neg (by simp), if_neg (by omega), Int.toNat_natCast, if_pos h0']
theorem street_houses {t : Hr.Town} (hc : checkErr t.wide t.plots = 0) {wind voice : Int} (ha : airErr wind voice = 0) {s : Nat} (hs : s < t.len) (h0 : t.at s = 0) : housesL t.wide t.plots wind voice s = housesOf t wind voice s := by
  unfold housesL
  rw [if_pos (street_at hc ha hs h0), townOf_self, Int.toNat_natCast]
theorem housesOf_len (t : Hr.Town) (wind voice : Int) (s : Nat) : (housesOf t wind voice s).length ≤ t.len := housesTo_len _ _ _ _ _
/-- served, of natural numbers -/
theorem Served_n {t : Hr.Town} (ok : t.Ok) (hc : checkErr t.wide t.plots = 0) {wind voice : Int} (ha : airErr wind voice = 0) (b o cap : Nat) (a sa : Option Addr) (hcap cs : Nat) (O : List Nat) (hO : ∀ s ∈ O, s < t.len ∧ t.at s = 0) (hl : O.length ≤ 30) (w : World)
    (hP : RdI w (.slice (some ⟨b, o, none⟩) t.plots.length cap) t.plots) (hR : RdI w (.slice a (kindIdx t.plots 1).length hcap) (kindIdx t.plots 1)) (hS : RdI w (.slice sa (natI O).length cs) (natI O)) :
    Calls Tryz.prog 23 #[.agg #[.int .i64 t.wide, .slice (some ⟨b, o, none⟩) t.plots.length cap], .agg #[.int .i64 wind, .int .i64 voice], .slice a (kindIdx t.plots 1).length hcap, .slice sa (natI O).length cs] w fun e w' => e = .returned (.tuple #[.int .i64 (cntS (lis t wind voice fun _ => true) O : Nat), .bool true]) ∧ Below w.heap.size w w' := by
  have hn30 : t.plots.length ≤ 30 := ok.n30
  have h := served_ok t.wide wind voice (some ⟨b, o, none⟩) cap t.plots (by omega) a sa hcap cs (kindIdx t.plots 1) (natI O) (by have := kindTo_len t.plots 1 t.plots.length; unfold kindIdx; omega) (by rw [natI_len]; omega) w hP hR hS (fun s hs => by
    obtain ⟨p, hp, rfl⟩ := List.mem_map.1 hs
    exact street_at hc ha (hO p hp).1 (hO p hp).2)
  rwa [served_cnt ok hc ha O hO] at h
theorem sorted_get {l : List Nat} (h : l.Pairwise (· < ·)) : ∀ k, k + 1 < (natI l).length → (natI l).getD k 0 ≤ (natI l).getD (k + 1) 0 := fun k hk => by
  rw [natI_len] at hk
  have h1 := List.pairwise_iff_getElem.1 h k (k + 1) (by omega) hk (by omega)
  unfold natI
  rw [List.getD_eq_getElem?_getD, List.getD_eq_getElem?_getD, List.getElem?_map, List.getElem?_map, List.getElem?_eq_getElem (by omega : k < l.length), List.getElem?_eq_getElem hk]
  show ((l[k] : Nat) : Int) ≤ ((l[k + 1] : Nat) : Int)
  omega
theorem natI_get (l : List Nat) (k : Nat) : (natI l).getD k 0 = ((l.getD k 0 : Nat) : Int) := by
  unfold natI
  rw [List.getD_eq_getElem?_getD, List.getD_eq_getElem?_getD, List.getElem?_map]
  cases l[k]? <;> rfl
theorem bef_cmp {ch O : List Nat} (h : ch = O ∨ Bef ch O) : ∀ k, k < (natI O).length → (∀ i, i < k → (natI O).getD i 0 = (natI ch).getD i 0) → (natI ch).getD k 0 ≤ (natI O).getD k 0 := by
  intro k hk he
  rcases h with rfl | ⟨p, a, b, A', B', rfl, rfl, hab⟩
  · exact Int.le_refl _
  · rw [natI_get, natI_get]
    by_cases h1 : k < p.length
    · rw [List.getD_eq_getElem?_getD, List.getD_eq_getElem?_getD, List.getElem?_append_left h1, List.getElem?_append_left h1]
      exact Int.le_refl _
    · by_cases h2 : k = p.length
      · subst h2
        rw [List.getD_eq_getElem?_getD, List.getD_eq_getElem?_getD, List.getElem?_append_right (Nat.le_refl _), List.getElem?_append_right (Nat.le_refl _), Nat.sub_self]
        show ((a : Nat) : Int) ≤ ((b : Nat) : Int)
        omega
      · have h3 := he p.length (by omega)
        rw [natI_get, natI_get, List.getD_eq_getElem?_getD, List.getD_eq_getElem?_getD, List.getElem?_append_right (Nat.le_refl _), List.getElem?_append_right (Nat.le_refl _), Nat.sub_self] at h3
        have h4 : ((b : Nat) : Int) = ((a : Nat) : Int) := h3
        omega
end Go.Proofs.YtimedmkpenbmkaaGreat
end
section
namespace Go.Proofs.YtimedmkpenbmkaaGreat.Rg
open Go
theorem GrowL.skipA {P : Program} {G : World → World → Prop} {o : Oper} {ρ : Operand → Value} {w w' : World} {Φ : Value → World → Prop} (h : (execOp ρ o).run P w = .ok .skip w') (hg : G w w') (hv : Φ undef w') : GrowL G P o ρ w Φ := by
  unfold GrowL; rw [h]; exact ⟨hg, hv⟩
end Go.Proofs.YtimedmkpenbmkaaGreat.Rg
namespace Go.Proofs.YtimedmkpenbmkaaGreat
open Go.RowKit Go.Shelf
set_option linter.unusedSimpArgs false
set_option linter.unusedVariables false
def AirV (wind voice : Int) : Prop := 0 ≤ wind ∧ wind ≤ 4 ∧ 1 ≤ voice ∧ voice ≤ 16
structure Ax (QB : Nat) (ma : Option Addr) (n mc : Nat) (B : Nat) (a b : World) : Prop where
  os : b.os = a.os
  tape : b.tape = a.tape
  output : b.output = a.output
  size : a.heap.size ≤ b.heap.size
  bell : BellOk a QB ma n mc → BellOk b QB ma n mc
  same : ∀ k, k < a.heap.size → k ≠ QB → b.heap[k]? = a.heap[k]? ∨ (B ≤ k ∧ ∃ cs wind voice, AirV wind voice ∧ a.heap[k]? = some (.cells cs 29 (0, 0)) ∧ b.heap[k]? = some (.cells #[.int .i64 wind, .int .i64 voice] 29 (0, 0)))
section
variable {QB : Nat} {ma : Option Addr} {n mc B : Nat} {a b : World}
theorem Ax.of_gr (h : Below a.heap.size a b) : Ax QB ma n mc B a b := ⟨h.os, h.tape, h.output, h.size, fun hb => hb.below h, fun k hk _ => .inl (h.block k hk)⟩
theorem Ax.of_bell (h : Hold (fun k => k ≠ QB) a b) (hb : BellOk b QB ma n mc) : Ax QB ma n mc B a b := ⟨h.os, h.tape, h.output, h.size, fun _ => hb, fun k hk hn => .inl (h.same k hn hk)⟩
theorem Ax.aft (h : Ax QB ma n mc a.heap.size a b) : Aft QB a b := ⟨h.os, h.tape, h.output, h.size, fun k hk hl => by
  rcases h.same k hl hk with e | ⟨e, _⟩
  · exact e
  · omega⟩
theorem Ax.row {B0 : Nat} (h : Ax QB ma n mc B a b) (hq : QB < B0) {v : Value} {m : Nat} {l : List Value} (ho : a.ownsRow B0 3 1 v m l) : b.ownsRow B0 3 1 v m l := by
  refine ⟨ho.1, ?_⟩
  rcases ho.2 with h1 | ⟨g, cap, cur, h1, h2, h3, h4⟩
  · exact .inl h1
  · refine .inr ⟨g, cap, cur, h1, h2, ?_, h4⟩
    rcases h.same g (Array.getElem?_eq_some_iff.1 h3).1 (by omega) with e1 | ⟨_, cs, wind, voice, _, e1, _⟩
    · rw [e1]; exact h3
    · rw [h3] at e1
      injection e1 with e1
      injection e1 with _ e1
      cases e1
theorem Ax.isGr (QB : Nat) (ma : Option Addr) (n mc B : Nat) : Rg.IsGr (Ax QB ma n mc B) where
  refl w := .of_gr (Below.refl _ _)
  drew w := .of_gr ((Below.refl _ _).drew)
  trans {a b c} h k := ⟨k.os.trans h.os, k.tape.trans h.tape, k.output.trans h.output, Nat.le_trans h.size k.size, fun hb => k.bell (h.bell hb), fun i hi hn => by
    rcases k.same i (Nat.lt_of_lt_of_le hi h.size) hn with e1 | ⟨hB, cs, wd, vc, hA, e1, e2⟩
    · rcases h.same i hi hn with e2 | ⟨hB, cs, wd, vc, hA, e2, e3⟩
      · exact .inl (e1.trans e2)
      · exact .inr ⟨hB, cs, wd, vc, hA, e2, e1.trans e3⟩
    · rcases h.same i hi hn with e4 | ⟨_, cs', wd', vc', hA', e4, e5⟩
      · exact .inr ⟨hB, cs, wd, vc, hA, e4.symm.trans e1, e2⟩
      · exact .inr ⟨hB, cs', wd, vc, hA, e4, e2⟩⟩
theorem Ax.fill {p : Nat} {c0 c1 : Value} {wind voice : Int} (hA : AirV wind voice) (hQ : QB < B) (hm : n ≠ 0 → ∀ mb mo, ma = some ⟨mb, mo, none⟩ → mb < B) (hp : B ≤ p) (hb : a.heap[p]? = some (.cells #[c0, c1] 29 (0, 0))) :
    Ax QB ma n mc B a ((a.setCell ⟨p, 0, none⟩ (.int .i64 wind)).setCell ⟨p, 1, none⟩ (.int .i64 voice)) ∧ ((a.setCell ⟨p, 0, none⟩ (.int .i64 wind)).setCell ⟨p, 1, none⟩ (.int .i64 voice)).heap[p]? = some (.cells #[.int .i64 wind, .int .i64 voice] 29 (0, 0)) := by
  have h1 := heap_set_same (o := 0) (.int .i64 wind) hb
  have h2 := heap_set_same (o := 1) (.int .i64 voice) h1
  have h3 : ((a.setCell ⟨p, 0, none⟩ (.int .i64 wind)).setCell ⟨p, 1, none⟩ (.int .i64 voice)).heap[p]? = some (.cells #[.int .i64 wind, .int .i64 voice] 29 (0, 0)) := h2
  have hS : Hold (fun k => k ≠ p) a ((a.setCell ⟨p, 0, none⟩ (.int .i64 wind)).setCell ⟨p, 1, none⟩ (.int .i64 voice)) := (Hold.set _ _ _ _).trans (Hold.set _ _ _ _)
  refine ⟨⟨rfl, rfl, rfl, by simp, fun hbl => hbl.hold hS (by omega) (fun hn mb mo e => by have := hm hn mb mo e; show mb ≠ p; omega), fun k hk _ => ?_⟩, h3⟩
  by_cases e2 : k = p
  · subst e2
    exact .inr ⟨hp, _, wind, voice, hA, hb, h3⟩
  · exact .inl (hS.same k e2 hk)
end
end Go.Proofs.YtimedmkpenbmkaaGreat
end
section
namespace Go.Proofs.YtimedmkpenbmkaaGreat
open Go.RowKit Go.Shelf
set_option linter.unusedSimpArgs false
set_option linter.unusedVariables false
/-- rows of numbers that grow, in a row of slices -/
structure ErW (n O : Nat) (E : Nat → List Int) (vs : List Value) (W : World) : Prop where
  len : vs.length = n
  blk : W.heap[O]? = some (.cells vs.toArray 22 (0, 0))
  own : ∀ p, p < n → W.ownsRow (O + 1) 3 1 (vs.getD p (.slice none 0 0)) (E p).length ((E p).map (Value.int .i64))
  apart : ∀ p q, p < n → q < n → p ≠ q → ∀ g, (vs.getD p (.slice none 0 0)).ownBlock = some g → (vs.getD q (.slice none 0 0)).ownBlock ≠ some g
theorem ErW.below {n O : Nat} {E : Nat → List Int} {vs : List Value} {W W' : World} (h : ErW n O E vs W) (hB : Below W.heap.size W W') : ErW n O E vs W' :=
  ⟨h.len, (hB.block _ (Array.getElem?_eq_some_iff.1 h.blk).1).trans h.blk, fun p hp => own_below (h.own p hp) hB, h.apart⟩
theorem ErW.lt {n O : Nat} {E : Nat → List Int} {vs : List Value} {W : World} (h : ErW n O E vs W) : O < W.heap.size := (Array.getElem?_eq_some_iff.1 h.blk).1
end Go.Proofs.YtimedmkpenbmkaaGreat
end
section
namespace Go.Proofs.YtimedmkpenbmkaaGreat
open Go.RowKit Go.Shelf
set_option linter.unusedSimpArgs false
set_option linter.unusedVariables false
/-- ears that can be read: a row of slices of numbers -/
structure ErR (n O : Nat) (E : Nat → List Int) (W : World) : Prop where
  lt : O < W.heap.size
  at' : ∀ p, p < n → ∃ v, W.cell? ⟨O, p, none⟩ = some v ∧ RdI W v (E p)
theorem ErR.below {n O : Nat} {E : Nat → List Int} {W W' : World} (h : ErR n O E W) (hB : Below W.heap.size W W') : ErR n O E W' :=
  ⟨Nat.lt_of_lt_of_le h.lt hB.size, fun p hp => by
    obtain ⟨v, h1, h2⟩ := h.at' p hp
    refine ⟨v, ?_, h2.below hB⟩
    unfold World.cell? at h1 ⊢
    rw [hB.block O h.lt]
    exact h1⟩
end Go.Proofs.YtimedmkpenbmkaaGreat
end
section
namespace Go.Proofs.YtimedmkpenbmkaaGreat
open Go.RowKit Go.Shelf
set_option linter.unusedSimpArgs false
set_option linter.unusedVariables false
/-- a row of slices that is owned, with owned rows of numbers in it -/
structure OwL (W : World) (base : Nat) (v : Value) (ls : List (List Int)) (vs : List Value) : Prop where
  own : W.ownsRow base 22 1 v ls.length vs
  el : ∀ j, j < ls.length → W.ownsRow base 3 1 (vs.getD j (.slice none 0 0)) (ls.getD j []).length ((ls.getD j []).map (Value.int .i64)) ∧ (ls.getD j [] = [] → vs.getD j (.slice none 0 0) = .slice none 0 0)
theorem OwL.below {W W' : World} {base : Nat} {v : Value} {ls : List (List Int)} {vs : List Value} (h : OwL W base v ls vs) (hB : Below W.heap.size W W') : OwL W' base v ls vs :=
  ⟨own_below h.own hB, fun j hj => ⟨own_below (h.el j hj).1 hB, (h.el j hj).2⟩⟩
end Go.Proofs.YtimedmkpenbmkaaGreat
end
section
namespace Go.Proofs.YtimedmkpenbmkaaGreat
open Go.RowKit Go.Shelf
set_option linter.unusedSimpArgs false
set_option linter.unusedVariables false
/-- houses no two of which hear the same stand need a stand each -/
theorem apart_le : ∀ (E : List (Nat × List Bool)) (ch : List Nat), (∀ x ∈ E, hit ch x.2 = true) → Apt E → (∀ s ∈ ch, s < 30) → E.length ≤ ch.length
  | [], ch, _, _, _ => Nat.zero_le _
  | x :: E, ch, hE, hA, hb => by
    unfold Apt at hA
    rw [List.pairwise_cons] at hA
    have hx := hE x (by simp)
    unfold hit at hx
    rw [List.any_eq_true] at hx
    obtain ⟨s, hs, hxs⟩ := hx
    have h := apart_le E (ch.erase s) (fun y hy => by
      have hy1 := hE y (by simp [hy])
      unfold hit at hy1 ⊢
      rw [List.any_eq_true] at hy1 ⊢
      obtain ⟨s', hs', hys⟩ := hy1
      refine ⟨s', ?_, hys⟩
      rw [List.mem_erase_of_ne]
      · exact hs'
      · rintro rfl
        rw [clash_no.1 (hA.1 y hy) s' (hb s' hs') hxs] at hys
        cases hys) hA.2 (fun s' hs' => hb s' (List.mem_of_mem_erase hs'))
    have hl := List.length_erase_of_mem hs
    have h0 : 0 < ch.length := List.length_pos_of_mem hs
    rw [List.length_cons]
    omega
theorem house_at {t : Hr.Town} (hc : checkErr t.wide t.plots = 0) {wind voice : Int} (ha : airErr wind voice = 0) {p : Nat} (hp : p < t.len) (h1 : t.at p = 1) : atE t.wide t.plots wind voice p 1 = 0 := by
  unfold atE openErr plotErr
  rw [hc, ha]
  have hs' : p < t.plots.length := hp
  have h0' : t.plots.getD p 0 = 1 := h1
  rw [if_neg (by simp), if_neg (by omega), Int.toNat_natCast, if_pos h0']
theorem house_stands {t : Hr.Town} (hc : checkErr t.wide t.plots = 0) {wind voice : Int} (ha : airErr wind voice = 0) {p : Nat} (hp : p < t.len) (h1 : t.at p = 1) : standsL t.wide t.plots wind voice p = standsOf t wind voice p := by
  unfold standsL
  rw [if_pos (house_at hc ha hp h1), townOf_self]
  rfl
theorem deaf_stands {t : Hr.Town} {wind voice x : Int} (h : x ∈ deafOf t wind voice) : ∃ p : Nat, x = p ∧ p < t.len ∧ t.at p = 1 ∧ standsOf t wind voice p = [] := by
  obtain ⟨y, hy, hd, rfl⟩ := mem_deafOf.1 h
  obtain ⟨a, b, c⟩ := mem_lis.1 hy
  refine ⟨y.1, rfl, a, b, ?_⟩
  cases hs : standsOf t wind voice y.1 with
  | nil => rfl
  | cons z l =>
    have hz : z ∈ standsOf t wind voice y.1 := by rw [hs]; simp
    unfold standsOf standsTo at hz
    obtain ⟨s, h1, rfl⟩ := List.mem_map.1 hz
    rw [List.mem_filter, List.mem_range] at h1
    have := no_deaf (e := y.2) (s := s) (by rw [c, ears_get, h1.2]; simpa using h1.1)
    rw [hd] at this; cases this
/-- of houses that are apart no two hear the same stand -/
theorem apt_stands {t : Hr.Town} {wind voice : Int} {E : List (Nat × List Bool)} (hs : E.Sublist (lis t wind voice fun _ => true)) (hA : Apt E) {i k : Nat} (hi : i < E.length) (hk : k < i) :
    ∃ p q : Nat, (natI (fsts E)).getD i 0 = p ∧ (natI (fsts E)).getD k 0 = q ∧ p < t.len ∧ t.at p = 1 ∧ q < t.len ∧ t.at q = 1 ∧ (standsOf t wind voice p).any (fun s => (standsOf t wind voice q).contains s) = false := by
  have hk2 : k < E.length := by omega
  obtain ⟨a1, b1, c1⟩ := mem_lis.1 (hs.subset (List.getElem_mem hi))
  obtain ⟨a2, b2, c2⟩ := mem_lis.1 (hs.subset (List.getElem_mem hk2))
  refine ⟨(E[i]).1, (E[k]).1, ?_, ?_, a1, b1, a2, b2, ?_⟩
  · rw [natI_get]; unfold fsts; simp [List.getD_eq_getElem?_getD, hi]
  · rw [natI_get]; unfold fsts; simp [List.getD_eq_getElem?_getD, hk2]
  · have hc := List.pairwise_iff_getElem.1 hA k i hk2 hi hk
    rw [List.any_eq_false]
    intro z hz
    unfold standsOf standsTo at hz ⊢
    obtain ⟨s, h1, rfl⟩ := List.mem_map.1 hz
    rw [List.mem_filter, List.mem_range] at h1
    rw [List.contains_iff_mem]
    intro h2
    obtain ⟨s', h3, e⟩ := List.mem_map.1 h2
    obtain rfl : s' = s := by omega
    rw [List.mem_filter, List.mem_range] at h3
    have h4 := clash_no.1 hc s' h3.1 (by rw [c2, ears_get, h3.2]; simpa using h3.1)
    rw [c1, ears_get, h1.2] at h4
    simp at h4
    omega
theorem apt_house {t : Hr.Town} {wind voice : Int} {E : List (Nat × List Bool)} (hs : E.Sublist (lis t wind voice fun _ => true)) {i : Nat} (hi : i < E.length) :
    ∃ p : Nat, (natI (fsts E)).getD i 0 = p ∧ p < t.len ∧ t.at p = 1 := by
  obtain ⟨a1, b1, c1⟩ := mem_lis.1 (hs.subset (List.getElem_mem hi))
  exact ⟨(E[i]).1, by rw [natI_get]; unfold fsts; simp [List.getD_eq_getElem?_getD, hi], a1, b1⟩
theorem Apart_h {t : Hr.Town} (ok : t.Ok) (hc : checkErr t.wide t.plots = 0) (wind voice : Int) (ha : airErr wind voice = 0) (b o cap : Nat) (a : Option Addr) (hcap : Nat) (w : World) (hP : RdI w (.slice (some ⟨b, o, none⟩) t.plots.length cap) t.plots)
    (hR : RdI w (.slice a (kindIdx t.plots 1).length hcap) (kindIdx t.plots 1)) :
    Calls Tryz.prog 21 #[.agg #[.int .i64 t.wide, .slice (some ⟨b, o, none⟩) t.plots.length cap], .agg #[.int .i64 wind, .int .i64 voice], .slice a (kindIdx t.plots 1).length hcap] w fun e w' =>
      ∃ v, e = .returned (.tuple #[v, .int .i64 0]) ∧ Below w.heap.size w w' ∧ RdI w' v (natI (apartP (lis t wind voice fun _ => true))) ∧ (∀ g, g < w.heap.size → Off g v) ∧ ∀ a' n' c', v = .slice a' n' c' → n' ≤ c' := by
  have h := houses_named ok hc
  obtain ⟨hI, hOQ⟩ := named_OQ h wind voice ha b o cap a hcap w hP hR
  obtain ⟨w0, w4, v1, v40⟩ := wind_ok ha
  obtain ⟨-, hnl, hl⟩ := lis_named h.ok wind voice h.all h.nd
  refine (Apart_ok t h.ok wind voice w0 w4 b o cap _ (qN t (kindIdx t.plots 1)) hnl w hI hOQ).mono ?_
  rintro e w' ⟨v, rfl, hB, h1⟩
  change lis t wind voice ((qN t (kindIdx t.plots 1)).getD · false) = _ at hl
  rw [hl, lis_inH] at h1
  refine ⟨v, rfl, hB, h1.rd, fun g hg => own_off h1 hg, fun a' n' c' e => ?_⟩
  have hm : (apartP (lis t wind voice fun _ => true)).map (fun (x : Nat) => Value.int .i64 x) = (natI (apartP (lis t wind voice fun _ => true))).map (Value.int .i64) := by unfold natI; rw [List.map_map]; rfl
  unfold OwnN at h1
  rw [hm, ← natI_len] at h1
  obtain ⟨ob, cp, hv⟩ := own_slice h1
  rw [hv] at h1 e
  injection e with e1 e2 e3
  rw [← e2, ← e3]
  exact own_cap h1
/-- the fewest stands of all houses; none if one is deaf -/
def fewH (t : Hr.Town) (wind voice : Int) : List Int := if firstE (lis t wind voice fun _ => true) = 0 then (chooseP (lis t wind voice fun _ => true) 30).1 else []
theorem Few_f {t : Hr.Town} (ok : t.Ok) (hc : checkErr t.wide t.plots = 0) (wind voice : Int) (ha : airErr wind voice = 0) (b o cap : Nat) (a : Option Addr) (hcap : Nat) (w : World) (hP : RdI w (.slice (some ⟨b, o, none⟩) t.plots.length cap) t.plots)
    (hR : RdI w (.slice a (kindIdx t.plots 1).length hcap) (kindIdx t.plots 1)) :
    Calls Tryz.prog 19 #[.agg #[.int .i64 t.wide, .slice (some ⟨b, o, none⟩) t.plots.length cap], .agg #[.int .i64 wind, .int .i64 voice], .slice a (kindIdx t.plots 1).length hcap] w fun e w' =>
      ∃ v, e = .returned (.tuple #[v, .int .i64 (firstE (lis t wind voice fun _ => true))]) ∧ Below w.heap.size w w' ∧ RdI w' v (fewH t wind voice) ∧ ∀ g, g < w.heap.size → Off g v := by
  have h := houses_named ok hc
  obtain ⟨hI, hOQ⟩ := named_OQ h wind voice ha b o cap a hcap w hP hR
  obtain ⟨w0, w4, v1, v40⟩ := wind_ok ha
  obtain ⟨-, hnl, hl⟩ := lis_named h.ok wind voice h.all h.nd
  refine (Fewest_ok t h.ok wind voice w0 w4 b o cap _ (qN t (kindIdx t.plots 1)) hnl w hI hOQ).mono ?_
  rintro e w' ⟨v, rfl, hB, h1, h2⟩
  change lis t wind voice ((qN t (kindIdx t.plots 1)).getD · false) = _ at hl
  rw [hl, lis_inH] at h1 h2 ⊢
  unfold fewH
  by_cases h0 : firstE (lis t wind voice fun _ => true) = 0
  · rw [if_pos h0]; exact ⟨v, rfl, hB, RdI.own rfl rfl (h2 h0), fun g hg => own_off (h2 h0) hg⟩
  · rw [if_neg h0]
    refine ⟨v, rfl, hB, ?_⟩
    rw [h1 h0]
    exact ⟨⟨by simp, none, 0, rfl, fun h => absurd rfl h⟩, fun g _ b o n c e => by injection e with e1; cases e1⟩
theorem few_none {t : Hr.Town} {wind voice : Int} (h : deafOf t wind voice ≠ []) : firstE (lis t wind voice fun _ => true) = 6 ∧ fewH t wind voice = [] := by
  have h6 : firstE (lis t wind voice fun _ => true) = 6 := by
    rcases firstE_or (lis t wind voice fun _ => true) with h1 | h1
    · exact absurd ((firstE_deaf wind voice).1 h1) h
    · exact h1
  exact ⟨h6, by unfold fewH; rw [h6]; rfl⟩
theorem few_some {t : Hr.Town} (hc : checkErr t.wide t.plots = 0) {wind voice : Int} (h : deafOf t wind voice = []) :
    firstE (lis t wind voice fun _ => true) = 0 ∧ ∃ ch E, fewH t wind voice = natI ch ∧ Chosen (lis t wind voice fun _ => true) 30 ch (kindIdx t.plots 1).length ∧ apartP (lis t wind voice fun _ => true) = fsts E ∧ E.Sublist (lis t wind voice fun _ => true) ∧ Apt E ∧ E.length ≤ ch.length := by
  have h0 := (firstE_deaf wind voice).2 h
  obtain ⟨ch, n, h1, h2, hch⟩ := chosen (lis t wind voice fun _ => true) (lis_ten hc wind voice) 30
  obtain ⟨E, h3, hE⟩ := aparts (lis t wind voice fun _ => true) (lis_sorted t wind voice _)
  have hH : Heard (lis t wind voice fun _ => true) := err_heard (lis_30 t wind voice _) h0
  have hn := chosen_all hH (Nat.le_refl 30) hch
  refine ⟨h0, ch, E, by unfold fewH; rw [if_pos h0, h1]; rfl, ?_, h3, hE.sub, hE.apt, apart_le E ch (fun x hx => chosen_serves hH (Nat.le_refl 30) hch x (hE.sub.subset hx)) hE.apt hch.bd⟩
  rw [← lis_houses_len t wind voice, ← hn]; exact hch
theorem deaf_open {t : Hr.Town} (hc : checkErr t.wide t.plots = 0) {wind voice : Int} (ha : airErr wind voice = 0) : openErr t.wide t.plots wind voice = 0 ∧ deafL t.wide t.plots wind voice = deafOf t wind voice := by
  have h : openErr t.wide t.plots wind voice = 0 := by unfold openErr; rw [hc]; exact ha
  refine ⟨h, ?_⟩
  unfold deafL
  rw [if_pos h, townOf_self]
theorem deafOf_len (t : Hr.Town) (wind voice : Int) (hc : checkErr t.wide t.plots = 0) : (deafOf t wind voice).length ≤ 10 := Nat.le_trans (deafTo_len _ _) (lis_ten hc wind voice)
theorem standsOf_len (t : Hr.Town) (wind voice : Int) (p : Nat) : (standsOf t wind voice p).length ≤ 30 := by
  unfold standsOf standsTo
  rw [List.length_map]
  exact Nat.le_trans (List.length_filter_le _ _) (by simp)
end Go.Proofs.YtimedmkpenbmkaaGreat
end
