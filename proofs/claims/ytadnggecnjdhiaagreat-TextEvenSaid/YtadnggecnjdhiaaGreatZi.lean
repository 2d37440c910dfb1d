/- Contracts of the code and of the reference, part 9. -/
import Derived.Test.YtadnggecnjdhiaaGreatZh
set_option linter.unusedSimpArgs false
set_option linter.unusedVariables false
namespace Go.Proofs.YtadnggecnjdhiaaGreat
open Go.RowKit Tx
attribute [local go_sem] Oper.semAt_some

theorem A_undLL : Tryz.prog.underlying 41 = some (.slice 34) := by kernel_rfl
theorem A_infoIs : (Tryz.prog.info? 34).map (fun i => (i.zero, i.size, i.bytes)) = some (some (.slice none 0 0), 1, 24) := by kernel_rfl
/-- append, and whether it goes on in the same row -/
theorem append_which (w : World) (base : Nat) (i0 : TypeInfo) (hi : Tryz.prog.info? 34 = some i0) (hz0 : i0.zero = some (.slice none 0 0)) (hz1 : i0.size = 1) (hz2 : i0.bytes = 24) (ty : TypeId) (tv : Value) (n : Nat) (xs : List Value) (x : Value) (hx1 : x.oneCell' = true) (hown : w.ownsRow base 34 1 tv n xs) (hb : base ≤ w.heap.size) (hn : n ≤ 1000000) (a : Addr) (ha : w.cell? (a.add 0) = some x) :
    ∃ v' w', (Builtin.append_ #[41, 41] ty #[tv, .slice (some a) 1 1]).run Tryz.prog w = .ok v' w' ∧ w'.ownsRow base 34 1 v' (n + 1) (xs ++ [x]) ∧ w.grownBy w' tv.ownBlock ∧ (v'.ownBlock = tv.ownBlock ∨ v'.ownBlock = some w.heap.size) := by
  have hnews : ∀ j u, [x][j]? = some u → w.cell? (a.add j) = some u := fun j u hj => by
    match j, hj with
    | 0, hj => simp at hj; subst hj; exact ha
  obtain ⟨v', w', hr, h2, h3, h4⟩ := run_append_own (P := Tryz.prog) w base 41 ty 34 i0 (.slice none 0 0) 1 24 A_undLL hi hz0 hz1 hz2 rfl (by decide) tv n xs hown a 1 1 [x] rfl hnews (by simpa using hx1) (by unfold maxLen; omega) (by omega) hb
  refine ⟨v', w', hr, h2, h3, ?_⟩
  rcases hown.2 with ⟨rfl, rfl⟩ | ⟨g, cap, cur, rfl, hbg, hg, hnc, hcm, hcs, htake⟩
  · have hr2 := run_append_nil (P := Tryz.prog) w 41 ty 34 i0 (.slice none 0 0) A_undLL hi hz0 a 1 1 [x] (by rw [hz1]; rfl) hnews (by omega) (by omega) (by rw [hz2]; omega)
    rw [hr2] at hr
    injection hr with hv hw
    right; rw [← hv]; rfl
  · by_cases hroom : n + 1 ≤ cap
    · have hr2 := run_append_room (P := Tryz.prog) w 41 ty 34 i0 A_undLL hi g n cap cur hg a 1 1 [x] (by rw [hz1]; rfl) hnews (by simpa using hx1) hroom (by rw [hcs, hz1]; simp; omega)
      rw [hr2] at hr
      injection hr with hv hw
      subst hv
      exact .inl rfl
    · have holds : ∀ j u, xs[j]? = some u → w.cell? ((⟨g, 0, none⟩ : Addr).add j) = some u := hown.cells (g := g) rfl
      have hr2 := run_append_grow (P := Tryz.prog) w 41 ty 34 i0 (.slice none 0 0) A_undLL hi hz0 ⟨g, 0, none⟩ n cap xs (by rw [hz1]; exact hown.1) holds a 1 1 [x] (by rw [hz1]; rfl) hnews (by omega) (by omega) (by rw [hz2]; exact growslice_fits (by omega) (by omega))
      rw [hr2] at hr
      injection hr with hv hw
      right; rw [← hv]; rfl
theorem wpList_append_which {ops : Array Oper} {rest : List Oper} {o : Oper} {a : Act} {w : World} {Q : Exit → Act → World → Prop} (hgd : o.guard = none) (s x : Operand)
    (ho : o.op = .call { callee := .builtin .append, args := #[s, x], argTypes := #[41, 41] }) (base : Nat) (tv : Value) (n : Nat) (xs : List Value) (hs : a.eval s = tv) (hown : w.ownsRow base 34 1 tv n xs)
    (ad : Addr) (u : Value) (hx : a.eval x = .slice (some ad) 1 1) (hu : w.cell? (ad.add 0) = some u) (hu1 : u.oneCell' = true) (hb : base ≤ w.heap.size) (hn : n ≤ 1000000)
    (h : ∀ v' w', w'.ownsRow base 34 1 v' (n + 1) (xs ++ [u]) → w.grownBy w' tv.ownBlock → (v'.ownBlock = tv.ownBlock ∨ v'.ownBlock = some w.heap.size) → wpList Tryz.prog ops Q rest (a.put o.dst v') w') : wpList Tryz.prog ops Q (o :: rest) a w :=
  wpList_plain hgd fun _ hK => by
    obtain ⟨i0, hi, hz0, hz1, hz2⟩ := info_parts A_infoIs
    obtain ⟨v', w', hr, h2, h3, h4⟩ := append_which w base i0 hi hz0 hz1 hz2 o.type tv n xs u hu1 hown hb hn ad hu
    unfold Oper.wp execOp
    simp only [ho, resolve, invoke, builtin, Sem.run_bind, Sem.run_pure, Result.andThen_ok, List.map_toArray, List.map_cons, List.map_nil, hs, hx, hr]
    exact hK _ _ (h v' w' h2 h3 h4)

theorem wpList_append_none2 {P : Program} {ops : Array Oper} {rest : List Oper} {o : Oper} {a : Act} {w : World} {Q : Exit → Act → World → Prop} (hgd : o.guard = none) (s x : Operand) (t : TypeId)
    (ho : o.op = .call { callee := .builtin .append, args := #[s, x], argTypes := #[t, t] }) (v : Value) (hs : a.eval s = v) (hx : a.eval x = .slice none 0 0)
    (hr : ∀ ty, (Builtin.append_ #[t, t] ty #[v, .slice none 0 0]).run P w = .ok v w) (h : ∀ W, Hid (W = w) → wpList P ops Q rest (a.put o.dst v) W) : wpList P ops Q (o :: rest) a w :=
  wpList_append_none hgd s x t ho v hs hx hr (h w (Lib.hid rfl))
/-- a list of numbers as a value that is held in a row -/
def El (W : World) (x : Value) (l : List Int) : Prop := (l = [] ∧ x = .slice none 0 0) ∨ (l ≠ [] ∧ ∃ b c C, x = .slice (some ⟨b, 0, none⟩) l.length c ∧ W.heap[b]? = some (.cells C 3 (0, 0)) ∧ ∀ i, i < l.length → C[i]? = some (.int .i64 (l.getD i 0)))
theorem El.ints {W : World} {x : Value} {l : List Int} (h : El W x l) : ∃ q c, x = .slice q l.length c ∧ Ints W q l := by
  rcases h with ⟨rfl, rfl⟩ | ⟨_, b, c, C, rfl, hb, hc⟩
  · exact ⟨none, 0, rfl, .inl rfl⟩
  · exact ⟨_, c, rfl, .inr ⟨b, 0, rfl, (Array.getElem?_eq_some_iff.1 hb).1, fun i hi => by rw [Nat.zero_add]; exact blk_cells hb i _ (hc i hi)⟩⟩
theorem El.below {W W' : World} {x : Value} {l : List Int} (h : El W x l) (hb : Below W.heap.size W W') : El W' x l := by
  rcases h with h | ⟨hl, b, c, C, hx, hg, hc⟩
  · exact .inl h
  · exact .inr ⟨hl, b, c, C, hx, (hb.block b (Array.getElem?_eq_some_iff.1 hg).1).trans hg, hc⟩
theorem El.grown {W W' : World} {x : Value} {l : List Int} {base : Nat} {v : Value} {n : Nat} {xs : List Value} (h : El W x l) (hown : W.ownsRow base 34 1 v n xs) (hg : W.grownBy W' v.ownBlock) : El W' x l := by
  rcases h with h | ⟨hl, b, c, C, hx, hgb, hc⟩
  · exact .inl h
  · refine .inr ⟨hl, b, c, C, hx, (hg.block b (Array.getElem?_eq_some_iff.1 hgb).1 ?_).trans hgb, hc⟩
    rcases hown.2 with ⟨h3, _⟩ | ⟨g2, cap2, cur2, h3, hb2, hg2, _⟩
    · rw [h3]; show some b ≠ none; simp
    · rw [h3]; show some b ≠ some g2
      intro e; injection e with e; subst e
      rw [hgb] at hg2; injection hg2 with h; injection h with _ h; cases h
theorem El.of_own {W : World} {base : Nat} {v : Value} {l : List Int} (h : W.ownsRow base 3 1 v l.length (l.map (Value.int .i64))) (hl : l ≠ []) : El W v l := by
  rcases h.2 with ⟨h3, h4⟩ | ⟨g, cap, cur, rfl, hb, hg, h1, h2, h3, h4⟩
  · exact absurd (List.length_eq_zero_iff.1 h4) hl
  · refine .inr ⟨hl, g, cap, cur, rfl, hg, fun i hi => ?_⟩
    have : (cur.toList.take (l.length * 1))[i]? = (l.map (Value.int .i64))[i]? := by rw [h4]
    rw [List.getElem?_take, if_pos (by omega), Array.getElem?_toList] at this
    rw [this]; simp [hi]
def Els (W : World) (xs : List Value) (L : List (List Int)) : Prop := xs.length = L.length ∧ ∀ i, i < L.length → El W (xs.getD i undef) (L.getD i [])
theorem Els.below {W W' : World} {xs : List Value} {L : List (List Int)} (h : Els W xs L) (hb : Below W.heap.size W W') : Els W' xs L := ⟨h.1, fun i hi => (h.2 i hi).below hb⟩
theorem Els.grown {W W' : World} {xs : List Value} {L : List (List Int)} {base : Nat} {v : Value} {n : Nat} {ys : List Value} (h : Els W xs L) (hown : W.ownsRow base 34 1 v n ys) (hg : W.grownBy W' v.ownBlock) : Els W' xs L := ⟨h.1, fun i hi => (h.2 i hi).grown hown hg⟩
theorem Els.snoc {W : World} {xs : List Value} {L : List (List Int)} {x : Value} {l : List Int} (h : Els W xs L) (hx : El W x l) : Els W (xs ++ [x]) (L ++ [l]) := by
  refine ⟨by simp [h.1], fun i hi => ?_⟩
  by_cases hlt : i < L.length
  · have := h.2 i hlt
    have hlt2 : i < xs.length := by rw [h.1]; exact hlt
    simpa [List.getElem?_append_left hlt, List.getElem?_append_left hlt2] using this
  · have : i = L.length := by simp at hi; omega
    subst this
    have e : xs.length = L.length := h.1
    rw [show (L ++ [l]).getD L.length [] = l by simp, show (xs ++ [x]).getD L.length undef = x by rw [← e]; simp]
    exact hx
theorem Els.nil (W : World) : Els W [] [] := ⟨rfl, fun i hi => by simp at hi⟩
theorem els_nil1 (W : World) : Els W [.slice none 0 0] [[]] := (Els.nil W).snoc (.inl ⟨rfl, rfl⟩)
/-- lists, to be read -/
def LLPost (L : List (List Int)) (w : World) (e : Ending) (w' : World) : Prop := ∃ v xs, e = .returned v ∧ w'.ownsRow w.heap.size 34 1 v L.length xs ∧ Els w' xs L ∧ Below w.heap.size w w'
/-- readings whose first breath has less than k words -/
def cTo (n k : Nat) : List (List Int) := (List.range' 1 (k - 1)).flatMap fun j => (compF (n - j) (n - j)).map fun l => (j : Int) :: l
theorem cTo_one (n : Nat) : cTo n 1 = [] := rfl
theorem cTo_succ (n k : Nat) (hk : 1 ≤ k) : cTo n (k + 1) = cTo n k ++ (compF (n - k) (n - k)).map fun l => (k : Int) :: l := by
  unfold cTo
  rw [show k + 1 - 1 = (k - 1) + 1 by omega, List.range'_concat, List.flatMap_append]
  simp only [List.flatMap_cons, List.flatMap_nil, List.append_nil, Nat.one_mul]
  rw [show 1 + (k - 1) = k by omega]
theorem comp_cTo (n : Nat) (hn : 1 ≤ n) : compF n n = cTo n (n + 1) := by
  obtain ⟨m, rfl⟩ : ∃ m, n = m + 1 := ⟨n - 1, by omega⟩
  rw [compF, if_neg (by omega)]
  unfold cTo
  rw [show m + 1 + 1 - 1 = m + 1 by omega]
  have e : ∀ k ∈ List.range' 1 (m + 1), ((compF m (m + 1 - k)).map fun l => (k : Int) :: l) = ((compF (m + 1 - k) (m + 1 - k)).map fun l => (k : Int) :: l) := fun k hk => by
    rw [List.mem_range'_1] at hk
    rw [compF_eq m (m + 1 - k) (m + 1 - k) (by omega) (by omega)]
  rw [List.flatMap_def, List.flatMap_def, List.map_congr_left e]
theorem comp_len : ∀ (f n : Nat), (compF f n).length ≤ 2 ^ n
  | 0, n => by
    rw [compF]
    split
    · exact Nat.two_pow_pos n
    · simp
  | f + 1, n => by
    rw [compF]
    split
    · exact Nat.two_pow_pos n
    · rename_i h0
      have key : ∀ m, m ≤ n → ((List.range' 1 m).flatMap fun k => (compF f (n - k)).map fun l => (k : Int) :: l).length + 2 ^ (n - m) ≤ 2 ^ n := by
        intro m
        induction m with
        | zero => intro _; simp
        | succ m ih =>
          intro hm
          have ih := ih (by omega)
          rw [List.range'_concat, List.flatMap_append, List.length_append]
          simp only [List.flatMap_cons, List.flatMap_nil, List.append_nil, List.length_map, Nat.one_mul]
          have h1 := comp_len f (n - (1 + m))
          have h2 : 2 ^ (n - m) = 2 ^ (n - (m + 1)) + 2 ^ (n - (m + 1)) := by rw [show n - m = (n - (m + 1)) + 1 by omega, Nat.pow_succ]; omega
          rw [show n - (1 + m) = n - (m + 1) by omega] at h1 ⊢
          omega
      exact Nat.le_trans (Nat.le_add_right _ _) (key n (Nat.le_refl _))
theorem cTo_len (n k : Nat) (hn : n ≤ 12) (hk : k ≤ n + 1) : (cTo n k).length ≤ 100000 := by
  have : ∀ m, m ≤ 12 → (cTo n (m + 1)).length ≤ m * 4096 := by
    intro m
    induction m with
    | zero => intro _; simp [cTo]
    | succ m ih =>
      intro hm
      have := ih (by omega)
      rw [cTo_succ _ _ (by omega), List.length_append, List.length_map]
      have h1 := comp_len (n - (m + 1)) (n - (m + 1))
      have h2 : 2 ^ (n - (m + 1)) ≤ 2 ^ 12 := Nat.pow_le_pow_right (by omega) (by omega)
      omega
  rcases Nat.eq_zero_or_pos k with h0 | h0
  · subst h0; simp [cTo]
  · have := this (k - 1) (by omega)
    rw [show k - 1 + 1 = k by omega] at this
    omega
set_option maxHeartbeats 6000000 in
set_option maxRecDepth 100000 in
theorem readings_ref (n : Nat) : n ≤ 12 → ∀ w : World, Calls Tryz.prog 46 #[.int .i64 n] w (LLPost (compF n n) w) := by
  induction n using Nat.strongRecOn with
  | _ n ih =>
  intro hn w
  obtain ⟨i0, hi0, hz0, hz1, hz2⟩ := info_parts A_infoI
  rcases Nat.eq_zero_or_pos n with h0 | hpos
  · subst h0
    clear ih
    have hx := heap_last w (.cells #[.slice none 0 0] 34)
    have HB := Lib.hid (below1 w (.cells #[.slice none 0 0] 34))
    have hown : (w.alloc (.cells #[.slice none 0 0] 34)).ownsRow w.heap.size 34 1 (.slice (some ⟨w.heap.size, 0, none⟩) 1 1) 1 [.slice none 0 0] :=
      ⟨rfl, .inr ⟨w.heap.size, 1, _, rfl, Nat.le_refl _, hx, by omega, by unfold maxLen; omega, rfl, rfl⟩⟩
    have HO := Lib.hid hown
    clear hx hown
    go_enter Tryz.func46, Tryz.ntmps46
    go_wp2
    go_ret
    exact ⟨_, [.slice none 0 0], rfl, HO.out, els_nil1 _, HB.out⟩
  · have HIH := Lib.hid (fun k (hk : 1 ≤ k) (hkn : k ≤ n) W => ih (n - k) (by omega) (by omega) W)
    have HCE := Lib.hid (comp_cTo n hpos)
    have hn0 : ((n : Int) == 0) = false := by rw [beq_eq_false_iff_ne]; omega
    clear ih
    go_enter Tryz.func46, Tryz.ntmps46
    go_wp2_with fail
    go_loopw [3, 4, 5, 6] (fun v3 v4 _ _ wr => ∃ (k : Nat) (xs : List Value), v4 = .int .i64 k ∧ 1 ≤ k ∧ k ≤ n + 1 ∧ wr.ownsRow w.heap.size 34 1 v3 (cTo n k).length xs ∧ Els wr xs (cTo n k) ∧ Below w.heap.size w wr) (fun _ v4 _ _ _ => n + 1 - (intOf v4).toNat)
    case atStart => exact ⟨1, [], rfl, Nat.le_refl _, by omega, own_none _ _ _ _, Els.nil _, Below.refl _ _⟩
    case round =>
      obtain ⟨wo, rfl⟩ : ∃ wo : World, wo = wr := ⟨_, rfl⟩
      obtain ⟨k, xs, rfl, hk1, hk, hown, hels, hBr⟩ := hrel
      have HO := Lib.hid hown
      have HOW := Lib.hid hown
      have HE := Lib.hid hels
      have HBr := Lib.hid hBr
      clear hown hels hBr
      by_cases hle : k ≤ n
      · have hle' : (k : Int) ≤ n := by omega
        have hsub : ((n : Int) - (k : Int)) = ((n - k : Nat) : Int) := by omega
        have hcl := cTo_len n (k + 1) hn (by omega)
        have HCS := Lib.hid (cTo_succ n k hk1)
        have HCALL := Lib.hid (fun W => hsub ▸ HIH.out k hk1 hle W)
        clear hsub
        go_wp2_with fail
        refine (HCALL.out _).mono ?_
        rintro e w5 ⟨v5, xs5, rfl, ho5, he5, hB⟩
        have HR := Lib.hid he5
        obtain ⟨R, hR⟩ : ∃ R, R = compF (n - k) (n - k) := ⟨_, rfl⟩
        have HLENS : Hid (∀ i, i < R.length → (R.getD i []).length ≤ 1000000) := Lib.hid (fun i hi => by
          have hm : R.getD i [] ∈ compF (n - k) (n - k) := by rw [← hR]; simp [hi]
          have h1 := (compF_mem _ _ _ (Nat.le_refl _)).1 hm
          have h2 := isum_ge h1.1
          have h3 := h1.2
          omega)
        rw [← hR] at HCS HR ho5
        have HO5 := Lib.hid ho5
        have HO := Lib.hid (own_below HO.out hB)
        have HE := Lib.hid (HE.out.below hB)
        have hz5 := hB.size
        have hne : u3.ownBlock = none ∨ u3.ownBlock ≠ v5.ownBlock := by
          have hlo := HO.out
          rcases hov : u3.ownBlock with _ | g
          · exact .inl rfl
          · right
            rcases hov5 : v5.ownBlock with _ | g5
            · simp
            · have h2 := (ho5.lt g5 hov5).1
              have h1 : g < wo.heap.size := by
                have := HOW.out
                exact (this.lt g hov).2
              intro e; injection e; omega
        have HNE := Lib.hid hne
        have HBr := Lib.hid (join HBr.out hB)
        have hrl : (cTo n k).length + R.length ≤ 100000 := by rw [HCS.out, List.length_append, List.length_map] at hcl; exact hcl
        obtain ⟨p5, c5, rfl⟩ := own_val ho5
        clear hB hne he5 ho5 hR HCALL
        go_wp2_with fail
        go_loopw [3, 6] (fun v3 v6 wr => ∃ (i : Nat) (xs : List Value), v6 = .int .i64 i ∧ i ≤ R.length ∧ wr.ownsRow w.heap.size 34 1 v3 (cTo n k ++ (R.take i).map fun l => (k : Int) :: l).length xs ∧ Els wr xs (cTo n k ++ (R.take i).map fun l => (k : Int) :: l) ∧ wr.ownsRow wo.heap.size 34 1 (.slice p5 R.length c5) R.length xs5 ∧ Els wr xs5 R ∧ (v3.ownBlock = none ∨ v3.ownBlock ≠ (Value.slice p5 R.length c5).ownBlock) ∧ Below w.heap.size w wr ∧ wo.heap.size ≤ wr.heap.size) (fun _ v6 _ => R.length - (intOf v6).toNat)
        case atStart => exact ⟨0, xs, rfl, Nat.zero_le _, by simpa using HO.out, by simpa using HE.out, HO5.out, HR.out, HNE.out, HBr.out, hz5⟩
        case round =>
          clear HO HE HO5 HR HNE HBr
          obtain ⟨i, xs, rfl, hi, hown, hels, hown5, hels5, hne, hBr, hz6⟩ := hrel
          obtain ⟨wp, rfl⟩ : ∃ wp : World, wp = wr := ⟨_, rfl⟩
          have HO := Lib.hid hown
          have HE := Lib.hid hels
          have HO5 := Lib.hid hown5
          have HR := Lib.hid hels5
          have HNE := Lib.hid hne
          have HBr := Lib.hid hBr
          have hz7 := hBr.size
          by_cases hlt : i < R.length
          · have hlt' : (i : Int) < R.length := by omega
            have hel := hels5.2 i hlt
            have HSN : Hid (cTo n k ++ (R.take (i + 1)).map (fun l => (k : Int) :: l) = (cTo n k ++ (R.take i).map fun l => (k : Int) :: l) ++ [(k : Int) :: R.getD i []]) := Lib.hid (by
              rw [take_snocD [] hlt, List.map_append, List.append_assoc]; rfl)
            have hacl : (cTo n k ++ (R.take i).map fun l => (k : Int) :: l).length ≤ 100000 := by rw [List.length_append, List.length_map, List.length_take]; omega
            generalize cTo n k ++ (R.take i).map (fun l => (k : Int) :: l) = acc at hacl HO HE HSN
            rcases hown5.2 with ⟨_, h0⟩ | ⟨g5, cap5, cur5, hv5, hb5, hg5, _⟩
            · omega
            have hcell : wp.cell? ⟨g5, i, none⟩ = some (xs5.getD i undef) := by
              injection hv5 with hp5 _ _
              have h1 : i < xs5.length := by rw [hels5.1]; exact hlt
              have := hown5.cells (g := g5) (by rw [hp5]; rfl) i (xs5.getD i undef) (by simp [h1])
              have hadd : (⟨g5, 0, none⟩ : Addr).add i = ⟨g5, i, none⟩ := by unfold Addr.add; split <;> simp_all
              rwa [hadd] at this
            injection hv5 with hp5 _ hc5
            subst hp5
            subst hc5
            have hq5 : g5 < wp.heap.size := (Array.getElem?_eq_some_iff.1 hg5).1
            generalize xs5.getD i undef = x5 at hel hcell
            have HLEN : Hid ((R.getD i []).length ≤ 1000000) := Lib.hid (HLENS.out i hlt)
            generalize R.getD i [] = l at hel HSN HLEN
            have hlit : (wp.alloc (.cells #[.int .i64 (k : Int)] 3)).ownsRow wp.heap.size 3 1 (.slice (some ⟨wp.heap.size, 0, none⟩) 1 1) 1 [.int .i64 (k : Int)] :=
              ⟨rfl, .inr ⟨wp.heap.size, 1, _, rfl, Nat.le_refl _, heap_last _ _, by omega, by unfold maxLen; omega, rfl, rfl⟩⟩
            have HLIT := Lib.hid hlit
            have HB1 := Lib.hid (below1 wp (.cells #[.int .i64 (k : Int)] 3))
            clear hown hels hown5 hels5 hne hBr hg5 hlit
            rcases hel with ⟨rfl, rfl⟩ | ⟨hl, bl, cl, C, rfl, hbl, hC⟩
            · have HEL := Lib.hid (El.of_own (l := [(k : Int)]) HLIT.out (by simp))
              have happ := fun ty W => app_none (some ⟨wp.heap.size, 0, none⟩) 1 1 (Nat.le_refl _) ty W
              go_wp2_with (at_builtin; refine wpList_append_none2 rfl _ _ 34 rfl _ rfl rfl (fun ty => happ ty _) ?_)
              intro WV hWV
              have HBV := HB1
              rw [← hWV.out] at HBV HEL
              clear hWV happ
              have hb1 := (HBV.out.block g5 hq5)
              have HOx := Lib.hid (own_below HO.out HBV.out)
              have HEx := Lib.hid (HE.out.below HBV.out)
              have HO5x := Lib.hid (own_below HO5.out HBV.out)
              have HRx := Lib.hid (HR.out.below HBV.out)
              have hzv := HBV.out.size
              have HBrx := Lib.hid (join HBr.out HBV.out)
              clear hb1
              go_wp2_with (at_builtin; refine wpList_append_which rfl _ _ rfl w.heap.size _ _ _ rfl (HOx.out.alloc _) ⟨WV.heap.size, 0, none⟩ _ rfl (cell_one_new _ _ _ 0 _ rfl) rfl ?y1 ?y2 ?_)
              case y1 => simp; omega
              case y2 => omega
              intro v' w9 hown9 hgrow9 hwhich
              have HEL9 := Lib.hid ((HEL.out.below (below1 _ _)).grown (HOx.out.alloc _) hgrow9)
              have HE9 := Lib.hid ((HEx.out.below (below1 _ _)).grown (HOx.out.alloc _) hgrow9)
              have HO9 := Lib.hid hown9
              have HN9 : Hid (u3.ownBlock = none ∨ u3.ownBlock ≠ (Value.slice (some ⟨g5, 0, none⟩) R.length c5).ownBlock) := HNE
              have HO59 := Lib.hid ((HO5x.out.alloc (.cells #[.slice (some ⟨wp.heap.size, 0, none⟩) 1 1] 34)).kept hgrow9 (by
                rcases HNE.out with h | h
                · right; rw [h]; simp [Value.ownBlock]
                · right; exact fun e => h e.symm))
              have HR9 := Lib.hid ((HRx.out.below (below1 _ _)).grown (HOx.out.alloc _) hgrow9)
              have HNE9 : Hid (v'.ownBlock = none ∨ v'.ownBlock ≠ (Value.slice (some ⟨g5, 0, none⟩) R.length c5).ownBlock) := Lib.hid (by
                rcases hwhich with h | h
                · rw [h]; exact HNE.out
                · right; rw [h]; show some _ ≠ some g5; intro e; injection e with e; (try simp at e); omega)
              have HB9 := Lib.hid (below_grown (al2 HBrx.out (by omega) _) (HOx.out.alloc _) (Nat.le_refl _) (by simp; omega) hgrow9)
              have hz9 : wo.heap.size ≤ w9.heap.size := by have := hgrow9.size; rw [World.size_alloc] at this; omega
              clear hgrow9 hown9 hwhich
              go_wp2
              go_roundw
              case rel => exact ⟨i + 1, _, by go_num, by omega, by rw [HSN.out, List.length_append]; exact HO9.out, by rw [HSN.out]; exact HE9.out.snoc HEL9.out, HO59.out, HR9.out, HNE9.out, HB9.out, hz9⟩
              case measure => simp [intOf]; omega
            · have HCB := Lib.hid (El.ints (W := wp) (.inr ⟨hl, bl, cl, C, rfl, hbl, hC⟩))
              have hlb : bl < wp.heap.size := (Array.getElem?_eq_some_iff.1 hbl).1
              have hnews : ∀ j u, (l.map (Value.int .i64))[j]? = some u → (wp.alloc (.cells #[.int .i64 (k : Int)] 3)).cell? ((⟨bl, 0, none⟩ : Addr).add j) = some u := fun j u hj => by
                have hj1 : j < l.length := by have := (List.getElem?_eq_some_iff.1 hj).1; simpa using this
                have hadd : (⟨bl, 0, none⟩ : Addr).add j = ⟨bl, j, none⟩ := by unfold Addr.add; split <;> simp_all
                rw [hadd, HB1.out.cell (p := ⟨bl, j, none⟩) hlb, blk_cells hbl j _ (hC j hj1)]
                simp [hj1] at hj ⊢; exact hj
              have HNW := Lib.hid hnews
              have hll := HLEN.out
              clear hbl hC hnews HCB
              go_wp2_with (at_builtin; refine wpList_append_own _ rfl _ _ 34 rfl wp.heap.size 3 i0 (.int .i64 0) 1 8 A_undI hi0 hz0 hz1 hz2 rfl (by decide) _ _ _ rfl HLIT.out ⟨bl, 0, none⟩ l.length _ (l.map (Value.int .i64)) rfl (by rw [List.length_map, Nat.mul_one]) HNW.out ?g2 ?g3 ?g4 ?g5 ?_)
              case g2 => intro u hu; rfl
              case g3 => unfold maxLen; omega
              case g4 => omega
              try (case g5 => simp)
              intro vq WV hownq hgrowq _
              have HBV := Lib.hid (below_grown HB1.out HLIT.out (Nat.le_refl _) (by simp) hgrowq)
              have hownq2 : WV.ownsRow wp.heap.size 3 1 vq ((k : Int) :: l).length (((k : Int) :: l).map (Value.int .i64)) := by
                rw [List.length_cons, Nat.add_comm]; exact hownq
              have HEL := Lib.hid (El.of_own hownq2 (by simp))
              obtain ⟨pq, cq, rfl⟩ := own_val hownq
              clear hownq hgrowq hownq2 HNW hll
              have hb1 := (HBV.out.block g5 hq5)
              have HOx := Lib.hid (own_below HO.out HBV.out)
              have HEx := Lib.hid (HE.out.below HBV.out)
              have HO5x := Lib.hid (own_below HO5.out HBV.out)
              have HRx := Lib.hid (HR.out.below HBV.out)
              have hzv := HBV.out.size
              have HBrx := Lib.hid (join HBr.out HBV.out)
              clear hb1
              go_wp2_with (at_builtin; refine wpList_append_which rfl _ _ rfl w.heap.size _ _ _ rfl (HOx.out.alloc _) ⟨WV.heap.size, 0, none⟩ _ rfl (cell_one_new _ _ _ 0 _ rfl) rfl ?z1 ?z2 ?_)
              case z1 => simp; omega
              case z2 => omega
              intro v' w9 hown9 hgrow9 hwhich
              have HEL9 := Lib.hid ((HEL.out.below (below1 _ _)).grown (HOx.out.alloc _) hgrow9)
              have HE9 := Lib.hid ((HEx.out.below (below1 _ _)).grown (HOx.out.alloc _) hgrow9)
              have HO9 := Lib.hid hown9
              have HN9 : Hid (u3.ownBlock = none ∨ u3.ownBlock ≠ (Value.slice (some ⟨g5, 0, none⟩) R.length c5).ownBlock) := HNE
              have HO59 := Lib.hid ((HO5x.out.alloc (.cells #[.slice pq (1 + l.length) cq] 34)).kept hgrow9 (by
                rcases HNE.out with h | h
                · right; rw [h]; simp [Value.ownBlock]
                · right; exact fun e => h e.symm))
              have HR9 := Lib.hid ((HRx.out.below (below1 _ _)).grown (HOx.out.alloc _) hgrow9)
              have HNE9 : Hid (v'.ownBlock = none ∨ v'.ownBlock ≠ (Value.slice (some ⟨g5, 0, none⟩) R.length c5).ownBlock) := Lib.hid (by
                rcases hwhich with h | h
                · rw [h]; exact HNE.out
                · right; rw [h]; show some _ ≠ some g5; intro e; injection e with e; (try simp at e); omega)
              have HB9 := Lib.hid (below_grown (al2 HBrx.out (by omega) _) (HOx.out.alloc _) (Nat.le_refl _) (by simp; omega) hgrow9)
              have hz9 : wo.heap.size ≤ w9.heap.size := by have := hgrow9.size; rw [World.size_alloc] at this; omega
              clear hgrow9 hown9 hwhich
              go_wp2
              go_roundw
              case rel => exact ⟨i + 1, _, by go_num, by omega, by rw [HSN.out, List.length_append]; exact HO9.out, by rw [HSN.out]; exact HE9.out.snoc HEL9.out, HO59.out, HR9.out, HNE9.out, HB9.out, hz9⟩
              case measure => simp [intOf]; omega
          · obtain rfl : i = R.length := by omega
            rw [List.take_length, ← HCS.out] at HO HE
            go_wp2
            go_roundw
            case rel => exact ⟨k + 1, xs, by go_num, by omega, by omega, HO.out, HE.out, HBr.out⟩
            case measure => simp [intOf]; omega
      · obtain rfl : k = n + 1 := by omega
        rw [← HCE.out] at HO HE
        go_wp2
        go_ret
        exact ⟨_, _, rfl, HO.out, HE.out, HBr.out⟩
end Go.Proofs.YtadnggecnjdhiaaGreat
set_option linter.unusedSimpArgs false
set_option linter.unusedVariables false
namespace Go.Proofs.YtadnggecnjdhiaaGreat
open Go.RowKit Tx
attribute [local go_sem] Oper.semAt_some

def okR (t : Text) (l : List Int) : Bool := decide ((wrongR t l).2.2 = 6)
def rightsR (t : Text) : List (List Int) := (compF t.words.length t.words.length).filter (okR t)
theorem kind_right (t : Text) (a b : Nat) : kindOf t a b = none ↔ t.right a b = true := by
  unfold kindOf Text.right
  have e0 : t.isK 0 a b = t.isLong a b := rfl
  have e1 : t.isK 1 a b = t.isCut a b := rfl
  have e2 : t.isK 2 a b = t.isOther a b := rfl
  rw [e0, e1, e2]
  cases t.isLong a b <;> cases t.isCut a b <;> cases t.isOther a b <;> simp
theorem wrongGo_ok (t : Text) : ∀ (l : List Int) (i a : Nat), (wrongGo t i a l).2.2 = 6 ↔ okFrom t.right a l = true
  | [], i, a => by simp [wrongGo, okFrom]
  | x :: l, i, a => by
    rw [wrongGo, okFrom, Bool.and_eq_true]
    cases hk : kindOf t a (a + x.toNat) with
    | none =>
      dsimp only
      rw [wrongGo_ok t l, ← kind_right]
      exact ⟨fun h => ⟨hk, h⟩, fun h => h.2⟩
    | some q =>
      dsimp only
      constructor
      · intro h; omega
      · rintro ⟨h, _⟩; rw [← kind_right, hk] at h; cases h
theorem read_parts {t : Text} (ok : Text.Ok t) (he : t.err = 0) {l : List Int} (h : Parts t.words.length l) : readErr t l = 0 := by
  unfold readErr
  rw [if_neg (by simp [he]), if_neg, if_neg (by simp [h.2])]
  intro ha
  obtain ⟨x, hx, hb⟩ := List.any_eq_true.1 ha
  have h1 := h.1 x hx
  have h2 : x ≤ isum l := by
    obtain ⟨s, r, rfl⟩ := List.append_of_mem hx
    rw [isum_append, isum_cons]
    have := isum_ge (l := s) (fun y hy => h.1 y (by simp [hy]))
    have := isum_ge (l := r) (fun y hy => h.1 y (by simp [hy]))
    omega
  have h3 := h.2
  have := ok.n12
  simp [btw] at hb
  omega
theorem okR_ok {t : Text} (ok : Text.Ok t) (he : t.err = 0) {l : List Int} (h : Parts t.words.length l) : okR t l = okFrom t.right 0 l := by
  rw [Bool.eq_iff_iff]
  unfold okR wrongR
  rw [if_pos (read_parts ok he h), decide_eq_true_eq]
  exact wrongGo_ok t l 0 0
theorem rightsR_eq {t : Text} (ok : Text.Ok t) (he : t.err = 0) : rightsR t = rights t.right t.words.length := by
  unfold rightsR rights
  refine List.filter_congr fun l hl => okR_ok ok he ((compF_mem _ _ _ (Nat.le_refl _)).1 hl)
def spRi (t : Text) (pw pt : Option Addr) (cw ct g m c j : Nat) (x : Value) (wa wb wc : Int) : Nat → List Value → Value → World → Prop
  | 0, _, v, _ => v = .agg #[.slice pw t.words.length cw, .slice pt t.turns.length ct, .int .i64 t.breath]
  | 1, _, v, _ => v = .slice (some ⟨g, 0, none⟩) m c
  | 2, _, v, _ => v = .int .i64 (j : Int)
  | 3, _, v, _ => v = .pointer (some ⟨g, j, none⟩)
  | 4, _, v, _ => v = x
  | 5, _, v, _ => v = .tuple #[.int .i64 wa, .int .i64 wb, .int .i64 wc]
  | 6, _, v, _ => v = .tuple #[.int .i64 wa, .int .i64 wb, .int .i64 wc]
  | 7, _, v, _ => v = .int .i64 wa
  | 8, _, v, _ => v = .int .i64 wb
  | 9, _, v, _ => v = .int .i64 wc
  | 10, _, v, _ => v = .int .i64 wa
  | 11, _, v, _ => v = .int .i64 wb
  | 12, _, v, _ => v = .int .i64 wc
  | _, _, _, _ => False
theorem spRi_stable (t : Text) (pw pt : Option Addr) (cw ct g m c j : Nat) (x : Value) (wa wb wc : Int) : ∀ i L v w w', spRi t pw pt cw ct g m c j x wa wb wc i L v w → Rs.Gr w w' → spRi t pw pt cw ct g m c j x wa wb wc i L v w' := by
  intro i L v w w' h hg
  match i with
  | 0 => exact h
  | 1 => exact h
  | 2 => exact h
  | 3 => exact h
  | 4 => exact h
  | 5 => exact h
  | 6 => exact h
  | 7 => exact h
  | 8 => exact h
  | 9 => exact h
  | 10 => exact h
  | 11 => exact h
  | 12 => exact h

set_option maxHeartbeats 6000000 in
set_option maxRecDepth 100000 in
theorem Right_any (t : Text) (hl1 : t.words.length ≤ 12) (hl2 : t.turns.length ≤ 1000000) (pw pt : Option Addr) (cw ct : Nat) (w : World) (hW : TxAt w t pw pt) :
    Calls Tryz.prog 12 #[.agg #[.slice pw t.words.length cw, .slice pt t.turns.length ct, .int .i64 t.breath]] w (LLPost (rightsR t) w) := by
  have HWR0 := Lib.hid (fun (l : List Int) (hll : l.length ≤ 1000000) q d W (h : Below w.heap.size w W) (hL : Ints W q l) => rWrong_any t l (by omega) hl2 hll pw pt q cw ct d W (hW.below h) hL)
  have HB := Lib.hid (below1 w (.cells #[.slice pw t.words.length cw, .slice pt t.turns.length ct, .int .i64 t.breath] 32))
  have HX := Lib.hid (heap_last w (.cells #[.slice pw t.words.length cw, .slice pt t.turns.length ct, .int .i64 t.breath] 32))
  obtain ⟨k0, k1, k2⟩ := blk3 HX.out
  have HRD := Lib.hid (fun W => readings_ref t.words.length hl1 W)
  have hcl := Nat.le_trans (comp_len t.words.length t.words.length) (Nat.pow_le_pow_right (show 0 < 2 by omega) hl1)
  have HLENS : Hid (∀ i, i < (compF t.words.length t.words.length).length → ((compF t.words.length t.words.length).getD i []).length ≤ 1000000) := Lib.hid (fun i hi => by
    have hm : (compF t.words.length t.words.length).getD i [] ∈ compF t.words.length t.words.length := by simp [hi]
    have h1 := (compF_mem _ _ _ (Nat.le_refl _)).1 hm
    have h2 := isum_ge h1.1
    have h3 := h1.2
    omega)
  have HRR : Hid (rightsR t = (compF t.words.length t.words.length).filter (okR t)) := Lib.hid rfl
  generalize compF t.words.length t.words.length = R at HRD hcl HLENS HRR
  clear hW
  go_enter Tryz.func12, Tryz.ntmps12
  go_wp2_with fail
  refine (HRD.out _).mono ?_
  rintro e w5 ⟨v5, xs5, rfl, ho5, he5, hB⟩
  have HX := Lib.hid ((hB.block w.heap.size (Array.getElem?_eq_some_iff.1 HX.out).1).trans HX.out)
  have HO5 := Lib.hid (own_base ho5 (base' := w.heap.size) (by have := HB.out.size; omega))
  have HB := Lib.hid (join HB.out hB)
  have HR := Lib.hid he5
  obtain ⟨p5, c5, rfl⟩ := own_val ho5
  have hz5 : w.heap.size < w5.heap.size := (Array.getElem?_eq_some_iff.1 HX.out).1
  clear hB he5 ho5 k0 k1 k2
  go_wp2_with fail
  go_loopw [3, 5, 6, 7, 8] (fun v3 v5 _ _ _ wr => ∃ (i : Nat) (xs : List Value), v5 = .int .i64 i ∧ i ≤ R.length ∧ wr.ownsRow (w.heap.size + 1) 34 1 v3 ((R.take i).filter (okR t)).length xs ∧ Els wr xs ((R.take i).filter (okR t)) ∧ wr.ownsRow w.heap.size 34 1 (.slice p5 R.length c5) R.length xs5 ∧ Els wr xs5 R ∧ (v3.ownBlock = none ∨ v3.ownBlock ≠ (Value.slice p5 R.length c5).ownBlock) ∧ Below w.heap.size w wr ∧ wr.heap[w.heap.size]? = some (.cells #[.slice pw t.words.length cw, .slice pt t.turns.length ct, .int .i64 t.breath] 32 (0, 0))) (fun _ v5 _ _ _ _ => R.length - (intOf v5).toNat)
  case atStart => exact ⟨0, [], rfl, Nat.zero_le _, own_none _ _ _ _, Els.nil _, HO5.out, HR.out, .inl rfl, HB.out, HX.out⟩
  case round =>
    clear HO5 HR HB HX
    obtain ⟨wp, rfl⟩ : ∃ wp : World, wp = wr := ⟨_, rfl⟩
    obtain ⟨i, xs, rfl, hi, hown, hels, hown5, hels5, hne, hBr, hx⟩ := hrel
    have HO := Lib.hid hown
    have HE := Lib.hid hels
    have HO5 := Lib.hid hown5
    have HR := Lib.hid hels5
    have HNE := Lib.hid hne
    have HBr := Lib.hid hBr
    have HXr := Lib.hid hx
    have hz7 := hBr.size
    have HZ0 : w.heap.size < wp.heap.size := (Array.getElem?_eq_some_iff.1 hx).1
    by_cases hlt : i < R.length
    · have hlt' : (i : Int) < R.length := by omega
      have hlt2 : (i : Int) < R.length := by omega
      have hel := hels5.2 i hlt
      have hll := HLENS.out i hlt
      have hacl : ((R.take i).filter (okR t)).length ≤ 100000 := by
        have h1 := List.length_filter_le (okR t) (R.take i)
        rw [List.length_take] at h1
        omega
      have HSN : Hid ((R.take (i + 1)).filter (okR t) = (R.take i).filter (okR t) ++ (if okR t (R.getD i []) then [R.getD i []] else [])) := Lib.hid (by
        rw [take_snocD [] hlt, List.filter_append]; congr 1; simp only [List.filter_cons, List.filter_nil])
      generalize (R.take i).filter (okR t) = acc at hacl HO HE HSN
      rcases hown5.2 with ⟨_, h0⟩ | ⟨g5, cap5, cur5, hv5, hb5, hg5, _⟩
      · omega
      have hcell : wp.cell? ⟨g5, i, none⟩ = some (xs5.getD i undef) := by
        injection hv5 with hp5 _ _
        have h1 : i < xs5.length := by rw [hels5.1]; exact hlt
        have := hown5.cells (g := g5) (by rw [hp5]; rfl) i (xs5.getD i undef) (by simp [h1])
        have hadd : (⟨g5, 0, none⟩ : Addr).add i = ⟨g5, i, none⟩ := by unfold Addr.add; split <;> simp_all
        rwa [hadd] at this
      injection hv5 with hp5 _ hc5
      subst hp5
      subst hc5
      have hq5 : g5 < wp.heap.size := (Array.getElem?_eq_some_iff.1 hg5).1
      have HEL := Lib.hid hel
      obtain ⟨q, d, hx5, hQI⟩ := hel.ints
      rw [hx5] at HEL hcell
      generalize R.getD i [] = l at hQI HSN hll HEL hcell
      have HQI := Lib.hid hQI
      have HCELL := Lib.hid hcell
      have HWR := Lib.hid (fun W h hL => HWR0.out l hll q d W h hL)
      have HOKR : Hid (okR t l = decide ((wrongR t l).2.2 = 6)) := Lib.hid rfl
      generalize wrongR t l = wr3 at HWR HOKR
      obtain ⟨wa, wb, wc⟩ := wr3
      dsimp only at HWR HOKR
      clear hown hels hown5 hels5 hne hBr hx hel hx5 hQI hg5 hcell
      go_wp2_with fail
      refine Rs.region_gen 13 [[], [], [], [1, 2], [1, 2, 3], [0, 1, 2, 3, 4], [0, 1, 2, 3, 4, 5], [0, 1, 2, 3, 4, 5, 6], [0, 1, 2, 3, 4, 5, 6], [0, 1, 2, 3, 4, 5, 6], [0, 1, 2, 3, 4, 5, 6, 7], [0, 1, 2, 3, 4, 5, 6, 7, 8, 10], [0, 1, 2, 3, 4, 5, 6, 7, 8, 9, 10, 11]] [some 20, some 21, some 22, some 23, some 24, some 25, some 19, some 26, some 27, some 28, some 6, some 7, some 8] (spRi t pw pt cw ct g5 R.length c5 i (.slice q l.length d) wa wb wc) (by kernel_rfl) (by kernel_rfl) rfl (spRi_stable _ _ _ _ _ _ _ _ _ _ _ _ _) ?_ ?_
      · refine ⟨fun V w' hG hs => ?_, fun V w' hG hs => ?_, fun V w' hG hs => ?_, fun V w' hG hs => ?_, fun V w' hG hs => ?_, fun V w' hG hs => ?_, fun V w' hG hs => ?_, fun V w' hG hs => ?_, fun V w' hG hs => ?_, fun V w' hG hs => ?_, fun V w' hG hs => ?_, fun V w' hG hs => ?_, fun V w' hG hs => ?_, trivial⟩
        all_goals
          obtain ⟨k0, k1, k2⟩ := blk3 ((hG.block w.heap.size HZ0).trans HXr.out)
          have hcell := (hG.cell (p := ⟨g5, i, none⟩) hq5).trans HCELL.out
        · rw [if_pos (by rfl)]
          exact Rs.GrowL.value (v := .agg #[.slice pw t.words.length cw, .slice pt t.turns.length ct, .int .i64 t.breath]) (w' := w') (by simp [go_sem, Rs.look, k0, k1, k2]) (Rs.Gr.refl _) rfl
        · rw [if_pos (by rfl)]
          exact Rs.GrowL.value (v := .slice (some ⟨g5, 0, none⟩) R.length c5) (w' := w') (by simp [go_sem, Rs.look]) (Rs.Gr.refl _) rfl
        · rw [if_pos (by rfl)]
          exact Rs.GrowL.value (v := .int .i64 (i : Int)) (w' := w') (by simp [go_sem, Rs.look]) (Rs.Gr.refl _) rfl
        · have e1 : V 1 = .slice (some ⟨g5, 0, none⟩) R.length c5 := hs 1 (by simp)
          have e2 : V 2 = .int .i64 (i : Int) := hs 2 (by simp)
          rw [if_pos (by rfl)]
          exact Rs.GrowL.value (v := .pointer (some ⟨g5, i, none⟩)) (w' := w') (by simp [go_sem, Rs.look, e1, e2, hlt2]) (Rs.Gr.refl _) rfl
        · have e1 : V 1 = .slice (some ⟨g5, 0, none⟩) R.length c5 := hs 1 (by simp)
          have e2 : V 2 = .int .i64 (i : Int) := hs 2 (by simp)
          have e3 : V 3 = .pointer (some ⟨g5, i, none⟩) := hs 3 (by simp)
          rw [if_pos (by rfl)]
          exact Rs.GrowL.value (v := (.slice q l.length d)) (w' := w') (by simp [go_sem, Rs.look, e1, e2, e3, hcell]) (Rs.Gr.refl _) rfl
        · have e0 : V 0 = .agg #[.slice pw t.words.length cw, .slice pt t.turns.length ct, .int .i64 t.breath] := hs 0 (by simp)
          have e1 : V 1 = .slice (some ⟨g5, 0, none⟩) R.length c5 := hs 1 (by simp)
          have e2 : V 2 = .int .i64 (i : Int) := hs 2 (by simp)
          have e3 : V 3 = .pointer (some ⟨g5, i, none⟩) := hs 3 (by simp)
          have e4 : V 4 = (.slice q l.length d) := hs 4 (by simp)
          rw [if_pos (by rfl)]
          refine Rs.GrowL.call (f := 16) (args := #[.agg #[.slice pw t.words.length cw, .slice pt t.turns.length ct, .int .i64 t.breath], .slice q l.length d]) (by simp [go_sem, Rs.look, e0, e4]) ?_
          refine (HWR.out w' (join HBr.out hG) (HQI.out.below hG)).mono ?_
          rintro e w2 ⟨rfl, hB2⟩
          exact ⟨_, rfl, hB2, rfl⟩
        · have e0 : V 0 = .agg #[.slice pw t.words.length cw, .slice pt t.turns.length ct, .int .i64 t.breath] := hs 0 (by simp)
          have e1 : V 1 = .slice (some ⟨g5, 0, none⟩) R.length c5 := hs 1 (by simp)
          have e2 : V 2 = .int .i64 (i : Int) := hs 2 (by simp)
          have e3 : V 3 = .pointer (some ⟨g5, i, none⟩) := hs 3 (by simp)
          have e4 : V 4 = (.slice q l.length d) := hs 4 (by simp)
          have e5 : V 5 = .tuple #[.int .i64 wa, .int .i64 wb, .int .i64 wc] := hs 5 (by simp)
          rw [if_pos (by rfl)]
          exact Rs.GrowL.value (v := .tuple #[.int .i64 wa, .int .i64 wb, .int .i64 wc]) (w' := w') (by simp [go_sem, Rs.look, e0, e1, e2, e3, e4, e5]) (Rs.Gr.refl _) rfl
        · have e0 : V 0 = .agg #[.slice pw t.words.length cw, .slice pt t.turns.length ct, .int .i64 t.breath] := hs 0 (by simp)
          have e1 : V 1 = .slice (some ⟨g5, 0, none⟩) R.length c5 := hs 1 (by simp)
          have e2 : V 2 = .int .i64 (i : Int) := hs 2 (by simp)
          have e3 : V 3 = .pointer (some ⟨g5, i, none⟩) := hs 3 (by simp)
          have e4 : V 4 = (.slice q l.length d) := hs 4 (by simp)
          have e5 : V 5 = .tuple #[.int .i64 wa, .int .i64 wb, .int .i64 wc] := hs 5 (by simp)
          have e6 : V 6 = .tuple #[.int .i64 wa, .int .i64 wb, .int .i64 wc] := hs 6 (by simp)
          rw [if_pos (by rfl)]
          exact Rs.GrowL.value (v := .int .i64 wa) (w' := w') (by simp [go_sem, Rs.look, e0, e1, e2, e3, e4, e5, e6]) (Rs.Gr.refl _) rfl
        · have e0 : V 0 = .agg #[.slice pw t.words.length cw, .slice pt t.turns.length ct, .int .i64 t.breath] := hs 0 (by simp)
          have e1 : V 1 = .slice (some ⟨g5, 0, none⟩) R.length c5 := hs 1 (by simp)
          have e2 : V 2 = .int .i64 (i : Int) := hs 2 (by simp)
          have e3 : V 3 = .pointer (some ⟨g5, i, none⟩) := hs 3 (by simp)
          have e4 : V 4 = (.slice q l.length d) := hs 4 (by simp)
          have e5 : V 5 = .tuple #[.int .i64 wa, .int .i64 wb, .int .i64 wc] := hs 5 (by simp)
          have e6 : V 6 = .tuple #[.int .i64 wa, .int .i64 wb, .int .i64 wc] := hs 6 (by simp)
          rw [if_pos (by rfl)]
          exact Rs.GrowL.value (v := .int .i64 wb) (w' := w') (by simp [go_sem, Rs.look, e0, e1, e2, e3, e4, e5, e6]) (Rs.Gr.refl _) rfl
        · have e0 : V 0 = .agg #[.slice pw t.words.length cw, .slice pt t.turns.length ct, .int .i64 t.breath] := hs 0 (by simp)
          have e1 : V 1 = .slice (some ⟨g5, 0, none⟩) R.length c5 := hs 1 (by simp)
          have e2 : V 2 = .int .i64 (i : Int) := hs 2 (by simp)
          have e3 : V 3 = .pointer (some ⟨g5, i, none⟩) := hs 3 (by simp)
          have e4 : V 4 = (.slice q l.length d) := hs 4 (by simp)
          have e5 : V 5 = .tuple #[.int .i64 wa, .int .i64 wb, .int .i64 wc] := hs 5 (by simp)
          have e6 : V 6 = .tuple #[.int .i64 wa, .int .i64 wb, .int .i64 wc] := hs 6 (by simp)
          rw [if_pos (by rfl)]
          exact Rs.GrowL.value (v := .int .i64 wc) (w' := w') (by simp [go_sem, Rs.look, e0, e1, e2, e3, e4, e5, e6]) (Rs.Gr.refl _) rfl
        · have e0 : V 0 = .agg #[.slice pw t.words.length cw, .slice pt t.turns.length ct, .int .i64 t.breath] := hs 0 (by simp)
          have e1 : V 1 = .slice (some ⟨g5, 0, none⟩) R.length c5 := hs 1 (by simp)
          have e2 : V 2 = .int .i64 (i : Int) := hs 2 (by simp)
          have e3 : V 3 = .pointer (some ⟨g5, i, none⟩) := hs 3 (by simp)
          have e4 : V 4 = (.slice q l.length d) := hs 4 (by simp)
          have e5 : V 5 = .tuple #[.int .i64 wa, .int .i64 wb, .int .i64 wc] := hs 5 (by simp)
          have e6 : V 6 = .tuple #[.int .i64 wa, .int .i64 wb, .int .i64 wc] := hs 6 (by simp)
          have e7 : V 7 = .int .i64 wa := hs 7 (by simp)
          rw [if_pos (by rfl)]
          exact Rs.GrowL.value (v := .int .i64 wa) (w' := w') (by simp [go_sem, Rs.look, e0, e1, e2, e3, e4, e5, e6, e7]) (Rs.Gr.refl _) rfl
        · have e0 : V 0 = .agg #[.slice pw t.words.length cw, .slice pt t.turns.length ct, .int .i64 t.breath] := hs 0 (by simp)
          have e1 : V 1 = .slice (some ⟨g5, 0, none⟩) R.length c5 := hs 1 (by simp)
          have e2 : V 2 = .int .i64 (i : Int) := hs 2 (by simp)
          have e3 : V 3 = .pointer (some ⟨g5, i, none⟩) := hs 3 (by simp)
          have e4 : V 4 = (.slice q l.length d) := hs 4 (by simp)
          have e5 : V 5 = .tuple #[.int .i64 wa, .int .i64 wb, .int .i64 wc] := hs 5 (by simp)
          have e6 : V 6 = .tuple #[.int .i64 wa, .int .i64 wb, .int .i64 wc] := hs 6 (by simp)
          have e7 : V 7 = .int .i64 wa := hs 7 (by simp)
          have e8 : V 8 = .int .i64 wb := hs 8 (by simp)
          have e10 : V 10 = .int .i64 wa := hs 10 (by simp)
          rw [if_pos (by rfl)]
          exact Rs.GrowL.value (v := .int .i64 wb) (w' := w') (by simp [go_sem, Rs.look, e0, e1, e2, e3, e4, e5, e6, e7, e8, e10]) (Rs.Gr.refl _) rfl
        · have e0 : V 0 = .agg #[.slice pw t.words.length cw, .slice pt t.turns.length ct, .int .i64 t.breath] := hs 0 (by simp)
          have e1 : V 1 = .slice (some ⟨g5, 0, none⟩) R.length c5 := hs 1 (by simp)
          have e2 : V 2 = .int .i64 (i : Int) := hs 2 (by simp)
          have e3 : V 3 = .pointer (some ⟨g5, i, none⟩) := hs 3 (by simp)
          have e4 : V 4 = (.slice q l.length d) := hs 4 (by simp)
          have e5 : V 5 = .tuple #[.int .i64 wa, .int .i64 wb, .int .i64 wc] := hs 5 (by simp)
          have e6 : V 6 = .tuple #[.int .i64 wa, .int .i64 wb, .int .i64 wc] := hs 6 (by simp)
          have e7 : V 7 = .int .i64 wa := hs 7 (by simp)
          have e8 : V 8 = .int .i64 wb := hs 8 (by simp)
          have e9 : V 9 = .int .i64 wc := hs 9 (by simp)
          have e10 : V 10 = .int .i64 wa := hs 10 (by simp)
          have e11 : V 11 = .int .i64 wb := hs 11 (by simp)
          rw [if_pos (by rfl)]
          exact Rs.GrowL.value (v := .int .i64 wc) (w' := w') (by simp [go_sem, Rs.look, e0, e1, e2, e3, e4, e5, e6, e7, e8, e9, e10, e11]) (Rs.Gr.refl _) rfl
      · intro V w' hG hs
        have e0 : V 0 = .agg #[.slice pw t.words.length cw, .slice pt t.turns.length ct, .int .i64 t.breath] := hs 0 (by omega)
        have e1 : V 1 = .slice (some ⟨g5, 0, none⟩) R.length c5 := hs 1 (by omega)
        have e2 : V 2 = .int .i64 (i : Int) := hs 2 (by omega)
        have e3 : V 3 = .pointer (some ⟨g5, i, none⟩) := hs 3 (by omega)
        have e4 : V 4 = (.slice q l.length d) := hs 4 (by omega)
        have e5 : V 5 = .tuple #[.int .i64 wa, .int .i64 wb, .int .i64 wc] := hs 5 (by omega)
        have e6 : V 6 = .tuple #[.int .i64 wa, .int .i64 wb, .int .i64 wc] := hs 6 (by omega)
        have e7 : V 7 = .int .i64 wa := hs 7 (by omega)
        have e8 : V 8 = .int .i64 wb := hs 8 (by omega)
        have e9 : V 9 = .int .i64 wc := hs 9 (by omega)
        have e10 : V 10 = .int .i64 wa := hs 10 (by omega)
        have e11 : V 11 = .int .i64 wb := hs 11 (by omega)
        have e12 : V 12 = .int .i64 wc := hs 12 (by omega)
        simp only [Rs.canon, Rs.dstOf, List.range_succ, List.range_zero, List.nil_append, List.cons_append, List.foldl_cons, List.foldl_nil, List.drop_succ_cons, List.drop_zero, List.drop_nil, List.getElem?_toArray, List.getElem?_cons_succ, List.getElem?_cons_zero, Option.bind_some, Act.put, List.getD_cons_succ, List.getD_cons_zero, List.setIfInBounds_toArray, List.set_cons_succ, List.set_cons_zero]
        rw [e0, e1, e2, e3, e4, e5, e6, e7, e8, e9, e10, e11, e12]
        clear e0 e1 e2 e3 e4 e5 e6 e7 e8 e9 e10 e11 e12 hs
        have HO := Lib.hid (own_below HO.out hG)
        have HE := Lib.hid (HE.out.below hG)
        have HO5 := Lib.hid (own_below HO5.out hG)
        have HR := Lib.hid (HR.out.below hG)
        have HEL := Lib.hid (HEL.out.below hG)
        have HXr := Lib.hid ((hG.block w.heap.size HZ0).trans HXr.out)
        have hzg := hG.size
        have hcell := (hG.cell (p := ⟨g5, i, none⟩) hq5).trans HCELL.out
        have HBr := Lib.hid (join HBr.out hG)
        clear hG
        by_cases h6 : wc = 6
        · subst h6
          rw [HOKR.out, decide_eq_true rfl, if_pos rfl] at HSN
          go_wp2_with (at_builtin; refine wpList_append_which rfl _ _ rfl (w.heap.size + 1) _ _ _ rfl (HO.out.alloc _) ⟨w'.heap.size, 0, none⟩ _ rfl (cell_one_new _ _ _ 0 _ rfl) rfl ?y1 ?y2 ?_)
          case y1 => first | omega | (simp; omega)
          case y2 => omega
          intro v' w9 hown9 hgrow9 hwhich
          have HEL9 := Lib.hid ((HEL.out.below (below1 _ _)).grown (HO.out.alloc _) hgrow9)
          have HE9 := Lib.hid ((HE.out.below (below1 _ _)).grown (HO.out.alloc _) hgrow9)
          have HO9 := Lib.hid hown9
          have HX9 := Lib.hid (blk_grown ((below1 w' _).block w.heap.size (by omega) |>.trans HXr.out) (HO.out.alloc _) hgrow9 (by omega))
          have HO59 := Lib.hid ((HO5.out.alloc (.cells #[.slice q l.length d] 34)).kept hgrow9 (by
            rcases HNE.out with h | h
            · right; rw [h]; simp [Value.ownBlock]
            · right; exact fun e => h e.symm))
          have HR9 := Lib.hid ((HR.out.below (below1 _ _)).grown (HO.out.alloc _) hgrow9)
          have HNE9 : Hid (v'.ownBlock = none ∨ v'.ownBlock ≠ (Value.slice (some ⟨g5, 0, none⟩) R.length c5).ownBlock) := Lib.hid (by
            rcases hwhich with h | h
            · rw [h]; exact HNE.out
            · right; rw [h]; show some _ ≠ some g5; intro e; injection e with e; (try simp at e); omega)
          have HB9 := Lib.hid (below_grown (al2 HBr.out (by omega) _) (HO.out.alloc _) (by omega) (by simp; omega) hgrow9)
          clear hgrow9 hown9 hwhich
          go_wp2
          go_roundw
          case rel => exact ⟨i + 1, _, by go_num, by omega, by rw [HSN.out, List.length_append]; exact HO9.out, by rw [HSN.out]; exact HE9.out.snoc HEL9.out, HO59.out, HR9.out, HNE9.out, HB9.out, HX9.out⟩
          case measure => simp [intOf]; omega
        · have h6' : (wc == 6) = false := by simpa using h6
          rw [HOKR.out, decide_eq_false h6, if_neg (by decide), List.append_nil] at HSN
          clear h6
          go_wp2
          go_roundw
          case rel => exact ⟨i + 1, xs, by go_num, by omega, by rw [HSN.out]; exact HO.out, by rw [HSN.out]; exact HE.out, HO5.out, HR.out, HNE.out, HBr.out, HXr.out⟩
          case measure => simp [intOf]; omega
    · obtain rfl : i = R.length := by omega
      rw [List.take_length, ← HRR.out] at HO HE
      go_wp2
      go_ret
      exact ⟨_, xs, rfl, own_base HO.out (by omega), HE.out, HBr.out⟩
end Go.Proofs.YtadnggecnjdhiaaGreat
set_option linter.unusedSimpArgs false
set_option linter.unusedVariables false
namespace Go.Proofs.YtadnggecnjdhiaaGreat
open Go.RowKit Tx
theorem placesL_get (l : List Int) (k : Nat) (hk : k ≤ l.length) : (placesL l).getD k 0 = isum (l.take k) := by
  unfold placesL
  rw [List.getD_eq_getElem?_getD, List.getElem?_map, List.getElem?_range (by omega)]
  rfl
theorem placesL_len (l : List Int) : (placesL l).length = l.length + 1 := by simp [placesL]
def TurnOk (L : Int) (u : Turn) : Prop := 0 ≤ u.word ∧ u.word < L ∧ 0 ≤ u.lo ∧ u.lo ≤ u.hi ∧ u.hi < L ∧ (u.word < u.lo ∨ u.hi < u.word)
/-- the places inside a reading -/
def innerP (P : List Int) : List Int := (P.take (P.length - 1)).drop 1
def apartIn (P : List Int) (u : Turn) : Bool := (innerP P).any fun p => u.parts p
theorem says_iff (u : Turn) (a b : Int) : u.says a b = true ↔ a ≤ u.lo ∧ u.hi ≤ b ∧ ¬ (a ≤ u.word ∧ u.word ≤ b) := by
  unfold Turn.says btw
  simp
  omega
theorem parts_iff (u : Turn) (p : Int) : u.parts p = true ↔ (u.word < p ∧ p ≤ u.lo) ∨ (u.hi < p ∧ p ≤ u.word) := by
  unfold Turn.parts
  simp
theorem mem_inner (l : List Int) (x : Int) : x ∈ innerP (placesL l) ↔ ∃ j, 1 ≤ j ∧ j < l.length ∧ x = isum (l.take j) := by
  unfold innerP
  rw [placesL_len, Nat.add_sub_cancel]
  constructor
  · intro h
    obtain ⟨i, hi, he⟩ := List.mem_iff_getElem.1 h
    have hi2 : i + 1 < l.length := by simp [placesL_len] at hi; omega
    refine ⟨i + 1, by omega, hi2, ?_⟩
    rw [← he, List.getElem_drop, List.getElem_take, ← placesL_get l (i + 1) (by omega)]
    have hl : i + 1 < (placesL l).length := by rw [placesL_len]; omega
    simp only [Nat.add_comm 1 i]
    simp [hl]
  · rintro ⟨j, h1, h2, rfl⟩
    rw [← placesL_get l j (by omega)]
    refine List.mem_iff_getElem.2 ⟨j - 1, by simp [placesL_len]; omega, ?_⟩
    rw [List.getElem_drop, List.getElem_take]
    have e : 1 + (j - 1) = j := by omega
    have hl : j < (placesL l).length := by rw [placesL_len]; omega
    simp only [e]
    simp [hl]
theorem isum_take_mono {L : Int} {l : List Int} (h : Parts L l) {i j : Nat} (hij : i ≤ j) : isum (l.take i) ≤ isum (l.take j) := by
  have e : l.take i = (l.take j).take i := by rw [List.take_take, Nat.min_eq_left hij]
  have h1 : isum ((l.take j).take i) + isum ((l.take j).drop i) = isum (l.take j) := by rw [← isum_append, List.take_append_drop]
  have h2 := isum_ge (l := (l.take j).drop i) (fun x hx => h.1 x (List.mem_of_mem_take (List.mem_of_mem_drop hx)))
  rw [e]; omega
theorem runSays_places {l : List Int} {a b : Nat} (hb : b < l.length) (hab : a ≤ b) (u : Turn) : runSays (placesL l) u a b = u.says (isum (l.take a)) (isum (l.take (b + 1)) - 1) := by
  unfold runSays
  rw [placesL_get l a (by omega), placesL_get l (b + 1) (by omega)]
theorem mem_runs {m : Nat} {q : Nat × Nat} : q ∈ runs m ↔ q.1 ≤ q.2 ∧ q.2 < m := by
  unfold runs
  constructor
  · intro h
    obtain ⟨x, hx, hq⟩ := List.mem_flatMap.1 h
    obtain ⟨y, hy, rfl⟩ := List.mem_map.1 hq
    rw [List.mem_range'_1] at hy
    have := List.mem_range.1 hx
    exact ⟨hy.1, by show y < m; omega⟩
  · rintro ⟨h1, h2⟩
    exact List.mem_flatMap.2 ⟨q.1, List.mem_range.2 (by omega), List.mem_map.2 ⟨q.2, List.mem_range'_1.2 ⟨h1, by omega⟩, rfl⟩⟩
theorem runs_apart {L : Int} {l : List Int} (h : Parts L l) {u : Turn} (hu : TurnOk L u) : (runs l.length).any (fun q => runSays (placesL l) u q.1 q.2) = apartIn (placesL l) u := by
  obtain ⟨u0, u1, u2, u3, u4, u5⟩ := hu
  have hL : isum (l.take l.length) = L := by rw [List.take_length]; exact h.2
  have h0 : isum (l.take 0) = 0 := by simp [isum]
  rw [Bool.eq_iff_iff]
  unfold apartIn
  rw [List.any_eq_true, List.any_eq_true]
  constructor
  · rintro ⟨q, hq, hs⟩
    obtain ⟨q1, q2⟩ := mem_runs.1 hq
    rw [runSays_places q2 q1, says_iff] at hs
    obtain ⟨s1, s2, s3⟩ := hs
    by_cases hw : u.word < isum (l.take q.1)
    · refine ⟨_, (mem_inner l _).2 ⟨q.1, ?_, by omega, rfl⟩, (parts_iff _ _).2 (.inl ⟨hw, s1⟩)⟩
      by_cases hz : q.1 = 0
      · rw [hz, h0] at hw; omega
      · omega
    · refine ⟨_, (mem_inner l _).2 ⟨q.2 + 1, by omega, ?_, rfl⟩, (parts_iff _ _).2 (.inr ⟨by omega, by omega⟩)⟩
      by_cases hz : q.2 + 1 = l.length
      · rw [hz, hL] at s3; omega
      · omega
  · rintro ⟨x, hx, hp⟩
    obtain ⟨j, j1, j2, rfl⟩ := (mem_inner l _).1 hx
    rcases (parts_iff _ _).1 hp with ⟨p1, p2⟩ | ⟨p1, p2⟩
    · refine ⟨(j, l.length - 1), mem_runs.2 ⟨by show j ≤ l.length - 1; omega, by show l.length - 1 < l.length; omega⟩, ?_⟩
      show runSays (placesL l) u j (l.length - 1) = true
      rw [runSays_places (by omega) (by omega), says_iff, show l.length - 1 + 1 = l.length by omega, hL]
      exact ⟨p2, by omega, by omega⟩
    · refine ⟨(0, j - 1), mem_runs.2 ⟨Nat.zero_le _, by show j - 1 < l.length; omega⟩, ?_⟩
      show runSays (placesL l) u 0 (j - 1) = true
      rw [runSays_places (by omega) (Nat.zero_le _), says_iff, show j - 1 + 1 = j by omega, h0]
      exact ⟨by omega, by omega, by omega⟩
theorem astrayGo_spec (P : List Int) : ∀ (ts : List Turn) (i : Nat), (astrayGo P i ts = (0, 0, 0, 6) ∧ ∀ u ∈ ts, (runs (P.length - 1)).any (fun q => runSays P u q.1 q.2) = false) ∨
    (∃ k a b : Nat, k < ts.length ∧ astrayGo P i ts = (((i + k : Nat) : Int), (a : Int), (b : Int), 0) ∧ (∀ j, j < k → (runs (P.length - 1)).any (fun q => runSays P (ts.getD j default) q.1 q.2) = false) ∧ a ≤ b ∧ b < P.length - 1 ∧ runSays P (ts.getD k default) a b = true)
  | [], i => .inl ⟨rfl, fun u hu => by cases hu⟩
  | u :: ts, i => by
    cases hf : (runs (P.length - 1)).find? (fun q => runSays P u q.1 q.2) with
    | some q =>
      have hq := List.mem_of_find?_eq_some hf
      have hs := List.find?_some hf
      obtain ⟨q1, q2⟩ := mem_runs.1 hq
      refine .inr ⟨0, q.1, q.2, by simp, ?_, fun j hj => absurd hj (Nat.not_lt_zero _), q1, q2, hs⟩
      unfold astrayGo; rw [hf]; rfl
    | none =>
      have hn : (runs (P.length - 1)).any (fun q => runSays P u q.1 q.2) = false := by
        rw [Bool.eq_false_iff]; intro h
        obtain ⟨q, hq, hs⟩ := List.any_eq_true.1 h
        exact List.find?_eq_none.1 hf q hq hs
      have he : astrayGo P i (u :: ts) = astrayGo P (i + 1) ts := by rw [astrayGo, hf]
      rw [he]
      rcases astrayGo_spec P ts (i + 1) with ⟨h1, h2⟩ | ⟨k, a, b, h1, h2, h3, h4⟩
      · exact .inl ⟨h1, fun v hv => by rcases List.mem_cons.1 hv with rfl | hv; exact hn; exact h2 v hv⟩
      · refine .inr ⟨k + 1, a, b, by simp; omega, by rw [h2]; congr 2; omega, fun j hj => ?_, by simpa using h4⟩
        cases j with
        | zero => simpa using hn
        | succ j => simpa using h3 j (by omega)
theorem okFrom_sure (t : Text) : ∀ (l : List Int) (a : Nat), l ≠ [] → (∀ x ∈ l, 1 ≤ x) → (okFrom t.sureB a l = true ↔ okFrom t.right a l = true ∧ ∀ j, j ≤ l.length → t.parts ((a : Int) + isum (l.take j)) = false)
  | [], _, h, _ => absurd rfl h
  | x :: l, a, _, hp => by
    have hx := hp x (by simp)
    rw [okFrom, okFrom, Bool.and_eq_true, Bool.and_eq_true]
    have e1 : t.sureB a (a + x.toNat) = true ↔ t.right a (a + x.toNat) = true ∧ t.parts a = false ∧ t.parts ((a : Int) + x) = false := by
      unfold Text.sureB
      rw [show ((a + x.toNat : Nat) : Int) = (a : Int) + x by omega]
      simp [Bool.and_eq_true, and_assoc]
    rw [e1]
    cases l with
    | nil =>
      simp only [okFrom, and_true, List.length_cons, List.length_nil]
      constructor
      · rintro ⟨h1, h2, h3⟩
        refine ⟨h1, fun j hj => ?_⟩
        rcases (show j = 0 ∨ j = 1 by omega) with rfl | rfl
        · simpa [isum] using h2
        · simpa [isum] using h3
      · rintro ⟨h1, h2⟩
        exact ⟨h1, by simpa [isum] using h2 0 (by omega), by simpa [isum] using h2 1 (by omega)⟩
    | cons y l =>
      rw [okFrom_sure t (y :: l) (a + x.toNat) (by simp) (fun z hz => hp z (by simp [hz]))]
      have e2 : ∀ j, ((a + x.toNat : Nat) : Int) + isum ((y :: l).take j) = (a : Int) + isum ((x :: y :: l).take (j + 1)) := fun j => by
        rw [List.take_succ_cons, isum_cons]; omega
      constructor
      · rintro ⟨⟨h1, h2, h3⟩, h4, h5⟩
        refine ⟨⟨h1, h4⟩, fun j hj => ?_⟩
        cases j with
        | zero => simpa [isum] using h2
        | succ j => rw [← e2 j]; exact h5 j (by simpa using hj)
      · rintro ⟨⟨h1, h4⟩, h5⟩
        refine ⟨⟨h1, by simpa [isum] using h5 0 (by omega), by simpa [isum] using h5 1 (by simp)⟩, h4, fun j hj => ?_⟩
        rw [e2 j]; exact h5 (j + 1) (by simpa using hj)
theorem turn_ok {t : Text} (ok : Text.Ok t) : ∀ u ∈ t.turns, TurnOk t.words.length u := fun u hu => ok.turn u hu
/-- a right reading that goes astray nowhere -/
theorem sure_nowhere {t : Text} (ok : Text.Ok t) {l : List Int} (hp : Parts t.words.length l) : okFrom t.sureB 0 l = true ↔ okFrom t.right 0 l = true ∧ (astrayGo (placesL l) 0 t.turns).2.2.2 ≠ 0 := by
  have hl1 : 1 ≤ l.length := by
    rcases Nat.eq_zero_or_pos l.length with h | h
    · have := ok.n1
      rw [List.length_eq_zero_iff.1 h] at hp; have := hp.2; simp [isum] at this; omega
    · exact h
  have hne : l ≠ [] := fun e => by rw [e] at hl1; simp at hl1
  have hpl : (placesL l).length - 1 = l.length := by simp [placesL]
  rw [okFrom_sure t l 0 hne hp.1]
  refine and_congr_right fun _ => ?_
  have hsp := astrayGo_spec (placesL l) t.turns 0
  rw [hpl] at hsp
  have hap : (∀ u ∈ t.turns, apartIn (placesL l) u = false) ↔ (astrayGo (placesL l) 0 t.turns).2.2.2 ≠ 0 := by
    rcases hsp with ⟨h1, h2⟩ | ⟨k, a, b, h1, h2, h3, h4, h5, h6⟩
    · rw [h1]
      refine ⟨fun _ => by decide, fun _ u hu => ?_⟩
      rw [← runs_apart hp (turn_ok ok u hu)]
      exact h2 u hu
    · rw [h2]
      refine ⟨fun h => ?_, fun h => absurd rfl h⟩
      have hm : t.turns.getD k default ∈ t.turns := getD_mem default h1
      have e := h _ hm
      rw [← runs_apart hp (turn_ok ok _ hm), List.any_eq_false] at e
      exact absurd h6 (e (a, b) (mem_runs.2 ⟨h4, h5⟩))
  rw [← hap]
  simp only [Int.natCast_zero, Int.zero_add]
  constructor
  · intro h u hu
    rw [Bool.eq_false_iff]
    intro ha
    unfold apartIn at ha
    obtain ⟨p, hpi, hpp⟩ := List.any_eq_true.1 ha
    obtain ⟨j, h1, h2, rfl⟩ := (mem_inner l p).1 hpi
    have := h j (by omega)
    unfold Text.parts at this
    rw [List.any_eq_false] at this
    exact this u hu hpp
  · intro h j hj
    unfold Text.parts
    rw [List.any_eq_false]
    intro u hu hpp
    obtain ⟨o1, o2, o3, o4, o5, o6⟩ := ok.turn u hu
    rw [parts_iff] at hpp
    have hb : ∀ y ∈ l, 0 ≤ y := fun y hy => by have := hp.1 y hy; omega
    by_cases h0 : j = 0
    · subst h0
      simp only [List.take_zero, isum, List.foldl_nil] at hpp
      omega
    · by_cases hjl : j = l.length
      · rw [hjl, List.take_length, hp.2] at hpp
        omega
      · have hf := h u hu
        rw [Bool.eq_false_iff] at hf
        refine hf ?_
        unfold apartIn
        exact List.any_eq_true.2 ⟨isum (l.take j), (mem_inner l _).2 ⟨j, by omega, by omega, rfl⟩, (parts_iff _ _).2 hpp⟩
end Go.Proofs.YtadnggecnjdhiaaGreat
set_option linter.unusedSimpArgs false
set_option linter.unusedVariables false
namespace Go.Proofs.YtadnggecnjdhiaaGreat
open Go.RowKit Tx
attribute [local go_sem] Oper.semAt_some

/-- lists that can be read -/
def LLs (W : World) (p : Option Addr) (L : List (List Int)) : Prop := L = [] ∨ ∃ b, p = some ⟨b, 0, none⟩ ∧ b < W.heap.size ∧ ∀ i, i < L.length → ∃ x, W.cell? ⟨b, i, none⟩ = some x ∧ El W x (L.getD i [])
theorem LLs.below {W W' : World} {p : Option Addr} {L : List (List Int)} (h : LLs W p L) (hb : Below W.heap.size W W') : LLs W' p L := by
  rcases h with h | ⟨b, hp, hl, h⟩
  · exact .inl h
  · exact .inr ⟨b, hp, Nat.lt_of_lt_of_le hl hb.size, fun i hi => by
      obtain ⟨x, h1, h2⟩ := h i hi
      exact ⟨x, (hb.cell (p := ⟨b, i, none⟩) hl).trans h1, h2.below hb⟩⟩
theorem LLs.of_own {W : World} {base : Nat} {v : Value} {L : List (List Int)} {xs : List Value} (h : W.ownsRow base 34 1 v L.length xs) (he : Els W xs L) : ∃ p c, v = .slice p L.length c ∧ LLs W p L := by
  rcases h.2 with ⟨h3, h4⟩ | ⟨g, cap, cur, rfl, hb, hg, h1, h2, h3, h4⟩
  · exact ⟨none, 0, by rw [h3, h4], .inl (List.length_eq_zero_iff.1 h4)⟩
  · refine ⟨_, cap, rfl, .inr ⟨g, rfl, (Array.getElem?_eq_some_iff.1 hg).1, fun i hi => ⟨xs.getD i undef, ?_, he.2 i hi⟩⟩⟩
    have h1 : i < xs.length := by rw [he.1]; exact hi
    have := h.cells (g := g) rfl i (xs.getD i undef) (by simp [h1])
    have hadd : (⟨g, 0, none⟩ : Addr).add i = ⟨g, i, none⟩ := by unfold Addr.add; split <;> simp_all
    rwa [hadd] at this
theorem LLs.at {W : World} {p : Option Addr} {L : List (List Int)} (h : LLs W p L) {i : Nat} (hi : i < L.length) : ∃ b q d, p = some ⟨b, 0, none⟩ ∧ b < W.heap.size ∧ W.cell? ⟨b, i, none⟩ = some (.slice q (L.getD i []).length d) ∧ Ints W q (L.getD i []) := by
  rcases h with rfl | ⟨b, hp, hl, h⟩
  · simp at hi
  · obtain ⟨x, h1, h2⟩ := h i hi
    obtain ⟨q, d, rfl, h3⟩ := h2.ints
    exact ⟨b, q, d, hp, hl, h1, h3⟩
theorem bestLen_le (ls : List (List Int)) (m : Nat) : ∀ b, b ≤ m → (∀ l ∈ ls, l.length ≤ m) → bestLen ls b ≤ m := by
  induction ls with
  | nil => intro b hb _; exact hb
  | cons l ls ih => intro b hb h; rw [bestLen]; exact ih _ (by have := h l (by simp); split <;> omega) fun x hx => h x (by simp [hx])
theorem bestLen_drop (L : List (List Int)) (i b : Nat) (h : i < L.length) : bestLen (L.drop i) b = bestLen (L.drop (i + 1)) (if b = 0 ∨ (L.getD i []).length < b then (L.getD i []).length else b) := by
  rw [List.drop_eq_getElem_cons h, bestLen]
  rw [show L.getD i [] = L[i] from by simp [h]]
set_option maxHeartbeats 2000000 in
theorem rFewest_any (L : List (List Int)) (hL : L.length ≤ 1000000) (hl : ∀ l ∈ L, l.length ≤ 1000) (p : Option Addr) (c : Nat) (w : World) (h : LLs w p L) :
    Calls Tryz.prog 14 #[.slice p L.length c] w fun e w' => e = .returned (.tuple #[.int .i64 (bestLen L 0 : Nat), .int .i64 (if bestLen L 0 = 0 then 6 else 0)]) ∧ w = w' := by
  have H := Lib.hid h
  have HL := Lib.hid (fun i (hi : i < L.length) => hl (L.getD i []) (by simp [hi]))
  obtain ⟨B, hB⟩ : ∃ B, B = bestLen L 0 := ⟨_, rfl⟩
  rw [← hB]
  obtain ⟨er, her⟩ : ∃ er : Int, er = (if B = 0 then 6 else 0) := ⟨_, rfl⟩
  rw [← her]
  have HER := Lib.hid her
  clear her
  have HB := Lib.hid hB
  clear h hl hB
  go_enter Tryz.func14, Tryz.ntmps14
  go_wp2
  go_loop [4, 5] (fun bv v => ∃ i b : Nat, v = .int .i64 i ∧ bv = .int .i64 b ∧ i ≤ L.length ∧ b ≤ 1000 ∧ bestLen (L.drop i) b = B) (fun _ v => L.length - (intOf v).toNat)
  case atStart => exact ⟨0, 0, rfl, rfl, Nat.zero_le _, by omega, HB.out.symm⟩
  case round =>
    obtain ⟨i, b, rfl, rfl, hi, hb, hbest⟩ := hrel
    have HBE := Lib.hid hbest
    clear hbest
    by_cases hlt : i < L.length
    · have hlt' : (i : Int) < L.length := by omega
      obtain ⟨g, q, d, rfl, hg, hcell, hI⟩ := H.out.at hlt
      have hll := HL.out i hlt
      have HST := Lib.hid (bestLen_drop L i b hlt)
      generalize L.getD i [] = l at hcell hll HST
      clear hI
      by_cases h0 : b = 0
      · subst h0
        rw [if_pos (.inl rfl), HBE.out] at HST
        go_wp2
        go_round
        case rel => exact ⟨i + 1, l.length, by go_num, rfl, by omega, by omega, HST.out.symm⟩
        case measure => simp [intOf]; omega
      · have h0' : ((b : Int) == 0) = false := by rw [beq_eq_false_iff_ne]; omega
        by_cases h1 : l.length < b
        · have h1' : (l.length : Int) < b := by omega
          rw [if_pos (.inr h1), HBE.out] at HST
          clear h0 h1
          go_wp2
          go_round
          case rel => exact ⟨i + 1, l.length, by go_num, rfl, by omega, by omega, HST.out.symm⟩
          case measure => simp [intOf]; omega
        · have h1' : ¬ (l.length : Int) < b := by omega
          rw [if_neg (by omega), HBE.out] at HST
          clear h0 h1
          go_wp2
          go_round
          case rel => exact ⟨i + 1, b, by go_num, rfl, by omega, by omega, HST.out.symm⟩
          case measure => simp [intOf]; omega
    · obtain rfl : i = L.length := by omega
      have hbe : b = B := by have := HBE.out; rw [List.drop_length] at this; exact this
      clear HBE HB
      subst hbe
      by_cases h0 : b = 0
      · subst h0
        have HF : Hid (er = 6) := Lib.hid (by rw [HER.out, if_pos rfl])
        clear HER
        go_wp2
        go_ret2
        exact ⟨by rw [HF.out]; rfl, rfl⟩
      · have h0' : ((b : Int) == 0) = false := by rw [beq_eq_false_iff_ne]; omega
        have HF : Hid (er = 0) := Lib.hid (by rw [HER.out, if_neg h0])
        clear h0 HER
        go_wp2
        go_ret2
        exact ⟨by rw [HF.out]; rfl, rfl⟩
/-- the places up to less than p at which none of some readings breaks -/
def nevTo (L : List (List Int)) (p : Nat) : List Int := ((List.range' 1 (p - 1)).filter fun q => !L.any fun l => breaksAt l q).map fun (q : Nat) => (q : Int)
theorem nevTo_succ (L : List (List Int)) (p : Nat) (hp : 1 ≤ p) : nevTo L (p + 1) = nevTo L p ++ (if (L.any fun l => breaksAt l p) then [] else [(p : Int)]) := by
  unfold nevTo
  rw [show p + 1 - 1 = (p - 1) + 1 by omega, List.range'_concat, List.filter_append, List.map_append]
  rw [show 1 + 1 * (p - 1) = p by omega]
  cases h : (L.any fun l => breaksAt l p) <;> simp [h]
theorem nevTo_len (L : List (List Int)) (p : Nat) : (nevTo L p).length ≤ p := by
  unfold nevTo; rw [List.length_map]; exact Nat.le_trans (List.length_filter_le _ _) (by simp)
set_option maxHeartbeats 6000000 in
set_option maxRecDepth 100000 in
theorem rNever_any (n : Nat) (hn1 : 1 ≤ n) (hn : n ≤ 12) (L : List (List Int)) (hL : L.length ≤ 1000000) (hl : ∀ l ∈ L, Parts n l) (pw : Option Addr) (cw : Nat) (v1 v2 : Value) (p : Option Addr) (c : Nat) (w : World) (h : LLs w p L) :
    Calls Tryz.prog 69 #[.agg #[.slice pw n cw, v1, v2], .slice p L.length c] w (RowPost (nevTo L n) w) := by
  obtain ⟨i0, hi0, hz0, hz1, hz2⟩ := info_parts A_infoI
  have H := Lib.hid h
  have HL := Lib.hid (fun i (hi : i < L.length) => hl (L.getD i []) (by simp [hi]))
  have HB := Lib.hid (below1 w (.cells #[.slice pw n cw, v1, v2] 32))
  have HX := Lib.hid (heap_last w (.cells #[.slice pw n cw, v1, v2] 32))
  have hz1' : (w.alloc (.cells #[.slice pw n cw, v1, v2] 32)).heap.size = w.heap.size + 1 := by simp
  clear h hl
  go_enter Tryz.func69, Tryz.ntmps69
  go_wp2_with fail
  generalize w.alloc (.cells #[.slice pw n cw, v1, v2] 32) = W1 at HB HX hz1' ⊢
  have hz1'' : w.heap.size + 1 ≤ W1.heap.size := by omega
  clear hz1'
  go_loopw [5, 6, 7, 8, 9, 10] (fun ov pv _ _ _ _ wr => ∃ q : Nat, pv = .int .i64 q ∧ 1 ≤ q ∧ q ≤ n ∧ wr.ownsRow W1.heap.size 3 1 ov (nevTo L q).length ((nevTo L q).map (Value.int .i64)) ∧ Below W1.heap.size W1 wr) (fun _ pv _ _ _ _ _ => n - (intOf pv).toNat)
  case atStart => exact ⟨1, rfl, Nat.le_refl _, hn1, own_none _ _ _ _, Below.refl _ _⟩
  case round =>
    obtain ⟨wq, rfl⟩ : ∃ wq : World, wq = wr := ⟨_, rfl⟩
    obtain ⟨q, rfl, hq1, hqn, hown, hBr⟩ := hrel
    have HO := Lib.hid hown
    have HBr := Lib.hid hBr
    have hz7 := hBr.size
    have hol := nevTo_len L q
    have HSN := Lib.hid (nevTo_succ L q hq1)
    obtain ⟨k0, k1, k2⟩ := blk3 ((hBr.block w.heap.size (by omega)).trans HX.out)
    clear hown hBr
    by_cases hlt : q < n
    · have hlt' : (q : Int) < n := by omega
      go_wp2_with fail
      go_loopg [7, 8, 9, 10] L.length (fun gk bv v _ _ wr => ∃ (i : Nat) (b : Bool), gk + i = L.length ∧ v = .int .i64 i ∧ bv = .bool b ∧ b = ((L.take i).any fun l => breaksAt l q) ∧ wq = wr)
      case atStart => exact ⟨0, false, by omega, rfl, rfl, rfl, rfl⟩
      case round =>
        obtain ⟨gm, rfl⟩ : ∃ x : Nat, x = gk := ⟨_, rfl⟩
        obtain ⟨i, b, hi, rfl, rfl, hb, rfl⟩ := hrel
        have HBB := Lib.hid hb
        clear hb
        by_cases hil : i < L.length
        · have hil' : (i : Int) < L.length := by omega
          obtain ⟨g, r, d, rfl, hg, hcell, hI⟩ := (H.out.below (join HB.out HBr.out)).at hil
          have hpl := HL.out i hil
          have HST : Hid (((L.take (i + 1)).any fun l => breaksAt l q) = (b || breaksAt (L.getD i []) q)) := Lib.hid (by
            rw [take_snocD [] hil, List.any_append, ← HBB.out]; simp)
          generalize L.getD i [] = l at hcell hpl HST hI
          have HPL := Lib.hid (fun k => isum_take_le (fun x h => by have := hpl.1 x h; omega) hpl.2 k)
          have hll : l.length ≤ 12 := by have := isum_ge hpl.1; have := hpl.2; omega
          have HI := Lib.hid hI
          clear hpl hI
          go_wp2_with fail
          go_loopg [7, 9, 10] l.length (fun gk2 bv av kv wr => ∃ (k : Nat) (s : Int), gk2 + k = l.length ∧ kv = .int .i64 k ∧ av = .int .i64 s ∧ s = isum (l.take k) ∧ bv = .bool (b || (List.range k).any fun j => isum (l.take (j + 1)) == (q : Int)) ∧ wq = wr)
          case atStart => exact ⟨0, 0, by omega, rfl, rfl, rfl, by simp, rfl⟩
          case round =>
            obtain ⟨k, s, hk, rfl, rfl, hs, rfl, rfl⟩ := hrel
            by_cases hkl : k < l.length
            · have hkl' : (k : Int) < l.length := by omega
              obtain ⟨gb, go, x, rfl, hgb, hxx, hc1⟩ := HI.out.at hkl
              have hsn : isum (l.take (k + 1)) = s + x := by rw [take_snocD 0 hkl, isum_snoc, hxx, hs]
              have hp1 := HPL.out k
              have hp2 := HPL.out (k + 1)
              rw [← hs] at hp1
              rw [hsn] at hp2
              have HSU := Lib.hid hsn
              have HAN : Hid ((List.range (k + 1)).any (fun j => isum (l.take (j + 1)) == (q : Int)) = ((List.range k).any (fun j => isum (l.take (j + 1)) == (q : Int)) || (s + x == (q : Int)))) := Lib.hid (by
                rw [List.range_succ, List.any_append]; simp [hsn])
              generalize (List.range k).any (fun j => isum (l.take (j + 1)) == (q : Int)) = ak at HAN
              clear hs hsn hxx
              cases hba : (b || ak) with
              | true =>
                have HBA := Lib.hid hba
                clear hba
                go_wp2
                go_roundg (gk - 1)
                case rel => exact ⟨k + 1, s + x, by omega, by go_num, rfl, HSU.out.symm, by rw [HAN.out, ← Bool.or_assoc, HBA.out]; rfl, rfl⟩
                case measure => omega
              | false =>
                have HBA := Lib.hid hba
                clear hba
                go_wp2
                go_roundg (gk - 1)
                case rel => exact ⟨k + 1, s + x, by omega, by go_num, rfl, HSU.out.symm, by rw [HAN.out, ← Bool.or_assoc, HBA.out]; rfl, rfl⟩
                case measure => omega
            · obtain rfl : k = l.length := by omega
              have HFB : Hid (breaksAt l q = (List.range l.length).any fun j => isum (l.take (j + 1)) == (q : Int)) := Lib.hid rfl
              clear hs
              go_wp2
              go_roundg (gm - 1)
              case rel => exact ⟨i + 1, _, by omega, by go_num, rfl, by rw [HST.out, HFB.out], rfl⟩
              case measure => omega
        · obtain rfl : i = L.length := by omega
          rw [List.take_length] at HBB
          cases b with
          | true =>
            rw [← HBB.out, if_pos rfl, List.append_nil] at HSN
            go_wp2
            go_roundw
            case rel => exact ⟨q + 1, by go_num, by omega, by omega, by rw [HSN.out]; exact HO.out, HBr.out⟩
            case measure => simp [intOf]; omega
          | false =>
            rw [← HBB.out, if_neg (by decide)] at HSN
            go_wp2_with (at_builtin; refine wpList_append_own _ rfl _ _ 34 rfl W1.heap.size 3 i0 (.int .i64 0) 1 8 A_undI hi0 hz0 hz1 hz2 rfl (by decide) _ _ _ rfl (HO.out.alloc _) ⟨wq.heap.size, 0, none⟩ 1 1 [.int .i64 (q : Int)] rfl rfl ?d1 ?d2 ?d3 ?d4 ?d5 ?_)
            case d1 => exact cell_one_new _ _ _
            case d2 => first | rfl | (intro u hu; simp at hu; subst hu; rfl)
            case d3 => unfold maxLen; omega
            case d4 => omega
            case d5 => first | omega | (simp; omega)
            intro v' w8 hown8 hgrow _
            have hB8 := below_grown (al2 HBr.out (by omega) _) (HO.out.alloc _) (Nat.le_refl _) (by simp; omega) hgrow
            have HO8 := Lib.hid hown8
            have HB8 := Lib.hid hB8
            clear hgrow hown8 hB8
            go_wp2
            go_roundw
            case rel => exact ⟨q + 1, by go_num, by omega, by omega, by rw [HSN.out]; simpa using HO8.out, HB8.out⟩
            case measure => simp [intOf]; omega
    · obtain rfl : q = n := by omega
      clear HSN
      go_wp2
      go_ret
      exact ⟨_, rfl, own_base HO.out (by omega), join HB.out HBr.out⟩
end Go.Proofs.YtadnggecnjdhiaaGreat
set_option linter.unusedSimpArgs false
set_option linter.unusedVariables false
namespace Go.Proofs.YtadnggecnjdhiaaGreat
open Go.RowKit Tx
attribute [local go_sem] Oper.semAt_some

theorem blk4 {W : World} {b : Nat} {v0 v1 v2 v3 : Value} {ty : TypeId} {fr : Nat × Nat} (h : W.heap[b]? = some (.cells #[v0, v1, v2, v3] ty fr)) : W.cell? ⟨b, 0, none⟩ = some v0 ∧ W.cell? ⟨b, 1, none⟩ = some v1 ∧ W.cell? ⟨b, 2, none⟩ = some v2 ∧ W.cell? ⟨b, 3, none⟩ = some v3 :=
  ⟨blk_cells h 0 _ rfl, blk_cells h 1 _ rfl, blk_cells h 2 _ rfl, blk_cells h 3 _ rfl⟩
theorem parts1_any (u : Turn) (x : Int) (A : Nat) (w : World) (hA : w.heap[A]? = some (.cells #[.int .i64 x] 3 (0, 0))) :
    Calls Tryz.prog 130 #[.agg #[.int .i64 u.word, .int .i64 u.lo, .int .i64 u.hi], .pointer (some ⟨A, 0, none⟩)] w fun e w' => e = .returned (.bool (u.parts x)) ∧ Below w.heap.size w w' := by
  have hAl := (Array.getElem?_eq_some_iff.1 hA).1
  have c0 := blk_cells hA 0 _ rfl
  obtain ⟨uw, ul, uh⟩ := u
  unfold Turn.parts
  dsimp only
  clear hA
  by_cases h1 : uw < x
  · by_cases h2 : x ≤ ul
    · go_enter Tryz.func130, Tryz.ntmps130
      go_wp2
      go_ret
      exact ⟨ret_bool (by simp [h1, h2]), below1 _ _⟩
    · by_cases h3 : uh < x
      · by_cases h4 : x ≤ uw
        · exact absurd h1 (by omega)
        · go_enter Tryz.func130, Tryz.ntmps130
          go_wp2
          go_ret
          exact ⟨ret_bool (by simp [h1, h2, h3, h4] <;> omega), below1 _ _⟩
      · go_enter Tryz.func130, Tryz.ntmps130
        go_wp2
        go_ret
        exact ⟨ret_bool (by simp [h1, h2, h3] <;> omega), below1 _ _⟩
  · by_cases h3 : uh < x
    · have h4 : x ≤ uw := by omega
      go_enter Tryz.func130, Tryz.ntmps130
      go_wp2
      go_ret
      exact ⟨ret_bool (by simp [h1, h3, h4] <;> omega), below1 _ _⟩
    · go_enter Tryz.func130, Tryz.ntmps130
      go_wp2
      go_ret
      exact ⟨ret_bool (by simp [h1, h3] <;> omega), below1 _ _⟩
theorem entered_parts1 : Entered 130 := fun args W => by kernel_rfl
theorem parts_any (ts : List Turn) (hl : ts.length ≤ 1000000) (x : Int) (pt : Option Addr) (ct : Nat) (v0 v2 v3 : Value) (w : World) (hT : Tns w pt ts) :
    Calls Tryz.prog 96 #[.agg #[v0, .slice pt ts.length ct, v2, v3], .int .i64 x] w fun e w' => e = .returned (.bool (ts.any fun u => u.parts x)) ∧ Below w.heap.size w w' := by
  have hmf := mf
  have hB3 : Below w.heap.size w ((w.alloc (.cells #[v0, .slice pt ts.length ct, v2, v3] 84)).alloc (.cells #[.int .i64 x] 3)) := (below1 _ _).alloc (by simp) _
  have hx : ((w.alloc (.cells #[v0, .slice pt ts.length ct, v2, v3] 84)).alloc (.cells #[.int .i64 x] 3)).heap[w.heap.size + 1]? = some (.cells #[.int .i64 x] 3 (0, 0)) := by
    have := heap_last (w.alloc (.cells #[v0, .slice pt ts.length ct, v2, v3] 84)) (.cells #[.int .i64 x] 3)
    rwa [World.size_alloc] at this
  have hcf := containsFuncT 130 entered_parts1 (.pointer (some ⟨w.heap.size + 1, 0, none⟩)) (fun u => u.parts x) ts pt ct _ hl (hT.below hB3) (fun W h u hu => parts1_any u x (w.heap.size + 1) W ((h.block _ (by simp)).trans hx))
  obtain ⟨kv, hkv⟩ : ∃ kv, kv = ts.any (fun u => u.parts x) := ⟨_, rfl⟩
  rw [← hkv] at hcf ⊢
  have HCF := Lib.hid hcf
  have HB3 := Lib.hid hB3
  clear hcf hx hB3 hT hkv
  go_enter Tryz.func96, Tryz.ntmps96
  go_wp2_with fail
  refine HCF.out.mono ?_
  rintro e w5 ⟨rfl, hB5⟩
  go_wp2
  go_ret
  exact ⟨rfl, join HB3.out hB5⟩
set_option maxHeartbeats 800000 in
theorem sureB_any (t : Text) (pw pt : Option Addr) (cw ct : Nat) (mf : Value) (a b : Nat) (hab : a ≤ b) (hb : b ≤ t.words.length) (w : World) (hW : WkAt w t pw pt cw) :
    Calls Tryz.prog 44 #[.agg #[.slice pw t.words.length cw, .slice pt t.turns.length ct, .int .i64 t.breath, mf], .int .i64 a, .int .i64 b] w fun e w' => e = .returned (.bool (t.sureB a b)) ∧ Below w.heap.size w w' := by
  have HR := Lib.hid (fun W (h : Below w.heap.size w W) => right_any t pw pt cw ct mf a b hab hb W (hW.below h))
  have hm6 := hW.ok.m6
  have HP := Lib.hid (fun (x : Int) W (h : Below w.heap.size w W) => parts_any t.turns (by omega) x pt ct (.slice pw t.words.length cw) (.int .i64 t.breath) mf W (hW.at_.turns.below h))
  have hsz : t.sureB a b = (t.right a b && !(t.turns.any fun u => u.parts a) && !(t.turns.any fun u => u.parts b)) := rfl
  clear hW
  obtain ⟨pa, hpa⟩ : ∃ pa, pa = t.turns.any (fun u => u.parts (a : Int)) := ⟨_, rfl⟩
  obtain ⟨pb, hpb⟩ : ∃ pb, pb = t.turns.any (fun u => u.parts (b : Int)) := ⟨_, rfl⟩
  obtain ⟨r, hr⟩ : ∃ r, r = t.right a b := ⟨_, rfl⟩
  have HPA := Lib.hid hpa
  have HPB := Lib.hid hpb
  have HRR := Lib.hid hr
  have HF : Hid (t.sureB a b = (r && !pa && !pb)) := Lib.hid (by rw [hpa, hpb, hr]; exact hsz)
  clear hpa hpb hr hsz
  go_enter Tryz.func44, Tryz.ntmps44
  go_wp2_with fail
  refine (HR.out _ (below1 _ _)).mono ?_
  rintro e w5 ⟨rfl, hB5⟩
  rw [← HRR.out]
  obtain ⟨hc5, hf5⟩ := bcell hB5
  have hz5 : w.heap.size < w5.heap.size := by have := hB5.size; simp at this; omega
  have HB5 := Lib.hid (join (below1 _ _) hB5)
  cases r with
  | false =>
    go_wp2
    go_ret
    exact ⟨ret_bool (by rw [HF.out]; rfl), HB5.out⟩
  | true =>
    clear hB5
    go_wp2_with fail
    refine (HP.out a _ HB5.out).mono ?_
    rintro e w6 ⟨rfl, hB6⟩
    rw [← HPA.out]
    obtain ⟨hc6, hf6⟩ := bcell hB6
    have hz6 : w.heap.size < w6.heap.size := by have := hB6.size; omega
    have HB6 := Lib.hid (join HB5.out hB6)
    cases pa with
    | true =>
      go_wp2
      go_ret
      exact ⟨ret_bool (by rw [HF.out]; rfl), HB6.out⟩
    | false =>
      clear hB6
      go_wp2_with fail
      refine (HP.out b _ HB6.out).mono ?_
      rintro e w7 ⟨rfl, hB7⟩
      rw [← HPB.out]
      go_wp2
      go_ret
      exact ⟨ret_bool (by rw [HF.out]; simp), join HB6.out hB7⟩
def spEv1 (pw : Option Addr) (n cw : Nat) (v1 v2 v3 : Value) (a b s m : Int) (r : Bool) : Nat → List Value → Value → World → Prop
  | 0, _, v, _ => v = .agg #[.slice pw n cw, v1, v2, v3]
  | 1, _, v, _ => v = .int .i64 a
  | 2, _, v, _ => v = .int .i64 b
  | 3, _, v, _ => v = .int .i64 s
  | 4, _, v, _ => v = .int .i64 m
  | 5, _, v, _ => v = .bool true
  | 6, _, v, _ => v = .bool true
  | 7, _, v, _ => v = .agg #[.slice pw n cw, v1, v2, v3]
  | 8, _, v, _ => v = .int .i64 a
  | 9, _, v, _ => v = .int .i64 b
  | 10, _, v, _ => v = .bool r
  | 11, _, v, _ => v = .bool r
  | 12, _, v, _ => v = .bool r
  | _, _, _, _ => False
theorem spEv1_stable (pw : Option Addr) (n cw : Nat) (v1 v2 v3 : Value) (a b s m : Int) (r : Bool) : ∀ i L v w w', spEv1 pw n cw v1 v2 v3 a b s m r i L v w → Rs.Gr w w' → spEv1 pw n cw v1 v2 v3 a b s m r i L v w' := by
  intro i L v w w' h hg
  match i with
  | 0 => exact h
  | 1 => exact h
  | 2 => exact h
  | 3 => exact h
  | 4 => exact h
  | 5 => exact h
  | 6 => exact h
  | 7 => exact h
  | 8 => exact h
  | 9 => exact h
  | 10 => exact h
  | 11 => exact h
  | 12 => exact h

def spEv0 (pw : Option Addr) (n cw : Nat) (v1 v2 v3 : Value) (a b s m : Int) (r : Bool) : Nat → List Value → Value → World → Prop
  | 0, _, v, _ => v = .agg #[.slice pw n cw, v1, v2, v3]
  | 1, _, v, _ => v = .int .i64 a
  | 2, _, v, _ => v = .int .i64 b
  | 3, _, v, _ => v = .int .i64 s
  | 4, _, v, _ => v = .int .i64 m
  | 5, _, v, _ => v = .bool false
  | 6, _, v, _ => v = .bool false
  | 7, _, v, _ => v = undef
  | 8, _, v, _ => v = undef
  | 9, _, v, _ => v = undef
  | 10, _, v, _ => v = undef
  | 11, _, v, _ => v = .bool false
  | 12, _, v, _ => v = .bool false
  | _, _, _, _ => False
theorem spEv0_stable (pw : Option Addr) (n cw : Nat) (v1 v2 v3 : Value) (a b s m : Int) (r : Bool) : ∀ i L v w w', spEv0 pw n cw v1 v2 v3 a b s m r i L v w → Rs.Gr w w' → spEv0 pw n cw v1 v2 v3 a b s m r i L v w' := by
  intro i L v w w' h hg
  match i with
  | 0 => exact h
  | 1 => exact h
  | 2 => exact h
  | 3 => exact h
  | 4 => exact h
  | 5 => exact h
  | 6 => exact h
  | 7 => exact h
  | 8 => exact h
  | 9 => exact h
  | 10 => exact h
  | 11 => exact h
  | 12 => exact h

set_option maxHeartbeats 1000000 in
set_option maxRecDepth 100000 in
theorem rightWithin1_any (t : Text) (pw pt : Option Addr) (cw ct : Nat) (mf : Value) (m : Int) (a b : Nat) (hab : a ≤ b) (hb : b ≤ t.words.length) (X Y : Nat) (w : World) (hW : WkAt w t pw pt cw)
    (hX : w.heap[X]? = some (.cells #[.slice pw t.words.length cw, .slice pt t.turns.length ct, .int .i64 t.breath, mf] 84 (0, 0))) (hY : w.heap[Y]? = some (.cells #[.int .i64 m] 3 (0, 0))) :
    Calls Tryz.prog 92 #[.int .i64 a, .int .i64 b, .pointer (some ⟨X, 0, none⟩), .pointer (some ⟨Y, 0, none⟩)] w fun e w' => e = .returned (.bool (t.within m a b)) ∧ Below w.heap.size w w' := by
  have HRT := Lib.hid (fun W (h : Below w.heap.size w W) => right_any t pw pt cw ct mf a b hab hb W (hW.below h))
  have HSY := Lib.hid (fun W (h : Below w.heap.size w W) => syl_any t hW.ok pw cw (.slice pt t.turns.length ct) (.int .i64 t.breath) mf a b hab hb hW.cap W (hW.at_.words.below h))
  have HX := Lib.hid hX
  have HY := Lib.hid hY
  have HXl := (Array.getElem?_eq_some_iff.1 hX).1
  have HYl := (Array.getElem?_eq_some_iff.1 hY).1
  have hF : t.within m a b = (decide (t.syl a b ≤ m) && t.right a b) := rfl
  have HF := Lib.hid hF
  clear hX hY hW hF
  by_cases hsm : t.syl a b ≤ m
  · have HSM := Lib.hid hsm
    go_enter Tryz.func92, Tryz.ntmps92
    go_wp2_with fail
    refine Rs.region_gen 13 [[], [], [], [0, 1, 2], [], [0, 1, 2, 3, 4], [0, 1, 2, 3, 4, 5], [0, 1, 2, 3, 4, 5, 6], [0, 1, 2, 3, 4, 5, 6], [0, 1, 2, 3, 4, 5, 6], [0, 1, 2, 3, 4, 5, 6, 7, 8, 9], [0, 1, 2, 3, 4, 5, 6, 7, 8, 9, 10], [0, 1, 2, 3, 4, 5, 6, 7, 8, 9, 10, 11]] [some 7, some 8, some 9, some 10, some 11, some 12, some 13, some 14, some 15, some 16, some 17, some 18, some 6] (spEv1 pw t.words.length cw (.slice pt t.turns.length ct) (.int .i64 t.breath) mf a b (t.syl a b) m (t.right a b)) (by kernel_rfl) (by kernel_rfl) rfl (spEv1_stable _ _ _ _ _ _ _ _ _ _ _) ?_ ?_
    · refine ⟨fun V w' hG hs => ?_, fun V w' hG hs => ?_, fun V w' hG hs => ?_, fun V w' hG hs => ?_, fun V w' hG hs => ?_, fun V w' hG hs => ?_, fun V w' hG hs => ?_, fun V w' hG hs => ?_, fun V w' hG hs => ?_, fun V w' hG hs => ?_, fun V w' hG hs => ?_, fun V w' hG hs => ?_, fun V w' hG hs => ?_, trivial⟩
      all_goals
        obtain ⟨k0, k1, k2, k3⟩ := blk4 ((hG.block X HXl).trans HX.out)
        have c0 := blk_cells ((hG.block Y HYl).trans HY.out) 0 _ rfl
      · rw [if_pos (by rfl)]
        exact Rs.GrowL.value (v := .agg #[.slice pw t.words.length cw, (.slice pt t.turns.length ct), (.int .i64 t.breath), mf]) (w' := w') (by simp [go_sem, Rs.look, k0, k1, k2, k3]) (Rs.Gr.refl _) rfl
      · rw [if_pos (by rfl)]
        exact Rs.GrowL.value (v := .int .i64 a) (w' := w') (by simp [go_sem, Rs.look]) (Rs.Gr.refl _) rfl
      · rw [if_pos (by rfl)]
        exact Rs.GrowL.value (v := .int .i64 b) (w' := w') (by simp [go_sem, Rs.look]) (Rs.Gr.refl _) rfl
      · have e0 : V 0 = .agg #[.slice pw t.words.length cw, (.slice pt t.turns.length ct), (.int .i64 t.breath), mf] := hs 0 (by simp)
        have e1 : V 1 = .int .i64 a := hs 1 (by simp)
        have e2 : V 2 = .int .i64 b := hs 2 (by simp)
        rw [if_pos (by rfl)]
        refine Rs.GrowL.call (f := 93) (args := #[.agg #[.slice pw t.words.length cw, .slice pt t.turns.length ct, .int .i64 t.breath, mf], .int .i64 a, .int .i64 b]) (by simp [go_sem, Rs.look, e0, e1, e2]) ?_
        refine (HSY.out w' hG).mono ?_
        rintro e w2 ⟨rfl, hB2⟩
        exact ⟨_, rfl, hB2, rfl⟩
      · rw [if_pos (by rfl)]
        exact Rs.GrowL.value (v := .int .i64 m) (w' := w') (by simp [go_sem, Rs.look, c0]) (Rs.Gr.refl _) rfl
      · have e0 : V 0 = .agg #[.slice pw t.words.length cw, (.slice pt t.turns.length ct), (.int .i64 t.breath), mf] := hs 0 (by simp)
        have e1 : V 1 = .int .i64 a := hs 1 (by simp)
        have e2 : V 2 = .int .i64 b := hs 2 (by simp)
        have e3 : V 3 = .int .i64 (t.syl a b) := hs 3 (by simp)
        have e4 : V 4 = .int .i64 m := hs 4 (by simp)
        rw [if_pos (by rfl)]
        exact Rs.GrowL.value (v := .bool true) (w' := w') (by simp [go_sem, Rs.look, e0, e1, e2, e3, e4, hsm]) (Rs.Gr.refl _) rfl
      · have e0 : V 0 = .agg #[.slice pw t.words.length cw, (.slice pt t.turns.length ct), (.int .i64 t.breath), mf] := hs 0 (by simp)
        have e1 : V 1 = .int .i64 a := hs 1 (by simp)
        have e2 : V 2 = .int .i64 b := hs 2 (by simp)
        have e3 : V 3 = .int .i64 (t.syl a b) := hs 3 (by simp)
        have e4 : V 4 = .int .i64 m := hs 4 (by simp)
        have e5 : V 5 = .bool true := hs 5 (by simp)
        rw [if_pos (by rfl)]
        exact Rs.GrowL.value (v := .bool true) (w' := w') (by simp [go_sem, Rs.look, e0, e1, e2, e3, e4, e5]) (Rs.Gr.refl _) rfl
      · have e0 : V 0 = .agg #[.slice pw t.words.length cw, (.slice pt t.turns.length ct), (.int .i64 t.breath), mf] := hs 0 (by simp)
        have e1 : V 1 = .int .i64 a := hs 1 (by simp)
        have e2 : V 2 = .int .i64 b := hs 2 (by simp)
        have e3 : V 3 = .int .i64 (t.syl a b) := hs 3 (by simp)
        have e4 : V 4 = .int .i64 m := hs 4 (by simp)
        have e5 : V 5 = .bool true := hs 5 (by simp)
        have e6 : V 6 = .bool true := hs 6 (by simp)
        rw [if_pos (by simp [Rs.wantB, e6])]
        exact Rs.GrowL.value (v := .agg #[.slice pw t.words.length cw, (.slice pt t.turns.length ct), (.int .i64 t.breath), mf]) (w' := w') (by simp [go_sem, Rs.look, e0, e1, e2, e3, e4, e5, e6, k0, k1, k2, k3]) (Rs.Gr.refl _) rfl
      · have e0 : V 0 = .agg #[.slice pw t.words.length cw, (.slice pt t.turns.length ct), (.int .i64 t.breath), mf] := hs 0 (by simp)
        have e1 : V 1 = .int .i64 a := hs 1 (by simp)
        have e2 : V 2 = .int .i64 b := hs 2 (by simp)
        have e3 : V 3 = .int .i64 (t.syl a b) := hs 3 (by simp)
        have e4 : V 4 = .int .i64 m := hs 4 (by simp)
        have e5 : V 5 = .bool true := hs 5 (by simp)
        have e6 : V 6 = .bool true := hs 6 (by simp)
        rw [if_pos (by simp [Rs.wantB, e6])]
        exact Rs.GrowL.value (v := .int .i64 a) (w' := w') (by simp [go_sem, Rs.look, e0, e1, e2, e3, e4, e5, e6]) (Rs.Gr.refl _) rfl
      · have e0 : V 0 = .agg #[.slice pw t.words.length cw, (.slice pt t.turns.length ct), (.int .i64 t.breath), mf] := hs 0 (by simp)
        have e1 : V 1 = .int .i64 a := hs 1 (by simp)
        have e2 : V 2 = .int .i64 b := hs 2 (by simp)
        have e3 : V 3 = .int .i64 (t.syl a b) := hs 3 (by simp)
        have e4 : V 4 = .int .i64 m := hs 4 (by simp)
        have e5 : V 5 = .bool true := hs 5 (by simp)
        have e6 : V 6 = .bool true := hs 6 (by simp)
        rw [if_pos (by simp [Rs.wantB, e6])]
        exact Rs.GrowL.value (v := .int .i64 b) (w' := w') (by simp [go_sem, Rs.look, e0, e1, e2, e3, e4, e5, e6]) (Rs.Gr.refl _) rfl
      · have e0 : V 0 = .agg #[.slice pw t.words.length cw, (.slice pt t.turns.length ct), (.int .i64 t.breath), mf] := hs 0 (by simp)
        have e1 : V 1 = .int .i64 a := hs 1 (by simp)
        have e2 : V 2 = .int .i64 b := hs 2 (by simp)
        have e3 : V 3 = .int .i64 (t.syl a b) := hs 3 (by simp)
        have e4 : V 4 = .int .i64 m := hs 4 (by simp)
        have e5 : V 5 = .bool true := hs 5 (by simp)
        have e6 : V 6 = .bool true := hs 6 (by simp)
        have e7 : V 7 = .agg #[.slice pw t.words.length cw, (.slice pt t.turns.length ct), (.int .i64 t.breath), mf] := hs 7 (by simp)
        have e8 : V 8 = .int .i64 a := hs 8 (by simp)
        have e9 : V 9 = .int .i64 b := hs 9 (by simp)
        rw [if_pos (by simp [Rs.wantB, e6])]
        refine Rs.GrowL.call (f := 91) (args := #[.agg #[.slice pw t.words.length cw, .slice pt t.turns.length ct, .int .i64 t.breath, mf], .int .i64 a, .int .i64 b]) (by simp [go_sem, Rs.look, e7, e8, e9]) ?_
        refine (HRT.out w' hG).mono ?_
        rintro e w2 ⟨rfl, hB2⟩
        exact ⟨_, rfl, hB2, rfl⟩
      · have e0 : V 0 = .agg #[.slice pw t.words.length cw, (.slice pt t.turns.length ct), (.int .i64 t.breath), mf] := hs 0 (by simp)
        have e1 : V 1 = .int .i64 a := hs 1 (by simp)
        have e2 : V 2 = .int .i64 b := hs 2 (by simp)
        have e3 : V 3 = .int .i64 (t.syl a b) := hs 3 (by simp)
        have e4 : V 4 = .int .i64 m := hs 4 (by simp)
        have e5 : V 5 = .bool true := hs 5 (by simp)
        have e6 : V 6 = .bool true := hs 6 (by simp)
        have e7 : V 7 = .agg #[.slice pw t.words.length cw, (.slice pt t.turns.length ct), (.int .i64 t.breath), mf] := hs 7 (by simp)
        have e8 : V 8 = .int .i64 a := hs 8 (by simp)
        have e9 : V 9 = .int .i64 b := hs 9 (by simp)
        have e10 : V 10 = .bool (t.right a b) := hs 10 (by simp)
        rw [if_pos (by rfl)]
        exact Rs.GrowL.value (v := .bool (t.right a b)) (w' := w') (by simp [go_sem, Rs.look, e0, e1, e2, e3, e4, e5, e6, e7, e8, e9, e10]) (Rs.Gr.refl _) rfl
      · have e0 : V 0 = .agg #[.slice pw t.words.length cw, (.slice pt t.turns.length ct), (.int .i64 t.breath), mf] := hs 0 (by simp)
        have e1 : V 1 = .int .i64 a := hs 1 (by simp)
        have e2 : V 2 = .int .i64 b := hs 2 (by simp)
        have e3 : V 3 = .int .i64 (t.syl a b) := hs 3 (by simp)
        have e4 : V 4 = .int .i64 m := hs 4 (by simp)
        have e5 : V 5 = .bool true := hs 5 (by simp)
        have e6 : V 6 = .bool true := hs 6 (by simp)
        have e7 : V 7 = .agg #[.slice pw t.words.length cw, (.slice pt t.turns.length ct), (.int .i64 t.breath), mf] := hs 7 (by simp)
        have e8 : V 8 = .int .i64 a := hs 8 (by simp)
        have e9 : V 9 = .int .i64 b := hs 9 (by simp)
        have e10 : V 10 = .bool (t.right a b) := hs 10 (by simp)
        have e11 : V 11 = .bool (t.right a b) := hs 11 (by simp)
        rw [if_pos (by rfl)]
        exact Rs.GrowL.value (v := .bool (t.right a b)) (w' := w') (by simp [go_sem, Rs.look, e0, e1, e2, e3, e4, e5, e6, e7, e8, e9, e10, e11]) (Rs.Gr.refl _) rfl
    · intro V w' hG hs
      have e0 : V 0 = .agg #[.slice pw t.words.length cw, (.slice pt t.turns.length ct), (.int .i64 t.breath), mf] := hs 0 (by omega)
      have e1 : V 1 = .int .i64 a := hs 1 (by omega)
      have e2 : V 2 = .int .i64 b := hs 2 (by omega)
      have e3 : V 3 = .int .i64 (t.syl a b) := hs 3 (by omega)
      have e4 : V 4 = .int .i64 m := hs 4 (by omega)
      have e5 : V 5 = .bool true := hs 5 (by omega)
      have e6 : V 6 = .bool true := hs 6 (by omega)
      have e7 : V 7 = .agg #[.slice pw t.words.length cw, (.slice pt t.turns.length ct), (.int .i64 t.breath), mf] := hs 7 (by omega)
      have e8 : V 8 = .int .i64 a := hs 8 (by omega)
      have e9 : V 9 = .int .i64 b := hs 9 (by omega)
      have e10 : V 10 = .bool (t.right a b) := hs 10 (by omega)
      have e11 : V 11 = .bool (t.right a b) := hs 11 (by omega)
      have e12 : V 12 = .bool (t.right a b) := hs 12 (by omega)
      simp only [Rs.canon, Rs.dstOf, List.range_succ, List.range_zero, List.nil_append, List.cons_append, List.foldl_cons, List.foldl_nil, List.drop_succ_cons, List.drop_zero, List.drop_nil, List.getElem?_toArray, List.getElem?_cons_succ, List.getElem?_cons_zero, Option.bind_some, Act.put, List.getD_cons_succ, List.getD_cons_zero, List.setIfInBounds_toArray, List.set_cons_succ, List.set_cons_zero]
      rw [e0, e1, e2, e3, e4, e5, e6, e7, e8, e9, e10, e11, e12]
      clear e0 e1 e2 e3 e4 e5 e6 e7 e8 e9 e10 e11 e12 hs
      go_wp2
      go_ret
      exact ⟨ret_bool (by rw [HF.out]; simp [HSM.out]), hG⟩
  · have HSM := Lib.hid hsm
    go_enter Tryz.func92, Tryz.ntmps92
    go_wp2_with fail
    refine Rs.region_gen 13 [[], [], [], [0, 1, 2], [], [0, 1, 2, 3, 4], [0, 1, 2, 3, 4, 5], [0, 1, 2, 3, 4, 5, 6], [0, 1, 2, 3, 4, 5, 6], [0, 1, 2, 3, 4, 5, 6], [0, 1, 2, 3, 4, 5, 6, 7, 8, 9], [0, 1, 2, 3, 4, 5, 6, 7, 8, 9, 10], [0, 1, 2, 3, 4, 5, 6, 7, 8, 9, 10, 11]] [some 7, some 8, some 9, some 10, some 11, some 12, some 13, some 14, some 15, some 16, some 17, some 18, some 6] (spEv0 pw t.words.length cw (.slice pt t.turns.length ct) (.int .i64 t.breath) mf a b (t.syl a b) m (t.right a b)) (by kernel_rfl) (by kernel_rfl) rfl (spEv0_stable _ _ _ _ _ _ _ _ _ _ _) ?_ ?_
    · refine ⟨fun V w' hG hs => ?_, fun V w' hG hs => ?_, fun V w' hG hs => ?_, fun V w' hG hs => ?_, fun V w' hG hs => ?_, fun V w' hG hs => ?_, fun V w' hG hs => ?_, fun V w' hG hs => ?_, fun V w' hG hs => ?_, fun V w' hG hs => ?_, fun V w' hG hs => ?_, fun V w' hG hs => ?_, fun V w' hG hs => ?_, trivial⟩
      all_goals
        obtain ⟨k0, k1, k2, k3⟩ := blk4 ((hG.block X HXl).trans HX.out)
        have c0 := blk_cells ((hG.block Y HYl).trans HY.out) 0 _ rfl
      · rw [if_pos (by rfl)]
        exact Rs.GrowL.value (v := .agg #[.slice pw t.words.length cw, (.slice pt t.turns.length ct), (.int .i64 t.breath), mf]) (w' := w') (by simp [go_sem, Rs.look, k0, k1, k2, k3]) (Rs.Gr.refl _) rfl
      · rw [if_pos (by rfl)]
        exact Rs.GrowL.value (v := .int .i64 a) (w' := w') (by simp [go_sem, Rs.look]) (Rs.Gr.refl _) rfl
      · rw [if_pos (by rfl)]
        exact Rs.GrowL.value (v := .int .i64 b) (w' := w') (by simp [go_sem, Rs.look]) (Rs.Gr.refl _) rfl
      · have e0 : V 0 = .agg #[.slice pw t.words.length cw, (.slice pt t.turns.length ct), (.int .i64 t.breath), mf] := hs 0 (by simp)
        have e1 : V 1 = .int .i64 a := hs 1 (by simp)
        have e2 : V 2 = .int .i64 b := hs 2 (by simp)
        rw [if_pos (by rfl)]
        refine Rs.GrowL.call (f := 93) (args := #[.agg #[.slice pw t.words.length cw, .slice pt t.turns.length ct, .int .i64 t.breath, mf], .int .i64 a, .int .i64 b]) (by simp [go_sem, Rs.look, e0, e1, e2]) ?_
        refine (HSY.out w' hG).mono ?_
        rintro e w2 ⟨rfl, hB2⟩
        exact ⟨_, rfl, hB2, rfl⟩
      · rw [if_pos (by rfl)]
        exact Rs.GrowL.value (v := .int .i64 m) (w' := w') (by simp [go_sem, Rs.look, c0]) (Rs.Gr.refl _) rfl
      · have e0 : V 0 = .agg #[.slice pw t.words.length cw, (.slice pt t.turns.length ct), (.int .i64 t.breath), mf] := hs 0 (by simp)
        have e1 : V 1 = .int .i64 a := hs 1 (by simp)
        have e2 : V 2 = .int .i64 b := hs 2 (by simp)
        have e3 : V 3 = .int .i64 (t.syl a b) := hs 3 (by simp)
        have e4 : V 4 = .int .i64 m := hs 4 (by simp)
        rw [if_pos (by rfl)]
        exact Rs.GrowL.value (v := .bool false) (w' := w') (by simp [go_sem, Rs.look, e0, e1, e2, e3, e4, hsm]) (Rs.Gr.refl _) rfl
      · have e0 : V 0 = .agg #[.slice pw t.words.length cw, (.slice pt t.turns.length ct), (.int .i64 t.breath), mf] := hs 0 (by simp)
        have e1 : V 1 = .int .i64 a := hs 1 (by simp)
        have e2 : V 2 = .int .i64 b := hs 2 (by simp)
        have e3 : V 3 = .int .i64 (t.syl a b) := hs 3 (by simp)
        have e4 : V 4 = .int .i64 m := hs 4 (by simp)
        have e5 : V 5 = .bool false := hs 5 (by simp)
        rw [if_pos (by rfl)]
        exact Rs.GrowL.value (v := .bool false) (w' := w') (by simp [go_sem, Rs.look, e0, e1, e2, e3, e4, e5]) (Rs.Gr.refl _) rfl
      · have e0 : V 0 = .agg #[.slice pw t.words.length cw, (.slice pt t.turns.length ct), (.int .i64 t.breath), mf] := hs 0 (by simp)
        have e1 : V 1 = .int .i64 a := hs 1 (by simp)
        have e2 : V 2 = .int .i64 b := hs 2 (by simp)
        have e3 : V 3 = .int .i64 (t.syl a b) := hs 3 (by simp)
        have e4 : V 4 = .int .i64 m := hs 4 (by simp)
        have e5 : V 5 = .bool false := hs 5 (by simp)
        have e6 : V 6 = .bool false := hs 6 (by simp)
        rw [if_neg (by simp [Rs.wantB, e6])]
        rfl
      · have e0 : V 0 = .agg #[.slice pw t.words.length cw, (.slice pt t.turns.length ct), (.int .i64 t.breath), mf] := hs 0 (by simp)
        have e1 : V 1 = .int .i64 a := hs 1 (by simp)
        have e2 : V 2 = .int .i64 b := hs 2 (by simp)
        have e3 : V 3 = .int .i64 (t.syl a b) := hs 3 (by simp)
        have e4 : V 4 = .int .i64 m := hs 4 (by simp)
        have e5 : V 5 = .bool false := hs 5 (by simp)
        have e6 : V 6 = .bool false := hs 6 (by simp)
        rw [if_neg (by simp [Rs.wantB, e6])]
        rfl
      · have e0 : V 0 = .agg #[.slice pw t.words.length cw, (.slice pt t.turns.length ct), (.int .i64 t.breath), mf] := hs 0 (by simp)
        have e1 : V 1 = .int .i64 a := hs 1 (by simp)
        have e2 : V 2 = .int .i64 b := hs 2 (by simp)
        have e3 : V 3 = .int .i64 (t.syl a b) := hs 3 (by simp)
        have e4 : V 4 = .int .i64 m := hs 4 (by simp)
        have e5 : V 5 = .bool false := hs 5 (by simp)
        have e6 : V 6 = .bool false := hs 6 (by simp)
        rw [if_neg (by simp [Rs.wantB, e6])]
        rfl
      · have e0 : V 0 = .agg #[.slice pw t.words.length cw, (.slice pt t.turns.length ct), (.int .i64 t.breath), mf] := hs 0 (by simp)
        have e1 : V 1 = .int .i64 a := hs 1 (by simp)
        have e2 : V 2 = .int .i64 b := hs 2 (by simp)
        have e3 : V 3 = .int .i64 (t.syl a b) := hs 3 (by simp)
        have e4 : V 4 = .int .i64 m := hs 4 (by simp)
        have e5 : V 5 = .bool false := hs 5 (by simp)
        have e6 : V 6 = .bool false := hs 6 (by simp)
        have e7 : V 7 = undef := hs 7 (by simp)
        have e8 : V 8 = undef := hs 8 (by simp)
        have e9 : V 9 = undef := hs 9 (by simp)
        rw [if_neg (by simp [Rs.wantB, e6])]
        rfl
      · have e0 : V 0 = .agg #[.slice pw t.words.length cw, (.slice pt t.turns.length ct), (.int .i64 t.breath), mf] := hs 0 (by simp)
        have e1 : V 1 = .int .i64 a := hs 1 (by simp)
        have e2 : V 2 = .int .i64 b := hs 2 (by simp)
        have e3 : V 3 = .int .i64 (t.syl a b) := hs 3 (by simp)
        have e4 : V 4 = .int .i64 m := hs 4 (by simp)
        have e5 : V 5 = .bool false := hs 5 (by simp)
        have e6 : V 6 = .bool false := hs 6 (by simp)
        have e7 : V 7 = undef := hs 7 (by simp)
        have e8 : V 8 = undef := hs 8 (by simp)
        have e9 : V 9 = undef := hs 9 (by simp)
        have e10 : V 10 = undef := hs 10 (by simp)
        rw [if_pos (by rfl)]
        exact Rs.GrowL.value (v := .bool false) (w' := w') (by simp [go_sem, Rs.look, e0, e1, e2, e3, e4, e5, e6, e7, e8, e9, e10]) (Rs.Gr.refl _) rfl
      · have e0 : V 0 = .agg #[.slice pw t.words.length cw, (.slice pt t.turns.length ct), (.int .i64 t.breath), mf] := hs 0 (by simp)
        have e1 : V 1 = .int .i64 a := hs 1 (by simp)
        have e2 : V 2 = .int .i64 b := hs 2 (by simp)
        have e3 : V 3 = .int .i64 (t.syl a b) := hs 3 (by simp)
        have e4 : V 4 = .int .i64 m := hs 4 (by simp)
        have e5 : V 5 = .bool false := hs 5 (by simp)
        have e6 : V 6 = .bool false := hs 6 (by simp)
        have e7 : V 7 = undef := hs 7 (by simp)
        have e8 : V 8 = undef := hs 8 (by simp)
        have e9 : V 9 = undef := hs 9 (by simp)
        have e10 : V 10 = undef := hs 10 (by simp)
        have e11 : V 11 = .bool false := hs 11 (by simp)
        rw [if_pos (by rfl)]
        exact Rs.GrowL.value (v := .bool false) (w' := w') (by simp [go_sem, Rs.look, e0, e1, e2, e3, e4, e5, e6, e7, e8, e9, e10, e11]) (Rs.Gr.refl _) rfl
    · intro V w' hG hs
      have e0 : V 0 = .agg #[.slice pw t.words.length cw, (.slice pt t.turns.length ct), (.int .i64 t.breath), mf] := hs 0 (by omega)
      have e1 : V 1 = .int .i64 a := hs 1 (by omega)
      have e2 : V 2 = .int .i64 b := hs 2 (by omega)
      have e3 : V 3 = .int .i64 (t.syl a b) := hs 3 (by omega)
      have e4 : V 4 = .int .i64 m := hs 4 (by omega)
      have e5 : V 5 = .bool false := hs 5 (by omega)
      have e6 : V 6 = .bool false := hs 6 (by omega)
      have e7 : V 7 = undef := hs 7 (by omega)
      have e8 : V 8 = undef := hs 8 (by omega)
      have e9 : V 9 = undef := hs 9 (by omega)
      have e10 : V 10 = undef := hs 10 (by omega)
      have e11 : V 11 = .bool false := hs 11 (by omega)
      have e12 : V 12 = .bool false := hs 12 (by omega)
      simp only [Rs.canon, Rs.dstOf, List.range_succ, List.range_zero, List.nil_append, List.cons_append, List.foldl_cons, List.foldl_nil, List.drop_succ_cons, List.drop_zero, List.drop_nil, List.getElem?_toArray, List.getElem?_cons_succ, List.getElem?_cons_zero, Option.bind_some, Act.put, List.getD_cons_succ, List.getD_cons_zero, List.setIfInBounds_toArray, List.set_cons_succ, List.set_cons_zero]
      rw [e0, e1, e2, e3, e4, e5, e6, e7, e8, e9, e10, e11, e12]
      clear e0 e1 e2 e3 e4 e5 e6 e7 e8 e9 e10 e11 e12 hs
      go_wp2
      go_ret
      exact ⟨ret_bool (by rw [HF.out, decide_eq_false (Int.not_le.2 HSM.out)]; rfl), hG⟩
theorem entered_rightWithin1 : Entered 92 := fun args W => by kernel_rfl
theorem rightWithin_any (v0 v1 v2 v3 : Value) (m : Int) (w : World) :
    Calls Tryz.prog 42 #[.agg #[v0, v1, v2, v3], .int .i64 m] w fun e w' => e = .returned (.func (.func 92) #[] #[.pointer (some ⟨w.heap.size, 0, none⟩), .pointer (some ⟨w.heap.size + 1, 0, none⟩)]) ∧ w' = (w.alloc (.cells #[v0, v1, v2, v3] 84)).alloc (.cells #[.int .i64 m] 3) := by
  have hmf := mf
  go_enter Tryz.func42, Tryz.ntmps42
  go_wp2
  go_ret
  exact ⟨by simp, rfl⟩
theorem entered_sure : Entered 44 := fun args W => by kernel_rfl
theorem sure_may (t : Text) (pw pt : Option Addr) (cw ct : Nat) (mf : Value) (w : World) (hW : WkAt w t pw pt cw) :
    MayAt (.func (.func 44) #[.agg #[.slice pw t.words.length cw, .slice pt t.turns.length ct, .int .i64 t.breath, mf]] #[]) t.sureB t.words.length (fun k => k < w.heap.size) w :=
  ⟨44, _, _, rfl, entered_sure, fun W hH a b hab hb => sureB_any t pw pt cw ct mf a b (by omega) hb W ⟨hW.ok, hW.at_.hold hH (fun k hk => hk), hW.cap⟩⟩
theorem within_may (t : Text) (pw pt : Option Addr) (cw ct : Nat) (mf : Value) (m : Int) (X Y : Nat) (w : World) (hW : WkAt w t pw pt cw)
    (hX : w.heap[X]? = some (.cells #[.slice pw t.words.length cw, .slice pt t.turns.length ct, .int .i64 t.breath, mf] 84 (0, 0))) (hY : w.heap[Y]? = some (.cells #[.int .i64 m] 3 (0, 0))) :
    MayAt (.func (.func 92) #[] #[.pointer (some ⟨X, 0, none⟩), .pointer (some ⟨Y, 0, none⟩)]) (t.within m) t.words.length (fun k => k < w.heap.size) w := by
  have hXl := (Array.getElem?_eq_some_iff.1 hX).1
  have hYl := (Array.getElem?_eq_some_iff.1 hY).1
  refine ⟨92, _, _, rfl, entered_rightWithin1, fun W hH a b hab hb => ?_⟩
  exact rightWithin1_any t pw pt cw ct mf m a b (by omega) hb X Y W ⟨hW.ok, hW.at_.hold hH (fun k hk => hk), hW.cap⟩ ((hH.same X hXl hXl).trans hX) ((hH.same Y hYl hYl).trans hY)
/-- what Surest tells -/
def surL (t : Text) : List Int := if t.err = 0 then (Tx.fewest t.sureB t.words.length).1 else []
def surE (t : Text) : Int := if t.err = 0 then (Tx.fewest t.sureB t.words.length).2 else t.err
set_option maxHeartbeats 800000 in
theorem Surest_any (t : Text) (hl1 : t.words.length ≤ 1000000) (hl2 : t.turns.length ≤ 1000000) (pw pt : Option Addr) (cw ct : Nat) (hcw : t.words.length ≤ cw ∧ cw ≤ maxLen) (w : World) (hW : TxAt w t pw pt) :
    Calls Tryz.prog 10 #[.agg #[.slice pw t.words.length cw, .slice pt t.turns.length ct, .int .i64 t.breath]] w (ListPost (surL t) (surE t) w) := by
  have hmf := mf
  by_cases he : t.err = 0
  · have ok := err_ok he
    have h1 : surL t = (Tx.fewest t.sureB t.words.length).1 := if_pos he
    have h2 : surE t = (Tx.fewest t.sureB t.words.length).2 := if_pos he
    rw [h1, h2]
    have HS := Lib.hid (fun W (h : Below w.heap.size w W) => open_ok t he pw pt cw ct W (hW.below h))
    have HF := Lib.hid (fun mv W (h : Below w.heap.size w W) => fewest_any t.sureB t.words.length cw ok.n1 ok.n12 pw (.slice pt t.turns.length ct) (.int .i64 t.breath) _ W (sure_may t pw pt cw ct mv W ⟨ok, hW.below h, hcw⟩))
    clear hW he h1 h2 ok
    go_enter Tryz.func10, Tryz.ntmps10
    go_wp2_with fail
    refine (HS.out _ (below1 _ _)).mono ?_
    rintro e w5 ⟨rfl, hB5⟩
    have HB5 := Lib.hid (join (below1 _ _) hB5)
    clear hB5
    go_wp2_with fail
    refine (HF.out _ _ ?_).mono ?_
    · exact join HB5.out (below1 _ _)
    rintro e w6 ⟨v, rfl, hown, hB6⟩
    have HO := Lib.hid hown
    have HB6 := Lib.hid hB6
    clear hown hB6
    go_wp2
    go_ret2
    have hz := HB5.out.size
    exact ⟨_, rfl, own_base HO.out (by simp; omega), join (join HB5.out (below1 _ _)) HB6.out⟩
  · have h1 : surL t = [] := if_neg he
    have h2 : surE t = t.err := if_neg he
    rw [h1, h2]
    have HS := Lib.hid (fun W (h : Below w.heap.size w W) => open_bad t he hl1 hl2 pw pt cw ct W (hW.below h))
    have HE : (t.err != 0) = true := by simpa using he
    clear hW he h1 h2
    generalize t.err = er at HE HS ⊢
    go_enter Tryz.func10, Tryz.ntmps10
    go_wp2_with fail
    refine (HS.out _ (below1 _ _)).mono ?_
    rintro e w5 ⟨rfl, hB5⟩
    have HB5 := Lib.hid (join (below1 _ _) hB5)
    clear hB5
    go_wp2
    go_ret2
    exact ⟨_, rfl, own_none _ _ _ _, join HB5.out (below1 _ _)⟩
end Go.Proofs.YtadnggecnjdhiaaGreat
set_option linter.unusedSimpArgs false
set_option linter.unusedVariables false
namespace Go.Proofs.YtadnggecnjdhiaaGreat
open Go.RowKit Tx

def EvenPost (r : List Int × Int × Int) (w : World) (e : Ending) (w' : World) : Prop := ∃ v, e = .returned (.tuple #[v, .int .i64 r.2.1, .int .i64 r.2.2]) ∧ w'.ownsRow w.heap.size 3 1 v r.1.length (r.1.map (Value.int .i64)) ∧ Below w.heap.size w w'
theorem evGo_step (t : Text) (m : Nat) (h : (m : Int) ≤ t.breath) : evGo t (List.range' m (t.breath.toNat + 1 - m)) = if (fewest (t.within (m : Nat)) t.words.length).2 = 0 then ((fewest (t.within (m : Nat)) t.words.length).1, (m : Int), 0) else evGo t (List.range' (m + 1) (t.breath.toNat + 1 - (m + 1))) := by
  rw [show t.breath.toNat + 1 - m = (t.breath.toNat + 1 - (m + 1)) + 1 by omega, List.range'_succ, evGo]
set_option maxHeartbeats 2000000 in
set_option maxRecDepth 100000 in
theorem Even_any (t : Text) (hl1 : t.words.length ≤ 1000000) (hl2 : t.turns.length ≤ 1000000) (pw pt : Option Addr) (cw ct : Nat) (hcw : t.words.length ≤ cw ∧ cw ≤ maxLen) (w : World) (hW : TxAt w t pw pt) :
    Calls Tryz.prog 9 #[.agg #[.slice pw t.words.length cw, .slice pt t.turns.length ct, .int .i64 t.breath]] w (EvenPost (evR t) w) := by
  by_cases he : t.err = 0
  · have ok := err_ok he
    have h1 : evR t = evGo t (List.range' 1 (t.breath.toNat + 1 - 1)) := if_pos he
    have HEV := Lib.hid h1
    have HS := Lib.hid (fun W (h : Below w.heap.size w W) => open_ok t he pw pt cw ct W (hW.below h))
    have HF := Lib.hid (fun mv m X Y W (h : Below w.heap.size w W) hX hY => fewest_any (t.within m) t.words.length cw ok.n1 ok.n12 pw (.slice pt t.turns.length ct) (.int .i64 t.breath) _ W (within_may t pw pt cw ct mv m X Y W ⟨ok, hW.below h, hcw⟩ hX hY))
    have HOK := Lib.hid ok
    have hb40 := ok.b40
    have hb1 := ok.b1
    clear hW he h1 ok
    go_enter Tryz.func9, Tryz.ntmps9
    go_wp2_with fail
    refine (HS.out _ (below1 _ _)).mono ?_
    rintro e w5 ⟨rfl, hB5⟩
    have hz5 : w.heap.size < w5.heap.size := by have := hB5.size; simp at this; omega
    have HT5 := Lib.hid ((hB5.block w.heap.size (by simp)).trans (heap_last w _))
    have HB5 := Lib.hid (join (below1 _ _) hB5)
    obtain ⟨B5, hB5e⟩ : ∃ B5, B5 = w5.heap.size := ⟨_, rfl⟩
    clear hB5
    go_wp2_with fail
    go_loopw [7] (fun i wr => ∃ (m : Nat) (mv : Value), 1 ≤ m ∧ (m : Int) ≤ t.breath + 1 ∧ i = .int .i64 m ∧ Hid (wr.heap[w5.heap.size]? = some (.cells #[.slice pw t.words.length cw, .slice pt t.turns.length ct, .int .i64 t.breath, mv] 84 (0, 0))) ∧ Hid (wr.heap[w.heap.size]? = some (.cells #[.slice pw t.words.length cw, .slice pt t.turns.length ct, .int .i64 t.breath] 25 (0, 0))) ∧ Hid (Below w.heap.size w wr) ∧ Hid (evR t = evGo t (List.range' m (t.breath.toNat + 1 - m)))) (fun i _ => 100 - (intOf i).toNat)
    case atStart => exact ⟨1, _, by omega, by omega, rfl, Lib.hid (heap_last w5 _), Lib.hid ((Below.heap_alloc _ _ _ hz5).trans HT5.out), Lib.hid (join HB5.out (below1 _ _)), HEV⟩
    case round =>
      obtain ⟨w6, rfl⟩ : ∃ w6 : World, w6 = wr := ⟨_, rfl⟩
      obtain ⟨m, mv, hm1, hm2, rfl, HX, HT, HB, HE⟩ := hrel
      obtain ⟨k0, k1, k2, k3⟩ := blk4 HX.out
      obtain ⟨j0, j1, j2⟩ := blk3 HT.out
      have hz6 := (Array.getElem?_eq_some_iff.1 HX.out).1
      by_cases hlt : (m : Int) ≤ t.breath
      · have HST := Lib.hid (evGo_step t m hlt)
        go_wp2_with fail
        refine (rightWithin_any _ _ _ _ _ _).mono ?_
        rintro e w7 ⟨rfl, hw7⟩
        have hB7 : Below w6.heap.size w6 w7 := by rw [hw7]; exact (below1 _ _).alloc (by simp) _
        have hz7 : w7.heap.size = w6.heap.size + 2 := by rw [hw7]; simp
        have hX7 : w7.heap[w6.heap.size]? = some (.cells #[.slice pw t.words.length cw, .slice pt t.turns.length ct, .int .i64 t.breath, mv] 84 (0, 0)) := by
          rw [hw7, Below.heap_alloc _ _ _ (by simp)]; exact heap_last _ _
        have hY7 : w7.heap[w6.heap.size + 1]? = some (.cells #[.int .i64 m] 3 (0, 0)) := by
          rw [hw7]
          have := heap_last (w6.alloc (.cells #[.slice pw t.words.length cw, .slice pt t.turns.length ct, .int .i64 t.breath, mv] 84)) (.cells #[.int .i64 m] 3)
          rwa [World.size_alloc] at this
        have HX7 := Lib.hid hX7
        have HY7 := Lib.hid hY7
        have hx7 := (hB7.block _ hz6).trans HX.out
        have HT7 := Lib.hid ((hB7.block _ (by omega)).trans HT.out)
        have HB7 := Lib.hid (join HB.out hB7)
        clear hw7 hB7 hX7 hY7 k0 k1 k2 k3 j0 j1 j2
        obtain ⟨k0, k1, k2, k3⟩ := blk4 hx7
        have HXX := Lib.hid hx7
        have hfz : w7.frozen? ⟨w5.heap.size, 3, none⟩ = false := by simp [World.frozen?, hx7]
        clear hx7
        go_wp2_with fail
        obtain ⟨w8, hw8⟩ : ∃ w8, w8 = w7.setCell ⟨w5.heap.size, 3, none⟩ (.func (.func 92) #[] #[.pointer (some ⟨w6.heap.size, 0, none⟩), .pointer (some ⟨w6.heap.size + 1, 0, none⟩)]) := ⟨_, rfl⟩
        rw [← hw8]
        have hz8 : w8.heap.size = w6.heap.size + 2 := by rw [hw8]; simp [hz7]
        have hB8 : Below w.heap.size w w8 := by rw [hw8]; exact belS HB7.out HB5.out.size
        have hX8 : w8.heap[w6.heap.size]? = some (.cells #[.slice pw t.words.length cw, .slice pt t.turns.length ct, .int .i64 t.breath, mv] 84 (0, 0)) := by rw [hw8, Below.heap_setCell _ _ _ _ (show w6.heap.size ≠ w5.heap.size by omega)]; exact HX7.out
        have hY8 : w8.heap[w6.heap.size + 1]? = some (.cells #[.int .i64 m] 3 (0, 0)) := by rw [hw8, Below.heap_setCell _ _ _ _ (show w6.heap.size + 1 ≠ w5.heap.size by omega)]; exact HY7.out
        have HT8 : Hid (w8.heap[w.heap.size]? = some (.cells #[.slice pw t.words.length cw, .slice pt t.turns.length ct, .int .i64 t.breath] 25 (0, 0))) := Lib.hid (by rw [hw8, Below.heap_setCell _ _ _ _ (show w.heap.size ≠ w5.heap.size by omega)]; exact HT7.out)
        have HXW : Hid (w8.heap[w5.heap.size]? = some (.cells #[.slice pw t.words.length cw, .slice pt t.turns.length ct, .int .i64 t.breath, .func (.func 92) #[] #[.pointer (some ⟨w6.heap.size, 0, none⟩), .pointer (some ⟨w6.heap.size + 1, 0, none⟩)]] 84 (0, 0))) := Lib.hid (by rw [hw8]; exact heap_set_same _ HXX.out)
        have HB8 := Lib.hid hB8
        have hc := HF.out mv m w6.heap.size (w6.heap.size + 1) w8 hB8 hX8 hY8
        obtain ⟨fw, hfw⟩ : ∃ fw, fw = fewest (t.within (m : Nat)) t.words.length := ⟨_, rfl⟩
        rw [← hfw] at HST hc
        have HC := Lib.hid hc
        clear hc hw8 hB8 hX8 hY8 hfw k0 k1 k2 k3 HXX HB7 HX7 HY7 HT7 hz7
        obtain ⟨f1, f2⟩ := fw
        refine HC.out.mono ?_
        rintro e w9 ⟨v, rfl, hown, hB9⟩
        have HO := Lib.hid hown
        have HT9 := Lib.hid ((hB9.block _ (by omega)).trans HT8.out)
        have HX9 := Lib.hid ((hB9.block _ (by omega)).trans HXW.out)
        have HB9 := Lib.hid (join HB8.out hB9)
        have hz9 := hB9.size
        clear hown hB9
        dsimp only at HST HO ⊢
        by_cases hf : f2 = 0
        · subst hf
          have HEE : Hid (evR t = (f1, (m : Int), 0)) := Lib.hid (by rw [HE.out, HST.out, if_pos rfl])
          clear HST
          go_wp2
          go_ret3
          exact ⟨_, by rw [HEE.out]; rfl, by rw [HEE.out]; exact own_base HO.out (by omega), HB9.out⟩
        · have HEE : Hid (evR t = evGo t (List.range' (m + 1) (t.breath.toNat + 1 - (m + 1)))) := Lib.hid (by rw [HE.out, HST.out, if_neg hf])
          have hf2 : (f2 == 0) = false := by simpa using hf
          clear HST
          go_wp2
          go_roundw
          case rel => exact ⟨m + 1, _, by omega, by omega, by go_num, HX9, HT9, HB9, HEE⟩
          case measure => simp [intOf]; omega
      · have HEE : Hid (evR t = ([], 0, 6)) := Lib.hid (by rw [HE.out, show t.breath.toNat + 1 - m = 0 by omega]; rfl)
        go_wp2
        go_ret3
        exact ⟨_, by rw [HEE.out]; rfl, by rw [HEE.out]; exact own_none _ _ _ _, HB.out⟩
  · have h1 : evR t = ([], 0, t.err) := if_neg he
    rw [h1]
    have HS := Lib.hid (fun W (h : Below w.heap.size w W) => open_bad t he hl1 hl2 pw pt cw ct W (hW.below h))
    have HE : (t.err != 0) = true := by simpa using he
    clear hW he h1
    generalize t.err = er at HE HS ⊢
    go_enter Tryz.func9, Tryz.ntmps9
    go_wp2_with fail
    refine (HS.out _ (below1 _ _)).mono ?_
    rintro e w5 ⟨rfl, hB5⟩
    have HB5 := Lib.hid (join (below1 _ _) hB5)
    clear hB5
    go_wp2
    go_ret3
    exact ⟨_, rfl, own_none _ _ _ _, join HB5.out (below1 _ _)⟩
end Go.Proofs.YtadnggecnjdhiaaGreat
