/- Contracts of the code and of the reference, part 3. -/
import Derived.Test.YtadnggecnjdhiaaMb
import Derived.Laws.Rows
import Derived.IntWalk
import Derived.Deep.RegionHeld3
set_option linter.unusedSimpArgs false
set_option linter.unusedVariables false
namespace Go.Proofs.Ytadnggecnjdhiaa
open Go.RowKit Tx
attribute [local go_sem] Oper.semAt_some

/-- an array of numbers, as a value -/
def arrOf (M : List Int) : Array Value := (M.map (Value.int .i64)).toArray
theorem arrOf_size (M : List Int) : (arrOf M).size = M.length := by simp [arrOf]
theorem arrOf_get {M : List Int} {k : Nat} (h : k < M.length) : (arrOf M)[k]? = some (.int .i64 (M.getD k 0)) := by simp [arrOf, h]
theorem arrOf_set (M : List Int) (k : Nat) (x : Int) : (arrOf M).setIfInBounds k (.int .i64 x) = arrOf (M.set k x) := by simp [arrOf, List.map_set]
theorem arrOf_one (M : List Int) : (arrOf M).all (·.oneCell') = true := by
  unfold arrOf
  rw [Array.all_eq_true]
  intro i hi
  simp [Value.oneCell']
theorem und_marks : Try.prog.underlying 143 = some (.array 13 3) := by kernel_rfl
theorem size_marks {A : Array Value} (h : A.size = 13) : (Try.prog.info? 143).map (·.size) = some A.size := by rw [h]; kernel_rfl
theorem mixed : Try.prog.follows .mixedOrders = true := by kernel_rfl

/-- the marks that loops over a function have left, the latest first, between B and C -/
def Ends (B : Nat) (w : World) : Nat → List Deferred → Prop
  | _, [] => True
  | C, d :: ds => ∃ D, d = { target := .collected D, args := #[] } ∧ B ≤ D ∧ D < C ∧ w.heap[D]? = some (.deferred (some [])) ∧ Ends B w D ds
theorem Ends.mono {B : Nat} {w : World} : ∀ {ds : List Deferred} {C C' : Nat}, Ends B w C ds → C ≤ C' → Ends B w C' ds
  | [], _, _, _, _ => trivial
  | _ :: _, _, _, ⟨D, h1, h2, h3, h4, h5⟩, hc => ⟨D, h1, h2, Nat.lt_of_lt_of_le h3 hc, h4, h5⟩
theorem Ends.keep {B : Nat} {w w' : World} : ∀ {ds : List Deferred} {C : Nat}, Ends B w C ds → (∀ k, B ≤ k → k < C → w'.heap[k]? = w.heap[k]?) → Ends B w' C ds
  | [], _, _, _ => trivial
  | _ :: _, _, ⟨D, h1, h2, h3, h4, h5⟩, hk => ⟨D, h1, h2, h3, (hk D h2 h3).trans h4, h5.keep (fun k hb hc => hk k hb (Nat.lt_trans hc h3))⟩
theorem leaves_ends {F : Fence} {n : Nat} {P : Program} {fn : Func} {tmps : Array Value} {R : Ending → World → Prop} {B : Nat} {u : FrameMode} (hu : u ≠ .run) : ∀ (ds : List Deferred) (C : Nat) (w : World), Ends B w C ds → C ≤ w.heap.size →
    (∀ w', Hold (fun k => k < B) w w' → LeavesIn F n P fn tmps R [] u w') → LeavesInM F n P fn tmps R ds u w
  | [], _, w, _, _, hR => hR w (Hold.refl _ _)
  | d :: ds, C, w, ⟨D, h1, h2, h3, h4, h5⟩, hC, hR => by
    subst h1
    refine ⟨hu, .inl ⟨D, _, rfl, run_takeDeferred h4, leaves_ends hu ds D _ (h5.keep (fun k _ hk => World.putObj_heap_other (by omega))) (by simp; omega) (fun w' hh => hR w' (Hold.trans ?_ hh))⟩⟩
    exact .of_below (putObj_below (B := B) _ _ _ h2 (by omega)) (fun k hk _ => hk)
theorem Hold.setCell {Kp : Nat → Prop} (w : World) (a : Addr) (v : Value) (h : ¬ Kp a.block) : Hold Kp w (w.setCell a v) := ⟨rfl, rfl, rfl, by simp, fun k hk _ => Below.heap_setCell _ _ _ _ (fun e => h (e ▸ hk))⟩

theorem hold_setCells (g : Nat) : ∀ (vs : List Value) (o : Nat) (w : World), Hold (fun j => j ≠ g) w (w.setCells g o vs)
  | [], _, w => Hold.refl _ w
  | v :: r, o, w => (Hold.setCell w ⟨g, o, none⟩ v (fun h => h rfl)).trans (hold_setCells g r (o + 1) _)
theorem low1_len (m : Marks) (a b : Nat) : (low1 m a b).length = m.length := by simp [low1]
/-- marks that aren't great -/
def Small (m : Marks) : Prop := m.length = 13 ∧ ∀ k, k < 13 → 0 ≤ m.getD k 0 ∧ m.getD k 0 ≤ 1000
theorem Small.low1 {m : Marks} (h : Small m) (a b : Nat) (ha : a < 13) : Small (low1 m a b) := by
  refine ⟨by rw [low1_len]; exact h.1, fun k hk => ?_⟩
  unfold Tx.low1
  have h1 := h.2 k hk
  have h2 := h.2 a ha
  simp only [List.getD_eq_getElem?_getD, List.getElem?_set] at *
  by_cases hkb : b = k
  · subst hkb; rw [if_pos rfl, if_pos (by rw [h.1]; exact hk)]; simp; omega
  · rw [if_neg hkb]; exact h1
theorem Small.row {may : Nat → Nat → Bool} {n : Nat} {m : Marks} (h : Small m) (a : Nat) (ha : a < 13) : ∀ l : List Nat, Small (l.foldl (fun m b => Tx.low1 m a b) m) := by
  intro l
  induction l generalizing m with
  | nil => exact h
  | cons x l ih => exact ih (h.low1 a x ha)

/-- what holds in lowered -/
structure LwC (n cw : Nat) (pw : Option Addr) (v1 v2 mv : Value) (w W : World) (M : Marks) (C : Nat) (ds : List Deferred) : Prop where
  wk : W.heap[w.heap.size]? = some (.cells #[.slice pw n cw, v1, v2, mv] 125 (0, 0))
  mks : W.heap[w.heap.size + 1]? = some (.cells (arrOf M) 143 (0, 0))
  res : W.heap[w.heap.size + 1 + 1]? = some (.cells (arrOf (List.replicate 13 0)) 143 (0, 0))
  bel : Below w.heap.size w W
  ends : Ends (w.heap.size + 1 + 1 + 1) W C ds
  sz : w.heap.size + 1 + 1 + 1 ≤ W.heap.size ∧ C ≤ W.heap.size
  small : Small M
theorem LwC.below {n cw : Nat} {pw : Option Addr} {v1 v2 mv : Value} {w W W' : World} {M : Marks} {C : Nat} {ds : List Deferred} (h : LwC n cw pw v1 v2 mv w W M C ds) {B : Nat} (h3 : w.heap.size + 1 + 1 + 1 ≤ B) (hC : C ≤ B) (hB : Below B W W') : LwC n cw pw v1 v2 mv w W' M C ds :=
  ⟨(hB.block _ (by omega)).trans h.wk, (hB.block _ (by omega)).trans h.mks, (hB.block _ (by omega)).trans h.res, h.bel.trans (hB.mono (by omega)), h.ends.keep (fun k _ hk => hB.block k (by omega)),
    ⟨Nat.le_trans h.sz.1 hB.size, Nat.le_trans h.sz.2 hB.size⟩, h.small⟩
theorem run_min (P : Program) (x y : Int) (w : World) : True := trivial
def spLw (Mb a b : Nat) (ma mb : Int) : Nat → List Value → Value → World → Prop
  | 0, _, v, _ => v = .int .i64 b
  | 1, _, v, _ => v = .int .i64 b
  | 2, _, v, _ => v = .pointer (some ⟨Mb, b, none⟩)
  | 3, _, v, _ => v = .int .i64 mb
  | 4, _, v, _ => v = .int .i64 a
  | 5, _, v, _ => v = .pointer (some ⟨Mb, a, none⟩)
  | 6, _, v, _ => v = .int .i64 ma
  | 7, _, v, _ => v = .int .i64 (ma + 1)
  | 8, _, v, _ => v = .int .i64 (min mb (ma + 1))
  | 9, _, v, _ => v = .pointer (some ⟨Mb, b, none⟩)
  | _, _, _, _ => False
theorem spLw_stable (Mb a b : Nat) (ma mb : Int) : ∀ i L v w w', spLw Mb a b ma mb i L v w → (∃ nq, w' = w.drewN nq) → spLw Mb a b ma mb i L v w' := by
  intro i L v w w' h hg
  match i with
  | 0 => exact h
  | 1 => exact h
  | 2 => exact h
  | 3 => exact h
  | 4 => exact h
  | 5 => exact h
  | 6 => exact h
  | 7 => exact h
  | 8 => exact h
  | 9 => exact h

set_option maxHeartbeats 2000000 in
set_option maxRecDepth 100000 in
theorem lowered_any (may : Nat → Nat → Bool) (n cw : Nat) (hn : n ≤ 12) (pw : Option Addr) (v1 v2 mv : Value) (M : Marks) (hM : Small M) (w : World) (hMay : MayAt mv may n (fun k => k < w.heap.size) w) :
    Calls Try.prog 149 #[.agg #[.slice pw n cw, v1, v2, mv], .agg (arrOf M)] w fun e w' => e = .returned (.agg (arrOf (Tx.lowered may n M))) ∧ Below w.heap.size w w' := by
  have HMAY := Lib.hid hMay
  have HSM := Lib.hid hM
  have hAsz := size_marks (by rw [arrOf_size, hM.1] : (arrOf M).size = 13)
  have HASZ := Lib.hid hAsz
  clear hMay hM hAsz
  obtain ⟨m, hm9⟩ : ∃ m : Nat, 9 ≤ m := ⟨9, Nat.le_refl _⟩
  refine (callsIn_wide (n := m)).1 ?_
  refine callsIn_of_wp_marks Try.func149 rfl trivial ?_ rfl
  simp only [Try.ntmps149, List.size_toArray, List.length_cons, List.length_nil, Nat.reduceAdd, Nat.reduceSub, Array.replicate_succ, Array.replicate_zero, List.push_toArray, List.append_toArray, List.nil_append, List.cons_append]
  gi_wp2_with fail
  refine ⟨trivial, (fun h => by cases h), ?_⟩
  refine (callsIn_wide.2 (end_any _ _ _ _ _ _ _)).mono ?_
  rintro e w' ⟨rfl, rfl⟩
  have hB4 : ∀ o1 o2 o3 o4, Below w.heap.size w ((((w.alloc o1).alloc o2).alloc o3).alloc o4) := fun o1 o2 o3 o4 => (((below1 _ _).alloc (by simp) _).alloc (by simp; omega) _).alloc (by simp; omega) _
  generalize hW3 : (((w.alloc (Obj.cells #[Value.slice pw n cw, v1, v2, mv] 125)).alloc (Obj.cells (arrOf M) 143)).alloc (Obj.cells #[Value.int IntKind.i64 0, Value.int IntKind.i64 0, Value.int IntKind.i64 0, Value.int IntKind.i64 0, Value.int IntKind.i64 0, Value.int IntKind.i64 0, Value.int IntKind.i64 0, Value.int IntKind.i64 0, Value.int IntKind.i64 0, Value.int IntKind.i64 0, Value.int IntKind.i64 0, Value.int IntKind.i64 0, Value.int IntKind.i64 0] 143)).alloc (Obj.cells #[Value.slice pw n cw, v1, v2, mv] 125) = W3
  have hA3 : LwC n cw pw v1 v2 mv w W3 M W3.heap.size [] := by
    have hb3 : Below w.heap.size w W3 := by rw [← hW3]; exact hB4 _ _ _ _
    refine ⟨?_, ?_, ?_, hb3, trivial, ⟨?_, Nat.le_refl _⟩, HSM.out⟩
    · rw [← hW3, Below.heap_alloc _ _ _ (by first | (simp; done) | (simp; omega)), Below.heap_alloc _ _ _ (by first | (simp; done) | (simp; omega)), Below.heap_alloc _ _ _ (by simp)]; exact heap_last _ _
    · rw [← hW3, Below.heap_alloc _ _ _ (by first | (simp; done) | (simp; omega)), Below.heap_alloc _ _ _ (by simp)]
      have := heap_last (w.alloc (Obj.cells #[Value.slice pw n cw, v1, v2, mv] 125)) (Obj.cells (arrOf M) 143)
      rwa [World.size_alloc] at this
    · rw [← hW3, Below.heap_alloc _ _ _ (by simp)]
      have := heap_last ((w.alloc (Obj.cells #[Value.slice pw n cw, v1, v2, mv] 125)).alloc (Obj.cells (arrOf M) 143)) (Obj.cells (arrOf (List.replicate 13 0)) 143)
      rwa [World.size_alloc, World.size_alloc] at this
    · rw [← hW3]; simp
  clear hW3 hB4
  gi_wp2_with fail
  refine wpIn_loop (fun a' w' => ∃ (k : Nat) (ds : List Deferred) (u5 u6 u10 u11 u12 u13 u14 u15 u16 u17 u18 u19 u20 u21 u22 u23 u24 u25 u26 u27 : Value), k ≤ n ∧ a' = { tmps := #[.agg #[.slice pw n cw, v1, v2, mv], .agg (arrOf M), .pointer (some ⟨w.heap.size, 0, none⟩), .pointer (some ⟨w.heap.size + 1, 0, none⟩), .pointer (some ⟨w.heap.size + 1 + 1, 0, none⟩), u5, u6, .agg #[.slice pw n cw, v1, v2, mv], .int .i64 n, .int .i64 k, u10, u11, u12, u13, u14, u15, u16, u17, u18, u19, u20, u21, u22, u23, u24, u25, u26, u27], defers := ds } ∧ LwC n cw pw v1 v2 mv w w' ((List.range k).foldl (lowRow may n) M) w'.heap.size ds) (fun a' _ => n - (intOf (a'.tmps.getD 9 undef)).toNat) ⟨0, [], _, _, _, _, _, _, _, _, _, _, _, _, _, _, _, _, _, _, _, _, Nat.zero_le _, rfl, hA3⟩ ?_
  clear hA3
  rintro a' wr ⟨k, ds, u5, u6, u10, u11, u12, u13, u14, u15, u16, u17, u18, u19, u20, u21, u22, u23, u24, u25, u26, u27, hk, rfl, hA⟩
  have HA := Lib.hid hA
  have hsz0 := hA.sz.1
  have f0 := blk_cells hA.wk 0 _ rfl
  have f1 := blk_cells hA.wk 1 _ rfl
  have f2 := blk_cells hA.wk 2 _ rfl
  have f3 := blk_cells hA.wk 3 _ rfl
  clear hA
  generalize hMk : (List.range k).foldl (lowRow may n) M = Mk at HA
  have HMK := Lib.hid hMk
  clear hMk
  by_cases hlt : k < n
  · have hlt' : (k : Int) < n := by omega
    have hs0 : w.heap.size < wr.heap.size := by omega
    gi_wp2_with fail
    refine ⟨trivial, (fun h => by cases h), ?_⟩
    refine (callsIn_wide.2 (breaths_any _ _ _ _ _ _)).mono ?_
    rintro e W4 ⟨rfl, hW4⟩
    have hB4 : Below wr.heap.size wr W4 := by rw [← hW4]; exact (((below1 _ _).alloc (by simp) _).alloc (by simp; omega) _)
    have hs4 : W4.heap.size = wr.heap.size + 3 := by rw [← hW4]; simp
    have k0 : W4.cell? ⟨wr.heap.size, 0, none⟩ = some (.int .i64 k) := by rw [← hW4]; clear hW4; go_simp
    have hC4 : BrCap W4 n cw pw v1 v2 mv k (wr.heap.size + 1 + 1) (wr.heap.size + 1) := by
      refine ⟨?_, ?_⟩
      · rw [← hW4]
        have := heap_last ((wr.alloc (Obj.cells #[Value.int IntKind.i64 k] 3)).alloc (Obj.cells #[Value.slice pw n cw, v1, v2, mv] 125)) (Obj.cells #[Value.int IntKind.i64 k] 3)
        rwa [World.size_alloc, World.size_alloc] at this
      · rw [← hW4, Below.heap_alloc _ _ _ (by simp)]
        have := heap_last (wr.alloc (Obj.cells #[Value.int IntKind.i64 k] 3)) (Obj.cells #[Value.slice pw n cw, v1, v2, mv] 125)
        rwa [World.size_alloc] at this
    have hM4 : MayAt mv may n (fun j => j ≠ w.heap.size + 1 ∧ j < W4.heap.size) W4 :=
      (HMAY.out.hold (.of_below (HA.out.bel.trans (hB4.mono (by omega))) (fun _ h _ => h))).mono (fun j hj _ => ⟨by omega, by omega⟩)
    have hA4 := HA.out.below (C := wr.heap.size) hsz0 (Nat.le_refl _) hB4
    clear hW4 f0 f1 f2 f3
    gi_wp2_with fail
    refine range_of (gf := 166) (lb := #[.pointer (some ⟨wr.heap.size + 1 + 1, 0, none⟩), .pointer (some ⟨wr.heap.size + 1, 0, none⟩)]) rfl (enters_of Try.func166 (by kernel_rfl) rfl)
      (breaths_seq (m - 1) (fun j => j ≠ w.heap.size + 1) may n cw hn pw v1 v2 mv k _ _ hk W4 ⟨by omega, by omega⟩ hC4 hM4) (Below.refl _ _) (fun x vs W h => by rw [h]; rfl)
      (fun pre W' => LwC n cw pw v1 v2 mv w W' (pre.foldl (fun m b => low1 m k b) Mk) W4.heap.size ds ∧ W'.cell? ⟨wr.heap.size, 0, none⟩ = some (.int .i64 k) ∧ W4.heap.size ≤ W'.heap.size)
      (fun _ _ _ => False) ?lwI ?lwX ⟨⟨hA4.wk, hA4.mks, hA4.res, hA4.bel, hA4.ends.mono (by omega), ⟨by omega, Nat.le_refl _⟩, hA4.small⟩, k0, Nat.le_refl _⟩ ?round ?done ?stop
    case lwI =>
      rintro s' X Y ⟨i1, i2, i3⟩ hb
      exact ⟨i1.below (by omega) (Nat.le_refl _) hb, (hb.cell (p := ⟨wr.heap.size, 0, none⟩) (show wr.heap.size < W4.heap.size by omega)).trans i2, Nat.le_trans i3 hb.size⟩
    case lwX => rintro c s' X Y h; exact h.elim
    case stop => rintro D c pre W' hD h; exact h.elim
    case done =>
      rintro D W' hD ⟨i1, i2, i3⟩ hK
      have hDl := (Array.getElem?_eq_some_iff.1 hK).1
      have hnext : (List.range (k + 1)).foldl (lowRow may n) M = (brs may n k).foldl (fun m b => low1 m k b) Mk := by
        rw [List.range_succ, List.foldl_append, HMK.out]; rfl
      gi_wp2
      refine ⟨⟨k + 1, _, _, _, _, _, _, _, _, _, _, _, _, _, _, _, _, _, _, _, _, _, by omega, rfl, by rw [hnext]; exact ⟨i1.wk, i1.mks, i1.res, i1.bel, ⟨D, rfl, by omega, hDl, hK, i1.ends.mono (Nat.le_of_eq hD.symm)⟩, ⟨i1.sz.1, Nat.le_refl _⟩, i1.small⟩⟩, ?_⟩
      simp [intOf]
      omega
    case round =>
      rintro lq pre b post vs W5 hl1 hl2 - hL rfl ⟨i1, i2, i3⟩
      have hb : k < b ∧ b ≤ n := by
        have : b ∈ brs may n k := by rw [hL]; simp
        unfold brs at this
        have := (List.mem_filter.1 this).1
        rw [List.mem_range'_1] at this; omega
      obtain ⟨hb1, hb2⟩ := hb
      clear i1 i2 i3 hA4 hC4 hM4
      gi_wp2
      refine ⟨Below.refl _ _, ?_⟩
      rintro Wb hg hsz ⟨j1, j2, j3⟩
      have hcb := blk_cells j1.mks b _ (arrOf_get (by rw [j1.small.1]; omega))
      have hca := blk_cells j1.mks k _ (arrOf_get (by rw [j1.small.1]; omega))
      have hba := j1.small.2 k (by omega)
      have hbb := j1.small.2 b (by omega)
      have HL1 := Lib.hid (show low1 (pre.foldl (fun m b => low1 m k b) Mk) k b = (pre.foldl (fun m b => low1 m k b) Mk).set b (min ((pre.foldl (fun m b => low1 m k b) Mk).getD b 0) ((pre.foldl (fun m b => low1 m k b) Mk).getD k 0 + 1)) from rfl)
      generalize (pre.foldl (fun m b => low1 m k b) Mk).getD k 0 = ma at hca hba HL1
      generalize (pre.foldl (fun m b => low1 m k b) Mk).getD b 0 = mb at hcb hbb HL1
      have hsum : IntKind.i64.wrap (ma + 1) = ma + 1 := IntWalk.i64_in _ (by omega)
      have hmin : (if ma + 1 < mb then ma + 1 else mb) = min mb (ma + 1) := by rw [Int.min_def]; split <;> split <;> omega
      have hb13 : b < 13 := by omega
      have hk13 : k < 13 := by omega
      have hb13' : (b : Int) < 13 := by omega
      have hk13' : (k : Int) < 13 := by omega
      obtain ⟨Mb, hMb⟩ : ∃ Mb, Mb = w.heap.size + 1 := ⟨_, rfl⟩
      have J1 := Lib.hid j1
      have HMb := Lib.hid hMb
      have hca0 := j2
      have hfz : Wb.frozen? ⟨Mb, b, none⟩ = false := by simp [World.frozen?, hMb, j1.mks]
      rw [← hMb] at hcb hca
      clear j1 hg
      gi_wp2_with fail
      rw [← hMb]
      clear hMb
      refine Rg.region_genI lq (by kernel_rfl) Rg.qt 10 [[], [], [1], [1, 2], [], [4], [4, 5], [4, 5, 6], [1, 2, 3, 4, 5, 6, 7], [0, 1, 2, 3, 4, 5, 6, 7, 8]] [some 16, some 17, some 18, some 19, some 20, some 21, some 22, some 23, some 24, some 25] (spLw Mb k b ma mb) (by kernel_rfl) (by kernel_rfl) rfl (spLw_stable _ _ _ _ _) ?_ ?_
      · refine ⟨fun V w' hG hs => ?_, fun V w' hG hs => ?_, fun V w' hG hs => ?_, fun V w' hG hs => ?_, fun V w' hG hs => ?_, fun V w' hG hs => ?_, fun V w' hG hs => ?_, fun V w' hG hs => ?_, fun V w' hG hs => ?_, fun V w' hG hs => ?_, trivial⟩
        all_goals
          obtain ⟨nq, rfl⟩ := hG
        · rw [if_pos (by rfl)]
          exact Rg.GrowL.value (v := .int .i64 b) (w' := Wb.drewN nq) (by simp [go_sem, Rs.look]) (Rg.qt.refl _) rfl
        · rw [if_pos (by rfl)]
          exact Rg.GrowL.value (v := .int .i64 b) (w' := Wb.drewN nq) (by simp [go_sem, Rs.look]) (Rg.qt.refl _) rfl
        · have e1 : V 1 = .int .i64 b := hs 1 (by simp)
          rw [if_pos (by rfl)]
          exact Rg.GrowL.value (v := .pointer (some ⟨Mb, b, none⟩)) (w' := Wb.drewN nq) (by simp [go_sem, Rs.look, e1, hb13']) (Rg.qt.refl _) rfl
        · have e1 : V 1 = .int .i64 b := hs 1 (by simp)
          have e2 : V 2 = .pointer (some ⟨Mb, b, none⟩) := hs 2 (by simp)
          rw [if_pos (by rfl)]
          exact Rg.GrowL.value (v := .int .i64 mb) (w' := Wb.drewN nq) (by simp [go_sem, Rs.look, e1, e2, hcb]) (Rg.qt.refl _) rfl
        · rw [if_pos (by rfl)]
          exact Rg.GrowL.value (v := .int .i64 k) (w' := Wb.drewN nq) (by simp [go_sem, Rs.look, hca0]) (Rg.qt.refl _) rfl
        · have e4 : V 4 = .int .i64 k := hs 4 (by simp)
          rw [if_pos (by rfl)]
          exact Rg.GrowL.value (v := .pointer (some ⟨Mb, k, none⟩)) (w' := Wb.drewN nq) (by simp [go_sem, Rs.look, e4, hk13']) (Rg.qt.refl _) rfl
        · have e4 : V 4 = .int .i64 k := hs 4 (by simp)
          have e5 : V 5 = .pointer (some ⟨Mb, k, none⟩) := hs 5 (by simp)
          rw [if_pos (by rfl)]
          exact Rg.GrowL.value (v := .int .i64 ma) (w' := Wb.drewN nq) (by simp [go_sem, Rs.look, e4, e5, hca]) (Rg.qt.refl _) rfl
        · have e4 : V 4 = .int .i64 k := hs 4 (by simp)
          have e5 : V 5 = .pointer (some ⟨Mb, k, none⟩) := hs 5 (by simp)
          have e6 : V 6 = .int .i64 ma := hs 6 (by simp)
          rw [if_pos (by rfl)]
          exact Rg.GrowL.value (v := .int .i64 (ma + 1)) (w' := Wb.drewN nq) (by simp [go_sem, Rs.look, e4, e5, e6, hsum]) (Rg.qt.refl _) rfl
        · have e1 : V 1 = .int .i64 b := hs 1 (by simp)
          have e2 : V 2 = .pointer (some ⟨Mb, b, none⟩) := hs 2 (by simp)
          have e3 : V 3 = .int .i64 mb := hs 3 (by simp)
          have e4 : V 4 = .int .i64 k := hs 4 (by simp)
          have e5 : V 5 = .pointer (some ⟨Mb, k, none⟩) := hs 5 (by simp)
          have e6 : V 6 = .int .i64 ma := hs 6 (by simp)
          have e7 : V 7 = .int .i64 (ma + 1) := hs 7 (by simp)
          rw [if_pos (by rfl)]
          exact Rg.GrowL.value (v := .int .i64 (min mb (ma + 1))) (w' := Wb.drewN nq) (by simp [go_sem, Rs.look, e1, e2, e3, e4, e5, e6, e7, hmin]) (Rg.qt.refl _) rfl
        · have e0 : V 0 = .int .i64 b := hs 0 (by simp)
          have e1 : V 1 = .int .i64 b := hs 1 (by simp)
          have e2 : V 2 = .pointer (some ⟨Mb, b, none⟩) := hs 2 (by simp)
          have e3 : V 3 = .int .i64 mb := hs 3 (by simp)
          have e4 : V 4 = .int .i64 k := hs 4 (by simp)
          have e5 : V 5 = .pointer (some ⟨Mb, k, none⟩) := hs 5 (by simp)
          have e6 : V 6 = .int .i64 ma := hs 6 (by simp)
          have e7 : V 7 = .int .i64 (ma + 1) := hs 7 (by simp)
          have e8 : V 8 = .int .i64 (min mb (ma + 1)) := hs 8 (by simp)
          rw [if_pos (by rfl)]
          exact Rg.GrowL.value (v := .pointer (some ⟨Mb, b, none⟩)) (w' := Wb.drewN nq) (by simp [go_sem, Rs.look, e0, e1, e2, e3, e4, e5, e6, e7, e8, hb13']) (Rg.qt.refl _) rfl
      · intro V w' hG hs
        have e0 : V 0 = .int .i64 b := hs 0 (by omega)
        have e1 : V 1 = .int .i64 b := hs 1 (by omega)
        have e2 : V 2 = .pointer (some ⟨Mb, b, none⟩) := hs 2 (by omega)
        have e3 : V 3 = .int .i64 mb := hs 3 (by omega)
        have e4 : V 4 = .int .i64 k := hs 4 (by omega)
        have e5 : V 5 = .pointer (some ⟨Mb, k, none⟩) := hs 5 (by omega)
        have e6 : V 6 = .int .i64 ma := hs 6 (by omega)
        have e7 : V 7 = .int .i64 (ma + 1) := hs 7 (by omega)
        have e8 : V 8 = .int .i64 (min mb (ma + 1)) := hs 8 (by omega)
        have e9 : V 9 = .pointer (some ⟨Mb, b, none⟩) := hs 9 (by omega)
        simp only [Rs.canon, Rs.dstOf, List.range_succ, List.range_zero, List.nil_append, List.cons_append, List.foldl_cons, List.foldl_nil, List.drop_succ_cons, List.drop_zero, List.drop_nil, List.getElem?_toArray, List.getElem?_cons_succ, List.getElem?_cons_zero, Option.bind_some, Act.put, List.getD_cons_succ, List.getD_cons_zero, List.setIfInBounds_toArray, List.set_cons_succ, List.set_cons_zero]
        rw [e0, e1, e2, e3, e4, e5, e6, e7, e8, e9]
        clear e0 e1 e2 e3 e4 e5 e6 e7 e8 e9 hs
        clear hca hca0 hsum hmin
        obtain ⟨nq, rfl⟩ := hG
        gi_wp2
        have hz := J1.out.sz.1
        have hH : Hold (fun j => j ≠ Mb) Wb ((Wb.drewN nq).setCell ⟨Mb, b, none⟩ (.int .i64 (min mb (ma + 1)))) :=
          Hold.trans (.below (below_drewN' (Below.refl _ _) nq)) (Hold.setCell _ _ _ (fun h => h rfl))
        have hblk := heap_set_same (w := Wb.drewN nq) (g := Mb) (o := b) (.int .i64 (min mb (ma + 1))) (cs := arrOf (pre.foldl (fun m b => low1 m k b) Mk)) (t := 143) (by rw [HMb.out]; exact J1.out.mks)
        have hnew : (pre ++ [b]).foldl (fun m b => low1 m k b) Mk = (pre.foldl (fun m b => low1 m k b) Mk).set b (min mb (ma + 1)) := by rw [List.foldl_append]; exact HL1.out
        have hsm : Small ((pre ++ [b]).foldl (fun m b => low1 m k b) Mk) := by rw [List.foldl_append]; exact J1.out.small.low1 k b hk13
        have hMb := HMb.out
        refine ⟨hH.mono (fun j hj _ => by rcases hj with h | h <;> omega), ⟨(hH.same _ (by omega) (by omega)).trans J1.out.wk, by rw [hnew, ← hMb, hblk, arrOf_set], (hH.same _ (by omega) (by omega)).trans J1.out.res, ?_, J1.out.ends.keep (fun j h1 h2 => hH.same j (by omega) (by omega)), ⟨by have := hH.size; omega, by have := hH.size; omega⟩, hsm⟩,
          (hH.cell (p := ⟨wr.heap.size, 0, none⟩) (show wr.heap.size ≠ Mb by omega) (show wr.heap.size < Wb.heap.size by omega)).trans j2, by have := hH.size; omega⟩
        exact (below_drewN' J1.out.bel nq).setCell (p := ⟨Mb, b, none⟩) (show w.heap.size ≤ Mb by omega) _
  · obtain rfl : k = n := by omega
    have hAsz : (arrOf Mk).size = 13 := by rw [arrOf_size]; exact HA.out.small.1
    have hi := size_marks hAsz
    have hone := arrOf_one Mk
    have hthere : wr.there (w.heap.size + 1 + 1) 0 (arrOf Mk).size := fun j hj => by
      have hr := HA.out.res
      rw [Nat.zero_add, blk_cells hr j _ (arrOf_get (by simp; omega))]
      exact ⟨by simp, by simp [World.frozen?, hr]⟩
    have HROW := Lib.hid HA.out.mks
    have HI := Lib.hid hi
    have HTH := Lib.hid hthere
    have HON := Lib.hid hone
    have HSZ := Lib.hid hAsz
    clear hi hthere hone hAsz f0 f1 f2 f3
    generalize hBA : arrOf Mk = BA at HROW HI HTH HON HSZ
    have HBA := Lib.hid hBA
    clear hBA
    refine wpIn_wide.2 ?_
    go_wp2
    refine wpIn_wide.2 ?_
    go_wp2_with (first | (with_reducible refine wpList_load_row rfl 143 _ rfl (w.heap.size + 1) rfl 143 BA (0, 0) _ HROW.out und_marks rfl HI.out ?_) | (with_reducible refine wpList_store_mid rfl 143 _ _ rfl (w.heap.size + 1 + 1) 0 BA rfl rfl HTH.out HI.out HON.out ?_))
    have hz := HA.out.sz.1
    have hH : Hold (fun j => j ≠ w.heap.size + 1 + 1) wr (wr.setCells (w.heap.size + 1 + 1) 0 BA.toList) := hold_setCells _ _ _ _
    have hres2 : (wr.setCells (w.heap.size + 1 + 1) 0 BA.toList).heap[w.heap.size + 1 + 1]? = some (.cells BA 143 (0, 0)) := by
      rw [heap_setCells _ _ _ _ _ _ _ HA.out.res, setFrom_all _ _ (by rw [Array.length_toList, HSZ.out]; simp [arrOf_size])]
    refine leaves_ends (B := w.heap.size + 1 + 1 + 1) (by simp) _ wr.heap.size _ (HA.out.ends.keep (fun j h1 h2 => hH.same j (by omega) h2)) hH.size (fun w' hh => ?_)
    have hres := (hh.same _ (show w.heap.size + 1 + 1 < w.heap.size + 1 + 1 + 1 by omega) (by have := hH.size; omega)).trans hres2
    refine ⟨.agg BA, results_cell_row rfl _ _ (w.heap.size + 1 + 1) 143 BA (0, 0) _ rfl hres und_marks rfl HI.out, ?_⟩
    exact ⟨by rw [← HBA.out, ← HMK.out]; rfl, (below_setCells' (by omega) _ _ _ HA.out.bel).trans ((hh.to_below (by have := hH.size; omega)).mono (by omega))⟩
end Go.Proofs.Ytadnggecnjdhiaa
set_option linter.unusedSimpArgs false
set_option linter.unusedVariables false
namespace Go.Proofs.Ytadnggecnjdhiaa
open Go.RowKit Tx

/-- marks that are laid: those of the places before k are great -/
def topTo (k : Nat) : Marks := (List.range 13).map fun p => if 1 ≤ p ∧ p < k then 99 else 0
theorem topTo_len (k : Nat) : (topTo k).length = 13 := by simp [topTo]
theorem topTo_get (k p : Nat) (hp : p < 13) : (topTo k).getD p 0 = if 1 ≤ p ∧ p < k then 99 else 0 := by
  simp [topTo, hp]
theorem topTo_set (k : Nat) (h1 : 1 ≤ k) (h : k < 13) : (topTo k).set k 99 = topTo (k + 1) := by
  apply List.ext_getElem?
  intro p
  rw [List.getElem?_set]
  unfold topTo
  by_cases hp : p < 13
  · by_cases hkp : k = p
    · subst hkp; simp [hp, h1]
    · rw [if_neg hkp]; simp [hp]
      by_cases h2 : 1 ≤ p ∧ p < k
      · rw [if_pos h2, if_pos (by omega)]
      · rw [if_neg h2, if_neg (by omega)]
  · by_cases hkp : k = p
    · omega
    · rw [if_neg hkp]; simp [hp]
theorem topTo_top (n : Nat) : topTo (n + 1) = top n := by
  unfold topTo top
  apply List.map_congr_left
  intro p hp
  by_cases h : 1 ≤ p ∧ p ≤ n
  · rw [if_pos h, if_pos (by omega)]
  · rw [if_neg h, if_neg (by omega)]
theorem top_small (n : Nat) : Small (top n) := by
  rw [← topTo_top]
  refine ⟨topTo_len _, fun k hk => ?_⟩
  rw [topTo_get _ _ hk]; split <;> omega
theorem Small.rows {may : Nat → Nat → Bool} {n : Nat} (hn : n ≤ 13) : ∀ (l : List Nat) (m : Marks), Small m → (∀ a ∈ l, a < 13) → Small (l.foldl (lowRow may n) m)
  | [], m, h, _ => h
  | a :: l, m, h, ha => Small.rows hn l _ (Small.row (may := may) (n := n) h a (ha a (by simp)) _) (fun x hx => ha x (by simp [hx]))
theorem greatest_small {may : Nat → Nat → Bool} {n : Nat} (hn : n ≤ 12) : Small (greatest may n) :=
  Small.rows (by omega) _ _ (top_small n) (fun a ha => by have := List.mem_range.1 ha; omega)

set_option maxHeartbeats 1000000 in
set_option maxRecDepth 100000 in
theorem greatest_any (may : Nat → Nat → Bool) (n cw : Nat) (hn : n ≤ 12) (pw : Option Addr) (v1 v2 mv : Value) (w : World) (hMay : MayAt mv may n (fun k => k < w.heap.size) w) :
    Calls Try.prog 108 #[.agg #[.slice pw n cw, v1, v2, mv]] w fun e w' => e = .returned (.agg (arrOf (greatest may n))) ∧ Below w.heap.size w w' := by
  have HMAY := Lib.hid hMay
  clear hMay
  go_enter Try.func108, Try.ntmps108
  go_wp2_with fail
  have hB3 : ∀ o1 o2 o3, Below w.heap.size w (((w.alloc o1).alloc o2).alloc o3) := fun o1 o2 o3 => ((below1 _ _).alloc (by simp) _).alloc (by simp; omega) _
  generalize hW3 : ((w.alloc (Obj.cells #[Value.slice pw n cw, v1, v2, mv] 125)).alloc (Obj.cells #[Value.int IntKind.i64 0, Value.int IntKind.i64 0, Value.int IntKind.i64 0, Value.int IntKind.i64 0, Value.int IntKind.i64 0, Value.int IntKind.i64 0, Value.int IntKind.i64 0, Value.int IntKind.i64 0, Value.int IntKind.i64 0, Value.int IntKind.i64 0, Value.int IntKind.i64 0, Value.int IntKind.i64 0, Value.int IntKind.i64 0] 143)).alloc (Obj.cells #[Value.int IntKind.i64 0, Value.int IntKind.i64 0, Value.int IntKind.i64 0, Value.int IntKind.i64 0, Value.int IntKind.i64 0, Value.int IntKind.i64 0, Value.int IntKind.i64 0, Value.int IntKind.i64 0, Value.int IntKind.i64 0, Value.int IntKind.i64 0, Value.int IntKind.i64 0, Value.int IntKind.i64 0, Value.int IntKind.i64 0] 143) = W3
  have hz : arrOf (List.replicate 13 0) = arrOf (topTo 1) := congrArg arrOf (by decide)
  have hA3 : W3.heap[w.heap.size]? = some (.cells #[.slice pw n cw, v1, v2, mv] 125 (0, 0)) ∧ W3.heap[w.heap.size + 1]? = some (.cells (arrOf (List.replicate 13 0)) 143 (0, 0)) ∧ W3.heap[w.heap.size + 1 + 1]? = some (.cells (arrOf (topTo 1)) 143 (0, 0)) ∧ Below w.heap.size w W3 ∧ w.heap.size + 3 ≤ W3.heap.size := by
    refine ⟨?_, ?_, ?_, by rw [← hW3]; exact hB3 _ _ _, by rw [← hW3]; simp⟩
    · rw [← hW3, Below.heap_alloc _ _ _ (by first | (simp; done) | (simp; omega)), Below.heap_alloc _ _ _ (by simp)]; exact heap_last _ _
    · rw [← hW3, Below.heap_alloc _ _ _ (by simp)]
      have := heap_last (w.alloc (Obj.cells #[Value.slice pw n cw, v1, v2, mv] 125)) (Obj.cells (arrOf (List.replicate 13 0)) 143)
      rwa [World.size_alloc] at this
    · rw [← hW3, ← hz]
      have := heap_last ((w.alloc (Obj.cells #[Value.slice pw n cw, v1, v2, mv] 125)).alloc (Obj.cells (arrOf (List.replicate 13 0)) 143)) (Obj.cells (arrOf (List.replicate 13 0)) 143)
      rwa [World.size_alloc, World.size_alloc] at this
  clear hW3 hB3 hz
  go_loopw [4] (fun i wr => ∃ k : Nat, 1 ≤ k ∧ k ≤ n + 1 ∧ i = .int .i64 k ∧ wr.heap[w.heap.size]? = some (.cells #[.slice pw n cw, v1, v2, mv] 125 (0, 0)) ∧ wr.heap[w.heap.size + 1]? = some (.cells (arrOf (List.replicate 13 0)) 143 (0, 0)) ∧ wr.heap[w.heap.size + 1 + 1]? = some (.cells (arrOf (topTo k)) 143 (0, 0)) ∧ Below w.heap.size w wr ∧ w.heap.size + 3 ≤ wr.heap.size) (fun i _ => n + 1 - (intOf i).toNat)
  case atStart => exact ⟨1, by omega, by omega, rfl, hA3⟩
  case round =>
    obtain ⟨k, hk1, hk2, rfl, h1, h2, h3, hB, hs⟩ := hrel
    clear hA3
    have f0 := blk_cells h1 0 _ rfl
    have f1 := blk_cells h1 1 _ rfl
    have f2 := blk_cells h1 2 _ rfl
    have f3 := blk_cells h1 3 _ rfl
    have hs0 : w.heap.size < wr.heap.size ∧ w.heap.size + 1 + 1 < wr.heap.size := by omega
    obtain ⟨hs0, hs2⟩ := hs0
    have H1 := Lib.hid h1
    have H2 := Lib.hid h2
    have H3 := Lib.hid h3
    have HB := Lib.hid hB
    clear h1 h2 h3 hB
    go_wp2_with fail
    refine (end_any _ _ _ _ _ _ _).mono ?_
    rintro e w' ⟨rfl, rfl⟩
    by_cases hlt : k ≤ n
    · have hlt' : (k : Int) ≤ n := by omega
      have hk13 : (k : Int) < 13 := by omega
      have hcell := blk_cells H3.out k _ (arrOf_get (by rw [topTo_len]; omega))
      have hfz : wr.frozen? ⟨w.heap.size + 1 + 1, k, none⟩ = false := by simp [World.frozen?, H3.out]
      go_wp2
      go_roundw
      case rel =>
        have hne : ∀ g, g ≠ w.heap.size + 1 + 1 → g < wr.heap.size → ((wr.setCell ⟨w.heap.size + 1 + 1, k, none⟩ (.int .i64 99)).alloc (.cells #[.slice pw n cw, v1, v2, mv] 125)).heap[g]? = wr.heap[g]? := fun g hg hl =>
          (Below.heap_alloc _ _ _ (by simpa using hl)).trans (Below.heap_setCell _ _ _ _ hg)
        refine ⟨k + 1, by omega, by omega, by go_num, (hne _ (by omega) (by omega)).trans H1.out, (hne _ (by omega) (by omega)).trans H2.out, ?_, belA (belS HB.out (by omega)) (by simp; omega), by simp; omega⟩
        rw [Below.heap_alloc _ _ _ (by simpa using hs2), heap_set_same _ H3.out, arrOf_set, topTo_set k hk1 (by omega)]
      case measure => simp [intOf]; omega
    · obtain rfl : k = n + 1 := by omega
      have h4 := topTo_top n
      have HT := Lib.hid ((Below.heap_alloc wr (.cells #[.slice pw n cw, v1, v2, mv] 125) _ hs2).trans (h4 ▸ H3.out))
      have HI := Lib.hid (size_marks (by rw [arrOf_size]; exact (top_small n).1 : (arrOf (top n)).size = 13))
      have HBA := Lib.hid (belA (o := .cells #[.slice pw n cw, v1, v2, mv] 125) HB.out (by omega))
      have HLO := Lib.hid (lowered_any may n cw hn pw v1 v2 mv (top n) (top_small n) (wr.alloc (.cells #[.slice pw n cw, v1, v2, mv] 125)) ((HMAY.out.hold (.of_below HBA.out (fun _ h _ => h))).mono (fun j hj _ => by simp; omega)))
      clear h4
      go_wp2_with (with_reducible refine wpList_load_row rfl 143 _ rfl (w.heap.size + 1 + 1) rfl 143 (arrOf (top n)) (0, 0) _ HT.out und_marks rfl HI.out ?_)
      refine HLO.out.mono ?_
      rintro e w5 ⟨rfl, hB5⟩
      have HB5 := Lib.hid hB5
      have hsz : (arrOf (Tx.lowered may n (top n))).size = 13 := by rw [arrOf_size]; exact (greatest_small (may := may) hn).1
      have HI2 := Lib.hid (size_marks hsz)
      have HON := Lib.hid (arrOf_one (Tx.lowered may n (top n)))
      have hr5 := (hB5.block (w.heap.size + 1) (by simp; omega)).trans ((Below.heap_alloc _ _ _ (by omega)).trans H2.out)
      have hthere : w5.there (w.heap.size + 1) 0 (arrOf (Tx.lowered may n (top n))).size := fun j hj => by
        rw [Nat.zero_add, blk_cells hr5 j _ (arrOf_get (by simp; omega))]
        exact ⟨by simp, by simp [World.frozen?, hr5]⟩
      have HTH := Lib.hid hthere
      have HR5 := Lib.hid hr5
      have HSZ := Lib.hid hsz
      clear hB5 hr5 hthere hsz HLO
      generalize hBA : arrOf (Tx.lowered may n (top n)) = BA at HI2 HON HTH HSZ
      have HE := Lib.hid hBA
      clear hBA
      go_wp2_with (with_reducible refine wpList_store_mid rfl 143 _ _ rfl (w.heap.size + 1) 0 BA rfl rfl HTH.out HI2.out HON.out ?_)
      have hres2 : (w5.setCells (w.heap.size + 1) 0 BA.toList).heap[w.heap.size + 1]? = some (.cells BA 143 (0, 0)) := by
        rw [heap_setCells _ _ _ _ _ _ _ HR5.out, setFrom_all _ _ (by rw [Array.length_toList, HSZ.out]; simp [arrOf_size])]
      try rw [Exit.noGoto_ret]
      refine bodyPost_ret (results_cell_row rfl _ _ (w.heap.size + 1) 143 BA (0, 0) _ rfl hres2 und_marks rfl HI2.out) rfl ⟨by rw [← HE.out]; rfl, below_setCells' (by omega) _ _ _ (HBA.out.trans (HB5.out.mono (by have := HBA.out.size; omega)))⟩
end Go.Proofs.Ytadnggecnjdhiaa
set_option linter.unusedSimpArgs false
set_option linter.unusedVariables false
namespace Go.Proofs.Ytadnggecnjdhiaa
open Go.RowKit Tx

theorem exec_load_row {P : Program} {o : Oper} {ρ : Operand → Value} {w : World} (ty : TypeId) (x : Operand) (ho : o.op = .load ty x)
    (g : Nat) (hx : ρ x = .pointer (some ⟨g, 0, none⟩)) (t : TypeId) (cs : Array Value) (fr : Nat × Nat) (d : TypeDesc) (hg : w.heap[g]? = some (.cells cs t fr))
    (hu : P.underlying ty = some d) (hd : (match d with | .struct _ | .array _ _ => true | _ => false) = true) (hi : (P.info? ty).map (·.size) = some cs.size) :
    (execOp ρ o).run P w = .ok (.value (.agg cs)) w := by
  unfold execOp
  simp only [ho, hx, Instr.loadAt, Instr.sureAddr, Sem.run_bind, Sem.run_pure, Result.andThen_ok, run_loadVar_row w g t ty cs fr d hg hu hd hi]

theorem reached_any (v0 v1 v2 v3 : Value) (M : Marks) (hM : M.length = 13) (p : Nat) (hp : p < 13) (w : World) :
    Calls Try.prog 109 #[.agg #[v0, v1, v2, v3], .agg (arrOf M), .int .i64 p] w fun e w' => e = .returned (.bool (decide (M.getD p 0 < 99))) ∧ Below w.heap.size w w' := by
  have hx : ((w.alloc (.cells #[v0, v1, v2, v3] 125)).alloc (.cells (arrOf M) 143)).heap[w.heap.size + 1]? = some (.cells (arrOf M) 143 (0, 0)) := by
    have := heap_last (w.alloc (.cells #[v0, v1, v2, v3] 125)) (.cells (arrOf M) 143)
    rwa [World.size_alloc] at this
  have hc := blk_cells hx p _ (arrOf_get (by omega))
  have hp' : (p : Int) < 13 := by omega
  clear hx
  generalize M.getD p 0 = x at hc ⊢
  go_enter Try.func109, Try.ntmps109
  go_wp2
  go_ret
  exact ⟨rfl, (below1 _ _).alloc (by simp) _⟩
end Go.Proofs.Ytadnggecnjdhiaa
set_option linter.unusedSimpArgs false
set_option linter.unusedVariables false
namespace Go.Proofs.Ytadnggecnjdhiaa
open Go.RowKit Tx

def spBf1 (Mb A2 a b : Nat) (ma mb : Int) (F : FuncId) (first caps : Array Value) (r : Bool) : Nat → List Value → Value → World → Prop
  | 0, _, v, _ => v = .int .i64 a
  | 1, _, v, _ => v = .pointer (some ⟨Mb, a, none⟩)
  | 2, _, v, _ => v = .int .i64 ma
  | 3, _, v, _ => v = .int .i64 (ma + 1)
  | 4, _, v, _ => v = .int .i64 b
  | 5, _, v, _ => v = .pointer (some ⟨Mb, b, none⟩)
  | 6, _, v, _ => v = .int .i64 mb
  | 7, _, v, _ => v = .bool true
  | 8, _, v, _ => v = .bool true
  | 9, _, v, _ => v = .pointer (some ⟨A2, 3, none⟩)
  | 10, _, v, _ => v = .func (.func F) first caps
  | 11, _, v, _ => v = .int .i64 a
  | 12, _, v, _ => v = .int .i64 b
  | 13, _, v, _ => v = .bool r
  | 14, _, v, _ => v = .bool r
  | _, _, _, _ => False
theorem spBf1_stable (Mb A2 a b : Nat) (ma mb : Int) (F : FuncId) (first caps : Array Value) (r : Bool) : ∀ i L v w w', spBf1 Mb A2 a b ma mb F first caps r i L v w → Rs.Gr w w' → spBf1 Mb A2 a b ma mb F first caps r i L v w' := by
  intro i L v w w' h hg
  match i with
  | 0 => exact h
  | 1 => exact h
  | 2 => exact h
  | 3 => exact h
  | 4 => exact h
  | 5 => exact h
  | 6 => exact h
  | 7 => exact h
  | 8 => exact h
  | 9 => exact h
  | 10 => exact h
  | 11 => exact h
  | 12 => exact h
  | 13 => exact h
  | 14 => exact h
def spBf0 (Mb A2 a b : Nat) (ma mb : Int) (F : FuncId) (first caps : Array Value) (r : Bool) : Nat → List Value → Value → World → Prop
  | 0, _, v, _ => v = .int .i64 a
  | 1, _, v, _ => v = .pointer (some ⟨Mb, a, none⟩)
  | 2, _, v, _ => v = .int .i64 ma
  | 3, _, v, _ => v = .int .i64 (ma + 1)
  | 4, _, v, _ => v = .int .i64 b
  | 5, _, v, _ => v = .pointer (some ⟨Mb, b, none⟩)
  | 6, _, v, _ => v = .int .i64 mb
  | 7, _, v, _ => v = .bool false
  | 8, _, v, _ => v = .bool false
  | 9, _, v, _ => v = undef
  | 10, _, v, _ => v = undef
  | 11, _, v, _ => v = undef
  | 12, _, v, _ => v = undef
  | 13, _, v, _ => v = undef
  | 14, _, v, _ => v = .bool false
  | _, _, _, _ => False
theorem spBf0_stable (Mb A2 a b : Nat) (ma mb : Int) (F : FuncId) (first caps : Array Value) (r : Bool) : ∀ i L v w w', spBf0 Mb A2 a b ma mb F first caps r i L v w → Rs.Gr w w' → spBf0 Mb A2 a b ma mb F first caps r i L v w' := by
  intro i L v w w' h hg
  match i with
  | 0 => exact h
  | 1 => exact h
  | 2 => exact h
  | 3 => exact h
  | 4 => exact h
  | 5 => exact h
  | 6 => exact h
  | 7 => exact h
  | 8 => exact h
  | 9 => exact h
  | 10 => exact h
  | 11 => exact h
  | 12 => exact h
  | 13 => exact h
  | 14 => exact h

theorem find_hit {p : Nat → Bool} {b k : Nat} (hk : k < b) (h1 : ∀ j, j < k → p j = false) (h2 : p k = true) : ((List.range b).find? p).getD 0 = k := by
  have : (List.range b).find? p = some k := by
    rw [show b = k + (b - k) by omega, List.range_add, List.find?_append]
    rw [show (List.range k).find? p = none from by rw [List.find?_eq_none]; intro x hx; rw [h1 x (List.mem_range.1 hx)]; decide]
    rw [Option.none_or, show b - k = (b - k - 1) + 1 by omega, List.range_succ_eq_map]
    simp [h2]
  rw [this]; rfl
theorem find_none {p : Nat → Bool} {b : Nat} (h1 : ∀ j, j < b → p j = false) : ((List.range b).find? p).getD 0 = 0 := by
  rw [show (List.range b).find? p = none from by rw [List.find?_eq_none]; intro x hx; rw [h1 x (List.mem_range.1 hx)]; decide]; rfl

set_option maxHeartbeats 2000000 in
set_option maxRecDepth 100000 in
theorem before_any (may : Nat → Nat → Bool) (n cw : Nat) (hn : n ≤ 12) (pw : Option Addr) (v1 v2 mv : Value) (M : Marks) (hM : Small M) (b : Nat) (hb : b ≤ n) (w : World) (hMay : MayAt mv may n (fun k => k < w.heap.size) w) :
    Calls Try.prog 146 #[.agg #[.slice pw n cw, v1, v2, mv], .agg (arrOf M), .int .i64 b] w fun e w' => e = .returned (.int .i64 (before may M b)) ∧ Below w.heap.size w w' := by
  obtain ⟨F, first, caps, rfl, hF, hMay⟩ := hMay
  have HF := Lib.hid hF
  have HMAY := Lib.hid hMay
  clear hF hMay
  have hx : ((w.alloc (.cells #[.slice pw n cw, v1, v2, .func (.func F) first caps] 125)).alloc (.cells (arrOf M) 143)).heap[w.heap.size + 1]? = some (.cells (arrOf M) 143 (0, 0)) := by
    have := heap_last (w.alloc (.cells #[.slice pw n cw, v1, v2, .func (.func F) first caps] 125)) (.cells (arrOf M) 143)
    rwa [World.size_alloc] at this
  have hx0 : ((w.alloc (.cells #[.slice pw n cw, v1, v2, .func (.func F) first caps] 125)).alloc (.cells (arrOf M) 143)).heap[w.heap.size]? = some (.cells #[.slice pw n cw, v1, v2, .func (.func F) first caps] 125 (0, 0)) := by
    rw [Below.heap_alloc _ _ _ (by simp)]; exact heap_last _ _
  have hbw : Below w.heap.size w ((w.alloc (.cells #[.slice pw n cw, v1, v2, .func (.func F) first caps] 125)).alloc (.cells (arrOf M) 143)) := (below1 _ _).alloc (by simp) _
  have hsz : w.heap.size + 2 ≤ ((w.alloc (.cells #[.slice pw n cw, v1, v2, .func (.func F) first caps] 125)).alloc (.cells (arrOf M) 143)).heap.size := by simp
  have HX := Lib.hid hx
  have HX0 := Lib.hid hx0
  have HBW := Lib.hid hbw
  clear hx hx0 hbw
  go_enter Try.func146, Try.ntmps146
  go_wp2_with fail
  generalize (w.alloc (.cells #[.slice pw n cw, v1, v2, .func (.func F) first caps] 125)).alloc (.cells (arrOf M) 143) = W1 at HX HX0 HBW hsz ⊢
  go_loopw [7, 9] (fun u i wr => ∃ k : Nat, k ≤ b ∧ i = .int .i64 k ∧ (∀ j, j < k → befP may M b j = false) ∧ Below W1.heap.size W1 wr) (fun _ i _ => b - (intOf i).toNat)
  case atStart => exact ⟨0, Nat.zero_le _, rfl, fun j hj => absurd hj (Nat.not_lt_zero _), Below.refl _ _⟩
  case round =>
    obtain ⟨k, hk, rfl, hA, hB⟩ := hrel
    have HA := Lib.hid hA
    have HB := Lib.hid hB
    have hzr := hB.size
    clear hA hB
    by_cases hlt : k < b
    · have hlt' : (k : Int) < b := by omega
      have hs0 : w.heap.size < wr.heap.size := by omega
      have hs1 : w.heap.size + 1 < wr.heap.size := by omega
      have hca := (HB.out.cell (p := ⟨w.heap.size + 1, k, none⟩) (show w.heap.size + 1 < W1.heap.size by omega)).trans (blk_cells HX.out k _ (arrOf_get (by rw [hM.1]; omega)))
      have hcb := (HB.out.cell (p := ⟨w.heap.size + 1, b, none⟩) (show w.heap.size + 1 < W1.heap.size by omega)).trans (blk_cells HX.out b _ (arrOf_get (by rw [hM.1]; omega)))
      have hc3 := (HB.out.cell (p := ⟨w.heap.size, 3, none⟩) (show w.heap.size < W1.heap.size by omega)).trans (blk_cells HX0.out 3 _ rfl)
      have hba := hM.2 k (by omega)
      have hbb := hM.2 b (by omega)
      have HP := Lib.hid (show befP may M b k = (M.getD k 0 + 1 == M.getD b 0 && may k b) from rfl)
      generalize M.getD k 0 = ma at hca hba HP
      generalize M.getD b 0 = mb at hcb hbb HP
      have HCA := Lib.hid hca
      have HCB := Lib.hid hcb
      have HC3 := Lib.hid hc3
      have hb13' : (b : Int) < 13 := by omega
      have hk13' : (k : Int) < 13 := by omega
      have hsum : IntKind.i64.wrap (ma + 1) = ma + 1 := IntWalk.i64_in _ (by omega)
      clear hca hcb hc3
      by_cases heq : (ma + 1 == mb) = true
      · have HASK := Lib.hid (fun W (h : Below wr.heap.size wr W) => HMAY.out W (.of_below (HBW.out.trans ((HB.out.trans (h.mono hzr)).mono (by omega))) (fun _ h _ => h)) k b hlt hb)
        have HEQ := Lib.hid heq
        have hFr : True := trivial
        go_wp2_with fail
        clear hsum
        have hsum : IntKind.i64.wrap (ma + 1) = ma + 1 := IntWalk.i64_in _ (by omega)
        refine Rs.region_gen 15 [[], [0], [0, 1], [0, 1, 2], [], [4], [4, 5], [0, 1, 2, 3, 4, 5, 6], [0, 1, 2, 3, 4, 5, 6, 7], [0, 1, 2, 3, 4, 5, 6, 7, 8], [0, 1, 2, 3, 4, 5, 6, 7, 8, 9], [0, 1, 2, 3, 4, 5, 6, 7, 8], [0, 1, 2, 3, 4, 5, 6, 7, 8], [0, 1, 2, 3, 4, 5, 6, 7, 8, 9, 10, 11, 12], [0, 1, 2, 3, 4, 5, 6, 7, 8, 9, 10, 11, 12, 13]] [some 12, some 13, some 14, some 15, some 16, some 17, some 18, some 19, some 20, some 21, some 22, some 23, some 24, some 25, some 26] (spBf1 (w.heap.size + 1) w.heap.size k b ma mb F first caps (may k b)) (by kernel_rfl) (by kernel_rfl) rfl (spBf1_stable _ _ _ _ _ _ _ _ _ _) ?_ ?_
        · refine ⟨fun V w' hG hs => ?_, fun V w' hG hs => ?_, fun V w' hG hs => ?_, fun V w' hG hs => ?_, fun V w' hG hs => ?_, fun V w' hG hs => ?_, fun V w' hG hs => ?_, fun V w' hG hs => ?_, fun V w' hG hs => ?_, fun V w' hG hs => ?_, fun V w' hG hs => ?_, fun V w' hG hs => ?_, fun V w' hG hs => ?_, fun V w' hG hs => ?_, fun V w' hG hs => ?_, trivial⟩
          all_goals
            obtain ⟨bc, _⟩ := bcell hG
            have hca := (bc (w.heap.size + 1) k hs1).trans HCA.out
            have hcb := (bc (w.heap.size + 1) b hs1).trans HCB.out
            have hc3 := (bc w.heap.size 3 hs0).trans HC3.out
            clear bc
          · rw [if_pos (by rfl)]
            exact Rs.GrowL.value (v := .int .i64 k) (w' := w') (by simp [go_sem, Rs.look]) (Rs.Gr.refl _) rfl
          · have e0 : V 0 = .int .i64 k := hs 0 (by simp)
            rw [if_pos (by rfl)]
            exact Rs.GrowL.value (v := .pointer (some ⟨(w.heap.size + 1), k, none⟩)) (w' := w') (by simp [go_sem, Rs.look, e0, hk13']) (Rs.Gr.refl _) rfl
          · have e0 : V 0 = .int .i64 k := hs 0 (by simp)
            have e1 : V 1 = .pointer (some ⟨(w.heap.size + 1), k, none⟩) := hs 1 (by simp)
            rw [if_pos (by rfl)]
            exact Rs.GrowL.value (v := .int .i64 ma) (w' := w') (by simp [go_sem, Rs.look, e0, e1, hca]) (Rs.Gr.refl _) rfl
          · have e0 : V 0 = .int .i64 k := hs 0 (by simp)
            have e1 : V 1 = .pointer (some ⟨(w.heap.size + 1), k, none⟩) := hs 1 (by simp)
            have e2 : V 2 = .int .i64 ma := hs 2 (by simp)
            rw [if_pos (by rfl)]
            exact Rs.GrowL.value (v := .int .i64 (ma + 1)) (w' := w') (by simp [go_sem, Rs.look, e0, e1, e2, hsum]) (Rs.Gr.refl _) rfl
          · rw [if_pos (by rfl)]
            exact Rs.GrowL.value (v := .int .i64 b) (w' := w') (by simp [go_sem, Rs.look]) (Rs.Gr.refl _) rfl
          · have e4 : V 4 = .int .i64 b := hs 4 (by simp)
            rw [if_pos (by rfl)]
            exact Rs.GrowL.value (v := .pointer (some ⟨(w.heap.size + 1), b, none⟩)) (w' := w') (by simp [go_sem, Rs.look, e4, hb13']) (Rs.Gr.refl _) rfl
          · have e4 : V 4 = .int .i64 b := hs 4 (by simp)
            have e5 : V 5 = .pointer (some ⟨(w.heap.size + 1), b, none⟩) := hs 5 (by simp)
            rw [if_pos (by rfl)]
            exact Rs.GrowL.value (v := .int .i64 mb) (w' := w') (by simp [go_sem, Rs.look, e4, e5, hcb]) (Rs.Gr.refl _) rfl
          · have e0 : V 0 = .int .i64 k := hs 0 (by simp)
            have e1 : V 1 = .pointer (some ⟨(w.heap.size + 1), k, none⟩) := hs 1 (by simp)
            have e2 : V 2 = .int .i64 ma := hs 2 (by simp)
            have e3 : V 3 = .int .i64 (ma + 1) := hs 3 (by simp)
            have e4 : V 4 = .int .i64 b := hs 4 (by simp)
            have e5 : V 5 = .pointer (some ⟨(w.heap.size + 1), b, none⟩) := hs 5 (by simp)
            have e6 : V 6 = .int .i64 mb := hs 6 (by simp)
            rw [if_pos (by rfl)]
            exact Rs.GrowL.value (v := .bool true) (w' := w') (by simp [go_sem, Rs.look, e0, e1, e2, e3, e4, e5, e6, heq]) (Rs.Gr.refl _) rfl
          · have e0 : V 0 = .int .i64 k := hs 0 (by simp)
            have e1 : V 1 = .pointer (some ⟨(w.heap.size + 1), k, none⟩) := hs 1 (by simp)
            have e2 : V 2 = .int .i64 ma := hs 2 (by simp)
            have e3 : V 3 = .int .i64 (ma + 1) := hs 3 (by simp)
            have e4 : V 4 = .int .i64 b := hs 4 (by simp)
            have e5 : V 5 = .pointer (some ⟨(w.heap.size + 1), b, none⟩) := hs 5 (by simp)
            have e6 : V 6 = .int .i64 mb := hs 6 (by simp)
            have e7 : V 7 = .bool true := hs 7 (by simp)
            rw [if_pos (by rfl)]
            exact Rs.GrowL.value (v := .bool true) (w' := w') (by simp [go_sem, Rs.look, e0, e1, e2, e3, e4, e5, e6, e7]) (Rs.Gr.refl _) rfl
          · have e0 : V 0 = .int .i64 k := hs 0 (by simp)
            have e1 : V 1 = .pointer (some ⟨(w.heap.size + 1), k, none⟩) := hs 1 (by simp)
            have e2 : V 2 = .int .i64 ma := hs 2 (by simp)
            have e3 : V 3 = .int .i64 (ma + 1) := hs 3 (by simp)
            have e4 : V 4 = .int .i64 b := hs 4 (by simp)
            have e5 : V 5 = .pointer (some ⟨(w.heap.size + 1), b, none⟩) := hs 5 (by simp)
            have e6 : V 6 = .int .i64 mb := hs 6 (by simp)
            have e7 : V 7 = .bool true := hs 7 (by simp)
            have e8 : V 8 = .bool true := hs 8 (by simp)
            rw [if_pos (by simp [Rs.wantB, e8])]
            exact Rs.GrowL.value (v := .pointer (some ⟨w.heap.size, 3, none⟩)) (w' := w') (by simp [go_sem, Rs.look, e0, e1, e2, e3, e4, e5, e6, e7, e8]) (Rs.Gr.refl _) rfl
          · have e0 : V 0 = .int .i64 k := hs 0 (by simp)
            have e1 : V 1 = .pointer (some ⟨(w.heap.size + 1), k, none⟩) := hs 1 (by simp)
            have e2 : V 2 = .int .i64 ma := hs 2 (by simp)
            have e3 : V 3 = .int .i64 (ma + 1) := hs 3 (by simp)
            have e4 : V 4 = .int .i64 b := hs 4 (by simp)
            have e5 : V 5 = .pointer (some ⟨(w.heap.size + 1), b, none⟩) := hs 5 (by simp)
            have e6 : V 6 = .int .i64 mb := hs 6 (by simp)
            have e7 : V 7 = .bool true := hs 7 (by simp)
            have e8 : V 8 = .bool true := hs 8 (by simp)
            have e9 : V 9 = .pointer (some ⟨w.heap.size, 3, none⟩) := hs 9 (by simp)
            rw [if_pos (by simp [Rs.wantB, e8])]
            exact Rs.GrowL.value (v := .func (.func F) first caps) (w' := w') (by simp [go_sem, Rs.look, e0, e1, e2, e3, e4, e5, e6, e7, e8, e9, hc3]) (Rs.Gr.refl _) rfl
          · have e0 : V 0 = .int .i64 k := hs 0 (by simp)
            have e1 : V 1 = .pointer (some ⟨(w.heap.size + 1), k, none⟩) := hs 1 (by simp)
            have e2 : V 2 = .int .i64 ma := hs 2 (by simp)
            have e3 : V 3 = .int .i64 (ma + 1) := hs 3 (by simp)
            have e4 : V 4 = .int .i64 b := hs 4 (by simp)
            have e5 : V 5 = .pointer (some ⟨(w.heap.size + 1), b, none⟩) := hs 5 (by simp)
            have e6 : V 6 = .int .i64 mb := hs 6 (by simp)
            have e7 : V 7 = .bool true := hs 7 (by simp)
            have e8 : V 8 = .bool true := hs 8 (by simp)
            rw [if_pos (by simp [Rs.wantB, e8])]
            exact Rs.GrowL.value (v := .int .i64 k) (w' := w') (by simp [go_sem, Rs.look, e0, e1, e2, e3, e4, e5, e6, e7, e8]) (Rs.Gr.refl _) rfl
          · have e0 : V 0 = .int .i64 k := hs 0 (by simp)
            have e1 : V 1 = .pointer (some ⟨(w.heap.size + 1), k, none⟩) := hs 1 (by simp)
            have e2 : V 2 = .int .i64 ma := hs 2 (by simp)
            have e3 : V 3 = .int .i64 (ma + 1) := hs 3 (by simp)
            have e4 : V 4 = .int .i64 b := hs 4 (by simp)
            have e5 : V 5 = .pointer (some ⟨(w.heap.size + 1), b, none⟩) := hs 5 (by simp)
            have e6 : V 6 = .int .i64 mb := hs 6 (by simp)
            have e7 : V 7 = .bool true := hs 7 (by simp)
            have e8 : V 8 = .bool true := hs 8 (by simp)
            rw [if_pos (by simp [Rs.wantB, e8])]
            exact Rs.GrowL.value (v := .int .i64 b) (w' := w') (by simp [go_sem, Rs.look, e0, e1, e2, e3, e4, e5, e6, e7, e8]) (Rs.Gr.refl _) rfl
          · have e0 : V 0 = .int .i64 k := hs 0 (by simp)
            have e1 : V 1 = .pointer (some ⟨(w.heap.size + 1), k, none⟩) := hs 1 (by simp)
            have e2 : V 2 = .int .i64 ma := hs 2 (by simp)
            have e3 : V 3 = .int .i64 (ma + 1) := hs 3 (by simp)
            have e4 : V 4 = .int .i64 b := hs 4 (by simp)
            have e5 : V 5 = .pointer (some ⟨(w.heap.size + 1), b, none⟩) := hs 5 (by simp)
            have e6 : V 6 = .int .i64 mb := hs 6 (by simp)
            have e7 : V 7 = .bool true := hs 7 (by simp)
            have e8 : V 8 = .bool true := hs 8 (by simp)
            have e9 : V 9 = .pointer (some ⟨w.heap.size, 3, none⟩) := hs 9 (by simp)
            have e10 : V 10 = .func (.func F) first caps := hs 10 (by simp)
            have e11 : V 11 = .int .i64 k := hs 11 (by simp)
            have e12 : V 12 = .int .i64 b := hs 12 (by simp)
            rw [if_pos (by simp [Rs.wantB, e8])]
            refine Rs.GrowL.call (f := F) (args := first ++ (#[.int .i64 k, .int .i64 b] ++ caps)) (by simp [go_sem, Rs.look, e10, e11, e12]; exact HF.out _ _) ?_
            refine (HASK.out w' hG).mono ?_
            rintro e w2 ⟨rfl, hB2⟩
            exact ⟨_, rfl, hB2, rfl⟩
          · have e0 : V 0 = .int .i64 k := hs 0 (by simp)
            have e1 : V 1 = .pointer (some ⟨(w.heap.size + 1), k, none⟩) := hs 1 (by simp)
            have e2 : V 2 = .int .i64 ma := hs 2 (by simp)
            have e3 : V 3 = .int .i64 (ma + 1) := hs 3 (by simp)
            have e4 : V 4 = .int .i64 b := hs 4 (by simp)
            have e5 : V 5 = .pointer (some ⟨(w.heap.size + 1), b, none⟩) := hs 5 (by simp)
            have e6 : V 6 = .int .i64 mb := hs 6 (by simp)
            have e7 : V 7 = .bool true := hs 7 (by simp)
            have e8 : V 8 = .bool true := hs 8 (by simp)
            have e9 : V 9 = .pointer (some ⟨w.heap.size, 3, none⟩) := hs 9 (by simp)
            have e10 : V 10 = .func (.func F) first caps := hs 10 (by simp)
            have e11 : V 11 = .int .i64 k := hs 11 (by simp)
            have e12 : V 12 = .int .i64 b := hs 12 (by simp)
            have e13 : V 13 = .bool (may k b) := hs 13 (by simp)
            rw [if_pos (by rfl)]
            exact Rs.GrowL.value (v := .bool (may k b)) (w' := w') (by simp [go_sem, Rs.look, e0, e1, e2, e3, e4, e5, e6, e7, e8, e9, e10, e11, e12, e13]) (Rs.Gr.refl _) rfl
        · intro V w' hG hs
          have e0 : V 0 = .int .i64 k := hs 0 (by omega)
          have e1 : V 1 = .pointer (some ⟨(w.heap.size + 1), k, none⟩) := hs 1 (by omega)
          have e2 : V 2 = .int .i64 ma := hs 2 (by omega)
          have e3 : V 3 = .int .i64 (ma + 1) := hs 3 (by omega)
          have e4 : V 4 = .int .i64 b := hs 4 (by omega)
          have e5 : V 5 = .pointer (some ⟨(w.heap.size + 1), b, none⟩) := hs 5 (by omega)
          have e6 : V 6 = .int .i64 mb := hs 6 (by omega)
          have e7 : V 7 = .bool true := hs 7 (by omega)
          have e8 : V 8 = .bool true := hs 8 (by omega)
          have e9 : V 9 = .pointer (some ⟨w.heap.size, 3, none⟩) := hs 9 (by omega)
          have e10 : V 10 = .func (.func F) first caps := hs 10 (by omega)
          have e11 : V 11 = .int .i64 k := hs 11 (by omega)
          have e12 : V 12 = .int .i64 b := hs 12 (by omega)
          have e13 : V 13 = .bool (may k b) := hs 13 (by omega)
          have e14 : V 14 = .bool (may k b) := hs 14 (by omega)
          simp only [Rs.canon, Rs.dstOf, List.range_succ, List.range_zero, List.nil_append, List.cons_append, List.foldl_cons, List.foldl_nil, List.drop_succ_cons, List.drop_zero, List.drop_nil, List.getElem?_toArray, List.getElem?_cons_succ, List.getElem?_cons_zero, Option.bind_some, Act.put, List.getD_cons_succ, List.getD_cons_zero, List.setIfInBounds_toArray, List.set_cons_succ, List.set_cons_zero]
          rw [e0, e1, e2, e3, e4, e5, e6, e7, e8, e9, e10, e11, e12, e13, e14]
          clear e0 e1 e2 e3 e4 e5 e6 e7 e8 e9 e10 e11 e12 e13 e14 hs
          clear hsum heq HASK
          cases hr : may k b with
          | true =>
            have HR := Lib.hid hr
            clear hr
            go_wp2
            go_ret
            refine ⟨ret_int ?_, HBW.out.trans ((join HB.out hG).mono (by omega))⟩
            unfold before
            rw [find_hit hlt HA.out (by rw [HP.out, HEQ.out, HR.out]; rfl)]
          | false =>
            have HR := Lib.hid hr
            clear hr
            go_wp2
            go_roundw
            case rel =>
              refine ⟨k + 1, by omega, by go_num, fun j hj => ?_, join HB.out hG⟩
              by_cases hjk : j = k
              · subst hjk; rw [HP.out, HEQ.out, HR.out]; rfl
              · exact HA.out j (by omega)
            case measure => simp [intOf]; omega
      · have heq : (ma + 1 == mb) = false := by simpa using heq
        have HEQ := Lib.hid heq
        go_wp2_with fail
        refine Rs.region_gen 15 [[], [0], [0, 1], [0, 1, 2], [], [4], [4, 5], [0, 1, 2, 3, 4, 5, 6], [0, 1, 2, 3, 4, 5, 6, 7], [0, 1, 2, 3, 4, 5, 6, 7, 8], [0, 1, 2, 3, 4, 5, 6, 7, 8, 9], [0, 1, 2, 3, 4, 5, 6, 7, 8], [0, 1, 2, 3, 4, 5, 6, 7, 8], [0, 1, 2, 3, 4, 5, 6, 7, 8, 9, 10, 11, 12], [0, 1, 2, 3, 4, 5, 6, 7, 8, 9, 10, 11, 12, 13]] [some 12, some 13, some 14, some 15, some 16, some 17, some 18, some 19, some 20, some 21, some 22, some 23, some 24, some 25, some 26] (spBf0 (w.heap.size + 1) w.heap.size k b ma mb F first caps (may k b)) (by kernel_rfl) (by kernel_rfl) rfl (spBf0_stable _ _ _ _ _ _ _ _ _ _) ?_ ?_
        · refine ⟨fun V w' hG hs => ?_, fun V w' hG hs => ?_, fun V w' hG hs => ?_, fun V w' hG hs => ?_, fun V w' hG hs => ?_, fun V w' hG hs => ?_, fun V w' hG hs => ?_, fun V w' hG hs => ?_, fun V w' hG hs => ?_, fun V w' hG hs => ?_, fun V w' hG hs => ?_, fun V w' hG hs => ?_, fun V w' hG hs => ?_, fun V w' hG hs => ?_, fun V w' hG hs => ?_, trivial⟩
          all_goals
            obtain ⟨bc, _⟩ := bcell hG
            have hca := (bc (w.heap.size + 1) k hs1).trans HCA.out
            have hcb := (bc (w.heap.size + 1) b hs1).trans HCB.out
            have hc3 := (bc w.heap.size 3 hs0).trans HC3.out
            clear bc
          · rw [if_pos (by rfl)]
            exact Rs.GrowL.value (v := .int .i64 k) (w' := w') (by simp [go_sem, Rs.look]) (Rs.Gr.refl _) rfl
          · have e0 : V 0 = .int .i64 k := hs 0 (by simp)
            rw [if_pos (by rfl)]
            exact Rs.GrowL.value (v := .pointer (some ⟨(w.heap.size + 1), k, none⟩)) (w' := w') (by simp [go_sem, Rs.look, e0, hk13']) (Rs.Gr.refl _) rfl
          · have e0 : V 0 = .int .i64 k := hs 0 (by simp)
            have e1 : V 1 = .pointer (some ⟨(w.heap.size + 1), k, none⟩) := hs 1 (by simp)
            rw [if_pos (by rfl)]
            exact Rs.GrowL.value (v := .int .i64 ma) (w' := w') (by simp [go_sem, Rs.look, e0, e1, hca]) (Rs.Gr.refl _) rfl
          · have e0 : V 0 = .int .i64 k := hs 0 (by simp)
            have e1 : V 1 = .pointer (some ⟨(w.heap.size + 1), k, none⟩) := hs 1 (by simp)
            have e2 : V 2 = .int .i64 ma := hs 2 (by simp)
            rw [if_pos (by rfl)]
            exact Rs.GrowL.value (v := .int .i64 (ma + 1)) (w' := w') (by simp [go_sem, Rs.look, e0, e1, e2, hsum]) (Rs.Gr.refl _) rfl
          · rw [if_pos (by rfl)]
            exact Rs.GrowL.value (v := .int .i64 b) (w' := w') (by simp [go_sem, Rs.look]) (Rs.Gr.refl _) rfl
          · have e4 : V 4 = .int .i64 b := hs 4 (by simp)
            rw [if_pos (by rfl)]
            exact Rs.GrowL.value (v := .pointer (some ⟨(w.heap.size + 1), b, none⟩)) (w' := w') (by simp [go_sem, Rs.look, e4, hb13']) (Rs.Gr.refl _) rfl
          · have e4 : V 4 = .int .i64 b := hs 4 (by simp)
            have e5 : V 5 = .pointer (some ⟨(w.heap.size + 1), b, none⟩) := hs 5 (by simp)
            rw [if_pos (by rfl)]
            exact Rs.GrowL.value (v := .int .i64 mb) (w' := w') (by simp [go_sem, Rs.look, e4, e5, hcb]) (Rs.Gr.refl _) rfl
          · have e0 : V 0 = .int .i64 k := hs 0 (by simp)
            have e1 : V 1 = .pointer (some ⟨(w.heap.size + 1), k, none⟩) := hs 1 (by simp)
            have e2 : V 2 = .int .i64 ma := hs 2 (by simp)
            have e3 : V 3 = .int .i64 (ma + 1) := hs 3 (by simp)
            have e4 : V 4 = .int .i64 b := hs 4 (by simp)
            have e5 : V 5 = .pointer (some ⟨(w.heap.size + 1), b, none⟩) := hs 5 (by simp)
            have e6 : V 6 = .int .i64 mb := hs 6 (by simp)
            rw [if_pos (by rfl)]
            exact Rs.GrowL.value (v := .bool false) (w' := w') (by simp [go_sem, Rs.look, e0, e1, e2, e3, e4, e5, e6, heq]) (Rs.Gr.refl _) rfl
          · have e0 : V 0 = .int .i64 k := hs 0 (by simp)
            have e1 : V 1 = .pointer (some ⟨(w.heap.size + 1), k, none⟩) := hs 1 (by simp)
            have e2 : V 2 = .int .i64 ma := hs 2 (by simp)
            have e3 : V 3 = .int .i64 (ma + 1) := hs 3 (by simp)
            have e4 : V 4 = .int .i64 b := hs 4 (by simp)
            have e5 : V 5 = .pointer (some ⟨(w.heap.size + 1), b, none⟩) := hs 5 (by simp)
            have e6 : V 6 = .int .i64 mb := hs 6 (by simp)
            have e7 : V 7 = .bool false := hs 7 (by simp)
            rw [if_pos (by rfl)]
            exact Rs.GrowL.value (v := .bool false) (w' := w') (by simp [go_sem, Rs.look, e0, e1, e2, e3, e4, e5, e6, e7]) (Rs.Gr.refl _) rfl
          · have e0 : V 0 = .int .i64 k := hs 0 (by simp)
            have e1 : V 1 = .pointer (some ⟨(w.heap.size + 1), k, none⟩) := hs 1 (by simp)
            have e2 : V 2 = .int .i64 ma := hs 2 (by simp)
            have e3 : V 3 = .int .i64 (ma + 1) := hs 3 (by simp)
            have e4 : V 4 = .int .i64 b := hs 4 (by simp)
            have e5 : V 5 = .pointer (some ⟨(w.heap.size + 1), b, none⟩) := hs 5 (by simp)
            have e6 : V 6 = .int .i64 mb := hs 6 (by simp)
            have e7 : V 7 = .bool false := hs 7 (by simp)
            have e8 : V 8 = .bool false := hs 8 (by simp)
            rw [if_neg (by simp [Rs.wantB, e8])]
            rfl
          · have e0 : V 0 = .int .i64 k := hs 0 (by simp)
            have e1 : V 1 = .pointer (some ⟨(w.heap.size + 1), k, none⟩) := hs 1 (by simp)
            have e2 : V 2 = .int .i64 ma := hs 2 (by simp)
            have e3 : V 3 = .int .i64 (ma + 1) := hs 3 (by simp)
            have e4 : V 4 = .int .i64 b := hs 4 (by simp)
            have e5 : V 5 = .pointer (some ⟨(w.heap.size + 1), b, none⟩) := hs 5 (by simp)
            have e6 : V 6 = .int .i64 mb := hs 6 (by simp)
            have e7 : V 7 = .bool false := hs 7 (by simp)
            have e8 : V 8 = .bool false := hs 8 (by simp)
            have e9 : V 9 = undef := hs 9 (by simp)
            rw [if_neg (by simp [Rs.wantB, e8])]
            rfl
          · have e0 : V 0 = .int .i64 k := hs 0 (by simp)
            have e1 : V 1 = .pointer (some ⟨(w.heap.size + 1), k, none⟩) := hs 1 (by simp)
            have e2 : V 2 = .int .i64 ma := hs 2 (by simp)
            have e3 : V 3 = .int .i64 (ma + 1) := hs 3 (by simp)
            have e4 : V 4 = .int .i64 b := hs 4 (by simp)
            have e5 : V 5 = .pointer (some ⟨(w.heap.size + 1), b, none⟩) := hs 5 (by simp)
            have e6 : V 6 = .int .i64 mb := hs 6 (by simp)
            have e7 : V 7 = .bool false := hs 7 (by simp)
            have e8 : V 8 = .bool false := hs 8 (by simp)
            rw [if_neg (by simp [Rs.wantB, e8])]
            rfl
          · have e0 : V 0 = .int .i64 k := hs 0 (by simp)
            have e1 : V 1 = .pointer (some ⟨(w.heap.size + 1), k, none⟩) := hs 1 (by simp)
            have e2 : V 2 = .int .i64 ma := hs 2 (by simp)
            have e3 : V 3 = .int .i64 (ma + 1) := hs 3 (by simp)
            have e4 : V 4 = .int .i64 b := hs 4 (by simp)
            have e5 : V 5 = .pointer (some ⟨(w.heap.size + 1), b, none⟩) := hs 5 (by simp)
            have e6 : V 6 = .int .i64 mb := hs 6 (by simp)
            have e7 : V 7 = .bool false := hs 7 (by simp)
            have e8 : V 8 = .bool false := hs 8 (by simp)
            rw [if_neg (by simp [Rs.wantB, e8])]
            rfl
          · have e0 : V 0 = .int .i64 k := hs 0 (by simp)
            have e1 : V 1 = .pointer (some ⟨(w.heap.size + 1), k, none⟩) := hs 1 (by simp)
            have e2 : V 2 = .int .i64 ma := hs 2 (by simp)
            have e3 : V 3 = .int .i64 (ma + 1) := hs 3 (by simp)
            have e4 : V 4 = .int .i64 b := hs 4 (by simp)
            have e5 : V 5 = .pointer (some ⟨(w.heap.size + 1), b, none⟩) := hs 5 (by simp)
            have e6 : V 6 = .int .i64 mb := hs 6 (by simp)
            have e7 : V 7 = .bool false := hs 7 (by simp)
            have e8 : V 8 = .bool false := hs 8 (by simp)
            have e9 : V 9 = undef := hs 9 (by simp)
            have e10 : V 10 = undef := hs 10 (by simp)
            have e11 : V 11 = undef := hs 11 (by simp)
            have e12 : V 12 = undef := hs 12 (by simp)
            rw [if_neg (by simp [Rs.wantB, e8])]
            rfl
          · have e0 : V 0 = .int .i64 k := hs 0 (by simp)
            have e1 : V 1 = .pointer (some ⟨(w.heap.size + 1), k, none⟩) := hs 1 (by simp)
            have e2 : V 2 = .int .i64 ma := hs 2 (by simp)
            have e3 : V 3 = .int .i64 (ma + 1) := hs 3 (by simp)
            have e4 : V 4 = .int .i64 b := hs 4 (by simp)
            have e5 : V 5 = .pointer (some ⟨(w.heap.size + 1), b, none⟩) := hs 5 (by simp)
            have e6 : V 6 = .int .i64 mb := hs 6 (by simp)
            have e7 : V 7 = .bool false := hs 7 (by simp)
            have e8 : V 8 = .bool false := hs 8 (by simp)
            have e9 : V 9 = undef := hs 9 (by simp)
            have e10 : V 10 = undef := hs 10 (by simp)
            have e11 : V 11 = undef := hs 11 (by simp)
            have e12 : V 12 = undef := hs 12 (by simp)
            have e13 : V 13 = undef := hs 13 (by simp)
            rw [if_pos (by rfl)]
            exact Rs.GrowL.value (v := .bool false) (w' := w') (by simp [go_sem, Rs.look, e0, e1, e2, e3, e4, e5, e6, e7, e8, e9, e10, e11, e12, e13]) (Rs.Gr.refl _) rfl
        · intro V w' hG hs
          have e0 : V 0 = .int .i64 k := hs 0 (by omega)
          have e1 : V 1 = .pointer (some ⟨(w.heap.size + 1), k, none⟩) := hs 1 (by omega)
          have e2 : V 2 = .int .i64 ma := hs 2 (by omega)
          have e3 : V 3 = .int .i64 (ma + 1) := hs 3 (by omega)
          have e4 : V 4 = .int .i64 b := hs 4 (by omega)
          have e5 : V 5 = .pointer (some ⟨(w.heap.size + 1), b, none⟩) := hs 5 (by omega)
          have e6 : V 6 = .int .i64 mb := hs 6 (by omega)
          have e7 : V 7 = .bool false := hs 7 (by omega)
          have e8 : V 8 = .bool false := hs 8 (by omega)
          have e9 : V 9 = undef := hs 9 (by omega)
          have e10 : V 10 = undef := hs 10 (by omega)
          have e11 : V 11 = undef := hs 11 (by omega)
          have e12 : V 12 = undef := hs 12 (by omega)
          have e13 : V 13 = undef := hs 13 (by omega)
          have e14 : V 14 = .bool false := hs 14 (by omega)
          simp only [Rs.canon, Rs.dstOf, List.range_succ, List.range_zero, List.nil_append, List.cons_append, List.foldl_cons, List.foldl_nil, List.drop_succ_cons, List.drop_zero, List.drop_nil, List.getElem?_toArray, List.getElem?_cons_succ, List.getElem?_cons_zero, Option.bind_some, Act.put, List.getD_cons_succ, List.getD_cons_zero, List.setIfInBounds_toArray, List.set_cons_succ, List.set_cons_zero]
          rw [e0, e1, e2, e3, e4, e5, e6, e7, e8, e9, e10, e11, e12, e13, e14]
          clear e0 e1 e2 e3 e4 e5 e6 e7 e8 e9 e10 e11 e12 e13 e14 hs
          clear hsum heq
          go_wp2
          go_roundw
          case rel =>
            refine ⟨k + 1, by omega, by go_num, fun j hj => ?_, join HB.out hG⟩
            by_cases hjk : j = k
            · subst hjk; rw [HP.out, HEQ.out]; rfl
            · exact HA.out j (by omega)
          case measure => simp [intOf]; omega
    · obtain rfl : k = b := by omega
      go_wp2
      go_ret
      exact ⟨ret_int (by unfold before; rw [find_none HA.out]; rfl), HBW.out.trans (HB.out.mono (by omega))⟩
end Go.Proofs.Ytadnggecnjdhiaa
set_option linter.unusedSimpArgs false
set_option linter.unusedVariables false
namespace Go.Proofs.Ytadnggecnjdhiaa
open Go.RowKit Tx

theorem blk3 {W : World} {b : Nat} {v0 v1 v2 : Value} {ty : TypeId} (h : W.heap[b]? = some (.cells #[v0, v1, v2] ty (0, 0))) : W.cell? ⟨b, 0, none⟩ = some v0 ∧ W.cell? ⟨b, 1, none⟩ = some v1 ∧ W.cell? ⟨b, 2, none⟩ = some v2 :=
  ⟨blk_cells h 0 _ rfl, blk_cells h 1 _ rfl, blk_cells h 2 _ rfl⟩
theorem ints_new4 (w : World) (a b c d : Int) (T : TypeId) : Ints (w.alloc (.cells #[.int .i64 a, .int .i64 b, .int .i64 c, .int .i64 d] T)) (some ⟨w.heap.size, 0, none⟩) [a, b, c, d] := by
  refine .inr ⟨_, _, rfl, by simp, fun i hi => ?_⟩
  have h := heap_last w (.cells #[.int .i64 a, .int .i64 b, .int .i64 c, .int .i64 d] T)
  have : i = 0 ∨ i = 1 ∨ i = 2 ∨ i = 3 := by simp at hi; omega
  rcases this with rfl | rfl | rfl | rfl
  · exact blk_cells h 0 _ rfl
  · exact blk_cells h 1 _ rfl
  · exact blk_cells h 2 _ rfl
  · exact blk_cells h 3 _ rfl
theorem build4 (w : World) (a b c d : Int) : (Instr.buildSlice 165 4 #[(0, .int .i64 a), (1, .int .i64 b), (2, .int .i64 c), (3, .int .i64 d)]).run Try.prog w = .ok (.slice (some ⟨w.heap.size, 0, none⟩) 4 4) (w.alloc (.cells #[.int .i64 a, .int .i64 b, .int .i64 c, .int .i64 d] 38)) := by
  first | kernel_rfl | simp [go_sem]
theorem err_first (t : Text) (h1 : ¬ (t.len < 1 ∨ 12 < t.len ∨ 6 < t.turns.length)) (h2 : ¬ (t.breath < 1 ∨ 40 < t.breath)) :
    t.err = firstErr [errIf badWord t.words 3, errIf (namesNo t.words.length) t.turns 1, errIf endsB t.turns 4, errIf itself t.turns 7] := by
  unfold Text.err
  rw [if_neg h1, if_neg h2]
  unfold errIf firstErr Text.len
  cases t.words.any badWord <;> cases t.turns.any (namesNo t.words.length) <;> cases t.turns.any endsB <;> cases t.turns.any itself <;> rfl

def spCk (t : Text) (pw pt : Option Addr) (cw ct A : Nat) : Nat → List Value → Value → World → Prop
  | 0, _, v, _ => v = .pointer (some ⟨A, 0, none⟩)
  | 1, _, v, _ => v = .slice pw t.words.length cw
  | 2, _, v, _ => v = .int .i64 (errIf badWord t.words 3)
  | 3, _, v, _ => v = .pointer (some ⟨A, 1, none⟩)
  | 4, _, v, _ => v = .slice pt t.turns.length ct
  | 5, _, v, _ => v = .agg #[.slice pw t.words.length cw, .slice pt t.turns.length ct, .int .i64 t.breath]
  | 6, L, v, w => ∃ p, v = .func (.func 137) #[] #[.pointer (some ⟨p, 0, none⟩)] ∧ w.heap[p]? = some (.cells #[.slice pw t.words.length cw, .slice pt t.turns.length ct, .int .i64 t.breath, .nilFunc] 125 (0, 0))
  | 7, _, v, _ => v = .int .i64 (errIf (namesNo t.words.length) t.turns 1)
  | 8, _, v, _ => v = .pointer (some ⟨A, 1, none⟩)
  | 9, _, v, _ => v = .slice pt t.turns.length ct
  | 10, _, v, _ => v = .int .i64 (errIf endsB t.turns 4)
  | 11, _, v, _ => v = .pointer (some ⟨A, 1, none⟩)
  | 12, _, v, _ => v = .slice pt t.turns.length ct
  | 13, _, v, _ => v = .int .i64 (errIf itself t.turns 7)
  | 14, L, v, w => ∃ p, v = .slice (some ⟨p, 0, none⟩) 4 4 ∧ Ints w (some ⟨p, 0, none⟩) [errIf badWord t.words 3, errIf (namesNo t.words.length) t.turns 1, errIf endsB t.turns 4, errIf itself t.turns 7]
  | 15, _, v, _ => v = .int .i64 (firstErr [errIf badWord t.words 3, errIf (namesNo t.words.length) t.turns 1, errIf endsB t.turns 4, errIf itself t.turns 7])
  | _, _, _, _ => False
theorem spCk_stable (t : Text) (pw pt : Option Addr) (cw ct A : Nat) : ∀ i L v w w', spCk t pw pt cw ct A i L v w → Rs.Gr w w' → spCk t pw pt cw ct A i L v w' := by
  intro i L v w w' h hg
  match i with
  | 0 => exact h
  | 1 => exact h
  | 2 => exact h
  | 3 => exact h
  | 4 => exact h
  | 5 => exact h
  | 6 => obtain ⟨p, h1, h3⟩ := h; exact ⟨p, h1, (hg.block p (Array.getElem?_eq_some_iff.1 h3).1).trans h3⟩
  | 7 => exact h
  | 8 => exact h
  | 9 => exact h
  | 10 => exact h
  | 11 => exact h
  | 12 => exact h
  | 13 => exact h
  | 14 => obtain ⟨p, h1, h3⟩ := h; exact ⟨p, h1, h3.below hg⟩
  | 15 => exact h

set_option maxHeartbeats 1600000 in
set_option maxRecDepth 100000 in
theorem check_in (t : Text) (hl1 : t.words.length ≤ 1000000) (hl2 : t.turns.length ≤ 1000000) (h1 : ¬ (t.len < 1 ∨ 12 < t.len ∨ 6 < t.turns.length)) (h2 : ¬ (t.breath < 1 ∨ 40 < t.breath)) (pw pt : Option Addr) (cw ct : Nat) (w : World) (hW : TxAt w t pw pt) :
    Calls Try.prog 22 #[.agg #[.slice pw t.words.length cw, .slice pt t.turns.length ct, .int .i64 t.breath]] w fun e w' => e = .returned (.int .i64 t.err) ∧ Below w.heap.size w w' := by
  have HE := Lib.hid (err_first t h1 h2)
  have HW := Lib.hid hW
  have b1 : btw (t.words.length : Int) 1 12 = true := by unfold Text.len at h1; simp [btw]; omega
  have b2 : btw t.breath 1 40 = true := by simp [btw]; omega
  have b3 : decide (6 < (t.turns.length : Int)) = false := by simp; omega
  have H1 := Lib.hid b1
  have H2 := Lib.hid b2
  clear b1 b2 hW h1 h2
  have HB := Lib.hid (below1 w (.cells #[.slice pw t.words.length cw, .slice pt t.turns.length ct, .int .i64 t.breath] 25))
  have HX0 := heap_last w (.cells #[.slice pw t.words.length cw, .slice pt t.turns.length ct, .int .i64 t.breath] 25)
  have HZ0 : w.heap.size < (w.alloc (.cells #[.slice pw t.words.length cw, .slice pt t.turns.length ct, .int .i64 t.breath] 25)).heap.size := by simp
  obtain ⟨k0, k1, k2⟩ := blk3 HX0
  go_enter Try.func22, Try.ntmps22
  go_wp2_with fail
  refine (between_any _ _ _ _).mono ?_
  rintro e w' ⟨rfl, rfl⟩
  rw [H1.out]
  go_wp2_with fail
  refine (between_any _ _ _ _).mono ?_
  rintro e w' ⟨rfl, rfl⟩
  rw [H2.out]
  go_wp2_with fail
  generalize hW1 : w.alloc (.cells #[.slice pw t.words.length cw, .slice pt t.turns.length ct, .int .i64 t.breath] 25) = W1 at HB HX0 HZ0 k0 k1 k2 ⊢
  clear hW1 k0 k1 k2
  · refine Rs.region_gen 16 [[], [0], [0, 1], [], [3], [], [0, 1, 2, 5], [0, 1, 2, 3, 4, 5, 6], [], [8], [0, 1, 2, 3, 4, 5, 6, 7, 8, 9], [], [11], [0, 1, 2, 3, 4, 5, 6, 7, 8, 9, 10, 11, 12], [0, 1, 2, 3, 4, 5, 6, 7, 8, 9, 10, 11, 12, 13], [0, 1, 2, 3, 4, 5, 6, 7, 8, 9, 10, 11, 12, 13, 14]] [some 18, some 19, some 20, some 21, some 22, some 23, some 24, some 25, some 26, some 27, some 28, some 29, some 30, some 31, some 32, some 33] (spCk t pw pt cw ct w.heap.size) (by kernel_rfl) (by kernel_rfl) rfl (spCk_stable _ _ _ _ _ _) ?_ ?_
    · refine ⟨fun V w' hG hs => ?_, fun V w' hG hs => ?_, fun V w' hG hs => ?_, fun V w' hG hs => ?_, fun V w' hG hs => ?_, fun V w' hG hs => ?_, fun V w' hG hs => ?_, fun V w' hG hs => ?_, fun V w' hG hs => ?_, fun V w' hG hs => ?_, fun V w' hG hs => ?_, fun V w' hG hs => ?_, fun V w' hG hs => ?_, fun V w' hG hs => ?_, fun V w' hG hs => ?_, fun V w' hG hs => ?_, trivial⟩
      all_goals
        obtain ⟨k0, k1, k2⟩ := blk3 ((hG.block w.heap.size HZ0).trans HX0)
      · rw [if_pos (by rfl)]
        exact Rs.GrowL.value (v := .pointer (some ⟨w.heap.size, 0, none⟩)) (w' := w') (by simp [go_sem, Rs.look]) (Rs.Gr.refl _) rfl
      · have e0 : V 0 = .pointer (some ⟨w.heap.size, 0, none⟩) := hs 0 (by simp)
        rw [if_pos (by rfl)]
        exact Rs.GrowL.value (v := .slice pw t.words.length cw) (w' := w') (by simp [go_sem, Rs.look, e0, k0]) (Rs.Gr.refl _) rfl
      · have e0 : V 0 = .pointer (some ⟨w.heap.size, 0, none⟩) := hs 0 (by simp)
        have e1 : V 1 = .slice pw t.words.length cw := hs 1 (by simp)
        rw [if_pos (by rfl)]
        refine Rs.GrowL.call (f := 82) (args := #[.slice pw t.words.length cw, .func (.func 83) #[] #[], .int .i64 3]) (by simp [go_sem, Rs.look, e1]) ?_
        refine (errIfW_any _ _ _ _ w' hl1 (HW.out.words.below (join HB.out hG))).mono ?_
        rintro e w2 ⟨rfl, hB2⟩
        exact ⟨_, rfl, hB2, rfl⟩
      · rw [if_pos (by rfl)]
        exact Rs.GrowL.value (v := .pointer (some ⟨w.heap.size, 1, none⟩)) (w' := w') (by simp [go_sem, Rs.look]) (Rs.Gr.refl _) rfl
      · have e3 : V 3 = .pointer (some ⟨w.heap.size, 1, none⟩) := hs 3 (by simp)
        rw [if_pos (by rfl)]
        exact Rs.GrowL.value (v := .slice pt t.turns.length ct) (w' := w') (by simp [go_sem, Rs.look, e3, k1]) (Rs.Gr.refl _) rfl
      · rw [if_pos (by rfl)]
        exact Rs.GrowL.value (v := .agg #[.slice pw t.words.length cw, .slice pt t.turns.length ct, .int .i64 t.breath]) (w' := w') (by simp [go_sem, Rs.look, k0, k1, k2]) (Rs.Gr.refl _) rfl
      · have e0 : V 0 = .pointer (some ⟨w.heap.size, 0, none⟩) := hs 0 (by simp)
        have e1 : V 1 = .slice pw t.words.length cw := hs 1 (by simp)
        have e2 : V 2 = .int .i64 (errIf badWord t.words 3) := hs 2 (by simp)
        have e5 : V 5 = .agg #[.slice pw t.words.length cw, .slice pt t.turns.length ct, .int .i64 t.breath] := hs 5 (by simp)
        rw [if_pos (by rfl)]
        refine Rs.GrowL.call (f := 85) (args := #[.agg #[.slice pw t.words.length cw, .slice pt t.turns.length ct, .int .i64 t.breath]]) (by simp [go_sem, Rs.look, e5]) ?_
        refine (namesNoWord_any _ _ _ _ _ _ _ w').mono ?_
        rintro e w2 ⟨rfl, rfl⟩
        refine ⟨_, rfl, (below1 _ _).alloc (by simp) _, _, rfl, ?_⟩
        have := heap_last (w'.alloc (.cells #[.slice pw t.words.length cw, .slice pt t.turns.length ct, .int .i64 t.breath] 25)) (.cells #[.slice pw t.words.length cw, .slice pt t.turns.length ct, .int .i64 t.breath, .nilFunc] 125)
        rwa [World.size_alloc] at this
      · have e0 : V 0 = .pointer (some ⟨w.heap.size, 0, none⟩) := hs 0 (by simp)
        have e1 : V 1 = .slice pw t.words.length cw := hs 1 (by simp)
        have e2 : V 2 = .int .i64 (errIf badWord t.words 3) := hs 2 (by simp)
        have e3 : V 3 = .pointer (some ⟨w.heap.size, 1, none⟩) := hs 3 (by simp)
        have e4 : V 4 = .slice pt t.turns.length ct := hs 4 (by simp)
        have e5 : V 5 = .agg #[.slice pw t.words.length cw, .slice pt t.turns.length ct, .int .i64 t.breath] := hs 5 (by simp)
        have r6 := hs 6 (by simp)
        rw [if_pos (by rfl)]
        obtain ⟨p6, e6, x6⟩ := r6
        refine Rs.GrowL.call (f := 84) (args := #[.slice pt t.turns.length ct, .func (.func 137) #[] #[.pointer (some ⟨p6, 0, none⟩)], .int .i64 1]) (by simp [go_sem, Rs.look, e4, e6]) ?_
        refine (errIfT1_any _ entered_namesNo1 _ (namesNo t.words.length) _ _ _ _ w' hl2 (HW.out.turns.below (join HB.out hG)) (fun W hW u => namesNo1_any _ _ _ _ _ _ p6 u W (by omega) ((hW.block p6 (Array.getElem?_eq_some_iff.1 x6).1).trans x6))).mono ?_
        rintro e w2 ⟨rfl, hB2⟩
        exact ⟨_, rfl, hB2, rfl⟩
      · rw [if_pos (by rfl)]
        exact Rs.GrowL.value (v := .pointer (some ⟨w.heap.size, 1, none⟩)) (w' := w') (by simp [go_sem, Rs.look]) (Rs.Gr.refl _) rfl
      · have e8 : V 8 = .pointer (some ⟨w.heap.size, 1, none⟩) := hs 8 (by simp)
        rw [if_pos (by rfl)]
        exact Rs.GrowL.value (v := .slice pt t.turns.length ct) (w' := w') (by simp [go_sem, Rs.look, e8, k1]) (Rs.Gr.refl _) rfl
      · have e0 : V 0 = .pointer (some ⟨w.heap.size, 0, none⟩) := hs 0 (by simp)
        have e1 : V 1 = .slice pw t.words.length cw := hs 1 (by simp)
        have e2 : V 2 = .int .i64 (errIf badWord t.words 3) := hs 2 (by simp)
        have e3 : V 3 = .pointer (some ⟨w.heap.size, 1, none⟩) := hs 3 (by simp)
        have e4 : V 4 = .slice pt t.turns.length ct := hs 4 (by simp)
        have e5 : V 5 = .agg #[.slice pw t.words.length cw, .slice pt t.turns.length ct, .int .i64 t.breath] := hs 5 (by simp)
        have r6 := hs 6 (by simp)
        have e7 : V 7 = .int .i64 (errIf (namesNo t.words.length) t.turns 1) := hs 7 (by simp)
        have e8 : V 8 = .pointer (some ⟨w.heap.size, 1, none⟩) := hs 8 (by simp)
        have e9 : V 9 = .slice pt t.turns.length ct := hs 9 (by simp)
        rw [if_pos (by rfl)]
        refine Rs.GrowL.call (f := 84) (args := #[.slice pt t.turns.length ct, .func (.func 86) #[] #[], .int .i64 4]) (by simp [go_sem, Rs.look, e9]) ?_
        refine (errIfT0_any _ entered_endsB endsB _ _ _ _ w' hl2 (HW.out.turns.below (join HB.out hG)) (fun W hW u => endsB_any u W)).mono ?_
        rintro e w2 ⟨rfl, hB2⟩
        exact ⟨_, rfl, hB2, rfl⟩
      · rw [if_pos (by rfl)]
        exact Rs.GrowL.value (v := .pointer (some ⟨w.heap.size, 1, none⟩)) (w' := w') (by simp [go_sem, Rs.look]) (Rs.Gr.refl _) rfl
      · have e11 : V 11 = .pointer (some ⟨w.heap.size, 1, none⟩) := hs 11 (by simp)
        rw [if_pos (by rfl)]
        exact Rs.GrowL.value (v := .slice pt t.turns.length ct) (w' := w') (by simp [go_sem, Rs.look, e11, k1]) (Rs.Gr.refl _) rfl
      · have e0 : V 0 = .pointer (some ⟨w.heap.size, 0, none⟩) := hs 0 (by simp)
        have e1 : V 1 = .slice pw t.words.length cw := hs 1 (by simp)
        have e2 : V 2 = .int .i64 (errIf badWord t.words 3) := hs 2 (by simp)
        have e3 : V 3 = .pointer (some ⟨w.heap.size, 1, none⟩) := hs 3 (by simp)
        have e4 : V 4 = .slice pt t.turns.length ct := hs 4 (by simp)
        have e5 : V 5 = .agg #[.slice pw t.words.length cw, .slice pt t.turns.length ct, .int .i64 t.breath] := hs 5 (by simp)
        have r6 := hs 6 (by simp)
        have e7 : V 7 = .int .i64 (errIf (namesNo t.words.length) t.turns 1) := hs 7 (by simp)
        have e8 : V 8 = .pointer (some ⟨w.heap.size, 1, none⟩) := hs 8 (by simp)
        have e9 : V 9 = .slice pt t.turns.length ct := hs 9 (by simp)
        have e10 : V 10 = .int .i64 (errIf endsB t.turns 4) := hs 10 (by simp)
        have e11 : V 11 = .pointer (some ⟨w.heap.size, 1, none⟩) := hs 11 (by simp)
        have e12 : V 12 = .slice pt t.turns.length ct := hs 12 (by simp)
        rw [if_pos (by rfl)]
        refine Rs.GrowL.call (f := 84) (args := #[.slice pt t.turns.length ct, .func (.func 87) #[] #[], .int .i64 7]) (by simp [go_sem, Rs.look, e12]) ?_
        refine (errIfT0_any _ entered_itself itself _ _ _ _ w' hl2 (HW.out.turns.below (join HB.out hG)) (fun W hW u => itself_any u W)).mono ?_
        rintro e w2 ⟨rfl, hB2⟩
        exact ⟨_, rfl, hB2, rfl⟩
      · have e0 : V 0 = .pointer (some ⟨w.heap.size, 0, none⟩) := hs 0 (by simp)
        have e1 : V 1 = .slice pw t.words.length cw := hs 1 (by simp)
        have e2 : V 2 = .int .i64 (errIf badWord t.words 3) := hs 2 (by simp)
        have e3 : V 3 = .pointer (some ⟨w.heap.size, 1, none⟩) := hs 3 (by simp)
        have e4 : V 4 = .slice pt t.turns.length ct := hs 4 (by simp)
        have e5 : V 5 = .agg #[.slice pw t.words.length cw, .slice pt t.turns.length ct, .int .i64 t.breath] := hs 5 (by simp)
        have r6 := hs 6 (by simp)
        have e7 : V 7 = .int .i64 (errIf (namesNo t.words.length) t.turns 1) := hs 7 (by simp)
        have e8 : V 8 = .pointer (some ⟨w.heap.size, 1, none⟩) := hs 8 (by simp)
        have e9 : V 9 = .slice pt t.turns.length ct := hs 9 (by simp)
        have e10 : V 10 = .int .i64 (errIf endsB t.turns 4) := hs 10 (by simp)
        have e11 : V 11 = .pointer (some ⟨w.heap.size, 1, none⟩) := hs 11 (by simp)
        have e12 : V 12 = .slice pt t.turns.length ct := hs 12 (by simp)
        have e13 : V 13 = .int .i64 (errIf itself t.turns 7) := hs 13 (by simp)
        rw [if_pos (by rfl)]
        refine Rs.GrowL.value (v := .slice (some ⟨w'.heap.size, 0, none⟩) 4 4) (w' := w'.alloc (.cells #[.int .i64 (errIf badWord t.words 3), .int .i64 (errIf (namesNo t.words.length) t.turns 1), .int .i64 (errIf endsB t.turns 4), .int .i64 (errIf itself t.turns 7)] 38)) ?_ (below1 _ _) ⟨_, rfl, ?_⟩
        · have hb4 := build4 w' (errIf badWord t.words 3) (errIf (namesNo t.words.length) t.turns 1) (errIf endsB t.turns 4) (errIf itself t.turns 7)
          simp [go_sem, Rs.look, e2, e7, e10, e13, hb4]
        · exact ints_new4 _ _ _ _ _ _
      · have e0 : V 0 = .pointer (some ⟨w.heap.size, 0, none⟩) := hs 0 (by simp)
        have e1 : V 1 = .slice pw t.words.length cw := hs 1 (by simp)
        have e2 : V 2 = .int .i64 (errIf badWord t.words 3) := hs 2 (by simp)
        have e3 : V 3 = .pointer (some ⟨w.heap.size, 1, none⟩) := hs 3 (by simp)
        have e4 : V 4 = .slice pt t.turns.length ct := hs 4 (by simp)
        have e5 : V 5 = .agg #[.slice pw t.words.length cw, .slice pt t.turns.length ct, .int .i64 t.breath] := hs 5 (by simp)
        have r6 := hs 6 (by simp)
        have e7 : V 7 = .int .i64 (errIf (namesNo t.words.length) t.turns 1) := hs 7 (by simp)
        have e8 : V 8 = .pointer (some ⟨w.heap.size, 1, none⟩) := hs 8 (by simp)
        have e9 : V 9 = .slice pt t.turns.length ct := hs 9 (by simp)
        have e10 : V 10 = .int .i64 (errIf endsB t.turns 4) := hs 10 (by simp)
        have e11 : V 11 = .pointer (some ⟨w.heap.size, 1, none⟩) := hs 11 (by simp)
        have e12 : V 12 = .slice pt t.turns.length ct := hs 12 (by simp)
        have e13 : V 13 = .int .i64 (errIf itself t.turns 7) := hs 13 (by simp)
        have r14 := hs 14 (by simp)
        rw [if_pos (by rfl)]
        obtain ⟨p14, e14, x14⟩ := r14
        refine Rs.GrowL.call (f := 81) (args := #[.slice (some ⟨p14, 0, none⟩) 4 4]) (by simp [go_sem, Rs.look, e14]) ?_
        refine (firstError_any [errIf badWord t.words 3, errIf (namesNo t.words.length) t.turns 1, errIf endsB t.turns 4, errIf itself t.turns 7] _ 4 w' (by simp) x14).mono ?_
        rintro e w2 ⟨rfl, rfl⟩
        exact ⟨_, rfl, Below.refl _ _, rfl⟩
    · intro V w' hG hs
      have e0 : V 0 = .pointer (some ⟨w.heap.size, 0, none⟩) := hs 0 (by omega)
      have e1 : V 1 = .slice pw t.words.length cw := hs 1 (by omega)
      have e2 : V 2 = .int .i64 (errIf badWord t.words 3) := hs 2 (by omega)
      have e3 : V 3 = .pointer (some ⟨w.heap.size, 1, none⟩) := hs 3 (by omega)
      have e4 : V 4 = .slice pt t.turns.length ct := hs 4 (by omega)
      have e5 : V 5 = .agg #[.slice pw t.words.length cw, .slice pt t.turns.length ct, .int .i64 t.breath] := hs 5 (by omega)
      have r6 := hs 6 (by omega)
      have e7 : V 7 = .int .i64 (errIf (namesNo t.words.length) t.turns 1) := hs 7 (by omega)
      have e8 : V 8 = .pointer (some ⟨w.heap.size, 1, none⟩) := hs 8 (by omega)
      have e9 : V 9 = .slice pt t.turns.length ct := hs 9 (by omega)
      have e10 : V 10 = .int .i64 (errIf endsB t.turns 4) := hs 10 (by omega)
      have e11 : V 11 = .pointer (some ⟨w.heap.size, 1, none⟩) := hs 11 (by omega)
      have e12 : V 12 = .slice pt t.turns.length ct := hs 12 (by omega)
      have e13 : V 13 = .int .i64 (errIf itself t.turns 7) := hs 13 (by omega)
      have r14 := hs 14 (by omega)
      have e15 : V 15 = .int .i64 (firstErr [errIf badWord t.words 3, errIf (namesNo t.words.length) t.turns 1, errIf endsB t.turns 4, errIf itself t.turns 7]) := hs 15 (by omega)
      obtain ⟨p6, e6, x6⟩ := r6
      obtain ⟨p14, e14, x14⟩ := r14
      simp only [Rs.canon, Rs.dstOf, List.range_succ, List.range_zero, List.nil_append, List.cons_append, List.foldl_cons, List.foldl_nil, List.drop_succ_cons, List.drop_zero, List.drop_nil, List.getElem?_toArray, List.getElem?_cons_succ, List.getElem?_cons_zero, Option.bind_some, Act.put, List.getD_cons_succ, List.getD_cons_zero, List.setIfInBounds_toArray, List.set_cons_succ, List.set_cons_zero]
      rw [e0, e1, e2, e3, e4, e5, e7, e8, e9, e10, e11, e12, e13, e15, e6, e14]
      clear e0 e1 e2 e3 e4 e5 e7 e8 e9 e10 e11 e12 e13 e15 e6 e14 hs
      go_wp2
      go_ret
      exact ⟨by rw [HE.out]; rfl, join HB.out hG⟩
end Go.Proofs.Ytadnggecnjdhiaa
set_option linter.unusedSimpArgs false
set_option linter.unusedVariables false
namespace Go.Proofs.Ytadnggecnjdhiaa
open Go.RowKit Tx

set_option maxHeartbeats 800000 in
theorem Check_any (t : Text) (hl1 : t.words.length ≤ 1000000) (hl2 : t.turns.length ≤ 1000000) (pw pt : Option Addr) (cw ct : Nat) (w : World) (hW : TxAt w t pw pt) :
    Calls Try.prog 22 #[.agg #[.slice pw t.words.length cw, .slice pt t.turns.length ct, .int .i64 t.breath]] w fun e w' => e = .returned (.int .i64 t.err) ∧ Below w.heap.size w w' := by
  by_cases h1 : t.len < 1 ∨ 12 < t.len ∨ 6 < t.turns.length
  · have hfin : t.err = 2 := by unfold Text.err; rw [if_pos h1]
    have HF := Lib.hid hfin
    unfold Text.len at h1
    clear hfin hW
    by_cases h2 : t.words.length < 1 ∨ 12 < t.words.length
    · have b1 : btw (t.words.length : Int) 1 12 = false := by simp [btw]; omega
      have H1 := Lib.hid b1
      clear b1 h1 h2
      go_enter Try.func22, Try.ntmps22
      go_wp2_with fail
      refine (between_any _ _ _ _).mono ?_
      rintro e w' ⟨rfl, rfl⟩
      rw [H1.out]
      go_wp2
      go_ret
      exact ⟨by rw [HF.out]; rfl, below1 _ _⟩
    · have b1 : btw (t.words.length : Int) 1 12 = true := by simp [btw]; omega
      have b3 : decide (6 < (t.turns.length : Int)) = true := by simp; omega
      have H1 := Lib.hid b1
      clear b1 h1 h2
      go_enter Try.func22, Try.ntmps22
      go_wp2_with fail
      refine (between_any _ _ _ _).mono ?_
      rintro e w' ⟨rfl, rfl⟩
      rw [H1.out]
      go_wp2
      go_ret
      exact ⟨by rw [HF.out]; rfl, below1 _ _⟩
  · by_cases h2 : t.breath < 1 ∨ 40 < t.breath
    · have hfin : t.err = 3 := by unfold Text.err; rw [if_neg h1, if_pos h2]
      have HF := Lib.hid hfin
      unfold Text.len at h1
      have b1 : btw (t.words.length : Int) 1 12 = true := by simp [btw]; omega
      have b2 : btw t.breath 1 40 = false := by simp [btw]; omega
      have b3 : decide (6 < (t.turns.length : Int)) = false := by simp; omega
      have H1 := Lib.hid b1
      have H2 := Lib.hid b2
      clear hfin hW b1 b2 h1 h2
      go_enter Try.func22, Try.ntmps22
      go_wp2_with fail
      refine (between_any _ _ _ _).mono ?_
      rintro e w' ⟨rfl, rfl⟩
      rw [H1.out]
      go_wp2_with fail
      refine (between_any _ _ _ _).mono ?_
      rintro e w' ⟨rfl, rfl⟩
      rw [H2.out]
      go_wp2
      go_ret
      exact ⟨by rw [HF.out]; rfl, below1 _ _⟩
    · exact check_in t hl1 hl2 h1 h2 pw pt cw ct w hW

/-- a right text at work: its readings may have what is right -/
def openV (t : Text) (pw pt : Option Addr) (cw ct : Nat) : Array Value :=
  #[.slice pw t.words.length cw, .slice pt t.turns.length ct, .int .i64 t.breath, .func (.func 138) #[.agg #[.slice pw t.words.length cw, .slice pt t.turns.length ct, .int .i64 t.breath, .nilFunc]] #[]]
set_option maxHeartbeats 800000 in
theorem open_ok (t : Text) (he : t.err = 0) (pw pt : Option Addr) (cw ct : Nat) (w : World) (hW : TxAt w t pw pt) :
    Calls Try.prog 89 #[.agg #[.slice pw t.words.length cw, .slice pt t.turns.length ct, .int .i64 t.breath]] w fun e w' =>
      e = .returned (.tuple #[.agg #[.slice pw t.words.length cw, .slice pt t.turns.length ct, .int .i64 t.breath, .func (.func 138) #[.agg #[.slice pw t.words.length cw, .slice pt t.turns.length ct, .int .i64 t.breath, .nilFunc]] #[]], .int .i64 0]) ∧ Below w.heap.size w w' := by
  have ok := err_ok he
  have HS := Lib.hid (fun W (h : Below w.heap.size w W) => Check_any t (by have := ok.n12; omega) (by have := ok.m6; omega) pw pt cw ct W (hW.below h))
  have HE := Lib.hid he
  have hmf := mf
  clear hW ok he
  go_enter Try.func89, Try.ntmps89
  go_wp2_with fail
  refine (HS.out _ ((below1 _ _).alloc (by simp) _)).mono ?_
  rintro e w5 ⟨rfl, hB5⟩
  rw [HE.out]
  obtain ⟨hc5, hf5⟩ := bcell hB5
  have hz5 : w.heap.size + 1 < w5.heap.size := by have := hB5.size; simp at this; omega
  have HB5 := Lib.hid (join ((below1 _ _).alloc (by simp) _) hB5)
  clear hB5
  go_wp2
  refine bodyPost_ret (v := .tuple #[.agg #[.slice pw t.words.length cw, .slice pt t.turns.length ct, .int .i64 t.breath, .func (.func 138) #[.agg #[.slice pw t.words.length cw, .slice pt t.turns.length ct, .int .i64 t.breath, .nilFunc]] #[]], .int .i64 0]) (by simp [results, Try.results89, go_sem, hc5, hz5]) rfl ⟨rfl, ?_⟩
  have hz6 := HB5.out.size
  repeat' (first | exact HB5.out | apply belS | apply belA | apply belD)
  all_goals first | omega | (simp; done) | (simp; omega)

set_option maxHeartbeats 800000 in
theorem open_bad (t : Text) (he : t.err ≠ 0) (hl1 : t.words.length ≤ 1000000) (hl2 : t.turns.length ≤ 1000000) (pw pt : Option Addr) (cw ct : Nat) (w : World) (hW : TxAt w t pw pt) :
    Calls Try.prog 89 #[.agg #[.slice pw t.words.length cw, .slice pt t.turns.length ct, .int .i64 t.breath]] w fun e w' =>
      e = .returned (.tuple #[.agg #[.slice none 0 0, .slice none 0 0, .int .i64 0, .nilFunc], .int .i64 t.err]) ∧ Below w.heap.size w w' := by
  have HS := Lib.hid (fun W (h : Below w.heap.size w W) => Check_any t hl1 hl2 pw pt cw ct W (hW.below h))
  have HE : (t.err != 0) = true := by simpa using he
  have hmf := mf
  clear hW he
  generalize t.err = er at HE HS ⊢
  go_enter Try.func89, Try.ntmps89
  go_wp2_with fail
  refine (HS.out _ ((below1 _ _).alloc (by simp) _)).mono ?_
  rintro e w5 ⟨rfl, hB5⟩
  obtain ⟨hc5, hf5⟩ := bcell hB5
  have hz5 : w.heap.size + 1 < w5.heap.size := by have := hB5.size; simp at this; omega
  have HB5 := Lib.hid (join ((below1 _ _).alloc (by simp) _) hB5)
  clear hB5
  go_wp2
  refine bodyPost_ret (v := .tuple #[.agg #[.slice none 0 0, .slice none 0 0, .int .i64 0, .nilFunc], .int .i64 er]) (by simp [results, Try.results89, go_sem, hc5, hz5]) rfl ⟨rfl, ?_⟩
  have hz6 := HB5.out.size
  repeat' (first | exact HB5.out | apply belS | apply belA | apply belD)
  all_goals first | omega | (simp; done) | (simp; omega)

/-- the error of a reading -/
def readErr (t : Text) (l : List Int) : Int := if t.err ≠ 0 then t.err else if l.any (fun k => !btw k 1 12) then 3 else if isum l ≠ t.words.length then 2 else 0
set_option maxHeartbeats 1600000 in
theorem openReading_ok (t : Text) (l : List Int) (he : readErr t l = 0) (hll : l.length ≤ 1000000) (pw pt pl : Option Addr) (cw ct cl : Nat) (w : World) (hW : TxAt w t pw pt) (hL : Ints w pl l) :
    Calls Try.prog 95 #[.agg #[.slice pw t.words.length cw, .slice pt t.turns.length ct, .int .i64 t.breath], .slice pl l.length cl] w fun e w' =>
      e = .returned (.tuple #[.agg #[.slice pw t.words.length cw, .slice pt t.turns.length ct, .int .i64 t.breath, .func (.func 138) #[.agg #[.slice pw t.words.length cw, .slice pt t.turns.length ct, .int .i64 t.breath, .nilFunc]] #[]], .int .i64 0]) ∧ Below w.heap.size w w' := by
  have h0 : t.err = 0 := by
    by_cases h : t.err = 0
    · exact h
    · unfold readErr at he; rw [if_pos h] at he; exact absurd he h
  unfold readErr at he
  rw [if_neg (by simp [h0])] at he
  have h1 : ¬ l.any (fun k => !btw k 1 12) = true := by intro h; rw [if_pos h] at he; omega
  rw [if_neg h1] at he
  have h2 : isum l = t.words.length := by
    by_cases h : isum l = t.words.length
    · exact h
    · rw [if_pos h] at he; omega
  have hx : ∀ x ∈ l, -1000000 ≤ x ∧ x ≤ 1000000 := fun x hx => by
    have := any_false h1 x hx
    simp only [Bool.not_eq_false'] at this
    have := btw_true this; omega
  have h3 : errIf (fun k => !btw k 1 12) l 3 = 0 := by rw [errIf, if_neg h1]
  have HS := Lib.hid (fun W (h : Below w.heap.size w W) => open_ok t h0 pw pt cw ct W (hW.below h))
  have HI := Lib.hid (fun W (h : Below w.heap.size w W) => errIfI_any 140 entered_openReading1 (fun k => !btw k 1 12) l pl cl 3 W hll (hL.below h) (fun W' _ u => (openReading1_any u W').mono fun e w' ⟨h1, h2⟩ => ⟨h1, h2 ▸ Below.refl _ _⟩))
  have HM := Lib.hid (fun W (h : Below w.heap.size w W) => sum_any l pl cl W hll hx (hL.below h))
  have H2 := Lib.hid h2
  have H3 := Lib.hid h3
  have h2' : ((t.words.length : Int) != t.words.length) = false := by simp
  clear hW hL he h1 h2 h3 h0 hx
  go_enter Try.func95, Try.ntmps95
  go_wp2_with fail
  refine (HS.out _ ((below1 _ _).alloc (by simp) _)).mono ?_
  rintro e w5 ⟨rfl, hB5⟩
  obtain ⟨hc5, hf5⟩ := bcell hB5
  have hz5 : w.heap.size + 1 < w5.heap.size := by have := hB5.size; simp at this; omega
  have hy5 : w.heap.size < w5.heap.size := by omega
  have HB5 := Lib.hid (join ((below1 _ _).alloc (by simp) _) hB5)
  have hblk : w5.heap[w.heap.size + 1]? = some (.cells #[.slice none 0 0, .slice none 0 0, .int .i64 0, .nilFunc] 125 (0, 0)) := by
    rw [hB5.block _ (by simp)]
    have := heap_last (w.alloc (.cells #[.slice pw t.words.length cw, .slice pt t.turns.length ct, .int .i64 t.breath] 25)) (.cells #[.slice none 0 0, .slice none 0 0, .int .i64 0, .nilFunc] 125)
    rwa [World.size_alloc] at this
  have HBLK := Lib.hid hblk
  clear hB5 hblk
  go_wp2_with fail
  refine (HI.out _ (join HB5.out (below1 _ _))).mono ?_
  rintro e w6 ⟨rfl, hB6⟩
  rw [H3.out]
  obtain ⟨hc6, hf6⟩ := bcell hB6
  have hz6 : w5.heap.size < w6.heap.size := by have := hB6.size; simp at this; omega
  have HB6 := Lib.hid (join (join HB5.out (below1 _ _)) hB6)
  have hblk6 := (hB6.block (w.heap.size + 1) (by simp; omega)).trans ((Below.heap_alloc _ _ _ hz5).trans HBLK.out)
  have r0 := blk_cells hblk6 0 _ rfl
  have r1 := blk_cells hblk6 1 _ rfl
  have r2 := blk_cells hblk6 2 _ rfl
  have r3 := blk_cells hblk6 3 _ rfl
  clear hB6 hblk6
  have hq6 : w.heap.size < w6.heap.size ∧ w.heap.size + 1 < w6.heap.size := by omega
  obtain ⟨hq6, hq7⟩ := hq6
  go_wp2_with fail
  go_region_with (go_at_call 141; refine (HM.out _ (by first | exact HB6.out.drew | exact HB6.out)).mono ?_; rintro e w7 ⟨rfl, rfl⟩; rw [H2.out])
  all_goals go_wp2
  all_goals refine bodyPost_ret (v := .tuple #[.agg #[.slice pw t.words.length cw, .slice pt t.turns.length ct, .int .i64 t.breath, .func (.func 138) #[.agg #[.slice pw t.words.length cw, .slice pt t.turns.length ct, .int .i64 t.breath, .nilFunc]] #[]], .int .i64 0]) (by simp [results, Try.results95, go_sem, hc5, hz5, hc6, hz6, hq6, hq7, r0, r1, r2, r3]) rfl ⟨rfl, ?_⟩
  all_goals have hz7 := HB6.out.size
  all_goals repeat' (first | exact HB6.out | apply belS | apply belA | apply belD)
  all_goals first | omega | (simp; done) | (simp; omega)
end Go.Proofs.Ytadnggecnjdhiaa
