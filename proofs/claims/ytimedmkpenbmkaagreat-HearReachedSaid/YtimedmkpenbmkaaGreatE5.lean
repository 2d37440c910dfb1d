import Derived.Test.YtimedmkpenbmkaaGreatE4
namespace Go.Proofs.YtimedmkpenbmkaaGreat
open Go.RowKit Go.Shelf
set_option linter.unusedSimpArgs false
set_option linter.unusedVariables false

theorem addr_add (b o j : Nat) : (⟨b, o, none⟩ : Addr).add j = ⟨b, o + j, none⟩ := by unfold Addr.add; split <;> simp_all
theorem ints_cell {w : World} {b o : Nat} {xs : List Int} (h : Ints w b o xs) : ∀ j u, (xs.map (Value.int .i64))[j]? = some u → w.cell? ((⟨b, o, none⟩ : Addr).add j) = some u := by
  intro j u hu
  rw [addr_add]
  rw [List.getElem?_map] at hu
  cases hx : xs[j]? with
  | none => rw [hx] at hu; cases hu
  | some x =>
    rw [hx] at hu; simp at hu; subst hu
    have hj := (List.getElem?_eq_some_iff.1 hx).1
    rw [h.2 j hj, List.getD_eq_getElem?_getD, hx]; rfl
theorem map_one (xs : List Int) : ∀ u ∈ xs.map (Value.int .i64), u.oneCell' = true := by intro u hu; obtain ⟨x, _, rfl⟩ := List.mem_map.1 hu; rfl

theorem Check_any (wd : Int) (a : Option Addr) (cap : Nat) (xs : List Int) (hl : xs.length ≤ 1000000) (w : World) (hR : RdI w (.slice a xs.length cap) xs) :
    Calls Tryz.prog 13 #[.agg #[.int .i64 wd, .slice a xs.length cap]] w fun e w' => e = .returned (.int .i64 (checkErr wd xs)) ∧ Below w.heap.size w w' := by
  by_cases h : NotWhole wd xs.length
  · refine (check_bad wd a xs.length cap w (by omega) h).mono ?_
    rintro e w' ⟨rfl, hB⟩
    have : checkErr wd xs = 2 := by unfold checkErr NotWhole at *; rw [if_pos h]
    rw [this]
    exact ⟨rfl, hB⟩
  · obtain ⟨_, a', cap', e1, hI⟩ := hR
    injection e1 with e1 _ e3
    subst e1
    unfold NotWhole at h
    have hne : xs ≠ [] := by rintro rfl; simp at h
    obtain ⟨b, o, rfl, hI2⟩ := hI hne
    exact check_whole wd b o cap xs w hI2 (by omega) (by omega) (by omega) (by omega) (by omega)

set_option maxHeartbeats 1000000 in
set_option maxRecDepth 100000 in
theorem clone_any (b o cap : Nat) (xs : List Int) (h0 : xs ≠ []) (hl : xs.length ≤ 1000000) (w : World) (hI : Ints w b o xs) :
    Calls Tryz.prog 90 #[.slice (some ⟨b, o, none⟩) xs.length cap] w fun e w' => ∃ g k, e = .returned (.slice (some ⟨g, 0, none⟩) xs.length k) ∧ w'.ownsRow w.heap.size 32 1 (.slice (some ⟨g, 0, none⟩) xs.length k) xs.length (xs.map (Value.int .i64)) ∧ Below w.heap.size w w' := by
  obtain ⟨i0, hi, hz0, hz1, hz2⟩ := info_parts A_info102
  have HI := Lib.hid (hI.below (below1 w (.cells #[] 32)) hI.1)
  have hown0 : (w.alloc (.cells #[] 32)).ownsRow w.heap.size 32 1 (.slice (some ⟨w.heap.size, 0, none⟩) 0 0) 0 [] := own_of_cells (heap_alloc_last _ _) (Nat.le_refl _) rfl (by unfold maxLen; omega)
  have HO := Lib.hid hown0
  have HB := Lib.hid (below1 w (.cells #[] 32))
  have hlen : (xs.map (Value.int .i64)).length = xs.length * 1 := by simp
  obtain ⟨ys, hys⟩ : ∃ ys, ys = xs.map (Value.int .i64) := ⟨_, rfl⟩
  have H1 := Lib.hid (map_one xs)
  have HC := Lib.hid (ints_cell HI.out)
  rw [← hys] at hlen H1 HC
  have HYS := Lib.hid hys
  have HLEN := Lib.hid hlen
  obtain ⟨n, hn⟩ : ∃ n, n = xs.length := ⟨_, rfl⟩
  rw [← hn] at HLEN hl ⊢
  have HN := Lib.hid hn
  have hn1 : 1 ≤ n := by rw [hn]; exact List.length_pos_iff.2 h0
  clear hI hown0 hlen hys hn
  have hnl : ∀ W, (binOp .eql 23 (.slice (some ⟨b, o, none⟩) n cap) (.slice none 0 0)).run Tryz.prog W = .ok (.bool false) W := fun W => Lib.run_eql_slice_nil (P := Tryz.prog) W 23 32 (some ⟨b, o, none⟩) n cap 0 0 A_und22
  go_enter Tryz.func90, Tryz.ntmps90
  go_wp2_with (at_builtin; refine wpList_append_own _ rfl _ _ 23 rfl w.heap.size 32 i0 (.int .i64 0) 1 8 A_und22 hi hz0 hz1 hz2 rfl (by decide) _ _ _ rfl HO.out ⟨b, o, none⟩ n cap ys rfl HLEN.out HC.out H1.out ?c3 ?c4 ?c5 ?_)
  case c3 => unfold maxLen; omega
  case c4 => omega
  case c5 => first | omega | simp
  intro v' w1 hown hgr hnil
  have hB := below_grown HB.out HO.out (Nat.le_refl _) (by simp) hgr
  try simp only [Nat.zero_add, List.nil_append] at hown
  have hg : ∃ g k, v' = .slice (some ⟨g, 0, none⟩) n k := by
    rcases hown.2 with ⟨h1, h2⟩ | ⟨g, k, cur, h1, _⟩
    · omega
    · exact ⟨g, k, h1⟩
  obtain ⟨g, k, rfl⟩ := hg
  have HOWN := Lib.hid hown
  have HB1 := Lib.hid hB
  clear hown hgr hnil hB
  go_wp2
  go_ret
  rw [← HYS.out]
  exact ⟨g, k, rfl, HOWN.out, HB1.out⟩

def walledE (wd : Int) (xs : List Int) (p : Int) : Int := if checkErr wd xs ≠ 0 then checkErr wd xs else plotErr xs p 0
def walledP (wd : Int) (xs : List Int) (p : Int) : List Int := if walledE wd xs p = 0 then xs.set p.toNat 2 else []
def walledW (wd : Int) (xs : List Int) (p : Int) : Int := if walledE wd xs p = 0 then wd else 0

set_option maxHeartbeats 2000000 in
set_option maxRecDepth 100000 in
theorem Walled_any (wd : Int) (a : Option Addr) (cap : Nat) (xs : List Int) (p : Int) (hl : xs.length ≤ 1000000) (w : World) (hR : RdI w (.slice a xs.length cap) xs) :
    Calls Tryz.prog 36 #[.agg #[.int .i64 wd, .slice a xs.length cap], .int .i64 p] w fun e w' => ∃ v, e = .returned (.tuple #[.agg #[.int .i64 (walledW wd xs p), v], .int .i64 (walledE wd xs p)]) ∧
      w'.ownsRow w.heap.size 32 1 v (walledP wd xs p).length ((walledP wd xs p).map (Value.int .i64)) ∧ Below w.heap.size w w' := by
  have HR := Lib.hid hR
  have HB := Lib.hid (al (below1 w (.cells #[.int .i64 wd, .slice a xs.length cap] 25)) (.cells #[.int .i64 0, .slice none 0 0] 25))
  by_cases h1 : checkErr wd xs = 0
  · have hne : xs ≠ [] := by rintro rfl; have := (check_len h1).2; simp at this
    obtain ⟨_, a', cap', e1, hI⟩ := hR
    injection e1 with e1 _ e3
    subst e1
    subst e3
    obtain ⟨b, o, rfl, hI2⟩ := hI hne
    have h30 := (check_len h1).1
    have HI := Lib.hid hI2
    clear hI
    have HCH := Lib.hid (fun W hB => Check_any wd (some ⟨b, o, none⟩) cap xs hl W (HR.out.below hB))
    rw [h1] at HCH
    have HPL := Lib.hid (fun W (hB : Below w.heap.size w W) => plotError_any wd b o cap xs W p 0 (by omega) (HI.out.below hB HI.out.1))
    have hcells : ∀ W : World, Below ((w.alloc (.cells #[.int .i64 wd, .slice (some ⟨b, o, none⟩) xs.length cap] 25)).alloc (.cells #[.int .i64 0, .slice none 0 0] 25)).heap.size ((w.alloc (.cells #[.int .i64 wd, .slice (some ⟨b, o, none⟩) xs.length cap] 25)).alloc (.cells #[.int .i64 0, .slice none 0 0] 25)) W →
        W.heap[w.heap.size]? = some (.cells #[.int .i64 wd, .slice (some ⟨b, o, none⟩) xs.length cap] 25 (0, 0)) ∧ W.heap[w.heap.size + 1]? = some (.cells #[.int .i64 0, .slice none 0 0] 25 (0, 0)) := fun W hB =>
      ⟨(hB.block w.heap.size (by simp; omega)).trans ((Below.heap_alloc _ _ _ (by simp)).trans (heap_alloc_last _ _)), (hB.block (w.heap.size + 1) (by simp)).trans (by
        have := heap_alloc_last (w.alloc (.cells #[.int .i64 wd, .slice (some ⟨b, o, none⟩) xs.length cap] 25)) (.cells #[.int .i64 0, .slice none 0 0] 25)
        simpa using this)⟩
    have HCELL := Lib.hid hcells
    clear hcells
    by_cases h2 : plotErr xs p 0 = 0
    · have hE : walledE wd xs p = 0 := by unfold walledE; rw [if_neg (by rw [h1]; simp)]; exact h2
      have hP : walledP wd xs p = xs.set p.toNat 2 := by unfold walledP; rw [if_pos hE]
      have hW : walledW wd xs p = wd := by unfold walledW; rw [if_pos hE]
      rw [hE, hP, hW]
      obtain ⟨q, rfl⟩ : ∃ q : Nat, p = q := ⟨p.toNat, by unfold plotErr at h2; split at h2 <;> omega⟩
      have hq : q < xs.length := by unfold plotErr at h2; split at h2 <;> omega
      rw [h2] at HPL
      have hq' : (q : Int) < xs.length := by omega
      have HCL := Lib.hid (fun W (hB : Below w.heap.size w W) => clone_any b o cap xs hne hl W (HI.out.below hB HI.out.1))
      have hset : (xs.set q 2).length = xs.length := by simp
      have HSET := Lib.hid hset
      have HNE := Lib.hid hne
      clear hE hP hW h1 h2 hI2 hset hne
      go_enter Tryz.func36, Tryz.ntmps36
      go_wp2_with fail
      refine (HCH.out _ HB.out).mono ?_
      rintro e w1 ⟨rfl, hB⟩
      obtain ⟨x1, x2⟩ := HCELL.out w1 hB
      obtain ⟨k0, k1⟩ := blk_cells2 x1
      have HB1 := Lib.hid (join HB.out hB)
      have HBB := Lib.hid hB
      clear hB x1 x2
      go_wp2_with fail
      refine (HPL.out _ HB1.out).mono ?_
      rintro e w2 ⟨rfl, hB⟩
      have hB2 := join HBB.out hB
      obtain ⟨x1, x2⟩ := HCELL.out w2 hB2
      clear k0 k1
      obtain ⟨k0, k1⟩ := blk_cells2 x1
      have HB2 := Lib.hid (join HB1.out hB)
      have HBB2 := Lib.hid hB2
      clear hB hB2 x1 x2 HB1 HBB
      go_wp2_with fail
      refine (HCL.out _ HB2.out).mono ?_
      rintro e w3 ⟨g, k, rfl, hown, hB⟩
      have hB3 := join HBB2.out hB
      obtain ⟨x1, x2⟩ := HCELL.out w3 hB3
      clear k0 k1
      obtain ⟨k0, k1⟩ := blk_cells2 x1
      obtain ⟨k2, k3⟩ := blk_cells2 x2
      have f0 := frozen_of_row w3 (w.heap.size + 1) 0 _ _ x2
      have f1 := frozen_of_row w3 (w.heap.size + 1) 1 _ _ x2
      have hz := hB3.size
      have hz2 := HBB2.out.size
      have hgb : w2.heap.size ≤ g ∧ w3.cell? ⟨g, q, none⟩ = some (.int .i64 (xs.getD q 0)) ∧ w3.frozen? ⟨g, q, none⟩ = false := by
        obtain ⟨g', cap', h1, h2, h3, h4, h5, h6⟩ := own_ints rfl hown HNE.out
        injection h1 with e1 _ _; injection e1 with e1; injection e1 with e1
        subst e1
        have := h3.2 q hq
        rw [Nat.zero_add] at this
        exact ⟨h2, this, h6 q⟩
      obtain ⟨hg1, hg2, hg3⟩ := hgb
      have hgn1 : g ≠ w.heap.size + 1 := by simp at hz2; omega
      have hgn0 : g ≠ w.heap.size := by simp at hz2; omega
      have HB3 := Lib.hid (join HB2.out hB)
      have hown2 := own_setCell_at hown (i := q) (by simpa using hq) (.int .i64 2)
      rw [← List.map_set] at hown2
      have HO := Lib.hid hown2
      clear hB hB3 x1 x2 HB2 HBB2 hown hown2
      go_wp2
      have hk : ∀ (W : World) (o2 : Nat) (u : Value), W.ownsRow w2.heap.size 32 1 (.slice (some ⟨g, 0, none⟩) xs.length k) xs.length ((xs.set q 2).map (Value.int .i64)) → (W.setCell ⟨w.heap.size + 1, o2, none⟩ u).ownsRow w2.heap.size 32 1 (.slice (some ⟨g, 0, none⟩) xs.length k) xs.length ((xs.set q 2).map (Value.int .i64)) := by
        intro W o2 u h
        refine h.kept (grown_set W (w.heap.size + 1) o2 u) (.inr ?_)
        show some g ≠ some (w.heap.size + 1)
        intro e; injection e with e; exact hgn1 e
      refine bodyPost_ret (v := .tuple #[.agg #[.int .i64 wd, .slice (some ⟨g, 0, none⟩) xs.length k], .int .i64 0]) (by simp [results, Tryz.results36, go_sem, k0, k1, k2, k3, hgn1, hgn0]) rfl ⟨_, rfl, ?_, ?_⟩
      · rw [Int.toNat_natCast, HSET.out]
        exact own_base (hk _ _ _ (hk _ _ _ HO.out)) (by simp at hz2; omega)
      · exact setc (setc (setc HB3.out (by simp at hz2 ⊢; omega)) (Nat.le_succ _)) (Nat.le_succ _)
    · have hE : walledE wd xs p = plotErr xs p 0 := by unfold walledE; rw [if_neg (by rw [h1]; simp)]
      have hP : walledP wd xs p = [] := by unfold walledP; rw [if_neg (by rw [hE]; exact h2)]
      have hW : walledW wd xs p = 0 := by unfold walledW; rw [if_neg (by rw [hE]; exact h2)]
      rw [hE, hP, hW]
      obtain ⟨c, hc⟩ : ∃ c, c = plotErr xs p 0 := ⟨_, rfl⟩
      rw [← hc] at h2 HPL ⊢
      have hc1 : (c != 0) = true := by simpa using h2
      clear hE hP hW hc h1 h2 hI2 hne
      go_enter Tryz.func36, Tryz.ntmps36
      go_wp2_with fail
      refine (HCH.out _ HB.out).mono ?_
      rintro e w1 ⟨rfl, hB⟩
      obtain ⟨x1, x2⟩ := HCELL.out w1 hB
      obtain ⟨k0, k1⟩ := blk_cells2 x1
      have HB1 := Lib.hid (join HB.out hB)
      have HBB := Lib.hid hB
      clear hB x1 x2
      go_wp2_with fail
      refine (HPL.out _ HB1.out).mono ?_
      rintro e w2 ⟨rfl, hB⟩
      have hB2 := join HBB.out hB
      obtain ⟨x1, x2⟩ := HCELL.out w2 hB2
      clear k0 k1
      obtain ⟨k0, k1⟩ := blk_cells2 x2
      have f0 := frozen_of_row w2 (w.heap.size + 1) 0 _ _ x2
      have f1 := frozen_of_row w2 (w.heap.size + 1) 1 _ _ x2
      have HB2 := Lib.hid (join HB1.out hB)
      clear hB hB2 x1 x2 HB1 HBB
      go_wp2
      refine bodyPost_ret (v := .tuple #[.agg #[.int .i64 0, .slice none 0 0], .int .i64 c]) (by simp [results, Tryz.results36, go_sem, k0, k1]) rfl ⟨_, rfl, ⟨rfl, .inl ⟨rfl, rfl⟩⟩, ?_⟩
      exact setc (setc HB2.out (Nat.le_succ _)) (Nat.le_succ _)
  · have hE : walledE wd xs p = checkErr wd xs := by unfold walledE; rw [if_pos h1]
    have hP : walledP wd xs p = [] := by unfold walledP; rw [if_neg (by rw [hE]; exact h1)]
    have hW : walledW wd xs p = 0 := by unfold walledW; rw [if_neg (by rw [hE]; exact h1)]
    rw [hE, hP, hW]
    obtain ⟨c, hc⟩ : ∃ c, c = checkErr wd xs := ⟨_, rfl⟩
    have HCH := Lib.hid (fun W hB => Check_any wd a cap xs hl W (HR.out.below hB))
    rw [← hc] at h1 HCH ⊢
    have hc1 : (c != 0) = true := by simpa using h1
    clear hR hE hP hW hc h1
    go_enter Tryz.func36, Tryz.ntmps36
    go_wp2_with fail
    refine (HCH.out _ HB.out).mono ?_
    rintro e w1 ⟨rfl, hB⟩
    have hb1 : w1.heap[w.heap.size + 1]? = some (.cells #[.int .i64 0, .slice none 0 0] 25 (0, 0)) := (hB.block (w.heap.size + 1) (by simp)).trans (by
      have := heap_alloc_last (w.alloc (.cells #[.int .i64 wd, .slice a xs.length cap] 25)) (.cells #[.int .i64 0, .slice none 0 0] 25)
      simpa using this)
    obtain ⟨k0, k1⟩ := blk_cells2 hb1
    have f0 := frozen_of_row w1 (w.heap.size + 1) 0 _ _ hb1
    have f1 := frozen_of_row w1 (w.heap.size + 1) 1 _ _ hb1
    have HB1 := Lib.hid (join HB.out hB)
    clear hB hb1
    go_wp2
    refine bodyPost_ret (v := .tuple #[.agg #[.int .i64 0, .slice none 0 0], .int .i64 c]) (by simp [results, Tryz.results36, go_sem, k0, k1]) rfl ⟨_, rfl, ⟨rfl, .inl ⟨rfl, rfl⟩⟩, ?_⟩
    exact setc (setc HB1.out (Nat.le_succ _)) (Nat.le_succ _)
end Go.Proofs.YtimedmkpenbmkaaGreat

namespace Go.Proofs.YtimedmkpenbmkaaGreat
open Go.RowKit Go.Shelf
set_option linter.unusedSimpArgs false
set_option linter.unusedVariables false

/-- append to a list without elements, of an argument's list: a new row -/
theorem run_app0 {t ty e : TypeId} {i : TypeInfo} {z : Value} {bytes : Nat} (ht : Tryz.prog.underlying t = some (.slice e)) (hi : Tryz.prog.info? e = some i) (hz : i.zero = some z) (h1 : i.size = 1) (h8 : i.bytes = bytes) (hz1 : z.cells.size = 1) (hb : bytes ≤ 8)
    (bb b : Addr) (n c : Nat) (news : List Value) (hl : news.length = n) (w : World) (hn : ∀ j v, news[j]? = some v → w.cell? (b.add j) = some v) (h0 : 0 < n) (hs : n ≤ 1000000) (B : Nat) (hB : B ≤ w.heap.size) :
    ∃ v' w', (Builtin.append_ #[t, t] ty #[.slice (some bb) 0 0, .slice (some b) n c]).run Tryz.prog w = .ok v' w' ∧ w'.ownsRow B e 1 v' n news ∧ Rs.Gr w w' := by
  have hrun := run_append_grow (P := Tryz.prog) (w := w) t ty e i z ht hi hz bb 0 0 [] (by simp) (by simp) b n c news (by rw [h1]; omega) hn (by omega) (by omega) (by rw [Nat.zero_add, nextslicecap_zero h0, h8]; have := Nat.mul_le_mul hs hb; omega)
  refine ⟨_, _, hrun, ?_, ?_⟩
  · have hge := grownCap_ge w n 0 e
    refine ⟨by omega, .inr ⟨w.heap.size, grownCap w (0 + n) 0 e, _, by rw [Nat.zero_add], hB, heap_alloc_new w.drew _, by rw [Nat.zero_add]; exact hge, grownCap_le_maxLen w _ _ e (by unfold maxLen; omega), ?_, ?_⟩⟩
    · simp only [Array.size_append, List.size_toArray, size_zeroCells, hz1, List.length_nil, hl, Nat.zero_add, Nat.mul_one]
      omega
    · simp [hl]
  · exact (Below.drew (Below.refl w.heap.size w)).alloc (Nat.le_refl _) _

theorem exec_append {o : Oper} {ρ : Operand → Value} {w w' : World} (s x : Operand) (t : TypeId) (ho : o.op = .call { callee := .builtin .append, args := #[s, x], argTypes := #[t, t] }) {u v r : Value} (hs : ρ s = u) (hx : ρ x = v)
    (hrun : (Builtin.append_ #[t, t] o.type #[u, v]).run Tryz.prog w = .ok r w') : (execOp ρ o).run Tryz.prog w = .ok (.value r) w' := by
  simp [execOp, ho, resolve, invoke, builtin, hs, hx, hrun, Result.andThen]
theorem own_keep {w : World} {base : Nat} {e : TypeId} {g n k : Nat} {xs : List Value} (h : w.ownsRow base e 1 (.slice (some ⟨g, 0, none⟩) n k) n xs) {c : Nat} (hne : g ≠ c) (o : Nat) (u : Value) : (w.setCell ⟨c, o, none⟩ u).ownsRow base e 1 (.slice (some ⟨g, 0, none⟩) n k) n xs :=
  h.kept (grown_set w c o u) (.inr (by show some g ≠ some c; intro e; injection e with e; exact hne e))
def spRW (wd : Int) (sv : Value) (xs : List Int) (A B : Nat) : Nat → List Value → Value → World → Prop
  | 0, _, v, _ => v = .pointer (some ⟨A, 0, none⟩)
  | 1, _, v, _ => v = .int .i64 wd
  | 2, _, v, _ => ∃ g, v = .slice (some ⟨g, 0, none⟩) 0 0
  | 3, _, v, _ => v = .pointer (some ⟨A, 1, none⟩)
  | 4, _, v, _ => v = sv
  | 5, _, v, w => w.ownsRow B 3 1 v xs.length (xs.map (Value.int .i64))
  | 6, L, v, _ => v = .agg #[.int .i64 wd, L.getD 5 undef]
  | 7, _, v, w => ∃ p, v = .pointer (some ⟨p, 0, none⟩) ∧ B ≤ p ∧ w.heap[p]? = some (.cells #[.int .i64 0, .slice none 0 0] 64 (0, 0))
  | _, _, _, _ => False
theorem spRW_stable (wd : Int) (sv : Value) (xs : List Int) (A B : Nat) : ∀ i L v w w', spRW wd sv xs A B i L v w → Rs.Gr w w' → spRW wd sv xs A B i L v w' := by
  intro i L v w w' h hg
  match i with
  | 0 => exact h
  | 1 => exact h
  | 2 => exact h
  | 3 => exact h
  | 4 => exact h
  | 5 => exact own_below h hg
  | 6 => exact h
  | 7 => obtain ⟨p, h1, h2, h3⟩ := h; exact ⟨p, h1, h2, (hg.block p (Array.getElem?_eq_some_iff.1 h3).1).trans h3⟩

set_option maxHeartbeats 1000000 in
set_option maxRecDepth 100000 in
theorem refWalled_any (wd : Int) (a : Option Addr) (cap : Nat) (xs : List Int) (p : Int) (hl : xs.length ≤ 1000000) (w : World) (hR : RdI w (.slice a xs.length cap) xs) :
    Calls Tryz.prog 37 #[.agg #[.int .i64 wd, .slice a xs.length cap], .int .i64 p] w fun e w' => ∃ v, e = .returned (.tuple #[.agg #[.int .i64 (walledW wd xs p), v], .int .i64 (walledE wd xs p)]) ∧
      w'.ownsRow w.heap.size 3 1 v (walledP wd xs p).length ((walledP wd xs p).map (Value.int .i64)) ∧ Below w.heap.size w w' := by
  have HR := Lib.hid hR
  have HB := Lib.hid (al (below1 w (.cells #[.int .i64 wd, .slice a xs.length cap] 64)) (.cells #[.int .i64 0, .slice none 0 0] 64))
  have HCH := Lib.hid (fun W hB => refCheck_any wd a cap xs hl W (HR.out.below hB))
  have HPL := Lib.hid (fun W (hB : Below w.heap.size w W) => refIs_any wd a cap xs p 0 hl W (HR.out.below hB))
  have hcells : ∀ W : World, Below ((w.alloc (.cells #[.int .i64 wd, .slice a xs.length cap] 64)).alloc (.cells #[.int .i64 0, .slice none 0 0] 64)).heap.size ((w.alloc (.cells #[.int .i64 wd, .slice a xs.length cap] 64)).alloc (.cells #[.int .i64 0, .slice none 0 0] 64)) W →
      W.heap[w.heap.size]? = some (.cells #[.int .i64 wd, .slice a xs.length cap] 64 (0, 0)) ∧ W.heap[w.heap.size + 1]? = some (.cells #[.int .i64 0, .slice none 0 0] 64 (0, 0)) := fun W hB =>
    ⟨(hB.block w.heap.size (by simp; omega)).trans ((Below.heap_alloc _ _ _ (by simp)).trans (heap_alloc_last _ _)), (hB.block (w.heap.size + 1) (by simp)).trans (by
      have := heap_alloc_last (w.alloc (.cells #[.int .i64 wd, .slice a xs.length cap] 64)) (.cells #[.int .i64 0, .slice none 0 0] 64)
      simpa using this)⟩
  have HCELL := Lib.hid hcells
  clear hcells
  by_cases h1 : checkErr wd xs = 0
  · have hne : xs ≠ [] := by rintro rfl; have := (check_len h1).2; simp at this
    obtain ⟨_, a', cap', e1, hI⟩ := hR
    injection e1 with e1 _ e3
    subst e1
    subst e3
    obtain ⟨b, o, rfl, hI2⟩ := hI hne
    have HI := Lib.hid hI2
    rw [h1] at HCH
    clear hI
    by_cases h2 : plotErr xs p 0 = 0
    · have hE : walledE wd xs p = 0 := by unfold walledE; rw [if_neg (by rw [h1]; simp)]; exact h2
      have hP : walledP wd xs p = xs.set p.toNat 2 := by unfold walledP; rw [if_pos hE]
      have hW : walledW wd xs p = wd := by unfold walledW; rw [if_pos hE]
      rw [hE, hP, hW]
      obtain ⟨q, rfl⟩ : ∃ q : Nat, p = q := ⟨p.toNat, by unfold plotErr at h2; split at h2 <;> omega⟩
      have hq : q < xs.length := by unfold plotErr at h2; split at h2 <;> omega
      rw [h2] at HPL
      have hq' : (q : Int) < xs.length := by omega
      have hset : (xs.set q 2).length = xs.length := by simp
      have HSET := Lib.hid hset
      have HNE := Lib.hid hne
      clear hE hP hW h1 h2 hI2 hset hne
      go_enter Tryz.func37, Tryz.ntmps37
      go_wp2_with fail
      refine (HCH.out _ HB.out).mono ?_
      rintro e w1 ⟨rfl, hB⟩
      obtain ⟨x1, x2⟩ := HCELL.out w1 hB
      obtain ⟨k0, k1⟩ := blk_cells2 x1
      have HB1 := Lib.hid (join HB.out hB)
      have HBB := Lib.hid hB
      clear hB x1 x2
      go_wp2_with fail
      refine (HPL.out _ HB1.out).mono ?_
      rintro e w2 ⟨rfl, hB⟩
      have hB2 := join HBB.out hB
      obtain ⟨x1, x2⟩ := HCELL.out w2 hB2
      clear k0 k1
      have HX1 := Lib.hid x1
      have HB2 := Lib.hid (join HB1.out hB)
      have HBB2 := Lib.hid hB2
      clear hB hB2 x1 x2 HB1 HBB
      go_wp2_with fail
      have hz2 : w.heap.size + 2 ≤ w2.heap.size := by have := HBB2.out.size; simpa using this
      refine Rs.region_gen 8 [[], [0], [], [], [3], [2, 3, 4], [0, 1, 2, 3, 4, 5], []] [some 22, some 23, some 24, some 25, some 26, some 27, some 28, some 8] (spRW wd (.slice (some ⟨b, o, none⟩) xs.length cap) xs w.heap.size w2.heap.size) (by kernel_rfl) (by kernel_rfl) rfl (spRW_stable _ _ _ _ _) ?_ ?_
      · refine ⟨fun V w' hG hs => ?_, fun V w' hG hs => ?_, fun V w' hG hs => ?_, fun V w' hG hs => ?_, fun V w' hG hs => ?_, fun V w' hG hs => ?_, fun V w' hG hs => ?_, fun V w' hG hs => ?_, trivial⟩
        all_goals
          obtain ⟨k0, k1⟩ := blk_cells2 ((hG.block w.heap.size (by omega)).trans HX1.out)
          rw [if_pos (by rfl)]
        · exact Rs.GrowL.value (v := .pointer (some ⟨w.heap.size, 0, none⟩)) (w' := w') (by simp [go_sem, Rs.look]) (Rs.Gr.refl _) rfl
        · have e0 : V 0 = .pointer (some ⟨w.heap.size, 0, none⟩) := hs 0 (by simp)
          exact Rs.GrowL.value (v := .int .i64 wd) (w' := w') (by simp [go_sem, Rs.look, e0, k0]) (Rs.Gr.refl _) rfl
        · exact Rs.GrowL.value (v := .slice (some ⟨w'.heap.size, 0, none⟩) 0 0) (w' := w'.alloc (.cells #[] 3)) (by simp [go_sem, Rs.look]) (below1 _ _) ⟨_, rfl⟩
        · exact Rs.GrowL.value (v := .pointer (some ⟨w.heap.size, 1, none⟩)) (w' := w') (by simp [go_sem, Rs.look]) (Rs.Gr.refl _) rfl
        · have e3 : V 3 = .pointer (some ⟨w.heap.size, 1, none⟩) := hs 3 (by simp)
          exact Rs.GrowL.value (v := .slice (some ⟨b, o, none⟩) xs.length cap) (w' := w') (by simp [go_sem, Rs.look, e3, k1]) (Rs.Gr.refl _) rfl
        · obtain ⟨g, e2⟩ : ∃ g, V 2 = .slice (some ⟨g, 0, none⟩) 0 0 := hs 2 (by simp)
          have e4 : V 4 = .slice (some ⟨b, o, none⟩) xs.length cap := hs 4 (by simp)
          obtain ⟨i0, hi, hz0, hz1, hz8⟩ := info_parts A_info3
          have hIw := HI.out.below (join HB2.out hG) HI.out.1
          obtain ⟨v', w5, hrun, ho, hg5⟩ := run_app0 (ty := 22) A_und31 hi hz0 hz1 hz8 (by decide) (by decide) ⟨g, 0, none⟩ ⟨b, o, none⟩ xs.length cap (xs.map (Value.int .i64)) (by simp) w' (ints_cell hIw) (List.length_pos_iff.2 HNE.out) hl w2.heap.size hG.size
          exact Rs.GrowL.value (v := v') (w' := w5) (exec_append _ _ 22 rfl (by simp [Rs.look, e2]) (by simp [Rs.look, e4]) hrun) hg5 ho
        · have e1 : V 1 = .int .i64 wd := hs 1 (by simp)
          have h5 : w'.ownsRow w2.heap.size 3 1 (V 5) xs.length (xs.map (Value.int .i64)) := hs 5 (by simp)
          obtain ⟨ob, cp, e5⟩ := own_slice h5
          exact Rs.GrowL.value (v := .agg #[.int .i64 wd, V 5]) (w' := w') (by simp [go_sem, Rs.look, e1, e5]) (Rs.Gr.refl _) rfl
        · exact Rs.GrowL.value (v := .pointer (some ⟨w'.heap.size, 0, none⟩)) (w' := w'.alloc (.cells #[.int .i64 0, .slice none 0 0] 64)) (by simp [go_sem, Rs.look]) (below1 _ _) ⟨_, rfl, hG.size, heap_alloc_last _ _⟩
      · intro V w' hG hs
        have e0 : V 0 = .pointer (some ⟨w.heap.size, 0, none⟩) := hs 0 (by omega)
        have e1 : V 1 = .int .i64 wd := hs 1 (by omega)
        have e3 : V 3 = .pointer (some ⟨w.heap.size, 1, none⟩) := hs 3 (by omega)
        have e4 : V 4 = .slice (some ⟨b, o, none⟩) xs.length cap := hs 4 (by omega)
        have e6 : V 6 = .agg #[.int .i64 wd, V 5] := hs 6 (by omega)
        obtain ⟨ct, e7, hct, hctc⟩ : ∃ ct, V 7 = .pointer (some ⟨ct, 0, none⟩) ∧ w2.heap.size ≤ ct ∧ w'.heap[ct]? = some (.cells #[.int .i64 0, .slice none 0 0] 64 (0, 0)) := hs 7 (by omega)
        have h5 : w'.ownsRow w2.heap.size 3 1 (V 5) xs.length (xs.map (Value.int .i64)) := hs 5 (by omega)
        have hg5 : ∃ g k, V 5 = .slice (some ⟨g, 0, none⟩) xs.length k := by
          obtain ⟨g, k, h, _⟩ := own_ints rfl h5 HNE.out; exact ⟨g, k, h⟩
        obtain ⟨g, k, e5⟩ := hg5
        rw [e5] at h5
        obtain ⟨g', k', h1, hgb, hgi, _, _, hgf⟩ := own_ints rfl h5 HNE.out
        injection h1 with h1 _ hkk; injection h1 with h1; injection h1 with h1
        subst h1
        subst hkk
        have hgc := hgi.2 q hq
        rw [Nat.zero_add] at hgc
        have hgfq := hgf q
        have hgt : g ≠ ct := by
          rcases h5.2 with ⟨h1, _⟩ | ⟨g2, _, cur, h1, _, h3, _⟩
          · cases h1
          · injection h1 with h1 _ _; injection h1 with h1; injection h1 with h1
            subst h1
            intro e; rw [e, hctc] at h3; injection h3 with h3; injection h3 with _ h4; cases h4
        simp only [Rs.canon, Rs.dstOf, List.range_succ, List.range_zero, List.nil_append, List.cons_append, List.foldl_cons, List.foldl_nil, List.drop_succ_cons, List.drop_zero, List.drop_nil, List.getElem?_toArray, List.getElem?_cons_succ, List.getElem?_cons_zero, Option.bind_some, Act.put, List.getD_cons_succ, List.getD_cons_zero, List.setIfInBounds_toArray, List.set_cons_succ, List.set_cons_zero]
        rw [e0, e1, e3, e4, e6, e7, e5]
        generalize V 2 = v2
        obtain ⟨c0, c1⟩ := blk_cells2 hctc
        have cf0 := frozen_of_row w' ct 0 _ _ hctc
        have cf1 := frozen_of_row w' ct 1 _ _ hctc
        obtain ⟨_, x2⟩ := HCELL.out w' (HBB2.out.trans (hG.mono (by simp; omega)))
        obtain ⟨k2, k3⟩ := blk_cells2 x2
        have f0 := frozen_of_row w' (w.heap.size + 1) 0 _ _ x2
        have f1 := frozen_of_row w' (w.heap.size + 1) 1 _ _ x2
        have hn1 : g ≠ w.heap.size + 1 := by omega
        have hn2 : ct ≠ w.heap.size + 1 := by omega
        have HBW := Lib.hid (join HB2.out hG)
        have HO := Lib.hid h5
        clear hs hG e0 e1 e3 e4 e5 e6 e7 h5 hgi hgf hctc x2
        go_wp2
        refine bodyPost_ret (v := .tuple #[.agg #[.int .i64 wd, .slice (some ⟨g, 0, none⟩) xs.length k], .int .i64 0]) (by simp [results, Tryz.results37, go_sem, k2, k3, hn1, hn2]) rfl ⟨_, rfl, ?_, ?_⟩
        · have := own_setCell_at (own_keep (own_keep HO.out hgt 0 (.int .i64 wd)) hgt 1 (.slice (some ⟨g, 0, none⟩) xs.length k)) (i := q) (by simpa using hq) (.int .i64 2)
          have h9 := own_base (base' := w.heap.size) (own_keep (own_keep this hn1 0 (.int .i64 wd)) hn1 1 (.slice (some ⟨g, 0, none⟩) xs.length k)) (by omega)
          with_reducible exact h9
        · exact setc (setc (setc (setc (setc HBW.out (by simp; omega)) (by simp; omega)) (by simp; omega)) (Nat.le_succ _)) (Nat.le_succ _)
    · have hE : walledE wd xs p = plotErr xs p 0 := by unfold walledE; rw [if_neg (by rw [h1]; simp)]
      have hP : walledP wd xs p = [] := by unfold walledP; rw [if_neg (by rw [hE]; exact h2)]
      have hW : walledW wd xs p = 0 := by unfold walledW; rw [if_neg (by rw [hE]; exact h2)]
      rw [hE, hP, hW]
      obtain ⟨c, hc⟩ : ∃ c, c = plotErr xs p 0 := ⟨_, rfl⟩
      rw [← hc] at h2 HPL ⊢
      have hc1 : (c != 0) = true := by simpa using h2
      clear hE hP hW hc h1 h2 hI2 hne
      go_enter Tryz.func37, Tryz.ntmps37
      go_wp2_with fail
      refine (HCH.out _ HB.out).mono ?_
      rintro e w1 ⟨rfl, hB⟩
      obtain ⟨x1, x2⟩ := HCELL.out w1 hB
      obtain ⟨k0, k1⟩ := blk_cells2 x1
      have HB1 := Lib.hid (join HB.out hB)
      have HBB := Lib.hid hB
      clear hB x1 x2
      go_wp2_with fail
      refine (HPL.out _ HB1.out).mono ?_
      rintro e w2 ⟨rfl, hB⟩
      have hB2 := join HBB.out hB
      obtain ⟨x1, x2⟩ := HCELL.out w2 hB2
      clear k0 k1
      obtain ⟨k0, k1⟩ := blk_cells2 x2
      have f0 := frozen_of_row w2 (w.heap.size + 1) 0 _ _ x2
      have f1 := frozen_of_row w2 (w.heap.size + 1) 1 _ _ x2
      have HB2 := Lib.hid (join HB1.out hB)
      clear hB hB2 x1 x2 HB1 HBB
      go_wp2
      refine bodyPost_ret (v := .tuple #[.agg #[.int .i64 0, .slice none 0 0], .int .i64 c]) (by simp [results, Tryz.results37, go_sem, k0, k1]) rfl ⟨_, rfl, ⟨rfl, .inl ⟨rfl, rfl⟩⟩, ?_⟩
      exact setc (setc HB2.out (Nat.le_succ _)) (Nat.le_succ _)
  · have hE : walledE wd xs p = checkErr wd xs := by unfold walledE; rw [if_pos h1]
    have hP : walledP wd xs p = [] := by unfold walledP; rw [if_neg (by rw [hE]; exact h1)]
    have hW : walledW wd xs p = 0 := by unfold walledW; rw [if_neg (by rw [hE]; exact h1)]
    rw [hE, hP, hW]
    obtain ⟨c, hc⟩ : ∃ c, c = checkErr wd xs := ⟨_, rfl⟩
    rw [← hc] at h1 HCH ⊢
    have hc1 : (c != 0) = true := by simpa using h1
    clear hR hE hP hW hc h1
    go_enter Tryz.func37, Tryz.ntmps37
    go_wp2_with fail
    refine (HCH.out _ HB.out).mono ?_
    rintro e w1 ⟨rfl, hB⟩
    obtain ⟨_, hb1⟩ := HCELL.out w1 hB
    obtain ⟨k0, k1⟩ := blk_cells2 hb1
    have f0 := frozen_of_row w1 (w.heap.size + 1) 0 _ _ hb1
    have f1 := frozen_of_row w1 (w.heap.size + 1) 1 _ _ hb1
    have HB1 := Lib.hid (join HB.out hB)
    clear hB hb1
    go_wp2
    refine bodyPost_ret (v := .tuple #[.agg #[.int .i64 0, .slice none 0 0], .int .i64 c]) (by simp [results, Tryz.results37, go_sem, k0, k1]) rfl ⟨_, rfl, ⟨rfl, .inl ⟨rfl, rfl⟩⟩, ?_⟩
    exact setc (setc HB1.out (Nat.le_succ _)) (Nat.le_succ _)
end Go.Proofs.YtimedmkpenbmkaaGreat
