import Derived.Test.YtimedmkpenbmkaaEq
import Derived.Maps.AppendAt
namespace Go.Proofs.Ytimedmkpenbmkaa
open Go.RowKit Go.Shelf
set_option linter.unusedSimpArgs false
set_option linter.unusedVariables false

theorem A_info31 : (Try.prog.info? 31).map (fun i => (i.zero, i.size, i.bytes)) = some (some (.slice none 0 0), 1, 24) := by kernel_rfl
theorem make62 (k : Nat) (hk : k ≤ 1000) (W : World) : (Instr.makeSlice 62 (.int .i64 k) (.int .i64 k)).run Try.prog W = .ok (.slice (some ⟨W.heap.size, 0, none⟩) k k) (W.alloc (.cells (Array.replicate k (Value.slice none 0 0)) 31)) := by
  obtain ⟨i0, hi, hz0, hz1, hz2⟩ := info_parts A_info31
  have h := run_make (P := Try.prog) W 62 31 i0 (.slice none 0 0) Try.underlying62 hi hz0 .i64 .i64 k k (by omega) (by omega) (by rw [hz2]; omega) (by omega)
  rw [h]
  have e : madeCells (Value.slice none 0 0).cells ((k : Int).toNat * i0.size) = Array.replicate k (Value.slice none 0 0) := by
    rw [hz1]
    apply Array.ext
    · simp [madeCells]
    · intro i h1 h2
      simp [madeCells, Value.cells, Nat.mod_one]
  rw [e]
  simp

/-- rows of numbers that grow, in a row of slices -/
structure ErW (n O : Nat) (E : Nat → List Int) (vs : List Value) (W : World) : Prop where
  len : vs.length = n
  blk : W.heap[O]? = some (.cells vs.toArray 31 (0, 0))
  own : ∀ p, p < n → W.ownsRow (O + 1) 3 1 (vs.getD p (.slice none 0 0)) (E p).length ((E p).map (Value.int .i64))
  apart : ∀ p q, p < n → q < n → p ≠ q → ∀ g, (vs.getD p (.slice none 0 0)).ownBlock = some g → (vs.getD q (.slice none 0 0)).ownBlock ≠ some g
theorem ErW.below {n O : Nat} {E : Nat → List Int} {vs : List Value} {W W' : World} (h : ErW n O E vs W) (hB : Below W.heap.size W W') : ErW n O E vs W' :=
  ⟨h.len, (hB.block _ (Array.getElem?_eq_some_iff.1 h.blk).1).trans h.blk, fun p hp => own_below (h.own p hp) hB, h.apart⟩
theorem ErW.congr {n O : Nat} {E E' : Nat → List Int} {vs : List Value} {W : World} (h : ErW n O E vs W) (he : ∀ p, p < n → E' p = E p) : ErW n O E' vs W :=
  ⟨h.len, h.blk, fun p hp => by rw [he p hp]; exact h.own p hp, h.apart⟩
theorem ErW.lt {n O : Nat} {E : Nat → List Int} {vs : List Value} {W : World} (h : ErW n O E vs W) : O < W.heap.size := (Array.getElem?_eq_some_iff.1 h.blk).1
theorem ErW.cell {n O : Nat} {E : Nat → List Int} {vs : List Value} {W : World} (h : ErW n O E vs W) {p : Nat} (hp : p < n) : W.cell? ⟨O, p, none⟩ = some (vs.getD p (.slice none 0 0)) := by
  rw [cell_of_row _ _ _ _ _ _ h.blk]
  simp [List.getElem?_eq_getElem (show p < vs.length by rw [h.len]; exact hp)]
theorem ErW.free {n O : Nat} {E : Nat → List Int} {vs : List Value} {W : World} (h : ErW n O E vs W) (p : Nat) : W.frozen? ⟨O, p, none⟩ = false := frozen_of_row _ _ _ _ _ h.blk
theorem getD_setV (l : List Value) (i j : Nat) (v z : Value) (h : i < l.length) : (l.set i v).getD j z = if i = j then v else l.getD j z := by
  simp only [List.getD_eq_getElem?_getD, List.getElem?_set]
  split
  · rename_i e; subst e; simp [h]
  · rfl
theorem ErW.app {n O : Nat} {E : Nat → List Int} {vs : List Value} {W W2 w8 : World} (h : ErW n O E vs W) (hB : Below W.heap.size W W2) {p : Nat} (hp : p < n) {x : Int} {v' : Value}
    (ho : w8.ownsRow (O + 1) 3 1 v' ((E p).length + 1) ((E p).map (Value.int .i64) ++ [.int .i64 x])) (hg : W2.grownBy w8 (vs.getD p (.slice none 0 0)).ownBlock) (hat : v'.ownBlock = (vs.getD p (.slice none 0 0)).ownBlock ∨ v'.ownBlock = some W2.heap.size) :
    ErW n O (fun q => if q = p then E p ++ [x] else E q) (vs.set p v') (w8.setCell ⟨O, p, none⟩ v') ∧ w8.cell? ⟨O, p, none⟩ = some (vs.getD p (.slice none 0 0)) ∧ w8.frozen? ⟨O, p, none⟩ = false := by
  have h2 := h.below hB
  have hOl := h2.lt
  have hpl : p < vs.length := by rw [h.len]; exact hp
  have hOne : some O ≠ (vs.getD p (.slice none 0 0)).ownBlock := fun e => by have := (h.own p hp).lt O e.symm; omega
  have hb8 := (hg.block O hOl hOne).trans h2.blk
  refine ⟨⟨by rw [List.length_set]; exact h.len, ?_, fun q hq => ?_, fun q r hq hr hne g h1 h3 => ?_⟩, ?_, frozen_of_row _ _ _ _ _ hb8⟩
  · rw [heap_set_same _ hb8]; simp [List.set_toArray]
  · have hset := grown_set w8 O p v'
    rw [getD_setV _ _ _ _ _ hpl]
    by_cases e : p = q
    · subst e
      simp only [if_true]
      have : (E p ++ [x]).length = (E p).length + 1 := by simp
      rw [this, List.map_append]
      refine ho.kept hset ?_
      by_cases hn : v'.ownBlock = none
      · exact .inl hn
      · right; intro e; have := ho.lt O e; omega
    · rw [if_neg e]
      have e' : ¬ q = p := fun h => e h.symm
      simp only [e', if_false]
      have hq8 : w8.ownsRow (O + 1) 3 1 (vs.getD q (.slice none 0 0)) (E q).length ((E q).map (Value.int .i64)) := by
        refine (h2.own q hq).kept hg ?_
        cases hb : (vs.getD q (.slice none 0 0)).ownBlock with
        | none => exact .inl rfl
        | some g => exact .inr (fun e2 => h.apart p q hp hq e g e2.symm hb)
      refine hq8.kept hset ?_
      by_cases hn : (vs.getD q (.slice none 0 0)).ownBlock = none
      · exact .inl hn
      · right; intro e; have := hq8.lt O e; omega
  · rw [getD_setV _ _ _ _ _ hpl] at h1 h3
    by_cases e1 : p = q
    · subst e1
      rw [if_pos rfl] at h1
      rw [if_neg hne] at h3
      rcases hat with ha | ha
      · rw [ha] at h1; exact h.apart p r hp hr hne g h1 h3
      · rw [ha] at h1; injection h1 with h1; have := (h2.own r hr).lt g h3; omega
    · rw [if_neg e1] at h1
      by_cases e2 : p = r
      · subst e2
        rw [if_pos rfl] at h3
        rcases hat with ha | ha
        · rw [ha] at h3; exact h.apart q p hq hp hne g h1 h3
        · rw [ha] at h3; injection h3 with h3; have := (h2.own q hq).lt g h1; omega
      · rw [if_neg e2] at h3; exact h.apart q r hq hr hne g h1 h3
  · rw [cell_of_row _ _ _ _ _ _ hb8]
    simp [List.getElem?_eq_getElem hpl]

/-- the stands among the first ones that a house hears -/
def earsE (t : Hr.Town) (wind voice : Int) (k p : Nat) : List Int := if t.at p = 1 then standsTo t wind voice p k else []
theorem earsE_len (t : Hr.Town) (wind voice : Int) (k p : Nat) : (earsE t wind voice k p).length ≤ k := by
  unfold earsE; split
  · exact standsTo_len _ _ _ _ _
  · simp
theorem earsE_no {t : Hr.Town} {wind voice : Int} {k p : Nat} (h : t.at p = 1 → hearB t wind voice p k = false) : earsE t wind voice (k + 1) p = earsE t wind voice k p := by
  unfold earsE; split
  · rename_i e; rw [standsTo_no (h e)]
  · rfl
theorem earsE_yes {t : Hr.Town} {wind voice : Int} {k p : Nat} (h1 : t.at p = 1) (h : hearB t wind voice p k = true) : earsE t wind voice (k + 1) p = earsE t wind voice k p ++ [(k : Int)] := by
  unfold earsE; rw [if_pos h1, if_pos h1, standsTo_yes h]
def earsM (t : Hr.Town) (wind voice : Int) (k q p : Nat) : List Int := if p < q then earsE t wind voice (k + 1) p else earsE t wind voice k p

set_option maxHeartbeats 4000000 in
set_option maxRecDepth 100000 in
theorem refEars_yes (t : Hr.Town) (ok : t.Ok) (wind voice : Int) (he : openErr t.wide t.plots wind voice = 0) (b o cap : Nat) (w : World) (hI : Ints w b o t.plots) :
    Calls Try.prog 38 #[.agg #[.int .i64 t.wide, .slice (some ⟨b, o, none⟩) t.plots.length cap], .int .i64 wind, .int .i64 voice] w fun e w' => ∃ O vs, e = .returned (.slice (some ⟨O, 0, none⟩) t.plots.length t.plots.length) ∧ ErW t.plots.length O (earsE t wind voice t.plots.length) vs w' ∧ w.heap.size ≤ O ∧ Below w.heap.size w w' := by
  obtain ⟨i0, hi, hz0, hz1, hz2⟩ := info_parts A_info3
  obtain ⟨hc, ha⟩ := openErr_ok he
  obtain ⟨w0, w4, v1, v40⟩ := wind_ok ha
  have h30 : t.plots.length ≤ 30 := ok.n30
  have hmk := make62 t.plots.length (by omega)
  have HC := Lib.hid hc
  have HB := Lib.hid (below1 w (.cells #[.int .i64 t.wide, .slice (some ⟨b, o, none⟩) t.plots.length cap] 33))
  have hx0 : (w.alloc (.cells #[.int .i64 t.wide, .slice (some ⟨b, o, none⟩) t.plots.length cap] 33)).heap[w.heap.size]? = some (.cells #[.int .i64 t.wide, .slice (some ⟨b, o, none⟩) t.plots.length cap] 33 (0, 0)) := heap_alloc_last _ _
  obtain ⟨k0, k1⟩ := blk_cells2 hx0
  have HI := Lib.hid (hI.below HB.out hI.1)
  have HX0 := Lib.hid hx0
  clear he hc ha hI hx0
  go_enter Try.func38, Try.ntmps38
  go_wp2_with fail
  clear hmk
  obtain ⟨W1, hW1⟩ : ∃ W1, W1 = w.alloc (.cells #[.int .i64 t.wide, .slice (some ⟨b, o, none⟩) t.plots.length cap] 33) := ⟨_, rfl⟩
  rw [← hW1] at HI HX0 HB k0 k1 ⊢
  have hs1 : w.heap.size < W1.heap.size := by rw [hW1]; simp
  have hs1e : W1.heap.size = w.heap.size + 1 := by rw [hW1]; simp
  obtain ⟨W2, hW2⟩ : ∃ W2, W2 = W1.alloc (.cells (Array.replicate t.plots.length (Value.slice none 0 0)) 31) := ⟨_, rfl⟩
  rw [← hW2]
  have hE2 : ErW t.plots.length (w.heap.size + 1) (earsE t wind voice 0) (List.replicate t.plots.length (Value.slice none 0 0)) W2 := by
    refine ⟨by simp, by rw [hW2, ← hs1e]; have := heap_alloc_last W1 (.cells (Array.replicate t.plots.length (Value.slice none 0 0)) 31); simpa using this, fun p hp => ?_, fun p q hp hq hne g h => ?_⟩
    · have e : earsE t wind voice 0 p = [] := by unfold earsE standsTo; split <;> simp
      rw [e]
      have : (List.replicate t.plots.length (Value.slice none 0 0)).getD p (.slice none 0 0) = .slice none 0 0 := by simp [List.getD_eq_getElem?_getD, List.getElem?_replicate, hp]
      rw [this]
      exact own_none _ _ _ _
    · have : (List.replicate t.plots.length (Value.slice none 0 0)).getD p (.slice none 0 0) = .slice none 0 0 := by simp [List.getD_eq_getElem?_getD, List.getElem?_replicate, hp]
      rw [this] at h; cases h
  have HE2 := Lib.hid hE2
  have HB2 : Hid (Below (w.heap.size + 1) W1 W2) := Lib.hid (by rw [hW2, ← hs1e]; exact below1 _ _)
  have HS1 := Lib.hid hs1e
  clear hE2 hW1 hW2 k0 k1 hs1e hs1
  go_loopw [8] (fun i wr => ∃ (k : Nat) (vs : List Value), k ≤ t.plots.length ∧ i = .int .i64 k ∧ ErW t.plots.length (w.heap.size + 1) (earsE t wind voice k) vs wr ∧ Below (w.heap.size + 1) W1 wr) (fun i _ => t.plots.length - (intOf i).toNat)
  case atStart => exact ⟨0, _, Nat.zero_le _, rfl, HE2.out, HB2.out⟩
  case round =>
    obtain ⟨k, vs, hk, rfl, hE, hBr⟩ := hrel
    obtain ⟨wk, rfl⟩ : ∃ wk : World, wk = wr := ⟨_, rfl⟩
    have HE := Lib.hid hE
    have HBr := Lib.hid hBr
    have hx0 := (hBr.block _ (by omega)).trans HX0.out
    obtain ⟨k0, k1⟩ := blk_cells2 hx0
    have hz0l : w.heap.size < wk.heap.size := (Array.getElem?_eq_some_iff.1 hx0).1
    have HX1 := Lib.hid hx0
    have hIk := HI.out.below hBr (by rw [← HS1.out]; exact HI.out.1)
    have HIk := Lib.hid hIk
    have hwk : w.heap.size + 1 ≤ wk.heap.size := by have := hBr.size; omega
    clear hE hBr hx0
    by_cases hlt : k < t.plots.length
    · have hlt' : (k : Int) < t.plots.length := by omega
      have hc := hIk.2 k hlt
      have hbl := hIk.1
      obtain ⟨kd, hkd⟩ : ∃ kd, t.plots.getD k 0 = kd := ⟨_, rfl⟩
      rw [hkd] at hc
      have HKD : Hid (t.at k = kd) := Lib.hid hkd
      clear hkd hIk
      by_cases h0 : kd = 0
      · subst h0
        have he : needsErr t.wide t.plots wind k = 0 := by
          have hp : plotErr t.plots k 0 = 0 := by unfold plotErr; rw [if_neg (by omega), Int.toNat_natCast]; exact if_pos HKD.out
          have ha : airErr wind 40 = 0 := by unfold airErr; rw [if_neg (by omega)]
          unfold needsErr openErr
          simp [HC.out, ha, hp]
        have HN := Lib.hid (fun W (hI : Ints W b o t.plots) => refNeeds_yes t ok wind k hlt he b o cap W hI)
        clear he
        go_wp2_with fail
        refine (HN.out _ HIk.out).mono ?_
        rintro e w5 ⟨tb, rfl, hT, htb, hB⟩
        obtain ⟨X, hX⟩ : ∃ X, X = t.needs wind k := ⟨_, rfl⟩
        rw [← hX] at hT
        have HT := Lib.hid hT
        have HX := Lib.hid hX
        have HXL : Hid (X.length = t.plots.length) := Lib.hid (by rw [hX]; exact needs_len ok wind hlt)
        have HE5 := Lib.hid (HE.out.below hB)
        have HB5 := Lib.hid (HBr.out.trans (hB.mono hwk))
        have HOF : Hid (∀ p, p < t.plots.length → ∀ g, (vs.getD p (.slice none 0 0)).ownBlock = some g → g ≠ tb) := Lib.hid (fun p hp g hg => by have := (HE.out.own p hp).lt g hg; omega)
        have hl5 : t.len = t.plots.length := rfl
        have HTL := Lib.hid hl5
        have htbO : w.heap.size + 1 < tb := by have := HE.out.lt; omega
        rw [hl5]
        clear hT hX hB hl5 HE HBr HN hc k0 k1 HIk HX1 htb
        go_wp2_with fail
        go_loopw [11] (fun i wr => ∃ (q : Nat) (us : List Value), q ≤ t.plots.length ∧ i = .int .i64 q ∧ ErW t.plots.length (w.heap.size + 1) (earsM t wind voice k q) us wr ∧ (∀ p, p < t.plots.length → ∀ g, (us.getD p (.slice none 0 0)).ownBlock = some g → g ≠ tb) ∧ TabAt wr tb X ∧ Below (w.heap.size + 1) W1 wr) (fun i _ => t.plots.length - (intOf i).toNat)
        case atStart => exact ⟨0, vs, Nat.zero_le _, rfl, HE5.out.congr (fun p hp => by unfold earsM; rw [if_neg (by omega)]), HOF.out, HT.out, HB5.out⟩
        case round =>
          obtain ⟨q, us, hq, rfl, hE, hOF, hT, hBr⟩ := hrel
          obtain ⟨wq, rfl⟩ : ∃ wq : World, wq = wr := ⟨_, rfl⟩
          have HEq := Lib.hid hE
          have HBq := Lib.hid hBr
          have HOFq := Lib.hid hOF
          have HTq := Lib.hid hT
          have hx0 := (hBr.block _ (by omega)).trans HX0.out
          obtain ⟨k0, k1⟩ := blk_cells2 hx0
          have hz0l : w.heap.size < wq.heap.size := (Array.getElem?_eq_some_iff.1 hx0).1
          have hIq := HI.out.below hBr (by rw [← HS1.out]; exact HI.out.1)
          have hwq : w.heap.size + 1 ≤ wq.heap.size := by have := hBr.size; omega
          clear hBr hx0 hE hOF hT HE5 HB5 HOF HT
          by_cases hlq : q < t.plots.length
          · have hlq' : (q : Int) < t.plots.length := by omega
            have hcq := hIq.2 q hlq
            have hbq := hIq.1
            obtain ⟨kq, hkq⟩ : ∃ kq, t.plots.getD q 0 = kq := ⟨_, rfl⟩
            rw [hkq] at hcq
            have HKQ : Hid (t.at q = kq) := Lib.hid hkq
            have cx := HTq.out.cell (i := q) (by rw [HXL.out]; exact hlq)
            have htl := HTq.out.lt
            obtain ⟨y, hy⟩ : ∃ y, X.getD q 0 = y := ⟨_, rfl⟩
            rw [hy] at cx
            have hyr : y = -1 ∨ 0 ≤ y := by
              rw [← hy, HX.out]; exact (Hr.needs_fix ok wind hlt).inv.nn q hlq
            have HHB : Hid (hearB t wind voice q k = (y != -1 && decide (y ≤ voice))) := Lib.hid (by unfold hearB; rw [← hy, HX.out]; simp [HKD.out, show k < t.len from hlt])
            clear hkq hy hIq
            have HNO : Hid (hearB t wind voice q k = false ∨ kq ≠ 1 → ∀ p, p < t.plots.length → earsM t wind voice k (q + 1) p = earsM t wind voice k q p) := Lib.hid (fun h p hp => by
              unfold earsM
              by_cases e : p = q
              · subst e
                rw [if_pos (by omega), if_neg (by omega)]
                refine earsE_no (fun h1 => ?_)
                rcases h with h | h
                · exact h
                · exact absurd (HKQ.out.symm.trans h1) h
              · by_cases e2 : p < q
                · rw [if_pos (by omega), if_pos e2]
                · rw [if_neg (by omega), if_neg e2])
            by_cases h1 : kq = 1
            · by_cases hh : 0 ≤ y ∧ y ≤ voice
              · obtain ⟨hy0, hyv⟩ := hh
                have HYES : Hid (hearB t wind voice q k = true) := Lib.hid (by rw [HHB.out]; simp; omega)
                have hlen : (earsM t wind voice k q q).length ≤ 30 := by unfold earsM; rw [if_neg (by omega)]; have := earsE_len t wind voice k q; omega
                have cO := HEq.out.cell hlq
                have hOl := HEq.out.lt
                obtain ⟨uq, huq⟩ : ∃ uq, us.getD q (.slice none 0 0) = uq := ⟨_, rfl⟩
                have HUQ := Lib.hid huq
                have hown := HEq.out.own q hlq
                rw [huq] at cO hown
                have HOQ := Lib.hid hown
                subst h1
                clear hyr huq hown HNO
                go_wp2_with (at_builtin; refine wpList_append_own_at _ rfl _ _ 31 rfl (w.heap.size + 1 + 1) 3 i0 (.int .i64 0) 1 8 A_und31 hi hz0 hz1 hz2 rfl (by decide) _ _ _ rfl (HOQ.out.alloc _) ⟨wq.heap.size, 0, none⟩ 1 1 [.int .i64 (k : Int)] rfl rfl ?d1 ?d2 ?d3 ?d4 ?d5 ?_)
                case d1 => exact cell_one_new _ _ _
                case d2 => intro u hu; simp at hu; subst hu; rfl
                case d3 => unfold maxLen; omega
                case d4 => omega
                case d5 => simp; omega
                intro v' w8 hown8 hgrow _ hat
                obtain ⟨ob8, cp8, rfl⟩ := own_slice hown8
                have hal := below1 wq (.cells #[.int .i64 (k : Int)] 3)
                have happ := HEq.out.app hal hlq (x := k) hown8 (by rw [HUQ.out]; exact hgrow) (by rw [HUQ.out]; simpa using hat)
                obtain ⟨hE8, c8, f8⟩ := happ
                have hOl8 : w.heap.size + 1 < w8.heap.size := by have := hgrow.size; simp at this; omega
                have hB8 := below_grown (al2 HBq.out (by omega) (.cells #[.int .i64 (k : Int)] 3)) (HOQ.out.alloc _) (by omega) (by simp; omega) hgrow
                have hT8 : TabAt w8 tb X := by
                  refine (hgrow.block tb (by simp; omega) (fun e => ?_)).trans ((Below.heap_alloc _ _ _ htl).trans HTq.out)
                  exact HOFq.out q hlq tb (by rw [HUQ.out]; exact e.symm) rfl
                have HE8 := Lib.hid (hE8.congr (E' := earsM t wind voice k (q + 1)) (fun p hp => by
                  by_cases e : p = q
                  · subst e
                    rw [if_pos rfl]
                    unfold earsM
                    rw [if_pos (by omega), if_neg (by omega)]
                    exact earsE_yes HKQ.out HYES.out
                  · rw [if_neg e]
                    unfold earsM
                    by_cases e2 : p < q
                    · rw [if_pos (by omega), if_pos e2]
                    · rw [if_neg (by omega), if_neg e2]))
                have HB8 := Lib.hid (hB8.setCell (p := ⟨w.heap.size + 1, q, none⟩) (Nat.le_refl _) (.slice ob8 ((earsM t wind voice k q q).length + 1) cp8))
                have HT8 : Hid (TabAt (w8.setCell ⟨w.heap.size + 1, q, none⟩ (.slice ob8 ((earsM t wind voice k q q).length + 1) cp8)) tb X) := Lib.hid ((Below.heap_setCell _ _ _ _ (show tb ≠ w.heap.size + 1 by omega)).trans hT8)
                have HOF8 : Hid (∀ p, p < t.plots.length → ∀ g, ((us.set q (.slice ob8 ((earsM t wind voice k q q).length + 1) cp8)).getD p (.slice none 0 0)).ownBlock = some g → g ≠ tb) := Lib.hid (fun p hp g hg => by
                  rw [getD_setV _ _ _ _ _ (by rw [HEq.out.len]; exact hlq)] at hg
                  by_cases e : q = p
                  · rw [if_pos e] at hg
                    rcases hat with ha | ha
                    · rw [ha] at hg; exact HOFq.out q hlq g (by rw [HUQ.out]; exact hg)
                    · rw [ha] at hg; injection hg with hg; omega
                  · rw [if_neg e] at hg; exact HOFq.out p hp g hg)
                clear hown8 hgrow hat hal hE8 hB8 hT8
                go_wp2_with fail
                go_roundw
                case rel => exact ⟨q + 1, _, by omega, by simp, HE8.out, HOF8.out, HT8.out, HB8.out⟩
                case measure => simp [intOf]; omega
              · have HNE := Lib.hid (HEq.out.congr (HNO.out (.inl (by rw [HHB.out]; simp; omega))))
                subst h1
                by_cases hy0 : 0 ≤ y
                · have hyv : voice < y := by omega
                  clear hyr hh HNO
                  go_wp2_with fail
                  go_roundw
                  case rel => exact ⟨q + 1, us, by omega, by simp, HNE.out, HOFq.out, HTq.out, HBq.out⟩
                  case measure => simp [intOf]; omega
                · have hyn : y < 0 := by omega
                  clear hyr hh HNO
                  go_wp2_with fail
                  go_roundw
                  case rel => exact ⟨q + 1, us, by omega, by simp, HNE.out, HOFq.out, HTq.out, HBq.out⟩
                  case measure => simp [intOf]; omega
            · have HNE := Lib.hid (HEq.out.congr (HNO.out (.inr h1)))
              have h1' : (kq == 1) = false := by simpa using h1
              clear hyr HNO h1
              go_wp2_with fail
              go_roundw
              case rel => exact ⟨q + 1, us, by omega, by simp, HNE.out, HOFq.out, HTq.out, HBq.out⟩
              case measure => simp [intOf]; omega
          · obtain rfl : q = t.plots.length := by omega
            have HEf := Lib.hid (HEq.out.congr (E' := earsE t wind voice (k + 1)) (fun p hp => by unfold earsM; rw [if_pos hp]))
            clear hIq
            go_wp2_with fail
            go_roundw
            case rel => exact ⟨k + 1, us, by omega, by simp, HEf.out, HBq.out⟩
            case measure => simp [intOf]; omega
      · have h0' : (kd != 0) = true := by simpa using h0
        have HNE := Lib.hid (HE.out.congr (E' := earsE t wind voice (k + 1)) (fun p hp => earsE_no (fun _ => by unfold hearB; rw [HKD.out]; simp [h0])))
        clear h0
        go_wp2_with fail
        go_roundw
        case rel => exact ⟨k + 1, vs, by omega, by simp, HNE.out, HBr.out⟩
        case measure => simp [intOf]; omega
    · obtain rfl : k = t.plots.length := by omega
      clear hIk
      go_wp2_with fail
      go_ret
      exact ⟨_, vs, rfl, HE.out, by omega, HB.out.trans (HBr.out.mono (by omega))⟩
end Go.Proofs.Ytimedmkpenbmkaa
