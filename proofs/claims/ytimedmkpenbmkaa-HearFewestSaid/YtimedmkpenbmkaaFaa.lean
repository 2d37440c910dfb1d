/- Contracts and mathematics, part 1. -/
import Derived.Test.YtimedmkpenbmkaaUn
import Derived.Test.YtimedmkpenbmkaaMathB
import Derived.Test.YtimedmkpenbmkaaRows
import Derived.ProofKit
import Derived.OpenShut
import Derived.ShutString
import Derived.ChangeOld
import Derived.Below
import Derived.Lib.SmallJoins
import Derived.RegionTactic
import Derived.Deep.CutRange
import Derived.Deep.DeepCutAuto
import Derived.ArgAppend
import Derived.Laws.ResultCell
section
namespace Go.Proofs.Ytimedmkpenbmkaa
open Go.RowKit Go.Shelf
set_option linter.unusedSimpArgs false
set_option linter.unusedVariables false
/-- a law's own town and that of the reference, in their boxes -/
structure LwT (wd : Int) (xs : List Int) (c7 : Nat) (u7 : Value) (c8 : Nat) (u8 : Value) (W : World) : Prop where
  b7 : W.heap[c7]? = some (.cells #[.int .i64 wd, u7] 24 (0, 0))
  b8 : W.heap[c8]? = some (.cells #[.int .i64 wd, u8] 33 (0, 0))
  r7 : RdI W u7 xs
  r8 : RdI W u8 xs
theorem LwT.below {wd : Int} {xs : List Int} {c7 c8 : Nat} {u7 u8 : Value} {W W' : World} (h : LwT wd xs c7 u7 c8 u8 W) (hB : Below W.heap.size W W') : LwT wd xs c7 u7 c8 u8 W' :=
  ⟨(hB.block _ (Array.getElem?_eq_some_iff.1 h.b7).1).trans h.b7, (hB.block _ (Array.getElem?_eq_some_iff.1 h.b8).1).trans h.b8, h.r7.below hB, h.r8.below hB⟩
theorem LwT.cs {wd : Int} {xs : List Int} {c7 c8 : Nat} {u7 u8 : Value} {W : World} (h : LwT wd xs c7 u7 c8 u8 W) :
    (W.cell? ⟨c7, 0, none⟩ = some (.int .i64 wd) ∧ W.cell? ⟨c7, 1, none⟩ = some u7) ∧ W.cell? ⟨c8, 0, none⟩ = some (.int .i64 wd) ∧ W.cell? ⟨c8, 1, none⟩ = some u8 := ⟨blk_cells2 h.b7, blk_cells2 h.b8⟩
end Go.Proofs.Ytimedmkpenbmkaa
end
section
namespace Go.Proofs.Ytimedmkpenbmkaa
open Go.ChangeShapes Go.WideShapes Go.ChangeAt Go.RowKit Go.Joins
set_option linter.unusedVariables false
set_option linter.unusedSimpArgs false
theorem Try.own : ownKnob Try.prog.godebug = none := by kernel_rfl
theorem Try.laidOut : laidOutB Try.prog = true := by kernel_rfl
theorem cells24 : Try.prog.cellsOf 24 = 2 := by kernel_rfl
theorem cells27 : Try.prog.cellsOf 27 = 2 := by kernel_rfl
theorem cells102 : Try.prog.cellsOf 102 = 1 := by kernel_rfl
theorem cells3 : Try.prog.cellsOf 3 = 1 := by kernel_rfl
section
variable {H : Type} {enc : TypeId × Value → H} {W : World} {base : Nat} {spare : Nat → Bool} {held : Bool}
set_option maxRecDepth 100000 in
/-- a slice of numbers that came in, as a list that is read -/
theorem rd_of_trod {t e : TypeId} (hsp : ∀ b, spare b = true) (ht : Try.prog.underlying t = some (.slice e)) (he : Try.prog.underlying e = some (.int .i64)) (hc : Try.prog.cellsOf e = 1) {fuel : Nat} {v : Value} {x : DataW H × List MemPlace}
    (h : DataW.trod enc Try.prog W base spare held fuel t [v] = some x) : ∃ a cap, ∃ xs : List Int, v = .slice a xs.length cap ∧ RdI W v xs := by
  rcases open_ints ht he hc h with ⟨hcs, _⟩ | ⟨a, l, c, zs, hcs, _, hl, hm, hz, _, hcell, hwz⟩
  · injection hcs with hcs
    subst hcs
    exact ⟨none, 0, [], rfl, by simp, none, 0, rfl, fun h => absurd rfl h⟩
  · injection hcs with hcs
    subst hcs
    rw [hsp, if_pos rfl] at hz
    have hxl : (zs.take l).length = l := by rw [List.length_take]; omega
    have hm' : l ≤ 9223372036854775807 := by have : maxLen = 9223372036854775807 := rfl; omega
    refine ⟨some a, c, zs.take l, by rw [hxl], by omega, some a, c, by rw [hxl], fun hne => ?_⟩
    have hl0 : 0 < l := by
      rcases Nat.eq_zero_or_pos l with h0 | h0
      · subst h0; simp at hne
      · exact h0
    obtain ⟨b, off, rfl, hc⟩ := ints_at hcell (by omega)
    refine ⟨b, off, rfl, ?_, fun i hi => ?_⟩
    · have := hc 0 (by omega)
      rcases Nat.lt_or_ge b W.heap.size with h' | h'
      · exact h'
      · simp [World.cell?, Array.getElem?_eq_none h'] at this
    · have hi2 : i < l := by omega
      rw [hc i (by omega)]
      congr 2
      simp only [List.getD_eq_getElem?_getD, List.getElem?_take, hi2, if_true]
set_option maxRecDepth 100000 in
/-- a town that came in -/
theorem town_of_trod (hsp : ∀ b, spare b = true) {v : Value} {d : DataW H} {p : List MemPlace} {r : Reach} {b0 : Nat} (hv : Value.okWide Try.prog W r b0 24 v) (h : DataW.Trod enc Try.prog W base spare held 24 v d p) :
    ∃ wd a cap, ∃ xs : List Int, v = .agg #[.int .i64 wd, .slice a xs.length cap] ∧ RdI W (.slice a xs.length cap) xs := by
  obtain ⟨c0, c1, y0, y1, m, rfl, rfl, rfl, hy0, hy1⟩ := open_agg2 Try.underlying24 (by kernel_rfl) cells24 hv h
  obtain ⟨wd, e0, _, _⟩ := DataW.trod_int Try.underlying3 hy0
  obtain ⟨a, cap, xs, e1, hR⟩ := rd_of_trod hsp Try.underlying22 Try.underlying102 cells102 hy1
  simp at e0
  subst e0
  subst e1
  exact ⟨wd, a, cap, xs, rfl, hR⟩
set_option maxRecDepth 100000 in
/-- an air that came in -/
theorem air_of_trod {v : Value} {d : DataW H} {p : List MemPlace} {r : Reach} {b0 : Nat} (hv : Value.okWide Try.prog W r b0 27 v) (h : DataW.Trod enc Try.prog W base spare held 27 v d p) :
    ∃ wind voice : Int, v = .agg #[.int .i64 wind, .int .i64 voice] := by
  obtain ⟨c0, c1, y0, y1, m, rfl, rfl, rfl, hy0, hy1⟩ := open_agg2 Try.underlying27 (by kernel_rfl) cells27 hv h
  obtain ⟨x, e0, _, _⟩ := DataW.trod_int Try.underlying25 hy0
  obtain ⟨y, e1, _, _⟩ := DataW.trod_int Try.underlying3 hy1
  simp at e0 e1
  subst e0
  subst e1
  exact ⟨x, y, rfl⟩
theorem lt_of_trod {t : TypeId} {v : Value} {d : DataW H} {p : List MemPlace} (h : DataW.Trod enc Try.prog W 0 spare held t v d p) : ∀ x ∈ p, x.block < W.heap.size := by obtain ⟨m, hm⟩ := h; exact DataW.trod_lt m _ _ _ hm
end
end Go.Proofs.Ytimedmkpenbmkaa
end
section
namespace Go.Proofs.Ytimedmkpenbmkaa
open Go.RowKit Go.Shelf
set_option linter.unusedSimpArgs false
set_option linter.unusedVariables false
/-- the plots of a kind -/
def kindTo (xs : List Int) (kind : Int) (k : Nat) : List Int := ((List.range k).filter fun p => xs.getD p 0 == kind).map fun (p : Nat) => (p : Int)
def kindIdx (xs : List Int) (kind : Int) : List Int := kindTo xs kind xs.length
theorem kindTo_yes {xs : List Int} {kind : Int} {k : Nat} (e : (xs.getD k 0 == kind) = true) : kindTo xs kind (k + 1) = kindTo xs kind k ++ [(k : Int)] := by
  unfold kindTo; rw [List.range_succ, List.filter_append, List.filter_cons, if_pos e]; simp
theorem kindTo_no {xs : List Int} {kind : Int} {k : Nat} (e : (xs.getD k 0 == kind) = false) : kindTo xs kind (k + 1) = kindTo xs kind k := by
  unfold kindTo; rw [List.range_succ, List.filter_append, List.filter_cons, if_neg (by rw [e]; simp)]; simp
theorem kindTo_len (xs : List Int) (kind : Int) (k : Nat) : (kindTo xs kind k).length ≤ k := by
  unfold kindTo
  have := List.length_filter_le (fun p => xs.getD p 0 == kind) (List.range k)
  simp at this ⊢; omega
theorem mem_kindIdx {xs : List Int} {kind x : Int} : x ∈ kindIdx xs kind ↔ ∃ p : Nat, x = p ∧ p < xs.length ∧ xs.getD p 0 = kind := by
  unfold kindIdx kindTo
  rw [List.mem_map]
  constructor
  · rintro ⟨p, hp, rfl⟩
    rw [List.mem_filter, List.mem_range, beq_iff_eq] at hp
    exact ⟨p, rfl, hp.1, hp.2⟩
  · rintro ⟨p, rfl, h1, h2⟩
    exact ⟨p, by rw [List.mem_filter, List.mem_range, beq_iff_eq]; exact ⟨h1, h2⟩, rfl⟩
end Go.Proofs.Ytimedmkpenbmkaa
end
section
namespace Go.Proofs.Ytimedmkpenbmkaa
open Go.RowKit Go.Shelf
set_option linter.unusedSimpArgs false
set_option linter.unusedVariables false
/-- the houses that hear a stand -/
def housesTo (t : Hr.Town) (wind voice : Int) (s k : Nat) : List Int := ((List.range k).filter fun p => t.at p == 1 && hearB t wind voice p s).map fun (p : Nat) => (p : Int)
def housesOf (t : Hr.Town) (wind voice : Int) (s : Nat) : List Int := housesTo t wind voice s t.len
end Go.Proofs.Ytimedmkpenbmkaa
end
section
namespace Go.Proofs.Ytimedmkpenbmkaa
open Go.RowKit Go.Shelf
set_option linter.unusedSimpArgs false
set_option linter.unusedVariables false
/-- what holds in the reference's Needs -/
structure RnI (t : Hr.Town) (b o cap : Nat) (w : World) (tb : Nat) (T : List Int) (W : World) : Prop where
  tab : TabAt W tb T
  box : W.heap[w.heap.size]? = some (.cells #[.int .i64 t.wide, .slice (some ⟨b, o, none⟩) t.plots.length cap] 33 (0, 0))
  ints : Ints W b o t.plots
  bel : Below w.heap.size w W
  lt : w.heap.size < tb
  blt : b < w.heap.size
theorem RnI.below {t : Hr.Town} {b o cap : Nat} {w : World} {tb : Nat} {T : List Int} {W W' : World} (h : RnI t b o cap w tb T W) (hB : Below W.heap.size W W') : RnI t b o cap w tb T W' :=
  ⟨h.tab.below hB h.tab.lt, (hB.block _ (Array.getElem?_eq_some_iff.1 h.box).1).trans h.box, h.ints.below hB h.ints.1, join h.bel hB, h.lt, h.blt⟩
theorem RnI.drewN {t : Hr.Town} {b o cap : Nat} {w : World} {tb : Nat} {T : List Int} {W : World} (h : RnI t b o cap w tb T W) (n : Nat) : RnI t b o cap w tb T (W.drewN n) :=
  ⟨h.tab, h.box, ⟨h.ints.1, h.ints.2⟩, below_drewN' h.bel n, h.lt, h.blt⟩
theorem RnI.set {t : Hr.Town} {b o cap : Nat} {w : World} {tb : Nat} {T : List Int} {W : World} (h : RnI t b o cap w tb T W) {i : Nat} (hi : i < T.length) (x : Int) : RnI t b o cap w tb (T.set i x) (W.setCell ⟨tb, i, none⟩ (.int .i64 x)) := by
  have hlt := h.lt
  refine ⟨h.tab.set hi x, (Below.heap_setCell _ _ _ _ (show w.heap.size ≠ tb by omega)).trans h.box, ?_, setc h.bel (show w.heap.size ≤ tb by omega), h.lt, h.blt⟩
  have hh : Below tb W (W.setCell ⟨tb, i, none⟩ (.int .i64 x)) := (Below.refl tb W).setCell (p := ⟨tb, i, none⟩) (Nat.le_refl tb) _
  exact h.ints.below hh (by have := h.blt; omega)
theorem RnI.cs {t : Hr.Town} {b o cap : Nat} {w : World} {tb : Nat} {T : List Int} {W : World} (h : RnI t b o cap w tb T W) :
    W.cell? ⟨w.heap.size, 0, none⟩ = some (.int .i64 t.wide) ∧ W.cell? ⟨w.heap.size, 1, none⟩ = some (.slice (some ⟨b, o, none⟩) t.plots.length cap) := blk_cells2 h.box
theorem stepZ_in (t : Hr.Town) (wind : Int) {p q : Nat} (hp : p < t.len) (hq : q < t.len) : stepZ t wind p q = Hr.stepI t wind p q := by
  unfold stepZ; rw [if_neg (by omega)]; simp
set_option maxHeartbeats 2000000 in
set_option maxRecDepth 100000 in
theorem refNeeds_yes (t : Hr.Town) (ok : t.Ok) (wind : Int) (s : Nat) (hs : s < t.len) (he : needsErr t.wide t.plots wind s = 0) (b o cap : Nat) (w : World) (hI : Ints w b o t.plots) :
    Calls Try.prog 31 #[.agg #[.int .i64 t.wide, .slice (some ⟨b, o, none⟩) t.plots.length cap], .int .i64 wind, .int .i64 s] w fun e w' => ∃ tb, e = .returned (.tuple #[.slice (some ⟨tb, 0, none⟩) t.len t.len, .int .i64 0]) ∧ TabAt w' tb (t.needs wind s) ∧ w.heap.size ≤ tb ∧ Below w.heap.size w w' := by
  have h30 := ok.n30
  have hmk := make31 t.len (by omega)
  have hmk' : ∀ W, (Instr.makeSlice 31 (.int .i64 (t.plots.length : Int)) (.int .i64 (t.plots.length : Int))).run Try.prog W = .ok (.slice (some ⟨W.heap.size, 0, none⟩) t.len t.len) (W.alloc (tabObj (List.replicate t.len 0))) := hmk
  have HB := Lib.hid (below1 w (.cells #[.int .i64 t.wide, .slice (some ⟨b, o, none⟩) t.plots.length cap] 33))
  have HI := Lib.hid hI
  have hx : (w.alloc (.cells #[.int .i64 t.wide, .slice (some ⟨b, o, none⟩) t.plots.length cap] 33)).heap[w.heap.size]? = some (.cells #[.int .i64 t.wide, .slice (some ⟨b, o, none⟩) t.plots.length cap] 33 (0, 0)) := heap_alloc_last _ _
  have HX := Lib.hid hx
  have HSD := Lib.hid (fun W (hB : Below w.heap.size w W) => refStand_any t.wide (some ⟨b, o, none⟩) cap t.plots wind s (by have : t.plots.length = t.len := rfl; omega) W (RdI.mk' (hI.below hB hI.1) (by have : t.plots.length = t.len := rfl; omega)))
  rw [standE_eq, he] at HSD
  clear hI hx hmk he
  go_enter Try.func31, Try.ntmps31
  go_wp2_with fail
  refine (HSD.out _ HB.out).mono ?_
  rintro e w1 ⟨rfl, hB⟩
  have HB1 := Lib.hid (join HB.out hB)
  have hb1 := (hB.block w.heap.size (by simp)).trans HX.out
  have HX1 := Lib.hid hb1
  obtain ⟨k0, k1⟩ := blk_cells2 hb1
  clear hB HB HX HSD hb1
  go_wp2
  have hN0 : RnI t b o cap w w1.heap.size (List.replicate t.len 0) (w1.alloc (tabObj (List.replicate t.len 0))) := by
    have hlt : w.heap.size < w1.heap.size := (Array.getElem?_eq_some_iff.1 HX1.out).1
    exact ⟨heap_alloc_last _ _, (Below.heap_alloc _ _ _ hlt).trans HX1.out, HI.out.below (al HB1.out _) HI.out.1, al HB1.out _, hlt, HI.out.1⟩
  generalize hTB : w1.heap.size = tb at hN0 ⊢
  generalize hW2 : w1.alloc (tabObj (List.replicate t.len 0)) = W2 at hN0 ⊢
  clear hW2 hTB hmk' k0 k1 HB1 HX1 HI
  go_loopw [10] (fun i wr => ∃ k : Nat, k ≤ t.len ∧ i = .int .i64 k ∧ RnI t b o cap w tb (List.replicate k (-1) ++ List.replicate (t.len - k) 0) wr) (fun i _ => t.len - (intOf i).toNat)
  case atStart => exact ⟨0, Nat.zero_le _, rfl, by simpa using hN0⟩
  case round =>
    obtain ⟨k, hk, rfl, hN⟩ := hrel
    clear hN0
    by_cases hlt : k < t.len
    · have hkl : k < (List.replicate k (-1 : Int) ++ List.replicate (t.len - k) 0).length := by simp; omega
      have hc := hN.tab.cell hkl
      have hf := hN.tab.free k
      have hset := hN.set hkl (-1)
      rw [fill_step _ _ hlt] at hset
      have HS := Lib.hid hset
      generalize (List.replicate k (-1 : Int) ++ List.replicate (t.len - k) 0).getD k 0 = x0 at hc
      clear hN hset
      go_wp2
      go_roundw
      case rel => exact ⟨k + 1, by omega, by go_num, HS.out⟩
      case measure => simp [intOf]; omega
    · obtain rfl : k = t.len := by omega
      rw [Nat.sub_self, List.replicate_zero, List.append_nil] at hN
      have hsl : s < (List.replicate t.len (-1 : Int)).length := by simpa using hs
      have hc := hN.tab.cell hsl
      have hf := hN.tab.free s
      have hN3 : RnI t b o cap w tb (t.start s) (wr.setCell ⟨tb, s, none⟩ (.int .i64 0)) := hN.set hsl 0
      have HN3 := Lib.hid hN3
      have hs' : (s : Int) < t.len := by omega
      generalize (List.replicate t.len (-1 : Int)).getD s 0 = x0 at hc
      have HST := Lib.hid (Hr.RN.start (wind := wind) ok hs)
      clear hN hN3 hsl
      go_wp2
      generalize wr.setCell ⟨tb, s, none⟩ (.int .i64 0) = W3 at HN3 ⊢
      clear hc hf
      go_loopg [11] 5000 (fun g lw wo => ∃ (T : List Int) (bl : Bool), lw = .bool bl ∧ Hr.RN t wind s T T false 0 0 ∧ RnI t b o cap w tb T wo ∧ (bl = true → Hr.mu T < (g : Int)) ∧ (bl = false → t.Fix wind s T))
      case atStart => exact ⟨t.start s, true, rfl, HST.out, HN3.out, fun _ => by have := HST.out.inv.mu_le ok; omega, (fun h => by cases h)⟩
      case round =>
        obtain ⟨T, bl, rfl, hRN, hNd, hgo, hend⟩ := hrel
        clear HST HN3
        cases bl with
        | false =>
          have HE := Lib.hid (hend rfl)
          have HND := Lib.hid hNd
          clear hgo hend hNd hRN
          go_wp2
          go_ret2
          exact ⟨tb, rfl, by rw [← HE.out.uniq ok hs (Hr.needs_fix ok wind hs)]; exact HND.out.tab, Nat.le_of_lt HND.out.lt, HND.out.bel⟩
        | true =>
          have hmu := hgo rfl
          have hmu0 := (hRN.inv.mu_le ok).1
          obtain ⟨m, rfl⟩ : ∃ m, gk = m + 1 := ⟨gk - 1, by omega⟩
          have HMU := Lib.hid hmu
          have HRN := Lib.hid hRN
          have HND := Lib.hid hNd
          obtain ⟨wo, rfl⟩ : ∃ wo : World, wo = wr := ⟨_, rfl⟩
          clear hgo hend hRN hNd hmu hlt
          have hmu1 : True := trivial
          go_wp2
          go_loopw [11, 12] (fun ch i wi => ∃ (k : Nat) (T1 : List Int) (c1 : Bool), k ≤ t.len ∧ i = .int .i64 k ∧ ch = .bool c1 ∧ Hr.RN t wind s T T1 c1 k 0 ∧ RnI t b o cap w tb T1 wi) (fun _ i _ => t.len - (intOf i).toNat)
          case atStart => exact ⟨0, T, false, Nat.zero_le _, rfl, rfl, HRN.out, HND.out⟩
          case round =>
            obtain ⟨k, T1, c1, hk, rfl, rfl, hR1, hN1⟩ := hrel
            have HR1 := Lib.hid hR1
            have HN1 := Lib.hid hN1
            have hlen1 : T1.length = t.len := hR1.inv.len
            have HL1 := Lib.hid hlen1
            obtain ⟨wk, rfl⟩ : ∃ wk : World, wk = wr := ⟨_, rfl⟩
            clear hR1 hN1 hlen1
            by_cases hlt : k < t.len
            · go_wp2
              go_loopw [11, 13] (fun ch i wi => ∃ (q : Nat) (T2 : List Int) (c2 : Bool), q ≤ t.len ∧ i = .int .i64 q ∧ ch = .bool c2 ∧ Hr.RN t wind s T T2 c2 k q ∧ RnI t b o cap w tb T2 wi) (fun _ i _ => t.len - (intOf i).toNat)
              case atStart => exact ⟨0, T1, c1, Nat.zero_le _, rfl, rfl, HR1.out, HN1.out⟩
              case round =>
                obtain ⟨q, T2, c2, hq, rfl, rfl, hR2, hN2⟩ := hrel
                obtain ⟨wq, rfl⟩ : ∃ wq : World, wq = wr := ⟨_, rfl⟩
                by_cases hlq : q < t.len
                · have hlen2 : T2.length = t.len := hR2.inv.len
                  have hST := refStep_any t ok wind k q b o cap wq hN2.ints
                  rw [stepZ_in t wind hlt hlq] at hST
                  have hss := Hr.stepI_nn ok (wind := wind) hlt hlq
                  have hbk := hR2.bd ok k hlt
                  have hbq := hR2.bd ok q hlq
                  have hkeep := fun hu => hR2.keep (q := q) hu
                  have hset := fun hu => hR2.set ok hlt hlq hu
                  unfold Hr.upd at hkeep hset
                  have ck := fun (W : World) (hB : Below wq.heap.size wq W) => (hN2.below hB).tab.cell (i := k) (by omega)
                  have cq := fun (W : World) (hB : Below wq.heap.size wq W) => (hN2.below hB).tab.cell (i := q) (by omega)
                  obtain ⟨k0, k1⟩ := hN2.cs
                  generalize hn : Hr.stepI t wind k q = n at hST hss hkeep hset
                  generalize htk : T2.getD k 0 = tk at hbk hkeep hset ck
                  generalize htq : T2.getD q 0 = tq at hbq hkeep hset cq
                  have HST := Lib.hid hST
                  have HKEEP := Lib.hid hkeep
                  have HSET := Lib.hid hset
                  have HN2 := Lib.hid hN2
                  have HCK := Lib.hid ck
                  have HCQ := Lib.hid cq
                  have hlq' : (q : Int) < t.len := by omega
                  have hlk' : (k : Int) < t.len := by omega
                  obtain ⟨n0, n5⟩ := hss
                  obtain ⟨tk0, tk1⟩ := hbk
                  obtain ⟨tq0, tq1⟩ := hbq
                  have HL2 := Lib.hid hlen2
                  clear hST hkeep hset hN2 ck cq hR2 hn htk htq hlen2
                  go_wp2_with fail
                  refine HST.out.mono ?_
                  rintro e w5 ⟨rfl, hB5⟩
                  have ck := HCK.out _ hB5
                  have cq := HCQ.out _ hB5
                  have hN5 := HN2.out.below hB5
                  have fq := hN5.tab.free q
                  have HN5 := Lib.hid hN5
                  clear hB5 k0 k1 HCK HCQ HN2 HST hN5
                  have hwr : IntKind.i64.wrap (tk + n) = tk + n := IntWalk.i64_in _ (by omega)
                  by_cases g1 : 0 < n
                  · have d1 : decide (n > 0) = true := by simpa using g1
                    by_cases g2 : 0 ≤ tk
                    · have d2 : decide (tk ≥ 0) = true := by simpa using g2
                      by_cases g3 : tq < 0
                      · have d3 : decide (tq < 0) = true := by simpa using g3
                        have HRS := Lib.hid (HSET.out ⟨g1, g2, .inl g3⟩)
                        have hqt : q < T2.length := by have := HL2.out; omega
                        have HN6 := Lib.hid (HN5.out.set hqt (tk + n))
                        clear HKEEP HSET HL2
                        go_wp2
                        go_quiet (fail)
                        go_wp2
                        go_roundw
                        case rel => exact ⟨q + 1, _, true, by omega, by go_num, rfl, HRS.out, HN6.out.drewN _⟩
                        case measure => simp [intOf]; omega
                      · have d3 : decide (tq < 0) = false := by simp; omega
                        by_cases g4 : tk + n < tq
                        · have d4 : decide (tk + n < tq) = true := by simpa using g4
                          have HRS := Lib.hid (HSET.out ⟨g1, g2, .inr g4⟩)
                          have hqt : q < T2.length := by have := HL2.out; omega
                          have HN6 := Lib.hid (HN5.out.set hqt (tk + n))
                          clear HKEEP HSET HL2
                          go_wp2
                          go_quiet (fail)
                          go_wp2
                          go_roundw
                          case rel => exact ⟨q + 1, _, true, by omega, by go_num, rfl, HRS.out, HN6.out.drewN _⟩
                          case measure => simp [intOf]; omega
                        · have d4 : decide (tk + n < tq) = false := by simp; omega
                          have HRS := Lib.hid (HKEEP.out (by omega))
                          clear HKEEP HSET HL2
                          go_wp2
                          go_quiet (fail)
                          go_wp2
                          go_roundw
                          case rel => exact ⟨q + 1, _, _, by omega, by go_num, rfl, HRS.out, HN5.out.drewN _⟩
                          case measure => simp [intOf]; omega
                    · have d2 : decide (tk ≥ 0) = false := by simp; omega
                      have HRS := Lib.hid (HKEEP.out (by omega))
                      clear HKEEP HSET HL2
                      go_wp2
                      go_quiet (fail)
                      go_wp2
                      go_roundw
                      case rel => exact ⟨q + 1, _, _, by omega, by go_num, rfl, HRS.out, HN5.out.drewN _⟩
                      case measure => simp [intOf]; omega
                  · have d1 : decide (n > 0) = false := by simp; omega
                    have HRS := Lib.hid (HKEEP.out (by omega))
                    clear HKEEP HSET HL2
                    go_wp2
                    go_quiet (fail)
                    go_wp2
                    go_roundw
                    case rel => exact ⟨q + 1, _, _, by omega, by go_num, rfl, HRS.out, HN5.out.drewN _⟩
                    case measure => simp [intOf]; omega
                · obtain rfl : q = t.len := by omega
                  have HR2 := Lib.hid hR2
                  have HN2 := Lib.hid hN2
                  clear hR2 hN2
                  go_wp2
                  go_roundw
                  case rel => exact ⟨k + 1, T2, c2, by omega, by go_num, rfl, HR2.out.next, HN2.out⟩
                  case measure => simp [intOf]; omega
            · obtain rfl : k = t.len := by omega
              go_wp2
              go_roundg m
              case measure => omega
              case rel =>
                refine ⟨T1, c1, rfl, HR1.out.again, HN1.out, fun hb => ?_, fun hb => ?_⟩
                · have := HR1.out.yes hb; have := HMU.out; omega
                · subst hb; exact HR1.out.fin ok
end Go.Proofs.Ytimedmkpenbmkaa
end
section
namespace Go.Proofs.Ytimedmkpenbmkaa
open Go.RowKit Go.Shelf
set_option linter.unusedSimpArgs false
set_option linter.unusedVariables false
theorem RdI.heap {W W' : World} {v : Value} {xs : List Int} (hW : W.heap = W'.heap) (h : RdI W' v xs) : RdI W v xs := by
  obtain ⟨h1, a, cap, e, hI⟩ := h
  refine ⟨h1, a, cap, e, fun hn => ?_⟩
  obtain ⟨b, o, e2, h2, h3⟩ := hI hn
  exact ⟨b, o, e2, by rw [hW]; exact h2, fun i hi => by have := h3 i hi; unfold World.cell? at this ⊢; rw [hW]; exact this⟩
end Go.Proofs.Ytimedmkpenbmkaa
namespace Go.Proofs.Ytimedmkpenbmkaa
open Go.RowKit Go.Shelf
set_option linter.unusedSimpArgs false
set_option linter.unusedVariables false
end Go.Proofs.Ytimedmkpenbmkaa
namespace Go.Proofs.Ytimedmkpenbmkaa
open Go.RowKit Go.Shelf
set_option linter.unusedSimpArgs false
set_option linter.unusedVariables false
theorem exec_append2 {P : Program} {ρ : Operand → Value} {o : Oper} {s x : Operand} {t ty : TypeId} {vs vx v' : Value} {w w' : World} (ho : o.op = .call { callee := .builtin .append, args := #[s, x], argTypes := #[t, t] }) (hty : o.type = ty) (hs : ρ s = vs) (hx : ρ x = vx) (hr : (Builtin.append_ #[t, t] ty #[vs, vx]).run P w = .ok v' w') : (execOp ρ o).run P w = .ok (.value v') w' := by
  subst hty
  unfold execOp
  simp only [ho, resolve, invoke, builtin, Sem.run_bind, Sem.run_pure, Result.andThen_ok, List.map_toArray, List.map_cons, List.map_nil, hs, hx, hr]
end Go.Proofs.Ytimedmkpenbmkaa
namespace Go.Proofs.Ytimedmkpenbmkaa
open Go.RowKit Go.Shelf
set_option linter.unusedSimpArgs false
set_option linter.unusedVariables false
end Go.Proofs.Ytimedmkpenbmkaa
end
section
namespace Go.Proofs.Ytimedmkpenbmkaa
open Go.RowKit Go.Shelf
set_option linter.unusedSimpArgs false
set_option linter.unusedVariables false
/-- the stands that a house hears -/
def standsTo (t : Hr.Town) (wind voice : Int) (h k : Nat) : List Int := ((List.range k).filter fun s => hearB t wind voice h s).map fun (p : Nat) => (p : Int)
theorem standsTo_yes {t : Hr.Town} {wind voice : Int} {h k : Nat} (e : hearB t wind voice h k = true) : standsTo t wind voice h (k + 1) = standsTo t wind voice h k ++ [(k : Int)] := by
  unfold standsTo; rw [List.range_succ, List.filter_append]; simp [e]
theorem standsTo_no {t : Hr.Town} {wind voice : Int} {h k : Nat} (e : hearB t wind voice h k = false) : standsTo t wind voice h (k + 1) = standsTo t wind voice h k := by
  unfold standsTo; rw [List.range_succ, List.filter_append]; simp [e]
theorem standsTo_len (t : Hr.Town) (wind voice : Int) (h k : Nat) : (standsTo t wind voice h k).length ≤ k := by
  unfold standsTo
  have := List.length_filter_le (fun s => hearB t wind voice h s) (List.range k)
  simp at this ⊢; omega
end Go.Proofs.Ytimedmkpenbmkaa
end
section
namespace Go.Proofs.Ytimedmkpenbmkaa
open Go.RowKit Go.Shelf
set_option linter.unusedSimpArgs false
set_option linter.unusedVariables false
theorem lis_30 (t : Hr.Town) (wind voice : Int) (cnt : Nat → Bool) : ∀ y ∈ lis t wind voice cnt, y.2.length = 30 := by
  intro y hy
  unfold lis lisTo at hy
  obtain ⟨p, _, rfl⟩ := List.mem_map.1 hy
  simp [ears]
end Go.Proofs.Ytimedmkpenbmkaa
end
section
namespace Go.Proofs.Ytimedmkpenbmkaa
open Go.RowKit Go.Shelf
set_option linter.unusedSimpArgs false
set_option linter.unusedVariables false
/-- the error of a town, an air, and houses -/
def quarterE (wd : Int) (xs : List Int) (wind voice : Int) (hs : List Int) : Int := if openErr wd xs wind voice ≠ 0 then openErr wd xs wind voice else (qAll xs (List.replicate 30 false) hs).1
theorem oq_err (wd wind voice : Int) (a a2 : Option Addr) (cap hcap : Nat) (xs hs : List Int) (hl : xs.length ≤ 1000000) (w : World) (hR : RdI w (.slice a xs.length cap) xs) (hH : RdI w (.slice a2 hs.length hcap) hs) (hq : quarterE wd xs wind voice hs ≠ 0) :
    OQerr w wd wind voice (.slice a xs.length cap) (.slice a2 hs.length hcap) (quarterE wd xs wind voice hs) := by
  refine ⟨hq, fun W hB => ?_⟩
  unfold quarterE at *
  by_cases h0 : openErr wd xs wind voice = 0
  · rw [if_neg (by rw [h0]; simp)] at hq ⊢
    obtain ⟨hc, ha⟩ := openErr_ok h0
    have hn := (check_len hc).1
    have hne : xs ≠ [] := by rintro rfl; have := (check_len hc).2; simp at this
    obtain ⟨b, o, rfl, -, hI⟩ := rd_ints hR hne
    refine openQ_q wd wind voice b o cap xs _ _ (qAll xs (List.replicate 30 false) hs).2 W (rd_plots (hR.below hB) hl) (hI.below hB hI.1) ?_ hc ha hq
    intro A N W' hQ hB' hN
    by_cases h1 : hs = []
    · subst h1; exact absurd rfl hq
    · obtain ⟨hb, ho, rfl, -, hI2⟩ := rd_ints hH h1
      have hB2 := join hB (hB'.mono (Nat.le_refl _))
      refine (firstQ_any wd b o cap xs hn A N hb ho hcap hs (by have := hH.1; omega) _ W' hQ (hI2.below hB2 hI2.1) (by have := hI2.1; have := hB.size; omega)).mono ?_
      rintro e w' ⟨rfl, h1, h2⟩
      exact ⟨rfl, h1, h2⟩
  · rw [if_pos h0]
    exact openQ_err wd wind voice a cap xs _ W (rd_plots (hR.below hB) hl) h0
/-- whether a house hears one stand and no other one -/
def onlyL (s : Nat) : List Bool := (List.replicate 30 false).set s true
def onlyB (s : Nat) (es : List Bool) : Bool := decide (es = onlyL s)
def OnlyAt (w : World) (M s : Nat) : Prop := w.heap[M]? = some (.cells ((onlyL s).map Value.bool).toArray 128 (0, 0))
theorem OnlyAt.below {w w' : World} {M s : Nat} (h : OnlyAt w M s) (hB : Below w.heap.size w w') : OnlyAt w' M s := (hB.block _ (Array.getElem?_eq_some_iff.1 h).1).trans h
theorem onlyL_len (s : Nat) : (onlyL s).length = 30 := by unfold onlyL; simp
set_option maxHeartbeats 1000000 in
set_option maxRecDepth 100000 in
theorem onlyHears_any (s : Nat) (hs : s < 30) (w : World) :
    Calls Try.prog 112 #[.int .i64 s] w fun e w' => e = .returned (.func (.func 142) #[] #[.pointer (some ⟨w.heap.size, 0, none⟩)]) ∧ OnlyAt w' w.heap.size s ∧ Below w.heap.size w w' := by
  have hs' : (s : Int) < 30 := by omega
  go_enter Try.func112, Try.ntmps112
  go_wp2
  go_ret
  refine ⟨rfl, ?_, below1 _ _⟩
  unfold OnlyAt onlyL
  rw [heap_alloc_last, List.map_set]
  rfl
set_option maxHeartbeats 1000000 in
set_option maxRecDepth 100000 in
theorem only_any (h : Int) (es : List Bool) (hel : es.length = 30) (s M : Nat) (w : World) (hM : OnlyAt w M s) :
    Calls Try.prog 142 #[.agg (Value.int .i64 h :: es.map .bool).toArray, .pointer (some ⟨M, 0, none⟩)] w fun e w' => e = .returned (.bool (onlyB s es)) ∧ Below w.heap.size w w' := by
  obtain ⟨cs, hcs⟩ : ∃ cs, cs = es.map Value.bool := ⟨_, rfl⟩
  obtain ⟨ms, hms⟩ : ∃ ms, ms = (onlyL s).map Value.bool := ⟨_, rfl⟩
  have hcl : (Try.prog.info? 128).map (·.size) = some cs.length := by rw [hcs, List.length_map, hel]; exact size128
  have hml : (Try.prog.info? 128).map (·.size) = some ms.toArray.size := by rw [hms, List.size_toArray, List.length_map, onlyL_len]; exact size128
  have hr : ∀ W o1, W = w → (W.alloc (.cells (Value.int .i64 h :: cs).toArray o1)).rangeAt w.heap.size 1 cs := fun W o1 hW j v hv => by
    subst hW
    rw [cell_of_row _ _ _ _ _ _ (heap_alloc_last _ _), Nat.add_comm]; simpa using hv
  have hM2 : ∀ o1, (w.alloc o1).heap[M]? = some (.cells ms.toArray 128 (0, 0)) := fun o1 => by
    rw [hms]; exact (Below.heap_alloc _ _ _ (Array.getElem?_eq_some_iff.1 hM).1).trans hM
  have HCL := Lib.hid hcl
  have HML := Lib.hid hml
  have HCS := Lib.hid hcs
  have HMS := Lib.hid hms
  have HM2 := Lib.hid hM2
  rw [← hcs]
  clear hcl hcs hml hms hM hM2
  go_enter Try.func142, Try.ntmps142
  have hq : ∀ W, (binOp .eql 128 (.agg cs.toArray) (.agg ms.toArray)).run Try.prog W = .ok (.bool (onlyB s es)) W := fun W => by
    rw [HCS.out, HMS.out]; exact run_eq128 es (onlyL s) hel (onlyL_len s) W
  have hg : ∀ (x y : Operand) u v W, (eqGuard .eql 128 x y (.agg u) (.agg v)).run Try.prog W = .ok () W := fun x y u v W => run_eqGuard_agg W .eql 128 x y u v guard128
  have HQ := Lib.hid hq
  have HG := Lib.hid hg
  clear hq hg
  go_wp2_with (first
    | (with_reducible refine wpList_load_mid rfl 128 _ rfl w.heap.size 1 rfl cs _ (hr _ _ rfl) und128 rfl HCL.out ?_)
    | (with_reducible refine wpList_load_row rfl 128 _ rfl M rfl 128 ms.toArray (0, 0) _ (HM2.out _) und128 rfl HML.out ?_)
    | (refine wpList_bin rfl .eql 128 128 _ _ rfl (.agg cs.toArray) (.agg ms.toArray) (.bool (onlyB s es)) rfl rfl (HG.out _ _ _ _ _) (HQ.out _) ?_))
  go_ret
  exact ⟨rfl, below1 _ _⟩
/-- whether one of the first houses hears that stand alone -/
def anyTo (s : Nat) (l : List (Nat × List Bool)) (k : Nat) : Bool := (l.take k).any fun x => onlyB s x.2
def IdxOnly (s : Nat) (l : List (Nat × List Bool)) (w : World) (e : Ending) (w' : World) : Prop := ∃ z : Int, e = .returned (.int .i64 z) ∧ decide (z ≥ 0) = anyTo s l l.length ∧ Below w.heap.size w w'
set_option maxHeartbeats 1000000 in
set_option maxRecDepth 100000 in
theorem indexOnly_any (ob : Option Addr) (cap : Nat) (l : List (Nat × List Bool)) (hl : ∀ y ∈ l, y.2.length = 30) (hlen : l.length ≤ 30) (s M : Nat) (w : World) (hI : LiIn w ob l) (hM : OnlyAt w M s) :
    Calls Try.prog 141 #[.slice ob l.length cap, .func (.func 142) #[] #[.pointer (some ⟨M, 0, none⟩)]] w (IdxOnly s l w) := by
  have HIN := Lib.hid hI
  have HM := Lib.hid hM
  have HL30 := Lib.hid hl
  clear hI hM hl
  go_enter Try.func141, Try.ntmps141
  go_wp2_with fail
  go_loopw [8] (fun i wr => ∃ k : Nat, k ≤ l.length ∧ i = .int .i64 k ∧ anyTo s l k = false ∧ Below w.heap.size w wr) (fun i _ => l.length - (intOf i).toNat)
  case atStart => exact ⟨0, Nat.zero_le _, rfl, by unfold anyTo; simp, Below.refl _ _⟩
  case round =>
    obtain ⟨k, hk, rfl, hA, hB⟩ := hrel
    have HA := Lib.hid hA
    have HB := Lib.hid hB
    by_cases hlt : k < l.length
    · obtain ⟨x, hx⟩ : ∃ x, l[k]? = some x := ⟨_, List.getElem?_eq_getElem hlt⟩
      have hx30 := HL30.out x (List.mem_of_getElem? hx)
      obtain ⟨g, rfl, hgl, hrg⟩ := (HIN.out.below hB) k x hx
      have hstep : anyTo s l (k + 1) = (anyTo s l k || onlyB s x.2) := by unfold anyTo; rw [List.take_add_one, hx, List.any_append]; simp
      have hmon : anyTo s l (k + 1) = true → anyTo s l l.length = true := fun h => by
        unfold anyTo at *
        rw [List.any_eq_true] at h ⊢
        obtain ⟨y, hy, h2⟩ := h
        exact ⟨y, by rw [List.take_length]; exact List.mem_of_mem_take hy, h2⟩
      have HST := Lib.hid (And.intro hstep hmon)
      obtain ⟨row, hrow⟩ : ∃ row, row = lisRow x := ⟨_, rfl⟩
      have hsz : (Try.prog.info? 135).map (·.size) = some row.length := by rw [hrow, lisRow_len hx30]; exact size135
      have hask := fun W (hW : OnlyAt W M s) => only_any x.1 x.2 hx30 s M W hW
      change ∀ W, OnlyAt W M s → Calls Try.prog 142 #[.agg (lisRow x).toArray, .pointer (some ⟨M, 0, none⟩)] W _ at hask
      rw [← hrow] at hrg hask
      have HRG := Lib.hid hrg
      have HASK := Lib.hid hask
      have HSZ := Lib.hid hsz
      have hlt' : (k : Int) < l.length := by omega
      generalize hdf : onlyB s x.2 = df at HASK HST
      clear hx hrow hsz hrg hask hstep hmon hA hB hdf
      go_wp2_with (with_reducible refine wpList_load_mid rfl 135 _ rfl g (k * 31) rfl row _ HRG.out und135 rfl HSZ.out ?_)
      refine (HASK.out _ (HM.out.below HB.out)).mono ?_
      rintro e w5 ⟨rfl, hB5⟩
      have HB5 := Lib.hid (join HB.out hB5)
      clear hB5
      cases df with
      | false =>
        have HA1 : Hid (anyTo s l (k + 1) = false) := Lib.hid (by rw [HST.out.1, HA.out]; rfl)
        go_wp2_with fail
        go_roundw
        case rel => exact ⟨k + 1, by omega, by simp, HA1.out, HB5.out⟩
        case measure => simp [intOf]; omega
      | true =>
        have HA1 : Hid (anyTo s l l.length = true) := Lib.hid (HST.out.2 (by rw [HST.out.1, HA.out]; rfl))
        go_wp2_with fail
        go_ret
        exact ⟨k, rfl, by rw [HA1.out]; simp, HB5.out⟩
    · obtain rfl : k = l.length := by omega
      clear hA hB
      go_wp2_with fail
      go_ret
      exact ⟨-1, rfl, by rw [HA.out]; rfl, HB.out⟩
set_option maxHeartbeats 1000000 in
theorem containsOnly_any (ob : Option Addr) (cap : Nat) (l : List (Nat × List Bool)) (hl : ∀ y ∈ l, y.2.length = 30) (hlen : l.length ≤ 30) (s M : Nat) (w : World) (hI : LiIn w ob l) (hM : OnlyAt w M s) :
    Calls Try.prog 111 #[.slice ob l.length cap, .func (.func 142) #[] #[.pointer (some ⟨M, 0, none⟩)]] w fun e w' => e = .returned (.bool (anyTo s l l.length)) ∧ Below w.heap.size w w' := by
  have HX := Lib.hid (indexOnly_any ob cap l hl hlen s M w hI hM)
  clear hl hI hM
  go_enter Try.func111, Try.ntmps111
  go_wp2_with fail
  refine HX.out.mono ?_
  rintro e w1 ⟨z, rfl, hz, hB⟩
  have HZ := Lib.hid hz
  have HB := Lib.hid hB
  clear hz hB HX
  go_wp2
  go_ret
  exact ⟨by show Ending.returned (.bool (decide (z ≥ 0))) = _; rw [HZ.out], HB.out⟩
/-- the stands that a house hears alone -/
def mustTo (l : List (Nat × List Bool)) (k : Nat) : List Int := ((List.range k).filter fun s => anyTo s l l.length).map fun (p : Nat) => (p : Int)
theorem mustTo_yes {l : List (Nat × List Bool)} {k : Nat} (e : anyTo k l l.length = true) : mustTo l (k + 1) = mustTo l k ++ [(k : Int)] := by
  unfold mustTo; rw [List.range_succ, List.filter_append, List.filter_cons, if_pos e]; simp
theorem mustTo_no {l : List (Nat × List Bool)} {k : Nat} (e : anyTo k l l.length = false) : mustTo l (k + 1) = mustTo l k := by
  unfold mustTo; rw [List.range_succ, List.filter_append, List.filter_cons, if_neg (by rw [e]; simp)]; simp
theorem mustTo_len (l : List (Nat × List Bool)) (k : Nat) : (mustTo l k).length ≤ k := by
  unfold mustTo
  have := List.length_filter_le (fun s => anyTo s l l.length) (List.range k)
  simp at this ⊢; omega
set_option maxHeartbeats 1000000 in
set_option maxRecDepth 100000 in
theorem Must_err (wd wind voice : Int) (pl : Value) (hv : Value) (E : Int) (w : World) (hOQ : OQerr w wd wind voice pl hv E) :
    Calls Try.prog 48 #[.agg #[.int .i64 wd, pl], .agg #[.int .i64 wind, .int .i64 voice], hv] w fun e w' => e = .returned (.tuple #[.slice none 0 0, .int .i64 E]) ∧ Below w.heap.size w w' := by
  have hE : (E != 0) = true := by simpa using hOQ.1
  have HOQ := Lib.hid hOQ
  clear hOQ
  have hB2 : ∀ o1 o2, Below w.heap.size w ((w.alloc o1).alloc o2) := fun o1 o2 => al (al (Below.refl _ _) _) _
  go_enter Try.func48, Try.ntmps48
  go_wp2_with fail
  refine (hearers_err wd wind voice pl hv E _ (HOQ.out.below (hB2 _ _))).mono ?_
  rintro e w1 ⟨rfl, hB⟩
  have HB := Lib.hid (join (hB2 _ _) hB)
  clear hB hB2
  go_wp2
  go_ret2
  exact ⟨rfl, HB.out⟩
set_option maxHeartbeats 4000000 in
set_option maxRecDepth 100000 in
theorem Must_ok (t : Hr.Town) (hok : t.Ok) (wind voice : Int) (hw0 : 0 ≤ wind) (hw4 : wind ≤ 4) (b o cap : Nat) (hv : Value) (nm : List Bool) (hnl : nm.length = 30) (w : World) (hI : Ints w b o t.plots)
    (hOQ : OQ w t.wide wind voice (.slice (some ⟨b, o, none⟩) t.plots.length cap) hv nm) :
    Calls Try.prog 48 #[.agg #[.int .i64 t.wide, .slice (some ⟨b, o, none⟩) t.plots.length cap], .agg #[.int .i64 wind, .int .i64 voice], hv] w fun e w' =>
      ∃ v, e = .returned (.tuple #[v, .int .i64 (firstE (lis t wind voice (nm.getD · false)))]) ∧ Below w.heap.size w w' ∧ (firstE (lis t wind voice (nm.getD · false)) ≠ 0 → v = .slice none 0 0) ∧
        (firstE (lis t wind voice (nm.getD · false)) = 0 → w'.ownsRow w.heap.size 3 1 v (mustTo (lis t wind voice (nm.getD · false)) t.plots.length).length ((mustTo (lis t wind voice (nm.getD · false)) t.plots.length).map (Value.int .i64))) := by
  obtain ⟨i0, hi, hz0, hz1, hz2⟩ := info_parts A_info3
  have HI := Lib.hid hI
  have HOQ := Lib.hid hOQ
  have hbl := hI.1
  have h30 : t.plots.length ≤ 30 := hok.n30
  have hlen : (lis t wind voice (nm.getD · false)).length ≤ 30 := Nat.le_trans (lisTo_len t wind voice _ t.len) hok.n30
  obtain ⟨hl1, hl2⟩ := lis_row t wind voice (nm.getD · false)
  have hHR := fun w2 (h1 : Below w.heap.size w w2) => hearers_ok t hok wind voice hw0 hw4 b o cap hv nm hnl w2 (hI.below h1 hbl) (hOQ.below h1)
  obtain ⟨L, hL⟩ : ∃ L, L = lis t wind voice (nm.getD · false) := ⟨_, rfl⟩
  rw [← hL] at hlen hl1 hl2 hHR ⊢
  have HHR := Lib.hid hHR
  have HL1 := Lib.hid hl1
  have hB2 : ∀ o1 o2, Below w.heap.size w ((w.alloc o1).alloc o2) := fun o1 o2 => al (al (Below.refl _ _) _) _
  have hx0 : ((w.alloc (.cells #[.int .i64 t.wide, .slice (some ⟨b, o, none⟩) t.plots.length cap] 24)).alloc (.cells #[.int .i64 wind, .int .i64 voice] 27)).heap[w.heap.size]? = some (.cells #[.int .i64 t.wide, .slice (some ⟨b, o, none⟩) t.plots.length cap] 24 (0, 0)) := (Below.heap_alloc _ _ _ (by simp)).trans (heap_alloc_last _ _)
  have HX0 := Lib.hid hx0
  clear hI hOQ hHR hl1 hl2 hL hx0
  go_enter Try.func48, Try.ntmps48
  go_wp2_with fail
  refine (HHR.out _ (hB2 _ _)).mono ?_
  rintro e w1 ⟨v, rfl, hB, hne, hz⟩
  have hzb : w.heap.size ≤ w1.heap.size := by have := (join (hB2 (.cells #[.int .i64 t.wide, .slice (some ⟨b, o, none⟩) t.plots.length cap] 24) (.cells #[.int .i64 wind, .int .i64 voice] 27)) hB).size; exact this
  have hx1 := (hB.block w.heap.size (by simp; omega)).trans HX0.out
  obtain ⟨k0, k1⟩ := blk_cells2 hx1
  have hx1l : w.heap.size < w1.heap.size := (Array.getElem?_eq_some_iff.1 hx1).1
  have HB := Lib.hid (join (hB2 _ _) hB)
  obtain ⟨E, hE⟩ : ∃ E, E = firstE L := ⟨_, rfl⟩
  rw [← hE] at hne hz
  have HZ := Lib.hid hz
  have HN := Lib.hid hne
  have HEQ := Lib.hid hE
  rw [← hE]
  clear hB hB2 hne hz hE hx1 HX0
  by_cases h0 : E = 0
  · subst h0
    have hown := HZ.out rfl
    obtain ⟨ob, cp, rfl⟩ := own_slice hown
    have hin := LiIn.of_own HL1.out hown
    have HIN := Lib.hid hin
    clear hown hin HZ HN
    go_wp2_with fail
    clear k0 k1 hx1l
    go_loopw [10, 25] (fun s10 i wr => ∃ (k : Nat) (c : Value), k ≤ t.plots.length ∧ i = .int .i64 k ∧ c = s10 ∧ wr.ownsRow w1.heap.size 3 1 c (mustTo L k).length ((mustTo L k).map (Value.int .i64)) ∧ Below w1.heap.size w1 wr) (fun _ i _ => t.plots.length - (intOf i).toNat)
    case atStart => exact ⟨0, _, Nat.zero_le _, rfl, rfl, own_none _ _ _ _, Below.refl _ _⟩
    case round =>
      obtain ⟨k, c, hk, rfl, rfl, hown, hB⟩ := hrel
      have HO := Lib.hid hown
      have HBr := Lib.hid hB
      have hlm := mustTo_len L k
      have hsz := hB.size
      clear hown hB
      by_cases hlt : k < t.plots.length
      · have hlt' : (k : Int) < t.plots.length := by omega
        go_wp2_with fail
        refine (onlyHears_any k (by omega) wr).mono ?_
        rintro e w5 ⟨rfl, hM, hB5⟩
        have HM := Lib.hid hM
        have HB5 := Lib.hid (HBr.out.trans (hB5.mono hsz))
        have HO5 := Lib.hid (own_below HO.out hB5)
        have hsz5 := Nat.le_trans hsz hB5.size
        clear hM hB5
        go_wp2_with fail
        refine (containsOnly_any ob cp L HL1.out hlen k _ w5 (HIN.out.below HB5.out) HM.out).mono ?_
        rintro e w6 ⟨rfl, hB6⟩
        have HB6 := Lib.hid (HB5.out.trans (hB6.mono hsz5))
        have HO6 := Lib.hid (own_below HO5.out hB6)
        have hsz6 := Nat.le_trans hsz5 hB6.size
        generalize han : anyTo k L L.length = an
        have HAN := Lib.hid han
        clear hB6 han
        cases an with
        | false =>
          go_wp2_with fail
          go_roundw
          case rel => exact ⟨k + 1, _, by omega, by simp, rfl, by rw [mustTo_no HAN.out]; exact HO6.out, HB6.out⟩
          case measure => simp [intOf]; omega
        | true =>
          go_wp2_with (at_builtin; refine wpList_append_own _ rfl _ _ 31 rfl w1.heap.size 3 i0 (.int .i64 0) 1 8 A_und31 hi hz0 hz1 hz2 rfl (by decide) _ _ _ rfl (HO6.out.alloc _) ⟨w6.heap.size, 0, none⟩ 1 1 [.int .i64 (k : Int)] rfl rfl ?d1 ?d2 ?d3 ?d4 ?d5 ?_)
          (try (case d1 => intro j u hj; match j, hj with | 0, hj => simp at hj; subst hj; simp [Addr.add]))
          case d2 => first | rfl | (intro u hu; simp at hu; subst hu; rfl)
          case d3 => unfold maxLen; omega
          case d4 => omega
          case d5 => first | omega | (simp; omega)
          intro v' w8 hown8 hgrow _
          have HB8 := Lib.hid (below_grown (al2 HB6.out hsz6 (.cells #[.int .i64 (k : Int)] 3)) (HO6.out.alloc _) (Nat.le_refl _) (by simp; omega) hgrow)
          have HO8 := Lib.hid hown8
          clear hown8 hgrow
          go_wp2_with fail
          go_roundw
          case rel => exact ⟨k + 1, _, by omega, by simp, rfl, by rw [mustTo_yes HAN.out]; simpa using HO8.out, HB8.out⟩
          case measure => simp [intOf]; omega
      · obtain rfl : k = t.plots.length := by omega
        have HBE := Lib.hid (join HB.out HBr.out)
        go_wp2_with fail
        go_ret2
        exact ⟨_, by rw [← HEQ.out]; rfl, HBE.out, fun h => absurd HEQ.out.symm h, fun _ => own_base HO.out hzb⟩
  · have h0' : (E != 0) = true := by simpa using h0
    have H0 := Lib.hid h0
    have hv0 := HN.out h0
    clear h0 HZ HN
    go_wp2_with fail
    go_ret2
    exact ⟨.slice none 0 0, by rw [← HEQ.out]; rfl, HB.out, fun _ => rfl, fun h => absurd (HEQ.out.trans h) H0.out⟩
end Go.Proofs.Ytimedmkpenbmkaa
end
section
namespace Go.Proofs.Ytimedmkpenbmkaa.Rg
set_option linter.unusedSimpArgs false
set_option linter.unusedVariables false
open Go Go.RowKit Go.Proofs.Ytimedmkpenbmkaa.Rs
variable {P : Program} {ops : Array Oper}
/-- a way in which worlds may go on -/
structure IsGr (G : World → World → Prop) : Prop where
  refl : ∀ w, G w w
  trans : ∀ {a b c}, G a b → G b c → G a c
  drew : ∀ w : World, G w { w with drawn := w.drawn + 1 }
/-- what an operation leaves, where it only adds to the memory -/
def GrowAt (G : World → World → Prop) (P : Program) (o : Oper) (a : Act) (w : World) (Φ : Value → World → Prop) : Prop :=
  match (execOp a.eval o).run P w with
  | .ok (.value v) w' => G w w' ∧ Φ v w'
  | .ok .skip w' => G w w' ∧ Φ undef w'
  | .ok (.enter f args) w' => G w w' ∧ Calls P f args w' (fun e w'' => ∃ v, e = .returned v ∧ G w' w'' ∧ Φ v w'')
  | _ => False
/-- what is asked of one operation -/
def StepOk (G : World → World → Prop) (P : Program) (ops : Array Oper) (o : Oper) (a : Act) (w : World) (Φ : Value → World → Prop) : Prop :=
  if Region.wanted o (yielded ops a.tmps) = true then GrowAt G P o a w Φ else Φ undef w
section main
variable {n : Nat} {dl : List (List Nat)} {a0 : Act} {w0 : World} {Q : Exit → Act → World → Prop}
structure Inv (G : World → World → Prop) (ops : Array Oper) (n : Nat) (dl : List (List Nat)) (Spec : Nat → List Value → Value → World → Prop) (a0 : Act) (w0 : World) (V : Nat → Value) (listed : Array Bool) (a : Act) (w : World) : Prop where
  head : HeadInv .any ops n listed
  size : a.tmps.size = a0.tmps.size
  defers : a.defers = a0.defers
  slot : ∀ k, k < n → listed.getD k false = true → ∀ d, dstOf ops k = some d → d < a0.tmps.size → a.tmps[d]? = some (V k)
  other : ∀ d, (∀ k, k < n → listed.getD k false = true → dstOf ops k ≠ some d) → a.tmps[d]? = a0.tmps[d]?
  spec : ∀ k, k < n → listed.getD k false = true → Spec k ((dl.getD k []).map V) (V k) w
  gr : G w0 w
theorem Inv.looks {G : World → World → Prop} {Spec : Nat → List Value → Value → World → Prop} {V : Nat → Value} {listed : Array Bool} {a : Act} {w : World} (inv : Inv G ops n dl Spec a0 w0 V listed a w) {i : Nat} {o : Oper} (hi : ops[i]? = some o) (_hin : i < n) (hiu : listed.getD i false = false)
    (hr : ∀ e ∈ o.after, Region.binds .any e = true → listed.getD e.on false = true)
    (hdl : ∀ k ∈ dl.getD i [], k < n ∧ k ∈ depsOf ops n i)
    (hlook : ∀ k, k < n → ∀ d, dstOf ops k = some d → (d ∈ o.looksAt ops → k ∈ dl.getD i [] ∨ i ∈ depsOf ops n k ∨ i = k) ∧ True)
    (hnd : ∀ j k, j < n → k < n → j ≠ k → ∀ d, dstOf ops k = some d → dstOf ops j ≠ some d) :
    ∀ d ∈ o.looksAt ops, a.tmps[d]? = (canon ops V a0 (dl.getD i [])).tmps[d]? := by
  intro d hd
  have hdep : ∀ k ∈ dl.getD i [], listed.getD k false = true := fun k hk => depsOf_listed inv.head.closed n i (fun o' ho' => by rw [hi] at ho'; cases ho'; exact hr) k (hdl k hk).2
  by_cases hlt : d < a0.tmps.size
  · by_cases hex : ∃ k, k ∈ dl.getD i [] ∧ dstOf ops k = some d
    · obtain ⟨k, hk, hkd⟩ := hex
      rw [inv.slot k (hdl k hk).1 (hdep k hk) d hkd hlt, canon_in V hkd _ _ hk (fun j hj hjk => hnd j k (hdl j hj).1 (hdl k hk).1 hjk d hkd) hlt]
    · rw [canon_out V _ _ (fun k hk e => hex ⟨k, hk, e⟩)]
      refine inv.other d (fun k hk hl e => ?_)
      rcases (hlook k hk d e).1 hd with h | h | h
      · exact hex ⟨k, h, e⟩
      · have := depsOf_listed inv.head.closed n k (fun o' ho' e' he' hb' => inv.head.closed k o' ho' hl e' he' hb') i h
        rw [hiu] at this; cases this
      · subst h; rw [hiu] at hl; cases hl
  · have e1 : a.tmps[d]? = none := Array.getElem?_eq_none (by rw [inv.size]; exact Nat.le_of_not_lt hlt)
    have e2 : (canon ops V a0 (dl.getD i [])).tmps[d]? = none := Array.getElem?_eq_none (by rw [size_canon]; exact Nat.le_of_not_lt hlt)
    rw [e1, e2]
theorem Inv.step {G : World → World → Prop} (hG : IsGr G) {Spec : Nat → List Value → Value → World → Prop} {V : Nat → Value} {listed : Array Bool} {a : Act} {w w' : World} (inv : Inv G ops n dl Spec a0 w0 V listed a w) {i : Nat} {o : Oper} {v : Value} (hi : ops[i]? = some o) (hin : i < n) (hiu : listed.getD i false = false)
    (hri : i ∈ Region.ready .any ops listed)
    (hdl : ∀ j, j < n → ∀ k ∈ dl.getD j [], k < n ∧ k ∈ depsOf ops n j)
    (hnd : ∀ j k, j < n → k < n → j ≠ k → ∀ d, dstOf ops k = some d → dstOf ops j ≠ some d)
    (stable : ∀ i L v w w', Spec i L v w → G w w' → Spec i L v w')
    (hg : G w w') (hs : Spec i ((dl.getD i []).map V) v w') :
    Inv G ops n dl Spec a0 w0 (fun k => if k = i then v else V k) (listed.setIfInBounds i true) (a.put o.dst v) w' := by
  have hisz : i < listed.size := by rw [inv.head.size]; exact (Array.getElem?_eq_some_iff.1 hi).1
  have hdst : dstOf ops i = o.dst := by simp [dstOf, hi]
  have hdep : ∀ k, k < n → (k = i ∨ listed.getD k false = true) → ∀ j ∈ dl.getD k [], j ≠ i := fun k hk hkl j hj e => by
    have hm := (hdl k hk j hj).2
    rw [e] at hm
    have : listed.getD i false = true := by
      rcases hkl with rfl | hkl
      · obtain ⟨_, o', ho', hall⟩ := mem_ready.1 hri
        exact depsOf_listed inv.head.closed n k (fun o'' ho'' => by rw [ho'] at ho''; cases ho''; exact hall) k hm
      · exact depsOf_listed inv.head.closed n k (fun o' ho' e' he' hb' => inv.head.closed k o' ho' hkl e' he' hb') i hm
    rw [hiu] at this; cases this
  have hmap : ∀ k, k < n → (k = i ∨ listed.getD k false = true) → (dl.getD k []).map (fun k => if k = i then v else V k) = (dl.getD k []).map V := fun k hk hkl =>
    List.map_congr_left fun j hj => by rw [if_neg (hdep k hk hkl j hj)]
  refine ⟨inv.head.set hri hin, ?_, ?_, fun k hk hl d hd hlt => ?_, fun d hd => ?_, fun k hk hl => ?_, hG.trans inv.gr hg⟩
  · rw [← inv.size]; cases o.dst <;> simp [Act.put]
  · rw [← inv.defers]; cases o.dst <;> rfl
  · by_cases hki : k = i
    · subst hki
      rw [hdst] at hd
      rw [if_pos rfl, hd]
      simp [Act.put, inv.size, hlt]
    · rw [if_neg hki]
      rw [getD_set_ne false (fun e => hki e.symm)] at hl
      rw [← inv.slot k hk hl d hd hlt]
      cases ho : o.dst with
      | none => rfl
      | some d' =>
        simp only [Act.put]
        exact Array.getElem?_setIfInBounds_ne (fun e => hnd i k hin hk (fun e => hki e.symm) d hd (by rw [hdst, ho, e]))
  · have h1 : dstOf ops i ≠ some d := hd i hin (by simp [hisz])
    rw [hdst] at h1
    rw [← inv.other d (fun k hk hl e => by
      by_cases hki : k = i
      · subst hki; exact h1 (by rw [← hdst]; exact e)
      · exact hd k hk (by rw [getD_set_ne false (fun e => hki e.symm)]; exact hl) e)]
    cases ho : o.dst with
    | none => rfl
    | some d' => simp only [Act.put]; exact Array.getElem?_setIfInBounds_ne (fun e => h1 (by rw [ho, e]))
  · by_cases hki : k = i
    · subst hki
      rw [hmap k hk (.inl rfl)]
      simp only [if_true]
      exact hs
    · rw [getD_set_ne false (fun e => hki e.symm)] at hl
      rw [hmap k hk (.inr hl)]
      simp only [if_neg hki]
      exact stable _ _ _ _ _ (inv.spec k hk hl) hg
theorem head_all {G : World → World → Prop} (hG : IsGr G) {Spec : Nat → List Value → Value → World → Prop} (g : Nat)
    (hsel : ∀ (j : Nat) (o : Oper) cs b, ops[j]? = some o → o.op ≠ .select cs b) (hn : n ≤ ops.size)
    (hsink : n = ops.size ∨ (Region.sinkB .any ops n = true ∧ Region.chainB .any ops n = true))
    (hlow : ∀ i, i < n → ∀ o, ops[i]? = some o → ∀ e ∈ o.after, Region.binds .any e = true → e.on < i)
    (hdl : ∀ j, j < n → ∀ k ∈ dl.getD j [], k < n ∧ k ∈ depsOf ops n j)
    (hlook : ∀ i, i < n → ∀ o, ops[i]? = some o → ∀ k, k < n → ∀ d, dstOf ops k = some d → (d ∈ o.looksAt ops → k ∈ dl.getD i [] ∨ i ∈ depsOf ops n k ∨ i = k) ∧ True)
    (hnd : ∀ j k, j < n → k < n → j ≠ k → ∀ d, dstOf ops k = some d → dstOf ops j ≠ some d)
    (stable : ∀ i L v w w', Spec i L v w → G w w' → Spec i L v w')
    (step : ∀ i o V w, ops[i]? = some o → i < n → G w0 w → (∀ k ∈ dl.getD i [], Spec k ((dl.getD k []).map V) (V k) w) → StepOk G P ops o (canon ops V a0 (dl.getD i [])) w (Spec i ((dl.getD i []).map V)))
    (fin : ∀ V listed a w, Inv G ops n dl Spec a0 w0 V listed a w → (∀ k, k < n → listed.getD k false = true) → wpAny P .any ops Q g listed a w) :
    ∀ (f : Nat) (V : Nat → Value) (listed : Array Bool) (a : Act) (w : World), left n listed = f → Inv G ops n dl Spec a0 w0 V listed a w → wpAny P .any ops Q (f + g) listed a w := by
  intro f
  induction f with
  | zero => intro V listed a w hf inv; rw [Nat.zero_add]; exact fin V listed a w inv (left_zero hf)
  | succ f ih =>
    intro V listed a w hf inv
    have hun : ∃ i, i < n ∧ listed.getD i false = false ∧ ∀ j, j < i → listed.getD j false = true := by
      have hex : ∃ i, i < n ∧ listed.getD i false = false := by
        apply Classical.byContradiction
        intro hno
        have : left n listed = 0 := by
          unfold left
          rw [List.length_eq_zero_iff, List.filter_eq_nil_iff]
          intro i hi
          cases hv : listed.getD i false with
          | true => simp
          | false => exact absurd ⟨i, List.mem_range.1 hi, hv⟩ hno
        omega
      obtain ⟨i, h1, h2⟩ := hex
      induction i using Nat.strongRecOn with
      | _ i ihi =>
        by_cases h3 : ∀ j, j < i → listed.getD j false = true
        · exact ⟨i, h1, h2, h3⟩
        · simp only [Classical.not_forall] at h3
          obtain ⟨j, hj, hj2⟩ := h3
          exact ihi j hj (by omega) (by simpa using hj2)
    obtain ⟨i0, hi0, hi0u, hi0m⟩ := hun
    have hready0 : i0 ∈ Region.ready .any ops listed := by
      rw [mem_ready]
      have hlt : i0 < ops.size := by omega
      refine ⟨getD_in (by rw [inv.head.size]; exact hlt) hi0u, ops[i0], Array.getElem?_eq_getElem hlt, fun e he hb => hi0m _ (hlow i0 hi0 _ (Array.getElem?_eq_getElem hlt) e he hb)⟩
    rw [show f + 1 + g = (f + g) + 1 by omega]
    refine ⟨fun h => (by rw [h] at hready0; cases hready0), fun i hi => ?_⟩
    obtain ⟨hiu, o, ho, hall⟩ := mem_ready.1 hi
    have hiu' := getD_both hiu
    have hilt : i < ops.size := (Array.getElem?_eq_some_iff.1 ho).1
    have hin : i < n := by
      rcases hsink with h | ⟨h1, h2⟩
      · omega
      · by_cases hns : n < ops.size
        · rcases Nat.lt_or_ge i n with h | h
          · exact h
          · exact absurd hi (tail_waits h1 h2 hns inv.head _ i0 rfl hi0 (getD_in (by rw [inv.head.size]; omega) hi0u) i h)
        · omega
    have hso := step i o V w ho hin inv.gr (fun k hk => inv.spec k (hdl i hin k hk).1 (depsOf_listed inv.head.closed n i (fun o' ho' => by rw [ho] at ho'; cases ho'; exact hall) k (hdl i hin k hk).2))
    have hlk := inv.looks ho hin hiu' hall (hdl i hin) (hlook i hin o ho) hnd
    have hw := wanted_congr (ops := ops) o hlk
    have hex := exec_congr (ops := ops) o (fun cs b => hsel i o cs b ho) hlk
    have hnext : ∀ v w', G w w' → Spec i ((dl.getD i []).map V) v w' → wpAny P .any ops Q (f + g) (listed.setIfInBounds i true) (a.put o.dst v) w' := fun v w' hg hs =>
      ih _ _ _ _ (by have := left_set (n := n) hin (by rw [inv.head.size]; exact hilt) hiu'; omega) (inv.step hG ho hin hiu' hi hdl hnd stable hg hs)
    unfold StepOk at hso
    rw [← hw] at hso
    unfold wpOp
    simp only [ho]
    by_cases hwt : Region.wanted o (yielded ops a.tmps) = true
    · rw [if_pos hwt] at hso ⊢
      refine .inl ?_
      unfold GrowAt at hso
      unfold Oper.wp
      rw [← hex] at hso
      generalize (execOp a.eval o).run P w = r at hso
      cases r with
      | halt x w' => exact hso.elim
      | ok nx w' =>
        cases nx with
        | value v => exact hnext v w' hso.1 hso.2
        | skip => exact hnext undef w' hso.1 hso.2
        | enter fn args =>
          refine hso.2.mono ?_
          rintro e w'' ⟨v, rfl, h1, h2⟩
          exact hnext v w'' (hG.trans hso.1 h1) h2
        | _ => exact hso.elim
    · rw [if_neg hwt] at hso ⊢
      exact hnext undef w (hG.refl _) hso
/-- **THE REGION**, by what each operation leaves -/
theorem region_spec {G : World → World → Prop} (hG : IsGr G) {id : Nat} {l : List Oper} {w : World} {a0 : Act} {Q : Exit → Act → World → Prop} (n : Nat) (dl : List (List Nat)) (hm : P.follows .mixedOrders = true) (hB : shapeB l.toArray n dl = true)
    (Spec : Nat → List Value → Value → World → Prop) (stable : ∀ i L v w w', Spec i L v w → G w w' → Spec i L v w')
    (step : ∀ i o V w', l[i]? = some o → i < n → G w w' → (∀ k ∈ dl.getD i [], Spec k ((dl.getD k []).map V) (V k) w') → StepOk G P l.toArray o (canon l.toArray V a0 (dl.getD i [])) w' (Spec i ((dl.getD i []).map V)))
    (fin : ∀ V w', G w w' → (∀ k, k < n → Spec k ((dl.getD k []).map V) (V k) w') → wpList P l.toArray Q (l.drop n) (canon l.toArray V a0 (List.range n)) w') :
    (Code.region id l.toArray true).wp P Q a0 w := by
  simp only [shapeB, Bool.and_eq_true, decide_eq_true_eq, Bool.or_eq_true] at hB
  obtain ⟨⟨⟨⟨⟨hsel, hn⟩, hdlen⟩, hsink⟩, hall⟩, hseq⟩ := hB
  rw [List.all_eq_true] at hall
  have hops : ∀ i, i < n → ∃ o, l.toArray[i]? = some o ∧ (∀ e ∈ o.after, Region.binds .any e = true → e.on < i) ∧ (∀ k ∈ dl.getD i [], k < n ∧ k ∈ depsOf l.toArray n i) ∧
      (∀ k, k < n → ∀ d, dstOf l.toArray k = some d → (d ∈ o.looksAt l.toArray → k ∈ dl.getD i [] ∨ i ∈ depsOf l.toArray n k ∨ i = k) ∧ (k ≠ i → dstOf l.toArray i ≠ some d)) := by
    intro i hi
    have h := hall i (List.mem_range.2 hi)
    cases ho : l.toArray[i]? with
    | none => rw [ho] at h; cases h
    | some o =>
      rw [ho] at h
      simp only [Bool.and_eq_true, List.all_eq_true] at h
      obtain ⟨⟨h1, h2⟩, h3⟩ := h
      refine ⟨o, rfl, fun e he hb => ?_, fun k hk => ?_, fun k hk d hd => ?_⟩
      · have := h1 e (by simpa using he)
        rw [hb] at this; simpa using this
      · have := h2 k hk
        simpa using this
      · have := h3 k (List.mem_range.2 hk)
        rw [hd] at this
        simp only [Bool.and_eq_true, Bool.or_eq_true, Bool.not_eq_true', beq_iff_eq, decide_eq_true_eq, List.contains_iff_mem] at this
        refine ⟨fun hm => ?_, fun hne => ?_⟩
        · rcases this.1 with ((h | h) | h) | h
          · rw [show (o.looksAt l.toArray).contains d = true from List.contains_iff_mem.2 hm] at h; cases h
          · exact .inl h
          · exact .inr (.inl h)
          · exact .inr (.inr h)
        · rcases this.2 with h | h
          · exact absurd h hne
          · exact h
  have hnd : ∀ j k, j < n → k < n → j ≠ k → ∀ d, dstOf l.toArray k = some d → dstOf l.toArray j ≠ some d := fun j k hj hk hne d hd => by
    obtain ⟨o, _, _, _, h⟩ := hops j hj
    exact (h k hk d hd).2 (fun e => hne e.symm)
  refine wp_region_any hm ?_
  have inv0 : Inv G l.toArray n dl Spec a0 w (fun _ => undef) (Array.replicate l.toArray.size false) a0 { w with drawn := w.drawn + 1 } :=
    ⟨⟨by simp, fun j oj _ hl => (by rw [getD_replicate_false] at hl; cases hl), fun t _ ht => getD_in (by simpa using ht) (getD_replicate_false _ _)⟩, rfl, rfl,
      fun k _ hl => (by rw [getD_replicate_false] at hl; cases hl), fun _ _ => rfl, fun k _ hl => (by rw [getD_replicate_false] at hl; cases hl), hG.drew _⟩
  have hleft : left n (Array.replicate l.toArray.size false) = n := by
    unfold left
    rw [List.filter_eq_self.2 (fun i _ => by rw [getD_replicate_false]; rfl)]
    simp
  have := head_all hG (P := P) (Q := Q) (Spec := Spec) (dl := dl) (a0 := a0) (w0 := w) (l.toArray.size - n) (Region.noSelect_spec hsel) hn (by rcases hsink with h | h; exact .inl h; exact .inr h)
    (fun i hi o ho e he hb => by obtain ⟨o', ho', h1, _⟩ := hops i hi; rw [ho] at ho'; cases ho'; exact h1 e he hb)
    (fun j hj => by obtain ⟨_, _, _, h, _⟩ := hops j hj; exact h)
    (fun i hi o ho k hk d hd => by obtain ⟨o', ho', _, _, h⟩ := hops i hi; rw [ho] at ho'; cases ho'; exact ⟨(h k hk d hd).1, trivial⟩)
    hnd stable (fun i o V w' ho => step i o V w' (by simpa using ho)) ?_ n _ _ _ _ hleft inv0
  · rwa [show n + (l.toArray.size - n) = l.toArray.size by omega] at this
  · intro V listed a w' inv hl
    have hld : listed = ((List.range l.toArray.size).map (fun i => decide (i < n))).toArray := by
      apply Array.ext
      · rw [inv.head.size]; simp
      · intro i h1 h2
        have hi : i < l.toArray.size := by rw [inv.head.size] at h1; exact h1
        have e2 : ((List.range l.toArray.size).map (fun i => decide (i < n))).toArray[i] = decide (i < n) := by simp
        rw [e2]
        by_cases hin : i < n
        · have := hl i hin
          simp only [hin, decide_true]
          simpa [h1] using this
        · have := inv.head.tail i (by omega) hi
          simp only [hin, decide_false]
          simpa [h1] using this
    have hact : a = canon l.toArray V a0 (List.range n) := by
      have ht : a.tmps = (canon l.toArray V a0 (List.range n)).tmps := by
        apply Array.ext_getElem?
        intro d
        by_cases hlt : d < a0.tmps.size
        · by_cases hex : ∃ k, k < n ∧ dstOf l.toArray k = some d
          · obtain ⟨k, hk, hd⟩ := hex
            rw [inv.slot k hk (hl k hk) d hd hlt, canon_in V hd _ _ (List.mem_range.2 hk) (fun j hj hjk => hnd j k (List.mem_range.1 hj) hk hjk d hd) hlt]
          · rw [inv.other d (fun k hk _ e => hex ⟨k, hk, e⟩), canon_out V _ _ (fun k hk e => hex ⟨k, List.mem_range.1 hk, e⟩)]
        · have e1 : a.tmps[d]? = none := Array.getElem?_eq_none (by rw [inv.size]; exact Nat.le_of_not_lt hlt)
          have e2 : (canon l.toArray V a0 (List.range n)).tmps[d]? = none := Array.getElem?_eq_none (by rw [size_canon]; exact Nat.le_of_not_lt hlt)
          rw [e1, e2]
      have hdf : a.defers = (canon l.toArray V a0 (List.range n)).defers := by rw [inv.defers, defers_canon]
      obtain ⟨t, d⟩ := a
      generalize canon l.toArray V a0 (List.range n) = b at ht hdf
      obtain ⟨t', d'⟩ := b
      dsimp only at ht hdf
      rw [ht, hdf]
    have hf := fin V w' inv.gr (fun k hk => inv.spec k hk (hl k hk))
    rw [← hact] at hf
    have hdl : (l.drop n).length = l.toArray.size - n := by simp
    have hsq := wpAny_of_seq (P := P) (md := .any) (Q' := Q) (l.drop n) n listed a w' (fun j => by simp [List.getElem?_drop]) (by rw [hdl, hld]; exact hseq) hf
    rwa [hdl] at hsq
/-- what an operation's operand holds: the value of an operation that it knows of, else what the slot held -/
def GrowL (G : World → World → Prop) (P : Program) (o : Oper) (ρ : Operand → Value) (w : World) (Φ : Value → World → Prop) : Prop :=
  match (execOp ρ o).run P w with
  | .ok (.value v) w' => G w w' ∧ Φ v w'
  | .ok .skip w' => G w w' ∧ Φ undef w'
  | .ok (.enter f args) w' => G w w' ∧ Calls P f args w' (fun e w'' => ∃ v, e = .returned v ∧ G w' w'' ∧ Φ v w'')
  | _ => False
theorem GrowL.value {G : World → World → Prop} {o : Oper} {ρ : Operand → Value} {w w' : World} {v : Value} {Φ : Value → World → Prop} (h : (execOp ρ o).run P w = .ok (.value v) w') (hg : G w w') (hv : Φ v w') : GrowL G P o ρ w Φ := by
  unfold GrowL; rw [h]; exact ⟨hg, hv⟩
theorem GrowL.call {G : World → World → Prop} (hG : IsGr G) {o : Oper} {ρ : Operand → Value} {w : World} {Φ : Value → World → Prop} {f : FuncId} {args : Array Value} (h : (execOp ρ o).run P w = .ok (.enter f args) w) (hc : Calls P f args w (fun e w'' => ∃ v, e = .returned v ∧ G w w'' ∧ Φ v w'')) : GrowL G P o ρ w Φ := by
  unfold GrowL; rw [h]; exact ⟨hG.refl _, hc⟩
/-- each operation by what it leaves, which may be told of what the others left -/
def genSteps (G : World → World → Prop) (P : Program) (ds : List (Option Nat)) (a0 : Act) (w : World) (dl0 : List (List Nat)) (Sp : Nat → List Value → Value → World → Prop) : List Oper → Nat → List (List Nat) → Prop
  | o :: l, i, d :: dl => (∀ (V : Nat → Value) w', G w w' → (∀ k ∈ d, Sp k ((dl0.getD k []).map V) (V k) w') → if wantB o V = true then GrowL G P o (Rs.look ds V a0 d) w' (Sp i (d.map V)) else Sp i (d.map V) undef w') ∧ genSteps G P ds a0 w dl0 Sp l (i + 1) dl
  | _, _, _ => True
theorem genSteps_get {G : World → World → Prop} {ds : List (Option Nat)} {a0 : Act} {w : World} {dl0 : List (List Nat)} {Sp : Nat → List Value → Value → World → Prop} : ∀ (l : List Oper) (i : Nat) (dl : List (List Nat)), genSteps G P ds a0 w dl0 Sp l i dl → ∀ (j : Nat) (o : Oper) (d : List Nat), l[j]? = some o → dl[j]? = some d →
    ∀ (V : Nat → Value) w', G w w' → (∀ k ∈ d, Sp k ((dl0.getD k []).map V) (V k) w') → if wantB o V = true then GrowL G P o (Rs.look ds V a0 d) w' (Sp (i + j) (d.map V)) else Sp (i + j) (d.map V) undef w'
  | [], _, _, _, j, o, d, ho, _ => by simp at ho
  | _ :: _, _, [], _, j, o, d, _, hd => by simp at hd
  | o' :: l, i, d' :: dl, h, 0, o, d, ho, hd => by simp at ho hd; subst ho; subst hd; exact h.1
  | o' :: l, i, d' :: dl, h, j + 1, o, d, ho, hd => by
    have := genSteps_get l (i + 1) dl h.2 j o d (by simpa using ho) (by simpa using hd)
    rwa [show i + (j + 1) = i + 1 + j by omega]
/-- **A region by what each of its first operations leaves**, in whatever order. -/
theorem region_gen {G : World → World → Prop} (hG : IsGr G) {id : Nat} {l : List Oper} {w : World} {a0 : Act} {Q : Exit → Act → World → Prop} (n : Nat) (dl : List (List Nat)) (ds : List (Option Nat)) (Sp : Nat → List Value → Value → World → Prop) (hm : P.follows .mixedOrders = true) (hB : shapeB l.toArray n dl = true) (hS : slotsB l.toArray n a0.tmps.size dl ds = true)
    (stable : ∀ i L v w w', Sp i L v w → G w w' → Sp i L v w')
    (step : genSteps G P ds a0 w dl Sp l 0 dl)
    (fin : ∀ V w', G w w' → (∀ k, k < n → Sp k ((dl.getD k []).map V) (V k) w') → wpList P l.toArray Q (l.drop n) (canon l.toArray V a0 (List.range n)) w') :
    (Code.region id l.toArray true).wp P Q a0 w := by
  have hB' := hB
  simp only [shapeB, Bool.and_eq_true, decide_eq_true_eq] at hB'
  obtain ⟨⟨⟨⟨⟨hsel, hn⟩, hdlen⟩, _⟩, hall⟩, _⟩ := hB'
  rw [List.all_eq_true] at hall
  unfold slotsB at hS
  rw [List.all_eq_true] at hS
  have hdst : ∀ i, i < n → dstOf l.toArray i = ds.getD i none ∧ ∀ d, dstOf l.toArray i = some d → d < a0.tmps.size := fun i hi => by
    have h := hS i (List.mem_range.2 hi)
    simp only [Bool.and_eq_true, beq_iff_eq] at h
    refine ⟨h.1.1, fun d hd => ?_⟩
    have h2 := h.1.2
    rw [← h.1.1, hd] at h2
    simpa using h2
  refine region_spec hG n dl hm hB Sp stable (fun i o V w' ho hi hg hs => ?_) fin
  have hst := genSteps_get l 0 dl step i o (dl.getD i []) ho (by simp [List.getElem?_eq_getElem (show i < dl.length by omega)]) V w' hg hs
  rw [Nat.zero_add] at hst
  have hio := hall i (List.mem_range.2 hi)
  have hoo : l.toArray[i]? = some o := by simpa using ho
  rw [hoo] at hio
  simp only [Bool.and_eq_true, List.all_eq_true] at hio
  obtain ⟨⟨_, h2⟩, h3⟩ := hio
  have hdl : ∀ k ∈ dl.getD i [], k < n := fun k hk => by have := h2 k hk; simp only [Bool.and_eq_true, decide_eq_true_eq] at this; exact this.1
  have hnd : ∀ j k, j < n → k < n → j ≠ k → ∀ d, dstOf l.toArray k = some d → dstOf l.toArray j ≠ some d := fun j k hj hk hne d hd => by
    have h := hall j (List.mem_range.2 hj)
    cases hoj : l.toArray[j]? with
    | none => rw [hoj] at h; cases h
    | some oj =>
      rw [hoj] at h
      simp only [Bool.and_eq_true, List.all_eq_true] at h
      have := h.2 k (List.mem_range.2 hk)
      rw [hd] at this
      simp only [Bool.and_eq_true, Bool.or_eq_true, beq_iff_eq, decide_eq_true_eq] at this
      rcases this.2 with h | h
      · exact absurd h.symm hne
      · exact h
  have hslot : ∀ t, (canon l.toArray V a0 (dl.getD i [])).eval (.tmp t) = Rs.look ds V a0 (dl.getD i []) (.tmp t) := fun t => by
    unfold Rs.look
    simp only
    split
    · rename_i k hk
      have hkm := List.mem_of_find?_eq_some hk
      have hkd := List.find?_some hk
      simp only [beq_iff_eq] at hkd
      have hkn := hdl k hkm
      have e : dstOf l.toArray k = some t := by rw [(hdst k hkn).1]; exact hkd
      have := canon_in (ops := l.toArray) V e (dl.getD i []) a0 hkm (fun j hj hjk => hnd j k (hdl j hj) hkn hjk t e) ((hdst k hkn).2 t e)
      simp only [Act.eval, Array.getD_eq_getD_getElem?, this, Option.getD_some]
    · rename_i hk
      have hno : ∀ k ∈ dl.getD i [], dstOf l.toArray k ≠ some t := fun k hkm e => by
        have := List.find?_eq_none.1 hk k hkm
        rw [(hdst k (hdl k hkm)).1] at e
        rw [e] at this; exact this (by simp)
      have := canon_out (ops := l.toArray) V (d := t) (dl.getD i []) a0 hno
      simp only [Act.eval, Array.getD_eq_getD_getElem?, this]
  have hex : execOp (canon l.toArray V a0 (dl.getD i [])).eval o = execOp (Rs.look ds V a0 (dl.getD i [])) o :=
    execOp_congr o (fun c b => Region.noSelect_spec hsel i o c b hoo) fun x _ => by
      cases x with
      | tmp t => exact hslot t
      | _ => rfl
  have hwant : Region.wanted o (yielded l.toArray (canon l.toArray V a0 (dl.getD i [])).tmps) = wantB o V := by
    unfold Region.wanted wantB
    cases hgd : o.guard with
    | none => rfl
    | some gb =>
      obtain ⟨g, b⟩ := gb
      have h := hS i (List.mem_range.2 hi)
      rw [hoo] at h
      simp only [Option.bind_some, hgd, Bool.and_eq_true, List.contains_iff_mem] at h
      obtain ⟨hgm, hgs⟩ := h.2
      obtain ⟨t, ht⟩ := Option.isSome_iff_exists.1 hgs
      have hgn := hdl g hgm
      have hv := canon_in (ops := l.toArray) V ht (dl.getD i []) a0 hgm (fun j hj hjk => hnd j g (hdl j hj) hgn hjk t ht) ((hdst g hgn).2 t ht)
      have hy : yielded l.toArray (canon l.toArray V a0 (dl.getD i [])).tmps g = match V g with | .bool x => some x | _ => none := by
        unfold yielded
        unfold dstOf at ht
        simp only [ht, Option.bind_some, hv]
        cases V g <;> rfl
      simp only [hy]
      cases V g <;> simp
  unfold StepOk
  rw [hwant]
  by_cases hw : wantB o V = true
  · rw [if_pos hw] at hst ⊢
    unfold GrowL at hst
    unfold GrowAt
    rw [hex]
    exact hst
  · rw [if_neg hw] at hst ⊢
    exact hst
end main
end Go.Proofs.Ytimedmkpenbmkaa.Rg
end
section
namespace Go.Proofs.Ytimedmkpenbmkaa.Rk
set_option linter.unusedSimpArgs false
set_option linter.unusedVariables false
open Go Go.RowKit Go.Proofs.Ytimedmkpenbmkaa.Rs
open Go.Proofs.Ytimedmkpenbmkaa.Rg (IsGr)
variable {P : Program} {ops : Array Oper}
/-- what an operation leaves, where it only adds to the memory -/
def GrowAt (G : World → World → Prop) (P : Program) (o : Oper) (a : Act) (w : World) (Φ : Value → World → Prop) : Prop :=
  match (execOp a.eval o).run P w with
  | .ok (.value v) w' => G w w' ∧ Φ v w'
  | .ok .skip w' => G w w' ∧ Φ undef w'
  | .ok (.enter f args) w' => w' = w ∧ Calls P f args w' (fun e w'' => ∃ v, e = .returned v ∧ G w w'' ∧ Φ v w'')
  | _ => False
/-- what is asked of one operation -/
def StepOk (G : World → World → Prop) (P : Program) (ops : Array Oper) (o : Oper) (a : Act) (w : World) (Φ : Value → World → Prop) : Prop :=
  if Region.wanted o (yielded ops a.tmps) = true then GrowAt G P o a w Φ else Φ undef w
section main
variable {n : Nat} {dl : List (List Nat)} {a0 : Act} {w0 : World} {Q : Exit → Act → World → Prop}
structure Inv (G : World → World → Prop) (j0 : Nat) (ops : Array Oper) (n : Nat) (dl : List (List Nat)) (Spec : Nat → Bool → List Value → Value → World → Prop) (a0 : Act) (w0 : World) (V : Nat → Value) (listed : Array Bool) (a : Act) (w : World) : Prop where
  head : HeadInv .any ops n listed
  size : a.tmps.size = a0.tmps.size
  defers : a.defers = a0.defers
  slot : ∀ k, k < n → listed.getD k false = true → ∀ d, dstOf ops k = some d → d < a0.tmps.size → a.tmps[d]? = some (V k)
  other : ∀ d, (∀ k, k < n → listed.getD k false = true → dstOf ops k ≠ some d) → a.tmps[d]? = a0.tmps[d]?
  spec : ∀ k, k < n → listed.getD k false = true → Spec k (listed.getD j0 false) ((dl.getD k []).map V) (V k) w
  gr : G w0 w
theorem Inv.looks {G : World → World → Prop} {j0 : Nat} {Spec : Nat → Bool → List Value → Value → World → Prop} {V : Nat → Value} {listed : Array Bool} {a : Act} {w : World} (inv : Inv G j0 ops n dl Spec a0 w0 V listed a w) {i : Nat} {o : Oper} (hi : ops[i]? = some o) (_hin : i < n) (hiu : listed.getD i false = false)
    (hr : ∀ e ∈ o.after, Region.binds .any e = true → listed.getD e.on false = true)
    (hdl : ∀ k ∈ dl.getD i [], k < n ∧ k ∈ depsOf ops n i)
    (hlook : ∀ k, k < n → ∀ d, dstOf ops k = some d → (d ∈ o.looksAt ops → k ∈ dl.getD i [] ∨ i ∈ depsOf ops n k ∨ i = k) ∧ True)
    (hnd : ∀ j k, j < n → k < n → j ≠ k → ∀ d, dstOf ops k = some d → dstOf ops j ≠ some d) :
    ∀ d ∈ o.looksAt ops, a.tmps[d]? = (canon ops V a0 (dl.getD i [])).tmps[d]? := by
  intro d hd
  have hdep : ∀ k ∈ dl.getD i [], listed.getD k false = true := fun k hk => depsOf_listed inv.head.closed n i (fun o' ho' => by rw [hi] at ho'; cases ho'; exact hr) k (hdl k hk).2
  by_cases hlt : d < a0.tmps.size
  · by_cases hex : ∃ k, k ∈ dl.getD i [] ∧ dstOf ops k = some d
    · obtain ⟨k, hk, hkd⟩ := hex
      rw [inv.slot k (hdl k hk).1 (hdep k hk) d hkd hlt, canon_in V hkd _ _ hk (fun j hj hjk => hnd j k (hdl j hj).1 (hdl k hk).1 hjk d hkd) hlt]
    · rw [canon_out V _ _ (fun k hk e => hex ⟨k, hk, e⟩)]
      refine inv.other d (fun k hk hl e => ?_)
      rcases (hlook k hk d e).1 hd with h | h | h
      · exact hex ⟨k, h, e⟩
      · have := depsOf_listed inv.head.closed n k (fun o' ho' e' he' hb' => inv.head.closed k o' ho' hl e' he' hb') i h
        rw [hiu] at this; cases this
      · subst h; rw [hiu] at hl; cases hl
  · have e1 : a.tmps[d]? = none := Array.getElem?_eq_none (by rw [inv.size]; exact Nat.le_of_not_lt hlt)
    have e2 : (canon ops V a0 (dl.getD i [])).tmps[d]? = none := Array.getElem?_eq_none (by rw [size_canon]; exact Nat.le_of_not_lt hlt)
    rw [e1, e2]
theorem Inv.step {G : World → World → Prop} {j0 : Nat} (hG : IsGr G) {Spec : Nat → Bool → List Value → Value → World → Prop} {V : Nat → Value} {listed : Array Bool} {a : Act} {w w' : World} (inv : Inv G j0 ops n dl Spec a0 w0 V listed a w) {i : Nat} {o : Oper} {v : Value} (hi : ops[i]? = some o) (hin : i < n) (hiu : listed.getD i false = false)
    (hri : i ∈ Region.ready .any ops listed)
    (hdl : ∀ j, j < n → ∀ k ∈ dl.getD j [], k < n ∧ k ∈ depsOf ops n j)
    (hnd : ∀ j k, j < n → k < n → j ≠ k → ∀ d, dstOf ops k = some d → dstOf ops j ≠ some d)
    (stable : ∀ k L v, Spec k (listed.getD j0 false) L v w → Spec k (listed.getD j0 false || i == j0) L v w')
    (hg : G w w') (hs : Spec i (listed.getD j0 false || i == j0) ((dl.getD i []).map V) v w') :
    Inv G j0 ops n dl Spec a0 w0 (fun k => if k = i then v else V k) (listed.setIfInBounds i true) (a.put o.dst v) w' := by
  have hisz : i < listed.size := by rw [inv.head.size]; exact (Array.getElem?_eq_some_iff.1 hi).1
  have hdst : dstOf ops i = o.dst := by simp [dstOf, hi]
  have hdep : ∀ k, k < n → (k = i ∨ listed.getD k false = true) → ∀ j ∈ dl.getD k [], j ≠ i := fun k hk hkl j hj e => by
    have hm := (hdl k hk j hj).2
    rw [e] at hm
    have : listed.getD i false = true := by
      rcases hkl with rfl | hkl
      · obtain ⟨_, o', ho', hall⟩ := mem_ready.1 hri
        exact depsOf_listed inv.head.closed n k (fun o'' ho'' => by rw [ho'] at ho''; cases ho''; exact hall) k hm
      · exact depsOf_listed inv.head.closed n k (fun o' ho' e' he' hb' => inv.head.closed k o' ho' hkl e' he' hb') i hm
    rw [hiu] at this; cases this
  have hmap : ∀ k, k < n → (k = i ∨ listed.getD k false = true) → (dl.getD k []).map (fun k => if k = i then v else V k) = (dl.getD k []).map V := fun k hk hkl =>
    List.map_congr_left fun j hj => by rw [if_neg (hdep k hk hkl j hj)]
  have hj0 : (listed.setIfInBounds i true).getD j0 false = (listed.getD j0 false || i == j0) := by
    by_cases e : i = j0
    · subst e; simp [hisz]
    · rw [getD_set_ne false e]; simp [e]
  refine ⟨inv.head.set hri hin, ?_, ?_, fun k hk hl d hd hlt => ?_, fun d hd => ?_, fun k hk hl => ?_, hG.trans inv.gr hg⟩
  · rw [← inv.size]; cases o.dst <;> simp [Act.put]
  · rw [← inv.defers]; cases o.dst <;> rfl
  · by_cases hki : k = i
    · subst hki
      rw [hdst] at hd
      rw [if_pos rfl, hd]
      simp [Act.put, inv.size, hlt]
    · rw [if_neg hki]
      rw [getD_set_ne false (fun e => hki e.symm)] at hl
      rw [← inv.slot k hk hl d hd hlt]
      cases ho : o.dst with
      | none => rfl
      | some d' =>
        simp only [Act.put]
        exact Array.getElem?_setIfInBounds_ne (fun e => hnd i k hin hk (fun e => hki e.symm) d hd (by rw [hdst, ho, e]))
  · have h1 : dstOf ops i ≠ some d := hd i hin (by simp [hisz])
    rw [hdst] at h1
    rw [← inv.other d (fun k hk hl e => by
      by_cases hki : k = i
      · subst hki; exact h1 (by rw [← hdst]; exact e)
      · exact hd k hk (by rw [getD_set_ne false (fun e => hki e.symm)]; exact hl) e)]
    cases ho : o.dst with
    | none => rfl
    | some d' => simp only [Act.put]; exact Array.getElem?_setIfInBounds_ne (fun e => h1 (by rw [ho, e]))
  · by_cases hki : k = i
    · subst hki
      rw [hmap k hk (.inl rfl), hj0]
      simp only [if_true]
      exact hs
    · rw [getD_set_ne false (fun e => hki e.symm)] at hl
      rw [hmap k hk (.inr hl), hj0]
      simp only [if_neg hki]
      exact stable _ _ _ (inv.spec k hk hl)
theorem head_all {G : World → World → Prop} {j0 : Nat} {Gi : Nat → World → World → Prop} (hG : IsGr G) (hA : ∀ i a b, Gi i a b → G a b) (hRf : ∀ i a, Gi i a a) {Spec : Nat → Bool → List Value → Value → World → Prop} (g : Nat)
    (hsel : ∀ (j : Nat) (o : Oper) cs b, ops[j]? = some o → o.op ≠ .select cs b) (hn : n ≤ ops.size)
    (hsink : n = ops.size ∨ (Region.sinkB .any ops n = true ∧ Region.chainB .any ops n = true))
    (hlow : ∀ i, i < n → ∀ o, ops[i]? = some o → ∀ e ∈ o.after, Region.binds .any e = true → e.on < i)
    (hdl : ∀ j, j < n → ∀ k ∈ dl.getD j [], k < n ∧ k ∈ depsOf ops n j)
    (hlook : ∀ i, i < n → ∀ o, ops[i]? = some o → ∀ k, k < n → ∀ d, dstOf ops k = some d → (d ∈ o.looksAt ops → k ∈ dl.getD i [] ∨ i ∈ depsOf ops n k ∨ i = k) ∧ True)
    (hnd : ∀ j k, j < n → k < n → j ≠ k → ∀ d, dstOf ops k = some d → dstOf ops j ≠ some d)
    (stable : ∀ i c w w', (i = j0 → c = false) → Gi i w w' → ∀ k L v, Spec k c L v w → Spec k (c || i == j0) L v w')
    (step : ∀ i o V w c, ops[i]? = some o → i < n → G w0 w → (i = j0 → c = false) → (∀ k ∈ dl.getD i [], Spec k c ((dl.getD k []).map V) (V k) w) → StepOk (Gi i) P ops o (canon ops V a0 (dl.getD i [])) w (Spec i (c || i == j0) ((dl.getD i []).map V)))
    (fin : ∀ V listed a w, Inv G j0 ops n dl Spec a0 w0 V listed a w → (∀ k, k < n → listed.getD k false = true) → wpAny P .any ops Q g listed a w) :
    ∀ (f : Nat) (V : Nat → Value) (listed : Array Bool) (a : Act) (w : World), left n listed = f → Inv G j0 ops n dl Spec a0 w0 V listed a w → wpAny P .any ops Q (f + g) listed a w := by
  intro f
  induction f with
  | zero => intro V listed a w hf inv; rw [Nat.zero_add]; exact fin V listed a w inv (left_zero hf)
  | succ f ih =>
    intro V listed a w hf inv
    have hun : ∃ i, i < n ∧ listed.getD i false = false ∧ ∀ j, j < i → listed.getD j false = true := by
      have hex : ∃ i, i < n ∧ listed.getD i false = false := by
        apply Classical.byContradiction
        intro hno
        have : left n listed = 0 := by
          unfold left
          rw [List.length_eq_zero_iff, List.filter_eq_nil_iff]
          intro i hi
          cases hv : listed.getD i false with
          | true => simp
          | false => exact absurd ⟨i, List.mem_range.1 hi, hv⟩ hno
        omega
      obtain ⟨i, h1, h2⟩ := hex
      induction i using Nat.strongRecOn with
      | _ i ihi =>
        by_cases h3 : ∀ j, j < i → listed.getD j false = true
        · exact ⟨i, h1, h2, h3⟩
        · simp only [Classical.not_forall] at h3
          obtain ⟨j, hj, hj2⟩ := h3
          exact ihi j hj (by omega) (by simpa using hj2)
    obtain ⟨i0, hi0, hi0u, hi0m⟩ := hun
    have hready0 : i0 ∈ Region.ready .any ops listed := by
      rw [mem_ready]
      have hlt : i0 < ops.size := by omega
      refine ⟨getD_in (by rw [inv.head.size]; exact hlt) hi0u, ops[i0], Array.getElem?_eq_getElem hlt, fun e he hb => hi0m _ (hlow i0 hi0 _ (Array.getElem?_eq_getElem hlt) e he hb)⟩
    rw [show f + 1 + g = (f + g) + 1 by omega]
    refine ⟨fun h => (by rw [h] at hready0; cases hready0), fun i hi => ?_⟩
    obtain ⟨hiu, o, ho, hall⟩ := mem_ready.1 hi
    have hiu' := getD_both hiu
    have hilt : i < ops.size := (Array.getElem?_eq_some_iff.1 ho).1
    have hin : i < n := by
      rcases hsink with h | ⟨h1, h2⟩
      · omega
      · by_cases hns : n < ops.size
        · rcases Nat.lt_or_ge i n with h | h
          · exact h
          · exact absurd hi (tail_waits h1 h2 hns inv.head _ i0 rfl hi0 (getD_in (by rw [inv.head.size]; omega) hi0u) i h)
        · omega
    have hc0 : i = j0 → listed.getD j0 false = false := fun e => by rw [← e]; exact hiu'
    have hso := step i o V w (listed.getD j0 false) ho hin inv.gr hc0 (fun k hk => inv.spec k (hdl i hin k hk).1 (depsOf_listed inv.head.closed n i (fun o' ho' => by rw [ho] at ho'; cases ho'; exact hall) k (hdl i hin k hk).2))
    have hlk := inv.looks ho hin hiu' hall (hdl i hin) (hlook i hin o ho) hnd
    have hw := wanted_congr (ops := ops) o hlk
    have hex := exec_congr (ops := ops) o (fun cs b => hsel i o cs b ho) hlk
    have hnext : ∀ v w', Gi i w w' → Spec i (listed.getD j0 false || i == j0) ((dl.getD i []).map V) v w' → wpAny P .any ops Q (f + g) (listed.setIfInBounds i true) (a.put o.dst v) w' := fun v w' hg hs =>
      ih _ _ _ _ (by have := left_set (n := n) hin (by rw [inv.head.size]; exact hilt) hiu'; omega) (inv.step hG ho hin hiu' hi hdl hnd (stable i _ _ _ hc0 hg) (hA _ _ _ hg) hs)
    unfold StepOk at hso
    rw [← hw] at hso
    unfold wpOp
    simp only [ho]
    by_cases hwt : Region.wanted o (yielded ops a.tmps) = true
    · rw [if_pos hwt] at hso ⊢
      refine .inl ?_
      unfold GrowAt at hso
      unfold Oper.wp
      rw [← hex] at hso
      generalize (execOp a.eval o).run P w = r at hso
      cases r with
      | halt x w' => exact hso.elim
      | ok nx w' =>
        cases nx with
        | value v => exact hnext v w' hso.1 hso.2
        | skip => exact hnext undef w' hso.1 hso.2
        | enter fn args =>
          refine hso.2.mono ?_
          rintro e w'' ⟨v, rfl, h1, h2⟩
          exact hnext v w'' h1 h2
        | _ => exact hso.elim
    · rw [if_neg hwt] at hso ⊢
      exact hnext undef w (hRf _ _) hso
/-- **THE REGION**, by what each operation leaves -/
theorem region_spec {G : World → World → Prop} {j0 : Nat} {Gi : Nat → World → World → Prop} (hG : IsGr G) (hA : ∀ i a b, Gi i a b → G a b) (hRf : ∀ i a, Gi i a a) {id : Nat} {l : List Oper} {w : World} {a0 : Act} {Q : Exit → Act → World → Prop} (n : Nat) (dl : List (List Nat)) (hm : P.follows .mixedOrders = true) (hB : shapeB l.toArray n dl = true)
    (hj0 : j0 < n) (Spec : Nat → Bool → List Value → Value → World → Prop) (stable : ∀ i c w w', (i = j0 → c = false) → Gi i w w' → ∀ k L v, Spec k c L v w → Spec k (c || i == j0) L v w')
    (step : ∀ i o V w' c, l[i]? = some o → i < n → G w w' → (i = j0 → c = false) → (∀ k ∈ dl.getD i [], Spec k c ((dl.getD k []).map V) (V k) w') → StepOk (Gi i) P l.toArray o (canon l.toArray V a0 (dl.getD i [])) w' (Spec i (c || i == j0) ((dl.getD i []).map V)))
    (fin : ∀ V w', G w w' → (∀ k, k < n → Spec k true ((dl.getD k []).map V) (V k) w') → wpList P l.toArray Q (l.drop n) (canon l.toArray V a0 (List.range n)) w') :
    (Code.region id l.toArray true).wp P Q a0 w := by
  simp only [shapeB, Bool.and_eq_true, decide_eq_true_eq, Bool.or_eq_true] at hB
  obtain ⟨⟨⟨⟨⟨hsel, hn⟩, hdlen⟩, hsink⟩, hall⟩, hseq⟩ := hB
  rw [List.all_eq_true] at hall
  have hops : ∀ i, i < n → ∃ o, l.toArray[i]? = some o ∧ (∀ e ∈ o.after, Region.binds .any e = true → e.on < i) ∧ (∀ k ∈ dl.getD i [], k < n ∧ k ∈ depsOf l.toArray n i) ∧
      (∀ k, k < n → ∀ d, dstOf l.toArray k = some d → (d ∈ o.looksAt l.toArray → k ∈ dl.getD i [] ∨ i ∈ depsOf l.toArray n k ∨ i = k) ∧ (k ≠ i → dstOf l.toArray i ≠ some d)) := by
    intro i hi
    have h := hall i (List.mem_range.2 hi)
    cases ho : l.toArray[i]? with
    | none => rw [ho] at h; cases h
    | some o =>
      rw [ho] at h
      simp only [Bool.and_eq_true, List.all_eq_true] at h
      obtain ⟨⟨h1, h2⟩, h3⟩ := h
      refine ⟨o, rfl, fun e he hb => ?_, fun k hk => ?_, fun k hk d hd => ?_⟩
      · have := h1 e (by simpa using he)
        rw [hb] at this; simpa using this
      · have := h2 k hk
        simpa using this
      · have := h3 k (List.mem_range.2 hk)
        rw [hd] at this
        simp only [Bool.and_eq_true, Bool.or_eq_true, Bool.not_eq_true', beq_iff_eq, decide_eq_true_eq, List.contains_iff_mem] at this
        refine ⟨fun hm => ?_, fun hne => ?_⟩
        · rcases this.1 with ((h | h) | h) | h
          · rw [show (o.looksAt l.toArray).contains d = true from List.contains_iff_mem.2 hm] at h; cases h
          · exact .inl h
          · exact .inr (.inl h)
          · exact .inr (.inr h)
        · rcases this.2 with h | h
          · exact absurd h hne
          · exact h
  have hnd : ∀ j k, j < n → k < n → j ≠ k → ∀ d, dstOf l.toArray k = some d → dstOf l.toArray j ≠ some d := fun j k hj hk hne d hd => by
    obtain ⟨o, _, _, _, h⟩ := hops j hj
    exact (h k hk d hd).2 (fun e => hne e.symm)
  refine wp_region_any hm ?_
  have inv0 : Inv G j0 l.toArray n dl Spec a0 w (fun _ => undef) (Array.replicate l.toArray.size false) a0 { w with drawn := w.drawn + 1 } :=
    ⟨⟨by simp, fun j oj _ hl => (by rw [getD_replicate_false] at hl; cases hl), fun t _ ht => getD_in (by simpa using ht) (getD_replicate_false _ _)⟩, rfl, rfl,
      fun k _ hl => (by rw [getD_replicate_false] at hl; cases hl), fun _ _ => rfl, fun k _ hl => (by rw [getD_replicate_false] at hl; cases hl), hG.drew _⟩
  have hleft : left n (Array.replicate l.toArray.size false) = n := by
    unfold left
    rw [List.filter_eq_self.2 (fun i _ => by rw [getD_replicate_false]; rfl)]
    simp
  have := head_all hG hA hRf (P := P) (Q := Q) (Spec := Spec) (dl := dl) (a0 := a0) (w0 := w) (l.toArray.size - n) (Region.noSelect_spec hsel) hn (by rcases hsink with h | h; exact .inl h; exact .inr h)
    (fun i hi o ho e he hb => by obtain ⟨o', ho', h1, _⟩ := hops i hi; rw [ho] at ho'; cases ho'; exact h1 e he hb)
    (fun j hj => by obtain ⟨_, _, _, h, _⟩ := hops j hj; exact h)
    (fun i hi o ho k hk d hd => by obtain ⟨o', ho', _, _, h⟩ := hops i hi; rw [ho] at ho'; cases ho'; exact ⟨(h k hk d hd).1, trivial⟩)
    hnd stable (fun i o V w' c ho => step i o V w' c (by simpa using ho)) ?_ n _ _ _ _ hleft inv0
  · rwa [show n + (l.toArray.size - n) = l.toArray.size by omega] at this
  · intro V listed a w' inv hl
    have hld : listed = ((List.range l.toArray.size).map (fun i => decide (i < n))).toArray := by
      apply Array.ext
      · rw [inv.head.size]; simp
      · intro i h1 h2
        have hi : i < l.toArray.size := by rw [inv.head.size] at h1; exact h1
        have e2 : ((List.range l.toArray.size).map (fun i => decide (i < n))).toArray[i] = decide (i < n) := by simp
        rw [e2]
        by_cases hin : i < n
        · have := hl i hin
          simp only [hin, decide_true]
          simpa [h1] using this
        · have := inv.head.tail i (by omega) hi
          simp only [hin, decide_false]
          simpa [h1] using this
    have hact : a = canon l.toArray V a0 (List.range n) := by
      have ht : a.tmps = (canon l.toArray V a0 (List.range n)).tmps := by
        apply Array.ext_getElem?
        intro d
        by_cases hlt : d < a0.tmps.size
        · by_cases hex : ∃ k, k < n ∧ dstOf l.toArray k = some d
          · obtain ⟨k, hk, hd⟩ := hex
            rw [inv.slot k hk (hl k hk) d hd hlt, canon_in V hd _ _ (List.mem_range.2 hk) (fun j hj hjk => hnd j k (List.mem_range.1 hj) hk hjk d hd) hlt]
          · rw [inv.other d (fun k hk _ e => hex ⟨k, hk, e⟩), canon_out V _ _ (fun k hk e => hex ⟨k, List.mem_range.1 hk, e⟩)]
        · have e1 : a.tmps[d]? = none := Array.getElem?_eq_none (by rw [inv.size]; exact Nat.le_of_not_lt hlt)
          have e2 : (canon l.toArray V a0 (List.range n)).tmps[d]? = none := Array.getElem?_eq_none (by rw [size_canon]; exact Nat.le_of_not_lt hlt)
          rw [e1, e2]
      have hdf : a.defers = (canon l.toArray V a0 (List.range n)).defers := by rw [inv.defers, defers_canon]
      obtain ⟨t, d⟩ := a
      generalize canon l.toArray V a0 (List.range n) = b at ht hdf
      obtain ⟨t', d'⟩ := b
      dsimp only at ht hdf
      rw [ht, hdf]
    have hf := fin V w' inv.gr (fun k hk => by have := inv.spec k hk (hl k hk); rwa [hl j0 hj0] at this)
    rw [← hact] at hf
    have hdl : (l.drop n).length = l.toArray.size - n := by simp
    have hsq := wpAny_of_seq (P := P) (md := .any) (Q' := Q) (l.drop n) n listed a w' (fun j => by simp [List.getElem?_drop]) (by rw [hdl, hld]; exact hseq) hf
    rwa [hdl] at hsq
/-- what an operation's operand holds: the value of an operation that it knows of, else what the slot held -/
def GrowL (G : World → World → Prop) (P : Program) (o : Oper) (ρ : Operand → Value) (w : World) (Φ : Value → World → Prop) : Prop :=
  match (execOp ρ o).run P w with
  | .ok (.value v) w' => G w w' ∧ Φ v w'
  | .ok .skip w' => G w w' ∧ Φ undef w'
  | .ok (.enter f args) w' => w' = w ∧ Calls P f args w' (fun e w'' => ∃ v, e = .returned v ∧ G w w'' ∧ Φ v w'')
  | _ => False
theorem GrowL.value {G : World → World → Prop} {o : Oper} {ρ : Operand → Value} {w w' : World} {v : Value} {Φ : Value → World → Prop} (h : (execOp ρ o).run P w = .ok (.value v) w') (hg : G w w') (hv : Φ v w') : GrowL G P o ρ w Φ := by
  unfold GrowL; rw [h]; exact ⟨hg, hv⟩
theorem GrowL.call {G : World → World → Prop} {o : Oper} {ρ : Operand → Value} {w : World} {Φ : Value → World → Prop} {f : FuncId} {args : Array Value} (h : (execOp ρ o).run P w = .ok (.enter f args) w) (hc : Calls P f args w (fun e w'' => ∃ v, e = .returned v ∧ G w w'' ∧ Φ v w'')) : GrowL G P o ρ w Φ := by
  unfold GrowL; rw [h]; exact ⟨rfl, hc⟩
/-- each operation by what it leaves, which may be told of what the others left -/
def genSteps (G : World → World → Prop) (j0 : Nat) (Gi : Nat → World → World → Prop) (P : Program) (ds : List (Option Nat)) (a0 : Act) (w : World) (dl0 : List (List Nat)) (Sp : Nat → Bool → List Value → Value → World → Prop) : List Oper → Nat → List (List Nat) → Prop
  | o :: l, i, d :: dl => (∀ (V : Nat → Value) w' c, G w w' → (i = j0 → c = false) → (∀ k ∈ d, Sp k c ((dl0.getD k []).map V) (V k) w') → if wantB o V = true then GrowL (Gi i) P o (Rs.look ds V a0 d) w' (Sp i (c || i == j0) (d.map V)) else Sp i (c || i == j0) (d.map V) undef w') ∧ genSteps G j0 Gi P ds a0 w dl0 Sp l (i + 1) dl
  | _, _, _ => True
theorem genSteps_get {G : World → World → Prop} {j0 : Nat} {Gi : Nat → World → World → Prop} {ds : List (Option Nat)} {a0 : Act} {w : World} {dl0 : List (List Nat)} {Sp : Nat → Bool → List Value → Value → World → Prop} : ∀ (l : List Oper) (i : Nat) (dl : List (List Nat)), genSteps G j0 Gi P ds a0 w dl0 Sp l i dl → ∀ (j : Nat) (o : Oper) (d : List Nat), l[j]? = some o → dl[j]? = some d →
    ∀ (V : Nat → Value) w' c, G w w' → (i + j = j0 → c = false) → (∀ k ∈ d, Sp k c ((dl0.getD k []).map V) (V k) w') → if wantB o V = true then GrowL (Gi (i + j)) P o (Rs.look ds V a0 d) w' (Sp (i + j) (c || i + j == j0) (d.map V)) else Sp (i + j) (c || i + j == j0) (d.map V) undef w'
  | [], _, _, _, j, o, d, ho, _ => by simp at ho
  | _ :: _, _, [], _, j, o, d, _, hd => by simp at hd
  | o' :: l, i, d' :: dl, h, 0, o, d, ho, hd => by simp at ho hd; subst ho; subst hd; exact h.1
  | o' :: l, i, d' :: dl, h, j + 1, o, d, ho, hd => by
    have := genSteps_get l (i + 1) dl h.2 j o d (by simpa using ho) (by simpa using hd)
    rwa [show i + (j + 1) = i + 1 + j by omega]
/-- **A region by what each of its first operations leaves**, in whatever order. -/
theorem region_gen {G : World → World → Prop} (j0 : Nat) (Gi : Nat → World → World → Prop) (hG : IsGr G) (hA : ∀ i a b, Gi i a b → G a b) (hRf : ∀ i a, Gi i a a) {id : Nat} {l : List Oper} {w : World} {a0 : Act} {Q : Exit → Act → World → Prop} (n : Nat) (dl : List (List Nat)) (ds : List (Option Nat)) (hj0 : j0 < n) (Sp : Nat → Bool → List Value → Value → World → Prop) (hm : P.follows .mixedOrders = true) (hB : shapeB l.toArray n dl = true) (hS : slotsB l.toArray n a0.tmps.size dl ds = true)
    (stable : ∀ i c w w', (i = j0 → c = false) → Gi i w w' → ∀ k L v, Sp k c L v w → Sp k (c || i == j0) L v w')
    (step : genSteps G j0 Gi P ds a0 w dl Sp l 0 dl)
    (fin : ∀ V w', G w w' → (∀ k, k < n → Sp k true ((dl.getD k []).map V) (V k) w') → wpList P l.toArray Q (l.drop n) (canon l.toArray V a0 (List.range n)) w') :
    (Code.region id l.toArray true).wp P Q a0 w := by
  have hB' := hB
  simp only [shapeB, Bool.and_eq_true, decide_eq_true_eq] at hB'
  obtain ⟨⟨⟨⟨⟨hsel, hn⟩, hdlen⟩, _⟩, hall⟩, _⟩ := hB'
  rw [List.all_eq_true] at hall
  unfold slotsB at hS
  rw [List.all_eq_true] at hS
  have hdst : ∀ i, i < n → dstOf l.toArray i = ds.getD i none ∧ ∀ d, dstOf l.toArray i = some d → d < a0.tmps.size := fun i hi => by
    have h := hS i (List.mem_range.2 hi)
    simp only [Bool.and_eq_true, beq_iff_eq] at h
    refine ⟨h.1.1, fun d hd => ?_⟩
    have h2 := h.1.2
    rw [← h.1.1, hd] at h2
    simpa using h2
  refine region_spec hG hA hRf n dl hm hB hj0 Sp stable (fun i o V w' c ho hi hg hc hs => ?_) fin
  have hst := genSteps_get l 0 dl step i o (dl.getD i []) ho (by simp [List.getElem?_eq_getElem (show i < dl.length by omega)]) V w' c hg (by rw [Nat.zero_add]; exact hc) hs
  rw [Nat.zero_add] at hst
  have hio := hall i (List.mem_range.2 hi)
  have hoo : l.toArray[i]? = some o := by simpa using ho
  rw [hoo] at hio
  simp only [Bool.and_eq_true, List.all_eq_true] at hio
  obtain ⟨⟨_, h2⟩, h3⟩ := hio
  have hdl : ∀ k ∈ dl.getD i [], k < n := fun k hk => by have := h2 k hk; simp only [Bool.and_eq_true, decide_eq_true_eq] at this; exact this.1
  have hnd : ∀ j k, j < n → k < n → j ≠ k → ∀ d, dstOf l.toArray k = some d → dstOf l.toArray j ≠ some d := fun j k hj hk hne d hd => by
    have h := hall j (List.mem_range.2 hj)
    cases hoj : l.toArray[j]? with
    | none => rw [hoj] at h; cases h
    | some oj =>
      rw [hoj] at h
      simp only [Bool.and_eq_true, List.all_eq_true] at h
      have := h.2 k (List.mem_range.2 hk)
      rw [hd] at this
      simp only [Bool.and_eq_true, Bool.or_eq_true, beq_iff_eq, decide_eq_true_eq] at this
      rcases this.2 with h | h
      · exact absurd h.symm hne
      · exact h
  have hslot : ∀ t, (canon l.toArray V a0 (dl.getD i [])).eval (.tmp t) = Rs.look ds V a0 (dl.getD i []) (.tmp t) := fun t => by
    unfold Rs.look
    simp only
    split
    · rename_i k hk
      have hkm := List.mem_of_find?_eq_some hk
      have hkd := List.find?_some hk
      simp only [beq_iff_eq] at hkd
      have hkn := hdl k hkm
      have e : dstOf l.toArray k = some t := by rw [(hdst k hkn).1]; exact hkd
      have := canon_in (ops := l.toArray) V e (dl.getD i []) a0 hkm (fun j hj hjk => hnd j k (hdl j hj) hkn hjk t e) ((hdst k hkn).2 t e)
      simp only [Act.eval, Array.getD_eq_getD_getElem?, this, Option.getD_some]
    · rename_i hk
      have hno : ∀ k ∈ dl.getD i [], dstOf l.toArray k ≠ some t := fun k hkm e => by
        have := List.find?_eq_none.1 hk k hkm
        rw [(hdst k (hdl k hkm)).1] at e
        rw [e] at this; exact this (by simp)
      have := canon_out (ops := l.toArray) V (d := t) (dl.getD i []) a0 hno
      simp only [Act.eval, Array.getD_eq_getD_getElem?, this]
  have hex : execOp (canon l.toArray V a0 (dl.getD i [])).eval o = execOp (Rs.look ds V a0 (dl.getD i [])) o :=
    execOp_congr o (fun c b => Region.noSelect_spec hsel i o c b hoo) fun x _ => by
      cases x with
      | tmp t => exact hslot t
      | _ => rfl
  have hwant : Region.wanted o (yielded l.toArray (canon l.toArray V a0 (dl.getD i [])).tmps) = wantB o V := by
    unfold Region.wanted wantB
    cases hgd : o.guard with
    | none => rfl
    | some gb =>
      obtain ⟨g, b⟩ := gb
      have h := hS i (List.mem_range.2 hi)
      rw [hoo] at h
      simp only [Option.bind_some, hgd, Bool.and_eq_true, List.contains_iff_mem] at h
      obtain ⟨hgm, hgs⟩ := h.2
      obtain ⟨t, ht⟩ := Option.isSome_iff_exists.1 hgs
      have hgn := hdl g hgm
      have hv := canon_in (ops := l.toArray) V ht (dl.getD i []) a0 hgm (fun j hj hjk => hnd j g (hdl j hj) hgn hjk t ht) ((hdst g hgn).2 t ht)
      have hy : yielded l.toArray (canon l.toArray V a0 (dl.getD i [])).tmps g = match V g with | .bool x => some x | _ => none := by
        unfold yielded
        unfold dstOf at ht
        simp only [ht, Option.bind_some, hv]
        cases V g <;> rfl
      simp only [hy]
      cases V g <;> simp
  unfold StepOk
  rw [hwant]
  by_cases hw : wantB o V = true
  · rw [if_pos hw] at hst ⊢
    unfold GrowL at hst
    unfold GrowAt
    rw [hex]
    exact hst
  · rw [if_neg hw] at hst ⊢
    exact hst
end main
end Go.Proofs.Ytimedmkpenbmkaa.Rk
end
section
namespace Go.Proofs.Ytimedmkpenbmkaa
open Go.RowKit Go.Shelf
set_option linter.unusedSimpArgs false
set_option linter.unusedVariables false
theorem firstE_or (l : List (Nat × List Bool)) : firstE l = 0 ∨ firstE l = 6 := by
  rw [firstE_eq]; split
  · exact .inr rfl
  · exact .inl rfl
theorem mem_housesOf {t : Hr.Town} {wind voice : Int} {s h : Nat} : (h : Int) ∈ housesOf t wind voice s ↔ h < t.len ∧ t.at h = 1 ∧ hearB t wind voice h s = true := by
  unfold housesOf housesTo
  rw [List.mem_map]
  constructor
  · rintro ⟨p, hp, e⟩
    obtain rfl : p = h := by omega
    rw [List.mem_filter, List.mem_range, Bool.and_eq_true, beq_iff_eq] at hp
    exact ⟨hp.1, hp.2.1, hp.2.2⟩
  · rintro ⟨a, b, c⟩
    exact ⟨h, by rw [List.mem_filter, List.mem_range, Bool.and_eq_true, beq_iff_eq]; exact ⟨a, b, c⟩, rfl⟩
theorem only_iff {t : Hr.Town} {wind voice : Int} {h p : Nat} : onlyB p (ears t wind voice h) = true ↔ ∀ s, s < 30 → hearB t wind voice h s = decide (s = p) := by
  unfold onlyB onlyL
  rw [decide_eq_true_iff]
  constructor
  · intro e s hs
    have h1 : (ears t wind voice h)[s]? = some (hearB t wind voice h s) := by unfold ears; simp [hs]
    rw [e, List.getElem?_set] at h1
    by_cases hps : p = s
    · subst hps
      simp [hs] at h1
      simp [← h1]
    · rw [if_neg hps, List.getElem?_replicate, if_pos hs] at h1
      injection h1 with h1
      rw [← h1]
      simp [Ne.symm hps]
  · intro e
    apply List.ext_getElem?
    intro s
    by_cases hs : s < 30
    · have h1 : (ears t wind voice h)[s]? = some (hearB t wind voice h s) := by unfold ears; simp [hs]
      rw [h1, e s hs, List.getElem?_set]
      by_cases hps : p = s
      · subst hps; simp [hs]
      · rw [if_neg hps, List.getElem?_replicate, if_pos hs]; simp [Ne.symm hps]
    · rw [List.getElem?_eq_none (by unfold ears; simp; omega), List.getElem?_eq_none (by simp; omega)]
theorem mem_mustTo {l : List (Nat × List Bool)} {k p : Nat} : (p : Int) ∈ mustTo l k ↔ p < k ∧ ∃ x ∈ l, onlyB p x.2 = true := by
  unfold mustTo
  rw [List.mem_map]
  constructor
  · rintro ⟨q, hq, e⟩
    obtain rfl : q = p := by omega
    rw [List.mem_filter, List.mem_range] at hq
    have := hq.2
    unfold anyTo at this
    rw [List.take_length, List.any_eq_true] at this
    exact ⟨hq.1, this⟩
  · rintro ⟨a, b⟩
    refine ⟨p, ?_, rfl⟩
    rw [List.mem_filter, List.mem_range]
    refine ⟨a, ?_⟩
    unfold anyTo
    rw [List.take_length, List.any_eq_true]
    exact b
theorem below_isGr (B : Nat) : Rg.IsGr (fun a b => Below B a b) where
  refl w := Below.refl _ _
  drew w := (Below.refl _ _).drew
  trans h k := h.trans k
end Go.Proofs.Ytimedmkpenbmkaa
end
section
namespace Go.Proofs.Ytimedmkpenbmkaa
open Go.RowKit Go.Shelf
set_option linter.unusedSimpArgs false
set_option linter.unusedVariables false
def mixTo (us es : List Bool) (k : Nat) : List Bool := (List.range 30).map fun s => us.getD s false || (decide (s < k) && es.getD s false)
def clashTo (us es : List Bool) (k : Nat) : Bool := (List.range k).any fun s => us.getD s false && es.getD s false
theorem clash_next (us es : List Bool) (k : Nat) : clashTo us es (k + 1) = (clashTo us es k || (us.getD k false && es.getD k false)) := by
  unfold clashTo; rw [List.range_succ, List.any_append]; simp
theorem mix_zero {us : List Bool} (es : List Bool) (h : us.length = 30) : mixTo us es 0 = us := by
  apply List.ext_getElem?
  intro s
  unfold mixTo
  by_cases hs : s < 30
  · simp [hs, h]
  · rw [List.getElem?_eq_none (by simp; omega), List.getElem?_eq_none (by omega)]
theorem mix_len (us es : List Bool) (k : Nat) : (mixTo us es k).length = 30 := by unfold mixTo; simp
theorem mix_get (us es : List Bool) (k : Nat) {s : Nat} (hs : s < 30) : (mixTo us es k).getD s false = (us.getD s false || (decide (s < k) && es.getD s false)) := by
  unfold mixTo; rw [List.getD_eq_getElem?_getD]; simp [hs]
theorem mix_set (us es : List Bool) {k : Nat} (hk : k < 30) : (mixTo us es k).set k (us.getD k false || es.getD k false) = mixTo us es (k + 1) := by
  apply List.ext_getElem?
  intro s
  rw [List.getElem?_set]
  unfold mixTo
  by_cases e : k = s
  · subst e; simp [hk]
  · by_cases hs : s < 30
    · have : decide (s < k + 1) = decide (s < k) := by congr 1; apply propext; omega
      simp [e, hs, this]
    · rw [if_neg e, List.getElem?_eq_none (by simp; omega), List.getElem?_eq_none (by simp; omega)]
theorem results_row_tmp {fn : Func} {p u : Tmp} (h : fn.results = #[.cell p 128, .tmp u]) (tmps : Array Value) (w : World) (g : Nat) (t : TypeId) (cs : Array Value) (fr : Nat × Nat)
    (hp : tmps.getD p undef = .pointer (some ⟨g, 0, none⟩)) (hg : w.heap[g]? = some (.cells cs t fr)) (hi : (Try.prog.info? 128).map (·.size) = some cs.size) :
    (results fn tmps).run Try.prog w = .ok (.tuple #[.agg cs, tmps.getD u undef]) w := by
  rw [results_cell_tmp h, hp]
  simp [asAddr, Result.andThen, run_loadVar_row w g t 128 cs fr _ hg und128 rfl hi]
theorem bools_all (l : List Bool) : (l.map Value.bool).toArray.all (·.oneCell') = true := by
  rw [Array.all_eq_true]
  intro i hi
  simp
  rfl
theorem bools_size {l : List Bool} (h : l.length = 30) : (Try.prog.info? 128).map (·.size) = some (l.map Value.bool).toArray.size := by rw [List.size_toArray, List.length_map, h]; exact size128
theorem clash_go {us es : List Bool} {k : Nat} (hk : k < 30) (h : clashTo us es (k + 1) = true) : clashTo us es 30 = true := by
  unfold clashTo at *
  rw [List.any_eq_true] at h ⊢
  obtain ⟨s, hs, h⟩ := h
  exact ⟨s, List.mem_range.2 (by have := List.mem_range.1 hs; omega), h⟩
set_option maxHeartbeats 2000000 in
set_option maxRecDepth 100000 in
theorem together_any (us es : List Bool) (hu : us.length = 30) (he : es.length = 30) (w : World) :
    Calls Try.prog 146 #[.agg (us.map Value.bool).toArray, .agg (es.map Value.bool).toArray] w fun e w' =>
      e = .returned (if clashTo us es 30 then .tuple #[.agg ((List.replicate 30 false).map Value.bool).toArray, .bool false] else .tuple #[.agg ((mixTo us es 30).map Value.bool).toArray, .bool true]) ∧ Below w.heap.size w w' := by
  obtain ⟨A, hA⟩ : ∃ A, A = (if clashTo us es 30 then .tuple #[.agg ((List.replicate 30 false).map Value.bool).toArray, .bool false] else .tuple #[.agg ((mixTo us es 30).map Value.bool).toArray, .bool true] : Value) := ⟨_, rfl⟩
  rw [← hA]
  have HAQ := Lib.hid hA
  clear hA
  have hmz := mix_zero es hu
  obtain ⟨U, hU⟩ : ∃ U, U = us.map Value.bool := ⟨_, rfl⟩
  obtain ⟨Es, hEs⟩ : ∃ Es, Es = es.map Value.bool := ⟨_, rfl⟩
  have hEsz : (Try.prog.info? 128).map (·.size) = some Es.toArray.size := by rw [hEs, List.size_toArray, List.length_map, he]; exact size128
  have hr1 : ∀ o1 o3, (((w.alloc o1).alloc (.cells Es.toArray 128)).alloc o3).heap[w.heap.size + 1]? = some (.cells Es.toArray 128 (0, 0)) := fun o1 o3 => by
    rw [Below.heap_alloc _ _ _ (by simp)]; have := heap_alloc_last (w.alloc o1) (.cells Es.toArray 128); simpa using this
  have hr0 : ∀ o2 o3, (((w.alloc (.cells U.toArray 128)).alloc o2).alloc o3).heap[w.heap.size]? = some (.cells U.toArray 128 (0, 0)) := fun o2 o3 => by
    rw [Below.heap_alloc _ _ _ (by simp; omega), Below.heap_alloc _ _ _ (by simp)]; exact heap_alloc_last _ _
  have HR1 := Lib.hid hr1
  have HR0 := Lib.hid hr0
  have HEZ := Lib.hid hEsz
  have HU := Lib.hid hU
  have HES := Lib.hid hEs
  have HMZ := Lib.hid hmz
  rw [← hU, ← hEs]
  clear hU hEs hEsz hr1 hr0 hmz
  go_enter Try.func146, Try.ntmps146
  go_wp2_with (with_reducible refine wpList_load_row rfl 128 _ rfl (w.heap.size + 1) rfl 128 Es.toArray (0, 0) _ (HR1.out _ _) und128 rfl HEZ.out ?_)
  obtain ⟨W0, hW0⟩ : ∃ W0 : World, W0 = ((w.alloc (Obj.cells U.toArray 128)).alloc (Obj.cells Es.toArray 128)).alloc (.cells ((List.replicate 30 false).map Value.bool).toArray 128) := ⟨_, rfl⟩
  have hb0 : Below w.heap.size w W0 := by rw [hW0]; exact al (al (al (Below.refl _ _) _) _) _
  have hz0 : W0.heap[w.heap.size + 1 + 1]? = some (.cells ((List.replicate 30 false).map Value.bool).toArray 128 (0, 0)) := by
    rw [hW0]; have := heap_alloc_last ((w.alloc (Obj.cells U.toArray 128)).alloc (Obj.cells Es.toArray 128)) (.cells ((List.replicate 30 false).map Value.bool).toArray 128); simpa using this
  have hu0 : W0.heap[w.heap.size]? = some (.cells ((mixTo us es 0).map Value.bool).toArray 128 (0, 0)) := by rw [hW0, HMZ.out, ← HU.out]; exact HR0.out _ _
  have hsw : ((w.alloc (Obj.cells U.toArray 128)).alloc (Obj.cells Es.toArray 128)).alloc (.cells #[Value.bool false, Value.bool false, Value.bool false, Value.bool false, Value.bool false, Value.bool false,
          Value.bool false, Value.bool false, Value.bool false, Value.bool false, Value.bool false, Value.bool false,
          Value.bool false, Value.bool false, Value.bool false, Value.bool false, Value.bool false, Value.bool false,
          Value.bool false, Value.bool false, Value.bool false, Value.bool false, Value.bool false, Value.bool false,
          Value.bool false, Value.bool false, Value.bool false, Value.bool false, Value.bool false, Value.bool false] 128) = W0 := by rw [hW0]; rfl
  rw [hsw]
  have HB0 := Lib.hid hb0
  have HZ0 := Lib.hid hz0
  have HU0 := Lib.hid hu0
  clear hW0 hb0 hz0 hu0 hsw HR1 HR0 HMZ
  go_loopw [9] (fun i wr => ∃ k : Nat, k ≤ 30 ∧ i = .int .i64 k ∧ wr.heap[w.heap.size]? = some (.cells ((mixTo us es k).map Value.bool).toArray 128 (0, 0)) ∧ wr.heap[w.heap.size + 1 + 1]? = some (.cells ((List.replicate 30 false).map Value.bool).toArray 128 (0, 0)) ∧ clashTo us es k = false ∧ Below w.heap.size w wr) (fun i _ => 30 - (intOf i).toNat)
  case atStart => exact ⟨0, by omega, rfl, HU0.out, HZ0.out, rfl, HB0.out⟩
  case round =>
    obtain ⟨k, hk, rfl, hrow, hzr, hcl, hB⟩ := hrel
    obtain ⟨wk, rfl⟩ : ∃ wk : World, wk = wr := ⟨_, rfl⟩
    have HROW := Lib.hid hrow
    have HZR := Lib.hid hzr
    have HCL := Lib.hid hcl
    have HB := Lib.hid hB
    have hzl := (Array.getElem?_eq_some_iff.1 hzr).1
    have hrl := (Array.getElem?_eq_some_iff.1 hrow).1
    clear hrow hzr hcl hB
    by_cases hlt : k < 30
    · have hlt' : (k : Int) < 30 := by omega
      obtain ⟨e, hee⟩ : ∃ e, e = es.getD k false := ⟨_, rfl⟩
      obtain ⟨u, huu⟩ : ∃ u, u = us.getD k false := ⟨_, rfl⟩
      have hix : Es[k]? = some (.bool e) := by
        rw [HES.out, List.getElem?_map, hee, List.getD_eq_getElem?_getD, List.getElem?_eq_getElem (by omega)]; rfl
      have hcell : wk.cell? ⟨w.heap.size, k, none⟩ = some (.bool u) := by
        rw [cell_of_row _ _ _ _ _ _ HROW.out]
        have := mix_get us es k hlt
        rw [show decide (k < k) = false by simp, Bool.false_and, Bool.or_false, ← huu, List.getD_eq_getElem?_getD] at this
        have hl : k < (mixTo us es k).length := by rw [mix_len]; exact hlt
        rw [List.getElem?_eq_getElem hl] at this
        simp [List.getElem?_eq_getElem hl]
        simpa using this
      have hfz := frozen_of_row wk w.heap.size k _ _ HROW.out
      have hset := mix_set us es hlt
      have hcn := clash_next us es k
      rw [← hee, ← huu] at hset hcn
      rw [HCL.out] at hcn
      have HSET := Lib.hid hset
      have HCN := Lib.hid hcn
      have hEl : Es.length = 30 := by rw [HES.out, List.length_map]; exact he
      have hyi : ∀ W, (Instr.index 128 (.agg Es.toArray) (.int .i64 (k : Int))).run Try.prog W = .ok (.bool e) W := fun W => idx_arr und128 agg4 siz4 hlt (by rw [List.getElem?_toArray]; exact hix) W
      clear hset hcn hee huu hix hEl
      have hthere : wk.there (w.heap.size + 1 + 1) 0 ((List.replicate 30 false).map Value.bool).toArray.size := fun j hj => by
        rw [Nat.zero_add, cell_of_row _ _ _ _ _ _ HZR.out, frozen_of_row _ _ _ _ _ HZR.out]
        exact ⟨by simp at hj ⊢; exact hj, rfl⟩
      have HTH := Lib.hid hthere
      have HZI := Lib.hid (bools_size (l := List.replicate 30 false) (by simp))
      have HZA := Lib.hid (bools_all (List.replicate 30 false))
      have hne : w.heap.size + 1 + 1 ≠ w.heap.size := by omega
      clear hthere
      cases e <;> cases u
      case true.true =>
        have HC30 := Lib.hid (clash_go hlt HCN.out)
        go_wp2_with (with_reducible refine wpList_store_mid rfl 128 _ _ rfl (w.heap.size + 1 + 1) 0 ((List.replicate 30 false).map Value.bool).toArray rfl rfl HTH.out HZI.out HZA.out ?_)
        have hh : (wk.setCells (w.heap.size + 1 + 1) 0 ((List.replicate 30 false).map Value.bool).toArray.toList).heap[w.heap.size + 1 + 1]? = some (.cells ((List.replicate 30 false).map Value.bool).toArray 128 (0, 0)) := by
          rw [heap_setCells _ _ _ _ _ _ _ HZR.out, setFrom_all _ _ (by simp)]
        refine bodyPost_ret (results_row_tmp rfl _ _ (w.heap.size + 1 + 1) 128 _ (0, 0) rfl hh HZI.out) rfl ⟨?_, below_setCells' (by omega) _ _ _ HB.out⟩
        rw [HAQ.out, if_pos HC30.out]; rfl
      all_goals
        go_wp2_with fail
        refine ⟨⟨k + 1, by omega, by simp, ?_, (Below.heap_setCell _ _ _ _ hne).trans HZR.out, HCN.out, setc HB.out (Nat.le_refl _)⟩, ?_⟩
        · rw [heap_set_same _ HROW.out, ← HSET.out, List.map_set, List.setIfInBounds_toArray]; rfl
        · simp [intOf]; omega
    · obtain rfl : k = 30 := by omega
      have HMI := Lib.hid (bools_size (mix_len us es 30))
      have hthere : wk.there (w.heap.size + 1 + 1) 0 ((mixTo us es 30).map Value.bool).toArray.size := fun j hj => by
        rw [Nat.zero_add, cell_of_row _ _ _ _ _ _ HZR.out, frozen_of_row _ _ _ _ _ HZR.out]
        exact ⟨by simp [mix_len] at hj ⊢; exact hj, rfl⟩
      have HTH := Lib.hid hthere
      have HMA := Lib.hid (bools_all (mixTo us es 30))
      clear hthere
      go_wp2_with (first
        | (with_reducible refine wpList_load_row rfl 128 _ rfl w.heap.size rfl 128 ((mixTo us es 30).map Value.bool).toArray (0, 0) _ HROW.out und128 rfl HMI.out ?_)
        | (with_reducible refine wpList_store_mid rfl 128 _ _ rfl (w.heap.size + 1 + 1) 0 ((mixTo us es 30).map Value.bool).toArray rfl rfl HTH.out HMI.out HMA.out ?_))
      have hh : (wk.setCells (w.heap.size + 1 + 1) 0 ((mixTo us es 30).map Value.bool).toArray.toList).heap[w.heap.size + 1 + 1]? = some (.cells ((mixTo us es 30).map Value.bool).toArray 128 (0, 0)) := by
        rw [heap_setCells _ _ _ _ _ _ _ HZR.out, setFrom_all _ _ (by simp [mix_len])]
      refine bodyPost_ret (results_row_tmp rfl _ _ (w.heap.size + 1 + 1) 128 _ (0, 0) rfl hh HMI.out) rfl ⟨?_, below_setCells' (by omega) _ _ _ HB.out⟩
      rw [HAQ.out, if_neg (by rw [HCL.out]; simp)]; rfl
end Go.Proofs.Ytimedmkpenbmkaa
end
section
namespace Go.Proofs.Ytimedmkpenbmkaa
open Go.RowKit Go.Shelf
set_option linter.unusedSimpArgs false
set_option linter.unusedVariables false
theorem and_bit (n i : Nat) : (n &&& 2 ^ i ≠ 0) ↔ n.testBit i = true := by
  constructor
  · intro h
    obtain ⟨j, hj⟩ : ∃ j, (n &&& 2 ^ i).testBit j = true := by
      false_or_by_contra
      rename_i hn
      exact h (Nat.eq_of_testBit_eq fun j => by
        cases hb : (n &&& 2 ^ i).testBit j
        · simp
        · exact absurd ⟨j, hb⟩ hn)
    rw [Nat.testBit_and, Nat.testBit_two_pow, Bool.and_eq_true, decide_eq_true_iff] at hj
    obtain ⟨h1, rfl⟩ := hj
    exact h1
  · intro h e
    have : (n &&& 2 ^ i).testBit i = true := by rw [Nat.testBit_and, Nat.testBit_two_pow, h]; simp
    rw [e] at this; simp at this
theorem srv_bit (cs : List Crowd) (s : Nat) : ∀ k i, (srv cs s k).testBit i = (decide (i < k) && (cs.getD i ([], 0)).1.getD s false)
  | 0, i => by simp [srv]
  | k + 1, i => by
    have ih := srv_bit cs s k i
    rw [srv]
    by_cases hik : k = i
    · subst hik
      split
      · rename_i h
        rw [Nat.testBit_or, ih, Nat.testBit_two_pow, h]; simp
      · rename_i h
        rw [ih]; simp at h ⊢; simp [h]
    · have e : decide (i < k + 1) = decide (i < k) := by congr 1; apply propext; omega
      split
      · rw [Nat.testBit_or, ih, Nat.testBit_two_pow, e]; simp [hik]
      · rw [ih, e]
/-- the crowds that hear one of some stands -/
def covS (cs : List Crowd) : List Nat → Nat
  | [] => 0
  | s :: S => srv cs s cs.length ||| covS cs S
/-- how many houses hear one of some stands -/
def valS (cs : List Crowd) (S : List Nat) : Int := mny cs (covS cs S) cs.length
def hit (S : List Nat) (e : List Bool) : Bool := S.any fun s => e.getD s false
theorem cov_bit (cs : List Crowd) : ∀ (S : List Nat) (i : Nat), (covS cs S).testBit i = (decide (i < cs.length) && hit S (cs.getD i ([], 0)).1)
  | [], i => by simp [covS, hit]
  | s :: S, i => by
    rw [covS, Nat.testBit_or, srv_bit, cov_bit cs S i]
    unfold hit
    rw [List.any_cons, Bool.and_or_distrib_left]
theorem cov_app (cs : List Crowd) : ∀ (A B : List Nat), covS cs (A ++ B) = covS cs A ||| covS cs B
  | [], B => by simp [covS]
  | a :: A, B => by rw [List.cons_append, covS, covS, cov_app cs A B, Nat.or_assoc]
theorem hit_congr {S T : List Nat} (h : ∀ s, s ∈ S ↔ s ∈ T) (e : List Bool) : hit S e = hit T e := by
  unfold hit
  rw [Bool.eq_iff_iff, List.any_eq_true, List.any_eq_true]
  constructor
  · rintro ⟨s, h1, h2⟩; exact ⟨s, (h s).1 h1, h2⟩
  · rintro ⟨s, h1, h2⟩; exact ⟨s, (h s).2 h1, h2⟩
theorem cov_congr (cs : List Crowd) {S T : List Nat} (h : ∀ s, s ∈ S ↔ s ∈ T) : covS cs S = covS cs T :=
  Nat.eq_of_testBit_eq fun i => by rw [cov_bit, cov_bit, hit_congr h]
def sumP (p : List Bool → Bool) : List Crowd → Int
  | [] => 0
  | c :: r => (if p c.1 then c.2 else 0) + sumP p r
theorem sumP_app (p : List Bool → Bool) : ∀ (a b : List Crowd), sumP p (a ++ b) = sumP p a + sumP p b
  | [], b => by simp [sumP]
  | c :: a, b => by rw [List.cons_append, sumP, sumP, sumP_app p a b]; omega
theorem mny_cov (cs : List Crowd) (S : List Nat) : ∀ k, k ≤ cs.length → mny cs (covS cs S) k = sumP (hit S) (cs.take k)
  | 0, _ => by simp [mny, sumP]
  | k + 1, hk => by
    have hg : cs.getD k ([], 0) = cs[k]'(by omega) := by rw [List.getD_eq_getElem?_getD, List.getElem?_eq_getElem (by omega)]; rfl
    rw [mny, mny_cov cs S k (by omega), List.take_succ_eq_append_getElem (by omega), sumP_app]
    have hb := cov_bit cs S k
    have hd : decide (k < cs.length) = true := by simp; omega
    rw [hd, Bool.true_and, hg] at hb
    rw [hg]
    by_cases h : hit S (cs[k]'(by omega)).1 = true
    · rw [if_pos ((and_bit _ _).2 (by rw [hb, h]))]; simp [sumP, h]
    · rw [if_neg (fun e => h (by rw [← hb]; exact (and_bit _ _).1 e))]; simp [sumP, h]
theorem sumP_add (p : List Bool → Bool) (e : List Bool) : ∀ (cs : List Crowd), sumP p (addCrowd cs e) = sumP p cs + if p e then 1 else 0
  | [] => by simp [addCrowd, sumP]
  | c :: r => by
    unfold addCrowd
    split
    · rename_i h
      rw [sumP, sumP, ← h]
      simp only
      split <;> omega
    · rw [sumP, sumP, sumP_add p e r]; omega
theorem sumP_to (p : List Bool → Bool) : ∀ (l : List (Nat × List Bool)) (cs : List Crowd), sumP p (crowdsTo cs l) = sumP p cs + (l.filter fun x => p x.2).length
  | [], cs => by simp [crowdsTo]
  | x :: l, cs => by
    have : crowdsTo cs (x :: l) = crowdsTo (addCrowd cs x.2) l := rfl
    rw [this, sumP_to p l, sumP_add, List.filter_cons]
    split <;> simp <;> omega
/-- how many houses of a list hear one of some stands -/
def cntS (l : List (Nat × List Bool)) (S : List Nat) : Nat := (l.filter fun x => hit S x.2).length
theorem val_cnt (l : List (Nat × List Bool)) (S : List Nat) : valS (crowdsP l) S = cntS l S := by
  unfold valS
  rw [mny_cov _ _ _ (Nat.le_refl _), List.take_length]
  unfold crowdsP
  rw [sumP_to]
  simp [sumP, cntS]
def mstK (cs : List Crowd) (set k : Nat) : Int := (mstL cs set).getD k 0
theorem fold_zero (cs : List Crowd) (set : Nat) : ∀ (ms : List Nat) (b : List Int), b.length = 11 → (ms.foldl (stepM cs set) b).getD 0 0 = b.getD 0 0
  | [], b, _ => rfl
  | m :: ms, b, hb => by
    rw [List.foldl_cons, fold_zero cs set ms _ (stepM_len hb m)]
    unfold stepM
    split
    · rfl
    · rw [bump_get (thn := mstL cs (set ||| m)) hb (mst_len _ _ _) (by omega), if_pos rfl]
theorem fold_succ (cs : List Crowd) (set k : Nat) (hk : k < 10) (x : Int) : ∀ (ms : List Nat) (b : List Int), b.length = 11 → ((ms.foldl (stepM cs set) b).getD (k + 1) 0 ≤ x ↔ b.getD (k + 1) 0 ≤ x ∧ ∀ m ∈ ms, set ||| m ≠ set → mstK cs (set ||| m) k ≤ x)
  | [], b, _ => by simp
  | m :: ms, b, hb => by
    rw [List.foldl_cons, fold_succ cs set k hk x ms _ (stepM_len hb m)]
    have h1 : (stepM cs set b m).getD (k + 1) 0 ≤ x ↔ b.getD (k + 1) 0 ≤ x ∧ (set ||| m ≠ set → mstK cs (set ||| m) k ≤ x) := by
      unfold stepM
      split
      · rename_i h
        constructor
        · intro h2; exact ⟨h2, fun h3 => absurd h h3⟩
        · intro h2; exact h2.1
      · rename_i h
        rw [bump_get (thn := mstL cs (set ||| m)) hb (mst_len _ _ _) (by omega), if_neg (by omega), Nat.add_sub_cancel]
        unfold mstK
        constructor
        · intro h2; exact ⟨by omega, fun _ => by omega⟩
        · intro h2; have := h2.2 h; omega
    rw [h1]
    constructor
    · rintro ⟨⟨a, b⟩, c⟩
      refine ⟨a, fun m' hm => ?_⟩
      rcases List.mem_cons.1 hm with rfl | hm
      · exact b
      · exact c m' hm
    · rintro ⟨a, b⟩
      exact ⟨⟨a, b m (by simp)⟩, fun m' hm => b m' (by simp [hm])⟩
theorem mstK_zero (cs : List Crowd) (set : Nat) : mstK cs set 0 = mny cs set cs.length := by
  unfold mstK
  rw [mstL_eq, fold_zero _ _ _ _ (by simp), getD_rep _ (by omega)]
theorem mstK_succ (cs : List Crowd) (set k : Nat) (hk : k < 10) (x : Int) : mstK cs set (k + 1) ≤ x ↔ mny cs set cs.length ≤ x ∧ ∀ s, s < 30 → set ||| srv cs s cs.length ≠ set → mstK cs (set ||| srv cs s cs.length) k ≤ x := by
  have h : mstK cs set (k + 1) = ((srvs cs).foldl (stepM cs set) (List.replicate 11 (mny cs set cs.length))).getD (k + 1) 0 := by unfold mstK; rw [mstL_eq]
  rw [h, fold_succ cs set k hk x _ _ (by simp), getD_rep _ (by omega)]
  constructor
  · rintro ⟨a, b⟩
    exact ⟨a, fun s hs => b _ (List.mem_map.2 ⟨s, List.mem_range.2 hs, rfl⟩)⟩
  · rintro ⟨a, b⟩
    refine ⟨a, fun m hm => ?_⟩
    obtain ⟨s, hs, rfl⟩ := List.mem_map.1 hm
    exact b s (List.mem_range.1 hs)
theorem miss_lt {cs : List Crowd} {set s : Nat} (h : set ||| srv cs s cs.length ≠ set) : missing cs (set ||| srv cs s cs.length) < missing cs set := missing_lt (srv_lt _ _ _) h
theorem mst_ge (cs : List Crowd) : ∀ n set, missing cs set < n → ∀ S : List Nat, (∀ s ∈ S, s < 30) → ∀ k, S.length ≤ k → k ≤ 10 → mny cs (set ||| covS cs S) cs.length ≤ mstK cs set k
  | 0, _, h => absurd h (by omega)
  | n + 1, set, h => by
    intro S
    induction S with
    | nil =>
      intro _ k _ hk
      rw [show set ||| covS cs [] = set by simp [covS]]
      match k with
      | 0 => rw [mstK_zero]; exact Int.le_refl _
      | k + 1 => exact ((mstK_succ cs set k (by omega) _).1 (Int.le_refl _)).1
    | cons s S ih =>
      intro hs k hl hk
      have e : set ||| covS cs (s :: S) = (set ||| srv cs s cs.length) ||| covS cs S := by rw [covS, Nat.or_assoc]
      rw [e]
      by_cases ha : set ||| srv cs s cs.length = set
      · rw [ha]
        exact ih (fun x hx => hs x (by simp [hx])) k (by rw [List.length_cons] at hl; omega) hk
      · match k, hl with
        | k + 1, hl =>
          have h1 := mst_ge cs n (set ||| srv cs s cs.length) (by have := miss_lt ha; omega) S (fun x hx => hs x (by simp [hx])) k (by rw [List.length_cons] at hl; omega) (by omega)
          exact Int.le_trans h1 (((mstK_succ cs set k (by omega) _).1 (Int.le_refl _)).2 s (hs s (by simp)) ha)
theorem mst_ex (cs : List Crowd) : ∀ n set, missing cs set < n → ∀ k, k ≤ 10 → ∃ S : List Nat, (∀ s ∈ S, s < 30) ∧ S.length ≤ k ∧ mny cs (set ||| covS cs S) cs.length = mstK cs set k
  | 0, _, h => absurd h (by omega)
  | n + 1, set, h => by
    intro k hk
    match k with
    | 0 => exact ⟨[], by simp, by simp, by rw [mstK_zero]; simp [covS]⟩
    | k + 1 =>
      have h1 := (mstK_succ cs set k (by omega) _).1 (Int.le_refl _)
      have h2 : ¬ (mstK cs set (k + 1) ≤ mstK cs set (k + 1) - 1) := by omega
      rw [mstK_succ cs set k (by omega)] at h2
      by_cases h3 : mny cs set cs.length ≤ mstK cs set (k + 1) - 1
      · obtain ⟨s, hs, hne, hv⟩ : ∃ s, s < 30 ∧ set ||| srv cs s cs.length ≠ set ∧ ¬ mstK cs (set ||| srv cs s cs.length) k ≤ mstK cs set (k + 1) - 1 := by
          false_or_by_contra
          rename_i hn
          refine h2 ⟨h3, fun s hs hne => ?_⟩
          false_or_by_contra
          rename_i hv
          exact hn ⟨s, hs, hne, hv⟩
        obtain ⟨S, a, b, c⟩ := mst_ex cs n (set ||| srv cs s cs.length) (by have := miss_lt hne; omega) k (by omega)
        refine ⟨s :: S, fun x hx => ?_, by simp; omega, ?_⟩
        · rcases List.mem_cons.1 hx with rfl | hx
          · exact hs
          · exact a x hx
        · rw [covS, ← Nat.or_assoc, c]
          have := h1.2 s hs hne
          omega
      · exact ⟨[], by simp, by simp, by have := h1.1; simp [covS]; omega⟩
theorem mst0_ge (cs : List Crowd) {S : List Nat} (hS : ∀ s ∈ S, s < 30) {k : Nat} (hk : S.length ≤ k) (hk2 : k ≤ 10) : valS cs S ≤ mstK cs 0 k := by
  have := mst_ge cs _ 0 (Nat.lt_succ_self _) S hS k hk hk2
  rwa [Nat.zero_or] at this
theorem mst0_ex (cs : List Crowd) {k : Nat} (hk2 : k ≤ 10) : ∃ S : List Nat, (∀ s ∈ S, s < 30) ∧ S.length ≤ k ∧ valS cs S = mstK cs 0 k := by
  obtain ⟨S, a, b, c⟩ := mst_ex cs _ 0 (Nat.lt_succ_self _) k hk2
  rw [Nat.zero_or] at c
  exact ⟨S, a, b, c⟩
theorem mst0_mono (cs : List Crowd) {j k : Nat} (h : j ≤ k) (hk : k ≤ 10) : mstK cs 0 j ≤ mstK cs 0 k := by
  obtain ⟨S, a, b, c⟩ := mst0_ex cs (show j ≤ 10 by omega)
  rw [← c]
  exact mst0_ge cs a (by omega) hk
theorem cov_small (cs : List Crowd) : ∀ (S : List Nat) (set : Nat), ∃ T : List Nat, (∀ s ∈ T, s ∈ S) ∧ T.length ≤ missing cs set ∧ T.length ≤ S.length ∧ set ||| covS cs T = set ||| covS cs S
  | [], set => ⟨[], by simp, by simp, by simp, rfl⟩
  | s :: S, set => by
    have e : set ||| covS cs (s :: S) = (set ||| srv cs s cs.length) ||| covS cs S := by rw [covS, Nat.or_assoc]
    by_cases ha : set ||| srv cs s cs.length = set
    · obtain ⟨T, a, b, c, d⟩ := cov_small cs S set
      exact ⟨T, fun x hx => by simp [a x hx], b, by simp; omega, by rw [d, e, ha]⟩
    · obtain ⟨T, a, b, c, d⟩ := cov_small cs S (set ||| srv cs s cs.length)
      have := miss_lt ha
      refine ⟨s :: T, fun x hx => ?_, by simp; omega, by simp; omega, ?_⟩
      · rcases List.mem_cons.1 hx with rfl | hx
        · simp
        · simp [a x hx]
      · rw [e, ← d, covS, Nat.or_assoc]
theorem len_le_of_sub : ∀ {A B : List Nat}, A.Nodup → (∀ a ∈ A, a ∈ B) → A.length ≤ B.length
  | [], B, _, _ => by simp
  | a :: A, B, hn, hs => by
    rw [List.nodup_cons] at hn
    have h1 := len_le_of_sub (A := A) (B := B.erase a) hn.2 fun x hx => by
      have hne : x ≠ a := fun e => hn.1 (by rw [← e]; exact hx)
      exact (List.mem_erase_of_ne hne).2 (hs x (by simp [hx]))
    have h2 := hs a (by simp)
    rw [List.length_erase_of_mem h2] at h1
    have : 0 < B.length := List.length_pos_of_mem h2
    simp; omega
/-- the same stands in order -/
def normS (S : List Nat) : List Nat := (List.range 30).filter fun s => decide (s ∈ S)
theorem norm_mem {S : List Nat} (hS : ∀ s ∈ S, s < 30) (s : Nat) : s ∈ normS S ↔ s ∈ S := by
  unfold normS
  rw [List.mem_filter, List.mem_range, decide_eq_true_iff]
  exact ⟨fun h => h.2, fun h => ⟨hS s h, h⟩⟩
theorem norm_sorted (S : List Nat) : (normS S).Pairwise (· < ·) := List.Pairwise.filter _ List.pairwise_lt_range
theorem sorted_nodup {S : List Nat} (h : S.Pairwise (· < ·)) : S.Nodup := h.imp fun h => Nat.ne_of_lt h
theorem norm_len {S : List Nat} (hS : ∀ s ∈ S, s < 30) : (normS S).length ≤ S.length := len_le_of_sub (sorted_nodup (norm_sorted S)) fun s hs => (norm_mem hS s).1 hs
theorem few_spec (n : List Int) (s : Nat) : ∀ f k, k + f = s → ¬ (n.getD (fewF n s f k) 0 < n.getD s 0) ∧ ∀ j, k ≤ j → j < fewF n s f k → n.getD j 0 < n.getD s 0
  | 0, k, h => by
    rw [fewF]
    obtain rfl : k = s := by omega
    exact ⟨by omega, fun j h1 h2 => by omega⟩
  | f + 1, k, h => by
    rw [fewF]
    split
    · rename_i h1
      obtain ⟨a, b⟩ := few_spec n s f (k + 1) (by omega)
      refine ⟨a, fun j hj hj2 => ?_⟩
      by_cases e : j = k
      · subst e; exact h1
      · exact b j (by omega) hj2
    · rename_i h1
      exact ⟨h1, fun j h1 h2 => by omega⟩
theorem cap_min (cs : List Crowd) (st : Nat) : chCap cs st = min st (min 10 cs.length) := by
  unfold chCap leastL
  simp only [List.foldl_cons, List.foldl_nil]
  split <;> split <;> omega
theorem left_spec (cs : List Crowd) (st : Nat) : chLeft cs st ≤ chCap cs st ∧ mstK cs 0 (chLeft cs st) = chHouses cs st ∧ ∀ j, j < chLeft cs st → mstK cs 0 j < chHouses cs st := by
  have hle : chLeft cs st ≤ chCap cs st := fewP_le _ _
  obtain ⟨a, b⟩ := few_spec (mstL cs 0) (chCap cs st) (chCap cs st) 0 (by omega)
  refine ⟨hle, ?_, fun j hj => b j (by omega) hj⟩
  have h1 := mst0_mono cs hle (by have := cap_min cs st; omega)
  have h2 : ¬ mstK cs 0 (chLeft cs st) < chHouses cs st := a
  have h3 : mstK cs 0 (chCap cs st) = chHouses cs st := rfl
  omega
structure OptL (cs : List Crowd) (n : Nat) (H : Int) (L : List Nat) : Prop where
  sorted : L.Pairwise (· < ·)
  bd : ∀ s ∈ L, s < 30
  len : L.length = n
  val : valS cs L = H
/-- one list comes before another one, by their first difference -/
def Bef (A B : List Nat) : Prop := ∃ p a b A' B', A = p ++ a :: A' ∧ B = p ++ b :: B' ∧ a < b
theorem Bef.app {A B : List Nat} (h : Bef A B) (C : List Nat) : Bef (A ++ C) B := by
  obtain ⟨p, a, b, A', B', h1, h2, h3⟩ := h
  exact ⟨p, a, b, A' ++ C, B', by rw [h1]; simp, h2, h3⟩
structure ChI (cs : List Crowd) (n : Nat) (H : Int) (k : Nat) (s : ChS) (ch : List Nat) : Prop where
  eq : s.ch = ch.map fun (x : Nat) => (x : Int)
  set : s.set = covS cs ch
  len : ch.length + s.left = n
  sorted : ch.Pairwise (· < ·)
  low : ∀ x ∈ ch, x < k
  all : ∀ L, OptL cs n H L → Bef ch L ∨ ∃ R, L = ch ++ R ∧ ∀ r ∈ R, k ≤ r
  one : ∃ L R, OptL cs n H L ∧ L = ch ++ R ∧ ∀ r ∈ R, k ≤ r
theorem bef_not_sub {A B : List Nat} (hA : A.Pairwise (· < ·)) (hB : B.Pairwise (· < ·)) (hs : ∀ a ∈ A, a ∈ B) : ¬ Bef A B := by
  rintro ⟨p, a, b, A', B', rfl, rfl, hab⟩
  have h1 := hs a (by simp)
  rw [List.pairwise_append] at hA hB
  rcases List.mem_append.1 h1 with h1 | h1
  · have := hA.2.2 a h1 a (by simp); omega
  · rcases List.mem_cons.1 h1 with h1 | h1
    · omega
    · have := (List.pairwise_cons.1 hB.2.1).1 a h1; omega
theorem opt_of {cs : List Crowd} {n : Nat} {H : Int} (hn : n ≤ 10) (hlow : ∀ j, j < n → mstK cs 0 j < H) {S : List Nat} (hS : ∀ s ∈ S, s < 30) (hl : S.length ≤ n) (hv : valS cs S = H) : OptL cs n H (normS S) := by
  have hv' : valS cs (normS S) = H := by rw [← hv]; unfold valS; rw [cov_congr cs (norm_mem hS)]
  have hbd : ∀ s ∈ normS S, s < 30 := fun s hs => hS s ((norm_mem hS s).1 hs)
  have h1 := norm_len hS
  refine ⟨norm_sorted S, hbd, ?_, hv'⟩
  rcases Nat.lt_or_ge (normS S).length n with h | h
  · have := hlow _ h
    have := mst0_ge cs hbd (Nat.le_refl _) (show (normS S).length ≤ 10 by omega)
    omega
  · omega
theorem ch_start {cs : List Crowd} {n : Nat} {H : Int} (hn : n ≤ 10) (hH : mstK cs 0 n = H) (hlow : ∀ j, j < n → mstK cs 0 j < H) : ChI cs n H 0 ⟨[], 0, n⟩ [] := by
  obtain ⟨S, a, b, c⟩ := mst0_ex cs hn
  exact ⟨rfl, rfl, by simp, List.Pairwise.nil, by simp, fun L _ => .inr ⟨L, rfl, by simp⟩, ⟨_, _, opt_of hn hlow a b (c.trans hH), rfl, by simp⟩⟩
theorem ch_step {cs : List Crowd} {n : Nat} {H : Int} (hn : n ≤ 10) (hH : mstK cs 0 n = H) (hlow : ∀ j, j < n → mstK cs 0 j < H) {k : Nat} (hk : k < 30) {s : ChS} {ch : List Nat} (hI : ChI cs n H k s ch) :
    ∃ ch', ChI cs n H (k + 1) (chStep cs H s k) ch' := by
  have hle := hI.len
  have hbd : ∀ x ∈ ch, x < 30 := fun x hx => by have := hI.low x hx; omega
  -- a list that goes on with this stand shows that it is taken
  have key : ∀ R, OptL cs n H (ch ++ k :: R) → 0 < s.left ∧ (mstL cs (s.set ||| srv cs k cs.length)).getD (s.left - 1) 0 = H := fun R hO => by
    have hl : ch.length + (R.length + 1) = n := by have := hO.len; simpa using this
    refine ⟨by omega, ?_⟩
    show mstK cs (s.set ||| srv cs k cs.length) (s.left - 1) = H
    have h1 := mst_ge cs _ (s.set ||| srv cs k cs.length) (Nat.lt_succ_self _) R (fun x hx => hO.bd x (by simp [hx])) (s.left - 1) (by omega) (by omega)
    have e : s.set ||| srv cs k cs.length ||| covS cs R = covS cs (ch ++ k :: R) := by rw [cov_app, covS, hI.set, Nat.or_assoc]
    have h2 : mny cs (covS cs (ch ++ k :: R)) cs.length = H := hO.val
    rw [e, h2] at h1
    obtain ⟨S, a, b, c⟩ := mst_ex cs _ (s.set ||| srv cs k cs.length) (Nat.lt_succ_self _) (s.left - 1) (by omega)
    have e2 : s.set ||| srv cs k cs.length ||| covS cs S = covS cs (ch ++ k :: S) := by rw [cov_app, covS, hI.set, Nat.or_assoc]
    rw [e2] at c
    have h3 : valS cs (ch ++ k :: S) ≤ mstK cs 0 n := mst0_ge cs (fun x hx => by
      rcases List.mem_append.1 hx with hx | hx
      · exact hbd x hx
      · rcases List.mem_cons.1 hx with rfl | hx
        · exact hk
        · exact a x hx) (by simp; omega) hn
    have h4 : valS cs (ch ++ k :: S) = mstK cs (s.set ||| srv cs k cs.length) (s.left - 1) := c
    omega
  unfold chStep
  simp only
  by_cases ht : 0 < s.left ∧ (mstL cs (s.set ||| srv cs k cs.length)).getD (s.left - 1) 0 = H
  · rw [if_pos ht]
    have hall : ∀ L, OptL cs n H L → Bef (ch ++ [k]) L ∨ ∃ R, L = (ch ++ [k]) ++ R ∧ ∀ r ∈ R, k + 1 ≤ r := fun L hO => by
      rcases hI.all L hO with h | ⟨R, rfl, hR⟩
      · exact .inl (h.app _)
      · match R, hR with
        | [], _ => have := hO.len; simp at this; omega
        | r :: R, hR =>
          have hs := hO.sorted
          rw [List.pairwise_append, List.pairwise_cons] at hs
          have hr := hR r (by simp)
          by_cases e : r = k
          · subst e
            exact .inr ⟨R, by simp, fun x hx => hs.2.1.1 x hx⟩
          · exact .inl ⟨ch, k, r, [], R, rfl, rfl, by omega⟩
    refine ⟨ch ++ [k], by simp [hI.eq], by simp only; rw [cov_app, hI.set]; simp [covS], by simp; omega, ?_, ?_, hall, ?_⟩
    · rw [List.pairwise_append]
      exact ⟨hI.sorted, List.pairwise_singleton _ _, fun a ha b hb => by rw [List.mem_singleton.1 hb]; exact hI.low a ha⟩
    · intro x hx
      rcases List.mem_append.1 hx with hx | hx
      · have := hI.low x hx; omega
      · rw [List.mem_singleton.1 hx]; omega
    · obtain ⟨S, a, b, c⟩ := mst_ex cs _ (s.set ||| srv cs k cs.length) (Nat.lt_succ_self _) (s.left - 1) (by omega)
      have e2 : s.set ||| srv cs k cs.length ||| covS cs S = covS cs (ch ++ k :: S) := by rw [cov_app, covS, hI.set, Nat.or_assoc]
      rw [e2] at c
      have hb : ∀ x ∈ ch ++ k :: S, x < 30 := fun x hx => by
        rcases List.mem_append.1 hx with hx | hx
        · exact hbd x hx
        · rcases List.mem_cons.1 hx with rfl | hx
          · exact hk
          · exact a x hx
      have hO := opt_of hn hlow hb (by simp; omega) (c.trans ht.2)
      rcases hall _ hO with h | ⟨R, h1, h2⟩
      · refine absurd h (bef_not_sub ?_ hO.sorted fun x hx => (norm_mem hb x).2 (by simp at hx ⊢; rcases hx with hx | hx <;> simp [hx]))
        rw [List.pairwise_append]
        exact ⟨hI.sorted, List.pairwise_singleton _ _, fun a ha b hb => by rw [List.mem_singleton.1 hb]; exact hI.low a ha⟩
      · exact ⟨_, R, hO, h1, h2⟩
  · rw [if_neg ht]
    have hno : ∀ L R, OptL cs n H L → L = ch ++ R → (∀ r ∈ R, k ≤ r) → ∀ r ∈ R, k + 1 ≤ r := fun L R hO e hR => by
      subst e
      match R, hR with
      | [], _ => simp
      | r :: R, hR =>
        have hs := hO.sorted
        rw [List.pairwise_append, List.pairwise_cons] at hs
        have hr := hR r (by simp)
        have hne : r ≠ k := fun e => by subst e; exact ht (key R hO)
        intro x hx
        rcases List.mem_cons.1 hx with rfl | hx
        · omega
        · have := hs.2.1.1 x hx; omega
    refine ⟨ch, hI.eq, hI.set, hI.len, hI.sorted, fun x hx => by have := hI.low x hx; omega, fun L hO => ?_, ?_⟩
    · rcases hI.all L hO with h | ⟨R, e, hR⟩
      · exact .inl h
      · exact .inr ⟨R, e, hno L R hO e hR⟩
    · obtain ⟨L, R, hO, e, hR⟩ := hI.one
      exact ⟨L, R, hO, e, hno L R hO e hR⟩
theorem ch_all {cs : List Crowd} {n : Nat} {H : Int} (hn : n ≤ 10) (hH : mstK cs 0 n = H) (hlow : ∀ j, j < n → mstK cs 0 j < H) : ∀ k, k ≤ 30 → ∃ ch, ChI cs n H k (chTo cs H n k) ch
  | 0, _ => ⟨[], ch_start hn hH hlow⟩
  | k + 1, hk => by
    obtain ⟨ch, h⟩ := ch_all hn hH hlow k (by omega)
    rw [chTo_succ]
    exact ch_step hn hH hlow (by omega) h
theorem crowds_len (l : List (Nat × List Bool)) : (crowdsP l).length ≤ l.length := by
  unfold crowdsP
  have key : ∀ (l : List (Nat × List Bool)) (cs : List Crowd), (crowdsTo cs l).length ≤ cs.length + l.length := by
    intro l
    induction l with
    | nil => intro cs; simp [crowdsTo]
    | cons x l ih =>
      intro cs
      have h1 := ih (addCrowd cs x.2)
      have h2 : ∀ cs : List Crowd, (addCrowd cs x.2).length ≤ cs.length + 1 := by
        intro cs
        induction cs with
        | nil => simp [addCrowd]
        | cons c r ih2 => unfold addCrowd; split <;> simp <;> omega
      have h3 := h2 cs
      have e : crowdsTo cs (x :: l) = crowdsTo (addCrowd cs x.2) l := rfl
      rw [e]; simp; omega
  have := key l []
  simpa using this
/-- what is chosen: a list in order, no longer than allowed, that serves as many houses as any, the shortest of those, and the first one -/
structure Chosen (l : List (Nat × List Bool)) (st : Nat) (ch : List Nat) (n : Nat) : Prop where
  sorted : ch.Pairwise (· < ·)
  bd : ∀ s ∈ ch, s < 30
  len : ch.length ≤ st
  cnt : cntS l ch = n
  most : ∀ S : List Nat, (∀ s ∈ S, s < 30) → S.length ≤ st → cntS l S ≤ n
  short : ∀ S : List Nat, (∀ s ∈ S, s < 30) → n ≤ cntS l S → ch.length ≤ S.length
  first : ∀ S : List Nat, S.Pairwise (· < ·) → (∀ s ∈ S, s < 30) → S.length = ch.length → cntS l S = n → ch = S ∨ Bef ch S
theorem chosen (l : List (Nat × List Bool)) (hl : l.length ≤ 10) (st : Nat) : ∃ ch n, (chooseP l st).1 = ch.map (fun (x : Nat) => (x : Int)) ∧ (chooseP l st).2 = (n : Nat) ∧ Chosen l st ch n := by
  obtain ⟨cs, hcs⟩ : ∃ cs, cs = crowdsP l := ⟨_, rfl⟩
  have hc := crowds_len l
  rw [← hcs] at hc
  obtain ⟨h1, h2, h3⟩ := left_spec cs st
  have hcap := cap_min cs st
  have hn : chLeft cs st ≤ 10 := by omega
  obtain ⟨ch, hI⟩ := ch_all hn h2 h3 30 (by omega)
  obtain ⟨L, R, hO, e, hR⟩ := hI.one
  have hR0 : R = [] := by
    match R, hR, e with
    | [], _, _ => rfl
    | r :: R, hR, e =>
      have a := hR r (by simp)
      have b := hO.bd r (by rw [e]; simp)
      omega
  subst hR0
  rw [List.append_nil] at e
  subst e
  have hv : ∀ S, valS cs S = cntS l S := fun S => by rw [hcs]; exact val_cnt l S
  have hval := hO.val
  rw [hv] at hval
  have hmost : ∀ S : List Nat, (∀ s ∈ S, s < 30) → S.length ≤ st → (cntS l S : Int) ≤ chHouses cs st := fun S hS hl => by
    obtain ⟨T, a, b, c, d⟩ := cov_small cs S 0
    have hm := missing_le cs 0
    rw [Nat.zero_or, Nat.zero_or] at d
    have h5 := mst0_ge cs (S := T) (fun s hs => hS s (a s hs)) (k := chCap cs st) (by omega) (by omega)
    have h6 : valS cs T = valS cs S := by unfold valS; rw [d]
    rw [h6, hv] at h5
    exact h5
  refine ⟨L, cntS l L, ?_, ?_, hO.sorted, hO.bd, by have := hO.len; omega, rfl, fun S hS hlS => by have := hmost S hS hlS; omega, fun S hS hc2 => ?_, fun S hs hS hlS hc2 => ?_⟩
  · have e : (chooseP l st).1 = (chTo cs (chHouses cs st) (chLeft cs st) 30).ch := by unfold chooseP; rw [← hcs]
    rw [e]; exact hI.eq
  · have e : (chooseP l st).2 = chHouses cs st := by unfold chooseP; rw [← hcs]
    rw [e]; exact hval.symm
  · rcases Nat.lt_or_ge S.length L.length with h | h
    · have h7 := h3 S.length (by have := hO.len; omega)
      have h8 := mst0_ge cs hS (Nat.le_refl _) (show S.length ≤ 10 by have := hO.len; omega)
      rw [hv] at h8
      omega
    · exact h
  · have hOS : OptL cs (chLeft cs st) (chHouses cs st) S := ⟨hs, hS, by have := hO.len; omega, by rw [hv]; omega⟩
    rcases hI.all S hOS with h | ⟨R, e, hR⟩
    · exact .inr h
    · left
      match R, hR, e with
      | [], _, e => simpa using e.symm
      | r :: R, hR, e =>
        have a := hR r (by simp)
        have b := hS r (by rw [e]; simp)
        omega
end Go.Proofs.Ytimedmkpenbmkaa
end
