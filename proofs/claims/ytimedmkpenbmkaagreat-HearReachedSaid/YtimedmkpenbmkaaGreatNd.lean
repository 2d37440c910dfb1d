import Derived.Test.YtimedmkpenbmkaaGreatSt
import Derived.Test.YtimedmkpenbmkaaGreatMath
import Derived.Deep.LoopGhost
namespace Go.Proofs.YtimedmkpenbmkaaGreat
open Go.RowKit Go.Shelf
set_option linter.unusedSimpArgs false
set_option linter.unusedVariables false

def tabObj (xs : List Int) : Obj := .cells (xs.map (Value.int .i64)).toArray 3
theorem info3 : (Tryz.prog.info? 3).map (fun i => (i.zero, i.size, i.bytes)) = some (some (.int .i64 0), 1, 8) := by kernel_rfl
theorem make31 (k : Nat) (hk : k ≤ 1000) (W : World) : (Instr.makeSlice 22 (.int .i64 k) (.int .i64 k)).run Tryz.prog W = .ok (.slice (some ⟨W.heap.size, 0, none⟩) k k) (W.alloc (tabObj (List.replicate k 0))) := by
  obtain ⟨i0, hi, hz0, hz1, hz2⟩ := info_parts info3
  have h := run_make (P := Tryz.prog) W 22 3 i0 (.int .i64 0) Tryz.underlying22 hi hz0 .i64 .i64 k k (by omega) (by omega) (by rw [hz2]; omega) (by omega)
  rw [h]
  have e : madeCells (Value.int .i64 0).cells ((k : Int).toNat * i0.size) = ((List.replicate k (0 : Int)).map (Value.int .i64)).toArray := by
    rw [hz1]
    apply Array.ext
    · simp [madeCells]
    · intro i h1 h2
      simp [madeCells, Value.cells, Nat.mod_one]
  rw [e]
  simp [tabObj]

/-- what holds in needs: the table, and the town at work -/
structure NdInv (t : Hr.Town) (wind voice : Int) (b o cap r : Nat) (cf : Value) (w wr : World) (T : List Int) : Prop where
  tab : TabAt wr (w.heap.size + 1) T
  wk : WkBox wr t.wide wind voice b o cap r cf t.plots w.heap.size
  bel : Below w.heap.size w wr

theorem NdInv.set {t : Hr.Town} {wind voice : Int} {b o cap r : Nat} {cf : Value} {w wr : World} {T : List Int} (h : NdInv t wind voice b o cap r cf w wr T) (hb : b < w.heap.size) (hr : r < w.heap.size) {i : Nat} (hi : i < T.length) (x : Int) :
    NdInv t wind voice b o cap r cf w (wr.setCell ⟨w.heap.size + 1, i, none⟩ (.int .i64 x)) (T.set i x) :=
  ⟨h.tab.set hi x, h.wk.hold (Hold.setCell (Kp := fun k => k ≠ w.heap.size + 1) _ _ _ (fun h => h rfl)) ⟨by omega, by omega, by omega⟩, h.bel.setCell (p := ⟨w.heap.size + 1, i, none⟩) (by simp) _⟩

theorem NdInv.lowered {t : Hr.Town} {wind voice : Int} {b o cap r : Nat} {cf : Value} {w wr w' : World} {T T' : List Int} (h : NdInv t wind voice b o cap r cf w wr T) (hb : b < w.heap.size) (hr : r < w.heap.size) (ht : TabAt w' (w.heap.size + 1) T') (hh : Hold (fun k => k ≠ w.heap.size + 1) wr w') :
    NdInv t wind voice b o cap r cf w w' T' :=
  ⟨ht, h.wk.hold hh ⟨by omega, by omega, by omega⟩, h.bel.trans ((hh.mono (fun k hk _ => (by omega))).to_below (Nat.le_trans (Nat.le_of_lt (Nat.lt_succ_self _)) (Nat.le_of_lt h.tab.lt)))⟩

theorem fill_step (n k : Nat) (h : k < n) : (List.replicate k (-1 : Int) ++ List.replicate (n - k) 0).set k (-1) = List.replicate (k + 1) (-1) ++ List.replicate (n - (k + 1)) 0 := by
  rw [List.set_append]
  simp only [List.length_replicate, Nat.lt_irrefl, if_false, Nat.sub_self]
  rw [show n - k = (n - (k + 1)) + 1 by omega, List.replicate_succ, List.set_cons_zero, List.replicate_succ']
  simp

set_option maxHeartbeats 1000000 in
set_option maxRecDepth 100000 in
theorem needs_any (t : Hr.Town) (hok : t.Ok) (wind voice : Int) (hw0 : 0 ≤ wind) (hw4 : wind ≤ 4) (b o cap r : Nat) (f1 : Fn) (f2 f3 : Array Value) (s : Nat) (hs : s < t.len)
    (w : World) (hI : Ints w b o t.plots) (hD : DirMap w r) :
    Calls Tryz.prog 95 #[.agg #[.int .i64 t.wide, .slice (some ⟨b, o, none⟩) t.plots.length cap, .int .i64 wind, .int .i64 voice, .map (some r), .func f1 f2 f3], .int .i64 s] w fun e w' =>
      e = .returned (.slice (some ⟨w.heap.size + 1, 0, none⟩) t.len t.len) ∧ TabAt w' (w.heap.size + 1) (t.needs wind s) ∧ Below w.heap.size w w' := by
  have hlen : t.plots.length = t.len := rfl
  have h30 := hok.n30
  have hmk := make31 t.len (by omega)
  have hmk' : ∀ W, (Instr.makeSlice 22 (.int .i64 (t.plots.length : Int)) (.int .i64 (t.plots.length : Int))).run Tryz.prog W = .ok (.slice (some ⟨W.heap.size, 0, none⟩) t.len t.len) (W.alloc (tabObj (List.replicate t.len 0))) := hmk
  have HI := Lib.hid hI
  clear hlen hmk
  go_enter Tryz.func95, Tryz.ntmps95
  go_wp2
  have hbl := HI.out.1
  have hrl : r < w.heap.size := (Array.getElem?_eq_some_iff.1 hD).1
  have hB2 : ∀ o1 o2, Below w.heap.size w ((w.alloc o1).alloc o2) := fun o1 o2 => (below1 _ _).alloc (by simp) _
  generalize hW2 : (w.alloc (.cells #[.int .i64 t.wide, .slice (some ⟨b, o, none⟩) t.plots.length cap, .int .i64 wind, .int .i64 voice, .map (some r), .func f1 f2 f3] 117)).alloc (tabObj (List.replicate t.len 0)) = W2
  have hN2 : NdInv t wind voice b o cap r (.func f1 f2 f3) w W2 (List.replicate t.len 0) := by
    have hb2 : Below w.heap.size w W2 := by rw [← hW2]; exact hB2 _ _
    refine ⟨?_, ⟨?_, ?_, ?_, ?_, ?_, ?_, HI.out.below hb2 hbl, (hb2.block r hrl).trans hD⟩, hb2⟩
    · rw [← hW2]
      have := World.alloc_heap_new (w.alloc (.cells #[.int .i64 t.wide, .slice (some ⟨b, o, none⟩) t.plots.length cap, .int .i64 wind, .int .i64 voice, .map (some r), .func f1 f2 f3] 117)) (tabObj (List.replicate t.len 0))
      rw [World.size_alloc] at this
      exact this
    all_goals (rw [← hW2]; clear hW2; go_simp)
  clear hW2 hmk'
  go_loopw [16] (fun i wr => ∃ k : Nat, k ≤ t.len ∧ i = .int .i64 k ∧ NdInv t wind voice b o cap r (.func f1 f2 f3) w wr (List.replicate k (-1) ++ List.replicate (t.len - k) 0)) (fun i _ => t.len - (intOf i).toNat)
  case atStart => exact ⟨0, Nat.zero_le _, rfl, by simpa using hN2⟩
  case round =>
    obtain ⟨k, hk, rfl, hN⟩ := hrel
    by_cases hlt : k < t.len
    · have hkl : k < (List.replicate k (-1 : Int) ++ List.replicate (t.len - k) 0).length := by simp; omega
      have hc := hN.tab.cell hkl
      have hf := hN.tab.free k
      have hset := hN.set hbl hrl hkl (-1)
      rw [fill_step _ _ hlt] at hset
      generalize (List.replicate k (-1 : Int) ++ List.replicate (t.len - k) 0).getD k 0 = x0 at hc
      go_wp2
      go_roundw
      case rel => exact ⟨k + 1, by omega, by go_num, hset⟩
      case measure => simp [intOf]; omega
    · obtain rfl : k = t.len := by omega
      rw [Nat.sub_self, List.replicate_zero, List.append_nil] at hN
      have hsl : s < (List.replicate t.len (-1 : Int)).length := by simpa using hs
      have hc := hN.tab.cell hsl
      have hf := hN.tab.free s
      have hN3 : NdInv t wind voice b o cap r (.func f1 f2 f3) w _ (t.start s) := hN.set hbl hrl hsl 0
      have hs' : (s : Int) < t.len := by omega
      generalize (List.replicate t.len (-1 : Int)).getD s 0 = x0 at hc
      have hst := Hr.start_inv (wind := wind) hok hs
      have HN0 : Hid (t.iter wind 5000 (t.start s) = t.needs wind s) := Lib.hid rfl
      go_wp2
      generalize wr.setCell ⟨w.heap.size + 1, s, none⟩ (.int .i64 0) = W3 at hN3 ⊢
      go_loopg [7] 5000 (fun g lw wo => ∃ (T : List Int) (bl : Bool), lw = .bool bl ∧ t.Inv wind s T ∧ NdInv t wind voice b o cap r (.func f1 f2 f3) w wo T ∧ (bl = true → Hr.mu T < (g : Int) ∧ t.iter wind g T = t.needs wind s) ∧ (bl = false → T = t.needs wind s))
      case atStart => exact ⟨t.start s, true, rfl, hst, hN3, fun _ => ⟨by have := hst.mu_le hok; omega, HN0.out⟩, (fun h => by cases h)⟩
      case round =>
        obtain ⟨T, bl, rfl, hinv, hNd, hgo, hend⟩ := hrel
        cases bl with
        | false =>
          have HE := Lib.hid (hend rfl)
          clear hgo hend
          go_wp2
          go_ret
          exact ⟨rfl, HE.out ▸ hNd.tab, hNd.bel⟩
        | true =>
          obtain ⟨hmu, hit⟩ := hgo rfl
          have hmu0 := (hinv.mu_le hok).1
          obtain ⟨m, rfl⟩ : ∃ m, gk = m + 1 := ⟨gk - 1, by omega⟩
          have HIT := Lib.hid hit
          have HINV := Lib.hid hinv
          have hl0 := hNd.wk.lt.1
          have k1 := hNd.wk.c1
          have hNd0 := hNd
          clear hgo hend hit hinv hNd
          obtain ⟨wo, rfl⟩ : ∃ wo : World, wo = wr := ⟨_, rfl⟩
          clear hN hN2 hN3 hsl hf hc hst hB2 hlt
          go_wp2
          clear k1 hl0
          go_loopw [7, 31] (fun lw i wi => ∃ k : Nat, k ≤ t.len ∧ i = .int .i64 k ∧ lw = .bool (t.roundTo wind T k).2 ∧ NdInv t wind voice b o cap r (.func f1 f2 f3) w wi (t.roundTo wind T k).1) (fun _ i _ => t.len - (intOf i).toNat)
          case atStart => exact ⟨0, Nat.zero_le _, rfl, rfl, hNd0⟩
          case round =>
            obtain ⟨k, hk, rfl, rfl, hNk⟩ := hrel
            have hsp := Hr.roundTo_spec hok HINV.out k hk
            have hsucc := Hr.roundTo_succ t wind T k
            have hwk := hNk.wk
            have c0 := hwk.c0
            have c1 := hwk.c1
            have c2 := hwk.c2
            have c3 := hwk.c3
            have c4 := hwk.c4
            have c5 := hwk.c5
            by_cases hlt : k < t.len
            · obtain ⟨hik, -⟩ := hsp
              have hlk := hik.len
              have hkl : k < (t.roundTo wind T k).1.length := by omega
              have hc := hNk.tab.cell hkl
              have HSUCC := Lib.hid hsucc
              have HIK := Lib.hid hik
              have HNK := Lib.hid hNk
              clear hsucc hik hwk hNk hNd0
              generalize hTk : t.roundTo wind T k = R at *
              obtain ⟨Tk, bk⟩ := R
              dsimp only at *
              generalize hx : Tk.getD k 0 = x at hc
              by_cases hn : x = -1
              · subst hn
                have hR1 : t.roundTo wind T (k + 1) = (Tk, bk) := by rw [HSUCC.out]; unfold Hr.Town.roundStep; simp only; rw [if_neg (by simpa using hx)]
                have HR1 := Lib.hid hR1
                clear hR1 hTk hx hlk
                go_wp2
                go_roundw
                case rel => exact ⟨k + 1, by omega, by go_num, by rw [HR1.out], by rw [HR1.out]; exact HNK.out⟩
                case measure => simp [intOf]; omega
              · have hn' : (x != -1) = true := by simpa using hn
                have hR1 : t.roundTo wind T (k + 1) = ((t.lower wind Tk k).1, bk || (t.lower wind Tk k).2) := by rw [HSUCC.out]; unfold Hr.Town.roundStep; simp only; rw [if_pos (by rw [hx]; exact hn)]
                have hcall := lower_any t hok wind voice hw0 hw4 b o cap r f1 f2 f3 (w.heap.size + 1) k s Tk hlt wr HNK.out.wk.ints HNK.out.wk.dir (by omega) HNK.out.tab HIK.out (by rw [hx]; exact hn)
                rw [hlk] at hcall
                have HCALL := Lib.hid hcall
                have HR1 := Lib.hid hR1
                clear hcall hR1 hTk hx hlk hn
                go_wp2_with fail
                refine HCALL.out.mono ?_
                rintro e w6 ⟨rfl, hT6, hH6⟩
                have hN6 := HNK.out.lowered hbl hrl hT6 hH6
                clear hT6 hH6
                generalize t.lower wind Tk k = r6 at hN6 HR1 ⊢
                obtain ⟨T6, b6⟩ := r6
                dsimp only at hN6 ⊢
                cases b6 with
                | true =>
                  go_wp2
                  go_roundw
                  case rel => exact ⟨k + 1, by omega, by go_num, by rw [HR1.out]; simp, by rw [HR1.out]; exact hN6⟩
                  case measure => simp [intOf]; omega
                | false =>
                  go_wp2
                  go_roundw
                  case rel => exact ⟨k + 1, by omega, by go_num, by rw [HR1.out]; simp, by rw [HR1.out]; exact hN6⟩
                  case measure => simp [intOf]; omega
            · obtain rfl : k = t.len := by omega
              have hround : t.roundTo wind T t.len = t.round wind T := rfl
              obtain ⟨hi6, hd6⟩ := hsp
              have hN6 := hNk
              clear hsucc hwk c0 c1 c2 c3 c4 c5 hNk hNd0
              have hit2 : t.iter wind (m + 1) T = (if (t.round wind T).2 then t.iter wind m (t.round wind T).1 else (t.round wind T).1) := rfl
              rw [← hround] at hit2
              have hit := HIT.out
              rw [hit2] at hit
              generalize t.roundTo wind T t.len = r6 at hi6 hd6 hN6 hit ⊢
              obtain ⟨T6, b6⟩ := r6
              dsimp only at hi6 hd6 hN6 hit ⊢
              have HD6 := Lib.hid hd6
              have HIT6 := Lib.hid hit
              have HI6 := Lib.hid hi6
              clear hit2 hit hd6 hround HIT hi6
              go_wp2
              go_roundg m
              case measure => omega
              case rel =>
                refine ⟨T6, b6, rfl, HI6.out, hN6, fun hb => ?_, fun hb => ?_⟩
                · subst hb
                  have h1 := HIT6.out
                  rw [if_pos rfl] at h1
                  rcases HD6.out with h | ⟨-, h⟩
                  · cases h
                  · exact ⟨by omega, h1⟩
                · subst hb
                  have h1 := HIT6.out
                  rw [if_neg (by simp)] at h1
                  exact h1
end Go.Proofs.YtimedmkpenbmkaaGreat
