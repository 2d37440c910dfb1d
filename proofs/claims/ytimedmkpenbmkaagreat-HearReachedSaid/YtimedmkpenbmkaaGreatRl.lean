import Derived.Test.YtimedmkpenbmkaaGreatBase
import Derived.Deep.RegionWith
import Derived.Sort.BigQuietIn
namespace Go.Proofs.YtimedmkpenbmkaaGreat
open Go.RowKit

/-- what speaks of the blocks below B alone -/
def Low {β : Type} (B : Nat) (J : β → World → Prop) : Prop := ∀ s W W', J s W → Below B W W' → J s W'

theorem Low.mono {β : Type} {B B' : Nat} {J : β → World → Prop} (h : Low B J) (hB : B ≤ B') : Low B' J := fun s W W' hs hb => h s W W' hs (hb.mono hB)

/-- the blocks in Kp are as they were -/
structure Hold (Kp : Nat → Prop) (A C : World) : Prop where
  os : C.os = A.os
  tape : C.tape = A.tape
  output : C.output = A.output
  size : A.heap.size ≤ C.heap.size
  same : ∀ k, Kp k → k < A.heap.size → C.heap[k]? = A.heap[k]?
theorem Hold.refl (Kp : Nat → Prop) (A : World) : Hold Kp A A := ⟨rfl, rfl, rfl, Nat.le_refl _, fun _ _ _ => rfl⟩
theorem Hold.trans {Kp : Nat → Prop} {A B C : World} (h : Hold Kp A B) (k : Hold Kp B C) : Hold Kp A C :=
  ⟨k.os.trans h.os, k.tape.trans h.tape, k.output.trans h.output, Nat.le_trans h.size k.size, fun i hi hl => (k.same i hi (Nat.lt_of_lt_of_le hl h.size)).trans (h.same i hi hl)⟩
theorem Hold.mono {Kp Kq : Nat → Prop} {A C : World} (h : Hold Kp A C) (hq : ∀ k, Kq k → k < A.heap.size → Kp k) : Hold Kq A C := ⟨h.os, h.tape, h.output, h.size, fun k hk hl => h.same k (hq k hk hl) hl⟩
theorem Hold.of_below {Kp : Nat → Prop} {B : Nat} {A C : World} (h : Below B A C) (hq : ∀ k, Kp k → k < A.heap.size → k < B) : Hold Kp A C := ⟨h.os, h.tape, h.output, h.size, fun k hk hl => h.block k (hq k hk hl)⟩
theorem Hold.to_below {B : Nat} {A C : World} (h : Hold (fun k => k < B) A C) (hB : B ≤ A.heap.size) : Below B A C := ⟨h.os, h.tape, h.output, h.size, fun k hk => h.same k hk (by omega)⟩
theorem Hold.cell {Kp : Nat → Prop} {A C : World} (h : Hold Kp A C) {p : Addr} (hp : Kp p.block) (hl : p.block < A.heap.size) : C.cell? p = A.cell? p := World.cell?_of_block (w := A) (h.same p.block hp hl)

/-- an iterator, with whatever rounds that leave as they are: the blocks in Keep, and what the iterator has laid itself -/
def SeqLow {α : Type} (n : Nat) (P : Program) (g : Nat) (lb : Array Value) (encs : α → Array Value) (Keep : Nat → Prop) (S : List α → Prop) (w : World) : Prop :=
  ∀ (l : Nat) (J Jx : List α → World → Prop) (W : World), Below w.heap.size w W → Low W.heap.size J → Low W.heap.size Jx →
    (∀ pre x W1, J pre W1 → YieldAt Fence.wide (n - 1) P l (encs x) W1 fun e W' =>
      (e = .returned (.bool true) ∧ J (pre ++ [x]) W' ∧ Hold (fun k => (Keep k ∧ k < w.heap.size) ∨ W.heap.size ≤ k) W1 W') ∨
      (e = .returned (.bool false) ∧ Jx (pre ++ [x]) W' ∧ Hold (fun k => (Keep k ∧ k < w.heap.size) ∨ W.heap.size ≤ k) W1 W')) →
    J [] W →
    CallsIn Fence.wide n P g (#[.func (.yield l) #[] #[]] ++ lb) W fun e W' => (∃ v, e = .returned v) ∧ ((∃ xs, S xs ∧ J xs W') ∨ (∃ pre, Jx pre W'))

theorem putObj_below {B : Nat} (W : World) (l : Nat) (o : Obj) (h : B ≤ l) (hl : l < W.heap.size) : Below B W (W.putObj l o) :=
  (Below.refl B W).grown (grownBy_putObj' W l o) (by omega) (fun k e => by cases e; exact h)

/-- how a round may be left: M is what the body must leave as it is -/
def roundPostLow {α : Type} (M : Nat → Prop) (I : List α → World → Prop) (Ix : Code → List α → World → Prop) (xs : List α) (W : World) : Exit → Act → World → Prop
  | .normal, _, W' => Hold M W W' ∧ I xs W'
  | .ret, _, W' => Hold M W W' ∧ Ix .ret xs W'
  | .exit id, _, W' => Hold M W W' ∧ Ix (.exit id) xs W'
  | .goto t, _, W' => Hold M W W' ∧ Ix (.goto t) xs W'
  | .panic _, _, _ => False
  | .outgrown, _, _ => False

variable {n : Nat} {P : Program}

/-- A RANGE OVER A FUNCTION, the caller's invariant speaking of what lay before the loop alone; the iterator may do what it likes with blocks of its own. -/
theorem range_low {α : Type} {g : Operand} {ps : Array Tmp} {assign body : Code} {Q : Exit → Act → World → Prop} {a : Act} {w : World}
    {gf : Nat} {lb : Array Value} (hg : a.eval g = .func (.func gf) #[] lb) (eg : ∀ args w, (callFunc gf args).run P w = .ok (.enter gf args) w)
    {encs : α → Array Value} {Keep : Nat → Prop} {S : List α → Prop} {w0 : World} (hseq : SeqLow (n - 1) P gf lb encs Keep S w0) (hb0 : Below w0.heap.size w0 w)
    (hps : ∀ x, (encs x).size = ps.size)
    (I : List α → World → Prop) (Ix : Code → List α → World → Prop) (hI : Low w.heap.size I) (hIx : ∀ c, Low w.heap.size (Ix c)) (h0 : I [] w)
    (hround : ∀ (l : Nat) (pre : List α) (x : α) (W : World), w.heap.size < l → l < W.heap.size → I pre W →
      assign.wpIn (Fence.wide.inRound l) (n - 1 - 1) P (Exit.then (fun a' Wa => Below W.heap.size W Wa ∧ ∀ Wb, Wa.grownBy Wb (some l) → Wb.heap.size = Wa.heap.size → I pre Wb →
          body.wpIn (Fence.wide.inRound l) (n - 1 - 1) P (roundPostLow (fun k => (Keep k ∧ k < w.heap.size) ∨ (w.heap.size ≤ k ∧ k < W.heap.size)) I Ix (pre ++ [x]) Wb) a' Wb) (fun _ _ _ => False))
        { tmps := (ps.zip (encs x)).foldl (fun t (p, v) => t.setIfInBounds p v) a.tmps, defers := [] } W)
    (hdone : ∀ (D : Nat) (xs : List α) (W : World), w.heap.size ≤ D → S xs → I xs W → W.heap[D]? = some (.deferred (some [])) → Q .normal { a with defers := { target := .collected D, args := #[] } :: a.defers } W)
    (hstop : ∀ (D : Nat) (c : Code) (pre : List α) (W : World), w.heap.size ≤ D → Ix c pre W → W.heap[D]? = some (.deferred (some [])) → c.wpIn Fence.wide n P Q { a with defers := { target := .collected D, args := #[] } :: a.defers } W) :
    (Code.rangeFunc g ps assign body).wpIn Fence.wide n P Q a w := by
  refine wpIn_rangeFunc fun fn _ => ?_
  generalize hrec : (fun (st : LoopState) (pe : Option Code) => ({ state := st, pending := pe, fn, tmps := a.tmps, params := ps, assign, body, defers := w.heap.size } : Loop)) = rec
  generalize hW1 : (w.alloc (.deferred (some []))).alloc (.loop (rec .ready none)) = W1
  have hs1 : W1.heap.size = w.heap.size + 2 := by rw [← hW1]; simp
  have hbw : Below w.heap.size w W1 := by rw [← hW1]; exact ((Below.refl _ w).alloc (Nat.le_refl _) _).alloc (by simp) _
  have hL : W1.heap[w.heap.size + 1]? = some (.loop (rec .ready none)) := by
    have := World.alloc_heap_new (w.alloc (.deferred (some []))) (.loop (rec .ready none))
    rw [World.size_alloc] at this; rw [← hW1]; exact this
  have hK : W1.heap[w.heap.size]? = some (.deferred (some [])) := by
    rw [← hW1, Below.heap_alloc _ _ _ (by simp)]; exact World.alloc_heap_new w _
  refine ⟨w.heap.size + 1, [{ target := .collected w.heap.size, args := #[] }], W1, { target := .fn (.func gf) lb, args := #[.func (.yield (w.heap.size + 1)) #[] #[]] }, W1, gf,
    #[.func (.yield (w.heap.size + 1)) #[] #[]] ++ lb, W1, ?_, ?_, (fun _ _ => trivial), ?_, (fun h => by cases h), ?_⟩
  · rw [← hW1, ← hrec]; exact run_enterLoop_outer _ _ _ _ _
  · simp only [resolve, hg]; simp [go_sem]
  · simp [invoke, go_sem, eg]
  -- between two rounds: the caller's invariant, and the two blocks of the loop's own
  have book : ∀ {st : LoopState} {pe : Option Code} {W W' : World}, (W.heap[w.heap.size + 1]? = some (.loop (rec st pe)) ∧ W.heap[w.heap.size]? = some (.deferred (some []))) → Below W1.heap.size W W' →
      W'.heap[w.heap.size + 1]? = some (.loop (rec st pe)) ∧ W'.heap[w.heap.size]? = some (.deferred (some [])) := fun h hb =>
    ⟨(hb.block _ (by omega)).trans h.1, (hb.block _ (by omega)).trans h.2⟩
  -- a turn of the loop's own record
  have turn : ∀ {st : LoopState} {pe : Option Code} {W : World} (r : Loop), (W.heap[w.heap.size + 1]? = some (.loop (rec st pe)) ∧ W.heap[w.heap.size]? = some (.deferred (some []))) →
      w.heap.size + 1 < W.heap.size ∧ Below w.heap.size W (W.putObj (w.heap.size + 1) (.loop r)) ∧ (W.putObj (w.heap.size + 1) (.loop r)).heap[w.heap.size + 1]? = some (.loop r) ∧ (W.putObj (w.heap.size + 1) (.loop r)).heap[w.heap.size]? = some (.deferred (some [])) := fun r h => by
    have hlt := (Array.getElem?_eq_some_iff.1 h.1).1
    exact ⟨hlt, putObj_below _ _ _ (by omega) hlt, World.putObj_heap_same hlt, (World.putObj_heap_other (by omega)).trans h.2⟩
  have key := hseq (w.heap.size + 1)
    (fun pre W => I pre W ∧ W.heap[w.heap.size + 1]? = some (.loop (rec .ready none)) ∧ W.heap[w.heap.size]? = some (.deferred (some [])))
    (fun pre W => ∃ c, Ix c pre W ∧ W.heap[w.heap.size + 1]? = some (.loop (rec .done (some c))) ∧ W.heap[w.heap.size]? = some (.deferred (some [])))
    W1 (hb0.trans (hbw.mono hb0.size)) (fun s W W' hs hb => ⟨hI s W W' hs.1 (hb.mono (by omega)), book hs.2 hb⟩)
    (fun s W W' hs hb => by obtain ⟨c, hc, hr⟩ := hs; exact ⟨c, hIx c s W W' hc (hb.mono (by omega)), book hr hb⟩)
    ?_ ⟨hI _ _ _ h0 hbw, hL, hK⟩
  · refine key.mono ?_
    rintro e W2 ⟨⟨v, rfl⟩, (⟨xs, hS, hi, hbk⟩ | ⟨pre, c, hi, hbk⟩)⟩
    · obtain ⟨_, hb, _, hk⟩ := turn (rec .exhausted none) hbk
      have he : (Instr.endLoop (w.heap.size + 1)).run P W2 = .ok none (W2.putObj (w.heap.size + 1) (.loop (rec .exhausted none))) := by subst hrec; exact run_endLoop (P := P) hbk.1 (by simp)
      exact ⟨none, _, he, hdone _ xs _ (Nat.le_refl _) hS (hI _ _ _ hi hb) hk⟩
    · obtain ⟨_, hb, _, hk⟩ := turn (rec .exhausted (some c)) hbk
      have he : (Instr.endLoop (w.heap.size + 1)).run P W2 = .ok (some c) (W2.putObj (w.heap.size + 1) (.loop (rec .exhausted (some c)))) := by subst hrec; exact run_endLoop (P := P) hbk.1 (by simp)
      exact ⟨some c, _, he, hstop _ c pre _ (Nat.le_refl _) (hIx _ _ _ _ hi hb) hk⟩
  · rintro pre x W ⟨hi, hbk⟩
    have hlt := (Array.getElem?_eq_some_iff.1 hbk.1).1
    have hy : (Instr.yield (w.heap.size + 1) (encs x)).run P W = .ok (.round (w.heap.size + 1) fn ((ps.zip (encs x)).foldl (fun t (p, v) => t.setIfInBounds p v) a.tmps) assign body) W := by subst hrec; exact run_yield (P := P) (args := encs x) hbk.1 (hps x)
    refine ⟨fn, _, assign, body, hy, roundIn_of_wpIn trivial (wpIn_mono (hround _ pre x W (by omega) hlt hi) ?_)⟩
    rintro e a' Wa hp
    cases e with
    | normal =>
      obtain ⟨hba, hbody⟩ := hp
      have hbk' : Wa.heap[w.heap.size + 1]? = some (.loop (rec .ready none)) ∧ Wa.heap[w.heap.size]? = some (.deferred (some [])) := ⟨(hba.block _ hlt).trans hbk.1, (hba.block _ (by omega)).trans hbk.2⟩
      have hia : I pre Wa := hI _ _ _ hi (hba.mono (by omega))
      obtain ⟨hlt', hb2, hl2, hk2⟩ := turn (rec .busy none) hbk'
      have hbeg : (Instr.beginRound (w.heap.size + 1)).run P Wa = .ok () (Wa.putObj (w.heap.size + 1) (.loop (rec .busy none))) := by subst hrec; exact run_beginRound (P := P) hbk'.1 rfl
      refine ⟨_, hbeg, wpIn_mono (hbody _ (grownBy_putObj' _ _ _) (by simp) (hI _ _ _ hia hb2)) ?_⟩
      -- the round's end
      have fin : ∀ (jump : Option Code) (W3 : World), Hold (fun k => (Keep k ∧ k < w.heap.size) ∨ (w.heap.size ≤ k ∧ k < W.heap.size)) (Wa.putObj (w.heap.size + 1) (.loop (rec .busy none))) W3 →
          (Instr.endRound (w.heap.size + 1) jump).run P W3 = .ok (.bool jump.isNone) (W3.putObj (w.heap.size + 1) (.loop (rec (if jump.isNone then .ready else .done) jump))) ∧
          Below w.heap.size W3 (W3.putObj (w.heap.size + 1) (.loop (rec (if jump.isNone then .ready else .done) jump))) ∧
          (W3.putObj (w.heap.size + 1) (.loop (rec (if jump.isNone then .ready else .done) jump))).heap[w.heap.size + 1]? = some (.loop (rec (if jump.isNone then .ready else .done) jump)) ∧
          (W3.putObj (w.heap.size + 1) (.loop (rec (if jump.isNone then .ready else .done) jump))).heap[w.heap.size]? = some (.deferred (some [])) := fun jump W3 hk3 => by
        have hl3 := (hk3.same (w.heap.size + 1) (.inr ⟨by omega, hlt⟩) (by simp; omega)).trans hl2
        have hr : (Instr.endRound (w.heap.size + 1) jump).run P W3 = .ok (.bool jump.isNone) (W3.putObj (w.heap.size + 1) (.loop (rec (if jump.isNone then .ready else .done) jump))) := by subst hrec; exact run_endRound (P := P) jump hl3
        obtain ⟨_, b, c, d⟩ := turn (rec (if jump.isNone then .ready else .done) jump) ⟨hl3, (hk3.same w.heap.size (.inr ⟨Nat.le_refl _, by omega⟩) (by simp; omega)).trans hk2⟩
        exact ⟨hr, b, c, d⟩
      have hold : ∀ (r : Loop) (W3 : World), Hold (fun k => (Keep k ∧ k < w.heap.size) ∨ (w.heap.size ≤ k ∧ k < W.heap.size)) (Wa.putObj (w.heap.size + 1) (.loop (rec .busy none))) W3 →
          Hold (fun k => (Keep k ∧ k < w0.heap.size) ∨ W1.heap.size ≤ k) W (W3.putObj (w.heap.size + 1) (.loop r)) := fun r W3 hk3 => by
        refine ⟨hk3.os.trans hba.os, hk3.tape.trans hba.tape, hk3.output.trans hba.output, Nat.le_trans hba.size (Nat.le_trans (by simp) (Nat.le_trans hk3.size (by simp))), fun k hk hl => ?_⟩
        have hne : k ≠ w.heap.size + 1 := by have := hb0.size; rcases hk with ⟨_, h⟩ | h <;> omega
        refine (World.putObj_heap_other hne).trans ((hk3.same k ?_ (by have := hba.size; simp; omega)).trans ((World.putObj_heap_other hne).trans (hba.block k hl)))
        rcases hk with ⟨h1, h2⟩ | h
        · exact .inl ⟨h1, by have := hb0.size; omega⟩
        · exact .inr ⟨by omega, hl⟩
      rintro e a3 W3 hp
      cases e with
      | normal =>
        obtain ⟨hk3, hi3⟩ := hp
        obtain ⟨hr, hb4, hbk4⟩ := fin none W3 hk3
        exact ⟨_, _, hr, .inl ⟨rfl, ⟨hI _ _ _ hi3 hb4, hbk4⟩, hold _ _ hk3⟩⟩
      | ret =>
        obtain ⟨hr, hb4, hbk4⟩ := fin (some .ret) W3 hp.1
        exact ⟨_, _, hr, .inr ⟨rfl, ⟨.ret, hIx _ _ _ _ hp.2 hb4, hbk4⟩, hold _ _ hp.1⟩⟩
      | exit id =>
        obtain ⟨hr, hb4, hbk4⟩ := fin (some (.exit id)) W3 hp.1
        exact ⟨_, _, hr, .inr ⟨rfl, ⟨.exit id, hIx _ _ _ _ hp.2 hb4, hbk4⟩, hold _ _ hp.1⟩⟩
      | goto t =>
        obtain ⟨hr, hb4, hbk4⟩ := fin (some (.goto t)) W3 hp.1
        exact ⟨_, _, hr, .inr ⟨rfl, ⟨.goto t, hIx _ _ _ _ hp.2 hb4, hbk4⟩, hold _ _ hp.1⟩⟩
      | panic ch => exact hp.elim
      | outgrown => exact hp.elim
    | ret => exact hp.elim
    | exit id => exact hp.elim
    | goto t => exact hp.elim
    | panic ch => exact hp.elim
    | outgrown => exact hp.elim

end Go.Proofs.YtimedmkpenbmkaaGreat

namespace Go.Proofs.YtimedmkpenbmkaaGreat
open Go.RowKit
set_option linter.unusedSimpArgs false
set_option linter.unusedVariables false

theorem mf (fn : Fn) (first cap : Array Value) (w : World) : (Instr.makeFunc fn first cap).run Tryz.prog w = .ok (.func fn first cap) w := rfl

theorem around_eq (wd wind voice p : Int) (pl g cf : Value) (bf : Fn) (b1 b2 : Array Value) (w : World) :
    Calls Tryz.prog 152 #[.agg #[.int .i64 wd, pl, .int .i64 wind, .int .i64 voice, g, cf], .int .i64 p, .func bf b1 b2] w fun e w' =>
      e = .returned (.func (.func 160) #[] #[.pointer (some ⟨w.heap.size + 1 + 1, 0, none⟩), .pointer (some ⟨w.heap.size + 1, 0, none⟩), .pointer (some ⟨w.heap.size, 0, none⟩)]) ∧
      ((w.alloc (.cells #[.int .i64 wd, pl, .int .i64 wind, .int .i64 voice, g, cf] 117)).alloc (.cells #[.int .i64 p] 3)).alloc (.cells #[.func bf b1 b2] 58) = w' := by
  have hmf := mf
  go_enter Tryz.func152, Tryz.ntmps152
  go_wp2
  go_ret
  exact ⟨rfl, rfl⟩

theorem steps_eq (wd wind voice p : Int) (pl g cf : Value) (w : World) :
    Calls Tryz.prog 133 #[.agg #[.int .i64 wd, pl, .int .i64 wind, .int .i64 voice, g, cf], .int .i64 p] w fun e w' =>
      e = .returned (.func (.func 151) #[] #[.pointer (some ⟨w.heap.size, 0, none⟩), .pointer (some ⟨w.heap.size + 1, 0, none⟩)]) ∧
      (w.alloc (.cells #[.int .i64 wd, pl, .int .i64 wind, .int .i64 voice, g, cf] 117)).alloc (.cells #[.int .i64 p] 3) = w' := by
  have hmf := mf
  go_enter Tryz.func133, Tryz.ntmps133
  go_wp2
  go_ret
  exact ⟨rfl, rfl⟩

set_option maxHeartbeats 400000 in
theorem least2_eq (a x : Int) (b : Nat) (cap : Nat) (w : World) (hx : w.cell? ⟨b, 0, none⟩ = some (.int .i64 x)) :
    Calls Tryz.prog 120 #[.int .i64 a, .slice (some ⟨b, 0, none⟩) 1 cap] w fun e w' => e = .returned (.int .i64 (if x < a then x else a)) ∧ w = w' := by
  by_cases h : x < a
  · have hfin : (if x < a then x else a) = x := if_pos h
    rw [hfin]
    clear hfin
    go_enter Tryz.func120, Tryz.ntmps120
    go_wp2
    refine wp_loop_rounds 2 ?_
    rw [rounds_succ]
    go_wp2
    rw [rounds_succ]
    go_wp2
    go_ret
    exact ⟨rfl, rfl⟩
  · have hfin : (if x < a then x else a) = a := if_neg h
    rw [hfin]
    clear hfin
    go_enter Tryz.func120, Tryz.ntmps120
    go_wp2
    refine wp_loop_rounds 2 ?_
    rw [rounds_succ]
    go_wp2
    rw [rounds_succ]
    go_wp2
    go_ret
    exact ⟨rfl, rfl⟩
end Go.Proofs.YtimedmkpenbmkaaGreat

namespace Go.Proofs.YtimedmkpenbmkaaGreat
open Go.RowKit

variable {n : Nat} {P : Program} {ops : Array Oper} {Q : Exit → Act → World → Prop}

/-- no operation of a region is a defer statement -/
def noDefer (ops : List Oper) : Bool := ops.all fun o => match o.op with | .defer _ => false | _ => true
theorem noDefer_spec {l : List Oper} (h : noDefer l = true) : ∀ (i : Nat) (o : Oper), l.toArray[i]? = some o → ∀ c, o.op ≠ .defer c := by
  intro i o ho c hc
  have hm : o ∈ l := by
    rw [List.getElem?_toArray] at ho
    exact List.mem_of_getElem? ho
  have := (List.all_eq_true.1 h) o hm
  rw [hc] at this
  cases this

theorem wpOpIn_round {i : Nat} {K : Act → World → Prop} {a : Act} {w : World} (l : Nat) (hd : ∀ o, ops[i]? = some o → ∀ c, o.op ≠ .defer c) (h : wpOpIn Fence.wide n P ops Q i K a w) : wpOpIn (Fence.wide.inRound l) n P ops Q i K a w := by
  unfold wpOpIn at *
  cases ho : ops[i]? with
  | none => rw [ho] at h; exact h
  | some o =>
    rw [ho] at h
    simp only at h ⊢
    split
    · rename_i hw
      rw [if_pos hw] at h
      unfold Oper.wpIn at *
      refine ⟨h.1, ?_⟩
      have h2 := h.2
      rw [show (Fence.wide.inRound l).round = some l from rfl, Oper.semAt_eq _ _ _ (hd o ho)]
      rw [show Fence.wide.round = none from rfl, Oper.semAt_none] at h2
      exact h2
    · rename_i hw
      rw [if_neg hw] at h
      exact h

theorem wpAnyIn_round {md : Region.Mode} (l : Nat) (hd : ∀ (i : Nat) o, ops[i]? = some o → ∀ c, o.op ≠ .defer c) : ∀ (fuel : Nat) (listed : Array Bool) (a : Act) (w : World),
    wpAnyIn Fence.wide n P md ops Q fuel listed a w → wpAnyIn (Fence.wide.inRound l) n P md ops Q fuel listed a w
  | 0, _, _, _, h => h
  | fuel + 1, _, _, _, h => ⟨h.1, fun i hi => wpOpIn_round l (hd i) (wpOpIn_mono (fun a' w' h' => wpAnyIn_round l hd fuel _ a' w' h') (h.2 i hi))⟩


/-- a region that draws its order and only reads, within a round -/
theorem region_quiet_round (l : Nat) {id : Nat} {a : Act} {w : World} {lo : List Oper} (hd : noDefer lo = true) (hm : P.follows .mixedOrders = true) (hB : Region.lexB .any lo.toArray = true)
    (h : wpQuietIn Fence.wide n P lo.toArray (fun w' => ∃ n, w' = w.drewN n) (fun a' => ∀ w', (∃ n, w' = w.drewN n) → Q .normal a' w') lo a) : (Code.region id lo.toArray true).wpIn (Fence.wide.inRound l) n P Q a w := by
  simp only [Region.lexB, Bool.and_eq_true] at hB
  refine wpIn_region_any hm (wpAnyIn_round l (noDefer_spec hd) _ _ _ _ (wpAnyIn_of_quiet (C := fun w' => ∃ n, w' = w.drewN n) (Q := fun a' => ∀ w', (∃ n, w' = w.drewN n) → Q .normal a' w') rfl (fun _ w' hw' h => h w' hw') _ _ _ _ ⟨1, rfl⟩ ?_))
  have := wpAnyQIn_lex (F := Fence.wide) (n := n) (C := fun w' => ∃ n, w' = w.drewN n) (md := .any) hB.1 lo 0 (Array.replicate lo.length false) a (by simp) (by simpa using hB.2) h
  simpa using this

/-- how many operations are still to come -/
def toCome (ops : Array Oper) (listed : Array Bool) : Nat := (List.range ops.size).countP fun j => !listed.getD j true

theorem toCome_set {i : Nat} {listed : Array Bool} (hi : i < ops.size) (hl : i < listed.size) (hf : listed.getD i true = false) : toCome ops (listed.setIfInBounds i true) < toCome ops listed := by
  have key : ∀ (l : List Nat), i ∈ l → (l.countP fun j => !(listed.setIfInBounds i true).getD j true) < l.countP fun j => !listed.getD j true := by
    have le : ∀ (l : List Nat), (l.countP fun j => !(listed.setIfInBounds i true).getD j true) ≤ l.countP fun j => !listed.getD j true := fun l => by
      refine List.countP_mono_left fun j _ h => ?_
      by_cases hj : i = j
      · subst hj; simp [hl] at h
      · simpa [Array.getElem?_setIfInBounds, hj] using h
    intro l
    induction l with
    | nil => intro h; cases h
    | cons x l ih =>
      intro h
      rw [List.countP_cons, List.countP_cons]
      by_cases hx : i = x
      · subst hx
        have h1 : (!(listed.setIfInBounds i true).getD i true) = false := by simp [hl]
        have h2 : (!listed.getD i true) = true := by simp only [hf]; rfl
        rw [h1, h2]
        have := le l
        rw [if_neg (by simp), if_pos rfl]; omega
      · have hm : i ∈ l := by rcases List.mem_cons.1 h with h | h; exact absurd h hx; exact h
        have h1 : (listed.setIfInBounds i true).getD x true = listed.getD x true := by simp [hx]
        rw [h1]
        have := ih hm
        omega
  exact key _ (List.mem_range.2 hi)

/-- a region whatever its order: by a property of what has been done, that each operation that may come keeps -/
theorem wpAnyIn_good {F : Fence} {md : Region.Mode} (Good : Array Bool → Act → World → Prop) (hsz : ∀ listed a w, Good listed a w → listed.size = ops.size)
    (hstep : ∀ listed a w, Good listed a w → ∀ i ∈ Region.ready md ops listed, wpOpIn F n P ops Q i (fun a' w' => Good (listed.setIfInBounds i true) a' w') a w)
    (hend : ∀ listed a w, Good listed a w → Region.ready md ops listed = [] → Q .normal a w) : ∀ (fuel : Nat) (listed : Array Bool) (a : Act) (w : World),
    toCome ops listed ≤ fuel → Good listed a w → wpAnyIn F n P md ops Q fuel listed a w
  | 0, listed, a, w, hf, hg => by
    have hr : Region.ready md ops listed = [] := by
      rw [List.eq_nil_iff_forall_not_mem]
      intro i hi
      obtain ⟨h1, o, ho, _⟩ := mem_ready.1 hi
      have hi' := (Array.getElem?_eq_some_iff.1 ho).1
      have := toCome_set (ops := ops) hi' (by rw [hsz _ _ _ hg]; exact hi') h1
      omega
    exact ⟨hr, hend _ _ _ hg hr⟩
  | fuel + 1, listed, a, w, hf, hg => by
    refine ⟨hend _ _ _ hg, fun i hi => wpOpIn_mono (fun a' w' h => ?_) (hstep _ _ _ hg i hi)⟩
    obtain ⟨h1, o, ho, _⟩ := mem_ready.1 hi
    have hi' := (Array.getElem?_eq_some_iff.1 ho).1
    have := toCome_set (ops := ops) hi' (by rw [hsz _ _ _ hg]; exact hi') h1
    exact wpAnyIn_good Good hsz hstep hend fuel _ a' w' (by omega) h


/-- each operation waits for earlier ones alone -/
def waitsBack (ops : Array Oper) : Bool := (List.range ops.size).all fun i => match ops[i]? with | some o => o.after.all fun e => e.on < i | none => true
theorem ready_nil {md : Region.Mode} {listed : Array Bool} (hsz : listed.size = ops.size) (hb : waitsBack ops = true) (h : Region.ready md ops listed = []) : ∀ i, i < ops.size → listed.getD i true = true := by
  intro i
  induction i using Nat.strongRecOn with
  | _ i ih =>
    intro hi
    cases hl : listed.getD i true with
    | true => rfl
    | false =>
      exfalso
      have hm : i ∈ Region.ready md ops listed := by
        refine mem_ready.2 ⟨hl, ops[i], Array.getElem?_eq_getElem hi, fun e he _ => ?_⟩
        have hw := (List.all_eq_true.1 hb) i (List.mem_range.2 hi)
        rw [Array.getElem?_eq_getElem hi] at hw
        have hlt : e.on < i := by simpa using (Array.all_eq_true_iff_forall_mem.1 hw) e he
        have := ih e.on hlt (by omega)
        rw [Array.getD_eq_getD_getElem?, Array.getElem?_eq_getElem (by omega)] at this ⊢
        exact this
      rw [h] at hm
      cases hm

end Go.Proofs.YtimedmkpenbmkaaGreat
