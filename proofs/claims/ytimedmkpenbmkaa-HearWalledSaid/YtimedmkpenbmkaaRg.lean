/- A region by what each of its operations leaves, over any way in which worlds may go on. -/
import Derived.Test.YtimedmkpenbmkaaRs
namespace Go.Proofs.Ytimedmkpenbmkaa.Rg
set_option linter.unusedSimpArgs false
set_option linter.unusedVariables false
open Go Go.RowKit Go.Proofs.Ytimedmkpenbmkaa.Rs
variable {P : Program} {ops : Array Oper}

/-- a way in which worlds may go on -/
structure IsGr (G : World → World → Prop) : Prop where
  refl : ∀ w, G w w
  trans : ∀ {a b c}, G a b → G b c → G a c
  drew : ∀ w : World, G w { w with drawn := w.drawn + 1 }
/-- what an operation leaves, where it only adds to the memory -/
def GrowAt (G : World → World → Prop) (P : Program) (o : Oper) (a : Act) (w : World) (Φ : Value → World → Prop) : Prop :=
  match (execOp a.eval o).run P w with
  | .ok (.value v) w' => G w w' ∧ Φ v w'
  | .ok .skip w' => G w w' ∧ Φ undef w'
  | .ok (.enter f args) w' => G w w' ∧ Calls P f args w' (fun e w'' => ∃ v, e = .returned v ∧ G w' w'' ∧ Φ v w'')
  | _ => False

/-- what is asked of one operation -/
def StepOk (G : World → World → Prop) (P : Program) (ops : Array Oper) (o : Oper) (a : Act) (w : World) (Φ : Value → World → Prop) : Prop :=
  if Region.wanted o (yielded ops a.tmps) = true then GrowAt G P o a w Φ else Φ undef w

section main
variable {n : Nat} {dl : List (List Nat)} {a0 : Act} {w0 : World} {Q : Exit → Act → World → Prop}

structure Inv (G : World → World → Prop) (ops : Array Oper) (n : Nat) (dl : List (List Nat)) (Spec : Nat → List Value → Value → World → Prop) (a0 : Act) (w0 : World) (V : Nat → Value) (listed : Array Bool) (a : Act) (w : World) : Prop where
  head : HeadInv .any ops n listed
  size : a.tmps.size = a0.tmps.size
  defers : a.defers = a0.defers
  slot : ∀ k, k < n → listed.getD k false = true → ∀ d, dstOf ops k = some d → d < a0.tmps.size → a.tmps[d]? = some (V k)
  other : ∀ d, (∀ k, k < n → listed.getD k false = true → dstOf ops k ≠ some d) → a.tmps[d]? = a0.tmps[d]?
  spec : ∀ k, k < n → listed.getD k false = true → Spec k ((dl.getD k []).map V) (V k) w
  gr : G w0 w

theorem Inv.looks {G : World → World → Prop} {Spec : Nat → List Value → Value → World → Prop} {V : Nat → Value} {listed : Array Bool} {a : Act} {w : World} (inv : Inv G ops n dl Spec a0 w0 V listed a w) {i : Nat} {o : Oper} (hi : ops[i]? = some o) (_hin : i < n) (hiu : listed.getD i false = false)
    (hr : ∀ e ∈ o.after, Region.binds .any e = true → listed.getD e.on false = true)
    (hdl : ∀ k ∈ dl.getD i [], k < n ∧ k ∈ depsOf ops n i)
    (hlook : ∀ k, k < n → ∀ d, dstOf ops k = some d → (d ∈ o.looksAt ops → k ∈ dl.getD i [] ∨ i ∈ depsOf ops n k ∨ i = k) ∧ True)
    (hnd : ∀ j k, j < n → k < n → j ≠ k → ∀ d, dstOf ops k = some d → dstOf ops j ≠ some d) :
    ∀ d ∈ o.looksAt ops, a.tmps[d]? = (canon ops V a0 (dl.getD i [])).tmps[d]? := by
  intro d hd
  have hdep : ∀ k ∈ dl.getD i [], listed.getD k false = true := fun k hk => depsOf_listed inv.head.closed n i (fun o' ho' => by rw [hi] at ho'; cases ho'; exact hr) k (hdl k hk).2
  by_cases hlt : d < a0.tmps.size
  · by_cases hex : ∃ k, k ∈ dl.getD i [] ∧ dstOf ops k = some d
    · obtain ⟨k, hk, hkd⟩ := hex
      rw [inv.slot k (hdl k hk).1 (hdep k hk) d hkd hlt, canon_in V hkd _ _ hk (fun j hj hjk => hnd j k (hdl j hj).1 (hdl k hk).1 hjk d hkd) hlt]
    · rw [canon_out V _ _ (fun k hk e => hex ⟨k, hk, e⟩)]
      refine inv.other d (fun k hk hl e => ?_)
      rcases (hlook k hk d e).1 hd with h | h | h
      · exact hex ⟨k, h, e⟩
      · have := depsOf_listed inv.head.closed n k (fun o' ho' e' he' hb' => inv.head.closed k o' ho' hl e' he' hb') i h
        rw [hiu] at this; cases this
      · subst h; rw [hiu] at hl; cases hl
  · have e1 : a.tmps[d]? = none := Array.getElem?_eq_none (by rw [inv.size]; exact Nat.le_of_not_lt hlt)
    have e2 : (canon ops V a0 (dl.getD i [])).tmps[d]? = none := Array.getElem?_eq_none (by rw [size_canon]; exact Nat.le_of_not_lt hlt)
    rw [e1, e2]

theorem Inv.step {G : World → World → Prop} (hG : IsGr G) {Spec : Nat → List Value → Value → World → Prop} {V : Nat → Value} {listed : Array Bool} {a : Act} {w w' : World} (inv : Inv G ops n dl Spec a0 w0 V listed a w) {i : Nat} {o : Oper} {v : Value} (hi : ops[i]? = some o) (hin : i < n) (hiu : listed.getD i false = false)
    (hri : i ∈ Region.ready .any ops listed)
    (hdl : ∀ j, j < n → ∀ k ∈ dl.getD j [], k < n ∧ k ∈ depsOf ops n j)
    (hnd : ∀ j k, j < n → k < n → j ≠ k → ∀ d, dstOf ops k = some d → dstOf ops j ≠ some d)
    (stable : ∀ i L v w w', Spec i L v w → G w w' → Spec i L v w')
    (hg : G w w') (hs : Spec i ((dl.getD i []).map V) v w') :
    Inv G ops n dl Spec a0 w0 (fun k => if k = i then v else V k) (listed.setIfInBounds i true) (a.put o.dst v) w' := by
  have hisz : i < listed.size := by rw [inv.head.size]; exact (Array.getElem?_eq_some_iff.1 hi).1
  have hdst : dstOf ops i = o.dst := by simp [dstOf, hi]
  have hdep : ∀ k, k < n → (k = i ∨ listed.getD k false = true) → ∀ j ∈ dl.getD k [], j ≠ i := fun k hk hkl j hj e => by
    have hm := (hdl k hk j hj).2
    rw [e] at hm
    have : listed.getD i false = true := by
      rcases hkl with rfl | hkl
      · obtain ⟨_, o', ho', hall⟩ := mem_ready.1 hri
        exact depsOf_listed inv.head.closed n k (fun o'' ho'' => by rw [ho'] at ho''; cases ho''; exact hall) k hm
      · exact depsOf_listed inv.head.closed n k (fun o' ho' e' he' hb' => inv.head.closed k o' ho' hkl e' he' hb') i hm
    rw [hiu] at this; cases this
  have hmap : ∀ k, k < n → (k = i ∨ listed.getD k false = true) → (dl.getD k []).map (fun k => if k = i then v else V k) = (dl.getD k []).map V := fun k hk hkl =>
    List.map_congr_left fun j hj => by rw [if_neg (hdep k hk hkl j hj)]
  refine ⟨inv.head.set hri hin, ?_, ?_, fun k hk hl d hd hlt => ?_, fun d hd => ?_, fun k hk hl => ?_, hG.trans inv.gr hg⟩
  · rw [← inv.size]; cases o.dst <;> simp [Act.put]
  · rw [← inv.defers]; cases o.dst <;> rfl
  · by_cases hki : k = i
    · subst hki
      rw [hdst] at hd
      rw [if_pos rfl, hd]
      simp [Act.put, inv.size, hlt]
    · rw [if_neg hki]
      rw [getD_set_ne false (fun e => hki e.symm)] at hl
      rw [← inv.slot k hk hl d hd hlt]
      cases ho : o.dst with
      | none => rfl
      | some d' =>
        simp only [Act.put]
        exact Array.getElem?_setIfInBounds_ne (fun e => hnd i k hin hk (fun e => hki e.symm) d hd (by rw [hdst, ho, e]))
  · have h1 : dstOf ops i ≠ some d := hd i hin (by simp [hisz])
    rw [hdst] at h1
    rw [← inv.other d (fun k hk hl e => by
      by_cases hki : k = i
      · subst hki; exact h1 (by rw [← hdst]; exact e)
      · exact hd k hk (by rw [getD_set_ne false (fun e => hki e.symm)]; exact hl) e)]
    cases ho : o.dst with
    | none => rfl
    | some d' => simp only [Act.put]; exact Array.getElem?_setIfInBounds_ne (fun e => h1 (by rw [ho, e]))
  · by_cases hki : k = i
    · subst hki
      rw [hmap k hk (.inl rfl)]
      simp only [if_true]
      exact hs
    · rw [getD_set_ne false (fun e => hki e.symm)] at hl
      rw [hmap k hk (.inr hl)]
      simp only [if_neg hki]
      exact stable _ _ _ _ _ (inv.spec k hk hl) hg

theorem head_all {G : World → World → Prop} (hG : IsGr G) {Spec : Nat → List Value → Value → World → Prop} (g : Nat)
    (hsel : ∀ (j : Nat) (o : Oper) cs b, ops[j]? = some o → o.op ≠ .select cs b) (hn : n ≤ ops.size)
    (hsink : n = ops.size ∨ (Region.sinkB .any ops n = true ∧ Region.chainB .any ops n = true))
    (hlow : ∀ i, i < n → ∀ o, ops[i]? = some o → ∀ e ∈ o.after, Region.binds .any e = true → e.on < i)
    (hdl : ∀ j, j < n → ∀ k ∈ dl.getD j [], k < n ∧ k ∈ depsOf ops n j)
    (hlook : ∀ i, i < n → ∀ o, ops[i]? = some o → ∀ k, k < n → ∀ d, dstOf ops k = some d → (d ∈ o.looksAt ops → k ∈ dl.getD i [] ∨ i ∈ depsOf ops n k ∨ i = k) ∧ True)
    (hnd : ∀ j k, j < n → k < n → j ≠ k → ∀ d, dstOf ops k = some d → dstOf ops j ≠ some d)
    (stable : ∀ i L v w w', Spec i L v w → G w w' → Spec i L v w')
    (step : ∀ i o V w, ops[i]? = some o → i < n → G w0 w → (∀ k ∈ dl.getD i [], Spec k ((dl.getD k []).map V) (V k) w) → StepOk G P ops o (canon ops V a0 (dl.getD i [])) w (Spec i ((dl.getD i []).map V)))
    (fin : ∀ V listed a w, Inv G ops n dl Spec a0 w0 V listed a w → (∀ k, k < n → listed.getD k false = true) → wpAny P .any ops Q g listed a w) :
    ∀ (f : Nat) (V : Nat → Value) (listed : Array Bool) (a : Act) (w : World), left n listed = f → Inv G ops n dl Spec a0 w0 V listed a w → wpAny P .any ops Q (f + g) listed a w := by
  intro f
  induction f with
  | zero => intro V listed a w hf inv; rw [Nat.zero_add]; exact fin V listed a w inv (left_zero hf)
  | succ f ih =>
    intro V listed a w hf inv
    have hun : ∃ i, i < n ∧ listed.getD i false = false ∧ ∀ j, j < i → listed.getD j false = true := by
      have hex : ∃ i, i < n ∧ listed.getD i false = false := by
        apply Classical.byContradiction
        intro hno
        have : left n listed = 0 := by
          unfold left
          rw [List.length_eq_zero_iff, List.filter_eq_nil_iff]
          intro i hi
          cases hv : listed.getD i false with
          | true => simp
          | false => exact absurd ⟨i, List.mem_range.1 hi, hv⟩ hno
        omega
      obtain ⟨i, h1, h2⟩ := hex
      induction i using Nat.strongRecOn with
      | _ i ihi =>
        by_cases h3 : ∀ j, j < i → listed.getD j false = true
        · exact ⟨i, h1, h2, h3⟩
        · simp only [Classical.not_forall] at h3
          obtain ⟨j, hj, hj2⟩ := h3
          exact ihi j hj (by omega) (by simpa using hj2)
    obtain ⟨i0, hi0, hi0u, hi0m⟩ := hun
    have hready0 : i0 ∈ Region.ready .any ops listed := by
      rw [mem_ready]
      have hlt : i0 < ops.size := by omega
      refine ⟨getD_in (by rw [inv.head.size]; exact hlt) hi0u, ops[i0], Array.getElem?_eq_getElem hlt, fun e he hb => hi0m _ (hlow i0 hi0 _ (Array.getElem?_eq_getElem hlt) e he hb)⟩
    rw [show f + 1 + g = (f + g) + 1 by omega]
    refine ⟨fun h => (by rw [h] at hready0; cases hready0), fun i hi => ?_⟩
    obtain ⟨hiu, o, ho, hall⟩ := mem_ready.1 hi
    have hiu' := getD_both hiu
    have hilt : i < ops.size := (Array.getElem?_eq_some_iff.1 ho).1
    have hin : i < n := by
      rcases hsink with h | ⟨h1, h2⟩
      · omega
      · by_cases hns : n < ops.size
        · rcases Nat.lt_or_ge i n with h | h
          · exact h
          · exact absurd hi (tail_waits h1 h2 hns inv.head _ i0 rfl hi0 (getD_in (by rw [inv.head.size]; omega) hi0u) i h)
        · omega
    have hso := step i o V w ho hin inv.gr (fun k hk => inv.spec k (hdl i hin k hk).1 (depsOf_listed inv.head.closed n i (fun o' ho' => by rw [ho] at ho'; cases ho'; exact hall) k (hdl i hin k hk).2))
    have hlk := inv.looks ho hin hiu' hall (hdl i hin) (hlook i hin o ho) hnd
    have hw := wanted_congr (ops := ops) o hlk
    have hex := exec_congr (ops := ops) o (fun cs b => hsel i o cs b ho) hlk
    have hnext : ∀ v w', G w w' → Spec i ((dl.getD i []).map V) v w' → wpAny P .any ops Q (f + g) (listed.setIfInBounds i true) (a.put o.dst v) w' := fun v w' hg hs =>
      ih _ _ _ _ (by have := left_set (n := n) hin (by rw [inv.head.size]; exact hilt) hiu'; omega) (inv.step hG ho hin hiu' hi hdl hnd stable hg hs)
    unfold StepOk at hso
    rw [← hw] at hso
    unfold wpOp
    simp only [ho]
    by_cases hwt : Region.wanted o (yielded ops a.tmps) = true
    · rw [if_pos hwt] at hso ⊢
      refine .inl ?_
      unfold GrowAt at hso
      unfold Oper.wp
      rw [← hex] at hso
      generalize (execOp a.eval o).run P w = r at hso
      cases r with
      | halt x w' => exact hso.elim
      | ok nx w' =>
        cases nx with
        | value v => exact hnext v w' hso.1 hso.2
        | skip => exact hnext undef w' hso.1 hso.2
        | enter fn args =>
          refine hso.2.mono ?_
          rintro e w'' ⟨v, rfl, h1, h2⟩
          exact hnext v w'' (hG.trans hso.1 h1) h2
        | _ => exact hso.elim
    · rw [if_neg hwt] at hso ⊢
      exact hnext undef w (hG.refl _) hso

/-- **THE REGION**, by what each operation leaves -/
theorem region_spec {G : World → World → Prop} (hG : IsGr G) {id : Nat} {l : List Oper} {w : World} {a0 : Act} {Q : Exit → Act → World → Prop} (n : Nat) (dl : List (List Nat)) (hm : P.follows .mixedOrders = true) (hB : shapeB l.toArray n dl = true)
    (Spec : Nat → List Value → Value → World → Prop) (stable : ∀ i L v w w', Spec i L v w → G w w' → Spec i L v w')
    (step : ∀ i o V w', l[i]? = some o → i < n → G w w' → (∀ k ∈ dl.getD i [], Spec k ((dl.getD k []).map V) (V k) w') → StepOk G P l.toArray o (canon l.toArray V a0 (dl.getD i [])) w' (Spec i ((dl.getD i []).map V)))
    (fin : ∀ V w', G w w' → (∀ k, k < n → Spec k ((dl.getD k []).map V) (V k) w') → wpList P l.toArray Q (l.drop n) (canon l.toArray V a0 (List.range n)) w') :
    (Code.region id l.toArray true).wp P Q a0 w := by
  simp only [shapeB, Bool.and_eq_true, decide_eq_true_eq, Bool.or_eq_true] at hB
  obtain ⟨⟨⟨⟨⟨hsel, hn⟩, hdlen⟩, hsink⟩, hall⟩, hseq⟩ := hB
  rw [List.all_eq_true] at hall
  have hops : ∀ i, i < n → ∃ o, l.toArray[i]? = some o ∧ (∀ e ∈ o.after, Region.binds .any e = true → e.on < i) ∧ (∀ k ∈ dl.getD i [], k < n ∧ k ∈ depsOf l.toArray n i) ∧
      (∀ k, k < n → ∀ d, dstOf l.toArray k = some d → (d ∈ o.looksAt l.toArray → k ∈ dl.getD i [] ∨ i ∈ depsOf l.toArray n k ∨ i = k) ∧ (k ≠ i → dstOf l.toArray i ≠ some d)) := by
    intro i hi
    have h := hall i (List.mem_range.2 hi)
    cases ho : l.toArray[i]? with
    | none => rw [ho] at h; cases h
    | some o =>
      rw [ho] at h
      simp only [Bool.and_eq_true, List.all_eq_true] at h
      obtain ⟨⟨h1, h2⟩, h3⟩ := h
      refine ⟨o, rfl, fun e he hb => ?_, fun k hk => ?_, fun k hk d hd => ?_⟩
      · have := h1 e (by simpa using he)
        rw [hb] at this; simpa using this
      · have := h2 k hk
        simpa using this
      · have := h3 k (List.mem_range.2 hk)
        rw [hd] at this
        simp only [Bool.and_eq_true, Bool.or_eq_true, Bool.not_eq_true', beq_iff_eq, decide_eq_true_eq, List.contains_iff_mem] at this
        refine ⟨fun hm => ?_, fun hne => ?_⟩
        · rcases this.1 with ((h | h) | h) | h
          · rw [show (o.looksAt l.toArray).contains d = true from List.contains_iff_mem.2 hm] at h; cases h
          · exact .inl h
          · exact .inr (.inl h)
          · exact .inr (.inr h)
        · rcases this.2 with h | h
          · exact absurd h hne
          · exact h
  have hnd : ∀ j k, j < n → k < n → j ≠ k → ∀ d, dstOf l.toArray k = some d → dstOf l.toArray j ≠ some d := fun j k hj hk hne d hd => by
    obtain ⟨o, _, _, _, h⟩ := hops j hj
    exact (h k hk d hd).2 (fun e => hne e.symm)
  refine wp_region_any hm ?_
  have inv0 : Inv G l.toArray n dl Spec a0 w (fun _ => undef) (Array.replicate l.toArray.size false) a0 { w with drawn := w.drawn + 1 } :=
    ⟨⟨by simp, fun j oj _ hl => (by rw [getD_replicate_false] at hl; cases hl), fun t _ ht => getD_in (by simpa using ht) (getD_replicate_false _ _)⟩, rfl, rfl,
      fun k _ hl => (by rw [getD_replicate_false] at hl; cases hl), fun _ _ => rfl, fun k _ hl => (by rw [getD_replicate_false] at hl; cases hl), hG.drew _⟩
  have hleft : left n (Array.replicate l.toArray.size false) = n := by
    unfold left
    rw [List.filter_eq_self.2 (fun i _ => by rw [getD_replicate_false]; rfl)]
    simp
  have := head_all hG (P := P) (Q := Q) (Spec := Spec) (dl := dl) (a0 := a0) (w0 := w) (l.toArray.size - n) (Region.noSelect_spec hsel) hn (by rcases hsink with h | h; exact .inl h; exact .inr h)
    (fun i hi o ho e he hb => by obtain ⟨o', ho', h1, _⟩ := hops i hi; rw [ho] at ho'; cases ho'; exact h1 e he hb)
    (fun j hj => by obtain ⟨_, _, _, h, _⟩ := hops j hj; exact h)
    (fun i hi o ho k hk d hd => by obtain ⟨o', ho', _, _, h⟩ := hops i hi; rw [ho] at ho'; cases ho'; exact ⟨(h k hk d hd).1, trivial⟩)
    hnd stable (fun i o V w' ho => step i o V w' (by simpa using ho)) ?_ n _ _ _ _ hleft inv0
  · rwa [show n + (l.toArray.size - n) = l.toArray.size by omega] at this
  · intro V listed a w' inv hl
    have hld : listed = ((List.range l.toArray.size).map (fun i => decide (i < n))).toArray := by
      apply Array.ext
      · rw [inv.head.size]; simp
      · intro i h1 h2
        have hi : i < l.toArray.size := by rw [inv.head.size] at h1; exact h1
        have e2 : ((List.range l.toArray.size).map (fun i => decide (i < n))).toArray[i] = decide (i < n) := by simp
        rw [e2]
        by_cases hin : i < n
        · have := hl i hin
          simp only [hin, decide_true]
          simpa [h1] using this
        · have := inv.head.tail i (by omega) hi
          simp only [hin, decide_false]
          simpa [h1] using this
    have hact : a = canon l.toArray V a0 (List.range n) := by
      have ht : a.tmps = (canon l.toArray V a0 (List.range n)).tmps := by
        apply Array.ext_getElem?
        intro d
        by_cases hlt : d < a0.tmps.size
        · by_cases hex : ∃ k, k < n ∧ dstOf l.toArray k = some d
          · obtain ⟨k, hk, hd⟩ := hex
            rw [inv.slot k hk (hl k hk) d hd hlt, canon_in V hd _ _ (List.mem_range.2 hk) (fun j hj hjk => hnd j k (List.mem_range.1 hj) hk hjk d hd) hlt]
          · rw [inv.other d (fun k hk _ e => hex ⟨k, hk, e⟩), canon_out V _ _ (fun k hk e => hex ⟨k, List.mem_range.1 hk, e⟩)]
        · have e1 : a.tmps[d]? = none := Array.getElem?_eq_none (by rw [inv.size]; exact Nat.le_of_not_lt hlt)
          have e2 : (canon l.toArray V a0 (List.range n)).tmps[d]? = none := Array.getElem?_eq_none (by rw [size_canon]; exact Nat.le_of_not_lt hlt)
          rw [e1, e2]
      have hdf : a.defers = (canon l.toArray V a0 (List.range n)).defers := by rw [inv.defers, defers_canon]
      obtain ⟨t, d⟩ := a
      generalize canon l.toArray V a0 (List.range n) = b at ht hdf
      obtain ⟨t', d'⟩ := b
      dsimp only at ht hdf
      rw [ht, hdf]
    have hf := fin V w' inv.gr (fun k hk => inv.spec k hk (hl k hk))
    rw [← hact] at hf
    have hdl : (l.drop n).length = l.toArray.size - n := by simp
    have hsq := wpAny_of_seq (P := P) (md := .any) (Q' := Q) (l.drop n) n listed a w' (fun j => by simp [List.getElem?_drop]) (by rw [hdl, hld]; exact hseq) hf
    rwa [hdl] at hsq
/-- what an operation's operand holds: the value of an operation that it knows of, else what the slot held -/
def GrowL (G : World → World → Prop) (P : Program) (o : Oper) (ρ : Operand → Value) (w : World) (Φ : Value → World → Prop) : Prop :=
  match (execOp ρ o).run P w with
  | .ok (.value v) w' => G w w' ∧ Φ v w'
  | .ok .skip w' => G w w' ∧ Φ undef w'
  | .ok (.enter f args) w' => G w w' ∧ Calls P f args w' (fun e w'' => ∃ v, e = .returned v ∧ G w' w'' ∧ Φ v w'')
  | _ => False
theorem GrowL.value {G : World → World → Prop} {o : Oper} {ρ : Operand → Value} {w w' : World} {v : Value} {Φ : Value → World → Prop} (h : (execOp ρ o).run P w = .ok (.value v) w') (hg : G w w') (hv : Φ v w') : GrowL G P o ρ w Φ := by
  unfold GrowL; rw [h]; exact ⟨hg, hv⟩
theorem GrowL.call {G : World → World → Prop} (hG : IsGr G) {o : Oper} {ρ : Operand → Value} {w : World} {Φ : Value → World → Prop} {f : FuncId} {args : Array Value} (h : (execOp ρ o).run P w = .ok (.enter f args) w) (hc : Calls P f args w (fun e w'' => ∃ v, e = .returned v ∧ G w w'' ∧ Φ v w'')) : GrowL G P o ρ w Φ := by
  unfold GrowL; rw [h]; exact ⟨hG.refl _, hc⟩

/-- each operation by what it leaves, which may be told of what the others left -/
def genSteps (G : World → World → Prop) (P : Program) (ds : List (Option Nat)) (a0 : Act) (w : World) (dl0 : List (List Nat)) (Sp : Nat → List Value → Value → World → Prop) : List Oper → Nat → List (List Nat) → Prop
  | o :: l, i, d :: dl => (∀ (V : Nat → Value) w', G w w' → (∀ k ∈ d, Sp k ((dl0.getD k []).map V) (V k) w') → if wantB o V = true then GrowL G P o (Rs.look ds V a0 d) w' (Sp i (d.map V)) else Sp i (d.map V) undef w') ∧ genSteps G P ds a0 w dl0 Sp l (i + 1) dl
  | _, _, _ => True
theorem genSteps_get {G : World → World → Prop} {ds : List (Option Nat)} {a0 : Act} {w : World} {dl0 : List (List Nat)} {Sp : Nat → List Value → Value → World → Prop} : ∀ (l : List Oper) (i : Nat) (dl : List (List Nat)), genSteps G P ds a0 w dl0 Sp l i dl → ∀ (j : Nat) (o : Oper) (d : List Nat), l[j]? = some o → dl[j]? = some d →
    ∀ (V : Nat → Value) w', G w w' → (∀ k ∈ d, Sp k ((dl0.getD k []).map V) (V k) w') → if wantB o V = true then GrowL G P o (Rs.look ds V a0 d) w' (Sp (i + j) (d.map V)) else Sp (i + j) (d.map V) undef w'
  | [], _, _, _, j, o, d, ho, _ => by simp at ho
  | _ :: _, _, [], _, j, o, d, _, hd => by simp at hd
  | o' :: l, i, d' :: dl, h, 0, o, d, ho, hd => by simp at ho hd; subst ho; subst hd; exact h.1
  | o' :: l, i, d' :: dl, h, j + 1, o, d, ho, hd => by
    have := genSteps_get l (i + 1) dl h.2 j o d (by simpa using ho) (by simpa using hd)
    rwa [show i + (j + 1) = i + 1 + j by omega]

/-- **A region by what each of its first operations leaves**, in whatever order. -/
theorem region_gen {G : World → World → Prop} (hG : IsGr G) {id : Nat} {l : List Oper} {w : World} {a0 : Act} {Q : Exit → Act → World → Prop} (n : Nat) (dl : List (List Nat)) (ds : List (Option Nat)) (Sp : Nat → List Value → Value → World → Prop) (hm : P.follows .mixedOrders = true) (hB : shapeB l.toArray n dl = true) (hS : slotsB l.toArray n a0.tmps.size dl ds = true)
    (stable : ∀ i L v w w', Sp i L v w → G w w' → Sp i L v w')
    (step : genSteps G P ds a0 w dl Sp l 0 dl)
    (fin : ∀ V w', G w w' → (∀ k, k < n → Sp k ((dl.getD k []).map V) (V k) w') → wpList P l.toArray Q (l.drop n) (canon l.toArray V a0 (List.range n)) w') :
    (Code.region id l.toArray true).wp P Q a0 w := by
  have hB' := hB
  simp only [shapeB, Bool.and_eq_true, decide_eq_true_eq] at hB'
  obtain ⟨⟨⟨⟨⟨hsel, hn⟩, hdlen⟩, _⟩, hall⟩, _⟩ := hB'
  rw [List.all_eq_true] at hall
  unfold slotsB at hS
  rw [List.all_eq_true] at hS
  have hdst : ∀ i, i < n → dstOf l.toArray i = ds.getD i none ∧ ∀ d, dstOf l.toArray i = some d → d < a0.tmps.size := fun i hi => by
    have h := hS i (List.mem_range.2 hi)
    simp only [Bool.and_eq_true, beq_iff_eq] at h
    refine ⟨h.1.1, fun d hd => ?_⟩
    have h2 := h.1.2
    rw [← h.1.1, hd] at h2
    simpa using h2
  refine region_spec hG n dl hm hB Sp stable (fun i o V w' ho hi hg hs => ?_) fin
  have hst := genSteps_get l 0 dl step i o (dl.getD i []) ho (by simp [List.getElem?_eq_getElem (show i < dl.length by omega)]) V w' hg hs
  rw [Nat.zero_add] at hst
  have hio := hall i (List.mem_range.2 hi)
  have hoo : l.toArray[i]? = some o := by simpa using ho
  rw [hoo] at hio
  simp only [Bool.and_eq_true, List.all_eq_true] at hio
  obtain ⟨⟨_, h2⟩, h3⟩ := hio
  have hdl : ∀ k ∈ dl.getD i [], k < n := fun k hk => by have := h2 k hk; simp only [Bool.and_eq_true, decide_eq_true_eq] at this; exact this.1
  have hnd : ∀ j k, j < n → k < n → j ≠ k → ∀ d, dstOf l.toArray k = some d → dstOf l.toArray j ≠ some d := fun j k hj hk hne d hd => by
    have h := hall j (List.mem_range.2 hj)
    cases hoj : l.toArray[j]? with
    | none => rw [hoj] at h; cases h
    | some oj =>
      rw [hoj] at h
      simp only [Bool.and_eq_true, List.all_eq_true] at h
      have := h.2 k (List.mem_range.2 hk)
      rw [hd] at this
      simp only [Bool.and_eq_true, Bool.or_eq_true, beq_iff_eq, decide_eq_true_eq] at this
      rcases this.2 with h | h
      · exact absurd h.symm hne
      · exact h
  have hslot : ∀ t, (canon l.toArray V a0 (dl.getD i [])).eval (.tmp t) = Rs.look ds V a0 (dl.getD i []) (.tmp t) := fun t => by
    unfold Rs.look
    simp only
    split
    · rename_i k hk
      have hkm := List.mem_of_find?_eq_some hk
      have hkd := List.find?_some hk
      simp only [beq_iff_eq] at hkd
      have hkn := hdl k hkm
      have e : dstOf l.toArray k = some t := by rw [(hdst k hkn).1]; exact hkd
      have := canon_in (ops := l.toArray) V e (dl.getD i []) a0 hkm (fun j hj hjk => hnd j k (hdl j hj) hkn hjk t e) ((hdst k hkn).2 t e)
      simp only [Act.eval, Array.getD_eq_getD_getElem?, this, Option.getD_some]
    · rename_i hk
      have hno : ∀ k ∈ dl.getD i [], dstOf l.toArray k ≠ some t := fun k hkm e => by
        have := List.find?_eq_none.1 hk k hkm
        rw [(hdst k (hdl k hkm)).1] at e
        rw [e] at this; exact this (by simp)
      have := canon_out (ops := l.toArray) V (d := t) (dl.getD i []) a0 hno
      simp only [Act.eval, Array.getD_eq_getD_getElem?, this]
  have hex : execOp (canon l.toArray V a0 (dl.getD i [])).eval o = execOp (Rs.look ds V a0 (dl.getD i [])) o :=
    execOp_congr o (fun c b => Region.noSelect_spec hsel i o c b hoo) fun x _ => by
      cases x with
      | tmp t => exact hslot t
      | _ => rfl
  have hwant : Region.wanted o (yielded l.toArray (canon l.toArray V a0 (dl.getD i [])).tmps) = wantB o V := by
    unfold Region.wanted wantB
    cases hgd : o.guard with
    | none => rfl
    | some gb =>
      obtain ⟨g, b⟩ := gb
      have h := hS i (List.mem_range.2 hi)
      rw [hoo] at h
      simp only [Option.bind_some, hgd, Bool.and_eq_true, List.contains_iff_mem] at h
      obtain ⟨hgm, hgs⟩ := h.2
      obtain ⟨t, ht⟩ := Option.isSome_iff_exists.1 hgs
      have hgn := hdl g hgm
      have hv := canon_in (ops := l.toArray) V ht (dl.getD i []) a0 hgm (fun j hj hjk => hnd j g (hdl j hj) hgn hjk t ht) ((hdst g hgn).2 t ht)
      have hy : yielded l.toArray (canon l.toArray V a0 (dl.getD i [])).tmps g = match V g with | .bool x => some x | _ => none := by
        unfold yielded
        unfold dstOf at ht
        simp only [ht, Option.bind_some, hv]
        cases V g <;> rfl
      simp only [hy]
      cases V g <;> simp
  unfold StepOk
  rw [hwant]
  by_cases hw : wantB o V = true
  · rw [if_pos hw] at hst ⊢
    unfold GrowL at hst
    unfold GrowAt
    rw [hex]
    exact hst
  · rw [if_neg hw] at hst ⊢
    exact hst
end main
end Go.Proofs.Ytimedmkpenbmkaa.Rg
