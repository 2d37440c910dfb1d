/- Contracts and mathematics, part 3. -/
import Derived.Test.YtimedmkpenbmkaaGreatRab
import Derived.Laws.ResultCell
section
namespace Go.Proofs.YtimedmkpenbmkaaGreat.Rk
set_option linter.unusedSimpArgs false
set_option linter.unusedVariables false
open Go Go.RowKit Go.Proofs.YtimedmkpenbmkaaGreat.Rs
open Go.Proofs.YtimedmkpenbmkaaGreat.Rg (IsGr)
variable {P : Program} {ops : Array Oper}
/-- what an operation leaves, where it only adds to the memory -/
def GrowAt (G : World → World → Prop) (P : Program) (o : Oper) (a : Act) (w : World) (Φ : Value → World → Prop) : Prop :=
  match (execOp a.eval o).run P w with
  | .ok (.value v) w' => G w w' ∧ Φ v w'
  | .ok .skip w' => G w w' ∧ Φ undef w'
  | .ok (.enter f args) w' => w' = w ∧ Calls P f args w' (fun e w'' => ∃ v, e = .returned v ∧ G w w'' ∧ Φ v w'')
  | _ => False
/-- what is asked of one operation -/
def StepOk (G : World → World → Prop) (P : Program) (ops : Array Oper) (o : Oper) (a : Act) (w : World) (Φ : Value → World → Prop) : Prop :=
  if Region.wanted o (yielded ops a.tmps) = true then GrowAt G P o a w Φ else Φ undef w
section main
variable {n : Nat} {dl : List (List Nat)} {a0 : Act} {w0 : World} {Q : Exit → Act → World → Prop}
structure Inv (G : World → World → Prop) (j0 : Nat) (ops : Array Oper) (n : Nat) (dl : List (List Nat)) (Spec : Nat → Bool → List Value → Value → World → Prop) (a0 : Act) (w0 : World) (V : Nat → Value) (listed : Array Bool) (a : Act) (w : World) : Prop where
  head : HeadInv .any ops n listed
  size : a.tmps.size = a0.tmps.size
  defers : a.defers = a0.defers
  slot : ∀ k, k < n → listed.getD k false = true → ∀ d, dstOf ops k = some d → d < a0.tmps.size → a.tmps[d]? = some (V k)
  other : ∀ d, (∀ k, k < n → listed.getD k false = true → dstOf ops k ≠ some d) → a.tmps[d]? = a0.tmps[d]?
  spec : ∀ k, k < n → listed.getD k false = true → Spec k (listed.getD j0 false) ((dl.getD k []).map V) (V k) w
  gr : G w0 w
theorem Inv.looks {G : World → World → Prop} {j0 : Nat} {Spec : Nat → Bool → List Value → Value → World → Prop} {V : Nat → Value} {listed : Array Bool} {a : Act} {w : World} (inv : Inv G j0 ops n dl Spec a0 w0 V listed a w) {i : Nat} {o : Oper} (hi : ops[i]? = some o) (_hin : i < n) (hiu : listed.getD i false = false)
    (hr : ∀ e ∈ o.after, Region.binds .any e = true → listed.getD e.on false = true)
    (hdl : ∀ k ∈ dl.getD i [], k < n ∧ k ∈ depsOf ops n i)
    (hlook : ∀ k, k < n → ∀ d, dstOf ops k = some d → (d ∈ o.looksAt ops → k ∈ dl.getD i [] ∨ i ∈ depsOf ops n k ∨ i = k) ∧ True)
    (hnd : ∀ j k, j < n → k < n → j ≠ k → ∀ d, dstOf ops k = some d → dstOf ops j ≠ some d) :
    ∀ d ∈ o.looksAt ops, a.tmps[d]? = (canon ops V a0 (dl.getD i [])).tmps[d]? := by
  intro d hd
  have hdep : ∀ k ∈ dl.getD i [], listed.getD k false = true := fun k hk => depsOf_listed inv.head.closed n i (fun o' ho' => by rw [hi] at ho'; cases ho'; exact hr) k (hdl k hk).2
  by_cases hlt : d < a0.tmps.size
  · by_cases hex : ∃ k, k ∈ dl.getD i [] ∧ dstOf ops k = some d
    · obtain ⟨k, hk, hkd⟩ := hex
      rw [inv.slot k (hdl k hk).1 (hdep k hk) d hkd hlt, canon_in V hkd _ _ hk (fun j hj hjk => hnd j k (hdl j hj).1 (hdl k hk).1 hjk d hkd) hlt]
    · rw [canon_out V _ _ (fun k hk e => hex ⟨k, hk, e⟩)]
      refine inv.other d (fun k hk hl e => ?_)
      rcases (hlook k hk d e).1 hd with h | h | h
      · exact hex ⟨k, h, e⟩
      · have := depsOf_listed inv.head.closed n k (fun o' ho' e' he' hb' => inv.head.closed k o' ho' hl e' he' hb') i h
        rw [hiu] at this; cases this
      · subst h; rw [hiu] at hl; cases hl
  · have e1 : a.tmps[d]? = none := Array.getElem?_eq_none (by rw [inv.size]; exact Nat.le_of_not_lt hlt)
    have e2 : (canon ops V a0 (dl.getD i [])).tmps[d]? = none := Array.getElem?_eq_none (by rw [size_canon]; exact Nat.le_of_not_lt hlt)
    rw [e1, e2]
theorem Inv.step {G : World → World → Prop} {j0 : Nat} (hG : IsGr G) {Spec : Nat → Bool → List Value → Value → World → Prop} {V : Nat → Value} {listed : Array Bool} {a : Act} {w w' : World} (inv : Inv G j0 ops n dl Spec a0 w0 V listed a w) {i : Nat} {o : Oper} {v : Value} (hi : ops[i]? = some o) (hin : i < n) (hiu : listed.getD i false = false)
    (hri : i ∈ Region.ready .any ops listed)
    (hdl : ∀ j, j < n → ∀ k ∈ dl.getD j [], k < n ∧ k ∈ depsOf ops n j)
    (hnd : ∀ j k, j < n → k < n → j ≠ k → ∀ d, dstOf ops k = some d → dstOf ops j ≠ some d)
    (stable : ∀ k L v, Spec k (listed.getD j0 false) L v w → Spec k (listed.getD j0 false || i == j0) L v w')
    (hg : G w w') (hs : Spec i (listed.getD j0 false || i == j0) ((dl.getD i []).map V) v w') :
    Inv G j0 ops n dl Spec a0 w0 (fun k => if k = i then v else V k) (listed.setIfInBounds i true) (a.put o.dst v) w' := by
  have hisz : i < listed.size := by rw [inv.head.size]; exact (Array.getElem?_eq_some_iff.1 hi).1
  have hdst : dstOf ops i = o.dst := by simp [dstOf, hi]
  have hdep : ∀ k, k < n → (k = i ∨ listed.getD k false = true) → ∀ j ∈ dl.getD k [], j ≠ i := fun k hk hkl j hj e => by
    have hm := (hdl k hk j hj).2
    rw [e] at hm
    have : listed.getD i false = true := by
      rcases hkl with rfl | hkl
      · obtain ⟨_, o', ho', hall⟩ := mem_ready.1 hri
        exact depsOf_listed inv.head.closed n k (fun o'' ho'' => by rw [ho'] at ho''; cases ho''; exact hall) k hm
      · exact depsOf_listed inv.head.closed n k (fun o' ho' e' he' hb' => inv.head.closed k o' ho' hkl e' he' hb') i hm
    rw [hiu] at this; cases this
  have hmap : ∀ k, k < n → (k = i ∨ listed.getD k false = true) → (dl.getD k []).map (fun k => if k = i then v else V k) = (dl.getD k []).map V := fun k hk hkl =>
    List.map_congr_left fun j hj => by rw [if_neg (hdep k hk hkl j hj)]
  have hj0 : (listed.setIfInBounds i true).getD j0 false = (listed.getD j0 false || i == j0) := by
    by_cases e : i = j0
    · subst e; simp [hisz]
    · rw [getD_set_ne false e]; simp [e]
  refine ⟨inv.head.set hri hin, ?_, ?_, fun k hk hl d hd hlt => ?_, fun d hd => ?_, fun k hk hl => ?_, hG.trans inv.gr hg⟩
  · rw [← inv.size]; cases o.dst <;> simp [Act.put]
  · rw [← inv.defers]; cases o.dst <;> rfl
  · by_cases hki : k = i
    · subst hki
      rw [hdst] at hd
      rw [if_pos rfl, hd]
      simp [Act.put, inv.size, hlt]
    · rw [if_neg hki]
      rw [getD_set_ne false (fun e => hki e.symm)] at hl
      rw [← inv.slot k hk hl d hd hlt]
      cases ho : o.dst with
      | none => rfl
      | some d' =>
        simp only [Act.put]
        exact Array.getElem?_setIfInBounds_ne (fun e => hnd i k hin hk (fun e => hki e.symm) d hd (by rw [hdst, ho, e]))
  · have h1 : dstOf ops i ≠ some d := hd i hin (by simp [hisz])
    rw [hdst] at h1
    rw [← inv.other d (fun k hk hl e => by
      by_cases hki : k = i
      · subst hki; exact h1 (by rw [← hdst]; exact e)
      · exact hd k hk (by rw [getD_set_ne false (fun e => hki e.symm)]; exact hl) e)]
    cases ho : o.dst with
    | none => rfl
    | some d' => simp only [Act.put]; exact Array.getElem?_setIfInBounds_ne (fun e => h1 (by rw [ho, e]))
  · by_cases hki : k = i
    · subst hki
      rw [hmap k hk (.inl rfl), hj0]
      simp only [if_true]
      exact hs
    · rw [getD_set_ne false (fun e => hki e.symm)] at hl
      rw [hmap k hk (.inr hl), hj0]
      simp only [if_neg hki]
      exact stable _ _ _ (inv.spec k hk hl)
theorem head_all {G : World → World → Prop} {j0 : Nat} {Gi : Nat → World → World → Prop} (hG : IsGr G) (hA : ∀ i a b, Gi i a b → G a b) (hRf : ∀ i a, Gi i a a) {Spec : Nat → Bool → List Value → Value → World → Prop} (g : Nat)
    (hsel : ∀ (j : Nat) (o : Oper) cs b, ops[j]? = some o → o.op ≠ .select cs b) (hn : n ≤ ops.size)
    (hsink : n = ops.size ∨ (Region.sinkB .any ops n = true ∧ Region.chainB .any ops n = true))
    (hlow : ∀ i, i < n → ∀ o, ops[i]? = some o → ∀ e ∈ o.after, Region.binds .any e = true → e.on < i)
    (hdl : ∀ j, j < n → ∀ k ∈ dl.getD j [], k < n ∧ k ∈ depsOf ops n j)
    (hlook : ∀ i, i < n → ∀ o, ops[i]? = some o → ∀ k, k < n → ∀ d, dstOf ops k = some d → (d ∈ o.looksAt ops → k ∈ dl.getD i [] ∨ i ∈ depsOf ops n k ∨ i = k) ∧ True)
    (hnd : ∀ j k, j < n → k < n → j ≠ k → ∀ d, dstOf ops k = some d → dstOf ops j ≠ some d)
    (stable : ∀ i c w w', (i = j0 → c = false) → Gi i w w' → ∀ k L v, Spec k c L v w → Spec k (c || i == j0) L v w')
    (step : ∀ i o V w c, ops[i]? = some o → i < n → G w0 w → (i = j0 → c = false) → (∀ k ∈ dl.getD i [], Spec k c ((dl.getD k []).map V) (V k) w) → StepOk (Gi i) P ops o (canon ops V a0 (dl.getD i [])) w (Spec i (c || i == j0) ((dl.getD i []).map V)))
    (fin : ∀ V listed a w, Inv G j0 ops n dl Spec a0 w0 V listed a w → (∀ k, k < n → listed.getD k false = true) → wpAny P .any ops Q g listed a w) :
    ∀ (f : Nat) (V : Nat → Value) (listed : Array Bool) (a : Act) (w : World), left n listed = f → Inv G j0 ops n dl Spec a0 w0 V listed a w → wpAny P .any ops Q (f + g) listed a w := by
  intro f
  induction f with
  | zero => intro V listed a w hf inv; rw [Nat.zero_add]; exact fin V listed a w inv (left_zero hf)
  | succ f ih =>
    intro V listed a w hf inv
    have hun : ∃ i, i < n ∧ listed.getD i false = false ∧ ∀ j, j < i → listed.getD j false = true := by
      have hex : ∃ i, i < n ∧ listed.getD i false = false := by
        apply Classical.byContradiction
        intro hno
        have : left n listed = 0 := by
          unfold left
          rw [List.length_eq_zero_iff, List.filter_eq_nil_iff]
          intro i hi
          cases hv : listed.getD i false with
          | true => simp
          | false => exact absurd ⟨i, List.mem_range.1 hi, hv⟩ hno
        omega
      obtain ⟨i, h1, h2⟩ := hex
      induction i using Nat.strongRecOn with
      | _ i ihi =>
        by_cases h3 : ∀ j, j < i → listed.getD j false = true
        · exact ⟨i, h1, h2, h3⟩
        · simp only [Classical.not_forall] at h3
          obtain ⟨j, hj, hj2⟩ := h3
          exact ihi j hj (by omega) (by simpa using hj2)
    obtain ⟨i0, hi0, hi0u, hi0m⟩ := hun
    have hready0 : i0 ∈ Region.ready .any ops listed := by
      rw [mem_ready]
      have hlt : i0 < ops.size := by omega
      refine ⟨getD_in (by rw [inv.head.size]; exact hlt) hi0u, ops[i0], Array.getElem?_eq_getElem hlt, fun e he hb => hi0m _ (hlow i0 hi0 _ (Array.getElem?_eq_getElem hlt) e he hb)⟩
    rw [show f + 1 + g = (f + g) + 1 by omega]
    refine ⟨fun h => (by rw [h] at hready0; cases hready0), fun i hi => ?_⟩
    obtain ⟨hiu, o, ho, hall⟩ := mem_ready.1 hi
    have hiu' := getD_both hiu
    have hilt : i < ops.size := (Array.getElem?_eq_some_iff.1 ho).1
    have hin : i < n := by
      rcases hsink with h | ⟨h1, h2⟩
      · omega
      · by_cases hns : n < ops.size
        · rcases Nat.lt_or_ge i n with h | h
          · exact h
          · exact absurd hi (tail_waits h1 h2 hns inv.head _ i0 rfl hi0 (getD_in (by rw [inv.head.size]; omega) hi0u) i h)
        · omega
    have hc0 : i = j0 → listed.getD j0 false = false := fun e => by rw [← e]; exact hiu'
    have hso := step i o V w (listed.getD j0 false) ho hin inv.gr hc0 (fun k hk => inv.spec k (hdl i hin k hk).1 (depsOf_listed inv.head.closed n i (fun o' ho' => by rw [ho] at ho'; cases ho'; exact hall) k (hdl i hin k hk).2))
    have hlk := inv.looks ho hin hiu' hall (hdl i hin) (hlook i hin o ho) hnd
    have hw := wanted_congr (ops := ops) o hlk
    have hex := exec_congr (ops := ops) o (fun cs b => hsel i o cs b ho) hlk
    have hnext : ∀ v w', Gi i w w' → Spec i (listed.getD j0 false || i == j0) ((dl.getD i []).map V) v w' → wpAny P .any ops Q (f + g) (listed.setIfInBounds i true) (a.put o.dst v) w' := fun v w' hg hs =>
      ih _ _ _ _ (by have := left_set (n := n) hin (by rw [inv.head.size]; exact hilt) hiu'; omega) (inv.step hG ho hin hiu' hi hdl hnd (stable i _ _ _ hc0 hg) (hA _ _ _ hg) hs)
    unfold StepOk at hso
    rw [← hw] at hso
    unfold wpOp
    simp only [ho]
    by_cases hwt : Region.wanted o (yielded ops a.tmps) = true
    · rw [if_pos hwt] at hso ⊢
      refine .inl ?_
      unfold GrowAt at hso
      unfold Oper.wp
      rw [← hex] at hso
      generalize (execOp a.eval o).run P w = r at hso
      cases r with
      | halt x w' => exact hso.elim
      | ok nx w' =>
        cases nx with
        | value v => exact hnext v w' hso.1 hso.2
        | skip => exact hnext undef w' hso.1 hso.2
        | enter fn args =>
          refine hso.2.mono ?_
          rintro e w'' ⟨v, rfl, h1, h2⟩
          exact hnext v w'' h1 h2
        | _ => exact hso.elim
    · rw [if_neg hwt] at hso ⊢
      exact hnext undef w (hRf _ _) hso
/-- **THE REGION**, by what each operation leaves -/
theorem region_spec {G : World → World → Prop} {j0 : Nat} {Gi : Nat → World → World → Prop} (hG : IsGr G) (hA : ∀ i a b, Gi i a b → G a b) (hRf : ∀ i a, Gi i a a) {id : Nat} {l : List Oper} {w : World} {a0 : Act} {Q : Exit → Act → World → Prop} (n : Nat) (dl : List (List Nat)) (hm : P.follows .mixedOrders = true) (hB : shapeB l.toArray n dl = true)
    (hj0 : j0 < n) (Spec : Nat → Bool → List Value → Value → World → Prop) (stable : ∀ i c w w', (i = j0 → c = false) → Gi i w w' → ∀ k L v, Spec k c L v w → Spec k (c || i == j0) L v w')
    (step : ∀ i o V w' c, l[i]? = some o → i < n → G w w' → (i = j0 → c = false) → (∀ k ∈ dl.getD i [], Spec k c ((dl.getD k []).map V) (V k) w') → StepOk (Gi i) P l.toArray o (canon l.toArray V a0 (dl.getD i [])) w' (Spec i (c || i == j0) ((dl.getD i []).map V)))
    (fin : ∀ V w', G w w' → (∀ k, k < n → Spec k true ((dl.getD k []).map V) (V k) w') → wpList P l.toArray Q (l.drop n) (canon l.toArray V a0 (List.range n)) w') :
    (Code.region id l.toArray true).wp P Q a0 w := by
  simp only [shapeB, Bool.and_eq_true, decide_eq_true_eq, Bool.or_eq_true] at hB
  obtain ⟨⟨⟨⟨⟨hsel, hn⟩, hdlen⟩, hsink⟩, hall⟩, hseq⟩ := hB
  rw [List.all_eq_true] at hall
  have hops : ∀ i, i < n → ∃ o, l.toArray[i]? = some o ∧ (∀ e ∈ o.after, Region.binds .any e = true → e.on < i) ∧ (∀ k ∈ dl.getD i [], k < n ∧ k ∈ depsOf l.toArray n i) ∧
      (∀ k, k < n → ∀ d, dstOf l.toArray k = some d → (d ∈ o.looksAt l.toArray → k ∈ dl.getD i [] ∨ i ∈ depsOf l.toArray n k ∨ i = k) ∧ (k ≠ i → dstOf l.toArray i ≠ some d)) := by
    intro i hi
    have h := hall i (List.mem_range.2 hi)
    cases ho : l.toArray[i]? with
    | none => rw [ho] at h; cases h
    | some o =>
      rw [ho] at h
      simp only [Bool.and_eq_true, List.all_eq_true] at h
      obtain ⟨⟨h1, h2⟩, h3⟩ := h
      refine ⟨o, rfl, fun e he hb => ?_, fun k hk => ?_, fun k hk d hd => ?_⟩
      · have := h1 e (by simpa using he)
        rw [hb] at this; simpa using this
      · have := h2 k hk
        simpa using this
      · have := h3 k (List.mem_range.2 hk)
        rw [hd] at this
        simp only [Bool.and_eq_true, Bool.or_eq_true, Bool.not_eq_true', beq_iff_eq, decide_eq_true_eq, List.contains_iff_mem] at this
        refine ⟨fun hm => ?_, fun hne => ?_⟩
        · rcases this.1 with ((h | h) | h) | h
          · rw [show (o.looksAt l.toArray).contains d = true from List.contains_iff_mem.2 hm] at h; cases h
          · exact .inl h
          · exact .inr (.inl h)
          · exact .inr (.inr h)
        · rcases this.2 with h | h
          · exact absurd h hne
          · exact h
  have hnd : ∀ j k, j < n → k < n → j ≠ k → ∀ d, dstOf l.toArray k = some d → dstOf l.toArray j ≠ some d := fun j k hj hk hne d hd => by
    obtain ⟨o, _, _, _, h⟩ := hops j hj
    exact (h k hk d hd).2 (fun e => hne e.symm)
  refine wp_region_any hm ?_
  have inv0 : Inv G j0 l.toArray n dl Spec a0 w (fun _ => undef) (Array.replicate l.toArray.size false) a0 { w with drawn := w.drawn + 1 } :=
    ⟨⟨by simp, fun j oj _ hl => (by rw [getD_replicate_false] at hl; cases hl), fun t _ ht => getD_in (by simpa using ht) (getD_replicate_false _ _)⟩, rfl, rfl,
      fun k _ hl => (by rw [getD_replicate_false] at hl; cases hl), fun _ _ => rfl, fun k _ hl => (by rw [getD_replicate_false] at hl; cases hl), hG.drew _⟩
  have hleft : left n (Array.replicate l.toArray.size false) = n := by
    unfold left
    rw [List.filter_eq_self.2 (fun i _ => by rw [getD_replicate_false]; rfl)]
    simp
  have := head_all hG hA hRf (P := P) (Q := Q) (Spec := Spec) (dl := dl) (a0 := a0) (w0 := w) (l.toArray.size - n) (Region.noSelect_spec hsel) hn (by rcases hsink with h | h; exact .inl h; exact .inr h)
    (fun i hi o ho e he hb => by obtain ⟨o', ho', h1, _⟩ := hops i hi; rw [ho] at ho'; cases ho'; exact h1 e he hb)
    (fun j hj => by obtain ⟨_, _, _, h, _⟩ := hops j hj; exact h)
    (fun i hi o ho k hk d hd => by obtain ⟨o', ho', _, _, h⟩ := hops i hi; rw [ho] at ho'; cases ho'; exact ⟨(h k hk d hd).1, trivial⟩)
    hnd stable (fun i o V w' c ho => step i o V w' c (by simpa using ho)) ?_ n _ _ _ _ hleft inv0
  · rwa [show n + (l.toArray.size - n) = l.toArray.size by omega] at this
  · intro V listed a w' inv hl
    have hld : listed = ((List.range l.toArray.size).map (fun i => decide (i < n))).toArray := by
      apply Array.ext
      · rw [inv.head.size]; simp
      · intro i h1 h2
        have hi : i < l.toArray.size := by rw [inv.head.size] at h1; exact h1
        have e2 : ((List.range l.toArray.size).map (fun i => decide (i < n))).toArray[i] = decide (i < n) := by simp
        rw [e2]
        by_cases hin : i < n
        · have := hl i hin
          simp only [hin, decide_true]
          simpa [h1] using this
        · have := inv.head.tail i (by omega) hi
          simp only [hin, decide_false]
          simpa [h1] using this
    have hact : a = canon l.toArray V a0 (List.range n) := by
      have ht : a.tmps = (canon l.toArray V a0 (List.range n)).tmps := by
        apply Array.ext_getElem?
        intro d
        by_cases hlt : d < a0.tmps.size
        · by_cases hex : ∃ k, k < n ∧ dstOf l.toArray k = some d
          · obtain ⟨k, hk, hd⟩ := hex
            rw [inv.slot k hk (hl k hk) d hd hlt, canon_in V hd _ _ (List.mem_range.2 hk) (fun j hj hjk => hnd j k (List.mem_range.1 hj) hk hjk d hd) hlt]
          · rw [inv.other d (fun k hk _ e => hex ⟨k, hk, e⟩), canon_out V _ _ (fun k hk e => hex ⟨k, List.mem_range.1 hk, e⟩)]
        · have e1 : a.tmps[d]? = none := Array.getElem?_eq_none (by rw [inv.size]; exact Nat.le_of_not_lt hlt)
          have e2 : (canon l.toArray V a0 (List.range n)).tmps[d]? = none := Array.getElem?_eq_none (by rw [size_canon]; exact Nat.le_of_not_lt hlt)
          rw [e1, e2]
      have hdf : a.defers = (canon l.toArray V a0 (List.range n)).defers := by rw [inv.defers, defers_canon]
      obtain ⟨t, d⟩ := a
      generalize canon l.toArray V a0 (List.range n) = b at ht hdf
      obtain ⟨t', d'⟩ := b
      dsimp only at ht hdf
      rw [ht, hdf]
    have hf := fin V w' inv.gr (fun k hk => by have := inv.spec k hk (hl k hk); rwa [hl j0 hj0] at this)
    rw [← hact] at hf
    have hdl : (l.drop n).length = l.toArray.size - n := by simp
    have hsq := wpAny_of_seq (P := P) (md := .any) (Q' := Q) (l.drop n) n listed a w' (fun j => by simp [List.getElem?_drop]) (by rw [hdl, hld]; exact hseq) hf
    rwa [hdl] at hsq
/-- what an operation's operand holds: the value of an operation that it knows of, else what the slot held -/
def GrowL (G : World → World → Prop) (P : Program) (o : Oper) (ρ : Operand → Value) (w : World) (Φ : Value → World → Prop) : Prop :=
  match (execOp ρ o).run P w with
  | .ok (.value v) w' => G w w' ∧ Φ v w'
  | .ok .skip w' => G w w' ∧ Φ undef w'
  | .ok (.enter f args) w' => w' = w ∧ Calls P f args w' (fun e w'' => ∃ v, e = .returned v ∧ G w w'' ∧ Φ v w'')
  | _ => False
theorem GrowL.value {G : World → World → Prop} {o : Oper} {ρ : Operand → Value} {w w' : World} {v : Value} {Φ : Value → World → Prop} (h : (execOp ρ o).run P w = .ok (.value v) w') (hg : G w w') (hv : Φ v w') : GrowL G P o ρ w Φ := by
  unfold GrowL; rw [h]; exact ⟨hg, hv⟩
theorem GrowL.call {G : World → World → Prop} {o : Oper} {ρ : Operand → Value} {w : World} {Φ : Value → World → Prop} {f : FuncId} {args : Array Value} (h : (execOp ρ o).run P w = .ok (.enter f args) w) (hc : Calls P f args w (fun e w'' => ∃ v, e = .returned v ∧ G w w'' ∧ Φ v w'')) : GrowL G P o ρ w Φ := by
  unfold GrowL; rw [h]; exact ⟨rfl, hc⟩
/-- each operation by what it leaves, which may be told of what the others left -/
def genSteps (G : World → World → Prop) (j0 : Nat) (Gi : Nat → World → World → Prop) (P : Program) (ds : List (Option Nat)) (a0 : Act) (w : World) (dl0 : List (List Nat)) (Sp : Nat → Bool → List Value → Value → World → Prop) : List Oper → Nat → List (List Nat) → Prop
  | o :: l, i, d :: dl => (∀ (V : Nat → Value) w' c, G w w' → (i = j0 → c = false) → (∀ k ∈ d, Sp k c ((dl0.getD k []).map V) (V k) w') → if wantB o V = true then GrowL (Gi i) P o (Rs.look ds V a0 d) w' (Sp i (c || i == j0) (d.map V)) else Sp i (c || i == j0) (d.map V) undef w') ∧ genSteps G j0 Gi P ds a0 w dl0 Sp l (i + 1) dl
  | _, _, _ => True
theorem genSteps_get {G : World → World → Prop} {j0 : Nat} {Gi : Nat → World → World → Prop} {ds : List (Option Nat)} {a0 : Act} {w : World} {dl0 : List (List Nat)} {Sp : Nat → Bool → List Value → Value → World → Prop} : ∀ (l : List Oper) (i : Nat) (dl : List (List Nat)), genSteps G j0 Gi P ds a0 w dl0 Sp l i dl → ∀ (j : Nat) (o : Oper) (d : List Nat), l[j]? = some o → dl[j]? = some d →
    ∀ (V : Nat → Value) w' c, G w w' → (i + j = j0 → c = false) → (∀ k ∈ d, Sp k c ((dl0.getD k []).map V) (V k) w') → if wantB o V = true then GrowL (Gi (i + j)) P o (Rs.look ds V a0 d) w' (Sp (i + j) (c || i + j == j0) (d.map V)) else Sp (i + j) (c || i + j == j0) (d.map V) undef w'
  | [], _, _, _, j, o, d, ho, _ => by simp at ho
  | _ :: _, _, [], _, j, o, d, _, hd => by simp at hd
  | o' :: l, i, d' :: dl, h, 0, o, d, ho, hd => by simp at ho hd; subst ho; subst hd; exact h.1
  | o' :: l, i, d' :: dl, h, j + 1, o, d, ho, hd => by
    have := genSteps_get l (i + 1) dl h.2 j o d (by simpa using ho) (by simpa using hd)
    rwa [show i + (j + 1) = i + 1 + j by omega]
/-- **A region by what each of its first operations leaves**, in whatever order. -/
theorem region_gen {G : World → World → Prop} (j0 : Nat) (Gi : Nat → World → World → Prop) (hG : IsGr G) (hA : ∀ i a b, Gi i a b → G a b) (hRf : ∀ i a, Gi i a a) {id : Nat} {l : List Oper} {w : World} {a0 : Act} {Q : Exit → Act → World → Prop} (n : Nat) (dl : List (List Nat)) (ds : List (Option Nat)) (hj0 : j0 < n) (Sp : Nat → Bool → List Value → Value → World → Prop) (hm : P.follows .mixedOrders = true) (hB : shapeB l.toArray n dl = true) (hS : slotsB l.toArray n a0.tmps.size dl ds = true)
    (stable : ∀ i c w w', (i = j0 → c = false) → Gi i w w' → ∀ k L v, Sp k c L v w → Sp k (c || i == j0) L v w')
    (step : genSteps G j0 Gi P ds a0 w dl Sp l 0 dl)
    (fin : ∀ V w', G w w' → (∀ k, k < n → Sp k true ((dl.getD k []).map V) (V k) w') → wpList P l.toArray Q (l.drop n) (canon l.toArray V a0 (List.range n)) w') :
    (Code.region id l.toArray true).wp P Q a0 w := by
  have hB' := hB
  simp only [shapeB, Bool.and_eq_true, decide_eq_true_eq] at hB'
  obtain ⟨⟨⟨⟨⟨hsel, hn⟩, hdlen⟩, _⟩, hall⟩, _⟩ := hB'
  rw [List.all_eq_true] at hall
  unfold slotsB at hS
  rw [List.all_eq_true] at hS
  have hdst : ∀ i, i < n → dstOf l.toArray i = ds.getD i none ∧ ∀ d, dstOf l.toArray i = some d → d < a0.tmps.size := fun i hi => by
    have h := hS i (List.mem_range.2 hi)
    simp only [Bool.and_eq_true, beq_iff_eq] at h
    refine ⟨h.1.1, fun d hd => ?_⟩
    have h2 := h.1.2
    rw [← h.1.1, hd] at h2
    simpa using h2
  refine region_spec hG hA hRf n dl hm hB hj0 Sp stable (fun i o V w' c ho hi hg hc hs => ?_) fin
  have hst := genSteps_get l 0 dl step i o (dl.getD i []) ho (by simp [List.getElem?_eq_getElem (show i < dl.length by omega)]) V w' c hg (by rw [Nat.zero_add]; exact hc) hs
  rw [Nat.zero_add] at hst
  have hio := hall i (List.mem_range.2 hi)
  have hoo : l.toArray[i]? = some o := by simpa using ho
  rw [hoo] at hio
  simp only [Bool.and_eq_true, List.all_eq_true] at hio
  obtain ⟨⟨_, h2⟩, h3⟩ := hio
  have hdl : ∀ k ∈ dl.getD i [], k < n := fun k hk => by have := h2 k hk; simp only [Bool.and_eq_true, decide_eq_true_eq] at this; exact this.1
  have hnd : ∀ j k, j < n → k < n → j ≠ k → ∀ d, dstOf l.toArray k = some d → dstOf l.toArray j ≠ some d := fun j k hj hk hne d hd => by
    have h := hall j (List.mem_range.2 hj)
    cases hoj : l.toArray[j]? with
    | none => rw [hoj] at h; cases h
    | some oj =>
      rw [hoj] at h
      simp only [Bool.and_eq_true, List.all_eq_true] at h
      have := h.2 k (List.mem_range.2 hk)
      rw [hd] at this
      simp only [Bool.and_eq_true, Bool.or_eq_true, beq_iff_eq, decide_eq_true_eq] at this
      rcases this.2 with h | h
      · exact absurd h.symm hne
      · exact h
  have hslot : ∀ t, (canon l.toArray V a0 (dl.getD i [])).eval (.tmp t) = Rs.look ds V a0 (dl.getD i []) (.tmp t) := fun t => by
    unfold Rs.look
    simp only
    split
    · rename_i k hk
      have hkm := List.mem_of_find?_eq_some hk
      have hkd := List.find?_some hk
      simp only [beq_iff_eq] at hkd
      have hkn := hdl k hkm
      have e : dstOf l.toArray k = some t := by rw [(hdst k hkn).1]; exact hkd
      have := canon_in (ops := l.toArray) V e (dl.getD i []) a0 hkm (fun j hj hjk => hnd j k (hdl j hj) hkn hjk t e) ((hdst k hkn).2 t e)
      simp only [Act.eval, Array.getD_eq_getD_getElem?, this, Option.getD_some]
    · rename_i hk
      have hno : ∀ k ∈ dl.getD i [], dstOf l.toArray k ≠ some t := fun k hkm e => by
        have := List.find?_eq_none.1 hk k hkm
        rw [(hdst k (hdl k hkm)).1] at e
        rw [e] at this; exact this (by simp)
      have := canon_out (ops := l.toArray) V (d := t) (dl.getD i []) a0 hno
      simp only [Act.eval, Array.getD_eq_getD_getElem?, this]
  have hex : execOp (canon l.toArray V a0 (dl.getD i [])).eval o = execOp (Rs.look ds V a0 (dl.getD i [])) o :=
    execOp_congr o (fun c b => Region.noSelect_spec hsel i o c b hoo) fun x _ => by
      cases x with
      | tmp t => exact hslot t
      | _ => rfl
  have hwant : Region.wanted o (yielded l.toArray (canon l.toArray V a0 (dl.getD i [])).tmps) = wantB o V := by
    unfold Region.wanted wantB
    cases hgd : o.guard with
    | none => rfl
    | some gb =>
      obtain ⟨g, b⟩ := gb
      have h := hS i (List.mem_range.2 hi)
      rw [hoo] at h
      simp only [Option.bind_some, hgd, Bool.and_eq_true, List.contains_iff_mem] at h
      obtain ⟨hgm, hgs⟩ := h.2
      obtain ⟨t, ht⟩ := Option.isSome_iff_exists.1 hgs
      have hgn := hdl g hgm
      have hv := canon_in (ops := l.toArray) V ht (dl.getD i []) a0 hgm (fun j hj hjk => hnd j g (hdl j hj) hgn hjk t ht) ((hdst g hgn).2 t ht)
      have hy : yielded l.toArray (canon l.toArray V a0 (dl.getD i [])).tmps g = match V g with | .bool x => some x | _ => none := by
        unfold yielded
        unfold dstOf at ht
        simp only [ht, Option.bind_some, hv]
        cases V g <;> rfl
      simp only [hy]
      cases V g <;> simp
  unfold StepOk
  rw [hwant]
  by_cases hw : wantB o V = true
  · rw [if_pos hw] at hst ⊢
    unfold GrowL at hst
    unfold GrowAt
    rw [hex]
    exact hst
  · rw [if_neg hw] at hst ⊢
    exact hst
end main
end Go.Proofs.YtimedmkpenbmkaaGreat.Rk
end
section
namespace Go.Proofs.YtimedmkpenbmkaaGreat
open Go.RowKit Go.Shelf
set_option linter.unusedSimpArgs false
set_option linter.unusedVariables false
theorem firstE_deaf {t : Hr.Town} (wind voice : Int) : (firstE (lis t wind voice fun _ => true) = 0) ↔ deafOf t wind voice = [] := by
  rw [firstE_eq]
  unfold deafOf deafTo
  rw [List.take_length]
  constructor
  · intro h
    have : ¬ ((lis t wind voice fun _ => true).any (fun x => deafB x.2) = true) := by intro e; rw [if_pos e] at h; exact absurd h (by decide)
    rw [List.map_eq_nil_iff, List.filter_eq_nil_iff]
    intro x hx hd
    exact this (List.any_eq_true.2 ⟨x, hx, hd⟩)
  · intro h
    rw [List.map_eq_nil_iff, List.filter_eq_nil_iff] at h
    rw [if_neg]
    intro e
    obtain ⟨x, hx, hd⟩ := List.any_eq_true.1 e
    exact h x hx hd
theorem firstE_or (l : List (Nat × List Bool)) : firstE l = 0 ∨ firstE l = 6 := by
  rw [firstE_eq]; split
  · exact .inr rfl
  · exact .inl rfl
theorem mem_housesOf {t : Hr.Town} {wind voice : Int} {s h : Nat} : (h : Int) ∈ housesOf t wind voice s ↔ h < t.len ∧ t.at h = 1 ∧ hearB t wind voice h s = true := by
  unfold housesOf housesTo
  rw [List.mem_map]
  constructor
  · rintro ⟨p, hp, e⟩
    obtain rfl : p = h := by omega
    rw [List.mem_filter, List.mem_range, Bool.and_eq_true, beq_iff_eq] at hp
    exact ⟨hp.1, hp.2.1, hp.2.2⟩
  · rintro ⟨a, b, c⟩
    exact ⟨h, by rw [List.mem_filter, List.mem_range, Bool.and_eq_true, beq_iff_eq]; exact ⟨a, b, c⟩, rfl⟩
theorem mem_lis {t : Hr.Town} {wind voice : Int} {x : Nat × List Bool} : x ∈ (lis t wind voice fun _ => true) ↔ x.1 < t.len ∧ t.at x.1 = 1 ∧ x.2 = ears t wind voice x.1 := by
  unfold lis lisTo
  rw [List.mem_map]
  constructor
  · rintro ⟨q, hq, rfl⟩
    rw [List.mem_filter, List.mem_range] at hq
    exact ⟨hq.1, by simpa using hq.2, rfl⟩
  · rintro ⟨a, b, c⟩
    exact ⟨x.1, by rw [List.mem_filter, List.mem_range]; exact ⟨a, by simp [b]⟩, by rw [← c]⟩
theorem contains_rd (v : Value) (M : List Int) (x : Int) (w : World) (h : RdI w v M) : Calls Tryz.prog 29 #[v, .int .i64 x] w fun e w' => e = .returned (.bool (M.contains x)) ∧ Below w.heap.size w w' := by
  obtain ⟨hl, a, cap, rfl, hI⟩ := h
  by_cases h0 : M = []
  · subst h0
    refine (Tryz.slices_Contains_int_empty a cap x w).mono ?_
    rintro e w' ⟨rfl, rfl⟩
    exact ⟨rfl, Below.refl _ _⟩
  · obtain ⟨b, o, rfl, hI2⟩ := hI h0
    refine (Tryz.slices_Contains_int b o M.length cap M x w (Nat.le_refl _) hl (fun j hj => hI2.2 j hj)).mono ?_
    rintro e w' ⟨rfl, rfl⟩
    exact ⟨by rw [List.take_length], Below.refl _ _⟩
end Go.Proofs.YtimedmkpenbmkaaGreat
end
section
namespace Go.Proofs.YtimedmkpenbmkaaGreat
open Go.RowKit Go.Shelf
set_option linter.unusedSimpArgs false
set_option linter.unusedVariables false
def mixTo (us es : List Bool) (k : Nat) : List Bool := (List.range 30).map fun s => us.getD s false || (decide (s < k) && es.getD s false)
def clashTo (us es : List Bool) (k : Nat) : Bool := (List.range k).any fun s => us.getD s false && es.getD s false
theorem clash_next (us es : List Bool) (k : Nat) : clashTo us es (k + 1) = (clashTo us es k || (us.getD k false && es.getD k false)) := by
  unfold clashTo; rw [List.range_succ, List.any_append]; simp
theorem mix_zero {us : List Bool} (es : List Bool) (h : us.length = 30) : mixTo us es 0 = us := by
  apply List.ext_getElem?
  intro s
  unfold mixTo
  by_cases hs : s < 30
  · simp [hs, h]
  · rw [List.getElem?_eq_none (by simp; omega), List.getElem?_eq_none (by omega)]
theorem mix_len (us es : List Bool) (k : Nat) : (mixTo us es k).length = 30 := by unfold mixTo; simp
theorem mix_get (us es : List Bool) (k : Nat) {s : Nat} (hs : s < 30) : (mixTo us es k).getD s false = (us.getD s false || (decide (s < k) && es.getD s false)) := by
  unfold mixTo; rw [List.getD_eq_getElem?_getD]; simp [hs]
theorem mix_set (us es : List Bool) {k : Nat} (hk : k < 30) : (mixTo us es k).set k (us.getD k false || es.getD k false) = mixTo us es (k + 1) := by
  apply List.ext_getElem?
  intro s
  rw [List.getElem?_set]
  unfold mixTo
  by_cases e : k = s
  · subst e; simp [hk]
  · by_cases hs : s < 30
    · have : decide (s < k + 1) = decide (s < k) := by congr 1; apply propext; omega
      simp [e, hs, this]
    · rw [if_neg e, List.getElem?_eq_none (by simp; omega), List.getElem?_eq_none (by simp; omega)]
theorem results_row_tmp {fn : Func} {p u : Tmp} (h : fn.results = #[.cell p 124, .tmp u]) (tmps : Array Value) (w : World) (g : Nat) (t : TypeId) (cs : Array Value) (fr : Nat × Nat)
    (hp : tmps.getD p undef = .pointer (some ⟨g, 0, none⟩)) (hg : w.heap[g]? = some (.cells cs t fr)) (hi : (Tryz.prog.info? 124).map (·.size) = some cs.size) :
    (results fn tmps).run Tryz.prog w = .ok (.tuple #[.agg cs, tmps.getD u undef]) w := by
  rw [results_cell_tmp h, hp]
  simp [asAddr, Result.andThen, run_loadVar_row w g t 124 cs fr _ hg und128 rfl hi]
theorem bools_all (l : List Bool) : (l.map Value.bool).toArray.all (·.oneCell') = true := by
  rw [Array.all_eq_true]
  intro i hi
  simp
  rfl
theorem bools_size {l : List Bool} (h : l.length = 30) : (Tryz.prog.info? 124).map (·.size) = some (l.map Value.bool).toArray.size := by rw [List.size_toArray, List.length_map, h]; exact size128
theorem clash_go {us es : List Bool} {k : Nat} (hk : k < 30) (h : clashTo us es (k + 1) = true) : clashTo us es 30 = true := by
  unfold clashTo at *
  rw [List.any_eq_true] at h ⊢
  obtain ⟨s, hs, h⟩ := h
  exact ⟨s, List.mem_range.2 (by have := List.mem_range.1 hs; omega), h⟩
set_option maxHeartbeats 2000000 in
set_option maxRecDepth 100000 in
theorem together_any (us es : List Bool) (hu : us.length = 30) (he : es.length = 30) (w : World) :
    Calls Tryz.prog 127 #[.agg (us.map Value.bool).toArray, .agg (es.map Value.bool).toArray] w fun e w' =>
      e = .returned (if clashTo us es 30 then .tuple #[.agg ((List.replicate 30 false).map Value.bool).toArray, .bool false] else .tuple #[.agg ((mixTo us es 30).map Value.bool).toArray, .bool true]) ∧ Below w.heap.size w w' := by
  obtain ⟨A, hA⟩ : ∃ A, A = (if clashTo us es 30 then .tuple #[.agg ((List.replicate 30 false).map Value.bool).toArray, .bool false] else .tuple #[.agg ((mixTo us es 30).map Value.bool).toArray, .bool true] : Value) := ⟨_, rfl⟩
  rw [← hA]
  have HAQ := Lib.hid hA
  clear hA
  have hmz := mix_zero es hu
  obtain ⟨U, hU⟩ : ∃ U, U = us.map Value.bool := ⟨_, rfl⟩
  obtain ⟨Es, hEs⟩ : ∃ Es, Es = es.map Value.bool := ⟨_, rfl⟩
  have hEsz : (Tryz.prog.info? 124).map (·.size) = some Es.toArray.size := by rw [hEs, List.size_toArray, List.length_map, he]; exact size128
  have hr1 : ∀ o1 o3, (((w.alloc o1).alloc (.cells Es.toArray 124)).alloc o3).heap[w.heap.size + 1]? = some (.cells Es.toArray 124 (0, 0)) := fun o1 o3 => by
    rw [Below.heap_alloc _ _ _ (by simp)]; have := heap_alloc_last (w.alloc o1) (.cells Es.toArray 124); simpa using this
  have hr0 : ∀ o2 o3, (((w.alloc (.cells U.toArray 124)).alloc o2).alloc o3).heap[w.heap.size]? = some (.cells U.toArray 124 (0, 0)) := fun o2 o3 => by
    rw [Below.heap_alloc _ _ _ (by simp; omega), Below.heap_alloc _ _ _ (by simp)]; exact heap_alloc_last _ _
  have HR1 := Lib.hid hr1
  have HR0 := Lib.hid hr0
  have HEZ := Lib.hid hEsz
  have HU := Lib.hid hU
  have HES := Lib.hid hEs
  have HMZ := Lib.hid hmz
  rw [← hU, ← hEs]
  clear hU hEs hEsz hr1 hr0 hmz
  go_enter Tryz.func127, Tryz.ntmps127
  go_wp2_with (with_reducible refine wpList_load_row rfl 124 _ rfl (w.heap.size + 1) rfl 124 Es.toArray (0, 0) _ (HR1.out _ _) und128 rfl HEZ.out ?_)
  obtain ⟨W0, hW0⟩ : ∃ W0 : World, W0 = ((w.alloc (Obj.cells U.toArray 124)).alloc (Obj.cells Es.toArray 124)).alloc (.cells ((List.replicate 30 false).map Value.bool).toArray 124) := ⟨_, rfl⟩
  have hb0 : Below w.heap.size w W0 := by rw [hW0]; exact al (al (al (Below.refl _ _) _) _) _
  have hz0 : W0.heap[w.heap.size + 1 + 1]? = some (.cells ((List.replicate 30 false).map Value.bool).toArray 124 (0, 0)) := by
    rw [hW0]; have := heap_alloc_last ((w.alloc (Obj.cells U.toArray 124)).alloc (Obj.cells Es.toArray 124)) (.cells ((List.replicate 30 false).map Value.bool).toArray 124); simpa using this
  have hu0 : W0.heap[w.heap.size]? = some (.cells ((mixTo us es 0).map Value.bool).toArray 124 (0, 0)) := by rw [hW0, HMZ.out, ← HU.out]; exact HR0.out _ _
  have hsw : ((w.alloc (Obj.cells U.toArray 124)).alloc (Obj.cells Es.toArray 124)).alloc (.cells #[Value.bool false, Value.bool false, Value.bool false, Value.bool false, Value.bool false, Value.bool false,
          Value.bool false, Value.bool false, Value.bool false, Value.bool false, Value.bool false, Value.bool false,
          Value.bool false, Value.bool false, Value.bool false, Value.bool false, Value.bool false, Value.bool false,
          Value.bool false, Value.bool false, Value.bool false, Value.bool false, Value.bool false, Value.bool false,
          Value.bool false, Value.bool false, Value.bool false, Value.bool false, Value.bool false, Value.bool false] 124) = W0 := by rw [hW0]; rfl
  rw [hsw]
  have HB0 := Lib.hid hb0
  have HZ0 := Lib.hid hz0
  have HU0 := Lib.hid hu0
  clear hW0 hb0 hz0 hu0 hsw HR1 HR0 HMZ
  go_loopw [9] (fun i wr => ∃ k : Nat, k ≤ 30 ∧ i = .int .i64 k ∧ wr.heap[w.heap.size]? = some (.cells ((mixTo us es k).map Value.bool).toArray 124 (0, 0)) ∧ wr.heap[w.heap.size + 1 + 1]? = some (.cells ((List.replicate 30 false).map Value.bool).toArray 124 (0, 0)) ∧ clashTo us es k = false ∧ Below w.heap.size w wr) (fun i _ => 30 - (intOf i).toNat)
  case atStart => exact ⟨0, by omega, rfl, HU0.out, HZ0.out, rfl, HB0.out⟩
  case round =>
    obtain ⟨k, hk, rfl, hrow, hzr, hcl, hB⟩ := hrel
    obtain ⟨wk, rfl⟩ : ∃ wk : World, wk = wr := ⟨_, rfl⟩
    have HROW := Lib.hid hrow
    have HZR := Lib.hid hzr
    have HCL := Lib.hid hcl
    have HB := Lib.hid hB
    have hzl := (Array.getElem?_eq_some_iff.1 hzr).1
    have hrl := (Array.getElem?_eq_some_iff.1 hrow).1
    clear hrow hzr hcl hB
    by_cases hlt : k < 30
    · have hlt' : (k : Int) < 30 := by omega
      obtain ⟨e, hee⟩ : ∃ e, e = es.getD k false := ⟨_, rfl⟩
      obtain ⟨u, huu⟩ : ∃ u, u = us.getD k false := ⟨_, rfl⟩
      have hix : Es[k]? = some (.bool e) := by
        rw [HES.out, List.getElem?_map, hee, List.getD_eq_getElem?_getD, List.getElem?_eq_getElem (by omega)]; rfl
      have hcell : wk.cell? ⟨w.heap.size, k, none⟩ = some (.bool u) := by
        rw [cell_of_row _ _ _ _ _ _ HROW.out]
        have := mix_get us es k hlt
        rw [show decide (k < k) = false by simp, Bool.false_and, Bool.or_false, ← huu, List.getD_eq_getElem?_getD] at this
        have hl : k < (mixTo us es k).length := by rw [mix_len]; exact hlt
        rw [List.getElem?_eq_getElem hl] at this
        simp [List.getElem?_eq_getElem hl]
        simpa using this
      have hfz := frozen_of_row wk w.heap.size k _ _ HROW.out
      have hset := mix_set us es hlt
      have hcn := clash_next us es k
      rw [← hee, ← huu] at hset hcn
      rw [HCL.out] at hcn
      have HSET := Lib.hid hset
      have HCN := Lib.hid hcn
      have hEl : Es.length = 30 := by rw [HES.out, List.length_map]; exact he
      have hyi : ∀ W, (Instr.index 124 (.agg Es.toArray) (.int .i64 (k : Int))).run Tryz.prog W = .ok (.bool e) W := fun W => idx_arr und128 agg4 siz4 hlt (by rw [List.getElem?_toArray]; exact hix) W
      clear hset hcn hee huu hix hEl
      have hthere : wk.there (w.heap.size + 1 + 1) 0 ((List.replicate 30 false).map Value.bool).toArray.size := fun j hj => by
        rw [Nat.zero_add, cell_of_row _ _ _ _ _ _ HZR.out, frozen_of_row _ _ _ _ _ HZR.out]
        exact ⟨by simp at hj ⊢; exact hj, rfl⟩
      have HTH := Lib.hid hthere
      have HZI := Lib.hid (bools_size (l := List.replicate 30 false) (by simp))
      have HZA := Lib.hid (bools_all (List.replicate 30 false))
      have hne : w.heap.size + 1 + 1 ≠ w.heap.size := by omega
      clear hthere
      cases e <;> cases u
      case true.true =>
        have HC30 := Lib.hid (clash_go hlt HCN.out)
        go_wp2_with (with_reducible refine wpList_store_mid rfl 124 _ _ rfl (w.heap.size + 1 + 1) 0 ((List.replicate 30 false).map Value.bool).toArray rfl rfl HTH.out HZI.out HZA.out ?_)
        have hh : (wk.setCells (w.heap.size + 1 + 1) 0 ((List.replicate 30 false).map Value.bool).toArray.toList).heap[w.heap.size + 1 + 1]? = some (.cells ((List.replicate 30 false).map Value.bool).toArray 124 (0, 0)) := by
          rw [heap_setCells _ _ _ _ _ _ _ HZR.out, setFrom_all _ _ (by simp)]
        refine bodyPost_ret (results_row_tmp rfl _ _ (w.heap.size + 1 + 1) 124 _ (0, 0) rfl hh HZI.out) rfl ⟨?_, below_setCells' (by omega) _ _ _ HB.out⟩
        rw [HAQ.out, if_pos HC30.out]; rfl
      all_goals
        go_wp2_with fail
        refine ⟨⟨k + 1, by omega, by simp, ?_, (Below.heap_setCell _ _ _ _ hne).trans HZR.out, HCN.out, setc HB.out (Nat.le_refl _)⟩, ?_⟩
        · rw [heap_set_same _ HROW.out, ← HSET.out, List.map_set, List.setIfInBounds_toArray]; rfl
        · simp [intOf]; omega
    · obtain rfl : k = 30 := by omega
      have HMI := Lib.hid (bools_size (mix_len us es 30))
      have hthere : wk.there (w.heap.size + 1 + 1) 0 ((mixTo us es 30).map Value.bool).toArray.size := fun j hj => by
        rw [Nat.zero_add, cell_of_row _ _ _ _ _ _ HZR.out, frozen_of_row _ _ _ _ _ HZR.out]
        exact ⟨by simp [mix_len] at hj ⊢; exact hj, rfl⟩
      have HTH := Lib.hid hthere
      have HMA := Lib.hid (bools_all (mixTo us es 30))
      clear hthere
      go_wp2_with (first
        | (with_reducible refine wpList_load_row rfl 124 _ rfl w.heap.size rfl 124 ((mixTo us es 30).map Value.bool).toArray (0, 0) _ HROW.out und128 rfl HMI.out ?_)
        | (with_reducible refine wpList_store_mid rfl 124 _ _ rfl (w.heap.size + 1 + 1) 0 ((mixTo us es 30).map Value.bool).toArray rfl rfl HTH.out HMI.out HMA.out ?_))
      have hh : (wk.setCells (w.heap.size + 1 + 1) 0 ((mixTo us es 30).map Value.bool).toArray.toList).heap[w.heap.size + 1 + 1]? = some (.cells ((mixTo us es 30).map Value.bool).toArray 124 (0, 0)) := by
        rw [heap_setCells _ _ _ _ _ _ _ HZR.out, setFrom_all _ _ (by simp [mix_len])]
      refine bodyPost_ret (results_row_tmp rfl _ _ (w.heap.size + 1 + 1) 124 _ (0, 0) rfl hh HMI.out) rfl ⟨?_, below_setCells' (by omega) _ _ _ HB.out⟩
      rw [HAQ.out, if_neg (by rw [HCL.out]; simp)]; rfl
end Go.Proofs.YtimedmkpenbmkaaGreat
end
section
namespace Go.Proofs.YtimedmkpenbmkaaGreat
open Go.RowKit Go.Shelf
set_option linter.unusedSimpArgs false
set_option linter.unusedVariables false
theorem and_bit (n i : Nat) : (n &&& 2 ^ i ≠ 0) ↔ n.testBit i = true := by
  constructor
  · intro h
    obtain ⟨j, hj⟩ : ∃ j, (n &&& 2 ^ i).testBit j = true := by
      false_or_by_contra
      rename_i hn
      exact h (Nat.eq_of_testBit_eq fun j => by
        cases hb : (n &&& 2 ^ i).testBit j
        · simp
        · exact absurd ⟨j, hb⟩ hn)
    rw [Nat.testBit_and, Nat.testBit_two_pow, Bool.and_eq_true, decide_eq_true_iff] at hj
    obtain ⟨h1, rfl⟩ := hj
    exact h1
  · intro h e
    have : (n &&& 2 ^ i).testBit i = true := by rw [Nat.testBit_and, Nat.testBit_two_pow, h]; simp
    rw [e] at this; simp at this
theorem srv_bit (cs : List Crowd) (s : Nat) : ∀ k i, (srv cs s k).testBit i = (decide (i < k) && (cs.getD i ([], 0)).1.getD s false)
  | 0, i => by simp [srv]
  | k + 1, i => by
    have ih := srv_bit cs s k i
    rw [srv]
    by_cases hik : k = i
    · subst hik
      split
      · rename_i h
        rw [Nat.testBit_or, ih, Nat.testBit_two_pow, h]; simp
      · rename_i h
        rw [ih]; simp at h ⊢; simp [h]
    · have e : decide (i < k + 1) = decide (i < k) := by congr 1; apply propext; omega
      split
      · rw [Nat.testBit_or, ih, Nat.testBit_two_pow, e]; simp [hik]
      · rw [ih, e]
/-- the crowds that hear one of some stands -/
def covS (cs : List Crowd) : List Nat → Nat
  | [] => 0
  | s :: S => srv cs s cs.length ||| covS cs S
/-- how many houses hear one of some stands -/
def valS (cs : List Crowd) (S : List Nat) : Int := mny cs (covS cs S) cs.length
def hit (S : List Nat) (e : List Bool) : Bool := S.any fun s => e.getD s false
theorem cov_bit (cs : List Crowd) : ∀ (S : List Nat) (i : Nat), (covS cs S).testBit i = (decide (i < cs.length) && hit S (cs.getD i ([], 0)).1)
  | [], i => by simp [covS, hit]
  | s :: S, i => by
    rw [covS, Nat.testBit_or, srv_bit, cov_bit cs S i]
    unfold hit
    rw [List.any_cons, Bool.and_or_distrib_left]
theorem cov_app (cs : List Crowd) : ∀ (A B : List Nat), covS cs (A ++ B) = covS cs A ||| covS cs B
  | [], B => by simp [covS]
  | a :: A, B => by rw [List.cons_append, covS, covS, cov_app cs A B, Nat.or_assoc]
theorem hit_congr {S T : List Nat} (h : ∀ s, s ∈ S ↔ s ∈ T) (e : List Bool) : hit S e = hit T e := by
  unfold hit
  rw [Bool.eq_iff_iff, List.any_eq_true, List.any_eq_true]
  constructor
  · rintro ⟨s, h1, h2⟩; exact ⟨s, (h s).1 h1, h2⟩
  · rintro ⟨s, h1, h2⟩; exact ⟨s, (h s).2 h1, h2⟩
theorem cov_congr (cs : List Crowd) {S T : List Nat} (h : ∀ s, s ∈ S ↔ s ∈ T) : covS cs S = covS cs T :=
  Nat.eq_of_testBit_eq fun i => by rw [cov_bit, cov_bit, hit_congr h]
def sumP (p : List Bool → Bool) : List Crowd → Int
  | [] => 0
  | c :: r => (if p c.1 then c.2 else 0) + sumP p r
theorem sumP_app (p : List Bool → Bool) : ∀ (a b : List Crowd), sumP p (a ++ b) = sumP p a + sumP p b
  | [], b => by simp [sumP]
  | c :: a, b => by rw [List.cons_append, sumP, sumP, sumP_app p a b]; omega
theorem mny_cov (cs : List Crowd) (S : List Nat) : ∀ k, k ≤ cs.length → mny cs (covS cs S) k = sumP (hit S) (cs.take k)
  | 0, _ => by simp [mny, sumP]
  | k + 1, hk => by
    have hg : cs.getD k ([], 0) = cs[k]'(by omega) := by rw [List.getD_eq_getElem?_getD, List.getElem?_eq_getElem (by omega)]; rfl
    rw [mny, mny_cov cs S k (by omega), List.take_succ_eq_append_getElem (by omega), sumP_app]
    have hb := cov_bit cs S k
    have hd : decide (k < cs.length) = true := by simp; omega
    rw [hd, Bool.true_and, hg] at hb
    rw [hg]
    by_cases h : hit S (cs[k]'(by omega)).1 = true
    · rw [if_pos ((and_bit _ _).2 (by rw [hb, h]))]; simp [sumP, h]
    · rw [if_neg (fun e => h (by rw [← hb]; exact (and_bit _ _).1 e))]; simp [sumP, h]
theorem sumP_add (p : List Bool → Bool) (e : List Bool) : ∀ (cs : List Crowd), sumP p (addCrowd cs e) = sumP p cs + if p e then 1 else 0
  | [] => by simp [addCrowd, sumP]
  | c :: r => by
    unfold addCrowd
    split
    · rename_i h
      rw [sumP, sumP, ← h]
      simp only
      split <;> omega
    · rw [sumP, sumP, sumP_add p e r]; omega
theorem sumP_to (p : List Bool → Bool) : ∀ (l : List (Nat × List Bool)) (cs : List Crowd), sumP p (crowdsTo cs l) = sumP p cs + (l.filter fun x => p x.2).length
  | [], cs => by simp [crowdsTo]
  | x :: l, cs => by
    have : crowdsTo cs (x :: l) = crowdsTo (addCrowd cs x.2) l := rfl
    rw [this, sumP_to p l, sumP_add, List.filter_cons]
    split <;> simp <;> omega
/-- how many houses of a list hear one of some stands -/
def cntS (l : List (Nat × List Bool)) (S : List Nat) : Nat := (l.filter fun x => hit S x.2).length
theorem val_cnt (l : List (Nat × List Bool)) (S : List Nat) : valS (crowdsP l) S = cntS l S := by
  unfold valS
  rw [mny_cov _ _ _ (Nat.le_refl _), List.take_length]
  unfold crowdsP
  rw [sumP_to]
  simp [sumP, cntS]
def mstK (cs : List Crowd) (set k : Nat) : Int := (mstL cs set).getD k 0
theorem fold_zero (cs : List Crowd) (set : Nat) : ∀ (ms : List Nat) (b : List Int), b.length = 11 → (ms.foldl (stepM cs set) b).getD 0 0 = b.getD 0 0
  | [], b, _ => rfl
  | m :: ms, b, hb => by
    rw [List.foldl_cons, fold_zero cs set ms _ (stepM_len hb m)]
    unfold stepM
    split
    · rfl
    · rw [bump_get (thn := mstL cs (set ||| m)) hb (mst_len _ _ _) (by omega), if_pos rfl]
theorem fold_succ (cs : List Crowd) (set k : Nat) (hk : k < 10) (x : Int) : ∀ (ms : List Nat) (b : List Int), b.length = 11 → ((ms.foldl (stepM cs set) b).getD (k + 1) 0 ≤ x ↔ b.getD (k + 1) 0 ≤ x ∧ ∀ m ∈ ms, set ||| m ≠ set → mstK cs (set ||| m) k ≤ x)
  | [], b, _ => by simp
  | m :: ms, b, hb => by
    rw [List.foldl_cons, fold_succ cs set k hk x ms _ (stepM_len hb m)]
    have h1 : (stepM cs set b m).getD (k + 1) 0 ≤ x ↔ b.getD (k + 1) 0 ≤ x ∧ (set ||| m ≠ set → mstK cs (set ||| m) k ≤ x) := by
      unfold stepM
      split
      · rename_i h
        constructor
        · intro h2; exact ⟨h2, fun h3 => absurd h h3⟩
        · intro h2; exact h2.1
      · rename_i h
        rw [bump_get (thn := mstL cs (set ||| m)) hb (mst_len _ _ _) (by omega), if_neg (by omega), Nat.add_sub_cancel]
        unfold mstK
        constructor
        · intro h2; exact ⟨by omega, fun _ => by omega⟩
        · intro h2; have := h2.2 h; omega
    rw [h1]
    constructor
    · rintro ⟨⟨a, b⟩, c⟩
      refine ⟨a, fun m' hm => ?_⟩
      rcases List.mem_cons.1 hm with rfl | hm
      · exact b
      · exact c m' hm
    · rintro ⟨a, b⟩
      exact ⟨⟨a, b m (by simp)⟩, fun m' hm => b m' (by simp [hm])⟩
theorem mstK_zero (cs : List Crowd) (set : Nat) : mstK cs set 0 = mny cs set cs.length := by
  unfold mstK
  rw [mstL_eq, fold_zero _ _ _ _ (by simp), getD_rep _ (by omega)]
theorem mstK_succ (cs : List Crowd) (set k : Nat) (hk : k < 10) (x : Int) : mstK cs set (k + 1) ≤ x ↔ mny cs set cs.length ≤ x ∧ ∀ s, s < 30 → set ||| srv cs s cs.length ≠ set → mstK cs (set ||| srv cs s cs.length) k ≤ x := by
  have h : mstK cs set (k + 1) = ((srvs cs).foldl (stepM cs set) (List.replicate 11 (mny cs set cs.length))).getD (k + 1) 0 := by unfold mstK; rw [mstL_eq]
  rw [h, fold_succ cs set k hk x _ _ (by simp), getD_rep _ (by omega)]
  constructor
  · rintro ⟨a, b⟩
    exact ⟨a, fun s hs => b _ (List.mem_map.2 ⟨s, List.mem_range.2 hs, rfl⟩)⟩
  · rintro ⟨a, b⟩
    refine ⟨a, fun m hm => ?_⟩
    obtain ⟨s, hs, rfl⟩ := List.mem_map.1 hm
    exact b s (List.mem_range.1 hs)
theorem miss_lt {cs : List Crowd} {set s : Nat} (h : set ||| srv cs s cs.length ≠ set) : missing cs (set ||| srv cs s cs.length) < missing cs set := missing_lt (srv_lt _ _ _) h
theorem mst_ge (cs : List Crowd) : ∀ n set, missing cs set < n → ∀ S : List Nat, (∀ s ∈ S, s < 30) → ∀ k, S.length ≤ k → k ≤ 10 → mny cs (set ||| covS cs S) cs.length ≤ mstK cs set k
  | 0, _, h => absurd h (by omega)
  | n + 1, set, h => by
    intro S
    induction S with
    | nil =>
      intro _ k _ hk
      rw [show set ||| covS cs [] = set by simp [covS]]
      match k with
      | 0 => rw [mstK_zero]; exact Int.le_refl _
      | k + 1 => exact ((mstK_succ cs set k (by omega) _).1 (Int.le_refl _)).1
    | cons s S ih =>
      intro hs k hl hk
      have e : set ||| covS cs (s :: S) = (set ||| srv cs s cs.length) ||| covS cs S := by rw [covS, Nat.or_assoc]
      rw [e]
      by_cases ha : set ||| srv cs s cs.length = set
      · rw [ha]
        exact ih (fun x hx => hs x (by simp [hx])) k (by rw [List.length_cons] at hl; omega) hk
      · match k, hl with
        | k + 1, hl =>
          have h1 := mst_ge cs n (set ||| srv cs s cs.length) (by have := miss_lt ha; omega) S (fun x hx => hs x (by simp [hx])) k (by rw [List.length_cons] at hl; omega) (by omega)
          exact Int.le_trans h1 (((mstK_succ cs set k (by omega) _).1 (Int.le_refl _)).2 s (hs s (by simp)) ha)
theorem mst_ex (cs : List Crowd) : ∀ n set, missing cs set < n → ∀ k, k ≤ 10 → ∃ S : List Nat, (∀ s ∈ S, s < 30) ∧ S.length ≤ k ∧ mny cs (set ||| covS cs S) cs.length = mstK cs set k
  | 0, _, h => absurd h (by omega)
  | n + 1, set, h => by
    intro k hk
    match k with
    | 0 => exact ⟨[], by simp, by simp, by rw [mstK_zero]; simp [covS]⟩
    | k + 1 =>
      have h1 := (mstK_succ cs set k (by omega) _).1 (Int.le_refl _)
      have h2 : ¬ (mstK cs set (k + 1) ≤ mstK cs set (k + 1) - 1) := by omega
      rw [mstK_succ cs set k (by omega)] at h2
      by_cases h3 : mny cs set cs.length ≤ mstK cs set (k + 1) - 1
      · obtain ⟨s, hs, hne, hv⟩ : ∃ s, s < 30 ∧ set ||| srv cs s cs.length ≠ set ∧ ¬ mstK cs (set ||| srv cs s cs.length) k ≤ mstK cs set (k + 1) - 1 := by
          false_or_by_contra
          rename_i hn
          refine h2 ⟨h3, fun s hs hne => ?_⟩
          false_or_by_contra
          rename_i hv
          exact hn ⟨s, hs, hne, hv⟩
        obtain ⟨S, a, b, c⟩ := mst_ex cs n (set ||| srv cs s cs.length) (by have := miss_lt hne; omega) k (by omega)
        refine ⟨s :: S, fun x hx => ?_, by simp; omega, ?_⟩
        · rcases List.mem_cons.1 hx with rfl | hx
          · exact hs
          · exact a x hx
        · rw [covS, ← Nat.or_assoc, c]
          have := h1.2 s hs hne
          omega
      · exact ⟨[], by simp, by simp, by have := h1.1; simp [covS]; omega⟩
theorem mst0_ge (cs : List Crowd) {S : List Nat} (hS : ∀ s ∈ S, s < 30) {k : Nat} (hk : S.length ≤ k) (hk2 : k ≤ 10) : valS cs S ≤ mstK cs 0 k := by
  have := mst_ge cs _ 0 (Nat.lt_succ_self _) S hS k hk hk2
  rwa [Nat.zero_or] at this
theorem mst0_ex (cs : List Crowd) {k : Nat} (hk2 : k ≤ 10) : ∃ S : List Nat, (∀ s ∈ S, s < 30) ∧ S.length ≤ k ∧ valS cs S = mstK cs 0 k := by
  obtain ⟨S, a, b, c⟩ := mst_ex cs _ 0 (Nat.lt_succ_self _) k hk2
  rw [Nat.zero_or] at c
  exact ⟨S, a, b, c⟩
theorem mst0_mono (cs : List Crowd) {j k : Nat} (h : j ≤ k) (hk : k ≤ 10) : mstK cs 0 j ≤ mstK cs 0 k := by
  obtain ⟨S, a, b, c⟩ := mst0_ex cs (show j ≤ 10 by omega)
  rw [← c]
  exact mst0_ge cs a (by omega) hk
theorem cov_small (cs : List Crowd) : ∀ (S : List Nat) (set : Nat), ∃ T : List Nat, (∀ s ∈ T, s ∈ S) ∧ T.length ≤ missing cs set ∧ T.length ≤ S.length ∧ set ||| covS cs T = set ||| covS cs S
  | [], set => ⟨[], by simp, by simp, by simp, rfl⟩
  | s :: S, set => by
    have e : set ||| covS cs (s :: S) = (set ||| srv cs s cs.length) ||| covS cs S := by rw [covS, Nat.or_assoc]
    by_cases ha : set ||| srv cs s cs.length = set
    · obtain ⟨T, a, b, c, d⟩ := cov_small cs S set
      exact ⟨T, fun x hx => by simp [a x hx], b, by simp; omega, by rw [d, e, ha]⟩
    · obtain ⟨T, a, b, c, d⟩ := cov_small cs S (set ||| srv cs s cs.length)
      have := miss_lt ha
      refine ⟨s :: T, fun x hx => ?_, by simp; omega, by simp; omega, ?_⟩
      · rcases List.mem_cons.1 hx with rfl | hx
        · simp
        · simp [a x hx]
      · rw [e, ← d, covS, Nat.or_assoc]
theorem len_le_of_sub : ∀ {A B : List Nat}, A.Nodup → (∀ a ∈ A, a ∈ B) → A.length ≤ B.length
  | [], B, _, _ => by simp
  | a :: A, B, hn, hs => by
    rw [List.nodup_cons] at hn
    have h1 := len_le_of_sub (A := A) (B := B.erase a) hn.2 fun x hx => by
      have hne : x ≠ a := fun e => hn.1 (by rw [← e]; exact hx)
      exact (List.mem_erase_of_ne hne).2 (hs x (by simp [hx]))
    have h2 := hs a (by simp)
    rw [List.length_erase_of_mem h2] at h1
    have : 0 < B.length := List.length_pos_of_mem h2
    simp; omega
/-- the same stands in order -/
def normS (S : List Nat) : List Nat := (List.range 30).filter fun s => decide (s ∈ S)
theorem norm_mem {S : List Nat} (hS : ∀ s ∈ S, s < 30) (s : Nat) : s ∈ normS S ↔ s ∈ S := by
  unfold normS
  rw [List.mem_filter, List.mem_range, decide_eq_true_iff]
  exact ⟨fun h => h.2, fun h => ⟨hS s h, h⟩⟩
theorem norm_sorted (S : List Nat) : (normS S).Pairwise (· < ·) := List.Pairwise.filter _ List.pairwise_lt_range
theorem sorted_nodup {S : List Nat} (h : S.Pairwise (· < ·)) : S.Nodup := h.imp fun h => Nat.ne_of_lt h
theorem norm_len {S : List Nat} (hS : ∀ s ∈ S, s < 30) : (normS S).length ≤ S.length := len_le_of_sub (sorted_nodup (norm_sorted S)) fun s hs => (norm_mem hS s).1 hs
theorem few_spec (n : List Int) (s : Nat) : ∀ f k, k + f = s → ¬ (n.getD (fewF n s f k) 0 < n.getD s 0) ∧ ∀ j, k ≤ j → j < fewF n s f k → n.getD j 0 < n.getD s 0
  | 0, k, h => by
    rw [fewF]
    obtain rfl : k = s := by omega
    exact ⟨by omega, fun j h1 h2 => by omega⟩
  | f + 1, k, h => by
    rw [fewF]
    split
    · rename_i h1
      obtain ⟨a, b⟩ := few_spec n s f (k + 1) (by omega)
      refine ⟨a, fun j hj hj2 => ?_⟩
      by_cases e : j = k
      · subst e; exact h1
      · exact b j (by omega) hj2
    · rename_i h1
      exact ⟨h1, fun j h1 h2 => by omega⟩
theorem cap_min (cs : List Crowd) (st : Nat) : chCap cs st = min st (min 10 cs.length) := by
  unfold chCap leastL
  simp only [List.foldl_cons, List.foldl_nil]
  split <;> split <;> omega
theorem left_spec (cs : List Crowd) (st : Nat) : chLeft cs st ≤ chCap cs st ∧ mstK cs 0 (chLeft cs st) = chHouses cs st ∧ ∀ j, j < chLeft cs st → mstK cs 0 j < chHouses cs st := by
  have hle : chLeft cs st ≤ chCap cs st := fewP_le _ _
  obtain ⟨a, b⟩ := few_spec (mstL cs 0) (chCap cs st) (chCap cs st) 0 (by omega)
  refine ⟨hle, ?_, fun j hj => b j (by omega) hj⟩
  have h1 := mst0_mono cs hle (by have := cap_min cs st; omega)
  have h2 : ¬ mstK cs 0 (chLeft cs st) < chHouses cs st := a
  have h3 : mstK cs 0 (chCap cs st) = chHouses cs st := rfl
  omega
structure OptL (cs : List Crowd) (n : Nat) (H : Int) (L : List Nat) : Prop where
  sorted : L.Pairwise (· < ·)
  bd : ∀ s ∈ L, s < 30
  len : L.length = n
  val : valS cs L = H
/-- one list comes before another one, by their first difference -/
def Bef (A B : List Nat) : Prop := ∃ p a b A' B', A = p ++ a :: A' ∧ B = p ++ b :: B' ∧ a < b
theorem Bef.app {A B : List Nat} (h : Bef A B) (C : List Nat) : Bef (A ++ C) B := by
  obtain ⟨p, a, b, A', B', h1, h2, h3⟩ := h
  exact ⟨p, a, b, A' ++ C, B', by rw [h1]; simp, h2, h3⟩
structure ChI (cs : List Crowd) (n : Nat) (H : Int) (k : Nat) (s : ChS) (ch : List Nat) : Prop where
  eq : s.ch = ch.map fun (x : Nat) => (x : Int)
  set : s.set = covS cs ch
  len : ch.length + s.left = n
  sorted : ch.Pairwise (· < ·)
  low : ∀ x ∈ ch, x < k
  all : ∀ L, OptL cs n H L → Bef ch L ∨ ∃ R, L = ch ++ R ∧ ∀ r ∈ R, k ≤ r
  one : ∃ L R, OptL cs n H L ∧ L = ch ++ R ∧ ∀ r ∈ R, k ≤ r
theorem bef_not_sub {A B : List Nat} (hA : A.Pairwise (· < ·)) (hB : B.Pairwise (· < ·)) (hs : ∀ a ∈ A, a ∈ B) : ¬ Bef A B := by
  rintro ⟨p, a, b, A', B', rfl, rfl, hab⟩
  have h1 := hs a (by simp)
  rw [List.pairwise_append] at hA hB
  rcases List.mem_append.1 h1 with h1 | h1
  · have := hA.2.2 a h1 a (by simp); omega
  · rcases List.mem_cons.1 h1 with h1 | h1
    · omega
    · have := (List.pairwise_cons.1 hB.2.1).1 a h1; omega
theorem opt_of {cs : List Crowd} {n : Nat} {H : Int} (hn : n ≤ 10) (hlow : ∀ j, j < n → mstK cs 0 j < H) {S : List Nat} (hS : ∀ s ∈ S, s < 30) (hl : S.length ≤ n) (hv : valS cs S = H) : OptL cs n H (normS S) := by
  have hv' : valS cs (normS S) = H := by rw [← hv]; unfold valS; rw [cov_congr cs (norm_mem hS)]
  have hbd : ∀ s ∈ normS S, s < 30 := fun s hs => hS s ((norm_mem hS s).1 hs)
  have h1 := norm_len hS
  refine ⟨norm_sorted S, hbd, ?_, hv'⟩
  rcases Nat.lt_or_ge (normS S).length n with h | h
  · have := hlow _ h
    have := mst0_ge cs hbd (Nat.le_refl _) (show (normS S).length ≤ 10 by omega)
    omega
  · omega
theorem ch_start {cs : List Crowd} {n : Nat} {H : Int} (hn : n ≤ 10) (hH : mstK cs 0 n = H) (hlow : ∀ j, j < n → mstK cs 0 j < H) : ChI cs n H 0 ⟨[], 0, n⟩ [] := by
  obtain ⟨S, a, b, c⟩ := mst0_ex cs hn
  exact ⟨rfl, rfl, by simp, List.Pairwise.nil, by simp, fun L _ => .inr ⟨L, rfl, by simp⟩, ⟨_, _, opt_of hn hlow a b (c.trans hH), rfl, by simp⟩⟩
theorem ch_step {cs : List Crowd} {n : Nat} {H : Int} (hn : n ≤ 10) (hH : mstK cs 0 n = H) (hlow : ∀ j, j < n → mstK cs 0 j < H) {k : Nat} (hk : k < 30) {s : ChS} {ch : List Nat} (hI : ChI cs n H k s ch) :
    ∃ ch', ChI cs n H (k + 1) (chStep cs H s k) ch' := by
  have hle := hI.len
  have hbd : ∀ x ∈ ch, x < 30 := fun x hx => by have := hI.low x hx; omega
  -- a list that goes on with this stand shows that it is taken
  have key : ∀ R, OptL cs n H (ch ++ k :: R) → 0 < s.left ∧ (mstL cs (s.set ||| srv cs k cs.length)).getD (s.left - 1) 0 = H := fun R hO => by
    have hl : ch.length + (R.length + 1) = n := by have := hO.len; simpa using this
    refine ⟨by omega, ?_⟩
    show mstK cs (s.set ||| srv cs k cs.length) (s.left - 1) = H
    have h1 := mst_ge cs _ (s.set ||| srv cs k cs.length) (Nat.lt_succ_self _) R (fun x hx => hO.bd x (by simp [hx])) (s.left - 1) (by omega) (by omega)
    have e : s.set ||| srv cs k cs.length ||| covS cs R = covS cs (ch ++ k :: R) := by rw [cov_app, covS, hI.set, Nat.or_assoc]
    have h2 : mny cs (covS cs (ch ++ k :: R)) cs.length = H := hO.val
    rw [e, h2] at h1
    obtain ⟨S, a, b, c⟩ := mst_ex cs _ (s.set ||| srv cs k cs.length) (Nat.lt_succ_self _) (s.left - 1) (by omega)
    have e2 : s.set ||| srv cs k cs.length ||| covS cs S = covS cs (ch ++ k :: S) := by rw [cov_app, covS, hI.set, Nat.or_assoc]
    rw [e2] at c
    have h3 : valS cs (ch ++ k :: S) ≤ mstK cs 0 n := mst0_ge cs (fun x hx => by
      rcases List.mem_append.1 hx with hx | hx
      · exact hbd x hx
      · rcases List.mem_cons.1 hx with rfl | hx
        · exact hk
        · exact a x hx) (by simp; omega) hn
    have h4 : valS cs (ch ++ k :: S) = mstK cs (s.set ||| srv cs k cs.length) (s.left - 1) := c
    omega
  unfold chStep
  simp only
  by_cases ht : 0 < s.left ∧ (mstL cs (s.set ||| srv cs k cs.length)).getD (s.left - 1) 0 = H
  · rw [if_pos ht]
    have hall : ∀ L, OptL cs n H L → Bef (ch ++ [k]) L ∨ ∃ R, L = (ch ++ [k]) ++ R ∧ ∀ r ∈ R, k + 1 ≤ r := fun L hO => by
      rcases hI.all L hO with h | ⟨R, rfl, hR⟩
      · exact .inl (h.app _)
      · match R, hR with
        | [], _ => have := hO.len; simp at this; omega
        | r :: R, hR =>
          have hs := hO.sorted
          rw [List.pairwise_append, List.pairwise_cons] at hs
          have hr := hR r (by simp)
          by_cases e : r = k
          · subst e
            exact .inr ⟨R, by simp, fun x hx => hs.2.1.1 x hx⟩
          · exact .inl ⟨ch, k, r, [], R, rfl, rfl, by omega⟩
    refine ⟨ch ++ [k], by simp [hI.eq], by simp only; rw [cov_app, hI.set]; simp [covS], by simp; omega, ?_, ?_, hall, ?_⟩
    · rw [List.pairwise_append]
      exact ⟨hI.sorted, List.pairwise_singleton _ _, fun a ha b hb => by rw [List.mem_singleton.1 hb]; exact hI.low a ha⟩
    · intro x hx
      rcases List.mem_append.1 hx with hx | hx
      · have := hI.low x hx; omega
      · rw [List.mem_singleton.1 hx]; omega
    · obtain ⟨S, a, b, c⟩ := mst_ex cs _ (s.set ||| srv cs k cs.length) (Nat.lt_succ_self _) (s.left - 1) (by omega)
      have e2 : s.set ||| srv cs k cs.length ||| covS cs S = covS cs (ch ++ k :: S) := by rw [cov_app, covS, hI.set, Nat.or_assoc]
      rw [e2] at c
      have hb : ∀ x ∈ ch ++ k :: S, x < 30 := fun x hx => by
        rcases List.mem_append.1 hx with hx | hx
        · exact hbd x hx
        · rcases List.mem_cons.1 hx with rfl | hx
          · exact hk
          · exact a x hx
      have hO := opt_of hn hlow hb (by simp; omega) (c.trans ht.2)
      rcases hall _ hO with h | ⟨R, h1, h2⟩
      · refine absurd h (bef_not_sub ?_ hO.sorted fun x hx => (norm_mem hb x).2 (by simp at hx ⊢; rcases hx with hx | hx <;> simp [hx]))
        rw [List.pairwise_append]
        exact ⟨hI.sorted, List.pairwise_singleton _ _, fun a ha b hb => by rw [List.mem_singleton.1 hb]; exact hI.low a ha⟩
      · exact ⟨_, R, hO, h1, h2⟩
  · rw [if_neg ht]
    have hno : ∀ L R, OptL cs n H L → L = ch ++ R → (∀ r ∈ R, k ≤ r) → ∀ r ∈ R, k + 1 ≤ r := fun L R hO e hR => by
      subst e
      match R, hR with
      | [], _ => simp
      | r :: R, hR =>
        have hs := hO.sorted
        rw [List.pairwise_append, List.pairwise_cons] at hs
        have hr := hR r (by simp)
        have hne : r ≠ k := fun e => by subst e; exact ht (key R hO)
        intro x hx
        rcases List.mem_cons.1 hx with rfl | hx
        · omega
        · have := hs.2.1.1 x hx; omega
    refine ⟨ch, hI.eq, hI.set, hI.len, hI.sorted, fun x hx => by have := hI.low x hx; omega, fun L hO => ?_, ?_⟩
    · rcases hI.all L hO with h | ⟨R, e, hR⟩
      · exact .inl h
      · exact .inr ⟨R, e, hno L R hO e hR⟩
    · obtain ⟨L, R, hO, e, hR⟩ := hI.one
      exact ⟨L, R, hO, e, hno L R hO e hR⟩
theorem ch_all {cs : List Crowd} {n : Nat} {H : Int} (hn : n ≤ 10) (hH : mstK cs 0 n = H) (hlow : ∀ j, j < n → mstK cs 0 j < H) : ∀ k, k ≤ 30 → ∃ ch, ChI cs n H k (chTo cs H n k) ch
  | 0, _ => ⟨[], ch_start hn hH hlow⟩
  | k + 1, hk => by
    obtain ⟨ch, h⟩ := ch_all hn hH hlow k (by omega)
    rw [chTo_succ]
    exact ch_step hn hH hlow (by omega) h
theorem crowds_len (l : List (Nat × List Bool)) : (crowdsP l).length ≤ l.length := by
  unfold crowdsP
  have key : ∀ (l : List (Nat × List Bool)) (cs : List Crowd), (crowdsTo cs l).length ≤ cs.length + l.length := by
    intro l
    induction l with
    | nil => intro cs; simp [crowdsTo]
    | cons x l ih =>
      intro cs
      have h1 := ih (addCrowd cs x.2)
      have h2 : ∀ cs : List Crowd, (addCrowd cs x.2).length ≤ cs.length + 1 := by
        intro cs
        induction cs with
        | nil => simp [addCrowd]
        | cons c r ih2 => unfold addCrowd; split <;> simp <;> omega
      have h3 := h2 cs
      have e : crowdsTo cs (x :: l) = crowdsTo (addCrowd cs x.2) l := rfl
      rw [e]; simp; omega
  have := key l []
  simpa using this
/-- what is chosen: a list in order, no longer than allowed, that serves as many houses as any, the shortest of those, and the first one -/
structure Chosen (l : List (Nat × List Bool)) (st : Nat) (ch : List Nat) (n : Nat) : Prop where
  sorted : ch.Pairwise (· < ·)
  bd : ∀ s ∈ ch, s < 30
  len : ch.length ≤ st
  cnt : cntS l ch = n
  most : ∀ S : List Nat, (∀ s ∈ S, s < 30) → S.length ≤ st → cntS l S ≤ n
  short : ∀ S : List Nat, (∀ s ∈ S, s < 30) → n ≤ cntS l S → ch.length ≤ S.length
  first : ∀ S : List Nat, S.Pairwise (· < ·) → (∀ s ∈ S, s < 30) → S.length = ch.length → cntS l S = n → ch = S ∨ Bef ch S
theorem chosen (l : List (Nat × List Bool)) (hl : l.length ≤ 10) (st : Nat) : ∃ ch n, (chooseP l st).1 = ch.map (fun (x : Nat) => (x : Int)) ∧ (chooseP l st).2 = (n : Nat) ∧ Chosen l st ch n := by
  obtain ⟨cs, hcs⟩ : ∃ cs, cs = crowdsP l := ⟨_, rfl⟩
  have hc := crowds_len l
  rw [← hcs] at hc
  obtain ⟨h1, h2, h3⟩ := left_spec cs st
  have hcap := cap_min cs st
  have hn : chLeft cs st ≤ 10 := by omega
  obtain ⟨ch, hI⟩ := ch_all hn h2 h3 30 (by omega)
  obtain ⟨L, R, hO, e, hR⟩ := hI.one
  have hR0 : R = [] := by
    match R, hR, e with
    | [], _, _ => rfl
    | r :: R, hR, e =>
      have a := hR r (by simp)
      have b := hO.bd r (by rw [e]; simp)
      omega
  subst hR0
  rw [List.append_nil] at e
  subst e
  have hv : ∀ S, valS cs S = cntS l S := fun S => by rw [hcs]; exact val_cnt l S
  have hval := hO.val
  rw [hv] at hval
  have hmost : ∀ S : List Nat, (∀ s ∈ S, s < 30) → S.length ≤ st → (cntS l S : Int) ≤ chHouses cs st := fun S hS hl => by
    obtain ⟨T, a, b, c, d⟩ := cov_small cs S 0
    have hm := missing_le cs 0
    rw [Nat.zero_or, Nat.zero_or] at d
    have h5 := mst0_ge cs (S := T) (fun s hs => hS s (a s hs)) (k := chCap cs st) (by omega) (by omega)
    have h6 : valS cs T = valS cs S := by unfold valS; rw [d]
    rw [h6, hv] at h5
    exact h5
  refine ⟨L, cntS l L, ?_, ?_, hO.sorted, hO.bd, by have := hO.len; omega, rfl, fun S hS hlS => by have := hmost S hS hlS; omega, fun S hS hc2 => ?_, fun S hs hS hlS hc2 => ?_⟩
  · have e : (chooseP l st).1 = (chTo cs (chHouses cs st) (chLeft cs st) 30).ch := by unfold chooseP; rw [← hcs]
    rw [e]; exact hI.eq
  · have e : (chooseP l st).2 = chHouses cs st := by unfold chooseP; rw [← hcs]
    rw [e]; exact hval.symm
  · rcases Nat.lt_or_ge S.length L.length with h | h
    · have h7 := h3 S.length (by have := hO.len; omega)
      have h8 := mst0_ge cs hS (Nat.le_refl _) (show S.length ≤ 10 by have := hO.len; omega)
      rw [hv] at h8
      omega
    · exact h
  · have hOS : OptL cs (chLeft cs st) (chHouses cs st) S := ⟨hs, hS, by have := hO.len; omega, by rw [hv]; omega⟩
    rcases hI.all S hOS with h | ⟨R, e, hR⟩
    · exact .inr h
    · left
      match R, hR, e with
      | [], _, e => simpa using e.symm
      | r :: R, hR, e =>
        have a := hR r (by simp)
        have b := hS r (by rw [e]; simp)
        omega
end Go.Proofs.YtimedmkpenbmkaaGreat
end
section
namespace Go.Proofs.YtimedmkpenbmkaaGreat
open Go.RowKit Go.Shelf
set_option linter.unusedSimpArgs false
set_option linter.unusedVariables false
def takeP : List (Nat × List Bool) → List Nat → List Bool → List Nat → List Nat
  | [], taken, _, best => if taken.length ≤ best.length then best else taken
  | x :: r, taken, heard, best =>
    if taken.length + (r.length + 1) ≤ best.length then best
    else takeP r taken heard (if clashTo heard x.2 30 then best else takeP r (taken ++ [x.1]) (mixTo heard x.2 30) best)
def apartP (l : List (Nat × List Bool)) : List Nat := takeP l [] (List.replicate 30 false) []
def Sep : List Bool → List (Nat × List Bool) → Prop
  | _, [] => True
  | heard, x :: E => clashTo heard x.2 30 = false ∧ Sep (mixTo heard x.2 30) E
def fsts (E : List (Nat × List Bool)) : List Nat := E.map (·.1)
theorem sub_cons {α : Type} {E r : List α} {x : α} (h : E.Sublist (x :: r)) : E.Sublist r ∨ ∃ E', E = x :: E' ∧ E'.Sublist r := by
  cases h with
  | cons _ h => exact .inl h
  | cons_cons _ h => exact .inr ⟨_, rfl, h⟩
structure TakeS (r : List (Nat × List Bool)) (taken : List Nat) (heard : List Bool) (best res : List Nat) : Prop where
  is : res = best ∨ (best.length < res.length ∧ ∃ E, E.Sublist r ∧ Sep heard E ∧ res = taken ++ fsts E)
  most : ∀ E : List (Nat × List Bool), E.Sublist r → Sep heard E → taken.length + E.length ≤ res.length
  first : best.length < res.length → ∀ E : List (Nat × List Bool), E.Sublist r → Sep heard E → taken.length + E.length = res.length → res = taken ++ fsts E ∨ Bef res (taken ++ fsts E)
theorem TakeS.ge {r : List (Nat × List Bool)} {taken : List Nat} {heard : List Bool} {best res : List Nat} (h : TakeS r taken heard best res) : best.length ≤ res.length := by
  rcases h.is with h | h
  · rw [h]; exact Nat.le_refl _
  · omega
theorem take_spec : ∀ (r : List (Nat × List Bool)), (fsts r).Pairwise (· < ·) → ∀ (taken : List Nat) (heard : List Bool) (best : List Nat), TakeS r taken heard best (takeP r taken heard best)
  | [], _, taken, heard, best => by
    have hE : ∀ E : List (Nat × List Bool), E.Sublist [] → E = [] := fun E h => List.sublist_nil.1 h
    unfold takeP
    split
    · rename_i h
      exact ⟨.inl rfl, fun E hs _ => by rw [hE E hs]; simpa using h, fun h2 => absurd h2 (by omega)⟩
    · rename_i h
      refine ⟨.inr ⟨by omega, [], List.Sublist.refl _, trivial, by simp [fsts]⟩, fun E hs _ => by rw [hE E hs]; simp, fun _ E hs _ _ => ?_⟩
      rw [hE E hs]; left; simp [fsts]
  | x :: r, hs, taken, heard, best => by
    unfold fsts at hs
    rw [List.map_cons, List.pairwise_cons] at hs
    unfold takeP
    split
    · rename_i h
      refine ⟨.inl rfl, fun E hE _ => ?_, fun h2 => absurd h2 (by omega)⟩
      have := hE.length_le
      simp at this; omega
    · rename_i h
      clear h
      obtain ⟨b1, hb1⟩ : ∃ b1, b1 = if clashTo heard x.2 30 then best else takeP r (taken ++ [x.1]) (mixTo heard x.2 30) best := ⟨_, rfl⟩
      rw [← hb1]
      have ih2 := take_spec r hs.2 taken heard b1
      have hge2 := ih2.ge
      have h1 : clashTo heard x.2 30 = true ∧ b1 = best ∨ clashTo heard x.2 30 = false ∧ TakeS r (taken ++ [x.1]) (mixTo heard x.2 30) best b1 := by
        cases hc : clashTo heard x.2 30
        · right; rw [hc] at hb1; refine ⟨rfl, ?_⟩; rw [hb1]; exact take_spec r hs.2 _ _ _
        · left; rw [hc] at hb1; exact ⟨rfl, hb1⟩
      obtain ⟨res, hres⟩ : ∃ res, res = takeP r taken heard b1 := ⟨_, rfl⟩
      rw [← hres] at ih2 hge2 ⊢
      clear hres hb1
      have hge1 : best.length ≤ b1.length := by
        rcases h1 with ⟨_, h⟩ | ⟨_, h⟩
        · rw [h]; exact Nat.le_refl _
        · exact h.ge
      refine ⟨?_, fun E hE hS => ?_, fun hlt E hE hS hl => ?_⟩
      · rcases ih2.is with h | ⟨h, E, h2, h3, h4⟩
        · rcases h1 with ⟨_, h5⟩ | ⟨hc, h5⟩
          · left; rw [h, h5]
          · rcases h5.is with h6 | ⟨h6, E, h7, h8, h9⟩
            · left; rw [h, h6]
            · right
              refine ⟨by rw [h]; exact h6, x :: E, h7.cons_cons _, ⟨hc, h8⟩, ?_⟩
              rw [h, h9]; simp [fsts]
        · right
          exact ⟨by omega, E, h2.cons _, h3, h4⟩
      · rcases sub_cons hE with hE | ⟨E', rfl, hE'⟩
        · exact ih2.most E hE hS
        · rcases h1 with ⟨hc, _⟩ | ⟨hc, h5⟩
          · exact absurd hS.1 (by rw [hc]; simp)
          · have := h5.most E' hE' hS.2
            simp at this ⊢; omega
      · rcases sub_cons hE with hE | ⟨E', rfl, hE'⟩
        · rcases ih2.is with h | ⟨h, _⟩
          · rcases h1 with ⟨_, h5⟩ | ⟨hc, h5⟩
            · rw [h, h5] at hlt; omega
            · rcases h5.is with h6 | ⟨h6, E2, h7, h8, h9⟩
              · rw [h, h6] at hlt; omega
              · right
                rw [h, h9]
                match E, hE, hl with
                | [], _, hl => rw [h, h9] at hl; simp at hl
                | y :: E, hE, hl =>
                  have hy : y ∈ r := hE.subset (by simp)
                  refine ⟨taken, x.1, y.1, fsts E2, fsts E, by simp, by simp [fsts], hs.1 y.1 (List.mem_map.2 ⟨y, hy, rfl⟩)⟩
          · exact ih2.first h E hE hS hl
        · rcases h1 with ⟨hc, _⟩ | ⟨hc, h5⟩
          · exact absurd hS.1 (by rw [hc]; simp)
          · have hm := h5.most E' hE' hS.2
            have hl' : (taken ++ [x.1]).length + E'.length = b1.length := by simp at hl hm ⊢; omega
            have he : res = b1 := by
              rcases ih2.is with h | ⟨h, _⟩
              · exact h
              · simp at hl hl'; omega
            rw [he]
            have := h5.first (by rw [← he]; exact hlt) E' hE' hS.2 hl'
            simpa [fsts] using this
theorem clash_iff (us es : List Bool) (k : Nat) : clashTo us es k = true ↔ ∃ s, s < k ∧ us.getD s false = true ∧ es.getD s false = true := by
  unfold clashTo
  rw [List.any_eq_true]
  constructor
  · rintro ⟨s, h1, h2⟩; rw [Bool.and_eq_true] at h2; exact ⟨s, List.mem_range.1 h1, h2.1, h2.2⟩
  · rintro ⟨s, h1, h2, h3⟩; exact ⟨s, List.mem_range.2 h1, by rw [h2, h3]; rfl⟩
theorem clash_no {us es : List Bool} {k : Nat} : clashTo us es k = false ↔ ∀ s, s < k → us.getD s false = true → es.getD s false = false := by
  rw [← Bool.not_eq_true, clash_iff]
  constructor
  · intro h s h1 h2
    cases h3 : es.getD s false
    · rfl
    · exact absurd ⟨s, h1, h2, h3⟩ h
  · rintro h ⟨s, h1, h2, h3⟩
    rw [h s h1 h2] at h3; cases h3
theorem clash_mix {us es xs : List Bool} : clashTo (mixTo us es 30) xs 30 = false ↔ clashTo us xs 30 = false ∧ clashTo es xs 30 = false := by
  rw [clash_no, clash_no, clash_no]
  constructor
  · intro h
    refine ⟨fun s h1 h2 => h s h1 ?_, fun s h1 h2 => h s h1 ?_⟩
    · rw [mix_get us es 30 h1, h2]; simp
    · rw [mix_get us es 30 h1, h2]; simp [h1]
  · rintro ⟨h1, h2⟩ s hs h3
    rw [mix_get us es 30 hs, Bool.or_eq_true, Bool.and_eq_true] at h3
    rcases h3 with h3 | h3
    · exact h1 s hs h3
    · exact h2 s hs h3.2
def Apt (E : List (Nat × List Bool)) : Prop := E.Pairwise fun x y => clashTo x.2 y.2 30 = false
theorem sep_iff : ∀ (E : List (Nat × List Bool)) (heard : List Bool), Sep heard E ↔ (∀ x ∈ E, clashTo heard x.2 30 = false) ∧ Apt E
  | [], _ => by simp [Sep, Apt]
  | x :: E, heard => by
    unfold Sep
    rw [sep_iff E (mixTo heard x.2 30)]
    unfold Apt
    rw [List.pairwise_cons]
    constructor
    · rintro ⟨a, b, c⟩
      refine ⟨fun y hy => ?_, fun y hy => (clash_mix.1 (b y hy)).2, c⟩
      rcases List.mem_cons.1 hy with rfl | hy
      · exact a
      · exact (clash_mix.1 (b y hy)).1
    · rintro ⟨a, b, c⟩
      exact ⟨a x (by simp), fun y hy => clash_mix.2 ⟨a y (by simp [hy]), b y hy⟩, c⟩
theorem sep_none (E : List (Nat × List Bool)) : Sep (List.replicate 30 false) E ↔ Apt E := by
  rw [sep_iff]
  refine ⟨fun h => h.2, fun h => ⟨fun x _ => ?_, h⟩⟩
  rw [clash_no]
  intro s hs h2
  rw [List.getD_eq_getElem?_getD, List.getElem?_replicate, if_pos hs] at h2; cases h2
/-- as many houses as can be no two of which hear the same stand, and of several such lists the first one -/
structure Aparts (l E : List (Nat × List Bool)) : Prop where
  sub : E.Sublist l
  apt : Apt E
  most : ∀ F : List (Nat × List Bool), F.Sublist l → Apt F → F.length ≤ E.length
  first : ∀ F : List (Nat × List Bool), F.Sublist l → Apt F → F.length = E.length → fsts E = fsts F ∨ Bef (fsts E) (fsts F)
theorem aparts (l : List (Nat × List Bool)) (hs : (fsts l).Pairwise (· < ·)) : ∃ E, apartP l = fsts E ∧ Aparts l E := by
  have h := take_spec l hs [] (List.replicate 30 false) []
  have hm : ∀ F : List (Nat × List Bool), F.Sublist l → Apt F → F.length ≤ (apartP l).length := fun F hF hA => by
    have := h.most F hF ((sep_none F).2 hA)
    rw [List.length_nil, Nat.zero_add] at this
    exact this
  rcases h.is with h1 | ⟨h1, E, h2, h3, h4⟩
  · have e : apartP l = [] := h1
    refine ⟨[], by rw [e]; rfl, List.nil_sublist _, List.Pairwise.nil, fun F hF hA => by have := hm F hF hA; rw [e] at this; exact this, fun F hF hA hl => ?_⟩
    left
    have : F = [] := List.length_eq_zero_iff.1 hl
    rw [this]
  · have e : apartP l = fsts E := by rw [List.nil_append] at h4; exact h4
    have hl : (apartP l).length = E.length := by rw [e]; simp [fsts]
    refine ⟨E, e, h2, (sep_none E).1 h3, fun F hF hA => by have := hm F hF hA; omega, fun F hF hA hl2 => ?_⟩
    have := h.first h1 F hF ((sep_none F).2 hA) (by show 0 + F.length = (apartP l).length; rw [hl, hl2]; omega)
    rw [← e]
    rw [List.nil_append] at this
    exact this
theorem take_len : ∀ (r : List (Nat × List Bool)) (taken : List Nat) (heard : List Bool) (best : List Nat), (takeP r taken heard best).length ≤ max best.length (taken.length + r.length)
  | [], taken, heard, best => by unfold takeP; split <;> simp <;> omega
  | x :: r, taken, heard, best => by
    unfold takeP
    split
    · omega
    · have h2 := take_len r taken heard (if clashTo heard x.2 30 then best else takeP r (taken ++ [x.1]) (mixTo heard x.2 30) best)
      have h1 := take_len r (taken ++ [x.1]) (mixTo heard x.2 30) best
      rw [List.length_append, List.length_singleton] at h1
      rw [List.length_cons]
      split at h2
      · rename_i hc; rw [if_pos hc]; omega
      · rename_i hc; rw [if_neg hc]; omega
end Go.Proofs.YtimedmkpenbmkaaGreat
end
