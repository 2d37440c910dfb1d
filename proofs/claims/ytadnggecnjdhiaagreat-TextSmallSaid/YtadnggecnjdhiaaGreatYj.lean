/- oyezlaw02.TextSmall: the examples with each number at its limits and one beyond, texts with all kinds of stops and turns, and as many words and turns as there may be, and one more, are all as specified. A closed statement, no condition. -/
import Derived.Test.YtadnggecnjdhiaaGreatYh
import Derived.Test.YtadnggecnjdhiaaGreatYi
set_option linter.unusedSimpArgs false
set_option linter.unusedVariables false
namespace Go.Proofs.YtadnggecnjdhiaaGreat
open Go.RowKit Tx
set_option maxHeartbeats 400000000 in
set_option maxRecDepth 1000000 in
theorem TextSmall_any (w:World):Calls Tryz.prog 4 #[] w fun e w'=>e=.returned (.bool true)∧Below w.heap.size w w':=by
 go_enter Tryz.func4,Tryz.ntmps4
 refine seq_fr (fun w'=>w'=w) (fun K hK=>?_) fun V1 w1 h1=>?_
 ·have HK:=Lib.hid hK;clear hK;go_wp2_with fail
  exact HK.out _ rfl _ rfl
 subst h1;refine seq_fr (fun w'=>Below w1.heap.size w1 w') (fun K hK=>TextSmall_one w1 V1 hK) fun V2 w2 h2=>?_;refine seq_fr (fun w'=>Below w1.heap.size w1 w') (fun K hK=>TextSmall_two w1 w2 h2 V2 hK) fun V3 w3 h3=>?_;refine seq_fr (fun w'=>Below w1.heap.size w1 w') (fun K hK=>TextSmall_three w1 w3 h3 V3 hK) fun V4 w4 h4=>?_;have HB:=Lib.hid h4;clear h2 h3 h4;dsimp only [fr,frs,Nat.reduceAdd];go_wp2_with fail
 refine (awake_any w4).mono ?_;rintro e we ⟨rfl,hB⟩;have HB:=Lib.hid (HB.out.trans (hB.mono HB.out.size));clear hB;go_wp2_with fail
 go_ret;exact ⟨rfl,HB.out⟩
end Go.Proofs.YtadnggecnjdhiaaGreat
namespace Go.Proofs.YtadnggecnjdhiaaGreat
open Go.ChangeShapes Go.WideShapes Go.ChangeAt Go.RowKit Go.Joins Tx
set_option linter.unusedVariables false
set_option linter.unusedSimpArgs false
set_option maxRecDepth 100000 in
theorem TextSmall_lifted (os:Os) (started:os.Started) (H:Type) (enc:TypeId × Value→H) :
  ReturnsInHanded {} Tryz.checked os 4 .any (Rows.textSmallSpec.pre6 enc Tryz.prog Tryz.f4 Rows.textSmallRow.domain false) (Rows.textSmallSpec.post enc Tryz.prog Tryz.f4 false true false false):=by
 refine returnsInHanded_of_change (C:=Tryz.checked) Tryz.own started (by kernel_rfl) Tryz.func4
  (ChangeSpec.witness6 (enc:=enc) (C:=Tryz.checked) false ⟨#[],#[],[]⟩ 8 (by kernel_rfl) (by kernel_rfl) (by kernel_rfl) (by kernel_rfl)) ?_
 intro W base args ds gs before hval0 hW hcnd _;have hval:∀ (j:Nat) t v,Tryz.f4.params[j]?=some t→args[j]?=some v→Value.okWide Tryz.prog W .any base t v:=hval0;have hW':=hW;obtain ⟨p,q,hA0,hV,rfl,hfz,hnd⟩:=hW;have hA:DataW.TrodAll enc Tryz.prog W 0 (fun _=>true) true Tryz.f4.params.toList args.toList ds p:=hA0;rw [Tryz.params4] at hA hval;obtain ⟨hargs,rfl,rfl⟩:=trodAll_nil hA;obtain rfl:args=#[]:=by cases args;simp_all
 obtain ⟨rfl,rfl⟩:=trodVars_none hV;clear hA0 hval0;refine (TextSmall_any W).mono fun e W' ⟨he,bel⟩=>?_;subst he;exact ⟨_,rfl,_,_,_,[],_,[],hW',trodAll_mk1 (shut_bool Tryz.underlying4 _),trodAll_mk0,rfl,bel.frame _,fun h=>by cases h⟩
theorem TextSmall_holds:Rows.TextSmallSaid :=
 OpenClaim.holds_of_wide 4 Tryz.f4 rfl rfl rfl rfl rfl rfl rfl ⟨rfl,rfl,rfl,rfl,rfl⟩ rfl rfl rfl rfl rfl (by kernel_rfl) Tryz.func4 (by kernel_rfl)
  (of_decide_eq_true (by kernel_rfl)) (by unfold Func.isWrapper;first | (rw [if_pos (by decide +kernel)];kernel_rfl) | (rw [if_neg (by decide +kernel)];exact ⟨rfl,rfl⟩))
  (fun os started H enc _=>TextSmall_lifted os started H enc)
end Go.Proofs.YtadnggecnjdhiaaGreat
