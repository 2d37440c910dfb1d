/- Contracts of the code and of the reference, part 2. -/
import Derived.Test.YtadnggecnjdhiaaGreatYa
import Derived.Laws.MakeOwn
import Derived.DeepKeys
import Derived.Laws.StructEq
import Derived.Laws.CopyOwn
import Derived.Laws.CopyRow
import Derived.Deep.RegionLaw
set_option linter.unusedSimpArgs false
set_option linter.unusedVariables false
namespace Go.Proofs.YtadnggecnjdhiaaGreat
open Go.RowKit Tx
def runs (m:Nat):List (Nat × Nat):=(List.range m).flatMap fun a=>(List.range' a (m-a)).map fun b=>(a,b)
def runSays (P:List Int) (u:Turn) (a b:Nat):Bool:=u.says (P.getD a 0) (P.getD (b+1) 0-1)
def astrayGo (P:List Int):Nat→List Turn→Int × Int × Int × Int
 | _,[]=>(0,0,0,6)
 | i,u::us=>match (runs (P.length-1)).find? (fun q=>runSays P u q.1 q.2) with
  | some q=>((i:Int),(q.1:Int),(q.2:Int),0)
  | none=>astrayGo P (i+1) us
theorem runs_find {p:Nat→Nat→Bool} {m a b:Nat} (hab:a≤b) (hb:b<m) (h1:∀ a' b',a'<a→a'≤b'→b'<m→p a' b'=false) (h2:∀ b',a≤b'→b'<b→p a b'=false) (h:p a b=true) :
  (runs m).find? (fun q=>p q.1 q.2)=some (a,b):=by
 unfold runs;rw [show m=a+(m-a-1+1) by omega,List.range_add,List.flatMap_append,List.find?_append];rw [show ((List.range a).flatMap fun x=>(List.range' x (a+(m-a-1+1)-x)).map fun b=>(x,b)).find? (fun q=>p q.1 q.2)=none from by
  rw [List.find?_eq_none];intro q hq;obtain ⟨x,hx,hq⟩:=List.mem_flatMap.1 hq;obtain ⟨y,hy,rfl⟩:=List.mem_map.1 hq;rw [List.mem_range'_1] at hy;rw [h1 x y (List.mem_range.1 hx) hy.1 (by omega)];decide]
 rw [Option.none_or,List.range_succ_eq_map,List.map_cons,List.flatMap_cons,List.find?_append];have hrow:((List.range' (a+0) (a+(m-a-1+1)-(a+0))).map fun b=>(a+0,b)).find? (fun q=>p q.1 q.2)=some (a,b):=by
  rw [Nat.add_zero,show a+(m-a-1+1)-a=(b-a)+(m-b) by omega,← List.range'_append,List.map_append,List.find?_append];rw [show ((List.range' a (b-a)).map fun b=>(a,b)).find? (fun q=>p q.1 q.2)=none from by
   rw [List.find?_eq_none];intro q hq;obtain ⟨y,hy,rfl⟩:=List.mem_map.1 hq;rw [List.mem_range'_1] at hy;rw [h2 y hy.1 (by omega)];decide]
  rw [Option.none_or,show a+1*(b-a)=b by omega,show m-b=(m-b-1)+1 by omega,List.range'_succ,List.map_cons,List.find?_cons_of_pos (by exact h)]
 rw [hrow];rfl
theorem runs_none {p:Nat→Nat→Bool} {m:Nat} (h1:∀ a' b',a'<m→a'≤b'→b'<m→p a' b'=false):(runs m).find? (fun q=>p q.1 q.2)=none:=by
 rw [List.find?_eq_none];intro q hq;unfold runs at hq;obtain ⟨x,hx,hq⟩:=List.mem_flatMap.1 hq;obtain ⟨y,hy,rfl⟩:=List.mem_map.1 hq;rw [List.mem_range'_1] at hy;have:=List.mem_range.1 hx;rw [h1 x y this hy.1 (by omega)];decide
theorem astrayGo_at (P:List Int) (ts:List Turn) (k:Nat) (h:k<ts.length):astrayGo P k (ts.drop k)=match (runs (P.length-1)).find? (fun q=>runSays P (ts.getD k default) q.1 q.2) with
  | some q=>((k:Int),(q.1:Int),(q.2:Int),0) | none=>astrayGo P (k+1) (ts.drop (k+1)):=by
 rw [List.drop_eq_getElem_cons h,astrayGo];rw [show ts[k]=ts.getD k default from by simp [h]]
def spAs (uw ul uh pa pb:Int) (gp:Nat) (og n cl a b:Nat) (r:Bool):Nat→List Value→Value→World→Prop
 | 0,_,v,_=>v=.agg #[.int .i64 uw,.int .i64 ul,.int .i64 uh]
 | 1,_,v,_=>v=.slice (some ⟨gp,og,none⟩) n cl
 | 2,_,v,_=>v=.int .i64 a
 | 3,_,v,_=>v=.pointer (some ⟨gp,og+a,none⟩)
 | 4,_,v,_=>v=.int .i64 pa
 | 5,_,v,_=>v=.slice (some ⟨gp,og,none⟩) n cl
 | 6,_,v,_=>v=.int .i64 b
 | 7,_,v,_=>v=.int .i64 ((b:Int)+1)
 | 8,_,v,_=>v=.pointer (some ⟨gp,og+(b+1),none⟩)
 | 9,_,v,_=>v=.int .i64 pb
 | 10,_,v,_=>v=.agg #[.int .i64 pa,.int .i64 (pb-1)]
 | 11,_,v,_=>v=.bool r
 | _,_,_,_=>False
theorem spAs_stable (uw ul uh pa pb:Int) (gp:Nat) (og n cl a b:Nat) (r:Bool):∀ i L v w w',spAs uw ul uh pa pb gp og n cl a b r i L v w→Rs.Gr w w'→spAs uw ul uh pa pb gp og n cl a b r i L v w':=by
 intro i L v w w' h hg
 match i with
 | 0=>exact h
 | 1=>exact h
 | 2=>exact h
 | 3=>exact h
 | 4=>exact h
 | 5=>exact h
 | 6=>exact h
 | 7=>exact h
 | 8=>exact h
 | 9=>exact h
 | 10=>exact h
 | 11=>exact h
set_option maxHeartbeats 2000000 in
set_option maxRecDepth 100000 in
theorem firstAstray_any (t:Text) (hm:t.turns.length≤1000000) (P:List Int) (hP1:1≤P.length) (hPl:P.length≤1000000) (hPb:∀ k,k<P.length→-1000000≤P.getD k 0∧P.getD k 0≤1000000) (pt pp:Option Addr) (ct cl:Nat) (v0 v2 v3:Value) (w:World) (hT:Tns w pt t.turns) (hL:Ints w pp P) :
  Calls Tryz.prog 86 #[.agg #[v0,.slice pt t.turns.length ct,v2,v3],.slice pp P.length cl] w fun e w' =>
   e=.returned (.tuple #[.int .i64 (astrayGo P 0 t.turns).1,.agg #[.int .i64 (astrayGo P 0 t.turns).2.1,.int .i64 (astrayGo P 0 t.turns).2.2.1],.int .i64 (astrayGo P 0 t.turns).2.2.2])∧Below w.heap.size w w':=by
 rcases hL with h0 | ⟨gp,og,rfl,hgp,hcP⟩
 ·rw [h0] at hP1;simp at hP1
 have HT:=Lib.hid hT;have HCP:=Lib.hid hcP;have HPB:=Lib.hid hPb;have hB2:Below w.heap.size w ((w.alloc (.cells #[v0,.slice pt t.turns.length ct,v2,v3] 84)).alloc (.cells #[.int .i64 0,.int .i64 0] 58)):=(below1 _ _).alloc (by simp) _;have hres:((w.alloc (.cells #[v0,.slice pt t.turns.length ct,v2,v3] 84)).alloc (.cells #[.int .i64 0,.int .i64 0] 58)).heap[w.heap.size+1]?=some (.cells #[.int .i64 0,.int .i64 0] 58 (0,0)):=by
  have:=heap_last (w.alloc (.cells #[v0,.slice pt t.turns.length ct,v2,v3] 84)) (.cells #[.int .i64 0,.int .i64 0] 58);rwa [World.size_alloc] at this
 have hsz:((w.alloc (.cells #[v0,.slice pt t.turns.length ct,v2,v3] 84)).alloc (.cells #[.int .i64 0,.int .i64 0] 58)).heap.size=w.heap.size+2:=by simp
 have HB2:=Lib.hid hB2;have HRES:=Lib.hid hres;clear hT hcP hPb hB2 hres
 go_enter Tryz.func86,Tryz.ntmps86
 go_wp2_with fail
 generalize (w.alloc (.cells #[v0,.slice pt t.turns.length ct,v2,v3] 84)).alloc (.cells #[.int .i64 0,.int .i64 0] 58)=W1 at HB2 HRES hsz ⊢
 go_loopw [7,8,9,10,15] (fun u7 u8 u9 u10 i wr=>∃ k:Nat,k≤t.turns.length∧i=.int .i64 k∧astrayGo P k (t.turns.drop k)=astrayGo P 0 t.turns∧Below W1.heap.size W1 wr) (fun _ _ _ _ i _=>t.turns.length-(intOf i).toNat)
 case atStart=>exact ⟨0,Nat.zero_le _,rfl,rfl,Below.refl _ _⟩
 case round =>
  obtain ⟨w3,rfl⟩:∃ w3:World,w3=wr:=⟨_,rfl⟩;obtain ⟨k,hk,rfl,hag,hB⟩:=hrel;have HAG:=Lib.hid hag;have HB:=Lib.hid hB;have hz3:=hB.size;clear hag hB;by_cases hlt:k<t.turns.length
  ·have hlt':(k:Int)<t.turns.length:=by omega
   obtain ⟨bt,ot,x,rfl,hbt,hxx,c1,c2,c3⟩:=((HT.out.below HB2.out).below HB.out).at hlt;obtain ⟨uw,ul,uh⟩:=x;dsimp only at c1 c2 c3;have HXX:=Lib.hid hxx;have HAT:=Lib.hid (astrayGo_at P t.turns k hlt);rw [← hxx] at HAT;have HU:=Lib.hid (heap_last w3 (.cells #[.int .i64 uw,.int .i64 ul,.int .i64 uh] 63));have HB4:=Lib.hid (join HB.out (below1 w3 (.cells #[.int .i64 uw,.int .i64 ul,.int .i64 uh] 63)));have hz4:(w3.alloc (.cells #[.int .i64 uw,.int .i64 ul,.int .i64 uh] 63)).heap.size=w3.heap.size+1:=by simp
   obtain ⟨U,hU⟩:∃ U,U=w3.heap.size:=⟨_,rfl⟩;have hUW:W1.heap.size≤U:=by omega
   rw [← hU] at HU hz4;clear hxx;go_wp2_with fail
   generalize hW4:w3.alloc (.cells #[.int .i64 uw,.int .i64 ul,.int .i64 uh] 63)=W4 at HU HB4 hz4 ⊢;rw [← hU];clear hW4
   go_loopw [9,10,23] (fun u9 u10 j w5=>∃ a:Nat,a≤P.length-1∧j=.int .i64 a∧(∀ a' b',a'<a→a'≤b'→b'<P.length-1→runSays P ⟨uw,ul,uh⟩ a' b'=false)∧Below W4.heap.size W4 w5) (fun _ _ j _=>P.length-1-(intOf j).toNat)
   case atStart=>exact ⟨0,Nat.zero_le _,rfl,fun _ _ h=>absurd h (Nat.not_lt_zero _),Below.refl _ _⟩
   case round =>
    obtain ⟨w5,rfl⟩:∃ w5:World,w5=wr:=⟨_,rfl⟩;obtain ⟨a,ha,rfl,hA,hB5⟩:=hrel;have HA:=Lib.hid hA;have HB5:=Lib.hid hB5;have hz5:=hB5.size;clear hA hB5;by_cases hal:a<P.length-1
    ·have hal':(a:Int)<(P.length:Int)-1:=by omega
     go_wp2_with fail
     go_loopw [10] (fun u10 w6=>∃ b:Nat,a≤b∧b≤P.length-1∧u10=.int .i64 b∧(∀ b',a≤b'→b'<b→runSays P ⟨uw,ul,uh⟩ a b'=false)∧Below W4.heap.size W4 w6) (fun u _=>P.length-1-(intOf u).toNat)
     case atStart=>exact ⟨a,Nat.le_refl _,by omega,rfl,fun b' h1 h2=>by omega,HB5.out⟩
     case round =>
      obtain ⟨w6,rfl⟩:∃ w6:World,w6=wr:=⟨_,rfl⟩;obtain ⟨b,hab,hbl,rfl,hR,hB6⟩:=hrel;have HR:=Lib.hid hR;have HB6:=Lib.hid hB6;have hz6:=hB6.size;clear hR hB6;by_cases hbm:b<P.length-1
      ·have hbm':(b:Int)<(P.length:Int)-1:=by omega
       have han:(a:Int)<P.length:=by omega
       have hbn:(b:Int)+1<P.length:=by omega
       have hbn2:0≤(b:Int)+1:=by omega
       have hbn3:((b:Int)+1).toNat=b+1:=by omega
       have hsum:IntKind.i64.wrap ((b:Int)+1)=(b:Int)+1:=IntWalk.i64_in _ (by omega);have HBw:=Lib.hid (HB2.out.trans ((HB4.out.trans (HB6.out.mono (by omega))).mono (by omega)));have hca:=(HBw.out.cell (p:=⟨gp,og+a,none⟩) hgp).trans (HCP.out a (by omega));have hcb:=(HBw.out.cell (p:=⟨gp,og+(b+1),none⟩) hgp).trans (HCP.out (b+1) (by omega));have hpb:=HPB.out (b+1) (by omega);have HRS:=Lib.hid (show runSays P ⟨uw,ul,uh⟩ a b=(Turn.mk uw ul uh).says (P.getD a 0) (P.getD (b+1) 0-1) from rfl);generalize P.getD a 0=pa at hca HRS;generalize P.getD (b+1) 0=pb at hcb hpb HRS;have hUb:=(HB6.out.block U (by omega)).trans HU.out;have F0:=Lib.hid (blk_cells hUb 0 _ rfl);have F1:=Lib.hid (blk_cells hUb 1 _ rfl);have F2:=Lib.hid (blk_cells hUb 2 _ rfl);have HCA:=Lib.hid hca;have HCB:=Lib.hid hcb;have hsU:U<w6.heap.size:=by omega
       have hsg:gp<w6.heap.size:=by have:=HBw.out.size;omega
       clear hca hcb hUb;go_wp2_with fail
       refine Rs.region_gen 12 [[],[],[],[1,2],[1,2,3],[],[],[6],[5,6,7],[5,6,7,8],[1,2,3,4,5,6,7,8,9],[0,1,2,3,4,5,6,7,8,9,10]] [some 34,some 35,some 36,some 37,some 38,some 39,some 40,some 41,some 42,some 43,some 44,some 45] (spAs uw ul uh pa pb gp og P.length cl a b ((Turn.mk uw ul uh).says pa (pb-1))) (by kernel_rfl) (by kernel_rfl) rfl (spAs_stable _ _ _ _ _ _ _ _ _ _ _ _) ?_ ?_
       ·refine ⟨fun V w' hG hs=>?_,fun V w' hG hs=>?_,fun V w' hG hs=>?_,fun V w' hG hs=>?_,fun V w' hG hs=>?_,fun V w' hG hs=>?_,fun V w' hG hs=>?_,fun V w' hG hs=>?_,fun V w' hG hs=>?_,fun V w' hG hs=>?_,fun V w' hG hs=>?_,fun V w' hG hs=>?_,trivial⟩
        all_goals
         obtain ⟨bc,_⟩:=bcell hG;have f0:=(bc U 0 hsU).trans F0.out;have f1:=(bc U 1 hsU).trans F1.out;have f2:=(bc U 2 hsU).trans F2.out;have hca:=(bc gp (og+a) hsg).trans HCA.out;have hcb:=(bc gp (og+(b+1)) hsg).trans HCB.out;clear bc
        ·rw [if_pos (by rfl)];exact Rs.GrowL.value (v:=.agg #[.int .i64 uw,.int .i64 ul,.int .i64 uh]) (w':=w') (by simp [go_sem,Rs.look,f0,f1,f2]) (Rs.Gr.refl _) rfl
        ·rw [if_pos (by rfl)];exact Rs.GrowL.value (v:=.slice (some ⟨gp,og,none⟩) P.length cl) (w':=w') (by simp [go_sem,Rs.look]) (Rs.Gr.refl _) rfl
        ·rw [if_pos (by rfl)];exact Rs.GrowL.value (v:=.int .i64 a) (w':=w') (by simp [go_sem,Rs.look]) (Rs.Gr.refl _) rfl
        ·have e1:V 1=_:=hs 1 (by simp);have e2:V 2=_:=hs 2 (by simp);rw [if_pos (by rfl)];exact Rs.GrowL.value (v:=.pointer (some ⟨gp,og+a,none⟩)) (w':=w') (by simp [go_sem,Rs.look,e1,e2,han]) (Rs.Gr.refl _) rfl
        ·have e1:V 1=_:=hs 1 (by simp);have e2:V 2=_:=hs 2 (by simp);have e3:V 3=_:=hs 3 (by simp);rw [if_pos (by rfl)];exact Rs.GrowL.value (v:=.int .i64 pa) (w':=w') (by simp [go_sem,Rs.look,e1,e2,e3,hca]) (Rs.Gr.refl _) rfl
        ·rw [if_pos (by rfl)];exact Rs.GrowL.value (v:=.slice (some ⟨gp,og,none⟩) P.length cl) (w':=w') (by simp [go_sem,Rs.look]) (Rs.Gr.refl _) rfl
        ·rw [if_pos (by rfl)];exact Rs.GrowL.value (v:=.int .i64 b) (w':=w') (by simp [go_sem,Rs.look]) (Rs.Gr.refl _) rfl
        ·have e6:V 6=_:=hs 6 (by simp);rw [if_pos (by rfl)];exact Rs.GrowL.value (v:=.int .i64 ((b:Int)+1)) (w':=w') (by simp [go_sem,Rs.look,e6,hsum]) (Rs.Gr.refl _) rfl
        ·have e5:V 5=_:=hs 5 (by simp);have e6:V 6=_:=hs 6 (by simp);have e7:V 7=_:=hs 7 (by simp);rw [if_pos (by rfl)];exact Rs.GrowL.value (v:=.pointer (some ⟨gp,og+(b+1),none⟩)) (w':=w') (by simp [go_sem,Rs.look,e5,e6,e7,hbn,hbn2,hbn3]) (Rs.Gr.refl _) rfl
        ·have e5:V 5=_:=hs 5 (by simp);have e6:V 6=_:=hs 6 (by simp);have e7:V 7=_:=hs 7 (by simp);have e8:V 8=_:=hs 8 (by simp);rw [if_pos (by rfl)];exact Rs.GrowL.value (v:=.int .i64 pb) (w':=w') (by simp [go_sem,Rs.look,e5,e6,e7,e8,hcb]) (Rs.Gr.refl _) rfl
        ·have e1:V 1=_:=hs 1 (by simp);have e2:V 2=_:=hs 2 (by simp);have e3:V 3=_:=hs 3 (by simp);have e4:V 4=_:=hs 4 (by simp);have e5:V 5=_:=hs 5 (by simp);have e6:V 6=_:=hs 6 (by simp);have e7:V 7=_:=hs 7 (by simp);have e8:V 8=_:=hs 8 (by simp);have e9:V 9=_:=hs 9 (by simp);rw [if_pos (by rfl)];refine Rs.GrowL.call (f:=128) (args:=#[.int .i64 pa,.int .i64 pb]) (by simp [go_sem,Rs.look,e4,e9]) ?_;refine (wordsBetween_any _ _ _ (by omega) (by omega)).mono ?_;rintro e w2 ⟨rfl,rfl⟩;exact ⟨_,rfl,below1 _ _,rfl⟩
        ·have e0:V 0=_:=hs 0 (by simp);have e1:V 1=_:=hs 1 (by simp);have e2:V 2=_:=hs 2 (by simp);have e3:V 3=_:=hs 3 (by simp);have e4:V 4=_:=hs 4 (by simp);have e5:V 5=_:=hs 5 (by simp);have e6:V 6=_:=hs 6 (by simp);have e7:V 7=_:=hs 7 (by simp);have e8:V 8=_:=hs 8 (by simp);have e9:V 9=_:=hs 9 (by simp);have e10:V 10=_:=hs 10 (by simp);rw [if_pos (by rfl)];refine Rs.GrowL.call (f:=127) (args:=#[.agg #[.int .i64 uw,.int .i64 ul,.int .i64 uh],.agg #[.int .i64 pa,.int .i64 (pb-1)]]) (by simp [go_sem,Rs.look,e0,e10]) ?_;refine (says_any (Turn.mk uw ul uh) _ _ _).mono ?_;rintro e w2 ⟨rfl,hB2⟩;exact ⟨_,rfl,hB2,rfl⟩
       ·intro V w' hG hs;have e0:V 0=_:=hs 0 (by omega);have e1:V 1=_:=hs 1 (by omega);have e2:V 2=_:=hs 2 (by omega);have e3:V 3=_:=hs 3 (by omega);have e4:V 4=_:=hs 4 (by omega);have e5:V 5=_:=hs 5 (by omega);have e6:V 6=_:=hs 6 (by omega);have e7:V 7=_:=hs 7 (by omega);have e8:V 8=_:=hs 8 (by omega);have e9:V 9=_:=hs 9 (by omega);have e10:V 10=_:=hs 10 (by omega);have e11:V 11=_:=hs 11 (by omega);simp only [Rs.canon,Rs.dstOf,List.range_succ,List.range_zero,List.nil_append,List.cons_append,List.foldl_cons,List.foldl_nil,List.drop_succ_cons,List.drop_zero,List.drop_nil,List.getElem?_toArray,List.getElem?_cons_succ,List.getElem?_cons_zero,Option.bind_some,Act.put,List.getD_cons_succ,List.getD_cons_zero,List.setIfInBounds_toArray,List.set_cons_succ,List.set_cons_zero];rw [e0,e1,e2,e3,e4,e5,e6,e7,e8,e9,e10,e11];clear e0 e1 e2 e3 e4 e5 e6 e7 e8 e9 e10 e11 hs;have HG:=Lib.hid hG;clear hG;cases hr:(Turn.mk uw ul uh).says pa (pb-1) with
        | true =>
         have hfd:=runs_find (p:=fun a b=>runSays P ⟨uw,ul,uh⟩ a b) hab hbm HA.out HR.out (by show runSays P ⟨uw,ul,uh⟩ a b=true;rw [HRS.out];exact hr);have hfin:astrayGo P 0 t.turns=((k:Int),(a:Int),(b:Int),0):=by rw [← HAG.out,HAT.out,hfd]
         have HFIN:=Lib.hid hfin;have HR1:=Lib.hid hr;have hrb:=(HG.out.block (w.heap.size+1) (by have:=HB2.out.size;omega)).trans ((HB6.out.block (w.heap.size+1) (by omega)).trans ((HB4.out.block (w.heap.size+1) (by omega)).trans HRES.out));have r0:=blk_cells hrb 0 _ rfl;have r1:=blk_cells hrb 1 _ rfl;have z0:w'.frozen? ⟨w.heap.size+1,0,none⟩=false:=by simp [World.frozen?,hrb]
         have z1:w'.frozen? ⟨w.heap.size+1,1,none⟩=false:=by simp [World.frozen?,hrb]
         have hs1:w.heap.size+1<w'.heap.size:=by have:=HG.out.size;omega
         have HBW:=Lib.hid (join HBw.out HG.out);clear hfd hfin hr hrb;go_wp2;refine bodyPost_ret (v:=.tuple #[.int .i64 k,.agg #[.int .i64 a,.int .i64 b],.int .i64 0]) (by simp [results,Tryz.results86,go_sem,r0,r1]) rfl ⟨by rw [HFIN.out],?_⟩
         repeat' (first | exact HBW.out | apply belS | apply belA | apply belD)
         all_goals first | omega | (simp;done) | (simp;omega)
        | false =>
         have HR1:=Lib.hid hr;clear hr;go_wp2;go_roundw
         case rel =>
          refine ⟨b+1,by omega,by omega,by go_num,fun b' h1 h2=>?_,join HB6.out HG.out⟩;by_cases hb':b'=b
          ·subst hb';rw [HRS.out,HR1.out]
          ·exact HR.out b' h1 (by omega)
         case measure=>simp [intOf];omega
      ·obtain rfl:b=P.length-1:=by omega
       have hbl2:¬ (((P.length-1:Nat):Int)<(P.length:Int)-1):=by omega
       go_wp2;go_roundw
       case rel =>
        refine ⟨a+1,by omega,by go_num,fun a' b' h1 h2 h3=>?_,HB6.out⟩;by_cases ha':a'=a
        ·subst ha';exact HR.out b' h2 h3
        ·exact HA.out a' b' (by omega) h2 h3
       case measure=>simp [intOf];omega
    ·obtain rfl:a=P.length-1:=by omega
     have hnone:=runs_none (p:=fun a b=>runSays P ⟨uw,ul,uh⟩ a b) HA.out;have HN:=Lib.hid hnone;have hal':((P.length-1:Nat):Int)=(P.length:Int)-1:=by omega
     have hal2:¬ (((P.length-1:Nat):Int)<(P.length:Int)-1):=by omega
     clear hnone;go_wp2;go_roundw
     case rel=>exact ⟨k+1,by omega,by go_num,by have:=HAT.out;rw [HN.out,HAG.out] at this;exact this.symm,HB4.out.trans (HB5.out.mono (by omega))⟩
     case measure=>simp [intOf];omega
  ·obtain rfl:k=t.turns.length:=by omega
   have hfin:astrayGo P 0 t.turns=(0,0,0,6):=by rw [← HAG.out,List.drop_length];rfl
   have HFIN:=Lib.hid hfin;have r0:=blk_cells ((HB.out.block (w.heap.size+1) (by omega)).trans HRES.out) 0 _ rfl;have r1:=blk_cells ((HB.out.block (w.heap.size+1) (by omega)).trans HRES.out) 1 _ rfl;have z0:w3.frozen? ⟨w.heap.size+1,0,none⟩=false:=by simp [World.frozen?,(HB.out.block (w.heap.size+1) (by omega)).trans HRES.out]
   have z1:w3.frozen? ⟨w.heap.size+1,1,none⟩=false:=by simp [World.frozen?,(HB.out.block (w.heap.size+1) (by omega)).trans HRES.out]
   have hs1:w.heap.size+1<w3.heap.size:=by omega
   have HBW:=Lib.hid (HB2.out.trans (HB.out.mono (by omega)));clear hfin;go_wp2;refine bodyPost_ret (v:=.tuple #[.int .i64 0,.agg #[.int .i64 0,.int .i64 0],.int .i64 6]) (by simp [results,Tryz.results86,go_sem,r0,r1]) rfl ⟨by rw [HFIN.out],?_⟩
   repeat' (first | exact HBW.out | apply belS | apply belA | apply belD)
   all_goals first | omega | (simp;done) | (simp;omega)
end Go.Proofs.YtadnggecnjdhiaaGreat
namespace Go.Proofs.YtadnggecnjdhiaaGreat
open Go.RowKit Tx
attribute [local go_sem] Oper.semAt_some
theorem read_ok {t:Text} {l:List Int} (he:readErr t l=0):t.err=0∧(∀ x∈l,1≤x∧x≤12)∧isum l=t.words.length:=by
 have h0:t.err=0:=by
  by_cases h:t.err=0
  ·exact h
  ·unfold readErr at he;rw [if_pos h] at he;exact absurd he h
 unfold readErr at he;rw [if_neg (by simp [h0])] at he;have h1:¬ l.any (fun k=>!btw k 1 12)=true:=by intro h;rw [if_pos h] at he;omega
 rw [if_neg h1] at he;have h2:isum l=t.words.length:=by
  by_cases h:isum l=t.words.length
  ·exact h
  ·rw [if_pos h] at he;omega
 exact ⟨h0,fun x hx=>by
  have:=any_false h1 x hx;simp only [Bool.not_eq_false'] at this;exact btw_true this,h2⟩
set_option maxHeartbeats 800000 in
set_option maxRecDepth 100000 in
theorem Wrong_ok (t:Text) (l:List Int) (he:readErr t l=0) (hll:l.length≤1000000) (pw pt pl:Option Addr) (cw ct cl:Nat) (hcw:t.words.length≤cw∧cw≤maxLen) (w:World) (hW:TxAt w t pw pt) (hL:Ints w pl l) :
  Calls Tryz.prog 36 #[.agg #[.slice pw t.words.length cw,.slice pt t.turns.length ct,.int .i64 t.breath],.slice pl l.length cl] w fun e w' =>
   e=.returned (.tuple #[.int .i64 (wrongGo t 0 0 l).1,.int .i64 (wrongGo t 0 0 l).2.1,.int .i64 (wrongGo t 0 0 l).2.2])∧Below w.heap.size w w':=by
 obtain ⟨h0,hx,hs⟩:=read_ok he;have ok:=err_ok h0;have HS:=Lib.hid (fun W (h:Below w.heap.size w W)=>openReading_ok t l he hll pw pt pl cw ct cl W (hW.below h) (hL.below h));have HF:=Lib.hid (fun W (h:Below w.heap.size w W)=>firstWrong_any t l hx hs pw pt pl cw ct cl (.func (.func 91) #[.agg #[.slice pw t.words.length cw,.slice pt t.turns.length ct,.int .i64 t.breath,.nilFunc]] #[]) W ⟨ok,hW.below h,hcw⟩ (hL.below h) hll);clear hW hL he h0 hx hs ok
 go_enter Tryz.func36,Tryz.ntmps36
 go_wp2_with fail
 refine (HS.out _ (below1 _ _)).mono ?_;rintro e w5 ⟨rfl,hB5⟩;have HB5:=Lib.hid (join (below1 _ _) hB5);clear hB5;go_wp2_with fail
 refine (HF.out _ (join HB5.out (below1 _ _))).mono ?_;rintro e w6 ⟨rfl,hB6⟩;have HB6:=Lib.hid hB6;clear hB6;go_wp2;go_ret3;exact ⟨rfl,join (join HB5.out (below1 _ _)) HB6.out⟩
def spWo (t:Text) (l P:List Int) (pw pt pl:Option Addr) (cw ct cl:Nat) (mv:Value) (a b c d:Int):Nat→List Value→Value→World→Prop
 | 0,_,v,_=>v=.agg #[.slice pw t.words.length cw,.slice pt t.turns.length ct,.int .i64 t.breath,mv]
 | 1,_,v,_=>v=.slice pl l.length cl
 | 2,L,v,w=>∃ p c,v=.slice p P.length c∧Ints w p P
 | 3,_,v,_=>v=.tuple #[.int .i64 a,.agg #[.int .i64 b,.int .i64 c],.int .i64 d]
 | 4,_,v,_=>v=.int .i64 a
 | 5,_,v,_=>v=.agg #[.int .i64 b,.int .i64 c]
 | 6,_,v,_=>v=.int .i64 d
 | _,_,_,_=>False
theorem spWo_stable (t:Text) (l P:List Int) (pw pt pl:Option Addr) (cw ct cl:Nat) (mv:Value) (a b c d:Int):∀ i L v w w',spWo t l P pw pt pl cw ct cl mv a b c d i L v w→Rs.Gr w w'→spWo t l P pw pt pl cw ct cl mv a b c d i L v w':=by
 intro i L v w w' h hg
 match i with
 | 0=>exact h
 | 1=>exact h
 | 2=>obtain ⟨p,c,h1,h2⟩:=h;exact ⟨p,c,h1,h2.below hg⟩
 | 3=>exact h
 | 4=>exact h
 | 5=>exact h
 | 6=>exact h
set_option maxHeartbeats 1600000 in
set_option maxRecDepth 100000 in
theorem Astray_in (t:Text) (l:List Int) (he:readErr t l=0) (hr:(wrongGo t 0 0 l).2.2=6) (hll:l.length≤100000) (pw pt pl:Option Addr) (cw ct cl:Nat) (hcw:t.words.length≤cw∧cw≤maxLen) (w:World) (hW:TxAt w t pw pt) (hL:Ints w pl l) :
  Calls Tryz.prog 37 #[.agg #[.slice pw t.words.length cw,.slice pt t.turns.length ct,.int .i64 t.breath],.slice pl l.length cl] w fun e w' =>
   e=.returned (.tuple #[.int .i64 (astrayGo (placesL l) 0 t.turns).1,.agg #[.int .i64 (astrayGo (placesL l) 0 t.turns).2.1,.int .i64 (astrayGo (placesL l) 0 t.turns).2.2.1],.int .i64 (astrayGo (placesL l) 0 t.turns).2.2.2])∧Below w.heap.size w w':=by
 obtain ⟨h0,hx,hs⟩:=read_ok he;have ok:=err_ok h0;have hn12:=ok.n12;have hpre:=fun k=>isum_take_le (fun x h=>by have:=hx x h;omega) hs k;have hplen:(placesL l).length=l.length+1:=by simp [placesL]
 have hm6:=ok.m6;have HS:=Lib.hid (fun W (h:Below w.heap.size w W)=>openReading_ok t l he (by omega) pw pt pl cw ct cl W (hW.below h) (hL.below h));have HF:=Lib.hid (fun W (h:Below w.heap.size w W)=>firstWrong_any t l hx hs pw pt pl cw ct cl (.func (.func 91) #[.agg #[.slice pw t.words.length cw,.slice pt t.turns.length ct,.int .i64 t.breath,.nilFunc]] #[]) W ⟨ok,hW.below h,hcw⟩ (hL.below h) (by omega));have HPL0:Hid (∀ W,Below w.heap.size w W→Calls Tryz.prog 87 #[.slice pl l.length cl] W fun e w'=>∃ p c,e=.returned (.slice p (placesL l).length c)∧Ints w' p (placesL l)∧Below W.heap.size W w'):=Lib.hid (fun W h=>by
  refine (placesOf_any l (fun k=>by have:=hpre k;omega) pl cl W (hL.below h) hll).mono ?_;rintro e w' ⟨v,rfl,hown,hb⟩;obtain ⟨p,c,rfl,hI,-⟩:=own_rd hown rfl;exact ⟨p,c,rfl,hI,hb⟩)
 have HFA0:Hid (∀ mv p c W,Below w.heap.size w W→Ints W p (placesL l)→Calls Tryz.prog 86 #[.agg #[.slice pw t.words.length cw,.slice pt t.turns.length ct,.int .i64 t.breath,mv],.slice p (placesL l).length c] W fun e w' =>
   e=.returned (.tuple #[.int .i64 (astrayGo (placesL l) 0 t.turns).1,.agg #[.int .i64 (astrayGo (placesL l) 0 t.turns).2.1,.int .i64 (astrayGo (placesL l) 0 t.turns).2.2.1],.int .i64 (astrayGo (placesL l) 0 t.turns).2.2.2])∧Below W.heap.size W w'):=Lib.hid (fun mv p c W h hI =>
  firstAstray_any t (by omega) (placesL l) (by omega) (by omega) (fun k hk=>by
   have e:(placesL l).getD k 0=isum (l.take k):=by
    unfold placesL;rw [List.getD_eq_getElem?_getD,List.getElem?_map,List.getElem?_range (by omega)];rfl
   have:=hpre k;rw [e];omega) pt p ct c _ _ mv W (hW.turns.below h) hI)
 have hr':=hr;generalize wrongGo t 0 0 l=rw0 at HF hr;obtain ⟨r1,r2,r3⟩:=rw0;simp only at HF hr;subst hr;clear hW hL he h0 hx hs ok hpre hr' hn12 hm6 hplen;generalize placesL l=P at HPL0 HFA0 ⊢;generalize astrayGo P 0 t.turns=ag at HFA0 ⊢;obtain ⟨a,b,c,d⟩:=ag;simp only at HFA0 ⊢
 go_enter Tryz.func37,Tryz.ntmps37
 go_wp2_with fail
 refine (HS.out _ ((below1 _ _).alloc (by simp) _)).mono ?_;rintro e w5 ⟨rfl,hB5⟩;have hz5:=hB5.size;simp only [World.size_alloc] at hz5;have hsp0:=heap_last (w.alloc (.cells #[.slice pw t.words.length cw,.slice pt t.turns.length ct,.int .i64 t.breath] 25)) (.cells #[.int .i64 0,.int .i64 0] 58);rw [World.size_alloc] at hsp0;have hsp:=(hB5.block (w.heap.size+1) (by simp)).trans hsp0;clear hsp0;have HSP:=Lib.hid hsp;have HB5:=Lib.hid (join ((below1 _ _).alloc (by simp) _) hB5);clear hB5 hsp;go_wp2_with fail
 refine (HF.out _ (join HB5.out (below1 _ _))).mono ?_;rintro e w6 ⟨rfl,hB6⟩;have hz6:=hB6.size;simp only [World.size_alloc] at hz6;have hbx:=(hB6.block w5.heap.size (by simp)).trans (heap_last w5 (.cells #[.slice pw t.words.length cw,.slice pt t.turns.length ct,.int .i64 t.breath,.func (.func 91) #[.agg #[.slice pw t.words.length cw,.slice pt t.turns.length ct,.int .i64 t.breath,.nilFunc]] #[]] 84));have hsp6:=(hB6.block (w.heap.size+1) (by simp;omega)).trans ((Below.heap_alloc _ _ _ (by omega)).trans HSP.out);have HBX0:=Lib.hid hbx;have HSP6:=Lib.hid hsp6;have HB6:=Lib.hid (join (join HB5.out (below1 _ _)) hB6);clear hB6 hbx hsp6;obtain ⟨Bx,hBx⟩:∃ Bx,Bx=w5.heap.size:=⟨_,rfl⟩;have hbx6:Bx<w6.heap.size:=by omega
 have hsz6:w.heap.size+1<w6.heap.size:=by omega
 have HBX:Hid (w6.heap[Bx]?=some (.cells #[.slice pw t.words.length cw,.slice pt t.turns.length ct,.int .i64 t.breath,.func (.func 91) #[.agg #[.slice pw t.words.length cw,.slice pt t.turns.length ct,.int .i64 t.breath,.nilFunc]] #[]] 84 (0,0))):=Lib.hid (by rw [hBx];exact HBX0.out);have HPL:=Lib.hid (fun W (h:Below w6.heap.size w6 W)=>HPL0.out W (join HB6.out h));have HFA:=Lib.hid (fun p c W (h:Below w6.heap.size w6 W) hI=>HFA0.out (.func (.func 91) #[.agg #[.slice pw t.words.length cw,.slice pt t.turns.length ct,.int .i64 t.breath,.nilFunc]] #[]) p c W (join HB6.out h) hI);go_wp2_with fail
 ·rw [← hBx];clear hBx;refine Rs.region_gen 7 [[],[],[1],[0,1,2],[0,1,2,3],[0,1,2,3],[0,1,2,3]] [some 32,some 33,some 34,some 35,some 36,some 37,some 38] (spWo t l P pw pt pl cw ct cl (.func (.func 91) #[.agg #[.slice pw t.words.length cw,.slice pt t.turns.length ct,.int .i64 t.breath,.nilFunc]] #[]) a b c d) (by kernel_rfl) (by kernel_rfl) rfl (spWo_stable _ _ _ _ _ _ _ _ _ _ _ _ _ _) ?_ ?_
  ·refine ⟨fun V w' hG hs=>?_,fun V w' hG hs=>?_,fun V w' hG hs=>?_,fun V w' hG hs=>?_,fun V w' hG hs=>?_,fun V w' hG hs=>?_,fun V w' hG hs=>?_,trivial⟩
   all_goals
    have k0:=blk_cells ((hG.block Bx (by omega)).trans HBX.out) 0 _ rfl;have k1:=blk_cells ((hG.block Bx (by omega)).trans HBX.out) 1 _ rfl;have k2:=blk_cells ((hG.block Bx (by omega)).trans HBX.out) 2 _ rfl;have k3:=blk_cells ((hG.block Bx (by omega)).trans HBX.out) 3 _ rfl
   ·rw [if_pos (by rfl)];exact Rs.GrowL.value (v:=.agg #[.slice pw t.words.length cw,.slice pt t.turns.length ct,.int .i64 t.breath,(.func (.func 91) #[.agg #[.slice pw t.words.length cw,.slice pt t.turns.length ct,.int .i64 t.breath,.nilFunc]] #[])]) (w':=w') (by simp [go_sem,Rs.look,k0,k1,k2,k3]) (Rs.Gr.refl _) rfl
   ·rw [if_pos (by rfl)];exact Rs.GrowL.value (v:=.slice pl l.length cl) (w':=w') (by simp [go_sem,Rs.look]) (Rs.Gr.refl _) rfl
   ·have e1:V 1=_:=hs 1 (by simp);rw [if_pos (by rfl)];refine Rs.GrowL.call (f:=87) (args:=#[.slice pl l.length cl]) (by simp [go_sem,Rs.look,e1]) ?_;refine (HPL.out w' hG).mono ?_;rintro e w2 ⟨p,c,rfl,hI2,hB2⟩;exact ⟨_,rfl,hB2,p,c,rfl,hI2⟩
   ·have e0:V 0=_:=hs 0 (by simp);have e1:V 1=_:=hs 1 (by simp);have r2:=hs 2 (by simp);rw [if_pos (by rfl)];obtain ⟨p,c,e2,hI⟩:=r2;refine Rs.GrowL.call (f:=86) (args:=#[.agg #[.slice pw t.words.length cw,.slice pt t.turns.length ct,.int .i64 t.breath,.func (.func 91) #[.agg #[.slice pw t.words.length cw,.slice pt t.turns.length ct,.int .i64 t.breath,.nilFunc]] #[]],.slice p P.length c]) (by simp [go_sem,Rs.look,e0,e2]) ?_;refine (HFA.out p c w' hG hI).mono ?_;rintro e w2 ⟨rfl,hB2⟩;exact ⟨_,rfl,hB2,rfl⟩
   ·have e0:V 0=_:=hs 0 (by simp);have e1:V 1=_:=hs 1 (by simp);have r2:=hs 2 (by simp);have e3:V 3=_:=hs 3 (by simp);rw [if_pos (by rfl)];exact Rs.GrowL.value (v:=.int .i64 a) (w':=w') (by simp [go_sem,Rs.look,e0,e1,e3]) (Rs.Gr.refl _) rfl
   ·have e0:V 0=_:=hs 0 (by simp);have e1:V 1=_:=hs 1 (by simp);have r2:=hs 2 (by simp);have e3:V 3=_:=hs 3 (by simp);rw [if_pos (by rfl)];exact Rs.GrowL.value (v:=.agg #[.int .i64 b,.int .i64 c]) (w':=w') (by simp [go_sem,Rs.look,e0,e1,e3]) (Rs.Gr.refl _) rfl
   ·have e0:V 0=_:=hs 0 (by simp);have e1:V 1=_:=hs 1 (by simp);have r2:=hs 2 (by simp);have e3:V 3=_:=hs 3 (by simp);rw [if_pos (by rfl)];exact Rs.GrowL.value (v:=.int .i64 d) (w':=w') (by simp [go_sem,Rs.look,e0,e1,e3]) (Rs.Gr.refl _) rfl
  ·intro V w' hG hs;have e0:V 0=_:=hs 0 (by omega);have e1:V 1=_:=hs 1 (by omega);have r2:=hs 2 (by omega);have e3:V 3=_:=hs 3 (by omega);have e4:V 4=_:=hs 4 (by omega);have e5:V 5=_:=hs 5 (by omega);have e6:V 6=_:=hs 6 (by omega);obtain ⟨p2,c2,e2,hI2⟩:=r2;simp only [Rs.canon,Rs.dstOf,List.range_succ,List.range_zero,List.nil_append,List.cons_append,List.foldl_cons,List.foldl_nil,List.drop_succ_cons,List.drop_zero,List.drop_nil,List.getElem?_toArray,List.getElem?_cons_succ,List.getElem?_cons_zero,Option.bind_some,Act.put,List.getD_cons_succ,List.getD_cons_zero,List.setIfInBounds_toArray,List.set_cons_succ,List.set_cons_zero];rw [e0,e1,e3,e4,e5,e6,e2];clear e0 e1 e3 e4 e5 e6 e2 hs;have hsp9:=(hG.block (w.heap.size+1) (by omega)).trans HSP6.out;have y0:=blk_cells hsp9 0 _ rfl;have y1:=blk_cells hsp9 1 _ rfl;have z:∀ i,w'.frozen? ⟨w.heap.size+1,i,none⟩=false:=fun i=>by simp [World.frozen?,hsp9]
   have HSP9:=Lib.hid hsp9;have HG:=Lib.hid hG;clear hsp9 hG;go_wp2;have hx9:((w'.setCell ⟨w.heap.size+1,0,none⟩ (.int .i64 b)).setCell ⟨w.heap.size+1,1,none⟩ (.int .i64 c)).heap[w.heap.size+1]?=some (.cells #[.int .i64 b,.int .i64 c] 58 (0,0)):=heap_set_same _ (heap_set_same _ HSP9.out);have r0:=blk_cells hx9 0 _ rfl;have r1:=blk_cells hx9 1 _ rfl;refine bodyPost_ret (v:=.tuple #[.int .i64 a,.agg #[.int .i64 b,.int .i64 c],.int .i64 d]) (by simp [results,Tryz.results37,go_sem,r0,r1]) rfl ⟨rfl,?_⟩;exact ((join HB6.out HG.out).setCell (p:=⟨w.heap.size+1,0,none⟩) (by simp) _).setCell (p:=⟨w.heap.size+1,1,none⟩) (by simp) _
end Go.Proofs.YtadnggecnjdhiaaGreat
namespace Go.Proofs.YtadnggecnjdhiaaGreat
open Go.RowKit Tx
attribute [local go_sem] Oper.semAt_some
set_option maxHeartbeats 2000000 in
set_option maxRecDepth 100000 in
theorem Reading_any (t:Text) (l:List Int) (hl1:t.words.length≤1000000) (hl2:t.turns.length≤1000000) (hll:l.length≤1000000) (pw pt pl:Option Addr) (cw ct cl:Nat) (w:World) (hW:TxAt w t pw pt) (hL:Ints w pl l) :
  Calls Tryz.prog 48 #[.agg #[.slice pw t.words.length cw,.slice pt t.turns.length ct,.int .i64 t.breath],.slice pl l.length cl] w fun e w'=>e=.returned (.int .i64 (readErr t l))∧Below w.heap.size w w':=by
 have HC:=Lib.hid (fun W (h:Below w.heap.size w W)=>rCheck_any t hl1 hl2 pw pt cw ct W (hW.below h));have HB:=Lib.hid (below1 w (.cells #[.slice pw t.words.length cw,.slice pt t.turns.length ct,.int .i64 t.breath] 32));have HX:=Lib.hid (heap_last w (.cells #[.slice pw t.words.length cw,.slice pt t.turns.length ct,.int .i64 t.breath] 32));have HL:=Lib.hid hL;obtain ⟨k0,k1,k2⟩:=blk3 HX.out;clear hW hL;by_cases he:t.err=0
 ·have hn12:=(err_ok he).n12;have HR:Hid (readErr t l=if l.any (fun k=>!btw k 1 12) then 3 else if isum l≠t.words.length then 2 else 0):=Lib.hid (by unfold readErr;rw [if_neg (by simp [he])]);rw [he] at HC;generalize readErr t l=er at HR ⊢;clear he
  go_enter Tryz.func48,Tryz.ntmps48
  go_wp2_with fail
  refine (HC.out _ HB.out).mono ?_;rintro e w5 ⟨rfl,hB5⟩;have HX5:=Lib.hid ((hB5.block w.heap.size (Array.getElem?_eq_some_iff.1 HX.out).1).trans HX.out);have HB5:=Lib.hid (join HB.out hB5);clear hB5 k0 k1 k2;obtain ⟨k0,k1,k2⟩:=blk3 HX5.out;go_wp2_with fail
  go_loop [6,7] (fun n i=>∃ k:Nat,∃ q:Int,k≤l.length∧i=.int .i64 k∧n=.int .i64 q∧q=min (isum (l.take k)) 100∧(l.take k).any (fun k=>!btw k 1 12)=false∧0≤isum (l.take k)) (fun _ i=>l.length-(intOf i).toNat)
  case atStart=>exact ⟨0,0,Nat.zero_le _,rfl,rfl,by rw [List.take_zero];rfl,rfl,by simp [isum]⟩
  case round =>
   obtain ⟨k,q,hk,rfl,rfl,hq,hA,hs⟩:=hrel;have HA:=Lib.hid hA;have hq0:0≤q∧q≤100:=by omega
   have HQ:=Lib.hid hq;clear hA hq;by_cases hlt:k<l.length
   ·have hlt':(k:Int)<l.length:=by omega
    obtain ⟨b,o,x,rfl,hbl,hxx,c1⟩:=(HL.out.below HB5.out).at hlt;have hsn:isum (l.take (k+1))=isum (l.take k)+x:=by rw [take_snocD 0 hlt,isum_snoc,hxx]
    have HSN:=Lib.hid hsn;have HS:=Lib.hid hs;have HXX:=Lib.hid hxx;clear hsn hs hxx;cases hx:btw x 1 12 with
    | false =>
     have HX1:=Lib.hid (not_btw hx);have HF:Hid (er=3):=Lib.hid (by rw [HR.out,if_pos (any_hit 0 hlt _ (by rw [← HXX.out,hx];rfl))]);clear hx HR;go_wp2_with fail
     refine (off_b _ _ _ _ HX1.out _).mono ?_;rintro e w' ⟨rfl,rfl⟩;go_wp2;go_ret;exact ⟨ret_int HF.out.symm,HB5.out⟩
    | true =>
     have HX1:=Lib.hid (not_btw hx);have hxb:=btw_true hx;have HXB:=Lib.hid hx;clear hx;go_wp2_with fail
     refine (off_b _ _ _ _ HX1.out _).mono ?_;rintro e w' ⟨rfl,rfl⟩;go_wp2;go_round
     case rel=>exact ⟨k+1,min (q+x) 100,by omega,by go_num,by first | rfl | (congr 1;omega),by rw [HSN.out];have:=HQ.out;have:=HS.out;omega,any_snoc 0 hlt _ HA.out (by rw [← HXX.out,HXB.out];rfl),by rw [HSN.out];have:=HS.out;omega⟩
     case measure=>simp [intOf];omega
   ·obtain rfl:k=l.length:=by omega
    have hany:=HA.out;have hQ:=HQ.out;rw [List.take_length] at hany hQ hs;have HR2:=Lib.hid (HR.out.trans (if_neg (by rw [hany];decide)));clear hany HA HR HQ;by_cases hne:q=(t.words.length:Int)
    ·have HF:Hid (er=0):=Lib.hid (by rw [HR2.out,if_neg];omega);clear HR2 hQ hs;subst hne;go_wp2;go_ret;exact ⟨ret_int HF.out.symm,HB5.out⟩
    ·have HF:Hid (er=2):=Lib.hid (by rw [HR2.out,if_pos];omega);have hne':(q != (t.words.length:Int))=true:=by simpa using hne
     clear HR2 hQ hs hne;go_wp2;go_ret;exact ⟨ret_int HF.out.symm,HB5.out⟩
 ·have HE:(t.err != 0)=true:=by simpa using he
  have HR:Hid (readErr t l=t.err):=Lib.hid (by unfold readErr;rw [if_pos he]);rw [HR.out];generalize t.err=er at HC HE ⊢;clear he HR
  go_enter Tryz.func48,Tryz.ntmps48
  go_wp2_with fail
  refine (HC.out _ HB.out).mono ?_;rintro e w5 ⟨rfl,hB5⟩;have HB5:=Lib.hid (join HB.out hB5);clear hB5;go_wp2;go_ret;exact ⟨rfl,HB5.out⟩
end Go.Proofs.YtadnggecnjdhiaaGreat
namespace Go.Proofs.YtadnggecnjdhiaaGreat
open Go.RowKit Tx
def wtTo (t:Text) (l:List Int) (k:Nat):List Int:=(l.take k).map (fun i=>(t.words.getD i.toNat default).wt)++List.replicate (l.length-k) 0
theorem wtTo_zero (t:Text) (l:List Int):wtTo t l 0=List.replicate l.length 0:=by simp [wtTo]
theorem wtTo_len (t:Text) (l:List Int) {k:Nat} (hk:k≤l.length):(wtTo t l k).length=l.length:=by simp [wtTo];omega
theorem wtTo_full (t:Text) (l:List Int):wtTo t l l.length=l.map (fun i=>(t.words.getD i.toNat default).wt):=by simp [wtTo]
theorem wtTo_succ (t:Text) (l:List Int) {k:Nat} (hk:k<l.length):(wtTo t l k).set k (t.words.getD (l.getD k 0).toNat default).wt=wtTo t l (k+1):=by
 unfold wtTo;rw [take_snocD 0 hk,List.map_append,List.map_cons,List.map_nil];rw [show l.length-k=(l.length-(k+1))+1 by omega,List.replicate_succ];rw [List.set_append_right _ _ (by simp;omega)];rw [show k-(List.map (fun i:Int=>(t.words.getD i.toNat default).wt) (l.take k)).length=0 by simp;omega];simp
theorem made_int (n:Nat):madeCells #[.int .i64 0] n=arrOf (List.replicate n 0):=by
 unfold madeCells arrOf;apply Array.ext_getElem?;intro i;by_cases hi:i<n <;> simp [Nat.mod_one,hi,Array.getElem?_range]
theorem make_ints (n:Nat) (hn:n≤1000000) (W:World):(Instr.makeSlice 34 (.int .i64 (n:Int)) (.int .i64 (n:Int))).run Tryz.prog W=.ok (.slice (some ⟨W.heap.size,0,none⟩) n n) (W.alloc (.cells (arrOf (List.replicate n 0)) 3)):=by
 have h:=run_make_row' (P:=Tryz.prog) 34 3 (.int .i64 0) 8 A_undI A_infoI rfl .i64 .i64 n (by omega) (by omega) W;rw [made_int] at h;exact h
set_option maxHeartbeats 1000000 in
set_option maxRecDepth 100000 in
theorem weight_any (t:Text) (ok:Text.Ok t) (l:List Int) (hll:l.length≤100000) (hx:∀ x∈l,0≤x∧x<t.words.length) (pw pl:Option Addr) (cw cl:Nat) (v1 v2 v3:Value) (w:World) (hW:Wds w pw t.words) (hL:Ints w pl l) :
  Calls Tryz.prog 111 #[.agg #[.slice pw t.words.length cw,v1,v2,v3],.slice pl l.length cl] w fun e w'=>e=.returned (.int .i64 (t.wtOf l))∧Below w.heap.size w w':=by
 have hmk:=make_ints l.length (by omega);have HW:=Lib.hid hW;have HL:=Lib.hid hL;have HX:=Lib.hid hx;have HOK:=Lib.hid ok;have hn12:=ok.n12;have HX0:=Lib.hid (heap_last w (.cells #[.slice pw t.words.length cw,v1,v2,v3] 84));have HB1:=Lib.hid (below1 w (.cells #[.slice pw t.words.length cw,v1,v2,v3] 84));have hz1:(w.alloc (.cells #[.slice pw t.words.length cw,v1,v2,v3] 84)).heap.size=w.heap.size+1:=by simp
 clear hW hL hx ok
 go_enter Tryz.func111,Tryz.ntmps111
 go_wp2_with fail
 have hblk:=heap_last (w.alloc (.cells #[.slice pw t.words.length cw,v1,v2,v3] 84)) (.cells (arrOf (List.replicate l.length 0)) 3);rw [World.size_alloc] at hblk;have hx2:=(Below.heap_alloc (w.alloc (.cells #[.slice pw t.words.length cw,v1,v2,v3] 84)) (.cells (arrOf (List.replicate l.length 0)) 3) w.heap.size (by simp)).trans HX0.out;have hB2:=join HB1.out (below1 (w.alloc (.cells #[.slice pw t.words.length cw,v1,v2,v3] 84)) (.cells (arrOf (List.replicate l.length 0)) 3));rw [← wtTo_zero t l] at hblk
 go_loopw [6,7,13] (fun u6 u7 i wr=>∃ k:Nat,k≤l.length∧i=.int .i64 k∧wr.heap[w.heap.size]?=some (.cells #[.slice pw t.words.length cw,v1,v2,v3] 84 (0,0))∧wr.heap[w.heap.size+1]?=some (.cells (arrOf (wtTo t l k)) 3 (0,0))∧Below w.heap.size w wr) (fun _ _ i _=>l.length-(intOf i).toNat)
 case atStart=>exact ⟨0,Nat.zero_le _,rfl,hx2,by simpa [wtTo_zero] using hblk,hB2⟩
 case round =>
  obtain ⟨k,hk,rfl,h0,h1,hB⟩:=hrel;have H0:=Lib.hid h0;have H1:=Lib.hid h1;have HB:=Lib.hid hB;have hs1:=(Array.getElem?_eq_some_iff.1 h1).1;have hs0:w.heap.size<wr.heap.size:=by omega
  have k0:=blk_cells h0 0 _ rfl;clear hblk hx2 hB2 h0 h1 hB hmk;by_cases hlt:k<l.length
  ·have hlt':(k:Int)<l.length:=by omega
   obtain ⟨lb,lo,x,rfl,hlb,hxx,c1⟩:=(HL.out.below HB.out).at hlt;have hxb:=HX.out x (by rw [hxx];exact getD_mem 0 hlt);obtain ⟨y,rfl⟩:=Int.eq_ofNat_of_zero_le hxb.1;have hyn:y<t.words.length:=by omega
   have hyn':(y:Int)<t.words.length:=by omega
   obtain ⟨bb,bo,z,rfl,hbb,hzz,d1,d2,d3⟩:=(HW.out.below HB.out).at hyn;have hcell:=blk_cells H1.out k _ (arrOf_get (by rw [wtTo_len t l hk];exact hlt));have hfz:wr.frozen? ⟨w.heap.size+1,k,none⟩=false:=by simp [World.frozen?,H1.out]
   have HSUC:Hid ((wtTo t l k).set k z.wt=wtTo t l (k+1)):=Lib.hid (by rw [← wtTo_succ t l hlt,← hxx];rw [show ((y:Int)).toNat=y from rfl,← hzz]);generalize (wtTo t l k).getD k 0=old at hcell;clear hxx hzz;go_wp2;go_roundw
   case rel =>
    refine ⟨k+1,by omega,by go_num,(Below.heap_setCell _ _ _ _ (by show w.heap.size≠w.heap.size+1;omega)).trans H0.out,?_,belS HB.out (by omega)⟩;rw [heap_set_same _ H1.out,arrOf_set,HSUC.out]
   case measure=>simp [intOf];omega
  ·obtain rfl:k=l.length:=by omega
   have hfull:=wtTo_full t l;have HF:=Lib.hid hfull;have hints:Ints wr (some ⟨w.heap.size+1,0,none⟩) (l.map (fun i=>(t.words.getD i.toNat default).wt)):=by
    refine .inr ⟨_,_,rfl,hs1,fun i hi=>?_⟩;rw [Nat.zero_add];have:=blk_cells H1.out i _ (arrOf_get (by rw [HF.out];exact hi));rw [this,HF.out]
   have hbd:∀ x∈l.map (fun i=>(t.words.getD i.toNat default).wt),-1000000≤x∧x≤1000000:=fun x hxm=>by
    obtain ⟨i,hi,rfl⟩:=List.mem_map.1 hxm;have:=HX.out i hi;have h2:=HOK.out.word (t.words.getD i.toNat default) (getD_mem default (by omega));omega
   have hsum:=sum_any (l.map (fun i=>(t.words.getD i.toNat default).wt)) (some ⟨w.heap.size+1,0,none⟩) l.length wr (by rw [List.length_map];omega) hbd hints;rw [List.length_map] at hsum;have HSUM:=Lib.hid hsum;clear hfull hints hbd hsum k0;go_wp2_with fail
   refine HSUM.out.mono ?_;rintro e w7 ⟨rfl,rfl⟩;go_wp2;go_ret;exact ⟨rfl,HB.out⟩
theorem contains_any (l:List Int) (hll:l.length≤1000000) (p:Option Addr) (c:Nat) (x:Int) (w:World) (hL:Ints w p l) :
  Calls Tryz.prog 136 #[.slice p l.length c,.int .i64 x] w fun e w'=>e=.returned (.bool (l.contains x))∧w'=w:=by
 rcases hL with rfl | ⟨b,o,rfl,hb,hc⟩
 ·exact (Tryz.slices_Contains_int_empty p c x w).mono fun e w' ⟨h1,h2⟩=>⟨by rw [h1];rfl,h2⟩
 ·have h:=Tryz.slices_Contains_int b o l.length c l x w (Nat.le_refl _) (by omega) hc;rw [List.take_length] at h;exact h
theorem coreTo_snoc (u:Turn) (l:List Int) {k:Nat}:((List.range (k+1)).all fun j=>l.contains (u.lo+(j:Int)))=((List.range k).all (fun j=>l.contains (u.lo+(j:Int)))&&l.contains (u.lo+(k:Int))):=by
 rw [List.range_succ,List.all_append];simp
set_option maxHeartbeats 1000000 in
theorem coreKept_any (u:Turn) (hu:0≤u.lo∧u.lo≤u.hi∧u.hi≤1000) (l:List Int) (hll:l.length≤1000000) (p:Option Addr) (c:Nat) (w:World) (hL:Ints w p l) :
  Calls Tryz.prog 135 #[.agg #[.int .i64 u.word,.int .i64 u.lo,.int .i64 u.hi],.slice p l.length c] w fun e w'=>e=.returned (.bool (coreIn u l))∧Below w.heap.size w w':=by
 obtain ⟨uw,ul,uh⟩:=u;dsimp only at hu ⊢;have HL:=Lib.hid hL;have hB:=below1 w (.cells #[.int .i64 uw,.int .i64 ul,.int .i64 uh] 63);have hx0:=heap_last w (.cells #[.int .i64 uw,.int .i64 ul,.int .i64 uh] 63);have HB:=Lib.hid hB;have HX0:=Lib.hid hx0;clear hL hB hx0
 go_enter Tryz.func135,Tryz.ntmps135
 go_wp2_with fail
 generalize hW1:w.alloc (.cells #[.int .i64 uw,.int .i64 ul,.int .i64 uh] 63)=W1 at HB HX0 ⊢;clear hW1;have f0:=blk_cells HX0.out 0 _ rfl;have f1:=blk_cells HX0.out 1 _ rfl;have f2:=blk_cells HX0.out 2 _ rfl
 go_loopw [5] (fun i wr=>∃ k:Nat,ul+(k:Int)≤uh+1∧i=.int .i64 (ul+(k:Int))∧((List.range k).all fun j=>l.contains (ul+(j:Int)))=true∧W1=wr) (fun i _=>(uh+1-intOf i).toNat)
 case atStart=>exact ⟨0,by omega,by simp,rfl,rfl⟩
 case round =>
  obtain ⟨k,hk,rfl,hall,rfl⟩:=hrel;have HALL:=Lib.hid hall;clear hall;by_cases hle:ul+(k:Int)≤uh
  ·have HSN:=Lib.hid (coreTo_snoc ⟨uw,ul,uh⟩ l (k:=k));cases hc:l.contains (ul+(k:Int)) with
   | true =>
    have HC:=Lib.hid hc;clear hc;go_wp2_with fail
    refine (contains_any l hll p c _ _ (HL.out.below HB.out)).mono ?_;rintro e w' ⟨rfl,rfl⟩;rw [HC.out];go_wp2;go_roundw
    case rel=>exact ⟨k+1,by omega,by rw [show ((k+1:Nat):Int)=(k:Int)+1 by omega,← Int.add_assoc],by rw [HSN.out,HALL.out];exact HC.out,trivial⟩
    case measure=>simp [intOf];omega
   | false =>
    have HC:=Lib.hid hc;clear hc;go_wp2_with fail
    refine (contains_any l hll p c _ _ (HL.out.below HB.out)).mono ?_;rintro e w' ⟨rfl,rfl⟩;rw [HC.out];go_wp2;go_ret;refine ⟨ret_bool ?_,HB.out⟩
    symm
    unfold coreIn;rw [List.all_eq_false];exact ⟨k,List.mem_range.2 (by show k<(uh+1-ul).toNat;omega),by rw [HC.out];decide⟩
  ·have hkk:k=(uh+1-ul).toNat:=by omega
   have HKK:=Lib.hid hkk;clear hkk;go_wp2;go_ret;exact ⟨ret_bool (by unfold coreIn;rw [← HKK.out];exact HALL.out.symm),HB.out⟩
end Go.Proofs.YtadnggecnjdhiaaGreat
namespace Go.Proofs.YtadnggecnjdhiaaGreat
open Go.RowKit Tx
attribute [local go_sem] Oper.semAt_some
set_option maxHeartbeats 1000000 in
theorem otherwise_any (u:Turn) (hu:0≤u.lo∧u.lo≤u.hi∧u.hi≤1000) (l:List Int) (hll:l.length≤1000000) (p:Option Addr) (c:Nat) (w:World) (hL:Ints w p l) :
  Calls Tryz.prog 97 #[.agg #[.int .i64 u.word,.int .i64 u.lo,.int .i64 u.hi],.slice p l.length c] w fun e w'=>e=.returned (.bool (coreIn u l&&!l.contains u.word))∧Below w.heap.size w w':=by
 obtain ⟨uw,ul,uh⟩:=u;dsimp only at hu ⊢;have HL:=Lib.hid hL;have hB:=below1 w (.cells #[.int .i64 uw,.int .i64 ul,.int .i64 uh] 81);have hx0:=heap_last w (.cells #[.int .i64 uw,.int .i64 ul,.int .i64 uh] 81);have HB:=Lib.hid hB;have HX0:=Lib.hid hx0;have HZ0:Hid (w.heap.size<(w.alloc (.cells #[.int .i64 uw,.int .i64 ul,.int .i64 uh] 81)).heap.size):=Lib.hid (by simp);clear hL hB hx0
 go_enter Tryz.func97,Tryz.ntmps97
 go_wp2_with fail
 generalize hW1:w.alloc (.cells #[.int .i64 uw,.int .i64 ul,.int .i64 uh] 81)=W1 at HB HX0 HZ0 ⊢;clear hW1;have f0:=blk_cells HX0.out 0 _ rfl;have f1:=blk_cells HX0.out 1 _ rfl;have f2:=blk_cells HX0.out 2 _ rfl
 go_loopw [5] (fun i wr=>∃ k:Nat,ul+(k:Int)≤uh+1∧i=.int .i64 (ul+(k:Int))∧((List.range k).all fun j=>l.contains (ul+(j:Int)))=true∧Below W1.heap.size W1 wr) (fun i _=>(uh+1-intOf i).toNat)
 case atStart=>exact ⟨0,by omega,by simp,rfl,Below.refl _ _⟩
 case round =>
  obtain ⟨k,hk,rfl,hall,hBr⟩:=hrel;have HALL:=Lib.hid hall;have HBr:=Lib.hid hBr;have hx:=(hBr.block w.heap.size HZ0.out).trans HX0.out;have g0:=blk_cells hx 0 _ rfl;have g1:=blk_cells hx 1 _ rfl;have g2:=blk_cells hx 2 _ rfl;clear hall hBr hx f0 f1 f2;by_cases hle:ul+(k:Int)≤uh
  ·have HSN:=Lib.hid (coreTo_snoc ⟨uw,ul,uh⟩ l (k:=k));cases hc:l.contains (ul+(k:Int)) with
   | true =>
    have HC:=Lib.hid hc;clear hc;go_wp2_with fail
    refine (has_any l _ hll p c _ ((HL.out.below HB.out).below HBr.out)).mono ?_;rintro e w' ⟨rfl,hB5⟩;rw [HC.out];have HB5:=Lib.hid (join HBr.out hB5);clear hB5;go_wp2;go_roundw
    case rel=>exact ⟨k+1,by omega,by rw [show ((k+1:Nat):Int)=(k:Int)+1 by omega,← Int.add_assoc],by rw [HSN.out,HALL.out];exact HC.out,HB5.out⟩
    case measure=>simp [intOf];omega
   | false =>
    have HC:=Lib.hid hc;clear hc;go_wp2_with fail
    refine (has_any l _ hll p c _ ((HL.out.below HB.out).below HBr.out)).mono ?_;rintro e w' ⟨rfl,hB5⟩;rw [HC.out];have HB5:=Lib.hid (join HB.out (join HBr.out hB5));clear hB5;go_wp2;go_ret;refine ⟨ret_bool ?_,HB5.out⟩
    symm
    have:coreIn ⟨uw,ul,uh⟩ l=false:=by
     unfold coreIn;rw [List.all_eq_false];exact ⟨k,List.mem_range.2 (by show k<(uh+1-ul).toNat;omega),by rw [HC.out];decide⟩
    rw [this];rfl
  ·have hkk:k=(uh+1-ul).toNat:=by omega
   have HCO:Hid (coreIn ⟨uw,ul,uh⟩ l=true):=Lib.hid (by unfold coreIn;rw [← hkk];exact HALL.out);clear hkk;cases hc:l.contains uw with
   | true =>
    have HC:=Lib.hid hc;clear hc;go_wp2_with fail
    refine (has_any l _ hll p c _ ((HL.out.below HB.out).below HBr.out)).mono ?_;rintro e w' ⟨rfl,hB5⟩;rw [HC.out];have HB5:=Lib.hid (join HB.out (join HBr.out hB5));clear hB5;go_wp2;go_ret;exact ⟨ret_bool (by show _=(coreIn ⟨uw,ul,uh⟩ l&&!l.contains uw);rw [HCO.out,HC.out];rfl),HB5.out⟩
   | false =>
    have HC:=Lib.hid hc;clear hc;go_wp2_with fail
    refine (has_any l _ hll p c _ ((HL.out.below HB.out).below HBr.out)).mono ?_;rintro e w' ⟨rfl,hB5⟩;rw [HC.out];have HB5:=Lib.hid (join HB.out (join HBr.out hB5));clear hB5;go_wp2;go_ret;exact ⟨ret_bool (by show _=(coreIn ⟨uw,ul,uh⟩ l&&!l.contains uw);rw [HCO.out,HC.out];rfl),HB5.out⟩
end Go.Proofs.YtadnggecnjdhiaaGreat
namespace Go.Proofs.YtadnggecnjdhiaaGreat
open Go.RowKit Tx
attribute [local go_sem] Oper.semAt_some
def rsaid (t:Text) (l:List Int):List Int:=idx (fun u=>coreIn u l&&!l.contains u.word) 0 t.turns
set_option maxHeartbeats 1600000 in
theorem Said_any (t:Text) (hm:t.turns.length≤1000000) (hu:∀ u∈t.turns,0≤u.lo∧u.lo≤u.hi∧u.hi≤1000) (l:List Int) (hll:l.length≤1000000) (pt pl:Option Addr) (ct cl:Nat) (v0 v2:Value) (w:World) (hT:Tns w pt t.turns) (hL:Ints w pl l) :
  Calls Tryz.prog 100 #[.agg #[v0,.slice pt t.turns.length ct,v2],.slice pl l.length cl] w (RowPost (rsaid t l) w):=by
 obtain ⟨i0,hi0,hz0,hz1,hz2⟩:=info_parts A_infoI;have HT:=Lib.hid hT;have HL:=Lib.hid hL;have HU:=Lib.hid hu;clear hT hL hu;have HB2:=Lib.hid (below1 w (.cells #[v0,.slice pt t.turns.length ct,v2] 32));have HX1:=Lib.hid (heap_last w (.cells #[v0,.slice pt t.turns.length ct,v2] 32));have HSZ:Hid ((w.alloc (.cells #[v0,.slice pt t.turns.length ct,v2] 32)).heap.size=w.heap.size+1):=Lib.hid (by simp)
 go_enter Tryz.func100,Tryz.ntmps100
 go_wp2_with fail
 generalize w.alloc (.cells #[v0,.slice pt t.turns.length ct,v2] 32)=W1 at *;have hw1:w.heap.size+1≤W1.heap.size:=by have:=HSZ.out;omega
 go_loopw [5,6] (fun v i wr=>∃ k:Nat,k≤t.turns.length∧i=.int .i64 k∧wr.ownsRow W1.heap.size 3 1 v (idx (fun u=>coreIn u l&&!l.contains u.word) 0 (t.turns.take k)).length ((idx (fun u=>coreIn u l&&!l.contains u.word) 0 (t.turns.take k)).map (Value.int .i64))∧Below W1.heap.size W1 wr) (fun _ i _=>t.turns.length-(intOf i).toNat)
 case atStart=>exact ⟨0,Nat.zero_le _,rfl,own_none _ _ _ _,Below.refl _ _⟩
 case round =>
  obtain ⟨k,hk,rfl,hown,hBr⟩:=hrel;have HO:=Lib.hid hown;have HBr:=Lib.hid hBr;have hlen:(idx (fun u=>coreIn u l&&!l.contains u.word) 0 (t.turns.take k)).length≤1000000:=by rw [idx_length];exact Nat.le_trans List.countP_le_length (by simp;omega)
  have hz7:=hBr.size;have hx:=(hBr.block w.heap.size (by omega)).trans HX1.out;have g0:=blk_cells hx 0 _ rfl;have g1:=blk_cells hx 1 _ rfl;have g2:=blk_cells hx 2 _ rfl;clear hx;by_cases hlt:k<t.turns.length
  ·obtain ⟨b,o,x,rfl,hb,hxx,d1,d2,d3⟩:=((HT.out.below HB2.out).below hBr).at hlt;have HX:=Lib.hid hxx;have hxu:=HU.out x (by rw [hxx,List.getD_eq_getElem?_getD,List.getElem?_eq_getElem hlt];exact List.getElem_mem hlt);have hk':(k:Int)<t.turns.length:=by omega
   have HOT:=Lib.hid (otherwise_any x hxu l hll pl cl wr ((HL.out.below HB2.out).below hBr));clear hxx hown hBr hxu;cases hbad:(coreIn x l&&!l.contains x.word) with
   | true =>
    have HBAD:=Lib.hid hbad;rw [hbad] at HOT;clear hbad;go_wp2_with fail
    refine HOT.out.mono ?_;rintro e w5 ⟨rfl,hB5⟩;have HB5:=Lib.hid (join HBr.out hB5);have hz5:wr.heap.size≤w5.heap.size:=hB5.size;have HO5:=Lib.hid (own_below HO.out hB5);clear hB5;go_wp2_with (at_builtin;refine wpList_append_own _ rfl _ _ 34 rfl W1.heap.size 3 i0 (.int .i64 0) 1 8 A_undI hi0 hz0 hz1 hz2 rfl (by decide) _ _ _ rfl (HO5.out.alloc _) ⟨w5.heap.size,0,none⟩ 1 1 [.int .i64 (k:Int)] rfl rfl ?d1 ?d2 ?d3 ?d4 ?d5 ?_)
    case d1=>exact cell_one_new _ _ _
    case d2=>first | rfl | (intro u hu;simp at hu;subst hu;rfl)
    case d3=>unfold maxLen;omega
    case d4=>omega
    case d5=>first | omega | (simp;omega)
    intro v' w8 hown8 hgrow _;have hB8:=below_grown (al2 HB5.out (by omega) _) (HO5.out.alloc _) (Nat.le_refl _) (by simp;omega) hgrow;have hsnoc:idx (fun u=>coreIn u l&&!l.contains u.word) 0 (t.turns.take (k+1))=idx (fun u=>coreIn u l&&!l.contains u.word) 0 (t.turns.take k)++[(k:Int)]:=by
     rw [take_snocD default hlt,idx_snoc,← HX.out,if_pos HBAD.out];simp;omega
    have HSN:=Lib.hid hsnoc;have HO8:=Lib.hid hown8;have HB8:=Lib.hid hB8;clear hgrow hown8 hB8 hsnoc;go_wp2;go_roundw
    case rel=>exact ⟨k+1,by omega,by simp,by rw [HSN.out];simpa using HO8.out,HB8.out⟩
    case measure=>simp [intOf];omega
   | false =>
    have hsnoc:idx (fun u=>coreIn u l&&!l.contains u.word) 0 (t.turns.take (k+1))=idx (fun u=>coreIn u l&&!l.contains u.word) 0 (t.turns.take k):=by
     rw [take_snocD default hlt,idx_snoc,← HX.out,if_neg (by rw [hbad];decide),List.append_nil]
    have HSN:=Lib.hid hsnoc;rw [hbad] at HOT;clear hsnoc hbad;go_wp2_with fail
    refine HOT.out.mono ?_;rintro e w5 ⟨rfl,hB5⟩;have HB5:=Lib.hid (join HBr.out hB5);have HO5:=Lib.hid (own_below HO.out hB5);clear hB5;go_wp2;go_roundw
    case rel=>exact ⟨k+1,by omega,by simp,by rw [HSN.out];exact HO5.out,HB5.out⟩
    case measure=>simp [intOf];omega
  ·obtain rfl:k=t.turns.length:=by omega
   have hfull:t.turns.take t.turns.length=t.turns:=List.take_length;have HF:=Lib.hid hfull;clear hfull hown hBr;go_wp2;go_ret;exact ⟨_,rfl,by have:=own_base HO.out (base':=w.heap.size) (by omega);rw [HF.out] at this;exact this,join HB2.out HBr.out⟩
end Go.Proofs.YtadnggecnjdhiaaGreat
namespace Go.Proofs.YtadnggecnjdhiaaGreat
open Tx
theorem mem_wordsL {a x:Int} {n:Nat}:x∈wordsL a n↔a≤x∧x<a+(n:Int):=by
 unfold wordsL;rw [List.mem_map];constructor
 ·rintro ⟨i,hi,rfl⟩;have:=List.mem_range.1 hi;omega
 ·rintro ⟨h1,h2⟩;exact ⟨(x-a).toNat,List.mem_range.2 (by omega),by omega⟩
theorem contains_wordsL (a x:Int) (n:Nat):(wordsL a n).contains x=btw x a (a+(n:Int)-1):=by
 rw [Bool.eq_iff_iff,List.contains_iff_mem,mem_wordsL];unfold btw;simp only [Bool.and_eq_true,decide_eq_true_eq];omega
theorem core_wordsL (u:Turn) (a:Int) (n:Nat) (hu:u.lo≤u.hi):coreIn u (wordsL a n)=(decide (a≤u.lo)&&decide (u.hi≤a+(n:Int)-1)):=by
 rw [Bool.eq_iff_iff];unfold coreIn;rw [List.all_eq_true];simp only [Bool.and_eq_true,decide_eq_true_eq,List.contains_iff_mem,mem_wordsL,List.mem_range];constructor
 ·intro h;have h1:=h 0 (by omega);have h2:=h (u.hi-u.lo).toNat (by omega);omega
 ·rintro ⟨h1,h2⟩ k hk;omega
theorem idx_congr {α:Type} {p q:α→Bool}:∀ (l:List α) (i:Nat),(∀ x∈l,p x=q x)→idx p i l=idx q i l
 | [],_,_=>rfl
 | x::l,i,h=>by
  have e:=idx_congr l (i+1) (fun y hy=>h y (List.mem_cons_of_mem _ hy));have hx:=h x (List.mem_cons_self ..);simp only [idx,hx,e]
theorem rsaid_words (t:Text) (hu:∀ u∈t.turns,u.lo≤u.hi) (a:Int) (n:Nat):rsaid t (wordsL a n)=t.said a (a+(n:Int)-1):=by
 unfold rsaid Text.said;refine idx_congr _ _ (fun u h=>?_);rw [core_wordsL u a n (hu u h),contains_wordsL];rfl
end Go.Proofs.YtadnggecnjdhiaaGreat
namespace Go.Proofs.YtadnggecnjdhiaaGreat
open Go.RowKit Tx
attribute [local go_sem] Oper.semAt_some
def rstop (t:Text) (p:Nat):Bool:=decide (p=0)||(decide (p=t.words.length)||(t.words.getD (p-1) default).stop)
set_option maxHeartbeats 800000 in
theorem stop_any (t:Text) (p:Nat) (hl:t.words.length≤1000000) (hp:p≤t.words.length) (pw:Option Addr) (cw:Nat) (v1 v2:Value) (w:World) (hW:Wds w pw t.words) :
  Calls Tryz.prog 99 #[.agg #[.slice pw t.words.length cw,v1,v2],.int .i64 p] w fun e w'=>e=.returned (.bool (rstop t p))∧Below w.heap.size w w':=by
 by_cases h0:p=0
 ·have HF:Hid (rstop t p=true):=Lib.hid (by unfold rstop;rw [decide_eq_true h0];rfl);generalize rstop t p=b at HF ⊢;subst h0;clear hW
  go_enter Tryz.func99,Tryz.ntmps99
  go_wp2;go_ret;exact ⟨ret_bool (by rw [HF.out]),below1 _ _⟩
 ·have h0':((p:Int) == 0)=false:=by simpa using h0
  by_cases h1:p=t.words.length
  ·have HF:Hid (rstop t p=true):=Lib.hid (by unfold rstop;rw [decide_eq_true h1];simp);have h1':((p:Int) == (t.words.length:Int))=true:=by simp [h1]
   generalize rstop t p=b at HF ⊢;generalize t.words.length=n at h1' hl hp ⊢;clear hW h1 h0
   go_enter Tryz.func99,Tryz.ntmps99
   go_wp2;go_ret;exact ⟨ret_bool (by rw [HF.out]),below1 _ _⟩
  ·have hlt:p-1<t.words.length:=by omega
   have h1':((p:Int) == (t.words.length:Int))=false:=by simp;omega
   obtain ⟨bb,o,x,rfl,hbl,hx,d1,d2,d3⟩:=(hW.below (below1 w (.cells #[.slice pw t.words.length cw,v1,v2] 32))).at hlt;have HF:Hid (rstop t p=x.stop):=Lib.hid (by unfold rstop;rw [decide_eq_false h0,decide_eq_false h1,hx];rfl);obtain ⟨q,hq⟩:∃ q,q=p-1:=⟨_,rfl⟩;obtain ⟨pi,hpi⟩:∃ pi:Int,pi=(p:Int):=⟨_,rfl⟩;have hwr:IntKind.i64.wrap (pi-1)=(q:Int):=by rw [IntWalk.i64_in _ (by omega)];omega
   rw [← hq] at hlt d1 d2 d3;rw [← hpi] at h0' h1' ⊢;have hlt':(q:Int)<t.words.length:=by omega
   clear hW hx hq hpi h0 h1 hp;generalize rstop t p=b at HF ⊢;generalize x.stop=xs at HF d3;generalize x.syl=xa at d1;generalize x.wt=xb at d2
   go_enter Tryz.func99,Tryz.ntmps99
   go_wp2;go_ret;exact ⟨ret_bool (by rw [HF.out]),below1 _ _⟩
end Go.Proofs.YtadnggecnjdhiaaGreat
namespace Go.Proofs.YtadnggecnjdhiaaGreat
open Tx
def kindI (t:Text) (a b:Nat):Int:=(kindOf t a b).getD (-1)
theorem rstop_allow (t:Text) (p:Nat):rstop t p=t.allow p:=by
 rw [Bool.eq_iff_iff];simp [rstop,Text.allow,Text.len,or_assoc]
theorem kindI_eq (t:Text) (hu:∀ u∈t.turns,u.lo≤u.hi) (a b:Nat) (hab:a≤b) :
  kindI t a b=if t.breath<t.syl a b then 0 else if rstop t a=false then 1 else if rstop t b=false then 1 else if 0<(rsaid t (wordsL a (b-a))).length then 2 else -1:=by
 have e1:t.isK 0 a b=decide (t.breath<t.syl a b):=rfl;have e2:t.isK 1 a b=(!rstop t a||!rstop t b):=by rw [rstop_allow,rstop_allow];rfl
 have e3:t.isK 2 a b=decide (0<(rsaid t (wordsL a (b-a))).length):=by
  rw [rsaid_words t hu,show (a:Int)+((b-a:Nat):Int)-1=(b:Int)-1 by omega];exact (idx_any _ _ _).symm
 unfold kindI kindOf;rw [e1,e2,e3];by_cases h1:t.breath<t.syl a b
 ·simp [h1]
 ·by_cases h3:0<(rsaid t (wordsL a (b-a))).length <;> cases rstop t a <;> cases rstop t b <;> simp [h1,h3]
theorem kindI_some {t:Text} {a b:Nat} {k:Int} (h:kindI t a b=k) (hk:0≤k):kindOf t a b=some k:=by
 unfold kindI at h;cases e:kindOf t a b with
 | none=>rw [e] at h;simp at h;omega
 | some q=>rw [e] at h;simp at h;rw [h]
theorem kindI_none {t:Text} {a b:Nat} (h:kindI t a b<0):kindOf t a b=none:=by
 unfold kindI at h;unfold kindOf at *;split at h
 ·simp at h
 ·split at h
  ·simp at h
  ·split at h
   ·simp at h
   ·rename_i h1 h2 h3;rw [if_neg h1,if_neg h2,if_neg h3]
theorem syl_snoc (t:Text) (a k:Nat) (h:a+k<t.words.length):t.syl a (a+(k+1))=t.syl a (a+k)+(t.words.getD (a+k) default).syl:=by
 unfold Text.syl slice;rw [show a+(k+1)-a=k+1 by omega,show a+k-a=k by omega];rw [take_snocD default (by simp;omega),List.map_append,List.map_cons,List.map_nil,isum_snoc]
 congr 2
 simp [List.getD_eq_getElem?_getD,List.getElem?_drop]
theorem syl_none (t:Text) (a:Nat):t.syl a (a+0)=0:=by unfold Text.syl slice;simp [isum]
theorem syl_bd {t:Text} (ok:Text.Ok t) (a b:Nat):0≤t.syl a b∧t.syl a b≤200:=by
 have hl:(((slice t.words a b).map (·.syl)).length:Int)≤12:=by
  have:=ok.n12;unfold slice;simp;omega
 have h:=isum_bd ((slice t.words a b).map (·.syl)) 1 9 (fun x hx=>by
  obtain ⟨y,hy,rfl⟩:=List.mem_map.1 hx;have:=ok.word y (List.mem_of_mem_drop (List.mem_of_mem_take hy));exact ⟨this.1,this.2.1⟩)
 unfold Text.syl;omega
theorem otherwise_says (u:Turn) (hu:u.lo≤u.hi) (a:Int) (n:Nat):(coreIn u (wordsL a n)&&!(wordsL a n).contains u.word)=u.says a (a+(n:Int)-1):=by
 rw [core_wordsL u a n hu,contains_wordsL];rfl
end Go.Proofs.YtadnggecnjdhiaaGreat
namespace Go.Proofs.YtadnggecnjdhiaaGreat
open Go.RowKit Tx
theorem cells_marks:Tryz.prog.cellsOf 116=13:=by kernel_rfl
theorem cells_int:Tryz.prog.cellsOf 3=1:=by kernel_rfl
theorem und_int:Tryz.prog.underlying 3=some (.int .i64):=by kernel_rfl
theorem keyLits_one {a:Int} (h:(Lit.int .i64 a).wf=true):Tryz.prog.keyLits 1 3 [.int .i64 a]=some [.int .i64 a]:=by
 unfold Program.keyLits;rw [und_int];simp [h]
theorem keyLits_marks {a0 a1 a2 a3 a4 a5 a6 a7 a8 a9 a10 a11 a12:Int} (h:∀ x∈[a0,a1,a2,a3,a4,a5,a6,a7,a8,a9,a10,a11,a12],(Lit.int .i64 x).wf=true):Tryz.prog.keyLits 2 116 [.int .i64 a0,.int .i64 a1,.int .i64 a2,.int .i64 a3,.int .i64 a4,.int .i64 a5,.int .i64 a6,.int .i64 a7,.int .i64 a8,.int .i64 a9,.int .i64 a10,.int .i64 a11,.int .i64 a12]=some [.int .i64 a0,.int .i64 a1,.int .i64 a2,.int .i64 a3,.int .i64 a4,.int .i64 a5,.int .i64 a6,.int .i64 a7,.int .i64 a8,.int .i64 a9,.int .i64 a10,.int .i64 a11,.int .i64 a12]:=by
 unfold Program.keyLits;rw [und_marks];simp only [cells_marks,cells_int,List.length_cons,List.length_nil,if_true];simp [List.range_succ,keyLits_one (h a0 (by simp)),keyLits_one (h a1 (by simp)),keyLits_one (h a2 (by simp)),keyLits_one (h a3 (by simp)),keyLits_one (h a4 (by simp)),keyLits_one (h a5 (by simp)),keyLits_one (h a6 (by simp)),keyLits_one (h a7 (by simp)),keyLits_one (h a8 (by simp)),keyLits_one (h a9 (by simp)),keyLits_one (h a10 (by simp)),keyLits_one (h a11 (by simp)),keyLits_one (h a12 (by simp))]
theorem eql_arr {M N:Marks} (hM:M.length=13) (hN:N.length=13) (h1:∀ x∈M,(Lit.int .i64 x).wf=true) (h2:∀ x∈N,(Lit.int .i64 x).wf=true) (w:World):(Op.equalIn 10000 116 (.agg (arrOf M)) (.agg (arrOf N))).run Tryz.prog w=.ok (decide (M=N)) w:=by
 match M,N,hM,hN with
 | [a0,a1,a2,a3,a4,a5,a6,a7,a8,a9,a10,a11,a12],[b0,b1,b2,b3,b4,b5,b6,b7,b8,b9,b10,b11,b12],_,_ =>
  have hk:Tryz.prog.keyTypeAt 2 116=true:=by kernel_rfl
  obtain ⟨r,hr,hiff⟩:=run_equalIn_deep 9998 2 116 hk w 2 2 (.agg #[.int .i64 a0,.int .i64 a1,.int .i64 a2,.int .i64 a3,.int .i64 a4,.int .i64 a5,.int .i64 a6,.int .i64 a7,.int .i64 a8,.int .i64 a9,.int .i64 a10,.int .i64 a11,.int .i64 a12]) (.agg #[.int .i64 b0,.int .i64 b1,.int .i64 b2,.int .i64 b3,.int .i64 b4,.int .i64 b5,.int .i64 b6,.int .i64 b7,.int .i64 b8,.int .i64 b9,.int .i64 b10,.int .i64 b11,.int .i64 b12]) [.int .i64 a0,.int .i64 a1,.int .i64 a2,.int .i64 a3,.int .i64 a4,.int .i64 a5,.int .i64 a6,.int .i64 a7,.int .i64 a8,.int .i64 a9,.int .i64 a10,.int .i64 a11,.int .i64 a12] [.int .i64 b0,.int .i64 b1,.int .i64 b2,.int .i64 b3,.int .i64 b4,.int .i64 b5,.int .i64 b6,.int .i64 b7,.int .i64 b8,.int .i64 b9,.int .i64 b10,.int .i64 b11,.int .i64 b12] (by kernel_rfl) (by kernel_rfl) (keyLits_marks h1) (keyLits_marks h2);have hrd:r=decide ([a0,a1,a2,a3,a4,a5,a6,a7,a8,a9,a10,a11,a12]=[b0,b1,b2,b3,b4,b5,b6,b7,b8,b9,b10,b11,b12]):=by
   rw [Bool.eq_iff_iff,hiff];simp
  simp only [arrOf,List.map_cons,List.map_nil];rw [← hrd];exact hr
def holdB (may:Nat→Nat→Bool) (n:Nat) (M:Marks):Bool:=(M.getD 0 0 == 0)&&decide (Tx.lowered may n M=M)
theorem small_wf {M:Marks} (h:Small M):∀ x∈M,(Lit.int .i64 x).wf=true:=fun x hx=>by
 obtain ⟨i,hi,rfl⟩:=List.mem_iff_getElem.1 hx;have hb:=h.2 i (by rw [← h.1];exact hi);rw [show M.getD i 0=M[i] from by simp [hi]] at hb;simp only [Lit.wf,Bool.and_eq_true,decide_eq_true_eq];have h1:IntKind.i64.min=-9223372036854775808:=by rfl
 have h2:IntKind.i64.max=9223372036854775807:=by rfl
 omega
def spHd1 (pw:Option Addr) (n cw:Nat) (v1 v2 mv:Value) (BA:Array Value) (m0:Int) (LA:Array Value) (g:Bool) (Mb:Nat):Nat→List Value→Value→World→Prop
 | 0,_,v,_=>v=.pointer (some ⟨Mb,0,none⟩)
 | 1,_,v,_=>v=.int .i64 m0
 | 2,_,v,_=>v=.bool true
 | 3,_,v,_=>v=.bool true
 | 4,_,v,_=>v=.agg #[.slice pw n cw,v1,v2,mv]
 | 5,_,v,_=>v=.agg BA
 | 6,_,v,_=>v=.agg LA
 | 7,_,v,_=>v=.agg BA
 | 8,_,v,_=>v=.bool g
 | 9,_,v,_=>v=.bool g
 | _,_,_,_=>False
theorem spHd1_stable (pw:Option Addr) (n cw:Nat) (v1 v2 mv:Value) (BA:Array Value) (m0:Int) (LA:Array Value) (g:Bool) (Mb:Nat):∀ i L v w w',spHd1 pw n cw v1 v2 mv BA m0 LA g Mb i L v w→Rs.Gr w w'→spHd1 pw n cw v1 v2 mv BA m0 LA g Mb i L v w':=by
 intro i L v w w' h hg
 match i with
 | 0=>exact h
 | 1=>exact h
 | 2=>exact h
 | 3=>exact h
 | 4=>exact h
 | 5=>exact h
 | 6=>exact h
 | 7=>exact h
 | 8=>exact h
 | 9=>exact h
def spHd0 (pw:Option Addr) (n cw:Nat) (v1 v2 mv:Value) (BA:Array Value) (m0:Int) (LA:Array Value) (g:Bool) (Mb:Nat):Nat→List Value→Value→World→Prop
 | 0,_,v,_=>v=.pointer (some ⟨Mb,0,none⟩)
 | 1,_,v,_=>v=.int .i64 m0
 | 2,_,v,_=>v=.bool false
 | 3,_,v,_=>v=.bool false
 | 4,_,v,_=>v=undef
 | 5,_,v,_=>v=undef
 | 6,_,v,_=>v=undef
 | 7,_,v,_=>v=undef
 | 8,_,v,_=>v=undef
 | 9,_,v,_=>v=.bool false
 | _,_,_,_=>False
theorem spHd0_stable (pw:Option Addr) (n cw:Nat) (v1 v2 mv:Value) (BA:Array Value) (m0:Int) (LA:Array Value) (g:Bool) (Mb:Nat):∀ i L v w w',spHd0 pw n cw v1 v2 mv BA m0 LA g Mb i L v w→Rs.Gr w w'→spHd0 pw n cw v1 v2 mv BA m0 LA g Mb i L v w':=by
 intro i L v w w' h hg
 match i with
 | 0=>exact h
 | 1=>exact h
 | 2=>exact h
 | 3=>exact h
 | 4=>exact h
 | 5=>exact h
 | 6=>exact h
 | 7=>exact h
 | 8=>exact h
 | 9=>exact h
set_option maxHeartbeats 1000000 in
set_option maxRecDepth 100000 in
theorem hold_any (may:Nat→Nat→Bool) (n cw:Nat) (hn:n≤12) (pw:Option Addr) (v1 v2 mv:Value) (M:Marks) (hM:Small M) (w:World) (hMay:MayAt mv may n (fun k=>k<w.heap.size) w) :
  Calls Tryz.prog 90 #[.agg #[.slice pw n cw,v1,v2,mv],.agg (arrOf M)] w fun e w'=>e=.returned (.bool (holdB may n M))∧Below w.heap.size w w':=by
 have HMAY:=Lib.hid hMay;have HEQ:=Lib.hid (fun W=>eql_arr (Small.rows (may:=may) (n:=n) (by omega) (List.range n) M hM (fun a ha=>by have:=List.mem_range.1 ha;omega)).1 hM.1 (small_wf (Small.rows (may:=may) (n:=n) (by omega) (List.range n) M hM (fun a ha=>by have:=List.mem_range.1 ha;omega))) (small_wf hM) W)
 change Hid (∀ W,(Op.equalIn 10000 116 (.agg (arrOf (Tx.lowered may n M))) (.agg (arrOf M))).run Tryz.prog W=.ok (decide (Tx.lowered may n M=M)) W) at HEQ
 have HI:=Lib.hid (size_marks (by rw [arrOf_size];exact hM.1:(arrOf M).size=13));have HM0:=Lib.hid (arrOf_get (M:=M) (k:=0) (by rw [hM.1];omega));have HHB:=Lib.hid (show holdB may n M=((M.getD 0 0 == 0)&&decide (Tx.lowered may n M=M)) from rfl);generalize M.getD 0 0=m0 at HM0 HHB;have hxm:=heap_last (w.alloc (.cells #[.slice pw n cw,v1,v2,mv] 84)) (.cells (arrOf M) 116);rw [World.size_alloc] at hxm;have hx0:((w.alloc (.cells #[.slice pw n cw,v1,v2,mv] 84)).alloc (.cells (arrOf M) 116)).heap[w.heap.size]?=some (.cells #[.slice pw n cw,v1,v2,mv] 84 (0,0)):=by
  rw [Below.heap_alloc _ _ _ (by simp)];exact heap_last _ _
 have HX:=Lib.hid hx0;have HBW:=Lib.hid (show Below w.heap.size w ((w.alloc (.cells #[.slice pw n cw,v1,v2,mv] 84)).alloc (.cells (arrOf M) 116)) from (below1 _ _).alloc (by simp) _);have hsz:((w.alloc (.cells #[.slice pw n cw,v1,v2,mv] 84)).alloc (.cells (arrOf M) 116)).heap.size=w.heap.size+2:=by simp
 have HM:=Lib.hid hxm;clear hx0 hxm hMay;obtain ⟨BA,hBA⟩:∃ BA,BA=arrOf M:=⟨_,rfl⟩;rw [← hBA] at HI HM0 HM HX HBW HEQ hsz ⊢;have HBA:=Lib.hid hBA;clear hBA
 go_enter Tryz.func90,Tryz.ntmps90
 go_wp2_with fail
 generalize (w.alloc (.cells #[.slice pw n cw,v1,v2,mv] 84)).alloc (.cells BA 116)=W1 at HM HX HBW hsz ⊢;by_cases heq:(m0 == 0)=true
 ·have HEQ1:=Lib.hid heq;have HLO:=Lib.hid (fun W (h:Below W1.heap.size W1 W)=>lowered_any may n cw hn pw v1 v2 mv M hM W ((HMAY.out.hold (.of_below (HBW.out.trans (h.mono (by omega))) (fun _ h _=>h))).mono (fun j hj _=>by have:=h.size;omega)));rw [← HBA.out] at HLO;refine Rs.region_gen 10 [[],[0],[0,1],[0,1,2],[0,1,2,3],[0,1,2,3],[0,1,2,3,4,5],[0,1,2,3],[0,1,2,3,4,5,6,7],[0,1,2,3,4,5,6,7,8]] [some 5,some 6,some 7,some 8,some 9,some 10,some 11,some 12,some 13,some 14] (spHd1 pw n cw v1 v2 mv BA m0 (arrOf (Tx.lowered may n M)) (decide (Tx.lowered may n M=M)) (w.heap.size+1)) (by kernel_rfl) (by kernel_rfl) rfl (spHd1_stable _ _ _ _ _ _ _ _ _ _ _) ?_ ?_
  ·refine ⟨fun V w' hG hs=>?_,fun V w' hG hs=>?_,fun V w' hG hs=>?_,fun V w' hG hs=>?_,fun V w' hG hs=>?_,fun V w' hG hs=>?_,fun V w' hG hs=>?_,fun V w' hG hs=>?_,fun V w' hG hs=>?_,fun V w' hG hs=>?_,trivial⟩
   all_goals
    have hm:=(hG.block (w.heap.size+1) (by omega)).trans HM.out;have hx:=(hG.block w.heap.size (by omega)).trans HX.out;have k0:=blk_cells hx 0 _ rfl;have k1:=blk_cells hx 1 _ rfl;have k2:=blk_cells hx 2 _ rfl;have k3:=blk_cells hx 3 _ rfl;have hm0:=blk_cells hm 0 _ HM0.out
   ·rw [if_pos (by rfl)];exact Rs.GrowL.value (v:=.pointer (some ⟨(w.heap.size+1),0,none⟩)) (w':=w') (by simp [go_sem,Rs.look]) (Rs.Gr.refl _) rfl
   ·have e0:V 0=_:=hs 0 (by simp);rw [if_pos (by rfl)];exact Rs.GrowL.value (v:=.int .i64 m0) (w':=w') (by simp [go_sem,Rs.look,e0,hm0]) (Rs.Gr.refl _) rfl
   ·have e0:V 0=_:=hs 0 (by simp);have e1:V 1=_:=hs 1 (by simp);rw [if_pos (by rfl)];exact Rs.GrowL.value (v:=.bool true) (w':=w') (by simp [go_sem,Rs.look,e0,e1,heq]) (Rs.Gr.refl _) rfl
   ·have e0:V 0=_:=hs 0 (by simp);have e1:V 1=_:=hs 1 (by simp);have e2:V 2=_:=hs 2 (by simp);rw [if_pos (by rfl)];exact Rs.GrowL.value (v:=.bool true) (w':=w') (by simp [go_sem,Rs.look,e0,e1,e2]) (Rs.Gr.refl _) rfl
   ·have e0:V 0=_:=hs 0 (by simp);have e1:V 1=_:=hs 1 (by simp);have e2:V 2=_:=hs 2 (by simp);have e3:V 3=_:=hs 3 (by simp);rw [if_pos (by simp [Rs.wantB,e3])];exact Rs.GrowL.value (v:=.agg #[.slice pw n cw,v1,v2,mv]) (w':=w') (by simp [go_sem,Rs.look,e0,e1,e2,e3,k0,k1,k2,k3]) (Rs.Gr.refl _) rfl
   ·have e0:V 0=_:=hs 0 (by simp);have e1:V 1=_:=hs 1 (by simp);have e2:V 2=_:=hs 2 (by simp);have e3:V 3=_:=hs 3 (by simp);rw [if_pos (by simp [Rs.wantB,e3])];exact Rs.GrowL.value (v:=.agg BA) (w':=w') (exec_load_row 116 _ rfl (w.heap.size+1) rfl 116 BA (0,0) _ hm und_marks rfl HI.out) (Rs.Gr.refl _) rfl
   ·have e0:V 0=_:=hs 0 (by simp);have e1:V 1=_:=hs 1 (by simp);have e2:V 2=_:=hs 2 (by simp);have e3:V 3=_:=hs 3 (by simp);have e4:V 4=_:=hs 4 (by simp);have e5:V 5=_:=hs 5 (by simp);rw [if_pos (by simp [Rs.wantB,e3])];refine Rs.GrowL.call (f:=119) (args:=#[.agg #[.slice pw n cw,v1,v2,mv],.agg BA]) (by simp [go_sem,Rs.look,e4,e5]) ?_;refine (HLO.out w' hG).mono ?_;rintro e w2 ⟨rfl,hB2⟩;exact ⟨_,rfl,hB2,rfl⟩
   ·have e0:V 0=_:=hs 0 (by simp);have e1:V 1=_:=hs 1 (by simp);have e2:V 2=_:=hs 2 (by simp);have e3:V 3=_:=hs 3 (by simp);rw [if_pos (by simp [Rs.wantB,e3])];exact Rs.GrowL.value (v:=.agg BA) (w':=w') (exec_load_row 116 _ rfl (w.heap.size+1) rfl 116 BA (0,0) _ hm und_marks rfl HI.out) (Rs.Gr.refl _) rfl
   ·have e0:V 0=_:=hs 0 (by simp);have e1:V 1=_:=hs 1 (by simp);have e2:V 2=_:=hs 2 (by simp);have e3:V 3=_:=hs 3 (by simp);have e4:V 4=_:=hs 4 (by simp);have e5:V 5=_:=hs 5 (by simp);have e6:V 6=_:=hs 6 (by simp);have e7:V 7=_:=hs 7 (by simp);rw [if_pos (by simp [Rs.wantB,e3])];exact Rs.GrowL.value (v:=.bool (decide (Tx.lowered may n M=M))) (w':=w') (by have hq:=HEQ.out w';simp [go_sem,Rs.look,e6,e7,hq]) (Rs.Gr.refl _) rfl
   ·have e0:V 0=_:=hs 0 (by simp);have e1:V 1=_:=hs 1 (by simp);have e2:V 2=_:=hs 2 (by simp);have e3:V 3=_:=hs 3 (by simp);have e4:V 4=_:=hs 4 (by simp);have e5:V 5=_:=hs 5 (by simp);have e6:V 6=_:=hs 6 (by simp);have e7:V 7=_:=hs 7 (by simp);have e8:V 8=_:=hs 8 (by simp);rw [if_pos (by rfl)];exact Rs.GrowL.value (v:=.bool (decide (Tx.lowered may n M=M))) (w':=w') (by simp [go_sem,Rs.look,e0,e1,e2,e3,e4,e5,e6,e7,e8]) (Rs.Gr.refl _) rfl
  ·intro V w' hG hs;have e0:V 0=_:=hs 0 (by omega);have e1:V 1=_:=hs 1 (by omega);have e2:V 2=_:=hs 2 (by omega);have e3:V 3=_:=hs 3 (by omega);have e4:V 4=_:=hs 4 (by omega);have e5:V 5=_:=hs 5 (by omega);have e6:V 6=_:=hs 6 (by omega);have e7:V 7=_:=hs 7 (by omega);have e8:V 8=_:=hs 8 (by omega);have e9:V 9=_:=hs 9 (by omega);simp only [Rs.canon,Rs.dstOf,List.range_succ,List.range_zero,List.nil_append,List.cons_append,List.foldl_cons,List.foldl_nil,List.drop_succ_cons,List.drop_zero,List.drop_nil,List.getElem?_toArray,List.getElem?_cons_succ,List.getElem?_cons_zero,Option.bind_some,Act.put,List.getD_cons_succ,List.getD_cons_zero,List.setIfInBounds_toArray,List.set_cons_succ,List.set_cons_zero];rw [e0,e1,e2,e3,e4,e5,e6,e7,e8,e9];clear e0 e1 e2 e3 e4 e5 e6 e7 e8 e9 hs;clear heq;go_wp2;go_ret;exact ⟨by rw [HHB.out,HEQ1.out];rfl,HBW.out.trans (hG.mono (by omega))⟩
 ·have heq:(m0 == 0)=false:=by simpa using heq
  have HEQ0:=Lib.hid heq;refine Rs.region_gen 10 [[],[0],[0,1],[0,1,2],[0,1,2,3],[0,1,2,3],[0,1,2,3,4,5],[0,1,2,3],[0,1,2,3,4,5,6,7],[0,1,2,3,4,5,6,7,8]] [some 5,some 6,some 7,some 8,some 9,some 10,some 11,some 12,some 13,some 14] (spHd0 pw n cw v1 v2 mv BA m0 (arrOf (Tx.lowered may n M)) (decide (Tx.lowered may n M=M)) (w.heap.size+1)) (by kernel_rfl) (by kernel_rfl) rfl (spHd0_stable _ _ _ _ _ _ _ _ _ _ _) ?_ ?_
  ·refine ⟨fun V w' hG hs=>?_,fun V w' hG hs=>?_,fun V w' hG hs=>?_,fun V w' hG hs=>?_,fun V w' hG hs=>?_,fun V w' hG hs=>?_,fun V w' hG hs=>?_,fun V w' hG hs=>?_,fun V w' hG hs=>?_,fun V w' hG hs=>?_,trivial⟩
   all_goals
    have hm:=(hG.block (w.heap.size+1) (by omega)).trans HM.out;have hx:=(hG.block w.heap.size (by omega)).trans HX.out;have k0:=blk_cells hx 0 _ rfl;have k1:=blk_cells hx 1 _ rfl;have k2:=blk_cells hx 2 _ rfl;have k3:=blk_cells hx 3 _ rfl;have hm0:=blk_cells hm 0 _ HM0.out
   ·rw [if_pos (by rfl)];exact Rs.GrowL.value (v:=.pointer (some ⟨(w.heap.size+1),0,none⟩)) (w':=w') (by simp [go_sem,Rs.look]) (Rs.Gr.refl _) rfl
   ·have e0:V 0=_:=hs 0 (by simp);rw [if_pos (by rfl)];exact Rs.GrowL.value (v:=.int .i64 m0) (w':=w') (by simp [go_sem,Rs.look,e0,hm0]) (Rs.Gr.refl _) rfl
   ·have e0:V 0=_:=hs 0 (by simp);have e1:V 1=_:=hs 1 (by simp);rw [if_pos (by rfl)];exact Rs.GrowL.value (v:=.bool false) (w':=w') (by simp [go_sem,Rs.look,e0,e1,heq]) (Rs.Gr.refl _) rfl
   ·have e0:V 0=_:=hs 0 (by simp);have e1:V 1=_:=hs 1 (by simp);have e2:V 2=_:=hs 2 (by simp);rw [if_pos (by rfl)];exact Rs.GrowL.value (v:=.bool false) (w':=w') (by simp [go_sem,Rs.look,e0,e1,e2]) (Rs.Gr.refl _) rfl
   ·have e0:V 0=_:=hs 0 (by simp);have e1:V 1=_:=hs 1 (by simp);have e2:V 2=_:=hs 2 (by simp);have e3:V 3=_:=hs 3 (by simp);rw [if_neg (by simp [Rs.wantB,e3])];rfl
   ·have e0:V 0=_:=hs 0 (by simp);have e1:V 1=_:=hs 1 (by simp);have e2:V 2=_:=hs 2 (by simp);have e3:V 3=_:=hs 3 (by simp);rw [if_neg (by simp [Rs.wantB,e3])];rfl
   ·have e0:V 0=_:=hs 0 (by simp);have e1:V 1=_:=hs 1 (by simp);have e2:V 2=_:=hs 2 (by simp);have e3:V 3=_:=hs 3 (by simp);have e4:V 4=_:=hs 4 (by simp);have e5:V 5=_:=hs 5 (by simp);rw [if_neg (by simp [Rs.wantB,e3])];rfl
   ·have e0:V 0=_:=hs 0 (by simp);have e1:V 1=_:=hs 1 (by simp);have e2:V 2=_:=hs 2 (by simp);have e3:V 3=_:=hs 3 (by simp);rw [if_neg (by simp [Rs.wantB,e3])];rfl
   ·have e0:V 0=_:=hs 0 (by simp);have e1:V 1=_:=hs 1 (by simp);have e2:V 2=_:=hs 2 (by simp);have e3:V 3=_:=hs 3 (by simp);have e4:V 4=_:=hs 4 (by simp);have e5:V 5=_:=hs 5 (by simp);have e6:V 6=_:=hs 6 (by simp);have e7:V 7=_:=hs 7 (by simp);rw [if_neg (by simp [Rs.wantB,e3])];rfl
   ·have e0:V 0=_:=hs 0 (by simp);have e1:V 1=_:=hs 1 (by simp);have e2:V 2=_:=hs 2 (by simp);have e3:V 3=_:=hs 3 (by simp);have e4:V 4=_:=hs 4 (by simp);have e5:V 5=_:=hs 5 (by simp);have e6:V 6=_:=hs 6 (by simp);have e7:V 7=_:=hs 7 (by simp);have e8:V 8=_:=hs 8 (by simp);rw [if_pos (by rfl)];exact Rs.GrowL.value (v:=.bool false) (w':=w') (by simp [go_sem,Rs.look,e0,e1,e2,e3,e4,e5,e6,e7,e8]) (Rs.Gr.refl _) rfl
  ·intro V w' hG hs;have e0:V 0=_:=hs 0 (by omega);have e1:V 1=_:=hs 1 (by omega);have e2:V 2=_:=hs 2 (by omega);have e3:V 3=_:=hs 3 (by omega);have e4:V 4=_:=hs 4 (by omega);have e5:V 5=_:=hs 5 (by omega);have e6:V 6=_:=hs 6 (by omega);have e7:V 7=_:=hs 7 (by omega);have e8:V 8=_:=hs 8 (by omega);have e9:V 9=_:=hs 9 (by omega);simp only [Rs.canon,Rs.dstOf,List.range_succ,List.range_zero,List.nil_append,List.cons_append,List.foldl_cons,List.foldl_nil,List.drop_succ_cons,List.drop_zero,List.drop_nil,List.getElem?_toArray,List.getElem?_cons_succ,List.getElem?_cons_zero,Option.bind_some,Act.put,List.getD_cons_succ,List.getD_cons_zero,List.setIfInBounds_toArray,List.set_cons_succ,List.set_cons_zero];rw [e0,e1,e2,e3,e4,e5,e6,e7,e8,e9];clear e0 e1 e2 e3 e4 e5 e6 e7 e8 e9 hs;clear heq;go_wp2;go_ret;exact ⟨by rw [HHB.out,HEQ0.out];rfl,HBW.out.trans (hG.mono (by omega))⟩
end Go.Proofs.YtadnggecnjdhiaaGreat
namespace Go.Proofs.YtadnggecnjdhiaaGreat
open Go.RowKit Tx
def padM (l:List Int):Marks:=l++List.replicate (13-l.length) 0
def shows (t:Text) (l:List Int):Int × Int :=
 if t.err≠0 then (0,t.err) else if l.length≠t.words.length+1 then (0,2) else if l.any (fun k=>!btw k 0 99) then (0,3) else if holdB t.right t.words.length (padM l)=false then (0,8) else (l.getD t.words.length 0,0)
theorem padM_small {l:List Int} (hl:l.length≤13) (h:¬ l.any (fun k=>!btw k 0 99)=true):Small (padM l):=by
 refine ⟨by simp [padM];omega,fun k hk=>?_⟩;unfold padM;by_cases hkl:k<l.length
 ·have:=any_false h (l.getD k 0) (getD_mem 0 hkl);simp only [Bool.not_eq_false'] at this;have:=btw_true this;rw [show List.getD (l++List.replicate (13-l.length) (0:Int)) k 0=List.getD l k 0 from by simp [List.getElem?_append,hkl]];omega
 ·rw [show (l++List.replicate (13-l.length) (0:Int)).getD k 0=0 from by
   simp [List.getElem?_append,hkl,List.getElem?_replicate];split <;> rfl]
  omega
theorem siz_int:(Tryz.prog.info? 3).map (·.size)=some 1:=by kernel_rfl
def z13:List Value:=List.replicate 13 (Value.int .i64 0)
set_option maxRecDepth 100000 in
theorem copy_marks (l:List Int) (hl:l.length≤13) (g lb lo cl:Nat) (w:World) (hg:w.heap[g]?=some (.cells z13.toArray 116 (0,0))) (hc:∀ i,i<l.length→w.cell? ⟨lb,lo+i,none⟩=some (.int .i64 (l.getD i 0))) :
  (Builtin.copy_ #[34,34] 3 #[.slice (some ⟨g,0,none⟩) 13 13,.slice (some ⟨lb,lo,none⟩) l.length cl]).run Tryz.prog w=.ok (goInt l.length) (w.setRow g (arrOf (padM l))):=by
 have h:=run_copy_row (P:=Tryz.prog) w 34 34 3 3 g 0 13 13 ⟨lb,lo,none⟩ l.length cl z13.toArray 116 (l.map (Value.int .i64)) A_undI siz_int hg (by rw [List.length_map];exact (Nat.min_eq_left hl).symm)
  (fun j v hv=>by
   have hj:j<l.length:=by have:=(List.getElem?_eq_some_iff.1 hv).1;simpa using this
   have hadd:(⟨lb,lo,none⟩:Addr).add j=⟨lb,lo+j,none⟩:=by unfold Addr.add;split <;> simp_all
   rw [hadd,hc j hj];simp [hj] at hv ⊢;exact hv)
  (by unfold z13;simp;omega) (fun v hv=>by obtain ⟨x,_,rfl⟩:=List.mem_map.1 hv;rfl)
 rw [h,List.length_map]
 congr 2
 unfold arrOf padM z13
 congr 1
 simp only [List.take_zero,List.nil_append,Nat.zero_add,List.length_map,List.map_append,List.map_replicate,List.drop_replicate]
set_option maxHeartbeats 2000000 in
set_option maxRecDepth 100000 in
theorem Shows_in (t:Text) (l:List Int) (he:t.err=0) (hlen:l.length=t.words.length+1) (hany:¬ l.any (fun k=>!btw k 0 99)=true) (pw pt pl:Option Addr) (cw ct cl:Nat) (hcw:t.words.length≤cw∧cw≤maxLen) (w:World) (hW:TxAt w t pw pt) (hL:Ints w pl l) :
  Calls Tryz.prog 38 #[.agg #[.slice pw t.words.length cw,.slice pt t.turns.length ct,.int .i64 t.breath],.slice pl l.length cl] w fun e w' =>
   e=.returned (.tuple #[.int .i64 (shows t l).1,.int .i64 (shows t l).2])∧Below w.heap.size w w':=by
 have ok:=err_ok he;have hn12:=ok.n12;have hLL:=hL;rcases hLL with h0 | ⟨lb,lo,rfl,hlb,hlc⟩
 ·rw [h0] at hlen;simp at hlen
 have HLC:=Lib.hid hlc;have hsh:shows t l=if holdB t.right t.words.length (padM l)=false then (0,8) else (l.getD t.words.length 0,0):=by
  unfold shows;rw [if_neg (by simp [he]),if_neg (by omega),if_neg hany]
 have hsm:=padM_small (by omega) hany;have HSH:=Lib.hid hsh;have HS:=Lib.hid (fun W (h:Below w.heap.size w W)=>open_ok t he pw pt cw ct W (hW.below h));have h3:errIf (fun k=>!btw k 0 99) l 3=0:=by rw [errIf,if_neg hany]
 have H3:=Lib.hid h3;have HI:=Lib.hid (fun W (h:Below w.heap.size w W)=>errIfI_any 89 entered_shows1 (fun k=>!btw k 0 99) l (some ⟨lb,lo,none⟩) cl 3 W (by omega) (hL.below h) (fun W' _ u=>(shows1_any u W').mono fun e w' ⟨h1,h2⟩=>⟨h1,h2 ▸ Below.refl _ _⟩));have HM:=Lib.hid (fun W (h:Below w.heap.size w W)=>right_may t pw pt cw ct .nilFunc W ⟨ok,hW.below h,hcw⟩);have HL:=Lib.hid (fun W (h:Below w.heap.size w W)=>hL.below h);have HSM:=Lib.hid hsm;have HLEN:=Lib.hid hlen;have hlq:((l.length:Int) != (t.words.length:Int)+1)=false:=by rw [hlen];simp
 have hl13:l.length≤13:=by omega
 clear hsh hsm h3 hany hW hL he hlen
 go_enter Tryz.func38,Tryz.ntmps38
 go_wp2_with fail
 refine (HS.out _ (below1 _ _)).mono ?_;rintro e w5 ⟨rfl,hB5⟩;have HB5:=Lib.hid (join (below1 _ _) hB5);clear hB5;go_wp2_with fail
 refine (end_any _ _ _ _ _ _ _).mono ?_;rintro e w6 ⟨rfl,hw6⟩;have hB6:Below w.heap.size w w6:=by rw [← hw6];exact join (join HB5.out (below1 _ _)) (below1 _ _)
 have hz6:w5.heap.size<w6.heap.size:=by rw [← hw6];simp;omega
 have hx6:w6.heap[w5.heap.size]?=some (.cells #[.slice pw t.words.length cw,.slice pt t.turns.length ct,.int .i64 t.breath,.func (.func 91) #[.agg #[.slice pw t.words.length cw,.slice pt t.turns.length ct,.int .i64 t.breath,.nilFunc]] #[]] 84 (0,0)):=by
  rw [← hw6,Below.heap_alloc _ _ _ (by simp)];exact heap_last _ _
 have HX6:=Lib.hid hx6;have HB6:=Lib.hid hB6;clear hw6 hx6 hB6;go_wp2_with fail
 refine (HI.out _ HB6.out).mono ?_;rintro e w7 ⟨rfl,hB7⟩;rw [H3.out];have hz7:=hB7.size;have HX7:=Lib.hid ((hB7.block _ hz6).trans HX6.out);have HB7:=Lib.hid (join HB6.out hB7);clear hB7;have hcp0:∀ W,W=w7.alloc (.cells #[Value.int IntKind.i64 0,Value.int IntKind.i64 0,Value.int IntKind.i64 0,Value.int IntKind.i64 0,Value.int IntKind.i64 0,Value.int IntKind.i64 0,Value.int IntKind.i64 0,Value.int IntKind.i64 0,Value.int IntKind.i64 0,Value.int IntKind.i64 0,Value.int IntKind.i64 0,Value.int IntKind.i64 0,Value.int IntKind.i64 0] 116)→(Builtin.copy_ #[34,34] 3 #[.slice (some ⟨w7.heap.size,0,none⟩) 13 13,.slice (some ⟨lb,lo,none⟩) l.length cl]).run Tryz.prog W=.ok (goInt l.length) (W.setRow w7.heap.size (arrOf (padM l))):=fun W hW =>
  copy_marks l hl13 w7.heap.size lb lo cl W (by rw [hW];exact heap_last _ _) (fun i hi=>by rw [hW,(join HB7.out (below1 _ _)).cell (p:=⟨lb,lo+i,none⟩) hlb];exact HLC.out i hi)
 have hcp:=hcp0 _ rfl;clear hcp0;have hmk:=setRow_heap (w7.alloc (.cells #[Value.int IntKind.i64 0,Value.int IntKind.i64 0,Value.int IntKind.i64 0,Value.int IntKind.i64 0,Value.int IntKind.i64 0,Value.int IntKind.i64 0,Value.int IntKind.i64 0,Value.int IntKind.i64 0,Value.int IntKind.i64 0,Value.int IntKind.i64 0,Value.int IntKind.i64 0,Value.int IntKind.i64 0,Value.int IntKind.i64 0] 116)) w7.heap.size #[Value.int IntKind.i64 0,Value.int IntKind.i64 0,Value.int IntKind.i64 0,Value.int IntKind.i64 0,Value.int IntKind.i64 0,Value.int IntKind.i64 0,Value.int IntKind.i64 0,Value.int IntKind.i64 0,Value.int IntKind.i64 0,Value.int IntKind.i64 0,Value.int IntKind.i64 0,Value.int IntKind.i64 0,Value.int IntKind.i64 0] (arrOf (padM l)) 116 (0,0) (heap_last _ _);have hB8:Below w7.heap.size w7 ((w7.alloc (.cells #[Value.int IntKind.i64 0,Value.int IntKind.i64 0,Value.int IntKind.i64 0,Value.int IntKind.i64 0,Value.int IntKind.i64 0,Value.int IntKind.i64 0,Value.int IntKind.i64 0,Value.int IntKind.i64 0,Value.int IntKind.i64 0,Value.int IntKind.i64 0,Value.int IntKind.i64 0,Value.int IntKind.i64 0,Value.int IntKind.i64 0] 116)).setRow w7.heap.size (arrOf (padM l))):=below_setRow (below1 _ _) (Nat.le_refl _) _;have hz8:((w7.alloc (.cells #[Value.int IntKind.i64 0,Value.int IntKind.i64 0,Value.int IntKind.i64 0,Value.int IntKind.i64 0,Value.int IntKind.i64 0,Value.int IntKind.i64 0,Value.int IntKind.i64 0,Value.int IntKind.i64 0,Value.int IntKind.i64 0,Value.int IntKind.i64 0,Value.int IntKind.i64 0,Value.int IntKind.i64 0,Value.int IntKind.i64 0] 116)).setRow w7.heap.size (arrOf (padM l))).heap.size=w7.heap.size+1:=by simp
 have HMK:=Lib.hid hmk;have HB8:=Lib.hid hB8;have HZ8:=Lib.hid hz8;clear hmk hB8 hz8 hlc;obtain ⟨BA,hBA⟩:∃ BA,BA=arrOf (padM l):=⟨_,rfl⟩;rw [← hBA] at hcp HMK HB8 HZ8;have HBA:=Lib.hid hBA;clear hBA;have hsm:=HSM.out;have HI8:=Lib.hid (size_marks (by rw [HBA.out,arrOf_size];exact hsm.1:BA.size=13));have hx8:=(HB8.out.block w5.heap.size (by omega)).trans HX7.out;have k0:=blk_cells hx8 0 _ rfl;have k1:=blk_cells hx8 1 _ rfl;have k2:=blk_cells hx8 2 _ rfl;have k3:=blk_cells hx8 3 _ rfl;have HX8:=Lib.hid hx8;have HHD:=Lib.hid (fun W (h:Below w.heap.size w W)=>hold_any t.right t.words.length cw hn12 pw (.slice pt t.turns.length ct) (.int .i64 t.breath) _ (padM l) hsm W (HM.out W h));rw [← HBA.out] at HHD;have HBW8:=Lib.hid (join HB7.out HB8.out);clear hx8 hsm;go_wp2_with (with_reducible refine wpList_load_row rfl 116 _ rfl w7.heap.size rfl 116 BA (0,0) _ HMK.out und_marks rfl HI8.out ?_)
 refine (HHD.out _ HBW8.out).mono ?_;rintro e w9 ⟨rfl,hB9⟩;have HMK9:=Lib.hid ((hB9.block w7.heap.size (by have:=HZ8.out;omega)).trans HMK.out);have HX9:=Lib.hid ((hB9.block w5.heap.size (by have:=HZ8.out;omega)).trans HX8.out);have hz9:w7.heap.size+1≤w9.heap.size:=by have:=hB9.size;have:=HZ8.out;omega
 have HB9:=Lib.hid (join HBW8.out hB9);clear hB9 k0 k1 k2 k3 hcp;cases hh:holdB t.right t.words.length (padM l) with
 | false =>
  have HH:=Lib.hid hh;clear hh;go_wp2;go_ret2;exact ⟨by rw [HSH.out,if_pos HH.out];rfl,HB9.out⟩
 | true =>
  have HH:=Lib.hid hh;have k0:=blk_cells HX9.out 0 _ rfl;have k1:=blk_cells HX9.out 1 _ rfl;have k2:=blk_cells HX9.out 2 _ rfl;have k3:=blk_cells HX9.out 3 _ rfl;have hs5:w5.heap.size<w9.heap.size:=by omega
  clear hh;go_wp2_with fail
  refine (end_any _ _ _ _ _ _ _).mono ?_;rintro e w10 ⟨rfl,rfl⟩;have hpl:t.words.length<(padM l).length:=by rw [HSM.out.1];omega
  have hcell:=blk_cells HMK9.out t.words.length _ (by rw [HBA.out];exact arrOf_get hpl);have hval:(padM l).getD t.words.length 0=l.getD t.words.length 0:=by
   have hlt:t.words.length<l.length:=by have:=HLEN.out;omega
   unfold padM;simp [List.getElem?_append,hlt]
  rw [hval] at hcell;obtain ⟨x,hx⟩:∃ x,x=l.getD t.words.length 0:=⟨_,rfl⟩;rw [← hx] at hcell;have HXV:=Lib.hid hx;have hn13:(t.words.length:Int)<13:=by omega
  have hs7:w7.heap.size<w9.heap.size:=by omega
  clear hval hx k0 k1 k2 k3;go_wp2;go_ret2;exact ⟨by rw [HSH.out,if_neg (by rw [HH.out];decide),HXV.out];rfl,join HB9.out (below1 _ _)⟩
end Go.Proofs.YtadnggecnjdhiaaGreat
namespace Go.Proofs.YtadnggecnjdhiaaGreat
open Go.RowKit Tx
attribute [local go_sem] Oper.semAt_some
theorem copy_none (g c:Nat) (p:Option Addr) (W:World):(Builtin.copy_ #[34,34] 3 #[.slice (some ⟨g,0,none⟩) 0 0,.slice p 0 c]).run Tryz.prog W=.ok (goInt 0) W:=by
 cases p <;> simp [go_sem,Builtin.copy_,A_undI,siz_int]
set_option maxRecDepth 100000 in
theorem copy_ints (l:List Int) (g lb lo cl:Nat) (w:World) (hg:w.heap[g]?=some (.cells (arrOf (List.replicate l.length 0)) 3 (0,0))) (hc:∀ i,i<l.length→w.cell? ⟨lb,lo+i,none⟩=some (.int .i64 (l.getD i 0))) :
  (Builtin.copy_ #[34,34] 3 #[.slice (some ⟨g,0,none⟩) l.length l.length,.slice (some ⟨lb,lo,none⟩) l.length cl]).run Tryz.prog w=.ok (goInt l.length) (w.setRow g (arrOf l)):=by
 have h:=run_copy_row (P:=Tryz.prog) w 34 34 3 3 g 0 l.length l.length ⟨lb,lo,none⟩ l.length cl (arrOf (List.replicate l.length 0)) 3 (l.map (Value.int .i64)) A_undI siz_int hg (by rw [List.length_map];exact (Nat.min_eq_left (Nat.le_refl _)).symm)
  (fun j v hv=>by
   have hj:j<l.length:=by have:=(List.getElem?_eq_some_iff.1 hv).1;simpa using this
   have hadd:(⟨lb,lo,none⟩:Addr).add j=⟨lb,lo+j,none⟩:=by unfold Addr.add;split <;> simp_all
   rw [hadd,hc j hj];simp [hj] at hv ⊢;exact hv)
  (by simp [arrOf_size]) (fun v hv=>by obtain ⟨x,_,rfl⟩:=List.mem_map.1 hv;rfl)
 rw [h,List.length_map]
 congr 2
 unfold arrOf
 congr 1
 simp
set_option maxHeartbeats 1000000 in
set_option maxRecDepth 100000 in
theorem Copy_ints (l:List Int) (hll:l.length≤1000000) (p:Option Addr) (c:Nat) (w:World) (hL:Ints w p l) :
  Calls Tryz.prog 54 #[.slice p l.length c] w (RowPost l w):=by
 rcases hL with rfl | ⟨lb,lo,rfl,hlb,hlc⟩
 ·have hmk:(Instr.makeSlice 34 (.int .i64 0) (.int .i64 0)).run Tryz.prog w=.ok (.slice (some ⟨w.heap.size,0,none⟩) 0 0) (w.alloc (.cells (arrOf []) 3)):=make_ints 0 (by omega) w;have hcp:=copy_none w.heap.size c p (w.alloc (.cells (arrOf []) 3));have hown:(w.alloc (.cells (arrOf []) 3)).ownsRow w.heap.size 3 1 (.slice (some ⟨w.heap.size,0,none⟩) 0 0) 0 []:=⟨rfl,.inr ⟨_,0,arrOf [],rfl,Nat.le_refl _,heap_last _ _,Nat.le_refl _,by decide,rfl,rfl⟩⟩;have HO:=Lib.hid hown;clear hown;generalize hW1:w.alloc (.cells (arrOf []) 3)=W1 at hmk hcp HO;have HB:=Lib.hid (show Below w.heap.size w W1 from hW1 ▸ below1 _ _);clear hW1
  go_enter Tryz.func54,Tryz.ntmps54
  go_wp2;go_ret;exact ⟨_,rfl,HO.out,HB.out⟩
 ·have hmk:=make_ints l.length hll w;have hcp:=copy_ints l w.heap.size lb lo c (w.alloc (.cells (arrOf (List.replicate l.length 0)) 3)) (heap_last _ _) (fun i hi=>by rw [(below1 w _).cell (p:=⟨lb,lo+i,none⟩) hlb];exact hlc i hi);have hrow:=setRow_heap (w.alloc (.cells (arrOf (List.replicate l.length 0)) 3)) w.heap.size (arrOf (List.replicate l.length 0)) (arrOf l) 3 (0,0) (heap_last _ _);have hB2:Below w.heap.size w ((w.alloc (.cells (arrOf (List.replicate l.length 0)) 3)).setRow w.heap.size (arrOf l)):=below_setRow (below1 _ _) (Nat.le_refl _) _;have hown:((w.alloc (.cells (arrOf (List.replicate l.length 0)) 3)).setRow w.heap.size (arrOf l)).ownsRow w.heap.size 3 1 (.slice (some ⟨w.heap.size,0,none⟩) l.length l.length) l.length (l.map (Value.int .i64)):=⟨by simp,.inr ⟨_,l.length,arrOf l,rfl,Nat.le_refl _,hrow,Nat.le_refl _,by unfold maxLen;omega,by simp [arrOf_size],by simp [arrOf,List.take_of_length_le]⟩⟩;have HO:=Lib.hid hown;have HB:=Lib.hid hB2;clear hown hB2 hrow;generalize (w.alloc (.cells (arrOf (List.replicate l.length 0)) 3)).setRow w.heap.size (arrOf l)=W2 at hcp HO HB;generalize w.alloc (.cells (arrOf (List.replicate l.length 0)) 3)=W1 at hmk hcp;clear hlc
  go_enter Tryz.func54,Tryz.ntmps54
  go_wp2;go_ret;exact ⟨_,rfl,HO.out,HB.out⟩
end Go.Proofs.YtadnggecnjdhiaaGreat
namespace Go.Proofs.YtadnggecnjdhiaaGreat
open Go.RowKit Tx
attribute [local go_sem] Oper.semAt_some
theorem siz_Word:(Tryz.prog.info? 61).map (·.size)=some 3:=by kernel_rfl
theorem siz_Turn:(Tryz.prog.info? 63).map (·.size)=some 3:=by kernel_rfl
theorem A_undWs:Tryz.prog.underlying 22=some (.slice 61):=by kernel_rfl
theorem A_undTs:Tryz.prog.underlying 23=some (.slice 63):=by kernel_rfl
theorem A_infoWd:(Tryz.prog.info? 61).map (fun i=>(i.zero,i.size,i.bytes))=some (some (.agg #[.int .i64 0,.int .i64 0,.bool false]),3,24):=by kernel_rfl
theorem A_infoTn:(Tryz.prog.info? 63).map (fun i=>(i.zero,i.size,i.bytes))=some (some (.agg #[.int .i64 0,.int .i64 0,.int .i64 0]),3,24):=by kernel_rfl
def wcell (x:Word):List Value:=[.int .i64 x.syl,.int .i64 x.wt,.bool x.stop]
def tcell (u:Turn):List Value:=[.int .i64 u.word,.int .i64 u.lo,.int .i64 u.hi]
def wcells (ws:List Word):List Value:=ws.flatMap wcell
def tcells (ts:List Turn):List Value:=ts.flatMap tcell
theorem flat3_len {α:Type} (f:α→List Value) (hf:∀ x,(f x).length=3) (l:List α):(l.flatMap f).length=l.length*3:=by
 induction l with
 | nil=>rfl
 | cons x l ih=>rw [List.flatMap_cons,List.length_append,ih,hf,List.length_cons];omega
theorem flat3_get {α:Type} (d:α) (f:α→List Value) (hf:∀ x,(f x).length=3):∀ (l:List α) (i j:Nat),i<l.length→j<3→(l.flatMap f)[i*3+j]?=(f (l.getD i d))[j]?
 | [],i,j,hi,_=>by simp at hi
 | x::l,0,j,_,hj=>by
  rw [List.flatMap_cons,List.getElem?_append_left (by rw [hf];omega)];simp
 | x::l,i+1,j,hi,hj=>by
  rw [List.flatMap_cons,List.getElem?_append_right (by rw [hf];omega),hf,show (i+1)*3+j-3=i*3+j by omega];rw [flat3_get d f hf l i j (by simpa using hi) hj];simp
theorem wcells_len (ws:List Word):(wcells ws).length=ws.length*3:=flat3_len wcell (fun _=>rfl) ws
theorem tcells_len (ts:List Turn):(tcells ts).length=ts.length*3:=flat3_len tcell (fun _=>rfl) ts
theorem wcells_snoc (ws:List Word) (x:Word):wcells (ws++[x])=wcells ws++wcell x:=by unfold wcells;simp [List.flatMap_append]
theorem tcells_snoc (ts:List Turn) (x:Turn):tcells (ts++[x])=tcells ts++tcell x:=by unfold tcells;simp [List.flatMap_append]
theorem wcells_one {ws:List Word}:∀ v∈wcells ws,v.oneCell'=true:=by
 intro v hv;obtain ⟨x,_,h⟩:=List.mem_flatMap.1 hv;simp [wcell] at h;rcases h with rfl | rfl | rfl <;> rfl
theorem tcells_one {ts:List Turn}:∀ v∈tcells ts,v.oneCell'=true:=by
 intro v hv;obtain ⟨x,_,h⟩:=List.mem_flatMap.1 hv;simp [tcell] at h;rcases h with rfl | rfl | rfl <;> rfl
theorem wds_src {w:World} {b o:Nat} {ws:List Word} (h:∀ i,i<ws.length→w.cell? ⟨b,o+i*3,none⟩=some (.int .i64 (ws.getD i default).syl)∧w.cell? ⟨b,o+i*3+1,none⟩=some (.int .i64 (ws.getD i default).wt)∧w.cell? ⟨b,o+i*3+2,none⟩=some (.bool (ws.getD i default).stop)) :
  ∀ j v,(wcells ws)[j]?=some v→w.cell? ((⟨b,o,none⟩:Addr).add j)=some v:=by
 intro j v hv;have hadd:(⟨b,o,none⟩:Addr).add j=⟨b,o+j,none⟩:=by unfold Addr.add;split <;> simp_all
 have hj:=(List.getElem?_eq_some_iff.1 hv).1;rw [wcells_len] at hj;have hi:j / 3<ws.length:=by omega
 obtain ⟨i,m,e,hi',hm⟩:∃ i m,j=i*3+m∧i<ws.length∧(m=0∨m=1∨m=2):=⟨j / 3,j % 3,by omega,hi,by omega⟩;subst e;unfold wcells at hv;rw [flat3_get default wcell (fun _=>rfl) ws i m hi' (by omega)] at hv;obtain ⟨h1,h2,h3⟩:=h i hi';rw [hadd,← Nat.add_assoc];generalize ws.getD i default=x at hv h1 h2 h3;rcases hm with rfl | rfl | rfl <;> simp [wcell] at hv <;> subst hv
 ·exact h1
 ·exact h2
 ·exact h3
theorem tns_src {w:World} {b o:Nat} {ws:List Turn} (h:∀ i,i<ws.length→w.cell? ⟨b,o+i*3,none⟩=some (.int .i64 (ws.getD i default).word)∧w.cell? ⟨b,o+i*3+1,none⟩=some (.int .i64 (ws.getD i default).lo)∧w.cell? ⟨b,o+i*3+2,none⟩=some (.int .i64 (ws.getD i default).hi)) :
  ∀ j v,(tcells ws)[j]?=some v→w.cell? ((⟨b,o,none⟩:Addr).add j)=some v:=by
 intro j v hv;have hadd:(⟨b,o,none⟩:Addr).add j=⟨b,o+j,none⟩:=by unfold Addr.add;split <;> simp_all
 have hj:=(List.getElem?_eq_some_iff.1 hv).1;rw [tcells_len] at hj;have hi:j / 3<ws.length:=by omega
 obtain ⟨i,m,e,hi',hm⟩:∃ i m,j=i*3+m∧i<ws.length∧(m=0∨m=1∨m=2):=⟨j / 3,j % 3,by omega,hi,by omega⟩;subst e;unfold tcells at hv;rw [flat3_get default tcell (fun _=>rfl) ws i m hi' (by omega)] at hv;obtain ⟨h1,h2,h3⟩:=h i hi';rw [hadd,← Nat.add_assoc];generalize ws.getD i default=x at hv h1 h2 h3;rcases hm with rfl | rfl | rfl <;> simp [tcell] at hv <;> subst hv
 ·exact h1
 ·exact h2
 ·exact h3
theorem own_wds {w:World} {base:Nat} {e:TypeId} {v:Value} {ws:List Word} {n:Nat} (h:w.ownsRow base e 3 v n (wcells ws)) (hn:n=ws.length):∃ p c,v=.slice p ws.length c∧Wds w p ws∧ws.length≤c∧c≤maxLen:=by
 subst hn;have hc:=h;rcases h.2 with ⟨rfl,hn⟩ | ⟨g,cap,cur,rfl,hb,hg,h1,h2,h3,h4⟩
 ·exact ⟨none,0,by rw [hn],.inl (List.length_eq_zero_iff.1 hn),by omega,by unfold maxLen;omega⟩
 ·refine ⟨_,cap,rfl,.inr ⟨g,0,rfl,(Array.getElem?_eq_some_iff.1 hg).1,fun i hi=>?_⟩,h1,h2⟩;have hadd:∀ k,(⟨g,0,none⟩:Addr).add k=⟨g,k,none⟩:=fun k=>by unfold Addr.add;split <;> simp_all
  have get:=fun (j:Nat) (hj:j<3) (u:Value) (hu:(wcell (ws.getD i default))[j]?=some u)=>hc.cells (g:=g) rfl (i*3+j) u (by unfold wcells;rw [flat3_get default wcell (fun _=>rfl) ws i j hi hj];exact hu);have g0:=get 0 (by omega) _ rfl;have g1:=get 1 (by omega) _ rfl;have g2:=get 2 (by omega) _ rfl;rw [hadd] at g0 g1 g2;rw [Nat.zero_add];exact ⟨g0,g1,g2⟩
theorem own_tns {w:World} {base:Nat} {e:TypeId} {v:Value} {ws:List Turn} {n:Nat} (h:w.ownsRow base e 3 v n (tcells ws)) (hn:n=ws.length):∃ p c,v=.slice p ws.length c∧Tns w p ws∧ws.length≤c∧c≤maxLen:=by
 subst hn;have hc:=h;rcases h.2 with ⟨rfl,hn⟩ | ⟨g,cap,cur,rfl,hb,hg,h1,h2,h3,h4⟩
 ·exact ⟨none,0,by rw [hn],.inl (List.length_eq_zero_iff.1 hn),by omega,by unfold maxLen;omega⟩
 ·refine ⟨_,cap,rfl,.inr ⟨g,0,rfl,(Array.getElem?_eq_some_iff.1 hg).1,fun i hi=>?_⟩,h1,h2⟩;have hadd:∀ k,(⟨g,0,none⟩:Addr).add k=⟨g,k,none⟩:=fun k=>by unfold Addr.add;split <;> simp_all
  have get:=fun (j:Nat) (hj:j<3) (u:Value) (hu:(tcell (ws.getD i default))[j]?=some u)=>hc.cells (g:=g) rfl (i*3+j) u (by unfold tcells;rw [flat3_get default tcell (fun _=>rfl) ws i j hi hj];exact hu);have g0:=get 0 (by omega) _ rfl;have g1:=get 1 (by omega) _ rfl;have g2:=get 2 (by omega) _ rfl;rw [hadd] at g0 g1 g2;rw [Nat.zero_add];exact ⟨g0,g1,g2⟩
theorem run_copy_cells3 {P:Program} (w:World) (dT sT ty elem:TypeId) (b o dLen dCap n:Nat) (a:Addr) (sLen sCap:Nat) (cs:List Value)
  (hu:P.underlying dT=some (.slice elem)) (hs:(P.info? elem).map (·.size)=some 3) (hn:n=Nat.min sLen dLen) (hcs:cs.length=n*3)
  (hsrc:∀ j v,cs[j]?=some v→w.cell? (a.add j)=some v) (hc:∀ j,j<cs.length→(w.cell? ⟨b,o+j,none⟩).isSome=true) (hf:∀ j,j<cs.length→w.frozen? ⟨b,o+j,none⟩=false) (h1:∀ v∈cs,v.oneCell'=true) :
  (Builtin.copy_ #[dT,sT] ty #[.slice (some ⟨b,o,none⟩) dLen dCap,.slice (some a) sLen sCap]).run P w=.ok (goInt n) (w.setCells b o cs):=by
 have hl:=run_loadCells_list (P:=P) w a cs hsrc;have hst:=run_storeCells_cells (P:=P) b o cs 0 w (by simpa using hc) (by simpa using hf) h1;rw [hcs] at hl;cases hq:P.info? elem with
 | none=>simp [hq] at hs
 | some i =>
  have hi:i.size=3:=by simpa [hq] using hs
  simp [Builtin.copy_,run_underlying hu,Builtin.lenOf,Builtin.firstCells,sizeOf,typeInfo,hq,hi,← hn,hl,hst]
theorem run_copy_none3 {P:Program} (w:World) (dT sT ty elem:TypeId) (d a:Option Addr) (dLen dCap sLen sCap:Nat) (hu:P.underlying dT=some (.slice elem)) (hs:(P.info? elem).map (·.size)=some 3) (hn:Nat.min sLen dLen=0) :
  (Builtin.copy_ #[dT,sT] ty #[.slice d dLen dCap,.slice a sLen sCap]).run P w=.ok (goInt 0) w:=by
 cases hq:P.info? elem with
 | none=>simp [hq] at hs
 | some i =>
  have hl:∀ (x:Addr),(loadCells x 0).run P w=.ok #[] w:=fun x=>by simpa using run_loadCells_list (P:=P) w x [] (by simp)
  cases d <;> cases a <;> simp [Builtin.copy_,run_underlying hu,Builtin.lenOf,Builtin.firstCells,sizeOf,typeInfo,hq,hn,storeCells,hl]
def WdsPost (ws:List Word) (w:World) (e:Ending) (w':World):Prop:=∃ g,e=.returned (.slice (some ⟨g,0,none⟩) ws.length ws.length)∧w'.ownsRow w.heap.size 61 3 (.slice (some ⟨g,0,none⟩) ws.length ws.length) ws.length (wcells ws)∧Below w.heap.size w w'
def TnsPost (ts:List Turn) (w:World) (e:Ending) (w':World):Prop:=∃ g,e=.returned (.slice (some ⟨g,0,none⟩) ts.length ts.length)∧w'.ownsRow w.heap.size 63 3 (.slice (some ⟨g,0,none⟩) ts.length ts.length) ts.length (tcells ts)∧Below w.heap.size w w'
set_option maxHeartbeats 1000000 in
set_option maxRecDepth 100000 in
theorem Copy_words (ws:List Word) (hll:ws.length≤1000000) (p:Option Addr) (c:Nat) (w:World) (hW:Wds w p ws) :
  Calls Tryz.prog 39 #[.slice p ws.length c] w (WdsPost ws w):=by
 obtain ⟨i0,hi0,hz0,hz1,hz2⟩:=info_parts A_infoWd;have hmk:=run_make (P:=Tryz.prog) w 22 61 i0 (.agg #[.int .i64 0,.int .i64 0,.bool false]) A_undWs hi0 hz0 .i64 .i64 ws.length ws.length (by omega) (by omega) (by rw [hz2];omega) (by omega);rw [hz1,Int.toNat_natCast] at hmk;obtain ⟨mc,hmc⟩:∃ mc,mc=madeCells (Value.agg #[.int .i64 0,.int .i64 0,.bool false]).cells (ws.length*3):=⟨_,rfl⟩;have hms:mc.size=ws.length*3:=by rw [hmc,size_madeCells]
 rw [← hmc] at hmk;clear hmc;have hx:=heap_last w (.cells mc 61);have hB1:=below1 w (.cells mc 61);generalize w.alloc (.cells mc 61)=W1 at hmk hx hB1;have hcp:∃ W2,(Builtin.copy_ #[22,22] 3 #[.slice (some ⟨w.heap.size,0,none⟩) ws.length ws.length,.slice p ws.length c]).run Tryz.prog W1=.ok (goInt ws.length) W2∧W2.ownsRow w.heap.size 61 3 (.slice (some ⟨w.heap.size,0,none⟩) ws.length ws.length) ws.length (wcells ws)∧Below w.heap.size w W2:=by
  rcases hW with rfl | ⟨b,o,rfl,hb,hcs⟩
  ·refine ⟨_,run_copy_none3 _ _ _ _ 61 _ _ _ _ _ _ A_undWs siz_Word (by simp),?_,hB1⟩;exact ⟨rfl,.inr ⟨_,0,mc,rfl,Nat.le_refl _,hx,Nat.le_refl _,by unfold maxLen;omega,by rw [hms];rfl,by simp [wcells]⟩⟩
  ·refine ⟨_,run_copy_cells3 _ _ _ _ 61 _ _ _ _ ws.length _ _ _ (wcells ws) A_undWs siz_Word (Nat.min_self _).symm (wcells_len ws) ?_ ?_ ?_ wcells_one,?_,?_⟩
   ·intro j v hv;have:=wds_src hcs j v hv;have hadd:(⟨b,o,none⟩:Addr).add j=⟨b,o+j,none⟩:=by unfold Addr.add;split <;> simp_all
    rw [hadd] at this ⊢;rw [hB1.cell (p:=⟨b,o+j,none⟩) hb];exact this
   ·intro j hj;rw [wcells_len] at hj;have:(mc[0+j]?).isSome=true:=by rw [Array.getElem?_eq_getElem (by omega)];rfl
    simpa [World.cell?,hx] using this
   ·intro j hj;simp [World.frozen?,hx]
   ·have:=heap_setCells w.heap.size (wcells ws) 0 _ _ _ _ hx;rw [setFrom_all _ _ (by rw [hms,wcells_len])] at this;exact ⟨by rw [wcells_len],.inr ⟨_,ws.length,_,rfl,Nat.le_refl _,this,Nat.le_refl _,by unfold maxLen;omega,by simp [wcells_len],by simp [wcells_len,List.take_of_length_le]⟩⟩
   ·exact below_setCells' (Nat.le_refl _) _ _ _ hB1
 obtain ⟨W2,hcp,hown,hB2⟩:=hcp;have HO:=Lib.hid hown;have HB:=Lib.hid hB2;clear hown hB2 hx hB1 hW
 go_enter Tryz.func39,Tryz.ntmps39
 go_wp2;go_ret;exact ⟨_,rfl,HO.out,HB.out⟩
set_option maxHeartbeats 1000000 in
set_option maxRecDepth 100000 in
theorem Copy_turns (ws:List Turn) (hll:ws.length≤1000000) (p:Option Addr) (c:Nat) (w:World) (hW:Tns w p ws) :
  Calls Tryz.prog 40 #[.slice p ws.length c] w (TnsPost ws w):=by
 obtain ⟨i0,hi0,hz0,hz1,hz2⟩:=info_parts A_infoTn;have hmk:=run_make (P:=Tryz.prog) w 23 63 i0 (.agg #[.int .i64 0,.int .i64 0,.int .i64 0]) A_undTs hi0 hz0 .i64 .i64 ws.length ws.length (by omega) (by omega) (by rw [hz2];omega) (by omega);rw [hz1,Int.toNat_natCast] at hmk;obtain ⟨mc,hmc⟩:∃ mc,mc=madeCells (Value.agg #[.int .i64 0,.int .i64 0,.int .i64 0]).cells (ws.length*3):=⟨_,rfl⟩;have hms:mc.size=ws.length*3:=by rw [hmc,size_madeCells]
 rw [← hmc] at hmk;clear hmc;have hx:=heap_last w (.cells mc 63);have hB1:=below1 w (.cells mc 63);generalize w.alloc (.cells mc 63)=W1 at hmk hx hB1;have hcp:∃ W2,(Builtin.copy_ #[23,23] 3 #[.slice (some ⟨w.heap.size,0,none⟩) ws.length ws.length,.slice p ws.length c]).run Tryz.prog W1=.ok (goInt ws.length) W2∧W2.ownsRow w.heap.size 63 3 (.slice (some ⟨w.heap.size,0,none⟩) ws.length ws.length) ws.length (tcells ws)∧Below w.heap.size w W2:=by
  rcases hW with rfl | ⟨b,o,rfl,hb,hcs⟩
  ·refine ⟨_,run_copy_none3 _ _ _ _ 63 _ _ _ _ _ _ A_undTs siz_Turn (by simp),?_,hB1⟩;exact ⟨rfl,.inr ⟨_,0,mc,rfl,Nat.le_refl _,hx,Nat.le_refl _,by unfold maxLen;omega,by rw [hms];rfl,by simp [tcells]⟩⟩
  ·refine ⟨_,run_copy_cells3 _ _ _ _ 63 _ _ _ _ ws.length _ _ _ (tcells ws) A_undTs siz_Turn (Nat.min_self _).symm (tcells_len ws) ?_ ?_ ?_ tcells_one,?_,?_⟩
   ·intro j v hv;have:=tns_src hcs j v hv;have hadd:(⟨b,o,none⟩:Addr).add j=⟨b,o+j,none⟩:=by unfold Addr.add;split <;> simp_all
    rw [hadd] at this ⊢;rw [hB1.cell (p:=⟨b,o+j,none⟩) hb];exact this
   ·intro j hj;rw [tcells_len] at hj;have:(mc[0+j]?).isSome=true:=by rw [Array.getElem?_eq_getElem (by omega)];rfl
    simpa [World.cell?,hx] using this
   ·intro j hj;simp [World.frozen?,hx]
   ·have:=heap_setCells w.heap.size (tcells ws) 0 _ _ _ _ hx;rw [setFrom_all _ _ (by rw [hms,tcells_len])] at this;exact ⟨by rw [tcells_len],.inr ⟨_,ws.length,_,rfl,Nat.le_refl _,this,Nat.le_refl _,by unfold maxLen;omega,by simp [tcells_len],by simp [tcells_len,List.take_of_length_le]⟩⟩
   ·exact below_setCells' (Nat.le_refl _) _ _ _ hB1
 obtain ⟨W2,hcp,hown,hB2⟩:=hcp;have HO:=Lib.hid hown;have HB:=Lib.hid hB2;clear hown hB2 hx hB1 hW
 go_enter Tryz.func40,Tryz.ntmps40
 go_wp2;go_ret;exact ⟨_,rfl,HO.out,HB.out⟩
end Go.Proofs.YtadnggecnjdhiaaGreat
namespace Go.Proofs.YtadnggecnjdhiaaGreat
open Go.RowKit Tx
attribute [local go_sem] Oper.semAt_some
theorem Equal_ints (p q:Option Addr) (c d:Nat) (xs ys:List Int) (w:World) (hx9:xs.length≤1000000) (hy9:ys.length≤1000000) (hx:Ints w p xs) (hy:Ints w q ys) :
  Calls Tryz.prog 51 #[.slice p xs.length c,.slice q ys.length d] w fun e w'=>e=.returned (.bool (decide (xs=ys)))∧Below w.heap.size w w':=by
 by_cases hl:xs.length=ys.length
 ·rcases hx with rfl | ⟨b,o,rfl,hb,hc⟩
  ·refine (Tryz.slices_Equal_int_empty p q c ys.length d w (by omega)).mono ?_;rintro e w' ⟨rfl,rfl⟩;refine ⟨?_,Below.refl _ _⟩;cases ys with
   | nil=>rfl
   | cons y ys=>simp at hl
  ·rcases hy with rfl | ⟨b2,o2,rfl,hb2,hc2⟩
   ·have:xs=[]:=by cases xs with
     | nil=>rfl
     | cons y ys=>simp at hl
    subst this;refine (Tryz.slices_Equal_int_empty _ q c _ d w (by simp)).mono ?_;rintro e w' ⟨rfl,rfl⟩;exact ⟨rfl,Below.refl _ _⟩
   ·refine (Tryz.slices_Equal_int b o xs.length c b2 o2 ys.length d xs ys w (Nat.le_refl _) (Nat.le_refl _) (by omega) (by omega) hc hc2).mono ?_;rintro e w' ⟨rfl,n,rfl⟩;refine ⟨?_,below_drewN' (Below.refl _ _) n⟩;rw [List.take_length,List.take_length];by_cases h:xs=ys
    ·subst h;simp
    ·simp [h]
 ·refine (Tryz.slices_Equal_int_lens p q xs.length c ys.length d w hl).mono ?_;rintro e w' ⟨rfl,rfl⟩;refine ⟨?_,Below.refl _ _⟩;rw [decide_eq_false (fun h=>hl (by rw [h]))]
set_option maxHeartbeats 1000000 in
theorem Like_ints (p q:Option Addr) (c d:Nat) (xs ys:List Int) (bq:Bool) (hq:decide (xs=ys)=bq) (w:World) (hx9:xs.length≤1000000) (hy9:ys.length≤1000000) (hx:Ints w p xs) (hy:Ints w q ys) :
  Calls Tryz.prog 20 #[.slice p xs.length c,.slice q ys.length d] w fun e w'=>e=.returned (.bool bq)∧Below w.heap.size w w':=by
 have HE:=Lib.hid (Equal_ints p q c d xs ys w hx9 hy9 hx hy);rw [hq] at HE;clear hq hx hy
 go_enter Tryz.func20,Tryz.ntmps20
 go_wp2_with fail
 refine HE.out.mono ?_;rintro e w1 ⟨rfl,hB⟩;have HB:=Lib.hid hB;clear hB;go_wp2;go_ret;exact ⟨rfl,HB.out⟩
theorem word_any (x:Int) (b:Bool) (w:World) :
  Calls Tryz.prog 32 #[.int .i64 x,.bool b] w fun e w'=>e=.returned (.agg #[.int .i64 1,.int .i64 x,.bool b])∧Below w.heap.size w w':=by
 go_enter Tryz.func32,Tryz.ntmps32
 go_wp2;have hx:=heap_last w (.cells #[.int .i64 1,.int .i64 x,.bool b] 61);have c0:=blk_cells hx 0 _ rfl;have c1:=blk_cells hx 1 _ rfl;have c2:=blk_cells hx 2 _ rfl;exact bodyPost_ret (v:=.agg #[.int .i64 1,.int .i64 x,.bool b]) (by simp [results,Tryz.results32,go_sem,c0,c1,c2]) rfl ⟨rfl,below1 _ _⟩
def gateT (last:Int):Text:={ words:=[⟨1,0,false⟩,⟨1,4,true⟩,⟨1,0,false⟩,⟨1,3,true⟩,⟨1,3,false⟩,⟨1,3,true⟩,⟨1,0,false⟩,⟨1,2,true⟩],turns:=[⟨3,4,last⟩],breath:=5 }
theorem wds_gate (o:World) (g:Nat) (hx:o.heap[g]?=some (.cells #[.int .i64 1,.int .i64 0,.bool false,.int .i64 1,.int .i64 4,.bool true,.int .i64 1,.int .i64 0,.bool false,.int .i64 1,.int .i64 3,.bool true,.int .i64 1,.int .i64 3,.bool false,.int .i64 1,.int .i64 3,.bool true,.int .i64 1,.int .i64 0,.bool false,.int .i64 1,.int .i64 2,.bool true] 61 (0,0))) (last:Int):Wds o (some ⟨g,0,none⟩) (gateT last).words:=by
 refine .inr ⟨_,_,rfl,(Array.getElem?_eq_some_iff.1 hx).1,fun i hi=>?_⟩;have hi8:i<8:=hi;have:i=0∨i=1∨i=2∨i=3∨i=4∨i=5∨i=6∨i=7:=by omega
 rcases this with rfl | rfl | rfl | rfl | rfl | rfl | rfl | rfl <;> exact ⟨blk_cells hx _ _ rfl,blk_cells hx _ _ rfl,blk_cells hx _ _ rfl⟩
theorem tns_gate (o:World) (u:Nat) (last:Int) (hx:o.heap[u]?=some (.cells #[.int .i64 3,.int .i64 4,.int .i64 last] 63 (0,0))):Tns o (some ⟨u,0,none⟩) (gateT last).turns:=by
 refine .inr ⟨_,_,rfl,(Array.getElem?_eq_some_iff.1 hx).1,fun i hi=>?_⟩;have hi8:i<1:=hi;obtain rfl:i=0:=by omega
 exact ⟨blk_cells hx _ _ rfl,blk_cells hx _ _ rfl,blk_cells hx _ _ rfl⟩
set_option maxHeartbeats 1000000 in
theorem Gate_blk (last:Int) (w:World) :
  Calls Tryz.prog 22 #[.int .i64 last] w fun e w'=>∃ g u:Nat,e=.returned (.agg #[.slice (some ⟨g,0,none⟩) 8 8,.slice (some ⟨u,0,none⟩) 1 1,.int .i64 5])∧w.heap.size≤g∧g<u∧w'.heap[g]?=some (.cells #[.int .i64 1,.int .i64 0,.bool false,.int .i64 1,.int .i64 4,.bool true,.int .i64 1,.int .i64 0,.bool false,.int .i64 1,.int .i64 3,.bool true,.int .i64 1,.int .i64 3,.bool false,.int .i64 1,.int .i64 3,.bool true,.int .i64 1,.int .i64 0,.bool false,.int .i64 1,.int .i64 2,.bool true] 61 (0,0))∧w'.heap[u]?=some (.cells #[.int .i64 3,.int .i64 4,.int .i64 last] 63 (0,0))∧Below w.heap.size w w':=by
 have HWD:=Lib.hid (fun (x:Int) (b:Bool) (W:World) (h:Below (w.heap.size+1) (w.alloc (.cells #[.slice none 0 0,.slice none 0 0,.int .i64 0] 25)) W)=>(word_any x b W).mono (R':=fun e w'=>e=.returned (.agg #[.int .i64 1,.int .i64 x,.bool b])∧Below (w.heap.size+1) (w.alloc (.cells #[.slice none 0 0,.slice none 0 0,.int .i64 0] 25)) w') (fun e w' he=>⟨he.1,h.trans (he.2.mono (by have:=h.size;simp at this;omega))⟩));have HB:=Lib.hid (Below.refl (w.heap.size+1) (w.alloc (.cells #[.slice none 0 0,.slice none 0 0,.int .i64 0] 25)));have hw0:=heap_last w (.cells #[.slice none 0 0,.slice none 0 0,.int .i64 0] 25);have HW0:=Lib.hid hw0;clear hw0
 go_enter Tryz.func22,Tryz.ntmps22
 go_wp2_with fail
 refine (HWD.out _ _ _ HB.out).mono ?_;clear HB;rintro e wx ⟨rfl,hBx⟩;have HB:=Lib.hid hBx;clear hBx;go_wp2_with fail
 refine (HWD.out _ _ _ HB.out).mono ?_;clear HB;rintro e wx ⟨rfl,hBx⟩;have HB:=Lib.hid hBx;clear hBx;go_wp2_with fail
 refine (HWD.out _ _ _ HB.out).mono ?_;clear HB;rintro e wx ⟨rfl,hBx⟩;have HB:=Lib.hid hBx;clear hBx;go_wp2_with fail
 refine (HWD.out _ _ _ HB.out).mono ?_;clear HB;rintro e wx ⟨rfl,hBx⟩;have HB:=Lib.hid hBx;clear hBx;go_wp2_with fail
 refine (HWD.out _ _ _ HB.out).mono ?_;clear HB;rintro e wx ⟨rfl,hBx⟩;have HB:=Lib.hid hBx;clear hBx;go_wp2_with fail
 refine (HWD.out _ _ _ HB.out).mono ?_;clear HB;rintro e wx ⟨rfl,hBx⟩;have HB:=Lib.hid hBx;clear hBx;go_wp2_with fail
 refine (HWD.out _ _ _ HB.out).mono ?_;clear HB;rintro e wx ⟨rfl,hBx⟩;have HB:=Lib.hid hBx;clear hBx;go_wp2_with fail
 refine (HWD.out _ _ _ HB.out).mono ?_;clear HB;rintro e wx ⟨rfl,hBx⟩;have HB:=Lib.hid hBx;clear hBx;have hx:=(HB.out.block w.heap.size (by omega)).trans HW0.out;have hlt:w.heap.size<wx.heap.size:=(Array.getElem?_eq_some_iff.1 hx).1;have k0:=blk_cells hx 0 _ rfl;have k1:=blk_cells hx 1 _ rfl;have k2:=blk_cells hx 2 _ rfl;have z:∀ i,wx.frozen? ⟨w.heap.size,i,none⟩=false:=fun i=>by simp [World.frozen?,hx]
 have HX:=Lib.hid hx;clear hx;go_wp2;obtain ⟨W1,hW1⟩:∃ W1,W1=((wx.setCell ⟨w.heap.size,0,none⟩ (.slice (some ⟨wx.heap.size,0,none⟩) 8 8)).setCell ⟨w.heap.size,1,none⟩ (.slice (some ⟨wx.heap.size+1,0,none⟩) 1 1)).setCell ⟨w.heap.size,2,none⟩ (.int .i64 5):=⟨_,rfl⟩;rw [← hW1];have hsz:W1.heap.size=wx.heap.size:=by rw [hW1];simp
 have hx1:W1.heap[w.heap.size]?=some (.cells #[.slice (some ⟨wx.heap.size,0,none⟩) 8 8,.slice (some ⟨wx.heap.size+1,0,none⟩) 1 1,.int .i64 5] 25 (0,0)):=by
  rw [hW1];exact heap_set_same _ (heap_set_same _ (heap_set_same _ HX.out))
 have hb1:Below w.heap.size w W1:=by
  rw [hW1];exact (((join (below1 w _) (HB.out.mono (by simp))).setCell (p:=⟨w.heap.size,0,none⟩) (Nat.le_refl _) _).setCell (p:=⟨w.heap.size,1,none⟩) (Nat.le_refl _) _).setCell (p:=⟨w.heap.size,2,none⟩) (Nat.le_refl _) _
 clear hW1;have hw:((W1.alloc (.cells #[.int .i64 1,.int .i64 0,.bool false,.int .i64 1,.int .i64 4,.bool true,.int .i64 1,.int .i64 0,.bool false,.int .i64 1,.int .i64 3,.bool true,.int .i64 1,.int .i64 3,.bool false,.int .i64 1,.int .i64 3,.bool true,.int .i64 1,.int .i64 0,.bool false,.int .i64 1,.int .i64 2,.bool true] 61)).alloc (.cells #[.int .i64 3,.int .i64 4,.int .i64 last] 63)).heap[wx.heap.size]?=some (.cells #[.int .i64 1,.int .i64 0,.bool false,.int .i64 1,.int .i64 4,.bool true,.int .i64 1,.int .i64 0,.bool false,.int .i64 1,.int .i64 3,.bool true,.int .i64 1,.int .i64 3,.bool false,.int .i64 1,.int .i64 3,.bool true,.int .i64 1,.int .i64 0,.bool false,.int .i64 1,.int .i64 2,.bool true] 61 (0,0)):=by
  rw [Below.heap_alloc _ _ _ (by simp;omega),← hsz];exact heap_last W1 _
 have ht:((W1.alloc (.cells #[.int .i64 1,.int .i64 0,.bool false,.int .i64 1,.int .i64 4,.bool true,.int .i64 1,.int .i64 0,.bool false,.int .i64 1,.int .i64 3,.bool true,.int .i64 1,.int .i64 3,.bool false,.int .i64 1,.int .i64 3,.bool true,.int .i64 1,.int .i64 0,.bool false,.int .i64 1,.int .i64 2,.bool true] 61)).alloc (.cells #[.int .i64 3,.int .i64 4,.int .i64 last] 63)).heap[wx.heap.size+1]?=some (.cells #[.int .i64 3,.int .i64 4,.int .i64 last] 63 (0,0)):=by
  have:=heap_last (W1.alloc (.cells #[.int .i64 1,.int .i64 0,.bool false,.int .i64 1,.int .i64 4,.bool true,.int .i64 1,.int .i64 0,.bool false,.int .i64 1,.int .i64 3,.bool true,.int .i64 1,.int .i64 3,.bool false,.int .i64 1,.int .i64 3,.bool true,.int .i64 1,.int .i64 0,.bool false,.int .i64 1,.int .i64 2,.bool true] 61)) (.cells #[.int .i64 3,.int .i64 4,.int .i64 last] 63);rwa [World.size_alloc,hsz] at this
 generalize Obj.cells #[.int .i64 1,.int .i64 0,.bool false,.int .i64 1,.int .i64 4,.bool true,.int .i64 1,.int .i64 0,.bool false,.int .i64 1,.int .i64 3,.bool true,.int .i64 1,.int .i64 3,.bool false,.int .i64 1,.int .i64 3,.bool true,.int .i64 1,.int .i64 0,.bool false,.int .i64 1,.int .i64 2,.bool true] 61=OA at hw ht ⊢;generalize Obj.cells #[.int .i64 3,.int .i64 4,.int .i64 last] 63=OB at hw ht ⊢;have hx3:((W1.alloc OA).alloc OB).heap[w.heap.size]?=some (.cells #[.slice (some ⟨wx.heap.size,0,none⟩) 8 8,.slice (some ⟨wx.heap.size+1,0,none⟩) 1 1,.int .i64 5] 25 (0,0)):=by
  rw [Below.heap_alloc _ _ _ (by simp;omega),Below.heap_alloc _ _ _ (by omega)];exact hx1
 have c0:=blk_cells hx3 0 _ rfl;have c1:=blk_cells hx3 1 _ rfl;have c2:=blk_cells hx3 2 _ rfl;exact bodyPost_ret (v:=.agg #[.slice (some ⟨wx.heap.size,0,none⟩) 8 8,.slice (some ⟨wx.heap.size+1,0,none⟩) 1 1,.int .i64 5]) (by simp [results,Tryz.results22,go_sem,c0,c1,c2]) rfl ⟨_,_,rfl,by omega,by omega,hw,ht,(hb1.alloc (by omega) _).alloc (by simp;omega) _⟩
theorem Gate_any (last:Int) (w:World) :
  Calls Tryz.prog 22 #[.int .i64 last] w fun e w'=>∃ g u,e=.returned (.agg #[.slice (some ⟨g,0,none⟩) 8 8,.slice (some ⟨u,0,none⟩) 1 1,.int .i64 5])∧TxAt w' (gateT last) (some ⟨g,0,none⟩) (some ⟨u,0,none⟩)∧Below w.heap.size w w' :=
 (Gate_blk last w).mono fun e w' ⟨g,u,he,_,_,hw,ht,hB⟩=>⟨g,u,he,⟨wds_gate w' g hw last,tns_gate w' u last ht⟩,hB⟩
end Go.Proofs.YtadnggecnjdhiaaGreat
namespace Go.Proofs.YtadnggecnjdhiaaGreat
open Go.RowKit Tx
attribute [local go_sem] Oper.semAt_some
set_option maxHeartbeats 2000000 in
set_option maxRecDepth 100000 in
theorem Equal_words (p q:Option Addr) (c d:Nat) (xs:List Word) (w:World) (hx9:xs.length≤1000000) (hx:Wds w p xs) (hy:Wds w q xs) :
  Calls Tryz.prog 101 #[.slice p xs.length c,.slice q xs.length d] w fun e w'=>e=.returned (.bool true)∧Below w.heap.size w w':=by
 have HX:=Lib.hid hx;have HY:=Lib.hid hy;have hle:((xs.length:Int) != (xs.length:Int))=false:=by simp
 clear hx hy
 go_enter Tryz.func101,Tryz.ntmps101
 go_wp2
 go_loopg [13] xs.length (fun g i wi=>∃ k:Nat,g+k=xs.length∧i=.int .i64 k∧Below w.heap.size w wi)
 case atStart=>exact ⟨0,by omega,rfl,Below.refl _ _⟩
 case round =>
  obtain ⟨k,hk,rfl,hB⟩:=hrel;have HB:=Lib.hid hB;by_cases hlt:k<xs.length
  ·have hlt':(k:Int)<xs.length:=by omega
   obtain ⟨b,o,x,rfl,hb,hxx,c1,c2,c3⟩:=(HX.out.below hB).at hlt;obtain ⟨b2,o2,y,rfl,hb2,hyy,d1,d2,d3⟩:=(HY.out.below hB).at hlt;have hxy:y=x:=by rw [hyy,hxx]
   subst hxy;clear hxx hyy hB;obtain ⟨ya,yb,yc⟩:=y;dsimp only at c1 c2 c3 d1 d2 d3;go_wp2
   go_quiet (fail)
   go_wp2
   go_roundg (gk-1)
   case rel=>exact ⟨k+1,by omega,by simp,below_drewN' HB.out _⟩
   case measure=>omega
  ·have hkk:k=xs.length:=by omega
   subst hkk;clear hB;go_wp2;go_ret;exact ⟨rfl,HB.out⟩
set_option maxHeartbeats 2000000 in
set_option maxRecDepth 100000 in
theorem Equal_turns (p q:Option Addr) (c d:Nat) (xs:List Turn) (w:World) (hx9:xs.length≤1000000) (hx:Tns w p xs) (hy:Tns w q xs) :
  Calls Tryz.prog 102 #[.slice p xs.length c,.slice q xs.length d] w fun e w'=>e=.returned (.bool true)∧Below w.heap.size w w':=by
 have HX:=Lib.hid hx;have HY:=Lib.hid hy;have hle:((xs.length:Int) != (xs.length:Int))=false:=by simp
 clear hx hy
 go_enter Tryz.func102,Tryz.ntmps102
 go_wp2
 go_loopg [13] xs.length (fun g i wi=>∃ k:Nat,g+k=xs.length∧i=.int .i64 k∧Below w.heap.size w wi)
 case atStart=>exact ⟨0,by omega,rfl,Below.refl _ _⟩
 case round =>
  obtain ⟨k,hk,rfl,hB⟩:=hrel;have HB:=Lib.hid hB;by_cases hlt:k<xs.length
  ·have hlt':(k:Int)<xs.length:=by omega
   obtain ⟨b,o,x,rfl,hb,hxx,c1,c2,c3⟩:=(HX.out.below hB).at hlt;obtain ⟨b2,o2,y,rfl,hb2,hyy,d1,d2,d3⟩:=(HY.out.below hB).at hlt;have hxy:y=x:=by rw [hyy,hxx]
   subst hxy;clear hxx hyy hB;obtain ⟨ya,yb,yc⟩:=y;dsimp only at c1 c2 c3 d1 d2 d3;go_wp2
   go_quiet (fail)
   go_wp2
   go_roundg (gk-1)
   case rel=>exact ⟨k+1,by omega,by simp,below_drewN' HB.out _⟩
   case measure=>omega
  ·have hkk:k=xs.length:=by omega
   subst hkk;clear hB;go_wp2;go_ret;exact ⟨rfl,HB.out⟩
set_option maxHeartbeats 1000000 in
theorem Like_words (p q:Option Addr) (c d:Nat) (xs:List Word) (w:World) (hx9:xs.length≤1000000) (hx:Wds w p xs) (hy:Wds w q xs) :
  Calls Tryz.prog 52 #[.slice p xs.length c,.slice q xs.length d] w fun e w'=>e=.returned (.bool true)∧Below w.heap.size w w':=by
 have HE:=Lib.hid (Equal_words p q c d xs w hx9 hx hy);clear hx hy
 go_enter Tryz.func52,Tryz.ntmps52
 go_wp2_with fail
 refine HE.out.mono ?_;rintro e w1 ⟨rfl,hB⟩;have HB:=Lib.hid hB;clear hB;go_wp2;go_ret;exact ⟨rfl,HB.out⟩
set_option maxHeartbeats 1000000 in
theorem Like_turns (p q:Option Addr) (c d:Nat) (xs:List Turn) (w:World) (hx9:xs.length≤1000000) (hx:Tns w p xs) (hy:Tns w q xs) :
  Calls Tryz.prog 53 #[.slice p xs.length c,.slice q xs.length d] w fun e w'=>e=.returned (.bool true)∧Below w.heap.size w w':=by
 have HE:=Lib.hid (Equal_turns p q c d xs w hx9 hx hy);clear hx hy
 go_enter Tryz.func53,Tryz.ntmps53
 go_wp2_with fail
 refine HE.out.mono ?_;rintro e w1 ⟨rfl,hB⟩;have HB:=Lib.hid hB;clear hB;go_wp2;go_ret;exact ⟨rfl,HB.out⟩
set_option maxHeartbeats 2000000 in
set_option maxRecDepth 100000 in
theorem same_yes (t:Text) (hl1:t.words.length≤1000000) (hl2:t.turns.length≤1000000) (pw pt qw qt:Option Addr) (cw ct dw dt:Nat) (w:World) (h1:TxAt w t pw pt) (h2:TxAt w t qw qt) :
  Calls Tryz.prog 21 #[.agg #[.slice pw t.words.length cw,.slice pt t.turns.length ct,.int .i64 t.breath],.agg #[.slice qw t.words.length dw,.slice qt t.turns.length dt,.int .i64 t.breath]] w fun e w'=>e=.returned (.bool true)∧Below w.heap.size w w':=by
 have H1:=Lib.hid h1;have H2:=Lib.hid h2;have HB1:=below1 w (.cells #[.slice pw t.words.length cw,.slice pt t.turns.length ct,.int .i64 t.breath] 25);have HBx:=Lib.hid (join HB1 (below1 _ (.cells #[.slice qw t.words.length dw,.slice qt t.turns.length dt,.int .i64 t.breath] 25)));have hx0:=(below1 (w.alloc (.cells #[.slice pw t.words.length cw,.slice pt t.turns.length ct,.int .i64 t.breath] 25)) (.cells #[.slice qw t.words.length dw,.slice qt t.turns.length dt,.int .i64 t.breath] 25)).block w.heap.size (by simp);have HX0:=Lib.hid (hx0.trans (heap_last w _));have hx1:=heap_last (w.alloc (.cells #[.slice pw t.words.length cw,.slice pt t.turns.length ct,.int .i64 t.breath] 25)) (.cells #[.slice qw t.words.length dw,.slice qt t.turns.length dt,.int .i64 t.breath] 25);have HX1:Hid (((w.alloc (.cells #[.slice pw t.words.length cw,.slice pt t.turns.length ct,.int .i64 t.breath] 25)).alloc (.cells #[.slice qw t.words.length dw,.slice qt t.turns.length dt,.int .i64 t.breath] 25)).heap[w.heap.size+1]?=some (.cells #[.slice qw t.words.length dw,.slice qt t.turns.length dt,.int .i64 t.breath] 25 (0,0))):=Lib.hid (by simpa using hx1);clear h1 h2 HB1 hx0 hx1
 go_enter Tryz.func21,Tryz.ntmps21
 go_wp2_with fail
 refine (Like_words _ _ _ _ t.words _ hl1 (H1.out.words.below HBx.out) (H2.out.words.below HBx.out)).mono ?_;rintro e w1 ⟨rfl,hB⟩;generalize (w.alloc (.cells #[.slice pw t.words.length cw,.slice pt t.turns.length ct,.int .i64 t.breath] 25)).alloc (.cells #[.slice qw t.words.length dw,.slice qt t.turns.length dt,.int .i64 t.breath] 25)=W1 at HBx HX0 HX1 hB;have HX0:=Lib.hid ((hB.block w.heap.size (Array.getElem?_eq_some_iff.1 HX0.out).1).trans HX0.out);have HX1:=Lib.hid ((hB.block (w.heap.size+1) (Array.getElem?_eq_some_iff.1 HX1.out).1).trans HX1.out);have HBx:=Lib.hid (join HBx.out hB);obtain ⟨k0,k1,k2⟩:=blk3 HX0.out;obtain ⟨k3,k4,k5⟩:=blk3 HX1.out;clear hB;go_wp2_with fail
 refine (Like_turns _ _ _ _ t.turns _ hl2 (H1.out.turns.below HBx.out) (H2.out.turns.below HBx.out)).mono ?_;rintro e w2 ⟨rfl,hB⟩;have HX0:=Lib.hid ((hB.block w.heap.size (Array.getElem?_eq_some_iff.1 HX0.out).1).trans HX0.out);have HX1:=Lib.hid ((hB.block (w.heap.size+1) (Array.getElem?_eq_some_iff.1 HX1.out).1).trans HX1.out);have HBx:=Lib.hid (join HBx.out hB);clear k0 k1 k2 k3 k4 k5;obtain ⟨k0,k1,k2⟩:=blk3 HX0.out;obtain ⟨k3,k4,k5⟩:=blk3 HX1.out;clear hB;go_wp2;go_ret;exact ⟨ret_bool (by simp),HBx.out⟩
end Go.Proofs.YtadnggecnjdhiaaGreat
namespace Go.Proofs.YtadnggecnjdhiaaGreat
open Go.RowKit Tx
attribute [local go_sem] Oper.semAt_some
theorem own_setC {w:World} {base R o:Nat} {e:TypeId} {size:Nat} {v u:Value} {n:Nat} {xs:List Value} (h:w.ownsRow base e size v n xs) (hR:R<base):(w.setCell ⟨R,o,none⟩ u).ownsRow base e size v n xs:=by
 refine h.kept (grown_set w R o u) ?_;rcases h.2 with ⟨h1,_⟩ | ⟨g,cap,cur,h1,hb',_⟩
 ·exact .inl (by rw [h1];rfl)
 ·right;rw [h1];show some g≠some R;intro e;injection e;omega
def CopyPost (t:Text) (w:World) (e:Ending) (w':World):Prop:=∃ g h,e=.returned (.agg #[.slice (some ⟨g,0,none⟩) t.words.length t.words.length,.slice (some ⟨h,0,none⟩) t.turns.length t.turns.length,.int .i64 t.breath]) ∧
 w'.ownsRow w.heap.size 61 3 (.slice (some ⟨g,0,none⟩) t.words.length t.words.length) t.words.length (wcells t.words)∧w'.ownsRow w.heap.size 63 3 (.slice (some ⟨h,0,none⟩) t.turns.length t.turns.length) t.turns.length (tcells t.turns)∧Below w.heap.size w w'
def spCy (t:Text) (pw pt:Option Addr) (cw ct A B:Nat):Nat→List Value→Value→World→Prop
 | 0,_,v,_=>v=.pointer (some ⟨A,0,none⟩)
 | 1,_,v,_=>v=.slice pw t.words.length cw
 | 2,L,v,w=>∃ g,v=.slice (some ⟨g,0,none⟩) t.words.length t.words.length∧w.ownsRow B 61 3 (.slice (some ⟨g,0,none⟩) t.words.length t.words.length) t.words.length (wcells t.words)
 | 3,_,v,_=>v=.pointer (some ⟨A,1,none⟩)
 | 4,_,v,_=>v=.slice pt t.turns.length ct
 | 5,L,v,w=>∃ h,v=.slice (some ⟨h,0,none⟩) t.turns.length t.turns.length∧w.ownsRow B 63 3 (.slice (some ⟨h,0,none⟩) t.turns.length t.turns.length) t.turns.length (tcells t.turns)
 | 6,_,v,_=>v=.pointer (some ⟨A,2,none⟩)
 | 7,_,v,_=>v=.int .i64 t.breath
 | 8,L,v,w=>∃ g h,v=.agg #[.slice (some ⟨g,0,none⟩) t.words.length t.words.length,.slice (some ⟨h,0,none⟩) t.turns.length t.turns.length,.int .i64 t.breath]∧w.ownsRow B 61 3 (.slice (some ⟨g,0,none⟩) t.words.length t.words.length) t.words.length (wcells t.words)∧w.ownsRow B 63 3 (.slice (some ⟨h,0,none⟩) t.turns.length t.turns.length) t.turns.length (tcells t.turns)
 | _,_,_,_=>False
theorem spCy_stable (t:Text) (pw pt:Option Addr) (cw ct A B:Nat):∀ i L v w w',spCy t pw pt cw ct A B i L v w→Rs.Gr w w'→spCy t pw pt cw ct A B i L v w':=by
 intro i L v w w' h hg
 match i with
 | 0=>exact h
 | 1=>exact h
 | 2=>obtain ⟨g,h1,h2⟩:=h;exact ⟨g,h1,own_below h2 hg⟩
 | 3=>exact h
 | 4=>exact h
 | 5=>obtain ⟨g,h1,h2⟩:=h;exact ⟨g,h1,own_below h2 hg⟩
 | 6=>exact h
 | 7=>exact h
 | 8=>obtain ⟨g,k,h1,h2,h3⟩:=h;exact ⟨g,k,h1,own_below h2 hg,own_below h3 hg⟩
set_option maxHeartbeats 1600000 in
set_option maxRecDepth 100000 in
theorem lCopy_any (t:Text) (hl1:t.words.length≤1000000) (hl2:t.turns.length≤1000000) (pw pt:Option Addr) (cw ct:Nat) (w:World) (hW:TxAt w t pw pt) :
  Calls Tryz.prog 7 #[.agg #[.slice pw t.words.length cw,.slice pt t.turns.length ct,.int .i64 t.breath]] w (CopyPost t w):=by
 have HT:=Lib.hid hW;have HB1:=below1 w (.cells #[.slice pw t.words.length cw,.slice pt t.turns.length ct,.int .i64 t.breath] 25);have HX:=Lib.hid (((below1 (w.alloc (.cells #[.slice pw t.words.length cw,.slice pt t.turns.length ct,.int .i64 t.breath] 25)) (.cells #[.slice none 0 0,.slice none 0 0,.int .i64 0] 25)).block w.heap.size (by simp)).trans (heap_last w _));have hy:=heap_last (w.alloc (.cells #[.slice pw t.words.length cw,.slice pt t.turns.length ct,.int .i64 t.breath] 25)) (.cells #[.slice none 0 0,.slice none 0 0,.int .i64 0] 25);rw [World.size_alloc] at hy;have HY:=Lib.hid hy;have HB:=Lib.hid (join HB1 (below1 _ (.cells #[.slice none 0 0,.slice none 0 0,.int .i64 0] 25)));have hz1:((w.alloc (.cells #[.slice pw t.words.length cw,.slice pt t.turns.length ct,.int .i64 t.breath] 25)).alloc (.cells #[.slice none 0 0,.slice none 0 0,.int .i64 0] 25)).heap.size=w.heap.size+2:=by simp
 clear hW hy HB1
 go_enter Tryz.func7,Tryz.ntmps7
 go_wp2_with fail
 generalize (w.alloc (.cells #[.slice pw t.words.length cw,.slice pt t.turns.length ct,.int .i64 t.breath] 25)).alloc (.cells #[.slice none 0 0,.slice none 0 0,.int .i64 0] 25)=W1 at HB HX HY hz1 ⊢;have HZ0:w.heap.size<W1.heap.size:=by omega
 refine Rs.region_gen 9 [[],[0],[0,1],[],[3],[0,1,2,3,4],[],[6],[0,1,2,3,4,5,6,7]] [some 3,some 4,some 5,some 6,some 7,some 8,some 9,some 10,some 11] (spCy t pw pt cw ct w.heap.size W1.heap.size) (by kernel_rfl) (by kernel_rfl) rfl (spCy_stable _ _ _ _ _ _ _) ?_ ?_
 ·refine ⟨fun V w' hG hs=>?_,fun V w' hG hs=>?_,fun V w' hG hs=>?_,fun V w' hG hs=>?_,fun V w' hG hs=>?_,fun V w' hG hs=>?_,fun V w' hG hs=>?_,fun V w' hG hs=>?_,fun V w' hG hs=>?_,trivial⟩
  all_goals
   obtain ⟨k0,k1,k2⟩:=blk3 ((hG.block w.heap.size HZ0).trans HX.out)
  ·rw [if_pos (by rfl)];exact Rs.GrowL.value (v:=.pointer (some ⟨w.heap.size,0,none⟩)) (w':=w') (by simp [go_sem,Rs.look]) (Rs.Gr.refl _) rfl
  ·have e0:V 0=_:=hs 0 (by simp);rw [if_pos (by rfl)];exact Rs.GrowL.value (v:=.slice pw t.words.length cw) (w':=w') (by simp [go_sem,Rs.look,e0,k0]) (Rs.Gr.refl _) rfl
  ·have e0:V 0=_:=hs 0 (by simp);have e1:V 1=_:=hs 1 (by simp);rw [if_pos (by rfl)];refine Rs.GrowL.call (f:=39) (args:=#[.slice pw t.words.length cw]) (by simp [go_sem,Rs.look,e1]) ?_;refine (Copy_words t.words hl1 pw cw w' (HT.out.words.below (join HB.out hG))).mono ?_;rintro e w2 ⟨g,rfl,ho,hB2⟩;exact ⟨_,rfl,hB2,g,rfl,own_base ho hG.size⟩
  ·rw [if_pos (by rfl)];exact Rs.GrowL.value (v:=.pointer (some ⟨w.heap.size,1,none⟩)) (w':=w') (by simp [go_sem,Rs.look]) (Rs.Gr.refl _) rfl
  ·have e3:V 3=_:=hs 3 (by simp);rw [if_pos (by rfl)];exact Rs.GrowL.value (v:=.slice pt t.turns.length ct) (w':=w') (by simp [go_sem,Rs.look,e3,k1]) (Rs.Gr.refl _) rfl
  ·have e0:V 0=_:=hs 0 (by simp);have e1:V 1=_:=hs 1 (by simp);have r2:=hs 2 (by simp);have e3:V 3=_:=hs 3 (by simp);have e4:V 4=_:=hs 4 (by simp);rw [if_pos (by rfl)];refine Rs.GrowL.call (f:=40) (args:=#[.slice pt t.turns.length ct]) (by simp [go_sem,Rs.look,e4]) ?_;refine (Copy_turns t.turns hl2 pt ct w' (HT.out.turns.below (join HB.out hG))).mono ?_;rintro e w2 ⟨g,rfl,ho,hB2⟩;exact ⟨_,rfl,hB2,g,rfl,own_base ho hG.size⟩
  ·rw [if_pos (by rfl)];exact Rs.GrowL.value (v:=.pointer (some ⟨w.heap.size,2,none⟩)) (w':=w') (by simp [go_sem,Rs.look]) (Rs.Gr.refl _) rfl
  ·have e6:V 6=_:=hs 6 (by simp);rw [if_pos (by rfl)];exact Rs.GrowL.value (v:=.int .i64 t.breath) (w':=w') (by simp [go_sem,Rs.look,e6,k2]) (Rs.Gr.refl _) rfl
  ·have e0:V 0=_:=hs 0 (by simp);have e1:V 1=_:=hs 1 (by simp);have r2:=hs 2 (by simp);have e3:V 3=_:=hs 3 (by simp);have e4:V 4=_:=hs 4 (by simp);have r5:=hs 5 (by simp);have e6:V 6=_:=hs 6 (by simp);have e7:V 7=_:=hs 7 (by simp);rw [if_pos (by rfl)];obtain ⟨g,e2,o2⟩:=r2;obtain ⟨h,e5,o5⟩:=r5;exact Rs.GrowL.value (v:=.agg #[.slice (some ⟨g,0,none⟩) t.words.length t.words.length,.slice (some ⟨h,0,none⟩) t.turns.length t.turns.length,.int .i64 t.breath]) (w':=w') (by simp [go_sem,Rs.look,e2,e5,e7]) (Rs.Gr.refl _) ⟨g,h,rfl,o2,o5⟩
 ·intro V w' hG hs;have e0:V 0=_:=hs 0 (by omega);have e1:V 1=_:=hs 1 (by omega);have r2:=hs 2 (by omega);have e3:V 3=_:=hs 3 (by omega);have e4:V 4=_:=hs 4 (by omega);have r5:=hs 5 (by omega);have e6:V 6=_:=hs 6 (by omega);have e7:V 7=_:=hs 7 (by omega);have r8:=hs 8 (by omega);obtain ⟨g,h,e8,o1,o2⟩:=r8;simp only [Rs.canon,Rs.dstOf,List.range_succ,List.range_zero,List.nil_append,List.cons_append,List.foldl_cons,List.foldl_nil,List.drop_succ_cons,List.drop_zero,List.drop_nil,List.getElem?_toArray,List.getElem?_cons_succ,List.getElem?_cons_zero,Option.bind_some,Act.put,List.getD_cons_succ,List.getD_cons_zero,List.setIfInBounds_toArray,List.set_cons_succ,List.set_cons_zero];rw [e0,e1,e3,e4,e6,e7,e8];clear e0 e1 e3 e4 e6 e7 e8 r2 r5 hs;have hy2:=(hG.block (w.heap.size+1) (by omega)).trans HY.out;obtain ⟨k0,k1,k2⟩:=blk3 hy2;have z:∀ i,w'.frozen? ⟨w.heap.size+1,i,none⟩=false:=fun i=>by simp [World.frozen?,hy2]
  have hz2:=hG.size;have hq1:w.heap.size+1<w'.heap.size:=by omega
  have HY2:=Lib.hid hy2;have HB2:=Lib.hid (join HB.out hG);have O1:=Lib.hid o1;have O2:=Lib.hid o2;clear hy2 o1 o2 hG hz2;go_wp2;obtain ⟨W3,hW3⟩:∃ W3,W3=((w'.setCell ⟨w.heap.size+1,0,none⟩ (.slice (some ⟨g,0,none⟩) t.words.length t.words.length)).setCell ⟨w.heap.size+1,1,none⟩ (.slice (some ⟨h,0,none⟩) t.turns.length t.turns.length)).setCell ⟨w.heap.size+1,2,none⟩ (.int .i64 t.breath):=⟨_,rfl⟩;rw [← hW3];have hx1:W3.heap[w.heap.size+1]?=some (.cells #[.slice (some ⟨g,0,none⟩) t.words.length t.words.length,.slice (some ⟨h,0,none⟩) t.turns.length t.turns.length,.int .i64 t.breath] 25 (0,0)):=by
   rw [hW3];exact heap_set_same _ (heap_set_same _ (heap_set_same _ HY2.out))
  have c0:=blk_cells hx1 0 _ rfl;have c1:=blk_cells hx1 1 _ rfl;have c2:=blk_cells hx1 2 _ rfl;refine bodyPost_ret (v:=.agg #[.slice (some ⟨g,0,none⟩) t.words.length t.words.length,.slice (some ⟨h,0,none⟩) t.turns.length t.turns.length,.int .i64 t.breath]) (by simp [results,Tryz.results7,go_sem,c0,c1,c2]) rfl ⟨g,h,rfl,?_,?_,?_⟩
  ·rw [hW3];exact own_base (own_setC (own_setC (own_setC O1.out (by omega)) (by omega)) (by omega)) (by omega)
  ·rw [hW3];exact own_base (own_setC (own_setC (own_setC O2.out (by omega)) (by omega)) (by omega)) (by omega)
  ·rw [hW3];exact belS (belS (belS HB2.out (by omega)) (by omega)) (by omega)
end Go.Proofs.YtadnggecnjdhiaaGreat
namespace Go.Proofs.YtadnggecnjdhiaaGreat
open Go.RowKit Tx
attribute [local go_sem] Oper.semAt_some
theorem A_infoRW:(Tryz.prog.info? 80).map (fun i=>(i.zero,i.size,i.bytes))=some (some (.agg #[.int .i64 0,.int .i64 0,.bool false]),3,24):=by kernel_rfl
theorem A_infoRT:(Tryz.prog.info? 81).map (fun i=>(i.zero,i.size,i.bytes))=some (some (.agg #[.int .i64 0,.int .i64 0,.int .i64 0]),3,24):=by kernel_rfl
theorem A_undRW:Tryz.prog.underlying 29=some (.slice 80):=by kernel_rfl
theorem A_undRT:Tryz.prog.underlying 30=some (.slice 81):=by kernel_rfl
theorem own_other {w w':World} {base base2:Nat} {e e2:TypeId} {size size2:Nat} {v v2:Value} {n n2:Nat} {xs xs2:List Value} (h:w.ownsRow base e size v n xs) (h2:w.ownsRow base2 e2 size2 v2 n2 xs2) (he:e≠e2) (hg:w.grownBy w' v2.ownBlock):w'.ownsRow base e size v n xs:=by
 refine h.kept hg ?_;rcases h.2 with ⟨h1,_⟩ | ⟨g,cap,cur,h1,hb,hgx,_⟩
 ·exact .inl (by rw [h1];rfl)
 ·right;rw [h1];rcases h2.2 with ⟨h3,_⟩ | ⟨g2,cap2,cur2,h3,hb2,hg2,_⟩
  ·rw [h3];show some g≠none;simp
  ·rw [h3];show some g≠some g2;intro e;injection e with e;subst e;rw [hgx] at hg2;injection hg2 with h;injection h with _ h;exact he h
theorem own_val {w:World} {base:Nat} {e:TypeId} {size:Nat} {v:Value} {n:Nat} {xs:List Value} (h:w.ownsRow base e size v n xs):∃ p c,v=.slice p n c:=by
 rcases h.2 with ⟨rfl,hn⟩ | ⟨g,cap,cur,rfl,_⟩
 ·exact ⟨none,0,by rw [hn]⟩
 ·exact ⟨_,cap,rfl⟩
theorem cell3_new (w:World) (a b c:Value) (T:TypeId):∀ (j:Nat) (u:Value),[a,b,c][j]?=some u→(w.alloc (.cells #[a,b,c] T)).cell? ((⟨w.heap.size,0,none⟩:Addr).add j)=some u:=by
 intro j u hj;have hadd:(⟨w.heap.size,0,none⟩:Addr).add j=⟨w.heap.size,j,none⟩:=by unfold Addr.add;split <;> simp_all
 rw [hadd];exact blk_cells (heap_last w _) j u (by simpa using hj)
theorem blk_grown {w w':World} {R:Nat} {o:Obj} {base:Nat} {e:TypeId} {size:Nat} {v:Value} {n:Nat} {xs:List Value} (h:w.heap[R]?=some o) (hown:w.ownsRow base e size v n xs) (hg:w.grownBy w' v.ownBlock) (hR:R<base):w'.heap[R]?=some o:=by
 refine (hg.block R (Array.getElem?_eq_some_iff.1 h).1 ?_).trans h;rcases hown.2 with ⟨h1,_⟩ | ⟨g,cap,cur,h1,hb,_⟩
 ·rw [h1];show some R≠none;simp
 ·rw [h1];show some R≠some g;intro e;injection e;omega
def TheirsPost (t:Text) (w:World) (e:Ending) (w':World):Prop:=∃ p q c d,e=.returned (.agg #[.slice p t.words.length c,.slice q t.turns.length d,.int .i64 t.breath]) ∧
 w'.ownsRow w.heap.size 80 3 (.slice p t.words.length c) t.words.length (wcells t.words)∧w'.ownsRow w.heap.size 81 3 (.slice q t.turns.length d) t.turns.length (tcells t.turns)∧Below w.heap.size w w'
structure ThW (t:Text) (pw pt:Option Addr) (cw ct:Nat) (w:World) (v u:Value) (k m:Nat) (W:World):Prop where
 prm:W.heap[w.heap.size]?=some (.cells #[.slice pw t.words.length cw,.slice pt t.turns.length ct,.int .i64 t.breath] 25 (0,0))
 res:W.heap[w.heap.size+1]?=some (.cells #[.slice none 0 0,.slice none 0 0,.int .i64 0] 32 (0,0))
 out:W.heap[w.heap.size+2]?=some (.cells #[v,u,.int .i64 t.breath] 32 (0,0))
 ow:W.ownsRow (w.heap.size+3) 80 3 v k (wcells (t.words.take k))
 ou:W.ownsRow (w.heap.size+3) 81 3 u m (tcells (t.turns.take m))
 bel:Below w.heap.size w W
 siz:w.heap.size+3≤W.heap.size
theorem ThW.alloc {t:Text} {pw pt:Option Addr} {cw ct:Nat} {w:World} {v u:Value} {k m:Nat} {W:World} (h:ThW t pw pt cw ct w v u k m W) (o:Obj):ThW t pw pt cw ct w v u k m (W.alloc o):=by
 have hb:=below1 W o;exact ⟨(hb.block _ (Array.getElem?_eq_some_iff.1 h.prm).1).trans h.prm,(hb.block _ (Array.getElem?_eq_some_iff.1 h.res).1).trans h.res,(hb.block _ (Array.getElem?_eq_some_iff.1 h.out).1).trans h.out,h.ow.alloc _,h.ou.alloc _,join h.bel hb,by have:=h.siz;simp;omega⟩
theorem ThW.wgrow {t:Text} {pw pt:Option Addr} {cw ct:Nat} {w:World} {v u v':Value} {k m:Nat} {W W':World} (h:ThW t pw pt cw ct w v u k m W) (hk:k<t.words.length) (hg:W.grownBy W' v.ownBlock) (ho:W'.ownsRow (w.heap.size+3) 80 3 v' (k+1) (wcells (t.words.take k)++wcell (t.words.getD k default))) :
  ThW t pw pt cw ct w v' u (k+1) m (W'.setCell ⟨w.heap.size+2,0,none⟩ v'):=by
 have hs:=h.siz;have b1:=blk_grown h.prm h.ow hg (by omega);have b2:=blk_grown h.res h.ow hg (by omega);have b3:=blk_grown h.out h.ow hg (by omega);have ne:∀ {R:Nat},R≠w.heap.size+2→(W'.setCell ⟨w.heap.size+2,0,none⟩ v').heap[R]?=W'.heap[R]?:=fun {R} hR=>Below.heap_setCell _ _ _ _ hR;refine ⟨(ne (by omega)).trans b1,(ne (by omega)).trans b2,?_,?_,own_setC (own_other h.ou h.ow (by decide) hg) (by omega),belS (below_grown h.bel h.ow (by omega) (by omega) hg) (by omega),by have:=hg.size;simp;omega⟩
 ·exact heap_set_same _ b3
 ·rw [take_snocD default hk,wcells_snoc];exact own_setC ho (by omega)
theorem ThW.ugrow {t:Text} {pw pt:Option Addr} {cw ct:Nat} {w:World} {v u u':Value} {k m:Nat} {W W':World} (h:ThW t pw pt cw ct w v u k m W) (hm:m<t.turns.length) (hg:W.grownBy W' u.ownBlock) (ho:W'.ownsRow (w.heap.size+3) 81 3 u' (m+1) (tcells (t.turns.take m)++tcell (t.turns.getD m default))) :
  ThW t pw pt cw ct w v u' k (m+1) (W'.setCell ⟨w.heap.size+2,1,none⟩ u'):=by
 have hs:=h.siz;have b1:=blk_grown h.prm h.ou hg (by omega);have b2:=blk_grown h.res h.ou hg (by omega);have b3:=blk_grown h.out h.ou hg (by omega);have ne:∀ {R:Nat},R≠w.heap.size+2→(W'.setCell ⟨w.heap.size+2,1,none⟩ u').heap[R]?=W'.heap[R]?:=fun {R} hR=>Below.heap_setCell _ _ _ _ hR;refine ⟨(ne (by omega)).trans b1,(ne (by omega)).trans b2,?_,own_setC (own_other h.ow h.ou (by decide) hg) (by omega),?_,belS (below_grown h.bel h.ou (by omega) (by omega) hg) (by omega),by have:=hg.size;simp;omega⟩
 ·exact heap_set_same _ b3
 ·rw [take_snocD default hm,tcells_snoc];exact own_setC ho (by omega)
set_option maxHeartbeats 4000000 in
set_option maxRecDepth 100000 in
theorem theirs_any (t:Text) (hl1:t.words.length≤1000000) (hl2:t.turns.length≤1000000) (pw pt:Option Addr) (cw ct:Nat) (w:World) (hW:TxAt w t pw pt) :
  Calls Tryz.prog 8 #[.agg #[.slice pw t.words.length cw,.slice pt t.turns.length ct,.int .i64 t.breath]] w (TheirsPost t w):=by
 obtain ⟨i0,hi0,hz0,hz1,hz2⟩:=info_parts A_infoRW;obtain ⟨j0,hj0,hy0,hy1,hy2⟩:=info_parts A_infoRT;have HT:=Lib.hid hW;have hS:ThW t pw pt cw ct w (.slice none 0 0) (.slice none 0 0) 0 0 (((w.alloc (.cells #[.slice pw t.words.length cw,.slice pt t.turns.length ct,.int .i64 t.breath] 25)).alloc (.cells #[.slice none 0 0,.slice none 0 0,.int .i64 0] 32)).alloc (.cells #[.slice none 0 0,.slice none 0 0,.int .i64 t.breath] 32)):=by
  have h1:=heap_last w (.cells #[.slice pw t.words.length cw,.slice pt t.turns.length ct,.int .i64 t.breath] 25);have b1:=below1 w (.cells #[.slice pw t.words.length cw,.slice pt t.turns.length ct,.int .i64 t.breath] 25);have hz1:(w.alloc (.cells #[.slice pw t.words.length cw,.slice pt t.turns.length ct,.int .i64 t.breath] 25)).heap.size=w.heap.size+1:=by simp
  generalize w.alloc (.cells #[.slice pw t.words.length cw,.slice pt t.turns.length ct,.int .i64 t.breath] 25)=W1 at h1 b1 hz1 ⊢;have h2:=heap_last W1 (.cells #[.slice none 0 0,.slice none 0 0,.int .i64 0] 32);have b2:=below1 W1 (.cells #[.slice none 0 0,.slice none 0 0,.int .i64 0] 32);have hz2:(W1.alloc (.cells #[.slice none 0 0,.slice none 0 0,.int .i64 0] 32)).heap.size=W1.heap.size+1:=by simp
  generalize W1.alloc (.cells #[.slice none 0 0,.slice none 0 0,.int .i64 0] 32)=W2 at h2 b2 hz2 ⊢;have h3:=heap_last W2 (.cells #[.slice none 0 0,.slice none 0 0,.int .i64 t.breath] 32);have b3:=below1 W2 (.cells #[.slice none 0 0,.slice none 0 0,.int .i64 t.breath] 32);rw [hz2,hz1] at h3;rw [hz1] at h2;exact ⟨(b3.block _ (by omega)).trans ((b2.block _ (by omega)).trans h1),(b3.block _ (by omega)).trans h2,h3,own_none _ _ _ _,own_none _ _ _ _,join (join b1 b2) b3,by simp;omega⟩
 have HS:=Lib.hid hS;clear hS hW
 go_enter Tryz.func8,Tryz.ntmps8
 go_wp2
 go_loopg [14] t.words.length (fun g i wi=>∃ (k:Nat) (v:Value),g+k=t.words.length∧i=.int .i64 k∧ThW t pw pt cw ct w v (.slice none 0 0) k 0 wi)
 case atStart=>exact ⟨0,_,by omega,rfl,HS.out⟩
 case round =>
  clear HS;obtain ⟨k,v,hk,rfl,hD⟩:=hrel;obtain ⟨k0,k1,k2⟩:=blk3 hD.out;obtain ⟨p0,p1,p2⟩:=blk3 hD.prm;have hsz:=hD.siz;by_cases hlt:k<t.words.length
  ·have hlt':(k:Int)<t.words.length:=by omega
   obtain ⟨b,o,x,rfl,hb,hxx,c1,c2,c3⟩:=(HT.out.below hD.bel).words.at hlt;have z:wr.frozen? ⟨w.heap.size+2,0,none⟩=false:=by simp [World.frozen?,hD.out]
   have HXX:=Lib.hid hxx;have HD:=Lib.hid (hD.alloc (.cells #[.int .i64 x.syl,.int .i64 x.wt,.bool x.stop] 61));have HSZ:=Lib.hid hsz;have hq2:w.heap.size+2<wr.heap.size:=by omega
   obtain ⟨xa,xb,xc⟩:=x;dsimp only at c1 c2 c3 HD;clear hD hxx hsz;go_wp2_with (at_builtin;refine wpList_append_own _ rfl _ _ 29 rfl (w.heap.size+3) 80 i0 (.agg #[.int .i64 0,.int .i64 0,.bool false]) 3 24 A_undRW hi0 hz0 hz1 hz2 rfl (by decide) _ _ _ rfl (HD.out.ow.alloc _) ⟨wr.heap.size+1,0,none⟩ 1 1 [.int .i64 xa,.int .i64 xb,.bool xc] rfl rfl ?d1 ?d2 ?d3 ?d4 ?d5 ?_)
   case d1 =>
    intro j u hj;have:=cell3_new (wr.alloc (.cells #[.int .i64 xa,.int .i64 xb,.bool xc] 61)) (.int .i64 xa) (.int .i64 xb) (.bool xc) 80 j u hj
    simpa using this
   case d2=>intro u hu;simp at hu;rcases hu with rfl | rfl | rfl <;> rfl
   case d3=>unfold maxLen;omega
   case d4=>omega
   case d5=>have:=HSZ.out;simp;omega
   intro v' w8 hown8 hgrow _;obtain ⟨vp,vc,rfl⟩:=own_val hown8;have HD8:=Lib.hid ((HD.out.alloc _).wgrow hlt hgrow (by rw [← HXX.out];exact hown8));have hz8:=hgrow.size;have b3:=blk_grown (HD.out.alloc _).out (HD.out.alloc _).ow hgrow (by omega);have z8:∀ i,w8.frozen? ⟨w.heap.size+2,i,none⟩=false:=fun i=>by simp [World.frozen?,b3]
   obtain ⟨q0,q1,q2⟩:=blk3 b3;have hq8:w.heap.size+2<w8.heap.size:=by simp at hz8;omega
   clear hgrow hown8 hz8 b3 HD;go_wp2
   go_roundg (gk-1)
   case rel=>exact ⟨k+1,_,by omega,by simp,HD8.out⟩
   case measure=>omega
  ·have hkk:k=t.words.length:=by omega
   subst hkk;have HD:=Lib.hid hD;clear hD hk hlt;go_wp2_with fail
   go_loopg [28] t.turns.length (fun g i wi=>∃ (m:Nat) (u:Value),g+m=t.turns.length∧i=.int .i64 m∧ThW t pw pt cw ct w v u t.words.length m wi)
   case atStart=>exact ⟨0,_,by omega,rfl,HD.out⟩
   case round =>
    clear HD k0 k1 k2 p0 p1 p2;obtain ⟨k,u,hk,rfl,hD⟩:=hrel;obtain ⟨k0,k1,k2⟩:=blk3 hD.out;obtain ⟨p0,p1,p2⟩:=blk3 hD.res;have hsz:=hD.siz;by_cases hlt:k<t.turns.length
    ·have hlt':(k:Int)<t.turns.length:=by omega
     obtain ⟨b,o,x,rfl,hb,hxx,c1,c2,c3⟩:=(HT.out.below hD.bel).turns.at hlt;have HXX:=Lib.hid hxx;have HD:=Lib.hid (hD.alloc (.cells #[.int .i64 x.word,.int .i64 x.lo,.int .i64 x.hi] 63));have HSZ:=Lib.hid hsz;have hq2:w.heap.size+2<wr.heap.size:=by omega
     obtain ⟨xa,xb,xc⟩:=x;dsimp only at c1 c2 c3 HD;clear hD hxx hsz;go_wp2_with (at_builtin;refine wpList_append_own _ rfl _ _ 30 rfl (w.heap.size+3) 81 j0 (.agg #[.int .i64 0,.int .i64 0,.int .i64 0]) 3 24 A_undRT hj0 hy0 hy1 hy2 rfl (by decide) _ _ _ rfl (HD.out.ou.alloc _) ⟨wr.heap.size+1,0,none⟩ 1 1 [.int .i64 xa,.int .i64 xb,.int .i64 xc] rfl rfl ?e1 ?e2 ?e3 ?e4 ?e5 ?_)
     case e1 =>
      intro j u hj;have:=cell3_new (wr.alloc (.cells #[.int .i64 xa,.int .i64 xb,.int .i64 xc] 63)) (.int .i64 xa) (.int .i64 xb) (.int .i64 xc) 81 j u hj
      simpa using this
     case e2=>intro u hu;simp at hu;rcases hu with rfl | rfl | rfl <;> rfl
     case e3=>unfold maxLen;omega
     case e4=>omega
     case e5=>have:=HSZ.out;simp;omega
     intro v' w8 hown8 hgrow _;obtain ⟨vp,vc,rfl⟩:=own_val hown8;have HD8:=Lib.hid ((HD.out.alloc _).ugrow hlt hgrow (by rw [← HXX.out];exact hown8));have hz8:=hgrow.size;have b3:=blk_grown (HD.out.alloc _).out (HD.out.alloc _).ou hgrow (by omega);have z8:∀ i,w8.frozen? ⟨w.heap.size+2,i,none⟩=false:=fun i=>by simp [World.frozen?,b3]
     obtain ⟨q0,q1,q2⟩:=blk3 b3;have hq8:w.heap.size+2<w8.heap.size:=by simp at hz8;omega
     clear hgrow hown8 hz8 b3 HD;go_wp2
     go_roundg (gk-1)
     case rel=>exact ⟨k+1,_,by omega,by simp,HD8.out⟩
     case measure=>omega
    ·have hkk:k=t.turns.length:=by omega
     subst hkk;have z8:∀ i,wr.frozen? ⟨w.heap.size+1,i,none⟩=false:=fun i=>by simp [World.frozen?,hD.res]
     have hq8:w.heap.size+1<wr.heap.size:=by omega
     have ow:=hD.ow;have ou:=hD.ou;rw [List.take_length] at ow ou;obtain ⟨p,c,rfl,HWd,-⟩:=own_wds ow rfl;obtain ⟨q,d,rfl,HTn,-⟩:=own_tns ou rfl;have HD:=Lib.hid hD;have HOW:=Lib.hid ow;have HOU:=Lib.hid ou;clear hD hk hlt ow ou HWd HTn;go_wp2;obtain ⟨W3,hW3⟩:∃ W3,W3=((wr.setCell ⟨w.heap.size+1,0,none⟩ (.slice p t.words.length c)).setCell ⟨w.heap.size+1,1,none⟩ (.slice q t.turns.length d)).setCell ⟨w.heap.size+1,2,none⟩ (.int .i64 t.breath):=⟨_,rfl⟩;rw [← hW3];have hx1:W3.heap[w.heap.size+1]?=some (.cells #[.slice p t.words.length c,.slice q t.turns.length d,.int .i64 t.breath] 32 (0,0)):=by
      rw [hW3];exact heap_set_same _ (heap_set_same _ (heap_set_same _ HD.out.res))
     have c0:=blk_cells hx1 0 _ rfl;have c1:=blk_cells hx1 1 _ rfl;have c2:=blk_cells hx1 2 _ rfl;refine bodyPost_ret (v:=.agg #[.slice p t.words.length c,.slice q t.turns.length d,.int .i64 t.breath]) (by simp [results,Tryz.results8,go_sem,c0,c1,c2]) rfl ⟨p,q,c,d,rfl,?_,?_,?_⟩
     ·rw [hW3];exact own_base (own_setC (own_setC (own_setC HOW.out (by omega)) (by omega)) (by omega)) (by omega)
     ·rw [hW3];exact own_base (own_setC (own_setC (own_setC HOU.out (by omega)) (by omega)) (by omega)) (by omega)
     ·rw [hW3];exact belS (belS (belS HD.out.bel (by omega)) (by omega)) (by omega)
end Go.Proofs.YtadnggecnjdhiaaGreat
namespace Go.Proofs.YtadnggecnjdhiaaGreat
open Go.RowKit Tx
attribute [local go_sem] Oper.semAt_some
def spFa (t:Text) (pw pt:Option Addr) (cw ct a b:Nat):Nat→List Value→Value→World→Prop
 | 0,_,v,_=>v=.agg #[.slice pw t.words.length cw,.slice pt t.turns.length ct,.int .i64 t.breath]
 | 1,_,v,_=>v=.int .i64 a
 | 2,_,v,_=>v=.int .i64 b
 | 3,L,v,w=>∃ p c,v=.slice p (wordsL a (b-a)).length c∧Ints w p (wordsL a (b-a))
 | 4,L,v,w=>∃ p c,v=.slice p (rsaid t (wordsL a (b-a))).length c
 | 5,_,v,_=>v=.int .i64 ((rsaid t (wordsL a (b-a))).length:Int)
 | 6,_,v,_=>v=.bool (decide (0<((rsaid t (wordsL a (b-a))).length:Int)))
 | _,_,_,_=>False
theorem spFa_stable (t:Text) (pw pt:Option Addr) (cw ct a b:Nat):∀ i L v w w',spFa t pw pt cw ct a b i L v w→Rs.Gr w w'→spFa t pw pt cw ct a b i L v w':=by
 intro i L v w w' h hg
 match i with
 | 0=>exact h
 | 1=>exact h
 | 2=>exact h
 | 3=>obtain ⟨p,c,h1,h2⟩:=h;exact ⟨p,c,h1,h2.below hg⟩
 | 4=>exact h
 | 5=>exact h
 | 6=>exact h
theorem stop_b (t:Text) (p:Nat) (b:Bool) (hb:rstop t p=b) (hl:t.words.length≤1000000) (hp:p≤t.words.length) (pw:Option Addr) (cw:Nat) (v1 v2:Value) (w:World) (hW:Wds w pw t.words) :
  Calls Tryz.prog 99 #[.agg #[.slice pw t.words.length cw,v1,v2],.int .i64 p] w fun e w'=>e=.returned (.bool b)∧Below w.heap.size w w':=hb ▸ stop_any t p hl hp pw cw v1 v2 w hW
set_option maxHeartbeats 4000000 in
set_option maxRecDepth 100000 in
theorem Fault_any (t:Text) (ok:Text.Ok t) (a b:Nat) (hab:a≤b) (hb:b≤t.words.length) (pw pt:Option Addr) (cw ct:Nat) (w:World) (hW:TxAt w t pw pt) :
  Calls Tryz.prog 49 #[.agg #[.slice pw t.words.length cw,.slice pt t.turns.length ct,.int .i64 t.breath],.int .i64 a,.int .i64 b] w fun e w'=>e=.returned (.int .i64 (kindI t a b))∧Below w.heap.size w w':=by
 have HK:=Lib.hid (kindI_eq t (fun u hu=>(ok.turn u hu).2.2.2.1) a b hab);have HOK:=Lib.hid ok;have hn12:=ok.n12;have hm6:=ok.m6;have HWO:Hid (∀ W,Calls Tryz.prog 98 #[.int .i64 a,.int .i64 b] W (RowPost (wordsL a (b-a)) W)):=Lib.hid (fun W=>by
  have:=words_any a b (by omega) (by omega) W;rwa [show ((b:Int)-(a:Int)).toNat=b-a by omega] at this)
 have hwl:(wordsL (a:Int) (b-a)).length≤1000000:=by rw [wordsL_length];omega
 have HSA:=Lib.hid (fun p c W (h:Below w.heap.size w W) hL=>Said_any t (by omega) (fun u hu=>by have:=ok.turn u hu;omega) (wordsL a (b-a)) hwl pt p ct c (.slice pw t.words.length cw) (.int .i64 t.breath) W (hW.turns.below h) hL);have HB:=Lib.hid (below1 w (.cells #[.slice pw t.words.length cw,.slice pt t.turns.length ct,.int .i64 t.breath] 32));have HX:=Lib.hid (heap_last w (.cells #[.slice pw t.words.length cw,.slice pt t.turns.length ct,.int .i64 t.breath] 32));have HW:=Lib.hid (hW.words);have hz1:(w.alloc (.cells #[.slice pw t.words.length cw,.slice pt t.turns.length ct,.int .i64 t.breath] 32)).heap.size=w.heap.size+1:=by simp
 generalize kindI t a b=ki at HK ⊢;clear hW ok hwl;obtain ⟨k0,k1,k2⟩:=blk3 HX.out
 go_enter Tryz.func49,Tryz.ntmps49
 go_wp2_with fail
 generalize w.alloc (.cells #[.slice pw t.words.length cw,.slice pt t.turns.length ct,.int .i64 t.breath] 32)=W1 at HB HX hz1 k0 k1 k2 ⊢;have HZ0':w.heap.size<W1.heap.size:=by omega
 go_loop [7,8] (fun n i=>∃ k:Nat,a+k≤b∧i=.int .i64 ((a+k:Nat):Int)∧n=.int .i64 (t.syl a (a+k))) (fun _ i=>b-(intOf i).toNat)
 case atStart=>exact ⟨0,by omega,by simp,by rw [syl_none]⟩
 case round =>
  obtain ⟨k,hk,rfl,rfl⟩:=hrel;by_cases hlt:a+k<b
  ·have hlt':((a+k:Nat):Int)<b:=by omega
   have hlt2:a+k<t.words.length:=by omega
   have hlt3:((a+k:Nat):Int)<t.words.length:=by omega
   obtain ⟨bb,o,x,rfl,hbl,hxx,c1,c2,c3⟩:=(HW.out.below HB.out).at hlt2;have hsn:=syl_snoc t a k hlt2;rw [← hxx] at hsn;have h1:=syl_bd HOK.out a (a+k);have h2:=syl_bd HOK.out a (a+(k+1));have HSN:=Lib.hid hsn;rw [hsn] at h2;generalize t.syl a (a+k)=sy at h1 h2 HSN;obtain ⟨xa,xb,xc⟩:=x;dsimp only at c1 c2 c3 h2 HSN;have e3:((a+k:Nat):Int)+1=((a+(k+1):Nat):Int):=by omega
   have E3:=Lib.hid e3;generalize hq:a+k=q at hlt hlt' hlt2 hlt3 c1 c2 c3 E3;clear hxx hsn e3 k0 k1 k2;obtain ⟨k0,k1,k2⟩:=blk3 HX.out;go_wp2;go_round
   case rel=>exact ⟨k+1,by omega,by rw [E3.out],by rw [HSN.out]⟩
   case measure=>simp [intOf];omega
  ·obtain rfl:b=a+k:=by omega
   have hbd:=syl_bd HOK.out a (a+k);have HWx:=Lib.hid (HW.out.below HB.out);generalize t.syl a (a+k)=sy at HK hbd;generalize hB:a+k=b at *;by_cases hlong:t.breath<sy
   ·have HF:Hid (ki=0):=Lib.hid (by rw [HK.out,if_pos hlong]);clear HK;go_wp2;go_ret;exact ⟨ret_int HF.out.symm,HB.out⟩
   have HK:=Lib.hid (HK.out.trans (if_neg hlong));cases hsa:rstop t a with
   | false =>
    have HF:Hid (ki=1):=Lib.hid (by rw [HK.out,if_pos hsa]);clear HK;go_wp2_with fail
    refine (stop_b t a _ hsa (by omega) (by omega) pw cw _ _ _ HWx.out).mono ?_;rintro e w5 ⟨rfl,hB5⟩;have HB5:=Lib.hid (join HB.out hB5);clear hB5 hsa;go_wp2;go_ret;exact ⟨ret_int HF.out.symm,HB5.out⟩
   | true =>
    have HK:=Lib.hid (HK.out.trans (if_neg (by rw [hsa];decide)));cases hsb:rstop t b with
    | false =>
     have HF:Hid (ki=1):=Lib.hid (by rw [HK.out,if_pos hsb]);have HSB:=Lib.hid hsb;clear HK;go_wp2_with fail
     refine (stop_b t a _ hsa (by omega) (by omega) pw cw _ _ _ HWx.out).mono ?_;rintro e w5 ⟨rfl,hB5⟩;have HX5:=Lib.hid ((hB5.block w.heap.size HZ0').trans HX.out);have HW5:=Lib.hid (HWx.out.below hB5);have HB5:=Lib.hid (join HB.out hB5);clear hB5 hsa hsb k0 k1 k2;obtain ⟨k0,k1,k2⟩:=blk3 HX5.out;go_wp2_with fail
     refine (stop_b t b _ HSB.out (by omega) (by omega) pw cw _ _ _ HW5.out).mono ?_;rintro e w6 ⟨rfl,hB6⟩;have HB6:=Lib.hid (join HB5.out hB6);clear hB6;go_wp2;go_ret;exact ⟨ret_int HF.out.symm,HB6.out⟩
    | true =>
     have HF:=Lib.hid (HK.out.trans (if_neg (by rw [hsb];decide)));have HSB:=Lib.hid hsb;clear HK;go_wp2_with fail
     refine (stop_b t a _ hsa (by omega) (by omega) pw cw _ _ _ HWx.out).mono ?_;rintro e w5 ⟨rfl,hB5⟩;have HX5:=Lib.hid ((hB5.block w.heap.size HZ0').trans HX.out);have HW5:=Lib.hid (HWx.out.below hB5);have HB5:=Lib.hid (join HB.out hB5);clear hB5 hsa hsb k0 k1 k2;obtain ⟨k0,k1,k2⟩:=blk3 HX5.out;go_wp2_with fail
     refine (stop_b t b _ HSB.out (by omega) (by omega) pw cw _ _ _ HW5.out).mono ?_;rintro e w6 ⟨rfl,hB6⟩;have HX:=Lib.hid ((hB6.block w.heap.size (Array.getElem?_eq_some_iff.1 HX5.out).1).trans HX5.out);have HBx:=Lib.hid (join HB5.out hB6);have HZ0:w.heap.size<w6.heap.size:=(Array.getElem?_eq_some_iff.1 HX.out).1;clear hB6 k0 k1 k2 HX5 HW5 HB5;go_wp2_with fail
     refine Rs.region_gen 7 [[],[],[],[1,2],[0,1,2,3],[0,1,2,3,4],[0,1,2,3,4,5]] [some 37,some 38,some 39,some 40,some 41,some 42,some 43] (spFa t pw pt cw ct a b) (by kernel_rfl) (by kernel_rfl) rfl (spFa_stable _ _ _ _ _ _ _) ?_ ?_
     ·refine ⟨fun V w' hG hs=>?_,fun V w' hG hs=>?_,fun V w' hG hs=>?_,fun V w' hG hs=>?_,fun V w' hG hs=>?_,fun V w' hG hs=>?_,fun V w' hG hs=>?_,trivial⟩
      all_goals
       obtain ⟨k0,k1,k2⟩:=blk3 ((hG.block w.heap.size HZ0).trans HX.out)
      ·rw [if_pos (by rfl)];exact Rs.GrowL.value (v:=.agg #[.slice pw t.words.length cw,.slice pt t.turns.length ct,.int .i64 t.breath]) (w':=w') (by simp [go_sem,Rs.look,k0,k1,k2]) (Rs.Gr.refl _) rfl
      ·rw [if_pos (by rfl)];exact Rs.GrowL.value (v:=.int .i64 a) (w':=w') (by simp [go_sem,Rs.look]) (Rs.Gr.refl _) rfl
      ·rw [if_pos (by rfl)];exact Rs.GrowL.value (v:=.int .i64 b) (w':=w') (by simp [go_sem,Rs.look]) (Rs.Gr.refl _) rfl
      ·have e1:V 1=_:=hs 1 (by simp);have e2:V 2=_:=hs 2 (by simp);rw [if_pos (by rfl)];refine Rs.GrowL.call (f:=98) (args:=#[.int .i64 a,.int .i64 b]) (by simp [go_sem,Rs.look,e1,e2]) ?_;refine (HWO.out w').mono ?_;rintro e w2 ⟨v,rfl,ho,hB2⟩;obtain ⟨p,c,rfl,hI,-⟩:=own_rd ho rfl;exact ⟨_,rfl,hB2,p,c,rfl,hI⟩
      ·have e0:V 0=_:=hs 0 (by simp);have e1:V 1=_:=hs 1 (by simp);have e2:V 2=_:=hs 2 (by simp);have r3:=hs 3 (by simp);rw [if_pos (by rfl)];obtain ⟨p,c,e3,hI⟩:=r3;refine Rs.GrowL.call (f:=100) (args:=#[.agg #[.slice pw t.words.length cw,.slice pt t.turns.length ct,.int .i64 t.breath],.slice p (wordsL a (b-a)).length c]) (by simp [go_sem,Rs.look,e0,e3]) ?_;refine (HSA.out p c w' (join HBx.out hG) hI).mono ?_;rintro e w2 ⟨v,rfl,ho,hB2⟩;obtain ⟨p,c,rfl⟩:=own_val ho;exact ⟨_,rfl,hB2,p,c,rfl⟩
      ·have e0:V 0=_:=hs 0 (by simp);have e1:V 1=_:=hs 1 (by simp);have e2:V 2=_:=hs 2 (by simp);have r3:=hs 3 (by simp);have r4:=hs 4 (by simp);rw [if_pos (by rfl)];obtain ⟨p,c,e4⟩:=r4;exact Rs.GrowL.value (v:=.int .i64 ((rsaid t (wordsL a (b-a))).length:Int)) (w':=w') (by simp [go_sem,Rs.look,e4]) (Rs.Gr.refl _) rfl
      ·have e0:V 0=_:=hs 0 (by simp);have e1:V 1=_:=hs 1 (by simp);have e2:V 2=_:=hs 2 (by simp);have r3:=hs 3 (by simp);have r4:=hs 4 (by simp);have e5:V 5=_:=hs 5 (by simp);rw [if_pos (by rfl)];exact Rs.GrowL.value (v:=.bool (decide (0<((rsaid t (wordsL a (b-a))).length:Int)))) (w':=w') (by simp [go_sem,Rs.look,e0,e1,e2,e5]) (Rs.Gr.refl _) rfl
     ·intro V w' hG hs;have e0:V 0=_:=hs 0 (by omega);have e1:V 1=_:=hs 1 (by omega);have e2:V 2=_:=hs 2 (by omega);have r3:=hs 3 (by omega);have r4:=hs 4 (by omega);have e5:V 5=_:=hs 5 (by omega);have e6:V 6=_:=hs 6 (by omega);simp only [Rs.canon,Rs.dstOf,List.range_succ,List.range_zero,List.nil_append,List.cons_append,List.foldl_cons,List.foldl_nil,List.drop_succ_cons,List.drop_zero,List.drop_nil,List.getElem?_toArray,List.getElem?_cons_succ,List.getElem?_cons_zero,Option.bind_some,Act.put,List.getD_cons_succ,List.getD_cons_zero,List.setIfInBounds_toArray,List.set_cons_succ,List.set_cons_zero];rw [e0,e1,e2,e5,e6];clear e0 e1 e2 e5 e6 hs;clear r3 r4;obtain ⟨nn,hnn⟩:∃ nn:Nat,nn=(rsaid t (wordsL a (b-a))).length:=⟨_,rfl⟩;rw [← hnn] at HF ⊢;clear hnn;by_cases hpos:0<nn
      ·have hpos':(0:Int)<nn:=by omega
       have HF2:=Lib.hid (HF.out.trans (if_pos hpos));clear HF;go_wp2;go_ret;exact ⟨ret_int HF2.out.symm,join HBx.out hG⟩
      ·have hpos':¬ (0:Int)<nn:=by omega
       have HF2:=Lib.hid (HF.out.trans (if_neg hpos));clear HF;go_wp2;go_ret;exact ⟨ret_int HF2.out.symm,join HBx.out hG⟩
end Go.Proofs.YtadnggecnjdhiaaGreat
namespace Go.Proofs.YtadnggecnjdhiaaGreat
open Go.RowKit Tx
attribute [local go_sem] Oper.semAt_some
set_option maxHeartbeats 1600000 in
theorem openReading_bad1 (t:Text) (l:List Int) (he:t.err≠0) (hl1:t.words.length≤1000000) (hl2:t.turns.length≤1000000) (pw pt pl:Option Addr) (cw ct cl:Nat) (w:World) (hW:TxAt w t pw pt) :
  Calls Tryz.prog 84 #[.agg #[.slice pw t.words.length cw,.slice pt t.turns.length ct,.int .i64 t.breath],.slice pl l.length cl] w fun e w' =>
   e=.returned (.tuple #[.agg #[.slice none 0 0,.slice none 0 0,.int .i64 0,.nilFunc],.int .i64 t.err])∧Below w.heap.size w w':=by
 have HS:=Lib.hid (fun W (h:Below w.heap.size w W)=>open_bad t he hl1 hl2 pw pt cw ct W (hW.below h));have HE:(t.err != 0)=true:=by simpa using he
 clear hW he;generalize t.err=er at HE HS ⊢
 go_enter Tryz.func84,Tryz.ntmps84
 go_wp2_with fail
 refine (HS.out _ ((below1 _ _).alloc (by simp) _)).mono ?_;rintro e w5 ⟨rfl,hB5⟩;have hz5:w.heap.size+1<w5.heap.size:=by have:=hB5.size;simp at this;omega
 have hy5:w.heap.size<w5.heap.size:=by omega
 have hblk:w5.heap[w.heap.size+1]?=some (.cells #[.slice none 0 0,.slice none 0 0,.int .i64 0,.nilFunc] 84 (0,0)):=by
  rw [hB5.block _ (by simp)];have:=heap_last (w.alloc (.cells #[.slice pw t.words.length cw,.slice pt t.turns.length ct,.int .i64 t.breath] 25)) (.cells #[.slice none 0 0,.slice none 0 0,.int .i64 0,.nilFunc] 84);rwa [World.size_alloc] at this
 have htx:w5.heap[w.heap.size]?=some (.cells #[.slice pw t.words.length cw,.slice pt t.turns.length ct,.int .i64 t.breath] 25 (0,0)):=by
  rw [hB5.block _ (by simp;omega),Below.heap_alloc _ _ _ (by simp)];exact heap_last _ _
 have HTX:=Lib.hid htx;have HB5:=Lib.hid (join ((below1 _ _).alloc (by simp) _) hB5);have HBLK:=Lib.hid hblk;clear hB5 htx;have r0:=blk_cells hblk 0 _ rfl;have r1:=blk_cells hblk 1 _ rfl;have r2:=blk_cells hblk 2 _ rfl;have r3:=blk_cells hblk 3 _ rfl;have z:∀ i,w5.frozen? ⟨w.heap.size+1,i,none⟩=false:=fun i=>by simp [World.frozen?,hblk]
 clear hblk;go_wp2;refine bodyPost_ret (v:=.tuple #[.agg #[.slice none 0 0,.slice none 0 0,.int .i64 0,.nilFunc],.int .i64 er]) (by simp [results,Tryz.results84,go_sem,hz5,hy5,r0,r1,r2,r3]) rfl ⟨rfl,?_⟩;have hz9:=HB5.out.size
 repeat' (first | exact HB5.out | apply belS | apply belA | apply belD)
 all_goals first | omega | (simp;done) | (simp;omega)
set_option maxHeartbeats 1600000 in
theorem openReading_bad2 (t:Text) (l:List Int) (h0:t.err=0) (h1:l.any (fun k=>!btw k 1 12)=true) (hll:l.length≤1000000) (pw pt pl:Option Addr) (cw ct cl:Nat) (w:World) (hW:TxAt w t pw pt) (hL:Ints w pl l) :
  Calls Tryz.prog 84 #[.agg #[.slice pw t.words.length cw,.slice pt t.turns.length ct,.int .i64 t.breath],.slice pl l.length cl] w fun e w' =>
   e=.returned (.tuple #[.agg #[.slice none 0 0,.slice none 0 0,.int .i64 0,.nilFunc],.int .i64 3])∧Below w.heap.size w w':=by
 have h3:errIf (fun k=>!btw k 1 12) l 3=3:=by rw [errIf,if_pos h1]
 have HS:=Lib.hid (fun W (h:Below w.heap.size w W)=>open_ok t h0 pw pt cw ct W (hW.below h));have HI:=Lib.hid (fun W (h:Below w.heap.size w W)=>errIfI_any 124 entered_openReading1 (fun k=>!btw k 1 12) l pl cl 3 W hll (hL.below h) (fun W' _ u=>(openReading1_any u W').mono fun e w' ⟨h1,h2⟩=>⟨h1,h2 ▸ Below.refl _ _⟩));have H3:=Lib.hid h3;clear hW hL h1 h3 h0
 go_enter Tryz.func84,Tryz.ntmps84
 go_wp2_with fail
 refine (HS.out _ ((below1 _ _).alloc (by simp) _)).mono ?_;rintro e w5 ⟨rfl,hB5⟩;have hz5:w.heap.size+1<w5.heap.size:=by have:=hB5.size;simp at this;omega
 have hy5:w.heap.size<w5.heap.size:=by omega
 have hblk:w5.heap[w.heap.size+1]?=some (.cells #[.slice none 0 0,.slice none 0 0,.int .i64 0,.nilFunc] 84 (0,0)):=by
  rw [hB5.block _ (by simp)];have:=heap_last (w.alloc (.cells #[.slice pw t.words.length cw,.slice pt t.turns.length ct,.int .i64 t.breath] 25)) (.cells #[.slice none 0 0,.slice none 0 0,.int .i64 0,.nilFunc] 84);rwa [World.size_alloc] at this
 have htx:w5.heap[w.heap.size]?=some (.cells #[.slice pw t.words.length cw,.slice pt t.turns.length ct,.int .i64 t.breath] 25 (0,0)):=by
  rw [hB5.block _ (by simp;omega),Below.heap_alloc _ _ _ (by simp)];exact heap_last _ _
 have HTX:=Lib.hid htx;have HB5:=Lib.hid (join ((below1 _ _).alloc (by simp) _) hB5);have HBLK:=Lib.hid hblk;clear hB5 htx;go_wp2_with fail
 refine (HI.out _ (join HB5.out (below1 _ _))).mono ?_;rintro e w6 ⟨rfl,hB6⟩;rw [H3.out];have hz6:w5.heap.size<w6.heap.size:=by have:=hB6.size;simp at this;omega
 have HB6:=Lib.hid (join (join HB5.out (below1 _ _)) hB6);have hblk6:=(hB6.block (w.heap.size+1) (by simp;omega)).trans ((Below.heap_alloc _ _ _ hz5).trans HBLK.out);have r0:=blk_cells hblk6 0 _ rfl;have r1:=blk_cells hblk6 1 _ rfl;have r2:=blk_cells hblk6 2 _ rfl;have r3:=blk_cells hblk6 3 _ rfl;have z:∀ i,w6.frozen? ⟨w.heap.size+1,i,none⟩=false:=fun i=>by simp [World.frozen?,hblk6]
 clear hB6 hblk6 hblk;have hq6:w.heap.size<w6.heap.size∧w.heap.size+1<w6.heap.size:=by omega
 obtain ⟨hq6,hq7⟩:=hq6;go_wp2;refine bodyPost_ret (v:=.tuple #[.agg #[.slice none 0 0,.slice none 0 0,.int .i64 0,.nilFunc],.int .i64 3]) (by simp [results,Tryz.results84,go_sem,hq6,hq7,r0,r1,r2,r3]) rfl ⟨rfl,?_⟩;have hz9:=HB6.out.size
 repeat' (first | exact HB6.out | apply belS | apply belA | apply belD)
 all_goals first | omega | (simp;done) | (simp;omega)
set_option maxHeartbeats 1600000 in
theorem openReading_bad3 (t:Text) (l:List Int) (h0:t.err=0) (h1:¬ l.any (fun k=>!btw k 1 12)=true) (h2:isum l≠t.words.length) (hll:l.length≤1000000) (pw pt pl:Option Addr) (cw ct cl:Nat) (w:World) (hW:TxAt w t pw pt) (hL:Ints w pl l) :
  Calls Tryz.prog 84 #[.agg #[.slice pw t.words.length cw,.slice pt t.turns.length ct,.int .i64 t.breath],.slice pl l.length cl] w fun e w' =>
   e=.returned (.tuple #[.agg #[.slice none 0 0,.slice none 0 0,.int .i64 0,.nilFunc],.int .i64 2])∧Below w.heap.size w w':=by
 have hx:∀ x∈l,-1000000≤x∧x≤1000000:=fun x hx=>by
  have:=any_false h1 x hx;simp only [Bool.not_eq_false'] at this;have:=btw_true this;omega
 have h3:errIf (fun k=>!btw k 1 12) l 3=0:=by rw [errIf,if_neg h1]
 have HS:=Lib.hid (fun W (h:Below w.heap.size w W)=>open_ok t h0 pw pt cw ct W (hW.below h));have HI:=Lib.hid (fun W (h:Below w.heap.size w W)=>errIfI_any 124 entered_openReading1 (fun k=>!btw k 1 12) l pl cl 3 W hll (hL.below h) (fun W' _ u=>(openReading1_any u W').mono fun e w' ⟨h1,h2⟩=>⟨h1,h2 ▸ Below.refl _ _⟩));have HM:=Lib.hid (fun W (h:Below w.heap.size w W)=>sum_any l pl cl W hll hx (hL.below h));have H3:=Lib.hid h3;have h2':(isum l != (t.words.length:Int))=true:=by simpa using h2
 clear hW hL h1 h2 h3 h0 hx
 go_enter Tryz.func84,Tryz.ntmps84
 go_wp2_with fail
 refine (HS.out _ ((below1 _ _).alloc (by simp) _)).mono ?_;rintro e w5 ⟨rfl,hB5⟩;have hz5:w.heap.size+1<w5.heap.size:=by have:=hB5.size;simp at this;omega
 have hy5:w.heap.size<w5.heap.size:=by omega
 have hblk:w5.heap[w.heap.size+1]?=some (.cells #[.slice none 0 0,.slice none 0 0,.int .i64 0,.nilFunc] 84 (0,0)):=by
  rw [hB5.block _ (by simp)];have:=heap_last (w.alloc (.cells #[.slice pw t.words.length cw,.slice pt t.turns.length ct,.int .i64 t.breath] 25)) (.cells #[.slice none 0 0,.slice none 0 0,.int .i64 0,.nilFunc] 84);rwa [World.size_alloc] at this
 have htx:w5.heap[w.heap.size]?=some (.cells #[.slice pw t.words.length cw,.slice pt t.turns.length ct,.int .i64 t.breath] 25 (0,0)):=by
  rw [hB5.block _ (by simp;omega),Below.heap_alloc _ _ _ (by simp)];exact heap_last _ _
 have HTX:=Lib.hid htx;have HB5:=Lib.hid (join ((below1 _ _).alloc (by simp) _) hB5);have HBLK:=Lib.hid hblk;clear hB5 htx;go_wp2_with fail
 refine (HI.out _ (join HB5.out (below1 _ _))).mono ?_;rintro e w6 ⟨rfl,hB6⟩;rw [H3.out];have hz6:w5.heap.size<w6.heap.size:=by have:=hB6.size;simp at this;omega
 have HB6:=Lib.hid (join (join HB5.out (below1 _ _)) hB6);have hblk6:=(hB6.block (w.heap.size+1) (by simp;omega)).trans ((Below.heap_alloc _ _ _ hz5).trans HBLK.out);have htx6:=(hB6.block w.heap.size (by simp;omega)).trans ((Below.heap_alloc _ _ _ hy5).trans HTX.out);have t0:=blk_cells htx6 0 _ rfl;have r0:=blk_cells hblk6 0 _ rfl;have r1:=blk_cells hblk6 1 _ rfl;have r2:=blk_cells hblk6 2 _ rfl;have r3:=blk_cells hblk6 3 _ rfl;have z:∀ i,w6.frozen? ⟨w.heap.size+1,i,none⟩=false:=fun i=>by simp [World.frozen?,hblk6]
 clear hB6 hblk6 hblk htx6;have hq6:w.heap.size<w6.heap.size∧w.heap.size+1<w6.heap.size:=by omega
 obtain ⟨hq6,hq7⟩:=hq6;go_wp2_with fail
 go_region_with (go_at_call 125;refine (HM.out _ (by first | exact HB6.out.drew | exact HB6.out)).mono ?_;rintro e w7 ⟨rfl,rfl⟩)
 all_goals go_wp2
 all_goals refine bodyPost_ret (v:=.tuple #[.agg #[.slice none 0 0,.slice none 0 0,.int .i64 0,.nilFunc],.int .i64 2]) (by simp [results,Tryz.results84,go_sem,hq6,hq7,r0,r1,r2,r3]) rfl ⟨rfl,?_⟩
 all_goals have hz9:=HB6.out.size
 all_goals repeat' (first | exact HB6.out | apply belS | apply belA | apply belD)
 all_goals first | omega | (simp;done) | (simp;omega)
theorem openReading_bad (t:Text) (l:List Int) (he:readErr t l≠0) (hl1:t.words.length≤1000000) (hl2:t.turns.length≤1000000) (hll:l.length≤1000000) (pw pt pl:Option Addr) (cw ct cl:Nat) (w:World) (hW:TxAt w t pw pt) (hL:Ints w pl l) :
  Calls Tryz.prog 84 #[.agg #[.slice pw t.words.length cw,.slice pt t.turns.length ct,.int .i64 t.breath],.slice pl l.length cl] w fun e w' =>
   e=.returned (.tuple #[.agg #[.slice none 0 0,.slice none 0 0,.int .i64 0,.nilFunc],.int .i64 (readErr t l)])∧Below w.heap.size w w':=by
 by_cases h0:t.err=0
 ·by_cases h1:l.any (fun k=>!btw k 1 12)=true
  ·have e:readErr t l=3:=by unfold readErr;rw [if_neg (by simp [h0]),if_pos h1]
   rw [e];exact openReading_bad2 t l h0 h1 hll pw pt pl cw ct cl w hW hL
  ·by_cases h2:isum l=t.words.length
   ·exact absurd (by unfold readErr;rw [if_neg (by simp [h0]),if_neg h1,if_neg (by simp [h2])]) he
   ·have e:readErr t l=2:=by unfold readErr;rw [if_neg (by simp [h0]),if_neg h1,if_pos h2]
    rw [e];exact openReading_bad3 t l h0 h1 h2 hll pw pt pl cw ct cl w hW hL
 ·have e:readErr t l=t.err:=by unfold readErr;rw [if_pos h0]
  rw [e];exact openReading_bad1 t l h0 hl1 hl2 pw pt pl cw ct cl w hW
end Go.Proofs.YtadnggecnjdhiaaGreat
namespace Go.Proofs.YtadnggecnjdhiaaGreat
open Go.RowKit Tx
attribute [local go_sem] Oper.semAt_some
def wrongR (t:Text) (l:List Int):Int × Int × Int:=if readErr t l=0 then wrongGo t 0 0 l else (0,0,readErr t l)
set_option maxHeartbeats 800000 in
theorem Wrong_any (t:Text) (l:List Int) (hl1:t.words.length≤1000000) (hl2:t.turns.length≤1000000) (hll:l.length≤1000000) (pw pt pl:Option Addr) (cw ct cl:Nat) (hcw:t.words.length≤cw∧cw≤maxLen) (w:World) (hW:TxAt w t pw pt) (hL:Ints w pl l) :
  Calls Tryz.prog 36 #[.agg #[.slice pw t.words.length cw,.slice pt t.turns.length ct,.int .i64 t.breath],.slice pl l.length cl] w fun e w' =>
   e=.returned (.tuple #[.int .i64 (wrongR t l).1,.int .i64 (wrongR t l).2.1,.int .i64 (wrongR t l).2.2])∧Below w.heap.size w w':=by
 by_cases he:readErr t l=0
 ·have e:wrongR t l=wrongGo t 0 0 l:=if_pos he;rw [e];exact Wrong_ok t l he hll pw pt pl cw ct cl hcw w hW hL
 ·have e:wrongR t l=(0,0,readErr t l):=if_neg he;rw [e];have HS:=Lib.hid (fun W (h:Below w.heap.size w W)=>openReading_bad t l he hl1 hl2 hll pw pt pl cw ct cl W (hW.below h) (hL.below h));have HE:(readErr t l != 0)=true:=by simpa using he
  clear hW hL he e;generalize readErr t l=er at HE HS ⊢
  go_enter Tryz.func36,Tryz.ntmps36
  go_wp2_with fail
  refine (HS.out _ (below1 _ _)).mono ?_;rintro e w5 ⟨rfl,hB5⟩;have HB5:=Lib.hid (join (below1 _ _) hB5);clear hB5;go_wp2;go_ret3;exact ⟨rfl,join HB5.out (below1 _ _)⟩
def astrayR (t:Text) (l:List Int):Int × Int × Int × Int :=
 if readErr t l=0 then (if (wrongGo t 0 0 l).2.2=6 then astrayGo (placesL l) 0 t.turns else (0,0,0,8)) else (0,0,0,readErr t l)
set_option maxHeartbeats 800000 in
set_option maxRecDepth 100000 in
theorem Astray_any (t:Text) (l:List Int) (hl1:t.words.length≤1000000) (hl2:t.turns.length≤1000000) (hll:l.length≤100000) (pw pt pl:Option Addr) (cw ct cl:Nat) (hcw:t.words.length≤cw∧cw≤maxLen) (w:World) (hW:TxAt w t pw pt) (hL:Ints w pl l) :
  Calls Tryz.prog 37 #[.agg #[.slice pw t.words.length cw,.slice pt t.turns.length ct,.int .i64 t.breath],.slice pl l.length cl] w fun e w' =>
   e=.returned (.tuple #[.int .i64 (astrayR t l).1,.agg #[.int .i64 (astrayR t l).2.1,.int .i64 (astrayR t l).2.2.1],.int .i64 (astrayR t l).2.2.2])∧Below w.heap.size w w':=by
 by_cases he:readErr t l=0
 ·by_cases hr:(wrongGo t 0 0 l).2.2=6
  ·have e:astrayR t l=astrayGo (placesL l) 0 t.turns:=by unfold astrayR;rw [if_pos he,if_pos hr]
   rw [e];exact Astray_in t l he hr hll pw pt pl cw ct cl hcw w hW hL
  ·have e:astrayR t l=(0,0,0,8):=by unfold astrayR;rw [if_pos he,if_neg hr]
   rw [e];obtain ⟨h0,hx,hs⟩:=read_ok he;have ok:=err_ok h0;have HS:=Lib.hid (fun W (h:Below w.heap.size w W)=>openReading_ok t l he (by omega) pw pt pl cw ct cl W (hW.below h) (hL.below h));have HF:=Lib.hid (fun W (h:Below w.heap.size w W)=>firstWrong_any t l hx hs pw pt pl cw ct cl (.func (.func 91) #[.agg #[.slice pw t.words.length cw,.slice pt t.turns.length ct,.int .i64 t.breath,.nilFunc]] #[]) W ⟨ok,hW.below h,hcw⟩ (hL.below h) (by omega));generalize wrongGo t 0 0 l=rw0 at HF hr;obtain ⟨r1,r2,r3⟩:=rw0;simp only at HF hr;have HE:(r3 != 6)=true:=by simpa using hr
   clear hW hL he h0 hx hs ok e hr
   go_enter Tryz.func37,Tryz.ntmps37
   go_wp2_with fail
   refine (HS.out _ ((below1 _ _).alloc (by simp) _)).mono ?_;rintro e w5 ⟨rfl,hB5⟩;have hz5:=hB5.size;simp only [World.size_alloc] at hz5;have hsp0:=heap_last (w.alloc (.cells #[.slice pw t.words.length cw,.slice pt t.turns.length ct,.int .i64 t.breath] 25)) (.cells #[.int .i64 0,.int .i64 0] 58);rw [World.size_alloc] at hsp0;have hsp:=(hB5.block (w.heap.size+1) (by simp)).trans hsp0;clear hsp0;have HSP:=Lib.hid hsp;have HB5:=Lib.hid (join ((below1 _ _).alloc (by simp) _) hB5);clear hB5 hsp;go_wp2_with fail
   refine (HF.out _ (join HB5.out (below1 _ _))).mono ?_;rintro e w6 ⟨rfl,hB6⟩;have hz6:=hB6.size;simp only [World.size_alloc] at hz6;have hsp6:=(hB6.block (w.heap.size+1) (by simp;omega)).trans ((Below.heap_alloc _ _ _ (by omega)).trans HSP.out);have y0:=blk_cells hsp6 0 _ rfl;have y1:=blk_cells hsp6 1 _ rfl;have z:∀ i,w6.frozen? ⟨w.heap.size+1,i,none⟩=false:=fun i=>by simp [World.frozen?,hsp6]
   have HSP6:=Lib.hid hsp6;have HB6:=Lib.hid (join (join HB5.out (below1 _ _)) hB6);clear hB6 hsp6;go_wp2;have hx9:((w6.setCell ⟨w.heap.size+1,0,none⟩ (.int .i64 0)).setCell ⟨w.heap.size+1,1,none⟩ (.int .i64 0)).heap[w.heap.size+1]?=some (.cells #[.int .i64 0,.int .i64 0] 58 (0,0)):=heap_set_same _ (heap_set_same _ HSP6.out);have r0:=blk_cells hx9 0 _ rfl;have r1:=blk_cells hx9 1 _ rfl;refine bodyPost_ret (v:=.tuple #[.int .i64 0,.agg #[.int .i64 0,.int .i64 0],.int .i64 8]) (by simp [results,Tryz.results37,go_sem,r0,r1]) rfl ⟨rfl,?_⟩;exact (HB6.out.setCell (p:=⟨w.heap.size+1,0,none⟩) (by simp) _).setCell (p:=⟨w.heap.size+1,1,none⟩) (by simp) _
 ·have e:astrayR t l=(0,0,0,readErr t l):=if_neg he;rw [e];have HS:=Lib.hid (fun W (h:Below w.heap.size w W)=>openReading_bad t l he hl1 hl2 (by omega) pw pt pl cw ct cl W (hW.below h) (hL.below h));have HE:(readErr t l != 0)=true:=by simpa using he
  clear hW hL he e;generalize readErr t l=er at HE HS ⊢
  go_enter Tryz.func37,Tryz.ntmps37
  go_wp2_with fail
  refine (HS.out _ ((below1 _ _).alloc (by simp) _)).mono ?_;rintro e w5 ⟨rfl,hB5⟩;have hz5:=hB5.size;simp only [World.size_alloc] at hz5;have hsp0:=heap_last (w.alloc (.cells #[.slice pw t.words.length cw,.slice pt t.turns.length ct,.int .i64 t.breath] 25)) (.cells #[.int .i64 0,.int .i64 0] 58);rw [World.size_alloc] at hsp0;have hsp:=(hB5.block (w.heap.size+1) (by simp)).trans hsp0;clear hsp0;have y0:=blk_cells hsp 0 _ rfl;have y1:=blk_cells hsp 1 _ rfl;have z:∀ i,w5.frozen? ⟨w.heap.size+1,i,none⟩=false:=fun i=>by simp [World.frozen?,hsp]
  have hlt:w.heap.size+1<w5.heap.size:=by omega
  have HSP:=Lib.hid hsp;have HB5:=Lib.hid (join ((below1 _ _).alloc (by simp) _) hB5);clear hB5 hsp;go_wp2;have hx9:(((w5.setCell ⟨w.heap.size+1,0,none⟩ (.int .i64 0)).setCell ⟨w.heap.size+1,1,none⟩ (.int .i64 0)).alloc (.cells #[.slice none 0 0,.slice none 0 0,.int .i64 0,.nilFunc] 84)).heap[w.heap.size+1]?=some (.cells #[.int .i64 0,.int .i64 0] 58 (0,0)) :=
   (Below.heap_alloc _ _ _ (by simp;omega)).trans (heap_set_same _ (heap_set_same _ HSP.out))
  have r0:=blk_cells hx9 0 _ rfl;have r1:=blk_cells hx9 1 _ rfl;refine bodyPost_ret (v:=.tuple #[.int .i64 0,.agg #[.int .i64 0,.int .i64 0],.int .i64 er]) (by simp [results,Tryz.results37,go_sem,r0,r1]) rfl ⟨rfl,?_⟩;exact ((HB5.out.setCell (p:=⟨w.heap.size+1,0,none⟩) (by simp) _).setCell (p:=⟨w.heap.size+1,1,none⟩) (by simp) _).alloc (by simp;omega) _
end Go.Proofs.YtadnggecnjdhiaaGreat
namespace Go.Proofs.YtadnggecnjdhiaaGreat
open Go.RowKit Tx
attribute [local go_sem] Oper.semAt_some
def sayE (t:Text) (lo hi:Int):Int:=if t.err≠0 then t.err else if absent t.words.length lo||absent t.words.length hi then 1 else if hi<lo then 4 else 0
def sayL (t:Text) (lo hi:Int):List Int:=if sayE t lo hi=0 then t.said lo hi else []
set_option maxHeartbeats 1600000 in
set_option maxRecDepth 100000 in
theorem Says_any (t:Text) (lo hi:Int) (hl1:t.words.length≤1000000) (hl2:t.turns.length≤1000000) (pw pt:Option Addr) (cw ct:Nat) (w:World) (hW:TxAt w t pw pt) :
  Calls Tryz.prog 55 #[.agg #[.slice pw t.words.length cw,.slice pt t.turns.length ct,.int .i64 t.breath],.agg #[.int .i64 lo,.int .i64 hi]] w (ListPost (sayL t lo hi) (sayE t lo hi) w):=by
 by_cases he:t.err=0
 ·have HS:=Lib.hid (fun W (h:Below w.heap.size w W)=>open_ok t he pw pt cw ct W (hW.below h));have HA:=Lib.hid (fun k W=>absent_any t.words.length cw pw (.slice pt t.turns.length ct) (.int .i64 t.breath) (.func (.func 91) #[.agg #[.slice pw t.words.length cw,.slice pt t.turns.length ct,.int .i64 t.breath,.nilFunc]] #[]) k W (by omega));have HT:=Lib.hid (fun W (h:Below w.heap.size w W)=>turnsOther_any t hl2 pt ct (.slice pw t.words.length cw) (.int .i64 t.breath) (.func (.func 91) #[.agg #[.slice pw t.words.length cw,.slice pt t.turns.length ct,.int .i64 t.breath,.nilFunc]] #[]) lo hi W (hW.turns.below h));cases h1:absent t.words.length lo with
  | true =>
   have e1:sayE t lo hi=1:=by unfold sayE;rw [if_neg (by simp [he]),if_pos (by simp [h1])]
   have e2:sayL t lo hi=[]:=by unfold sayL;rw [if_neg (by rw [e1];omega)]
   have HA1:=Lib.hid (fun W=>h1 ▸ HA.out lo W);rw [e1,e2];clear hW he h1 e1 e2
   go_enter Tryz.func55,Tryz.ntmps55
   go_wp2_with fail
   refine (HS.out _ ((below1 _ _).alloc (by simp) _)).mono ?_;rintro e w5 ⟨rfl,hB5⟩;have hz5:w.heap.size+1<w5.heap.size:=by have:=hB5.size;simp at this;omega
   have hz6:w.heap.size+1<w5.heap.size+1:=by omega
   have hz7:w.heap.size+1<w5.heap.size+1+1:=by omega
   have hsp0:=heap_last (w.alloc (.cells #[.slice pw t.words.length cw,.slice pt t.turns.length ct,.int .i64 t.breath] 25)) (.cells #[.int .i64 lo,.int .i64 hi] 58);rw [World.size_alloc] at hsp0;have hsp:=(hB5.block (w.heap.size+1) (by simp)).trans hsp0;clear hsp0;have y0:=blk_cells hsp 0 _ rfl;have y1:=blk_cells hsp 1 _ rfl;have HB5:=Lib.hid (join ((below1 _ _).alloc (by simp) _) hB5);clear hB5 hsp;go_wp2_with fail
   refine (HA1.out _).mono ?_;rintro e w6 ⟨rfl,rfl⟩;go_wp2;go_ret2;exact ⟨_,rfl,own_none _ _ _ _,((HB5.out.alloc (by omega) _).alloc (by simp;omega) _)⟩
  | false =>
   have HA1:=Lib.hid (fun W=>h1 ▸ HA.out lo W);cases h2:absent t.words.length hi with
   | true =>
    have e1:sayE t lo hi=1:=by unfold sayE;rw [if_neg (by simp [he]),if_pos (by simp [h1,h2])]
    have e2:sayL t lo hi=[]:=by unfold sayL;rw [if_neg (by rw [e1];omega)]
    have HA2:=Lib.hid (fun W=>h2 ▸ HA.out hi W);rw [e1,e2];clear hW he h1 h2 e1 e2
    go_enter Tryz.func55,Tryz.ntmps55
    go_wp2_with fail
    refine (HS.out _ ((below1 _ _).alloc (by simp) _)).mono ?_;rintro e w5 ⟨rfl,hB5⟩;have hz5:w.heap.size+1<w5.heap.size:=by have:=hB5.size;simp at this;omega
    have hz6:w.heap.size+1<w5.heap.size+1:=by omega
    have hz7:w.heap.size+1<w5.heap.size+1+1:=by omega
    have hsp0:=heap_last (w.alloc (.cells #[.slice pw t.words.length cw,.slice pt t.turns.length ct,.int .i64 t.breath] 25)) (.cells #[.int .i64 lo,.int .i64 hi] 58);rw [World.size_alloc] at hsp0;have hsp:=(hB5.block (w.heap.size+1) (by simp)).trans hsp0;clear hsp0;have y0:=blk_cells hsp 0 _ rfl;have y1:=blk_cells hsp 1 _ rfl;have HB5:=Lib.hid (join ((below1 _ _).alloc (by simp) _) hB5);clear hB5 hsp;go_wp2_with fail
    refine (HA1.out _).mono ?_;rintro e w6 ⟨rfl,rfl⟩;go_wp2_with fail
    refine (HA2.out _).mono ?_;rintro e w6 ⟨rfl,rfl⟩;go_wp2;go_ret2;exact ⟨_,rfl,own_none _ _ _ _,(((HB5.out.alloc (by omega) _).alloc (by simp;omega) _).alloc (by simp;omega) _)⟩
   | false =>
    have HA2:=Lib.hid (fun W=>h2 ▸ HA.out hi W);by_cases h3:hi<lo
    ·have e1:sayE t lo hi=4:=by unfold sayE;rw [if_neg (by simp [he]),if_neg (by simp [h1,h2]),if_pos h3]
     have e2:sayL t lo hi=[]:=by unfold sayL;rw [if_neg (by rw [e1];omega)]
     rw [e1,e2];clear hW he h1 h2 e1 e2
     go_enter Tryz.func55,Tryz.ntmps55
     go_wp2_with fail
     refine (HS.out _ ((below1 _ _).alloc (by simp) _)).mono ?_;rintro e w5 ⟨rfl,hB5⟩;have hz5:w.heap.size+1<w5.heap.size:=by have:=hB5.size;simp at this;omega
     have hz6:w.heap.size+1<w5.heap.size+1:=by omega
     have hz7:w.heap.size+1<w5.heap.size+1+1:=by omega
     have hsp0:=heap_last (w.alloc (.cells #[.slice pw t.words.length cw,.slice pt t.turns.length ct,.int .i64 t.breath] 25)) (.cells #[.int .i64 lo,.int .i64 hi] 58);rw [World.size_alloc] at hsp0;have hsp:=(hB5.block (w.heap.size+1) (by simp)).trans hsp0;clear hsp0;have y0:=blk_cells hsp 0 _ rfl;have y1:=blk_cells hsp 1 _ rfl;have HB5:=Lib.hid (join ((below1 _ _).alloc (by simp) _) hB5);clear hB5 hsp;go_wp2_with fail
     refine (HA1.out _).mono ?_;rintro e w6 ⟨rfl,rfl⟩;go_wp2_with fail
     refine (HA2.out _).mono ?_;rintro e w6 ⟨rfl,rfl⟩;go_wp2;go_ret2;exact ⟨_,rfl,own_none _ _ _ _,(((HB5.out.alloc (by omega) _).alloc (by simp;omega) _).alloc (by simp;omega) _)⟩
    ·have e1:sayE t lo hi=0:=by unfold sayE;rw [if_neg (by simp [he]),if_neg (by simp [h1,h2]),if_neg h3]
     have e2:sayL t lo hi=t.said lo hi:=by unfold sayL;rw [if_pos e1]
     rw [e1,e2];clear hW he h1 h2 e1 e2
     go_enter Tryz.func55,Tryz.ntmps55
     go_wp2_with fail
     refine (HS.out _ ((below1 _ _).alloc (by simp) _)).mono ?_;rintro e w5 ⟨rfl,hB5⟩;have hz5:w.heap.size+1<w5.heap.size:=by have:=hB5.size;simp at this;omega
     have hz6:w.heap.size+1<w5.heap.size+1:=by omega
     have hz7:w.heap.size+1<w5.heap.size+1+1:=by omega
     have hsp0:=heap_last (w.alloc (.cells #[.slice pw t.words.length cw,.slice pt t.turns.length ct,.int .i64 t.breath] 25)) (.cells #[.int .i64 lo,.int .i64 hi] 58);rw [World.size_alloc] at hsp0;have hsp:=(hB5.block (w.heap.size+1) (by simp)).trans hsp0;clear hsp0;have y0:=blk_cells hsp 0 _ rfl;have y1:=blk_cells hsp 1 _ rfl;have HB5:=Lib.hid (join ((below1 _ _).alloc (by simp) _) hB5);clear hB5 hsp;go_wp2_with fail
     refine (HA1.out _).mono ?_;rintro e w6 ⟨rfl,rfl⟩;go_wp2_with fail
     refine (HA2.out _).mono ?_;rintro e w6 ⟨rfl,rfl⟩;go_wp2_with fail
     refine (HT.out _ (((HB5.out.alloc (by omega) _).alloc (by simp;omega) _).alloc (by simp;omega) _)).mono ?_;rintro e w7 ⟨v,rfl,hown,hB7⟩;have HO:=Lib.hid hown;have HB7:=Lib.hid (join (((HB5.out.alloc (by omega) _).alloc (by simp;omega) _).alloc (by simp;omega) _) hB7);clear hown hB7;go_wp2;go_ret2;exact ⟨_,rfl,own_base HO.out (by simp;omega),HB7.out⟩
 ·have e1:sayE t lo hi=t.err:=by unfold sayE;rw [if_pos he]
  have e2:sayL t lo hi=[]:=by unfold sayL;rw [if_neg (by rw [e1];exact he)]
  rw [e1,e2];have HS:=Lib.hid (fun W (h:Below w.heap.size w W)=>open_bad t he hl1 hl2 pw pt cw ct W (hW.below h));have HE:(t.err != 0)=true:=by simpa using he
  clear hW he e1 e2;generalize t.err=er at HE HS ⊢
  go_enter Tryz.func55,Tryz.ntmps55
  go_wp2_with fail
  refine (HS.out _ ((below1 _ _).alloc (by simp) _)).mono ?_;rintro e w5 ⟨rfl,hB5⟩;have hz5:w.heap.size+1<w5.heap.size:=by have:=hB5.size;simp at this;omega
  have hz6:w.heap.size+1<w5.heap.size+1:=by omega
  have hz7:w.heap.size+1<w5.heap.size+1+1:=by omega
  have hsp0:=heap_last (w.alloc (.cells #[.slice pw t.words.length cw,.slice pt t.turns.length ct,.int .i64 t.breath] 25)) (.cells #[.int .i64 lo,.int .i64 hi] 58);rw [World.size_alloc] at hsp0;have hsp:=(hB5.block (w.heap.size+1) (by simp)).trans hsp0;clear hsp0;have y0:=blk_cells hsp 0 _ rfl;have y1:=blk_cells hsp 1 _ rfl;have HB5:=Lib.hid (join ((below1 _ _).alloc (by simp) _) hB5);clear hB5 hsp;go_wp2;go_ret2;exact ⟨_,rfl,own_none _ _ _ _,HB5.out.alloc (by omega) _⟩
end Go.Proofs.YtadnggecnjdhiaaGreat
namespace Go.Proofs.YtadnggecnjdhiaaGreat
open Go.RowKit Tx
attribute [local go_sem] Oper.semAt_some
def spRw (t:Text) (pw pt:Option Addr) (cw ct a k n cl x B O:Nat) (ki:Int):Nat→List Value→Value→World→Prop
 | 0,_,v,_=>v=.agg #[.slice pw t.words.length cw,.slice pt t.turns.length ct,.int .i64 t.breath]
 | 1,_,v,_=>v=.int .i64 (a:Int)
 | 2,_,v,_=>v=.int .i64 (a:Int)
 | 3,_,v,_=>v=.slice (some ⟨B,O,none⟩) n cl
 | 4,_,v,_=>v=.int .i64 (k:Int)
 | 5,_,v,_=>v=.pointer (some ⟨B,O+k,none⟩)
 | 6,_,v,_=>v=.int .i64 (x:Int)
 | 7,_,v,_=>v=.int .i64 ((a+x:Nat):Int)
 | 8,_,v,_=>v=.int .i64 ki
 | 9,_,v,_=>v=.int .i64 ki
 | _,_,_,_=>False
theorem spRw_stable (t:Text) (pw pt:Option Addr) (cw ct a k n cl x B O:Nat) (ki:Int):∀ i L v w w',spRw t pw pt cw ct a k n cl x B O ki i L v w→Rs.Gr w w'→spRw t pw pt cw ct a k n cl x B O ki i L v w':=by
 intro i L v w w' h hg
 match i with
 | 0=>exact h
 | 1=>exact h
 | 2=>exact h
 | 3=>exact h
 | 4=>exact h
 | 5=>exact h
 | 6=>exact h
 | 7=>exact h
 | 8=>exact h
 | 9=>exact h
set_option maxHeartbeats 4000000 in
set_option maxRecDepth 100000 in
theorem rWrong_any (t:Text) (l:List Int) (hl1:t.words.length≤1000000) (hl2:t.turns.length≤1000000) (hll:l.length≤1000000) (pw pt pl:Option Addr) (cw ct cl:Nat) (w:World) (hW:TxAt w t pw pt) (hL:Ints w pl l) :
  Calls Tryz.prog 16 #[.agg #[.slice pw t.words.length cw,.slice pt t.turns.length ct,.int .i64 t.breath],.slice pl l.length cl] w fun e w' =>
   e=.returned (.tuple #[.int .i64 (wrongR t l).1,.int .i64 (wrongR t l).2.1,.int .i64 (wrongR t l).2.2])∧Below w.heap.size w w':=by
 have HC:=Lib.hid (fun W (h:Below w.heap.size w W)=>Reading_any t l hl1 hl2 hll pw pt pl cw ct cl W (hW.below h) (hL.below h));have HB:=Lib.hid (below1 w (.cells #[.slice pw t.words.length cw,.slice pt t.turns.length ct,.int .i64 t.breath] 32));have HX:=Lib.hid (heap_last w (.cells #[.slice pw t.words.length cw,.slice pt t.turns.length ct,.int .i64 t.breath] 32));have HL:=Lib.hid hL;have HW:=Lib.hid hW;obtain ⟨k0,k1,k2⟩:=blk3 HX.out;clear hW hL;by_cases he:readErr t l=0
 ·obtain ⟨h0,hx,hs⟩:=read_ok he;have ok:=err_ok h0;have HR:Hid (wrongR t l=wrongGo t 0 0 l):=Lib.hid (if_pos he);rw [HR.out];rw [he] at HC;have hn12:=ok.n12;have HXS:=Lib.hid hx;have HPRE:=Lib.hid (fun k=>isum_take_le (fun x h=>by have:=hx x h;omega) hs k);have HOK:=Lib.hid ok;clear he HR hx hs ok h0
  go_enter Tryz.func16,Tryz.ntmps16
  go_wp2_with fail
  refine (HC.out _ HB.out).mono ?_;rintro e w5 ⟨rfl,hB5⟩;have HX5:=Lib.hid ((hB5.block w.heap.size (Array.getElem?_eq_some_iff.1 HX.out).1).trans HX.out);have HB5:=Lib.hid (join HB.out hB5);clear hB5 k0 k1 k2;obtain ⟨k0,k1,k2⟩:=blk3 HX5.out;go_wp2_with fail
  go_loopw [8,9,10] (fun n i _ wr=>∃ k a:Nat,k≤l.length∧i=.int .i64 k∧n=.int .i64 a∧(a:Int)=isum (l.take k)∧wrongGo t k a (l.drop k)=wrongGo t 0 0 l∧Below w5.heap.size w5 wr) (fun _ i _ _=>l.length-(intOf i).toNat)
  case atStart=>exact ⟨0,0,Nat.zero_le _,rfl,rfl,rfl,rfl,Below.refl _ _⟩
  case round =>
   obtain ⟨k,a,hk,rfl,rfl,ha,hgo,hBr⟩:=hrel;have HGO:=Lib.hid hgo;have HAA:=Lib.hid ha;have HXr:=Lib.hid ((hBr.block w.heap.size (Array.getElem?_eq_some_iff.1 HX5.out).1).trans HX5.out);have HBr0:=Lib.hid hBr;have HBr:=Lib.hid (join HB5.out hBr);clear hgo hBr k0 k1 k2;obtain ⟨wo,rfl⟩:∃ wo:World,wo=wr:=⟨_,rfl⟩;obtain ⟨k0,k1,k2⟩:=blk3 HXr.out;by_cases hlt:k<l.length
   ·have hlt':(k:Int)<l.length:=by omega
    have hkn:(k:Int)<l.length:=hlt';obtain ⟨b,o,x,rfl,hbl,hxx,c1⟩:=(HL.out.below HBr.out).at hlt;have hxm:=HXS.out x (by rw [hxx];exact getD_mem 0 hlt);obtain ⟨x,rfl⟩:∃ n:Nat,x=(n:Int):=⟨x.toNat,by omega⟩;have hsn:isum (l.take (k+1))=((a+x:Nat):Int):=by rw [take_snocD 0 hlt,isum_snoc,← hxx,← ha];push_cast;rfl
    have hle:=HPRE.out (k+1);rw [hsn] at hle;have hgo:=wrongGo_at t l k a hlt;rw [← hxx,Int.toNat_natCast,HGO.out] at hgo;have hsum:IntKind.i64.wrap ((a:Int)+(x:Int))=((a+x:Nat):Int):=by rw [IntWalk.i64_in _ (by omega)];push_cast;rfl
    have hsum2:IntKind.i64.wrap ((a:Int)+(x:Int))=(a:Int)+(x:Int):=IntWalk.i64_in _ (by omega);have HFA:=Lib.hid (fun W (h:Below w.heap.size w W)=>Fault_any t HOK.out a (a+x) (by omega) (by omega) pw pt cw ct W (HW.out.below h));have HSN:=Lib.hid hsn;have HG:=Lib.hid hgo;have HKS:=Lib.hid (fun k h0 (h:kindI t a (a+x)=k)=>kindI_some h h0);have HKN:=Lib.hid (fun (h:kindI t a (a+x)<0)=>kindI_none h);generalize kindI t a (a+x)=ki at HFA HKS HKN;have HC1:=Lib.hid c1;have hsU:w.heap.size<wo.heap.size:=(Array.getElem?_eq_some_iff.1 HXr.out).1;have hsb:b<wo.heap.size:=hbl;clear hxx hsn hgo c1 HC ha;go_wp2_with fail
    refine Rs.region_gen 10 [[],[],[],[],[],[3,4],[3,4,5],[2,3,4,5,6],[0,1,2,3,4,5,6,7],[0,1,2,3,4,5,6,7,8]] [some 23,some 24,some 25,some 26,some 27,some 28,some 29,some 30,some 31,some 10] (spRw t pw pt cw ct a k l.length cl x b o ki) (by kernel_rfl) (by kernel_rfl) rfl (spRw_stable _ _ _ _ _ _ _ _ _ _ _ _ _) ?_ ?_
    ·refine ⟨fun V w' hG hs=>?_,fun V w' hG hs=>?_,fun V w' hG hs=>?_,fun V w' hG hs=>?_,fun V w' hG hs=>?_,fun V w' hG hs=>?_,fun V w' hG hs=>?_,fun V w' hG hs=>?_,fun V w' hG hs=>?_,fun V w' hG hs=>?_,trivial⟩
     all_goals
      obtain ⟨bc,_⟩:=bcell hG;obtain ⟨k0,k1,k2⟩:=blk3 ((hG.block w.heap.size hsU).trans HXr.out);have hc:=(bc b (o+k) hsb).trans HC1.out;clear bc
     ·rw [if_pos (by rfl)];exact Rs.GrowL.value (v:=.agg #[.slice pw t.words.length cw,.slice pt t.turns.length ct,.int .i64 t.breath]) (w':=w') (by simp [go_sem,Rs.look,k0,k1,k2]) (Rs.Gr.refl _) rfl
     ·rw [if_pos (by rfl)];exact Rs.GrowL.value (v:=.int .i64 (a:Int)) (w':=w') (by simp [go_sem,Rs.look]) (Rs.Gr.refl _) rfl
     ·rw [if_pos (by rfl)];exact Rs.GrowL.value (v:=.int .i64 (a:Int)) (w':=w') (by simp [go_sem,Rs.look]) (Rs.Gr.refl _) rfl
     ·rw [if_pos (by rfl)];exact Rs.GrowL.value (v:=.slice (some ⟨b,o,none⟩) l.length cl) (w':=w') (by simp [go_sem,Rs.look]) (Rs.Gr.refl _) rfl
     ·rw [if_pos (by rfl)];exact Rs.GrowL.value (v:=.int .i64 (k:Int)) (w':=w') (by simp [go_sem,Rs.look]) (Rs.Gr.refl _) rfl
     ·have e3:V 3=_:=hs 3 (by simp);have e4:V 4=_:=hs 4 (by simp);rw [if_pos (by rfl)];exact Rs.GrowL.value (v:=.pointer (some ⟨b,o+k,none⟩)) (w':=w') (by simp [go_sem,Rs.look,e3,e4,hkn]) (Rs.Gr.refl _) rfl
     ·have e3:V 3=_:=hs 3 (by simp);have e4:V 4=_:=hs 4 (by simp);have e5:V 5=_:=hs 5 (by simp);rw [if_pos (by rfl)];exact Rs.GrowL.value (v:=.int .i64 (x:Int)) (w':=w') (by simp [go_sem,Rs.look,e3,e4,e5,hc]) (Rs.Gr.refl _) rfl
     ·have e2:V 2=_:=hs 2 (by simp);have e3:V 3=_:=hs 3 (by simp);have e4:V 4=_:=hs 4 (by simp);have e5:V 5=_:=hs 5 (by simp);have e6:V 6=_:=hs 6 (by simp);rw [if_pos (by rfl)];exact Rs.GrowL.value (v:=.int .i64 ((a+x:Nat):Int)) (w':=w') (by simp [go_sem,Rs.look,e2,e3,e4,e5,e6,hsum]) (Rs.Gr.refl _) rfl
     ·have e0:V 0=_:=hs 0 (by simp);have e1:V 1=_:=hs 1 (by simp);have e2:V 2=_:=hs 2 (by simp);have e3:V 3=_:=hs 3 (by simp);have e4:V 4=_:=hs 4 (by simp);have e5:V 5=_:=hs 5 (by simp);have e6:V 6=_:=hs 6 (by simp);have e7:V 7=_:=hs 7 (by simp);rw [if_pos (by rfl)];refine Rs.GrowL.call (f:=49) (args:=#[.agg #[.slice pw t.words.length cw,.slice pt t.turns.length ct,.int .i64 t.breath],.int .i64 (a:Int),.int .i64 ((a+x:Nat):Int)]) (by simp [go_sem,Rs.look,e0,e1,e7]) ?_;refine (HFA.out w' (join HBr.out hG)).mono ?_;rintro e w2 ⟨rfl,hB2⟩;exact ⟨_,rfl,hB2,rfl⟩
     ·have e0:V 0=_:=hs 0 (by simp);have e1:V 1=_:=hs 1 (by simp);have e2:V 2=_:=hs 2 (by simp);have e3:V 3=_:=hs 3 (by simp);have e4:V 4=_:=hs 4 (by simp);have e5:V 5=_:=hs 5 (by simp);have e6:V 6=_:=hs 6 (by simp);have e7:V 7=_:=hs 7 (by simp);have e8:V 8=_:=hs 8 (by simp);rw [if_pos (by rfl)];exact Rs.GrowL.value (v:=.int .i64 ki) (w':=w') (by simp [go_sem,Rs.look,e0,e1,e2,e3,e4,e5,e6,e7,e8]) (Rs.Gr.refl _) rfl
    ·intro V w' hG hs;have e0:V 0=_:=hs 0 (by omega);have e1:V 1=_:=hs 1 (by omega);have e2:V 2=_:=hs 2 (by omega);have e3:V 3=_:=hs 3 (by omega);have e4:V 4=_:=hs 4 (by omega);have e5:V 5=_:=hs 5 (by omega);have e6:V 6=_:=hs 6 (by omega);have e7:V 7=_:=hs 7 (by omega);have e8:V 8=_:=hs 8 (by omega);have e9:V 9=_:=hs 9 (by omega);simp only [Rs.canon,Rs.dstOf,List.range_succ,List.range_zero,List.nil_append,List.cons_append,List.foldl_cons,List.foldl_nil,List.drop_succ_cons,List.drop_zero,List.drop_nil,List.getElem?_toArray,List.getElem?_cons_succ,List.getElem?_cons_zero,Option.bind_some,Act.put,List.getD_cons_succ,List.getD_cons_zero,List.setIfInBounds_toArray,List.set_cons_succ,List.set_cons_zero];rw [e0,e1,e2,e3,e4,e5,e6,e7,e8,e9];clear e0 e1 e2 e3 e4 e5 e6 e7 e8 e9 hs;by_cases hneg:ki<0
     ·have hneg':¬ (0≤ki):=by omega
      have HFX:Hid (wrongGo t (k+1) (a+x) (l.drop (k+1))=wrongGo t 0 0 l):=Lib.hid (by rw [HG.out,HKN.out hneg]);clear HKS HKN HG;have hcb:=(hG.cell (p:=⟨b,o+k,none⟩) hbl).trans HC1.out;have HBG:=Lib.hid hG;clear hG hneg;go_wp2;go_roundw
      case rel=>exact ⟨k+1,a+x,by omega,by go_num,by first | rfl | (congr 1;done) | (congr 1;push_cast;done) | (congr 1;push_cast;rfl) | (congr 1;push_cast;omega),HSN.out.symm,HFX.out,join HBr0.out HBG.out⟩
      case measure=>simp [intOf];omega
     ·have hneg':0≤ki:=by omega
      have HFX:Hid (wrongGo t 0 0 l=((k:Int),ki,0)):=Lib.hid (by rw [HG.out,HKS.out ki hneg' rfl]);have HBG:=Lib.hid hG;clear HKS HKN HG hG hneg;go_wp2;go_ret3;exact ⟨by rw [HFX.out];rfl,join HBr.out HBG.out⟩
   ·obtain rfl:k=l.length:=by omega
    have HFX:Hid (wrongGo t 0 0 l=(0,0,6)):=Lib.hid (by rw [← HGO.out,List.drop_length];rfl);go_wp2;go_ret3;exact ⟨by rw [HFX.out];rfl,HBr.out⟩
 ·have HE:(readErr t l != 0)=true:=by simpa using he
  have HR:Hid (wrongR t l=(0,0,readErr t l)):=Lib.hid (if_neg he);rw [HR.out];generalize readErr t l=er at HC HE ⊢;clear he HR
  go_enter Tryz.func16,Tryz.ntmps16
  go_wp2_with fail
  refine (HC.out _ HB.out).mono ?_;rintro e w5 ⟨rfl,hB5⟩;have HB5:=Lib.hid (join HB.out hB5);clear hB5;go_wp2;go_ret3;exact ⟨rfl,HB5.out⟩
def spRy (t:Text) (pw pt:Option Addr) (cw ct A:Nat) (lo hi:Int) (n:Nat):Nat→List Value→Value→World→Prop
 | 0,_,v,_=>v=.agg #[.slice pw t.words.length cw,.slice pt t.turns.length ct,.int .i64 t.breath]
 | 1,_,v,_=>v=.pointer (some ⟨A,0,none⟩)
 | 2,_,v,_=>v=.int .i64 lo
 | 3,_,v,_=>v=.pointer (some ⟨A,1,none⟩)
 | 4,_,v,_=>v=.int .i64 hi
 | 5,_,v,_=>v=.int .i64 (hi+1)
 | 6,L,v,w=>∃ p c,v=.slice p (wordsL lo n).length c∧Ints w p (wordsL lo n)
 | 7,L,v,w=>w.ownsRow A 3 1 v (rsaid t (wordsL lo n)).length ((rsaid t (wordsL lo n)).map (Value.int .i64))
 | _,_,_,_=>False
theorem spRy_stable (t:Text) (pw pt:Option Addr) (cw ct A:Nat) (lo hi:Int) (n:Nat):∀ i L v w w',spRy t pw pt cw ct A lo hi n i L v w→Rs.Gr w w'→spRy t pw pt cw ct A lo hi n i L v w':=by
 intro i L v w w' h hg
 match i with
 | 0=>exact h
 | 1=>exact h
 | 2=>exact h
 | 3=>exact h
 | 4=>exact h
 | 5=>exact h
 | 6=>obtain ⟨p,c,h1,h2⟩:=h;exact ⟨p,c,h1,h2.below hg⟩
 | 7=>exact own_below h hg
theorem absent_off {n:Nat} {k:Int} {b:Bool} (h:absent n k=b):(!btw k 0 ((n:Int)-1))=b:=h
set_option maxHeartbeats 4000000 in
set_option maxRecDepth 100000 in
theorem rSays_any (t:Text) (lo hi:Int) (hl1:t.words.length≤1000000) (hl2:t.turns.length≤1000000) (pw pt:Option Addr) (cw ct:Nat) (w:World) (hW:TxAt w t pw pt) :
  Calls Tryz.prog 56 #[.agg #[.slice pw t.words.length cw,.slice pt t.turns.length ct,.int .i64 t.breath],.agg #[.int .i64 lo,.int .i64 hi]] w (ListPost (sayL t lo hi) (sayE t lo hi) w):=by
 have HC:=Lib.hid (fun W (h:Below w.heap.size w W)=>rCheck_any t hl1 hl2 pw pt cw ct W (hW.below h));have HB1:=below1 w (.cells #[.slice pw t.words.length cw,.slice pt t.turns.length ct,.int .i64 t.breath] 32);have HX:=Lib.hid (((below1 (w.alloc (.cells #[.slice pw t.words.length cw,.slice pt t.turns.length ct,.int .i64 t.breath] 32)) (.cells #[.int .i64 lo,.int .i64 hi] 58)).block w.heap.size (by simp)).trans (heap_last w _));have hy:=heap_last (w.alloc (.cells #[.slice pw t.words.length cw,.slice pt t.turns.length ct,.int .i64 t.breath] 32)) (.cells #[.int .i64 lo,.int .i64 hi] 58);rw [World.size_alloc] at hy;have HY:=Lib.hid hy;have HB:=Lib.hid (join HB1 (below1 _ (.cells #[.int .i64 lo,.int .i64 hi] 58)));have HW:=Lib.hid hW;clear hW HB1 hy;by_cases he:t.err=0
 ·have ok:=err_ok he;have hn12:=ok.n12;have hm6:=ok.m6;rw [he] at HC;cases h1:absent t.words.length lo with
  | true =>
   have e1:sayE t lo hi=1:=by unfold sayE;rw [if_neg (by simp [he]),if_pos (by simp [h1])]
   have e2:sayL t lo hi=[]:=by unfold sayL;rw [if_neg (by rw [e1];omega)]
   have H1:=Lib.hid (absent_off h1);rw [e1,e2];clear he h1 e1 e2 ok
   go_enter Tryz.func56,Tryz.ntmps56
   go_wp2_with fail
   refine (HC.out _ HB.out).mono ?_;rintro e w5 ⟨rfl,hB5⟩;have HX5:=Lib.hid ((hB5.block w.heap.size (Array.getElem?_eq_some_iff.1 HX.out).1).trans HX.out);have HY5:=Lib.hid ((hB5.block (w.heap.size+1) (Array.getElem?_eq_some_iff.1 HY.out).1).trans HY.out);have HB5:=Lib.hid (join HB.out hB5);clear hB5;obtain ⟨k0,k1,k2⟩:=blk3 HX5.out;have y0:=blk_cells HY5.out 0 _ rfl;have y1:=blk_cells HY5.out 1 _ rfl;go_wp2_with fail
   refine (off_b _ _ _ _ H1.out _).mono ?_;rintro e w6 ⟨rfl,rfl⟩;go_wp2;go_ret2;exact ⟨_,rfl,own_none _ _ _ _,HB5.out⟩
  | false =>
  have H1:=Lib.hid (absent_off h1);cases h2:absent t.words.length hi with
  | true =>
   have e1:sayE t lo hi=1:=by unfold sayE;rw [if_neg (by simp [he]),if_pos (by simp [h1,h2])]
   have e2:sayL t lo hi=[]:=by unfold sayL;rw [if_neg (by rw [e1];omega)]
   have H2:=Lib.hid (absent_off h2);rw [e1,e2];clear he h1 h2 e1 e2 ok
   go_enter Tryz.func56,Tryz.ntmps56
   go_wp2_with fail
   refine (HC.out _ HB.out).mono ?_;rintro e w5 ⟨rfl,hB5⟩;have HX5:=Lib.hid ((hB5.block w.heap.size (Array.getElem?_eq_some_iff.1 HX.out).1).trans HX.out);have HY5:=Lib.hid ((hB5.block (w.heap.size+1) (Array.getElem?_eq_some_iff.1 HY.out).1).trans HY.out);have HB5:=Lib.hid (join HB.out hB5);clear hB5;obtain ⟨k0,k1,k2⟩:=blk3 HX5.out;have y0:=blk_cells HY5.out 0 _ rfl;have y1:=blk_cells HY5.out 1 _ rfl;go_wp2_with fail
   refine (off_b _ _ _ _ H1.out _).mono ?_;rintro e w6 ⟨rfl,rfl⟩;go_wp2_with fail
   refine (off_b _ _ _ _ H2.out _).mono ?_;rintro e w6 ⟨rfl,rfl⟩;go_wp2;go_ret2;exact ⟨_,rfl,own_none _ _ _ _,HB5.out⟩
  | false =>
  have H2:=Lib.hid (absent_off h2);by_cases h3:hi<lo
  ·have e1:sayE t lo hi=4:=by unfold sayE;rw [if_neg (by simp [he]),if_neg (by simp [h1,h2]),if_pos h3]
   have e2:sayL t lo hi=[]:=by unfold sayL;rw [if_neg (by rw [e1];omega)]
   rw [e1,e2];clear he h1 h2 e1 e2 ok
   go_enter Tryz.func56,Tryz.ntmps56
   go_wp2_with fail
   refine (HC.out _ HB.out).mono ?_;rintro e w5 ⟨rfl,hB5⟩;have HX5:=Lib.hid ((hB5.block w.heap.size (Array.getElem?_eq_some_iff.1 HX.out).1).trans HX.out);have HY5:=Lib.hid ((hB5.block (w.heap.size+1) (Array.getElem?_eq_some_iff.1 HY.out).1).trans HY.out);have HB5:=Lib.hid (join HB.out hB5);clear hB5;obtain ⟨k0,k1,k2⟩:=blk3 HX5.out;have y0:=blk_cells HY5.out 0 _ rfl;have y1:=blk_cells HY5.out 1 _ rfl;go_wp2_with fail
   refine (off_b _ _ _ _ H1.out _).mono ?_;rintro e w6 ⟨rfl,rfl⟩;go_wp2_with fail
   refine (off_b _ _ _ _ H2.out _).mono ?_;rintro e w6 ⟨rfl,rfl⟩;go_wp2;go_ret2;exact ⟨_,rfl,own_none _ _ _ _,HB5.out⟩
  ·have e1:sayE t lo hi=0:=by unfold sayE;rw [if_neg (by simp [he]),if_neg (by simp [h1,h2]),if_neg h3]
   have b1:0≤lo∧lo≤(t.words.length:Int)-1:=by simp [absent] at h1;exact btw_true h1
   have b2:0≤hi∧hi≤(t.words.length:Int)-1:=by simp [absent] at h2;exact btw_true h2
   obtain ⟨n,hn⟩:∃ n:Nat,n=(hi+1-lo).toNat:=⟨_,rfl⟩;have e2:sayL t lo hi=rsaid t (wordsL lo n):=by
    unfold sayL;rw [if_pos e1,rsaid_words t (fun u hu=>(ok.turn u hu).2.2.2.1),show lo+(n:Int)-1=hi by omega]
   have HWO:Hid (∀ W,Calls Tryz.prog 98 #[.int .i64 lo,.int .i64 (hi+1)] W (RowPost (wordsL lo n) W)):=Lib.hid (fun W=>by
    have:=words_any lo (hi+1) (by omega) (by omega) W;rwa [← hn] at this)
   have hwl:(wordsL lo n).length≤1000000:=by rw [wordsL_length];omega
   have HSA:=Lib.hid (fun p c W (h:Below w.heap.size w W) hL=>Said_any t (by omega) (fun u hu=>by have:=ok.turn u hu;omega) (wordsL lo n) hwl pt p ct c (.slice pw t.words.length cw) (.int .i64 t.breath) W (HW.out.turns.below h) hL);have hsum:IntKind.i64.wrap (hi+1)=hi+1:=IntWalk.i64_in _ (by omega);rw [e1,e2];clear he h1 h2 e1 e2 ok hn hwl
   go_enter Tryz.func56,Tryz.ntmps56
   go_wp2_with fail
   refine (HC.out _ HB.out).mono ?_;rintro e w5 ⟨rfl,hB5⟩;have HX5:=Lib.hid ((hB5.block w.heap.size (Array.getElem?_eq_some_iff.1 HX.out).1).trans HX.out);have HY5:=Lib.hid ((hB5.block (w.heap.size+1) (Array.getElem?_eq_some_iff.1 HY.out).1).trans HY.out);have HB5:=Lib.hid (join HB.out hB5);clear hB5;obtain ⟨k0,k1,k2⟩:=blk3 HX5.out;have y0:=blk_cells HY5.out 0 _ rfl;have y1:=blk_cells HY5.out 1 _ rfl;have HZ0:w.heap.size<w5.heap.size:=(Array.getElem?_eq_some_iff.1 HX5.out).1;have HZ1:w.heap.size+1<w5.heap.size:=(Array.getElem?_eq_some_iff.1 HY5.out).1;go_wp2_with fail
   refine (off_b _ _ _ _ H1.out _).mono ?_;rintro e w6 ⟨rfl,rfl⟩;go_wp2_with fail
   refine (off_b _ _ _ _ H2.out _).mono ?_;rintro e w6 ⟨rfl,rfl⟩;go_wp2_with fail
   refine Rs.region_gen 8 [[],[],[1],[],[3],[3,4],[1,2,3,4,5],[0,1,2,3,4,5,6]] [some 33,some 34,some 35,some 36,some 37,some 38,some 39,some 40] (spRy t pw pt cw ct (w.heap.size+1) lo hi n) (by kernel_rfl) (by kernel_rfl) rfl (spRy_stable _ _ _ _ _ _ _ _ _) ?_ ?_
   ·refine ⟨fun V w' hG hs=>?_,fun V w' hG hs=>?_,fun V w' hG hs=>?_,fun V w' hG hs=>?_,fun V w' hG hs=>?_,fun V w' hG hs=>?_,fun V w' hG hs=>?_,fun V w' hG hs=>?_,trivial⟩
    all_goals
     obtain ⟨k0,k1,k2⟩:=blk3 ((hG.block w.heap.size HZ0).trans HX5.out);have y0:=blk_cells ((hG.block (w.heap.size+1) HZ1).trans HY5.out) 0 _ rfl;have y1:=blk_cells ((hG.block (w.heap.size+1) HZ1).trans HY5.out) 1 _ rfl
    ·rw [if_pos (by rfl)];exact Rs.GrowL.value (v:=.agg #[.slice pw t.words.length cw,.slice pt t.turns.length ct,.int .i64 t.breath]) (w':=w') (by simp [go_sem,Rs.look,k0,k1,k2]) (Rs.Gr.refl _) rfl
    ·rw [if_pos (by rfl)];exact Rs.GrowL.value (v:=.pointer (some ⟨(w.heap.size+1),0,none⟩)) (w':=w') (by simp [go_sem,Rs.look]) (Rs.Gr.refl _) rfl
    ·have e1:V 1=_:=hs 1 (by simp);rw [if_pos (by rfl)];exact Rs.GrowL.value (v:=.int .i64 lo) (w':=w') (by simp [go_sem,Rs.look,e1,y0]) (Rs.Gr.refl _) rfl
    ·rw [if_pos (by rfl)];exact Rs.GrowL.value (v:=.pointer (some ⟨(w.heap.size+1),1,none⟩)) (w':=w') (by simp [go_sem,Rs.look]) (Rs.Gr.refl _) rfl
    ·have e3:V 3=_:=hs 3 (by simp);rw [if_pos (by rfl)];exact Rs.GrowL.value (v:=.int .i64 hi) (w':=w') (by simp [go_sem,Rs.look,e3,y1]) (Rs.Gr.refl _) rfl
    ·have e3:V 3=_:=hs 3 (by simp);have e4:V 4=_:=hs 4 (by simp);rw [if_pos (by rfl)];exact Rs.GrowL.value (v:=.int .i64 (hi+1)) (w':=w') (by simp [go_sem,Rs.look,e3,e4,hsum]) (Rs.Gr.refl _) rfl
    ·have e1:V 1=_:=hs 1 (by simp);have e2:V 2=_:=hs 2 (by simp);have e3:V 3=_:=hs 3 (by simp);have e4:V 4=_:=hs 4 (by simp);have e5:V 5=_:=hs 5 (by simp);rw [if_pos (by rfl)];refine Rs.GrowL.call (f:=98) (args:=#[.int .i64 lo,.int .i64 (hi+1)]) (by simp [go_sem,Rs.look,e2,e5]) ?_;refine (HWO.out w').mono ?_;rintro e w2 ⟨v,rfl,ho,hB2⟩;obtain ⟨p,c,rfl,hI,-⟩:=own_rd ho rfl;exact ⟨_,rfl,hB2,p,c,rfl,hI⟩
    ·have e0:V 0=_:=hs 0 (by simp);have e1:V 1=_:=hs 1 (by simp);have e2:V 2=_:=hs 2 (by simp);have e3:V 3=_:=hs 3 (by simp);have e4:V 4=_:=hs 4 (by simp);have e5:V 5=_:=hs 5 (by simp);have r6:=hs 6 (by simp);rw [if_pos (by rfl)];obtain ⟨p,c,e6,hI⟩:=r6;refine Rs.GrowL.call (f:=100) (args:=#[.agg #[.slice pw t.words.length cw,.slice pt t.turns.length ct,.int .i64 t.breath],.slice p (wordsL lo n).length c]) (by simp [go_sem,Rs.look,e0,e6]) ?_;refine (HSA.out p c w' (join HB5.out hG) hI).mono ?_;rintro e w2 ⟨v,rfl,ho,hB2⟩;exact ⟨_,rfl,hB2,own_base ho (by have:=hG.size;omega)⟩
   ·intro V w' hG hs;have e0:V 0=_:=hs 0 (by omega);have e1:V 1=_:=hs 1 (by omega);have e2:V 2=_:=hs 2 (by omega);have e3:V 3=_:=hs 3 (by omega);have e4:V 4=_:=hs 4 (by omega);have e5:V 5=_:=hs 5 (by omega);have r6:=hs 6 (by omega);have r7:=hs 7 (by omega);simp only [Rs.canon,Rs.dstOf,List.range_succ,List.range_zero,List.nil_append,List.cons_append,List.foldl_cons,List.foldl_nil,List.drop_succ_cons,List.drop_zero,List.drop_nil,List.getElem?_toArray,List.getElem?_cons_succ,List.getElem?_cons_zero,Option.bind_some,Act.put,List.getD_cons_succ,List.getD_cons_zero,List.setIfInBounds_toArray,List.set_cons_succ,List.set_cons_zero];rw [e0,e1,e2,e3,e4,e5];clear e0 e1 e2 e3 e4 e5 hs;have HO:=Lib.hid r7;obtain ⟨p,c,e7⟩:=own_val r7;have HBG:=Lib.hid hG;rw [e7] at HO;clear r6 r7 hG;rw [e7];go_wp2;go_ret2;exact ⟨_,rfl,own_base HO.out (by omega),join HB5.out HBG.out⟩
 ·have e1:sayE t lo hi=t.err:=by unfold sayE;rw [if_pos he]
  have e2:sayL t lo hi=[]:=by unfold sayL;rw [if_neg (by rw [e1];exact he)]
  rw [e1,e2];have HE:(t.err != 0)=true:=by simpa using he
  clear he e1 e2;generalize t.err=er at HC HE ⊢
  go_enter Tryz.func56,Tryz.ntmps56
  go_wp2_with fail
  refine (HC.out _ HB.out).mono ?_;rintro e w5 ⟨rfl,hB5⟩;have HX5:=Lib.hid ((hB5.block w.heap.size (Array.getElem?_eq_some_iff.1 HX.out).1).trans HX.out);have HY5:=Lib.hid ((hB5.block (w.heap.size+1) (Array.getElem?_eq_some_iff.1 HY.out).1).trans HY.out);have HB5:=Lib.hid (join HB.out hB5);clear hB5;obtain ⟨k0,k1,k2⟩:=blk3 HX5.out;have y0:=blk_cells HY5.out 0 _ rfl;have y1:=blk_cells HY5.out 1 _ rfl;go_wp2;go_ret2;exact ⟨_,rfl,own_none _ _ _ _,HB5.out⟩
end Go.Proofs.YtadnggecnjdhiaaGreat
namespace Go.Proofs.YtadnggecnjdhiaaGreat
open Go.RowKit Tx
attribute [local go_sem] Oper.semAt_some
theorem places_get (l:List Int) {k:Nat} (h:k≤l.length):(placesL l).getD k 0=isum (l.take k):=by
 unfold placesL;rw [List.getD_eq_getElem?_getD,List.getElem?_map,List.getElem?_range (by omega)];rfl
def spRa (ct A k B O m:Nat) (pt:Option Addr) (uw ul uh fa:Int) (tz:Int) (n:Nat) (r:Bool):Nat→List Value→Value→World→Prop
 | 0,_,v,_=>v=.pointer (some ⟨A,1,none⟩)
 | 1,_,v,_=>v=.slice (some ⟨B,O,none⟩) m ct
 | 2,_,v,_=>v=.int .i64 (k:Int)
 | 3,_,v,_=>v=.pointer (some ⟨B,O+k*3,none⟩)
 | 4,_,v,_=>v=.agg #[.int .i64 uw,.int .i64 ul,.int .i64 uh]
 | 5,_,v,_=>v=.int .i64 fa
 | 6,_,v,_=>v=.int .i64 tz
 | 7,L,v,w=>∃ p c,v=.slice p (wordsL fa n).length c∧Ints w p (wordsL fa n)
 | 8,_,v,_=>v=.bool r
 | _,_,_,_=>False
theorem spRa_stable (ct A k B O m:Nat) (pt:Option Addr) (uw ul uh fa:Int) (tz:Int) (n:Nat) (r:Bool):∀ i L v w w',spRa ct A k B O m pt uw ul uh fa tz n r i L v w→Rs.Gr w w'→spRa ct A k B O m pt uw ul uh fa tz n r i L v w':=by
 intro i L v w w' h hg
 match i with
 | 0=>exact h
 | 1=>exact h
 | 2=>exact h
 | 3=>exact h
 | 4=>exact h
 | 5=>exact h
 | 6=>exact h
 | 7=>obtain ⟨p,c,h1,h2⟩:=h;exact ⟨p,c,h1,h2.below hg⟩
 | 8=>exact h
set_option maxHeartbeats 6000000 in
set_option maxRecDepth 100000 in
theorem rAstray_any (t:Text) (l:List Int) (he:readErr t l=0) (hll:l.length≤100000) (pw pt pl:Option Addr) (cw ct cl:Nat) (w:World) (hW:TxAt w t pw pt) (hL:Ints w pl l) :
  Calls Tryz.prog 47 #[.agg #[.slice pw t.words.length cw,.slice pt t.turns.length ct,.int .i64 t.breath],.slice pl l.length cl] w fun e w' =>
   e=.returned (.tuple #[.int .i64 (astrayGo (placesL l) 0 t.turns).1,.agg #[.int .i64 (astrayGo (placesL l) 0 t.turns).2.1,.int .i64 (astrayGo (placesL l) 0 t.turns).2.2.1],.bool (decide ((astrayGo (placesL l) 0 t.turns).2.2.2=0))])∧Below w.heap.size w w':=by
 obtain ⟨h0,hx,hs⟩:=read_ok he;have ok:=err_ok h0;have hn12:=ok.n12;have hm6:=ok.m6;have HPRE:=Lib.hid (fun k=>isum_take_le (fun x h=>by have:=hx x h;omega) hs k);have HXS:=Lib.hid hx;have HU:=Lib.hid ok.turn;have HPL:Hid ((placesL l).length-1=l.length):=Lib.hid (by simp [placesL]);have HPG:=Lib.hid (fun k h=>places_get l (k:=k) h);obtain ⟨P,hP⟩:∃ P,P=placesL l:=⟨_,rfl⟩;rw [← hP] at HPL HPG ⊢;have HT:=Lib.hid hW.turns;have HL:=Lib.hid hL;have HB1:=below1 w (.cells #[.slice pw t.words.length cw,.slice pt t.turns.length ct,.int .i64 t.breath] 32);have HX:=Lib.hid (((below1 (w.alloc (.cells #[.slice pw t.words.length cw,.slice pt t.turns.length ct,.int .i64 t.breath] 32)) (.cells #[.int .i64 0,.int .i64 0] 58)).block w.heap.size (by simp)).trans (heap_last w _));have hy:=heap_last (w.alloc (.cells #[.slice pw t.words.length cw,.slice pt t.turns.length ct,.int .i64 t.breath] 32)) (.cells #[.int .i64 0,.int .i64 0] 58);rw [World.size_alloc] at hy;have HY:=Lib.hid hy;have HB:=Lib.hid (join HB1 (below1 _ (.cells #[.int .i64 0,.int .i64 0] 58)));have hsz:((w.alloc (.cells #[.slice pw t.words.length cw,.slice pt t.turns.length ct,.int .i64 t.breath] 32)).alloc (.cells #[.int .i64 0,.int .i64 0] 58)).heap.size=w.heap.size+2:=by simp
 clear hW hL hP hx hs ok h0 he HB1 hy
 go_enter Tryz.func47,Tryz.ntmps47
 go_wp2_with fail
 generalize (w.alloc (.cells #[.slice pw t.words.length cw,.slice pt t.turns.length ct,.int .i64 t.breath] 32)).alloc (.cells #[.int .i64 0,.int .i64 0] 58)=W1 at HB HX HY hsz ⊢
 go_loopw [7,8,9,10,11] (fun i _ _ _ _ wr=>∃ k:Nat,k≤t.turns.length∧i=.int .i64 k∧astrayGo P k (t.turns.drop k)=astrayGo P 0 t.turns∧Below W1.heap.size W1 wr) (fun i _ _ _ _ _=>t.turns.length-(intOf i).toNat)
 case atStart=>exact ⟨0,Nat.zero_le _,rfl,rfl,Below.refl _ _⟩
 case round =>
  obtain ⟨w3,rfl⟩:∃ w3:World,w3=wr:=⟨_,rfl⟩;obtain ⟨k,hk,rfl,hag,hB3⟩:=hrel;have HAG:=Lib.hid hag;have HB3:=Lib.hid hB3;have HX3:=Lib.hid ((hB3.block w.heap.size (by omega)).trans HX.out);have HY3:=Lib.hid ((hB3.block (w.heap.size+1) (by omega)).trans HY.out);obtain ⟨k0,k1,k2⟩:=blk3 HX3.out;have hz3:=hB3.size;clear hag hB3;by_cases hlt:k<t.turns.length
  ·have hlt':(k:Int)<t.turns.length:=by omega
   have HAT:=Lib.hid (astrayGo_at P t.turns k hlt);have hu:=HU.out (t.turns.getD k default) (getD_mem default hlt);rw [HPL.out] at HAT;go_wp2_with fail
   go_loopw [8,9,10,11] (fun f j _ _ w5=>∃ a:Nat,a≤l.length∧j=.int .i64 a∧f=.int .i64 (isum (l.take a))∧(∀ a' b',a'<a→a'≤b'→b'<l.length→runSays P (t.turns.getD k default) a' b'=false)∧Below w3.heap.size w3 w5) (fun _ j _ _ _=>l.length-(intOf j).toNat)
   case atStart=>exact ⟨0,Nat.zero_le _,rfl,by simp [isum],fun _ _ h=>absurd h (Nat.not_lt_zero _),Below.refl _ _⟩
   case round =>
    obtain ⟨w5,rfl⟩:∃ w5:World,w5=wr:=⟨_,rfl⟩;obtain ⟨a,ha,rfl,rfl,hA,hB5⟩:=hrel;have HA:=Lib.hid hA;have HB5:=Lib.hid hB5;have hz5:=hB5.size;clear hA;by_cases hal:a<l.length
    ·have hal':(a:Int)<l.length:=by omega
     have hfb:=HPRE.out a;have HFA:Hid (P.getD a 0=isum (l.take a)):=Lib.hid (HPG.out a (by omega));obtain ⟨fa,hfa⟩:∃ fa,fa=isum (l.take a):=⟨_,rfl⟩;have HFE:=Lib.hid hfa;rw [← hfa] at hfb HFA ⊢;clear hfa hB5;go_wp2_with fail
     go_loopw [10,11] (fun tv j w6=>∃ b:Nat,a≤b∧b≤l.length∧j=.int .i64 b∧tv=.int .i64 (isum (l.take b))∧(∀ b',a≤b'→b'<b→runSays P (t.turns.getD k default) a b'=false)∧Below w3.heap.size w3 w6) (fun _ j _=>l.length-(intOf j).toNat)
     case atStart=>exact ⟨a,Nat.le_refl _,by omega,rfl,by rw [HFE.out],fun b' h1 h2=>by omega,HB5.out⟩
     case round =>
      obtain ⟨w6,rfl⟩:∃ w6:World,w6=wr:=⟨_,rfl⟩;obtain ⟨bb,hab,hbl,rfl,rfl,hR,hB6⟩:=hrel;have HR:=Lib.hid hR;have HB6:=Lib.hid hB6;have hz6:=hB6.size;have HBw:=Lib.hid (HB.out.trans ((HB3.out.trans (hB6.mono (by omega))).mono (by omega)));have HXr:=Lib.hid ((hB6.block w.heap.size (by omega)).trans HX3.out);have HYr:=Lib.hid ((hB6.block (w.heap.size+1) (by omega)).trans HY3.out);clear hR hB6;by_cases hbm:bb<l.length
      ·have hbm':(bb:Int)<l.length:=by omega
       obtain ⟨lb,lo,x,rfl,hlb,hxx,d1⟩:=(HL.out.below HBw.out).at hbm;have hsn:isum (l.take (bb+1))=isum (l.take bb)+x:=by rw [take_snocD 0 hbm,isum_snoc,hxx]
       have hp1:=HPRE.out bb;have hp2:=HPRE.out (bb+1);have hpg:=HPG.out (bb+1) (by omega);have hmono:fa≤isum (l.take (bb+1)):=by
        rw [HFE.out,show bb+1=a+(bb+1-a) by omega,List.take_add,isum_append];have:=(isum_take_le (l:=(l.drop a).take (bb+1-a)) (fun y hy=>by have:=HXS.out y (List.mem_of_mem_drop (List.mem_of_mem_take hy));omega) rfl ((bb+1-a)));rw [List.take_take,Nat.min_self] at this;omega
       rw [hsn] at hp2 hpg hmono;have HSN:=Lib.hid hsn;have HPB:=Lib.hid hpg;generalize isum (l.take bb)=sb at hp1 hp2 HSN HPB hmono ⊢;clear hsn hpg hxx;go_wp2_with fail
       obtain ⟨tz,hto⟩:∃ tz,tz=sb+x:=⟨_,rfl⟩;have HTO:=Lib.hid hto;rw [← hto] at hp2 hmono HSN HPB ⊢;clear hto;obtain ⟨b,o,u,rfl,hsb0,huu,c1,c2,c3⟩:=(HT.out.below HBw.out).at hlt;rw [← huu] at hu HAT HR HA;have HUU:=Lib.hid huu;obtain ⟨uw,ul,uh⟩:=u;dsimp only at c1 c2 c3 hu;obtain ⟨n,hn⟩:∃ n:Nat,n=(tz-fa).toNat:=⟨_,rfl⟩;have HRS:Hid (runSays P ⟨uw,ul,uh⟩ a bb=(coreIn ⟨uw,ul,uh⟩ (wordsL fa n)&&!(wordsL fa n).contains uw)):=Lib.hid (by
        rw [otherwise_says ⟨uw,ul,uh⟩ (by dsimp only;omega),runSays,HFA.out,HPB.out,show fa+(n:Int)-1=tz-1 by omega])
       have HWO:Hid (∀ W,Calls Tryz.prog 98 #[.int .i64 fa,.int .i64 tz] W (RowPost (wordsL fa n) W)):=Lib.hid (fun W=>by
        have:=words_any fa tz (by omega) (by omega) W;rwa [← hn] at this)
       have hwl:(wordsL fa n).length≤1000000:=by rw [wordsL_length];omega
       have HOT:=Lib.hid (fun p c W hL=>otherwise_any ⟨uw,ul,uh⟩ (by dsimp only;omega) (wordsL fa n) hwl p c W hL);generalize (coreIn ⟨uw,ul,uh⟩ (wordsL fa n)&&!(wordsL fa n).contains uw)=r at HRS HOT;have hsU:w.heap.size<w6.heap.size:=by omega
       have hsb:b<w6.heap.size:=hsb0;have hkn:(k:Int)<t.turns.length:=hlt';have HC1:=Lib.hid c1;have HC2:=Lib.hid c2;have HC3:=Lib.hid c3;have HHU:=Lib.hid hu;have HD1:=Lib.hid d1;clear c1 c2 c3 huu hn hwl d1 k0 k1 k2 hu;refine Rs.region_gen 9 [[],[0],[],[0,1,2],[0,1,2,3],[],[],[5,6],[0,1,2,3,4,5,6,7]] [some 39,some 40,some 41,some 42,some 43,some 44,some 45,some 46,some 47] (spRa ct w.heap.size k b o t.turns.length (some ⟨b,o,none⟩) uw ul uh fa tz n r) (by kernel_rfl) (by kernel_rfl) rfl (spRa_stable _ _ _ _ _ _ _ _ _ _ _ _ _ _) ?_ ?_
       ·refine ⟨fun V w' hG hs=>?_,fun V w' hG hs=>?_,fun V w' hG hs=>?_,fun V w' hG hs=>?_,fun V w' hG hs=>?_,fun V w' hG hs=>?_,fun V w' hG hs=>?_,fun V w' hG hs=>?_,fun V w' hG hs=>?_,trivial⟩
        all_goals
         obtain ⟨bc,_⟩:=bcell hG;obtain ⟨k0,k1,k2⟩:=blk3 ((hG.block w.heap.size hsU).trans HXr.out);have c1:=(bc b (o+k*3) hsb).trans HC1.out;have c2:=(bc b (o+k*3+1) hsb).trans HC2.out;have c3:=(bc b (o+k*3+2) hsb).trans HC3.out;clear bc
        ·rw [if_pos (by rfl)];exact Rs.GrowL.value (v:=.pointer (some ⟨w.heap.size,1,none⟩)) (w':=w') (by simp [go_sem,Rs.look]) (Rs.Gr.refl _) rfl
        ·have e0:V 0=_:=hs 0 (by simp);rw [if_pos (by rfl)];exact Rs.GrowL.value (v:=.slice (some ⟨b,o,none⟩) t.turns.length ct) (w':=w') (by simp [go_sem,Rs.look,e0,k1]) (Rs.Gr.refl _) rfl
        ·rw [if_pos (by rfl)];exact Rs.GrowL.value (v:=.int .i64 (k:Int)) (w':=w') (by simp [go_sem,Rs.look]) (Rs.Gr.refl _) rfl
        ·have e0:V 0=_:=hs 0 (by simp);have e1:V 1=_:=hs 1 (by simp);have e2:V 2=_:=hs 2 (by simp);rw [if_pos (by rfl)];exact Rs.GrowL.value (v:=.pointer (some ⟨b,o+k*3,none⟩)) (w':=w') (by simp [go_sem,Rs.look,e0,e1,e2,hkn]) (Rs.Gr.refl _) rfl
        ·have e0:V 0=_:=hs 0 (by simp);have e1:V 1=_:=hs 1 (by simp);have e2:V 2=_:=hs 2 (by simp);have e3:V 3=_:=hs 3 (by simp);rw [if_pos (by rfl)];exact Rs.GrowL.value (v:=.agg #[.int .i64 uw,.int .i64 ul,.int .i64 uh]) (w':=w') (by simp [go_sem,Rs.look,e0,e1,e2,e3,c1,c2,c3]) (Rs.Gr.refl _) rfl
        ·rw [if_pos (by rfl)];exact Rs.GrowL.value (v:=.int .i64 fa) (w':=w') (by simp [go_sem,Rs.look]) (Rs.Gr.refl _) rfl
        ·rw [if_pos (by rfl)];exact Rs.GrowL.value (v:=.int .i64 tz) (w':=w') (by simp [go_sem,Rs.look]) (Rs.Gr.refl _) rfl
        ·have e5:V 5=_:=hs 5 (by simp);have e6:V 6=_:=hs 6 (by simp);rw [if_pos (by rfl)];refine Rs.GrowL.call (f:=98) (args:=#[.int .i64 fa,.int .i64 tz]) (by simp [go_sem,Rs.look,e5,e6]) ?_;refine (HWO.out w').mono ?_;rintro e w2 ⟨v,rfl,ho,hB2⟩;obtain ⟨p,c,rfl,hI,-⟩:=own_rd ho rfl;exact ⟨_,rfl,hB2,p,c,rfl,hI⟩
        ·have e0:V 0=_:=hs 0 (by simp);have e1:V 1=_:=hs 1 (by simp);have e2:V 2=_:=hs 2 (by simp);have e3:V 3=_:=hs 3 (by simp);have e4:V 4=_:=hs 4 (by simp);have e5:V 5=_:=hs 5 (by simp);have e6:V 6=_:=hs 6 (by simp);have r7:=hs 7 (by simp);rw [if_pos (by rfl)];obtain ⟨p,c,e7,hI⟩:=r7;refine Rs.GrowL.call (f:=97) (args:=#[.agg #[.int .i64 uw,.int .i64 ul,.int .i64 uh],.slice p (wordsL fa n).length c]) (by simp [go_sem,Rs.look,e4,e7]) ?_;refine (HOT.out p c w' hI).mono ?_;rintro e w2 ⟨rfl,hB2⟩;exact ⟨_,rfl,hB2,rfl⟩
       ·intro V w' hG hs;have e0:V 0=_:=hs 0 (by omega);have e1:V 1=_:=hs 1 (by omega);have e2:V 2=_:=hs 2 (by omega);have e3:V 3=_:=hs 3 (by omega);have e4:V 4=_:=hs 4 (by omega);have e5:V 5=_:=hs 5 (by omega);have e6:V 6=_:=hs 6 (by omega);have r7:=hs 7 (by omega);have e8:V 8=_:=hs 8 (by omega);simp only [Rs.canon,Rs.dstOf,List.range_succ,List.range_zero,List.nil_append,List.cons_append,List.foldl_cons,List.foldl_nil,List.drop_succ_cons,List.drop_zero,List.drop_nil,List.getElem?_toArray,List.getElem?_cons_succ,List.getElem?_cons_zero,Option.bind_some,Act.put,List.getD_cons_succ,List.getD_cons_zero,List.setIfInBounds_toArray,List.set_cons_succ,List.set_cons_zero];rw [e0,e1,e2,e3,e4,e5,e6,e8];clear e0 e1 e2 e3 e4 e5 e6 e8 hs;clear r7;have HBG:=Lib.hid hG;have hrb:=(hG.block (w.heap.size+1) (by omega)).trans HYr.out;have hzg:=hG.size;clear hG;cases r with
        | true =>
         have hfd:=runs_find (p:=fun a b=>runSays P ⟨uw,ul,uh⟩ a b) hab hbm HA.out HR.out HRS.out;have hfin:astrayGo P 0 t.turns=((k:Int),(a:Int),(bb:Int),0):=by rw [← HAG.out,HAT.out,hfd]
         have HFIN:=Lib.hid hfin;have r0:=blk_cells hrb 0 _ rfl;have r1:=blk_cells hrb 1 _ rfl;have z0:w'.frozen? ⟨w.heap.size+1,0,none⟩=false:=by simp [World.frozen?,hrb]
         have z1:w'.frozen? ⟨w.heap.size+1,1,none⟩=false:=by simp [World.frozen?,hrb]
         have hs1:w.heap.size+1<w'.heap.size:=by omega
         have HBW:=Lib.hid (join HBw.out HBG.out);clear hfd hfin hrb;go_wp2;refine bodyPost_ret (v:=.tuple #[.int .i64 k,.agg #[.int .i64 a,.int .i64 bb],.bool true]) (by simp [results,Tryz.results47,go_sem,r0,r1]) rfl ⟨by rw [HFIN.out];rfl,?_⟩
         repeat' (first | exact HBW.out | apply belS | apply belA | apply belD)
         all_goals first | omega | (simp;done) | (simp;omega)
        | false =>
         clear hrb;go_wp2;go_roundw
         case rel =>
          refine ⟨bb+1,by omega,by omega,by go_num,by rw [HSN.out],fun b' h1 h2=>?_,join HB6.out HBG.out⟩;rw [← HUU.out];by_cases hb':b'=bb
          ·subst hb';exact HRS.out
          ·exact HR.out b' h1 (by omega)
         case measure=>simp [intOf];omega
      ·obtain rfl:bb=l.length:=by omega
       obtain ⟨lb,lo,x,rfl,hlb,hxx,d1⟩:=(HL.out.below HBw.out).at hal;have hsn:isum (l.take (a+1))=fa+x:=by rw [take_snocD 0 hal,isum_snoc,hxx,HFE.out]
       have hp2:=HPRE.out (a+1);rw [hsn] at hp2;have HSN:=Lib.hid hsn;clear hsn hxx;go_wp2;go_roundw
       case rel =>
        refine ⟨a+1,by omega,by go_num,by rw [HSN.out],fun a' b' h1 h2 h3=>?_,HB6.out⟩;by_cases ha':a'=a
        ·subst ha';exact HR.out b' h2 h3
        ·exact HA.out a' b' (by omega) h2 h3
       case measure=>simp [intOf];omega
    ·obtain rfl:a=l.length:=by omega
     have hnone:=runs_none (p:=fun a b=>runSays P (t.turns.getD k default) a b) HA.out;have HN:=Lib.hid hnone;clear hnone;go_wp2;go_roundw
     case rel=>exact ⟨k+1,by omega,by go_num,by have:=HAT.out;rw [HN.out,HAG.out] at this;exact this.symm,join HB3.out HB5.out⟩
     case measure=>simp [intOf];omega
  ·obtain rfl:k=t.turns.length:=by omega
   have hfin:astrayGo P 0 t.turns=(0,0,0,6):=by rw [← HAG.out,List.drop_length];rfl
   have HFIN:=Lib.hid hfin;have r0:=blk_cells HY3.out 0 _ rfl;have r1:=blk_cells HY3.out 1 _ rfl;have z0:w3.frozen? ⟨w.heap.size+1,0,none⟩=false:=by simp [World.frozen?,HY3.out]
   have z1:w3.frozen? ⟨w.heap.size+1,1,none⟩=false:=by simp [World.frozen?,HY3.out]
   have hs1:w.heap.size+1<w3.heap.size:=by omega
   have HBW:=Lib.hid (join HB.out HB3.out);clear hfin;go_wp2;refine bodyPost_ret (v:=.tuple #[.int .i64 0,.agg #[.int .i64 0,.int .i64 0],.bool false]) (by simp [results,Tryz.results47,go_sem,r0,r1]) rfl ⟨by rw [HFIN.out];rfl,?_⟩
   repeat' (first | exact HBW.out | apply belS | apply belA | apply belD)
   all_goals first | omega | (simp;done) | (simp;omega)
end Go.Proofs.YtadnggecnjdhiaaGreat
namespace Go.Proofs.YtadnggecnjdhiaaGreat
open Go.RowKit Tx
attribute [local go_sem] Oper.semAt_some
def greatB (t:Text) (n:Int):Bool:=decide (20<t.words.length)||(decide (20<t.turns.length)||(decide (n<(t.words.length:Int))&&decide (t.words.length≤12)))
set_option maxHeartbeats 800000 in
theorem great_any (t:Text) (n:Int) (hl1:t.words.length≤9223372036854775807) (hl2:t.turns.length≤9223372036854775807) (pw pt:Option Addr) (cw ct:Nat) (w:World) :
  Calls Tryz.prog 5 #[.agg #[.slice pw t.words.length cw,.slice pt t.turns.length ct,.int .i64 t.breath],.int .i64 n] w fun e w'=>e=.returned (.bool (greatB t n))∧Below w.heap.size w w':=by
 have HG:=Lib.hid (show greatB t n=(decide (20<t.words.length)||(decide (20<t.turns.length)||(decide (n<(t.words.length:Int))&&decide (t.words.length≤12)))) from rfl);generalize greatB t n=gb at HG ⊢;generalize t.words.length=a at HG hl1 ⊢;generalize t.turns.length=b at HG hl2 ⊢;by_cases h1:20<a
 ·have h1':(20:Int)<a:=by omega
  have HF:Hid (gb=true):=Lib.hid (by rw [HG.out];simp [h1]);clear h1
  go_enter Tryz.func5,Tryz.ntmps5
  go_wp2;go_ret;exact ⟨by rw [HF.out];rfl,below1 _ _⟩
 ·have h1':¬ (20:Int)<a:=by omega
  by_cases h2:20<b
  ·have h2':(20:Int)<b:=by omega
   have HF:Hid (gb=true):=Lib.hid (by rw [HG.out];simp [h2]);clear h1 h2
   go_enter Tryz.func5,Tryz.ntmps5
   go_wp2;go_ret;exact ⟨by rw [HF.out];rfl,below1 _ _⟩
  ·have h2':¬ (20:Int)<b:=by omega
   by_cases h3:n<(a:Int)
   ·by_cases h4:a≤12
    ·have h4':(a:Int)≤12:=by omega
     have HF:Hid (gb=true):=Lib.hid (by rw [HG.out];simp [h3,h4]);clear h1 h2 h4
     go_enter Tryz.func5,Tryz.ntmps5
     go_wp2;go_ret;exact ⟨by rw [HF.out];rfl,below1 _ _⟩
    ·have h4':¬ (a:Int)≤12:=by omega
     have HF:Hid (gb=false):=Lib.hid (by rw [HG.out];simp [h1,h2,h4]);clear h1 h2 h4
     go_enter Tryz.func5,Tryz.ntmps5
     go_wp2;go_ret;exact ⟨by rw [HF.out];rfl,below1 _ _⟩
   ·have HF:Hid (gb=false):=Lib.hid (by rw [HG.out];simp [h1,h2,h3]);clear h1 h2
    go_enter Tryz.func5,Tryz.ntmps5
    go_wp2;go_ret;exact ⟨by rw [HF.out];rfl,below1 _ _⟩
end Go.Proofs.YtadnggecnjdhiaaGreat
namespace Go.Proofs.YtadnggecnjdhiaaGreat
open Go.RowKit Tx
theorem keepSense1_any (u:Turn) (hu:0≤u.lo∧u.lo≤u.hi∧u.hi≤1000) (l:List Int) (hll:l.length≤1000000) (p:Option Addr) (c A:Nat) (w:World) (hA:w.heap[A]?=some (.cells #[.slice p l.length c] 34 (0,0))) (hL:Ints w p l) :
  Calls Tryz.prog 134 #[.agg #[.int .i64 u.word,.int .i64 u.lo,.int .i64 u.hi],.pointer (some ⟨A,0,none⟩)] w fun e w'=>e=.returned (.bool (coreIn u l&&!l.contains u.word))∧Below w.heap.size w w':=by
 have hAl:=(Array.getElem?_eq_some_iff.1 hA).1;have c0:=blk_cells hA 0 _ rfl;have HCK:=Lib.hid (fun W (h:Below w.heap.size w W)=>coreKept_any u hu l hll p c W (hL.below h));have HCO:=Lib.hid (fun W (h:Below w.heap.size w W)=>contains_any l hll p c u.word W (hL.below h));obtain ⟨cv,hcv⟩:∃ cv,cv=l.contains u.word:=⟨_,rfl⟩;rw [← hcv] at HCO ⊢;clear hcv;obtain ⟨uw,ul,uh⟩:=u;dsimp only at HCK HCO ⊢;clear hA hL hu;cases hc:coreIn ⟨uw,ul,uh⟩ l with
 | true =>
  have HC:=Lib.hid hc;clear hc
  go_enter Tryz.func134,Tryz.ntmps134
  go_wp2_with fail
  refine (HCK.out _ (below1 _ _)).mono ?_;rintro e w5 ⟨rfl,hB5⟩;obtain ⟨hc5,hf5⟩:=bcell hB5;have hz5:w.heap.size<w5.heap.size∧A<w5.heap.size:=by have:=hB5.size;simp at this;omega
  obtain ⟨hz5,hz6⟩:=hz5;have HB5:=Lib.hid (join (below1 _ _) hB5);rw [HC.out];clear hB5;go_wp2_with fail
  refine (HCO.out _ HB5.out).mono ?_;rintro e w6 ⟨rfl,rfl⟩;go_wp2;go_ret;exact ⟨by rw [Bool.true_and];rfl,HB5.out⟩
 | false =>
  have HC:=Lib.hid hc;clear hc
  go_enter Tryz.func134,Tryz.ntmps134
  go_wp2_with fail
  refine (HCK.out _ (below1 _ _)).mono ?_;rintro e w5 ⟨rfl,hB5⟩;rw [HC.out];go_wp2;go_ret;exact ⟨rfl,join (below1 _ _) hB5⟩
theorem entered_keepSense1:Entered 134:=fun args W=>by kernel_rfl
def idxT (p:Turn→Bool) (ts:List Turn) (z:Int):Prop:=(z=-1∧ts.any p=false)∨(0≤z∧ts.any p=true)
set_option maxHeartbeats 1000000 in
set_option maxRecDepth 100000 in
theorem indexFuncT (F:FuncId) (hF:Entered F) (E:Value) (q:Turn→Bool) (ts:List Turn) (p:Option Addr) (c:Nat) (w:World) (hl:ts.length≤1000000) (hi:Tns w p ts) (hq:∀ W,Below w.heap.size w W→∀ u∈ts,Calls Tryz.prog F #[.agg #[.int .i64 u.word,.int .i64 u.lo,.int .i64 u.hi],E] W fun e w'=>e=.returned (.bool (q u))∧Below W.heap.size W w') :
  Calls Tryz.prog 145 #[.slice p ts.length c,.func (.func F) #[] #[E]] w fun e w'=>∃ z:Int,e=.returned (.int .i64 z)∧idxT q ts z∧Below w.heap.size w w':=by
 have HI:=Lib.hid hi;have HQ:=Lib.hid hq;have HF:=Lib.hid hF;clear hi hq hF
 go_enter Tryz.func145,Tryz.ntmps145
 go_wp2_with fail
 go_loopw [5,8] (fun u5 i wr=>∃ k:Nat,k≤ts.length∧i=.int .i64 k∧(ts.take k).any q=false∧Below w.heap.size w wr) (fun _ i _=>ts.length-(intOf i).toNat)
 case atStart=>exact ⟨0,Nat.zero_le _,rfl,rfl,Below.refl _ _⟩
 case round =>
  obtain ⟨k,hk,rfl,hA,hB⟩:=hrel;have HA:=Lib.hid hA;clear hA;by_cases hlt:k<ts.length
  ·have hlt':(k:Int)<ts.length:=by omega
   obtain ⟨b,o,x,rfl,hb,hxx,c1,c2,c3⟩:=(HI.out.below hB).at hlt;have HX:=Lib.hid hxx;have HB:=Lib.hid hB;have HASK:=Lib.hid (HQ.out _ hB x (by rw [hxx];exact getD_mem default hlt));clear hxx hB;go_wp2_with fail
   rw [HF.out,Oper.upon_enter];refine HASK.out.mono ?_;rintro e w5 ⟨rfl,hB5⟩;have HB5:=Lib.hid (join HB.out hB5);clear HASK hB5;cases hbad:q x with
   | true =>
    have HBAD:=Lib.hid hbad;clear hbad;go_wp2;go_ret;exact ⟨_,rfl,.inr ⟨by omega,any_hit default hlt _ (by rw [← HX.out];exact HBAD.out)⟩,HB5.out⟩
   | false =>
    have HBAD:=Lib.hid hbad;clear hbad;go_wp2;go_roundw
    case rel=>exact ⟨k+1,by omega,by go_num,any_snoc default hlt _ HA.out (by rw [← HX.out];exact HBAD.out),HB5.out⟩
    case measure=>simp [intOf];omega
  ·obtain rfl:k=ts.length:=by omega
   have HB:=Lib.hid hB;clear hB;go_wp2;go_ret;exact ⟨_,rfl,.inl ⟨rfl,by have:=HA.out;rwa [List.take_length] at this⟩,HB.out⟩
set_option maxHeartbeats 1000000 in
set_option maxRecDepth 100000 in
theorem containsFuncT (F:FuncId) (hF:Entered F) (E:Value) (q:Turn→Bool) (ts:List Turn) (p:Option Addr) (c:Nat) (w:World) (hl:ts.length≤1000000) (hi:Tns w p ts) (hq:∀ W,Below w.heap.size w W→∀ u∈ts,Calls Tryz.prog F #[.agg #[.int .i64 u.word,.int .i64 u.lo,.int .i64 u.hi],E] W fun e w'=>e=.returned (.bool (q u))∧Below W.heap.size W w') :
  Calls Tryz.prog 129 #[.slice p ts.length c,.func (.func F) #[] #[E]] w fun e w'=>e=.returned (.bool (ts.any q))∧Below w.heap.size w w':=by
 have HI:=Lib.hid (indexFuncT F hF E q ts p c w hl hi hq);clear hi hq
 go_enter Tryz.func129,Tryz.ntmps129
 go_wp2_with fail
 refine HI.out.mono ?_;rintro e w5 ⟨z,rfl,hz,hB5⟩;rcases hz with ⟨rfl,ha⟩ | ⟨h0,ha⟩
 ·have HA:=Lib.hid ha;clear ha;go_wp2;go_ret;exact ⟨by rw [HA.out];rfl,hB5⟩
 ·have HA:=Lib.hid ha;have hz0:decide (0≤z)=true:=by simpa using h0
  clear ha;go_wp2;go_ret;exact ⟨by rw [HA.out];rfl,hB5⟩
set_option maxHeartbeats 1000000 in
theorem keepSense_any (t:Text) (ok:Text.Ok t) (l:List Int) (hll:l.length≤1000000) (pt pl:Option Addr) (ct cl:Nat) (v0 v2 v3:Value) (w:World) (hT:Tns w pt t.turns) (hL:Ints w pl l) :
  Calls Tryz.prog 110 #[.agg #[v0,.slice pt t.turns.length ct,v2,v3],.slice pl l.length cl] w fun e w'=>e=.returned (.bool (t.keeps l))∧Below w.heap.size w w':=by
 have hmf:=mf;have hB2:Below w.heap.size w ((w.alloc (.cells #[v0,.slice pt t.turns.length ct,v2,v3] 84)).alloc (.cells #[.slice pl l.length cl] 34)):=(below1 _ _).alloc (by simp) _;have hx:((w.alloc (.cells #[v0,.slice pt t.turns.length ct,v2,v3] 84)).alloc (.cells #[.slice pl l.length cl] 34)).heap[w.heap.size+1]?=some (.cells #[.slice pl l.length cl] 34 (0,0)):=by
  have:=heap_last (w.alloc (.cells #[v0,.slice pt t.turns.length ct,v2,v3] 84)) (.cells #[.slice pl l.length cl] 34);rwa [World.size_alloc] at this
 have hcf:=containsFuncT 134 entered_keepSense1 (.pointer (some ⟨w.heap.size+1,0,none⟩)) (fun u=>coreIn u l&&!l.contains u.word) t.turns pt ct _ (by have:=ok.m6;omega) (hT.below hB2) (fun W h u hu=>by
  have:=ok.turn u hu;have:=ok.n12;exact keepSense1_any u ⟨by omega,by omega,by omega⟩ l hll pl cl (w.heap.size+1) W ((h.block _ (by simp)).trans hx) ((hL.below hB2).below h))
 obtain ⟨kv,hkv⟩:∃ kv,kv=t.turns.any (fun u=>coreIn u l&&!l.contains u.word):=⟨_,rfl⟩;rw [← hkv] at hcf;have HCF:=Lib.hid hcf;have HB2:=Lib.hid hB2;have HKV:=Lib.hid (show t.keeps l=!kv by rw [hkv];rfl);clear hcf hx hB2 hT hL hkv
 go_enter Tryz.func110,Tryz.ntmps110
 go_wp2_with fail
 refine HCF.out.mono ?_;rintro e w5 ⟨rfl,hB5⟩;go_wp2;go_ret;exact ⟨by rw [HKV.out];rfl,join HB2.out hB5⟩
end Go.Proofs.YtadnggecnjdhiaaGreat
namespace Go.Proofs.YtadnggecnjdhiaaGreat
open Go.RowKit Tx
attribute [local go_sem] Oper.semAt_some
structure ExC (w:World) (n cw:Nat) (pw:Option Addr) (v1 v2 mv:Value) (many A1 Yb A2 Xb g l:Nat) (L:List Int):Prop where
 mk_:w.heap[A1]?=some (.cells #[.int .i64 many] 3 (0,0))
 yl:w.heap[Yb]?=some (.cells #[.func (.yield l) #[] #[]] 53 (0,0))
 wk:w.heap[A2]?=some (.cells #[.slice pw n cw,v1,v2,mv] 84 (0,0))
 ex:w.heap[Xb]?=some (.cells #[.func (.func 142) #[] #[.pointer (some ⟨A1,0,none⟩),.pointer (some ⟨Yb,0,none⟩),.pointer (some ⟨A2,0,none⟩),.pointer (some ⟨Xb,0,none⟩)]] 149 (0,0))
 row:∃ R:List Int,w.heap[g]?=some (.cells (arrOf R) 3 (0,0))∧R.length=many∧R.take L.length=L
theorem ExC.hold {w w':World} {n cw:Nat} {pw:Option Addr} {v1 v2 mv:Value} {many A1 Yb A2 Xb g l:Nat} {L:List Int} (h:ExC w n cw pw v1 v2 mv many A1 Yb A2 Xb g l L) {Kp:Nat→Prop} (hh:Hold Kp w w') (hk:Kp A1∧Kp Yb∧Kp A2∧Kp Xb∧Kp g):ExC w' n cw pw v1 v2 mv many A1 Yb A2 Xb g l L:=by
 obtain ⟨R,hr,h1,h2⟩:=h.row;exact ⟨(hh.same A1 hk.1 (Array.getElem?_eq_some_iff.1 h.mk_).1).trans h.mk_,(hh.same Yb hk.2.1 (Array.getElem?_eq_some_iff.1 h.yl).1).trans h.yl,(hh.same A2 hk.2.2.1 (Array.getElem?_eq_some_iff.1 h.wk).1).trans h.wk,
  (hh.same Xb hk.2.2.2.1 (Array.getElem?_eq_some_iff.1 h.ex).1).trans h.ex,R,(hh.same g hk.2.2.2.2 (Array.getElem?_eq_some_iff.1 hr).1).trans hr,h1,h2⟩
theorem ExC.below {w w':World} {n cw:Nat} {pw:Option Addr} {v1 v2 mv:Value} {many A1 Yb A2 Xb g l:Nat} {L:List Int} (h:ExC w n cw pw v1 v2 mv many A1 Yb A2 Xb g l L) (hb:Below w.heap.size w w'):ExC w' n cw pw v1 v2 mv many A1 Yb A2 Xb g l L :=
 h.hold (Kp:=fun _=>True) (.below hb) ⟨trivial,trivial,trivial,trivial,trivial⟩
theorem ExC.shorter {w:World} {n cw:Nat} {pw:Option Addr} {v1 v2 mv:Value} {many A1 Yb A2 Xb g l:Nat} {L:List Int} {x:Int} (h:ExC w n cw pw v1 v2 mv many A1 Yb A2 Xb g l (L++[x])):ExC w n cw pw v1 v2 mv many A1 Yb A2 Xb g l L:=by
 obtain ⟨R,hr,h1,h2⟩:=h.row;refine ⟨h.mk_,h.yl,h.wk,h.ex,R,hr,h1,?_⟩;have:=congrArg (List.take L.length) h2;rw [List.take_take,List.take_left] at this;rwa [Nat.min_eq_left (by simp)] at this
theorem ExC.ints {w:World} {n cw:Nat} {pw:Option Addr} {v1 v2 mv:Value} {many A1 Yb A2 Xb g l:Nat} {L:List Int} (h:ExC w n cw pw v1 v2 mv many A1 Yb A2 Xb g l L):Ints w (some ⟨g,0,none⟩) L:=by
 obtain ⟨R,hr,h1,h2⟩:=h.row;refine .inr ⟨_,_,rfl,(Array.getElem?_eq_some_iff.1 hr).1,fun i hi=>?_⟩;have hR:L.length≤R.length:=by rw [← h2,List.length_take];omega
 rw [Nat.zero_add,blk_cells hr i _ (arrOf_get (by omega))]
 conv=>rhs;rw [← h2]
 simp [hi]
theorem ExC.push {w:World} {n cw:Nat} {pw:Option Addr} {v1 v2 mv:Value} {many A1 Yb A2 Xb g l:Nat} {L:List Int} (h:ExC w n cw pw v1 v2 mv many A1 Yb A2 Xb g l L) (x:Int) (hL:L.length<many) (hne:A1≠g∧Yb≠g∧A2≠g∧Xb≠g):ExC (w.setCell ⟨g,L.length,none⟩ (.int .i64 x)) n cw pw v1 v2 mv many A1 Yb A2 Xb g l (L++[x]):=by
 obtain ⟨R,hr,h1,h2⟩:=h.row;have hh:Hold (fun k=>k≠g) w (w.setCell ⟨g,L.length,none⟩ (.int .i64 x)):=Hold.setCell _ _ _ (fun h=>h rfl);refine ⟨(hh.same A1 hne.1 (Array.getElem?_eq_some_iff.1 h.mk_).1).trans h.mk_,(hh.same Yb hne.2.1 (Array.getElem?_eq_some_iff.1 h.yl).1).trans h.yl,(hh.same A2 hne.2.2.1 (Array.getElem?_eq_some_iff.1 h.wk).1).trans h.wk,
  (hh.same Xb hne.2.2.2 (Array.getElem?_eq_some_iff.1 h.ex).1).trans h.ex,R.set L.length x,by rw [heap_set_same _ hr,arrOf_set],by simp [h1],?_⟩
 rw [List.length_append,List.length_cons,List.length_nil];apply List.ext_getElem?;intro i;rw [List.getElem?_take,List.getElem?_set];by_cases hi:i<L.length
 ·rw [if_pos (by omega),if_neg (by omega),List.getElem?_append_left hi]
  conv=>rhs;rw [← h2]
  rw [List.getElem?_take,if_pos hi]
 ·by_cases hi2:i=L.length
  ·subst hi2;rw [if_pos (by omega),if_pos rfl,if_pos (by omega)];simp
  ·rw [if_neg (by omega),List.getElem?_eq_none (by simp;omega)]
def listsTo (n r a k:Nat):List (List Int):=(List.range' a (k-a)).flatMap fun x=>(Tx.lists n r (x+1)).map fun l=>(x:Int)::l
theorem listsTo_all (n r a:Nat):listsTo n r a n=Tx.lists n (r+1) a:=rfl
theorem listsTo_none (n r a:Nat):listsTo n r a a=[]:=by unfold listsTo;rw [Nat.sub_self];rfl
theorem listsTo_succ (n r a k:Nat) (h:a≤k):listsTo n r a (k+1)=listsTo n r a k++(Tx.lists n r (k+1)).map fun l=>(k:Int)::l:=by
 unfold listsTo;rw [show k+1-a=(k-a)+1 by omega,List.range'_concat,List.flatMap_append,show a+1*(k-a)=k by omega];simp
theorem listsTo_split (n r a k:Nat) (h:a≤k) (hk:k<n):∃ post,Tx.lists n (r+1) a=listsTo n r a k++((Tx.lists n r (k+1)).map fun l=>(k:Int)::l)++post:=by
 refine ⟨(List.range' (k+1) (n-k-1)).flatMap fun x=>(Tx.lists n r (x+1)).map fun l=>(x:Int)::l,?_⟩;rw [← listsTo_succ n r a k h,← listsTo_all];unfold listsTo;rw [← List.flatMap_append]
 congr 1
 have:=List.range'_append (s:=a) (m:=k+1-a) (n:=n-k-1) (step:=1);rw [show a+1*(k+1-a)=k+1 by omega,show (k+1-a)+(n-k-1)=n-a by omega] at this;exact this.symm
def SeeL (g many:Nat) (L:List Int) (vs:Array Value) (w:World):Prop:=vs=#[.slice (some ⟨g,0,none⟩) many many]∧L.length=many∧Ints w (some ⟨g,0,none⟩) L
def GEx (B0:Nat) (n cw:Nat) (pw:Option Addr) (v1 v2 mv:Value) (many A1 Yb A2 Xb g l:Nat) (L:List Int) (k:Nat) (w w':World):Prop :=
 Hold (fun j=>j≠g) w w'∧Below B0 w w'∧(ExC w n cw pw v1 v2 mv many A1 Yb A2 Xb g l L→ExC w' n cw pw v1 v2 mv many A1 Yb A2 Xb g l L)∧(ExC w n cw pw v1 v2 mv many A1 Yb A2 Xb g l (L++[(k:Int)])→ExC w' n cw pw v1 v2 mv many A1 Yb A2 Xb g l (L++[(k:Int)]))
theorem gEx (B0:Nat) (n cw:Nat) (pw:Option Addr) (v1 v2 mv:Value) (many A1 Yb A2 Xb g l:Nat) (L:List Int) (k:Nat):Rg.IsGr (GEx B0 n cw pw v1 v2 mv many A1 Yb A2 Xb g l L k) :=
 ⟨fun w=>⟨.refl _ _,.refl _ _,id,id⟩,fun h h'=>⟨h.1.trans h'.1,h.2.1.trans h'.2.1,fun x=>h'.2.2.1 (h.2.2.1 x),fun x=>h'.2.2.2 (h.2.2.2 x)⟩,
  fun w=>⟨⟨rfl,rfl,rfl,Nat.le_refl _,fun _ _ _=>rfl⟩,⟨rfl,rfl,rfl,Nat.le_refl _,fun _ _=>rfl⟩,fun x=>⟨x.mk_,x.yl,x.wk,x.ex,x.row⟩,fun x=>⟨x.mk_,x.yl,x.wk,x.ex,x.row⟩⟩⟩
def spLs (n cw:Nat) (pw:Option Addr) (v1 v2 mv:Value) (many A1 Yb A2 Xb g l:Nat) (Lx:List Int) (k:Nat):Nat→List Value→Value→World→Prop
 | 0,_,v,_=>v=.func (.func 142) #[] #[.pointer (some ⟨A1,0,none⟩),.pointer (some ⟨Yb,0,none⟩),.pointer (some ⟨A2,0,none⟩),.pointer (some ⟨Xb,0,none⟩)]
 | 1,_,v,_=>v=.slice (some ⟨g,0,none⟩) Lx.length many
 | 2,_,v,_=>v=.int .i64 k
 | 3,L,v,w=>∃ p,v=.slice (some ⟨p,0,none⟩) 1 1∧p≠g∧w.heap[p]?=some (.cells #[.int .i64 k] 3 (0,0))
 | 4,L,v,w=>v=.slice (some ⟨g,0,none⟩) (Lx.length+1) many∧ExC w n cw pw v1 v2 mv many A1 Yb A2 Xb g l (Lx++[(k:Int)])
 | 5,_,v,_=>v=.int .i64 k
 | 6,_,v,_=>v=.int .i64 ((k:Int)+1)
 | _,_,_,_=>False
theorem spLs_stable (B0:Nat) (n cw:Nat) (pw:Option Addr) (v1 v2 mv:Value) (many A1 Yb A2 Xb g l:Nat) (Lx:List Int) (k:Nat):∀ i L v w w',spLs n cw pw v1 v2 mv many A1 Yb A2 Xb g l Lx k i L v w→GEx B0 n cw pw v1 v2 mv many A1 Yb A2 Xb g l Lx k w w'→spLs n cw pw v1 v2 mv many A1 Yb A2 Xb g l Lx k i L v w':=by
 intro i L v w w' h hg
 match i with
 | 0=>exact h
 | 1=>exact h
 | 2=>exact h
 | 3=>obtain ⟨p,h1,h2,h3⟩:=h;exact ⟨p,h1,h2,(hg.1.same p h2 (Array.getElem?_eq_some_iff.1 h3).1).trans h3⟩
 | 4=>exact ⟨h.1,hg.2.2.2 h.2⟩
 | 5=>exact h
 | 6=>exact h
set_option maxHeartbeats 2000000 in
set_option maxRecDepth 100000 in
theorem extend_in (n cw:Nat) (pw:Option Addr) (v1 v2 mv:Value) (many A1 Yb A2 Xb g l:Nat) (hn:n≤12) (hmany:many≤12) (Kp:Nat→Prop) (hK:Kp A1∧Kp Yb∧Kp A2∧Kp Xb∧Kp g) (hne:A1≠g∧Yb≠g∧A2≠g∧Xb≠g) (B0:Nat) (hB0:B0≤g) (LL:List (List Int))
  (J Jx:List (List Int)→World→Prop) (hJ:Low B0 J)
  (hY:∀ m' pre x post vs W,LL=pre++x::post→SeeL g many x vs W→J pre W→YieldAt Fence.wide m' Tryz.prog l vs W fun e W' =>
   (e=.returned (.bool true)∧J (pre++[x]) W'∧Hold Kp W W')∨(e=.returned (.bool false)∧Jx (pre++[x]) W'∧Hold Kp W W')) :
  ∀ (r m a:Nat) (L:List Int) (pre post:List (List Int)) (W:World),L.length+r=many→a≤n→B0≤W.heap.size→ExC W n cw pw v1 v2 mv many A1 Yb A2 Xb g l L→J pre W→LL=pre++(Tx.lists n r a).map (L++·)++post →
   CallsIn Fence.wide m Tryz.prog 142 #[.slice (some ⟨g,0,none⟩) L.length many,.int .i64 a,.pointer (some ⟨A1,0,none⟩),.pointer (some ⟨Yb,0,none⟩),.pointer (some ⟨A2,0,none⟩),.pointer (some ⟨Xb,0,none⟩)] W fun e W' =>
    (e=.returned (.bool true)∧J (pre++(Tx.lists n r a).map (L++·)) W'∧ExC W' n cw pw v1 v2 mv many A1 Yb A2 Xb g l L∧W.heap.size≤W'.heap.size)∨(e=.returned (.bool false)∧∃ q,Jx q W'):=by
 intro r
 induction r with
 | zero =>
  intro m a L pre post W hLr han hBW hC hJp hLL;have hll:(Tx.lists n 0 a).map (L++·)=[L]:=by simp [Tx.lists]
  rw [hll] at hLL ⊢;have hLm:L.length=many:=by omega
  obtain ⟨fn,tmps,assign,body,hy,hR⟩:=hY (m-1) pre L post #[.slice (some ⟨g,0,none⟩) many many] W (by rw [hLL];simp) ⟨rfl,hLm,hC.ints⟩ hJp;have c1:=blk_cells hC.mk_ 0 _ rfl;have c2:=blk_cells hC.yl 0 _ rfl;have hs1:=(Array.getElem?_eq_some_iff.1 hC.mk_).1;have hs2:=(Array.getElem?_eq_some_iff.1 hC.yl).1;have HC:=Lib.hid hC;have HLL:=Lib.hid hLL;rw [hLm];clear hC hLL hll hLr hLm;refine callsIn_of_wp Tryz.func142 rfl trivial ?_ rfl;simp only [Tryz.ntmps142,List.size_toArray,List.length_cons,List.length_nil,Nat.reduceAdd,Nat.reduceSub,Array.replicate_succ,Array.replicate_zero,List.push_toArray,List.append_toArray,List.nil_append,List.cons_append]
  gi_wp2
  refine ⟨(fun h=>by cases h),hR.mono ?_⟩;rintro e W3 (⟨rfl,hJ3,hk3⟩ | ⟨rfl,hJx3,hk3⟩)
  ·gi_wp2
   go_ret;exact .inl ⟨rfl,hJ3,HC.out.hold hk3 hK,hk3.size⟩
  ·gi_wp2
   go_ret;exact .inr ⟨rfl,_,hJx3⟩
 | succ r ih =>
  intro m a L pre post W hLr han hBW hC hJp hLL;have hLm:L.length<many:=by omega
  have hLm':((L.length:Int) == (many:Int))=false:=by rw [beq_eq_false_iff_ne];omega
  have HY:=Lib.hid hY;have HIH:=Lib.hid ih;have HLL:=Lib.hid hLL;have HC:=Lib.hid hC;have HJ:=Lib.hid hJ;have HJp:=Lib.hid hJp;have c1:=blk_cells hC.mk_ 0 _ rfl;have hs1:=(Array.getElem?_eq_some_iff.1 hC.mk_).1;clear hY ih hLL hC hJ hJp;refine callsIn_of_wp Tryz.func142 rfl trivial ?_ rfl;simp only [Tryz.ntmps142,List.size_toArray,List.length_cons,List.length_nil,Nat.reduceAdd,Nat.reduceSub,Array.replicate_succ,Array.replicate_zero,List.push_toArray,List.append_toArray,List.nil_append,List.cons_append]
  gi_wp2_with fail
  gi_loopw [9] (fun u wr=>∃ k:Nat,u=.int .i64 k∧a≤k∧k≤n∧J (pre++(listsTo n r a k).map (L++·)) wr∧ExC wr n cw pw v1 v2 mv many A1 Yb A2 Xb g l L∧W.heap.size≤wr.heap.size) (fun u _=>n-(intOf u).toNat)
  case atStart=>exact ⟨a,rfl,Nat.le_refl _,han,by rw [listsTo_none];simpa using HJp.out,HC.out,Nat.le_refl _⟩
  case round =>
   obtain ⟨k,rfl,hak,hkn,hJr,hCr,hsz⟩:=hrel;have HJr:=Lib.hid hJr;have HCr:=Lib.hid hCr;have k0:=blk_cells hCr.wk 0 _ rfl;have hs2:=(Array.getElem?_eq_some_iff.1 hCr.wk).1;clear hJr hCr c1 hs1;by_cases hlt:k<n
   ·have hlt':(k:Int)<n:=by omega
    gi_wp2_with fail
    refine wpIn_wide.2 ?_;obtain ⟨i0,hi0,hz0,hz1,hz2⟩:=info_parts A_infoI;have hsum:IntKind.i64.wrap ((k:Int)+1)=(k:Int)+1:=IntWalk.i64_in _ (by omega);have hkB:B0≤wr.heap.size:=by omega
    refine Rg.region_gen (gEx B0 n cw pw v1 v2 mv many A1 Yb A2 Xb g l L k) 7 [[],[],[],[2],[1,2,3],[],[5]] [some 26,some 27,some 28,some 29,some 30,some 31,some 32] (spLs n cw pw v1 v2 mv many A1 Yb A2 Xb g l L k) (by kernel_rfl) (by kernel_rfl) rfl (spLs_stable _ _ _ _ _ _ _ _ _ _ _ _ _ _ _ _) ?_ ?_
    ·refine ⟨fun V w' hG hs=>?_,fun V w' hG hs=>?_,fun V w' hG hs=>?_,fun V w' hG hs=>?_,fun V w' hG hs=>?_,fun V w' hG hs=>?_,fun V w' hG hs=>?_,trivial⟩
     all_goals
      have hCw:=hG.2.2.1 HCr.out;have cx:=blk_cells hCw.ex 0 _ rfl
     ·rw [if_pos (by rfl)];exact Rg.GrowL.value (v:=.func (.func 142) #[] #[.pointer (some ⟨A1,0,none⟩),.pointer (some ⟨Yb,0,none⟩),.pointer (some ⟨A2,0,none⟩),.pointer (some ⟨Xb,0,none⟩)]) (w':=w') (by simp [go_sem,Rs.look,cx]) ((gEx _ _ _ _ _ _ _ _ _ _ _ _ _ _ _ _).refl _) rfl
     ·rw [if_pos (by rfl)];exact Rg.GrowL.value (v:=.slice (some ⟨g,0,none⟩) L.length many) (w':=w') (by simp [go_sem,Rs.look]) ((gEx _ _ _ _ _ _ _ _ _ _ _ _ _ _ _ _).refl _) rfl
     ·rw [if_pos (by rfl)];exact Rg.GrowL.value (v:=.int .i64 k) (w':=w') (by simp [go_sem,Rs.look]) ((gEx _ _ _ _ _ _ _ _ _ _ _ _ _ _ _ _).refl _) rfl
     ·have e2:V 2=_:=hs 2 (by simp);rw [if_pos (by rfl)];refine Rg.GrowL.value (v:=.slice (some ⟨w'.heap.size,0,none⟩) 1 1) (w':=w'.alloc (.cells #[.int .i64 k] 3)) (by simp [go_sem,Rs.look,e2]) ⟨.below (below1 _ _),belA (Below.refl _ _) (by have:=hG.2.1.size;omega),fun h=>h.below (below1 _ _),fun h=>h.below (below1 _ _)⟩ ⟨_,rfl,?_,heap_last _ _⟩;obtain ⟨R,hr,_⟩:=(hG.2.2.1 HCr.out).row;have:=(Array.getElem?_eq_some_iff.1 hr).1;omega
     ·have e1:V 1=_:=hs 1 (by simp);have e2:V 2=_:=hs 2 (by simp);have r3:=hs 3 (by simp);rw [if_pos (by rfl)];obtain ⟨p3,e3,hp3,x3⟩:=r3;have hCn:=hG.2.2.1 HCr.out;obtain ⟨R,hr,hR1,hR2⟩:=hCn.row;have hcell:=blk_cells hr L.length _ (arrOf_get (by omega));have hrun:=run_append_room_cells (P:=Tryz.prog) w' 34 34 3 i0 A_undI hi0 g 0 L.length many ⟨p3,0,none⟩ 1 1 [.int .i64 k] (by rw [hz1];rfl) (fun j u hj=>by match j,hj with | 0,hj=>(simp at hj;subst hj;exact blk_cells x3 0 _ rfl)) (by intro u hu;simp at hu;subst hu;rfl) (by omega) (fun j hj=>by simp at hj;subst hj;rw [hz1];simp [hcell]) (fun j hj=>by simp at hj;subst hj;rw [hz1];simp [World.frozen?,hr]);rw [hz1] at hrun;refine Rg.GrowL.value (v:=.slice (some ⟨g,0,none⟩) (L.length+1) many) (w':=w'.setCell ⟨g,L.length,none⟩ (.int .i64 k)) ?_ ⟨Hold.setCell _ _ _ (fun h=>h rfl),belS (Below.refl _ _) hB0,fun h=>(h.push (k:Int) hLm hne).shorter,fun h=>h.shorter.push (k:Int) hLm hne⟩ ⟨rfl,hCn.push (k:Int) hLm hne⟩;simp [execOp,Rs.look,e1,e3,resolve,invoke,builtin,hrun,Result.andThen];rfl
     ·rw [if_pos (by rfl)];exact Rg.GrowL.value (v:=.int .i64 k) (w':=w') (by simp [go_sem,Rs.look]) ((gEx _ _ _ _ _ _ _ _ _ _ _ _ _ _ _ _).refl _) rfl
     ·have e5:V 5=_:=hs 5 (by simp);rw [if_pos (by rfl)];exact Rg.GrowL.value (v:=.int .i64 ((k:Int)+1)) (w':=w') (by simp [go_sem,Rs.look,e5,hsum]) ((gEx _ _ _ _ _ _ _ _ _ _ _ _ _ _ _ _).refl _) rfl
    ·intro V w' hG hs;have e0:V 0=_:=hs 0 (by omega);have e1:V 1=_:=hs 1 (by omega);have e2:V 2=_:=hs 2 (by omega);have r3:=hs 3 (by omega);have r4:=hs 4 (by omega);have e5:V 5=_:=hs 5 (by omega);have e6:V 6=_:=hs 6 (by omega);obtain ⟨p3,e3,hp3,x3⟩:=r3;obtain ⟨e4,hC4⟩:=r4;simp only [Rs.canon,Rs.dstOf,List.range_succ,List.range_zero,List.nil_append,List.cons_append,List.foldl_cons,List.foldl_nil,List.drop_succ_cons,List.drop_zero,List.drop_nil,List.getElem?_toArray,List.getElem?_cons_succ,List.getElem?_cons_zero,Option.bind_some,Act.put,List.getD_cons_succ,List.getD_cons_zero,List.setIfInBounds_toArray,List.set_cons_succ,List.set_cons_zero];rw [e0,e1,e2,e5,e6,e3,e4];clear e0 e1 e2 e5 e6 e3 e4 hs;obtain ⟨post1,hsp⟩:=listsTo_split n r a k hak hlt;have hLL':LL=(pre++(listsTo n r a k).map (L++·))++(Tx.lists n r (k+1)).map ((L++[(k:Int)])++·)++(post1.map (L++·)++post):=by
      rw [HLL.out,hsp];simp [List.map_append,List.map_map,Function.comp_def]
     have hcall:=callsIn_wide.1 (HIH.out 0 (k+1) (L++[(k:Int)]) (pre++(listsTo n r a k).map (L++·)) (post1.map (L++·)++post) w' (by simp;omega) (by omega) (by have:=hG.2.1.size;omega) hC4 (HJ.out _ _ _ HJr.out hG.2.1) hLL');rw [List.length_append,List.length_cons,List.length_nil,Nat.zero_add,show ((k+1:Nat):Int)=(k:Int)+1 from by omega] at hcall;have HCALL:=Lib.hid hcall;have HG:=Lib.hid hG;have hg1:=hG.1.size;have HSP:=Lib.hid (listsTo_succ n r a k hak);clear hLL' hsp hcall hG hC4 x3 k0;go_wp2_with fail
     refine HCALL.out.mono ?_;rintro e w9 (⟨rfl,hJ9,hC9,hs9⟩ | ⟨rfl,q,hx⟩)
     ·have HJ9:=Lib.hid hJ9;have HC9:=Lib.hid hC9;clear hJ9 hC9;go_wp2_with fail
      gi_wp2
      go_roundw
      case rel =>
       refine ⟨k+1,by go_num,by omega,by omega,?_,HC9.out.shorter,by omega⟩;have h9:=HJ9.out;rw [HSP.out,List.map_append,← List.append_assoc];have hmm:((Tx.lists n r (k+1)).map fun l=>(k:Int)::l).map (L++·)=(Tx.lists n r (k+1)).map ((L++[(k:Int)])++·):=by
        simp [List.map_map,Function.comp_def]
       rw [hmm];exact h9
      case measure=>simp [intOf];omega
     ·have HXX:=Lib.hid hx;clear hx;go_wp2_with fail
      gi_wp2
      go_ret;exact .inr ⟨rfl,_,HXX.out⟩
   ·obtain rfl:k=n:=by omega
    gi_wp2
    go_ret;exact .inl ⟨rfl,by rw [← listsTo_all];exact HJr.out,HCr.out,hsz⟩
theorem yieldAt_any {m m':Nat} {P:Program} {l:Nat} {args:Array Value} {W:World} {R:Ending→World→Prop} (h:YieldAt Fence.wide m P l args W R):YieldAt Fence.wide m' P l args W R:=by
 obtain ⟨fn,tmps,assign,body,hy,hR⟩:=h;exact ⟨fn,tmps,assign,body,hy,hR.1,fun c cs _=>hR.2 c cs (room_wide _)⟩
theorem make_cap (n:Nat) (hn:n≤1000000) (W:World):(Instr.makeSlice 34 (.int .i64 0) (.int .i64 (n:Int))).run Tryz.prog W=.ok (.slice (some ⟨W.heap.size,0,none⟩) 0 n) (W.alloc (.cells (arrOf (List.replicate n 0)) 3)):=by
 obtain ⟨i0,hi,hz0,hz1,hz2⟩:=info_parts A_infoI;have hr:=run_make (P:=Tryz.prog) W 34 3 i0 (.int .i64 0) A_undI hi hz0 .i64 .i64 0 n (by omega) (by omega) (by rw [hz2];omega) (by omega);simp only [Int.toNat_natCast,hz1,Nat.mul_one] at hr;rw [show (Value.int IntKind.i64 0).cells=#[.int .i64 0] from rfl,made_int] at hr;exact hr
def SeeLs (many:Nat) (L:List Int) (vs:Array Value) (w:World):Prop:=∃ g,SeeL g many L vs w
def spLt (A1 Yb A2 Xb many B:Nat):Nat→List Value→Value→World→Prop
 | 0,_,v,_=>v=.func (.func 142) #[] #[.pointer (some ⟨A1,0,none⟩),.pointer (some ⟨Yb,0,none⟩),.pointer (some ⟨A2,0,none⟩),.pointer (some ⟨Xb,0,none⟩)]
 | 1,_,v,_=>v=.int .i64 many
 | 2,L,v,w=>∃ p,v=.slice (some ⟨p,0,none⟩) 0 many∧B≤p∧w.heap[p]?=some (.cells (arrOf (List.replicate many 0)) 3 (0,0))
 | _,_,_,_=>False
theorem spLt_stable (A1 Yb A2 Xb many B:Nat):∀ i L v w w',spLt A1 Yb A2 Xb many B i L v w→Rs.Gr w w'→spLt A1 Yb A2 Xb many B i L v w':=by
 intro i L v w w' h hg
 match i with
 | 0=>exact h
 | 1=>exact h
 | 2=>obtain ⟨p,h1,h2,h3⟩:=h;exact ⟨p,h1,h2,(hg.block p (Array.getElem?_eq_some_iff.1 h3).1).trans h3⟩
set_option maxHeartbeats 1000000 in
set_option maxRecDepth 100000 in
theorem lists1_seq (m n cw many:Nat) (hn:n≤12) (hmany:many≤12) (pw:Option Addr) (v1 v2 mv:Value) (A1 A2:Nat) (w:World) (Kp0:Nat→Prop) (hA:Kp0 A1∧Kp0 A2)
  (h1:w.heap[A1]?=some (.cells #[.int .i64 many] 3 (0,0))) (h2:w.heap[A2]?=some (.cells #[.slice pw n cw,v1,v2,mv] 84 (0,0))) :
  SeqOf m Tryz.prog 141 #[.pointer (some ⟨A1,0,none⟩),.pointer (some ⟨A2,0,none⟩)] (SeeLs many) Kp0 (Tx.lists n many 0) w:=by
 intro l J Jx W hb hJ hY h0;have hl1:=(Array.getElem?_eq_some_iff.1 h1).1;have hl2:=(Array.getElem?_eq_some_iff.1 h2).1;have g1:=(hb.block A1 hl1).trans h1;have g2:=(hb.block A2 hl2).trans h2;have hbs:=hb.size;have c1:=blk_cells g1 0 _ rfl;have hW1:A1<W.heap.size:=by omega
 have HMK:=Lib.hid (make_cap many (by omega));have hmf:=mf;refine callsIn_of_wp Tryz.func141 rfl trivial ?_ rfl;simp only [Tryz.ntmps141,List.size_toArray,List.length_cons,List.length_nil,Nat.reduceAdd,Nat.reduceSub,Array.replicate_succ,Array.replicate_zero,List.push_toArray,List.append_toArray,List.nil_append,List.cons_append]
 gi_wp2_with fail
 refine wpIn_wide.2 ?_;have hy2:((W.alloc (.cells #[.func (.yield l) #[] #[]] 53)).alloc (.cells #[.func (.func 142) #[] #[.pointer (some ⟨A1,0,none⟩),.pointer (some ⟨W.heap.size,0,none⟩),.pointer (some ⟨A2,0,none⟩),.pointer (some ⟨W.heap.size+1,0,none⟩)]] 149)).heap[W.heap.size]?=some (.cells #[.func (.yield l) #[] #[]] 53 (0,0)):=by
  rw [Below.heap_alloc _ _ _ (by simp)];exact heap_last _ _
 have hx2:=heap_last (W.alloc (.cells #[.func (.yield l) #[] #[]] 53)) (.cells #[.func (.func 142) #[] #[.pointer (some ⟨A1,0,none⟩),.pointer (some ⟨W.heap.size,0,none⟩),.pointer (some ⟨A2,0,none⟩),.pointer (some ⟨W.heap.size+1,0,none⟩)]] 149);rw [World.size_alloc] at hx2;have hb2:Below W.heap.size W ((W.alloc (.cells #[.func (.yield l) #[] #[]] 53)).alloc (.cells #[.func (.func 142) #[] #[.pointer (some ⟨A1,0,none⟩),.pointer (some ⟨W.heap.size,0,none⟩),.pointer (some ⟨A2,0,none⟩),.pointer (some ⟨W.heap.size+1,0,none⟩)]] 149)):=(below1 _ _).alloc (by simp) _;have hz2:((W.alloc (.cells #[.func (.yield l) #[] #[]] 53)).alloc (.cells #[.func (.func 142) #[] #[.pointer (some ⟨A1,0,none⟩),.pointer (some ⟨W.heap.size,0,none⟩),.pointer (some ⟨A2,0,none⟩),.pointer (some ⟨W.heap.size+1,0,none⟩)]] 149)).heap.size=W.heap.size+2:=by simp
 generalize (W.alloc (.cells #[.func (.yield l) #[] #[]] 53)).alloc (.cells #[.func (.func 142) #[] #[.pointer (some ⟨A1,0,none⟩),.pointer (some ⟨W.heap.size,0,none⟩),.pointer (some ⟨A2,0,none⟩),.pointer (some ⟨W.heap.size+1,0,none⟩)]] 149)=W2 at hy2 hx2 hb2 hz2 ⊢;have HY2:=Lib.hid hy2;have HX2:=Lib.hid hx2;have HB2:=Lib.hid hb2;have HG1:=Lib.hid g1;have HG2:=Lib.hid g2;clear hy2 hx2 hb2 c1 g1 g2;refine Rs.region_gen 3 [[],[],[1]] [some 6,some 7,some 8] (spLt A1 W.heap.size A2 (W.heap.size+1) many W2.heap.size) (by kernel_rfl) (by kernel_rfl) rfl (spLt_stable _ _ _ _ _ _) ?_ ?_
 ·refine ⟨fun V w' hG hs=>?_,fun V w' hG hs=>?_,fun V w' hG hs=>?_,trivial⟩
  all_goals
   have cx:=blk_cells ((hG.block (W.heap.size+1) (by omega)).trans HX2.out) 0 _ rfl;have cm:=blk_cells ((hG.block A1 (by omega)).trans ((HB2.out.block A1 hW1).trans HG1.out)) 0 _ rfl
  ·rw [if_pos (by rfl)];exact Rs.GrowL.value (v:=.func (.func 142) #[] #[.pointer (some ⟨A1,0,none⟩),.pointer (some ⟨W.heap.size,0,none⟩),.pointer (some ⟨A2,0,none⟩),.pointer (some ⟨(W.heap.size+1),0,none⟩)]) (w':=w') (by simp [go_sem,Rs.look,cx]) (Rs.Gr.refl _) rfl
  ·rw [if_pos (by rfl)];exact Rs.GrowL.value (v:=.int .i64 many) (w':=w') (by simp [go_sem,Rs.look,cm]) (Rs.Gr.refl _) rfl
  ·have e1:V 1=_:=hs 1 (by simp);rw [if_pos (by rfl)];have hmk:=HMK.out w';exact Rs.GrowL.value (v:=.slice (some ⟨w'.heap.size,0,none⟩) 0 many) (w':=w'.alloc (.cells (arrOf (List.replicate many 0)) 3)) (by simp [go_sem,Rs.look,e1,hmk]) (below1 _ _) ⟨_,rfl,hG.size,heap_last _ _⟩
 ·intro V w' hG hs;have e0:V 0=_:=hs 0 (by omega);have e1:V 1=_:=hs 1 (by omega);have r2:=hs 2 (by omega);obtain ⟨p2,e2,hpB,hp2⟩:=r2;simp only [Rs.canon,Rs.dstOf,List.range_succ,List.range_zero,List.nil_append,List.cons_append,List.foldl_cons,List.foldl_nil,List.drop_succ_cons,List.drop_zero,List.drop_nil,List.getElem?_toArray,List.getElem?_cons_succ,List.getElem?_cons_zero,Option.bind_some,Act.put,List.getD_cons_succ,List.getD_cons_zero,List.setIfInBounds_toArray,List.set_cons_succ,List.set_cons_zero];rw [e0,e1,e2];clear e0 e1 e2 hs;have hgz:=hG.size;have hex:ExC w' n cw pw v1 v2 mv many A1 W.heap.size A2 (W.heap.size+1) p2 l [] :=
   ⟨(hG.block A1 (by omega)).trans ((HB2.out.block A1 hW1).trans HG1.out),(hG.block W.heap.size (by omega)).trans HY2.out,(hG.block A2 (by omega)).trans ((HB2.out.block A2 (by omega)).trans HG2.out),(hG.block (W.heap.size+1) (by omega)).trans HX2.out,_,hp2,by simp,rfl⟩
  have hJ0:=hJ _ _ _ h0 (HB2.out.trans (hG.mono (by omega)));have hcall:=callsIn_wide.1 (extend_in n cw pw v1 v2 mv many A1 W.heap.size A2 (W.heap.size+1) p2 l hn hmany (fun k=>(Kp0 k∧k<w.heap.size)∨W.heap.size≤k) ⟨.inl ⟨hA.1,hl1⟩,.inr (Nat.le_refl _),.inl ⟨hA.2,hl2⟩,.inr (by omega),.inr (by omega)⟩
   ⟨by omega,by omega,by omega,by omega⟩ W.heap.size (by omega) (Tx.lists n many 0) J Jx hJ (fun m' pre x post vs W1 hLL hS hJ1=>yieldAt_any (hY pre x post vs W1 hLL ⟨p2,hS⟩ hJ1)) many 0 0 [] [] [] w' (by simp) (by omega) (by omega) hex hJ0 (by simp))
  have HCALL:=Lib.hid hcall;clear hcall hex hJ0 hp2 h0 hJ hY;go_wp2_with fail
  refine HCALL.out.mono ?_;rintro e w9 (⟨rfl,hJ9,hC9,hs9⟩ | ⟨rfl,q,hx⟩)
  ·have HJ9:=Lib.hid hJ9;clear hJ9 hC9;go_wp2
   go_end0
   exact ⟨⟨_,rfl⟩,.inl (by simpa using HJ9.out)⟩
  ·have HXX:=Lib.hid hx;clear hx;go_wp2
   go_end0
   exact ⟨⟨_,rfl⟩,.inr ⟨_,HXX.out⟩⟩
theorem lists_any (v0 v1 v2 mv:Value) (a:Int) (w:World) :
  Calls Tryz.prog 120 #[.agg #[v0,v1,v2,mv],.int .i64 a] w fun e w' =>
   e=.returned (.func (.func 141) #[] #[.pointer (some ⟨w.heap.size+1,0,none⟩),.pointer (some ⟨w.heap.size,0,none⟩)])∧(w.alloc (.cells #[v0,v1,v2,mv] 84)).alloc (.cells #[.int .i64 a] 3)=w':=by
 have hmf:=mf
 go_enter Tryz.func120,Tryz.ntmps120
 go_wp2;go_ret;exact ⟨rfl,rfl⟩
end Go.Proofs.YtadnggecnjdhiaaGreat
