/- TextSmall: its third loop. -/
import Derived.Test.YtadnggecnjdhiaaGreatYg
set_option linter.unusedSimpArgs false
set_option linter.unusedVariables false
namespace Go.Proofs.YtadnggecnjdhiaaGreat
open Go.RowKit Tx
set_option maxHeartbeats 400000000 in
set_option maxRecDepth 1000000 in
theorem TextSmall_three (w wb:World) (hB:Below w.heap.size w wb) (V:Nat→Value) {K:Act→World→Prop} {Q':Exit→Act→World→Prop} (hK:∀ l:List Value,l.length=464→∀ w',Below w.heap.size w w'→K ⟨l.toArray,[]⟩ w'):(hdC (tlC (tlC (tlC (Tryz.f4.body.getD .ret))))).wp Tryz.prog (Exit.then K Q') (fr V) wb:=by
 have HK:=Lib.hid hK;clear hK;simp only [hdC,tlC,Tryz.f4,Option.getD];dsimp only [fr,frs,Nat.reduceAdd];have HB:=Lib.hid hB;clear hB
 go_upto_block 10 with fail
 go_wp2_with fail
 go_loopw [336] (fun i wr=>∃ n:Nat,n≤15∧i=.int .i64 n∧Below w.heap.size w wr) (fun i _=>15-(intOf i).toNat)
 case atStart=>exact ⟨0,by omega,rfl,HB.out⟩
 case round =>
  obtain ⟨w1,rfl⟩:∃ w1:World,w1=wr:=⟨_,rfl⟩;obtain ⟨n,hn,rfl,hB⟩:=hrel;have HB1:=Lib.hid hB;clear hB HB;by_cases hlt:n<15
  ·have hlt':(n:Int)<15:=by omega
   go_upto_block 11 with fail
   go_cut [24,25,26,27,28,29] from 338 to 461 (fun _ _ _ _ _ _ wx=>∃ wz:World,wz=wx∧Below w.heap.size w wz)
   case first =>
    go_wp2_with fail
    refine (Gate_blk 5 w1).mono ?_;rintro e W0 ⟨g,u,rfl,hg,hgu,xg,xu,hBg⟩
    go_upto_block 12 with fail
    have hP:Pr w1 W0.heap.size (W0.heap.size+1) g (W0.heap.size+2) (.slice none 0 0) (.slice none 0 0) (.slice none 0 0) (.slice none 0 0) [] [] [] [] ((W0.alloc (.cells #[.slice none 0 0,.slice none 0 0,.int .i64 40] 25)).alloc (.cells #[.slice (some ⟨g,0,none⟩) 8 8,.slice none 0 0,.int .i64 5] 25)):=by
     have hu:=(Array.getElem?_eq_some_iff.1 xu).1;have hz:=hBg.size;refine ⟨(Below.heap_alloc _ _ _ (by simp)).trans (heap_last _ _),al_last' _ _ _ (by simp),own_none _ _ _ _,own_none _ _ _ _,(Below.heap_alloc _ _ _ (by simp;omega)).trans ((Below.heap_alloc _ _ _ (by omega)).trans xg),Two.start _ _,by omega,by omega,by omega,by omega,by omega,by omega,hz,by omega,by simp,al2 (al2 hBg (by omega) _) (by simp;omega) _⟩
    generalize hWW:(W0.alloc (.cells #[.slice none 0 0,.slice none 0 0,.int .i64 40] 25)).alloc (.cells #[.slice (some ⟨g,0,none⟩) 8 8,.slice none 0 0,.int .i64 5] 25)=W3 at hP ⊢;generalize hc1:W0.heap.size=c1 at hP ⊢;generalize hc2:c1+1=c2 at hP ⊢;generalize hcB:c1+2=B at hP ⊢;have HP:=Lib.hid hP;clear hP hWW hg hgu xg xu hBg hc1 hc2 hcB
    go_cut [27,28,29] from 343 to 376 (fun s27 s28 _ wx=>∃ wz:World,wz=wx∧∃ v u,Pr w1 c1 c2 g B v u s27 s28 (smW n) (smT n) (List.replicate n 1) ((List.range n).map fun (i:Nat)=>(i:Int)) wz)
    case first =>
     go_wp2_with fail
     go_loopw [27,28,343] (fun rv kv i wr=>∃ (k:Nat) (v u:Value),k≤n∧i=.int .i64 k∧Pr w1 c1 c2 g B v u rv kv (smW k) (smT k) (List.replicate k 1) ((List.range k).map fun (i:Nat)=>(i:Int)) wr) (fun _ _ i _=>n-(intOf i).toNat)
     case atStart=>exact ⟨0,_,_,by omega,rfl,HP.out⟩
     case round =>
      clear HP;obtain ⟨k,v,u,hk,rfl,hD⟩:=hrel;obtain ⟨w5,rfl⟩:∃ w5:World,w5=wr:=⟨_,rfl⟩;have hoa:=hD.two.oa;have hob:=hD.two.ob;rw [List.length_replicate] at hoa;rw [List.length_map,List.length_range] at hob;obtain ⟨rp,rc,rfl⟩:=own_val hoa;obtain ⟨kp,kc,rfl⟩:=own_val hob;clear hoa hob;by_cases hlk:k<n
      ·have hlk':(k:Int)<(n:Int):=by omega
       have how:=hD.ow;rw [smW_len] at how;have HOW:=Lib.hid how;have hbz:=hD.bz;have hbx:c1<w5.heap.size:=by have:=hD.l1;omega
       have kv:=blk_cells hD.b1 0 _ rfl;have hnb:some c1≠v.ownBlock:=fun e=>by have:=(own_blockI hD.ow _ e.symm).1;have:=hD.l1;omega
       have HD:=Lib.hid hD;clear hD how;obtain ⟨m3,hm3,hm3b⟩:∃ m:Int,(k:Int).tmod 3=m∧m=(k:Int) % 3:=⟨_,rfl,Int.tmod_eq_emod_of_nonneg (by omega)⟩;obtain ⟨m2,hm2,hm2b⟩:∃ m:Int,(k:Int).tmod 2=m∧m=(k:Int) % 2:=⟨_,rfl,Int.tmod_eq_emod_of_nonneg (by omega)⟩;have HM3:=Lib.hid hm3b;have HM2:=Lib.hid hm2b;have hm3c:0≤m3∧m3<3:=by omega
       have hm2c:0≤m2∧m2<2:=by omega
       clear hm3b hm2b;obtain ⟨b2,hb2⟩:∃ b,(m2 == 0)=b:=⟨_,rfl⟩;have hv3:IntKind.i64.wrap m3=m3:=IntWalk.i64_in _ (by omega);have hv2:IntKind.i64.wrap m2=m2:=IntWalk.i64_in _ (by omega)
       go_upto_region 51 with fail
       refine Rk.region_gen 9 (Gai 9 B 61 v k (wcells (smW k))) (Ga.isGr B 61 v k (wcells (smW k))) (fun i a b h=>h.1) (fun i a=>Gai.refl 9 B 61 v k (wcells (smW k)) i a) 11 [[],[0],[],[2],[],[4],[4,5],[2,3,4,5,6],[2,3,4,5,6,7],[0,1,2,3,4,5,6,7,8],[0,1,2,3,4,5,6,7,8,9]] [some 346,some 347,some 348,some 349,some 350,some 351,some 352,some 353,some 354,some 355,some 356] (by omega) (spTv c1 B v k m3 m2 b2 k (wcells (smW k))) (by kernel_rfl) (by kernel_rfl) rfl (spTv_stable _ _ _ _ _ _ _ _ _) ?_ ?_
       ·refine ⟨fun V w' c hG hc hs=>?_,fun V w' c hG hc hs=>?_,fun V w' c hG hc hs=>?_,fun V w' c hG hc hs=>?_,fun V w' c hG hc hs=>?_,fun V w' c hG hc hs=>?_,fun V w' c hG hc hs=>?_,fun V w' c hG hc hs=>?_,fun V w' c hG hc hs=>?_,fun V w' c hG hc hs=>?_,fun V w' c hG hc hs=>?_,trivial⟩
        all_goals
         have k1:w'.cell? ⟨c1,0,none⟩=some v:=(ga_cell hG hbx hnb 0).trans kv
        ·rw [if_pos (by rfl)];exact Rk.GrowL.value (v:=.pointer (some ⟨c1,0,none⟩)) (w':=w') (by simp [go_sem,Rs.look]) (Gai.refl _ _ _ _ _ _ _ _) rfl
        ·have e0:V 0=_:=hs 0 (by simp);rw [if_pos (by rfl)];exact Rk.GrowL.value (v:=v) (w':=w') (by simp [go_sem,Rs.look,e0,k1]) (Gai.refl _ _ _ _ _ _ _ _) rfl
        ·rw [if_pos (by rfl)];exact Rk.GrowL.value (v:=.int .i64 ((k:Int))) (w':=w') (by simp [go_sem,Rs.look]) (Gai.refl _ _ _ _ _ _ _ _) rfl
        ·have e2:V 2=_:=hs 2 (by simp);rw [if_pos (by rfl)];exact Rk.GrowL.value (v:=.int .i64 (m3)) (w':=w') (by simp [go_sem,Rs.look,e2,hm3,hv3]) (Gai.refl _ _ _ _ _ _ _ _) rfl
        ·rw [if_pos (by rfl)];exact Rk.GrowL.value (v:=.int .i64 ((k:Int))) (w':=w') (by simp [go_sem,Rs.look]) (Gai.refl _ _ _ _ _ _ _ _) rfl
        ·have e4:V 4=_:=hs 4 (by simp);rw [if_pos (by rfl)];exact Rk.GrowL.value (v:=.int .i64 (m2)) (w':=w') (by simp [go_sem,Rs.look,e4,hm2,hv2]) (Gai.refl _ _ _ _ _ _ _ _) rfl
        ·have e4:V 4=_:=hs 4 (by simp);have e5:V 5=_:=hs 5 (by simp);rw [if_pos (by rfl)];exact Rk.GrowL.value (v:=.bool b2) (w':=w') (by simp [go_sem,Rs.look,e4,e5,hb2]) (Gai.refl _ _ _ _ _ _ _ _) rfl
        ·have e2:V 2=_:=hs 2 (by simp);have e3:V 3=_:=hs 3 (by simp);have e4:V 4=_:=hs 4 (by simp);have e5:V 5=_:=hs 5 (by simp);have e6:V 6=_:=hs 6 (by simp);rw [if_pos (by rfl)];refine Rk.GrowL.call (f:=32) (args:=#[.int .i64 m3,.bool b2]) (by simp [go_sem,Rs.look,e3,e6]) ?_;refine (word_any m3 b2 w').mono ?_;rintro e w2 ⟨rfl,hB2⟩;exact ⟨_,rfl,Gai.of hB2,rfl⟩
        ·have e2:V 2=_:=hs 2 (by simp);have e3:V 3=_:=hs 3 (by simp);have e4:V 4=_:=hs 4 (by simp);have e5:V 5=_:=hs 5 (by simp);have e6:V 6=_:=hs 6 (by simp);have e7:V 7=_:=hs 7 (by simp);rw [if_pos (by rfl)];exact Rk.GrowL.value (v:=.slice (some ⟨w'.heap.size,0,none⟩) 1 1) (w':=w'.alloc (.cells #[.int .i64 1,.int .i64 m3,.bool b2] 61)) (by simp [go_sem,Rs.look,e7]) (Gai.of (below1 _ _)) (fun _=>⟨w'.heap.size,rfl,heap_last _ _⟩)
        ·have e0:V 0=_:=hs 0 (by simp);have e1:V 1=_:=hs 1 (by simp);have e2:V 2=_:=hs 2 (by simp);have e3:V 3=_:=hs 3 (by simp);have e4:V 4=_:=hs 4 (by simp);have e5:V 5=_:=hs 5 (by simp);have e6:V 6=_:=hs 6 (by simp);have e7:V 7=_:=hs 7 (by simp);have r8:=hs 8 (by simp);rw [if_pos (by rfl)];obtain ⟨p,e8,hpc⟩:=r8 (hc rfl);obtain ⟨v',w2,hr,g1,g2,g3⟩:=append_keep3 A_undWs A_infoWd rfl w' B 22 v k (wcells (smW k)) _ (hG.2 HOW.out) (by have:=hG.1.size;omega) (by omega) p hpc rfl (by intro q hq;simp [wcell] at hq;rcases hq with rfl | rfl | rfl <;> rfl)
         exact Rk.GrowL.value (v:=v') (w':=w2) (exec_append3 rfl rfl (by simp [Rs.look,e1]) (by simp [Rs.look,e8]) hr) ⟨⟨g2,fun _=>g3⟩,fun h=>absurd rfl h⟩ ⟨by simp,g1⟩
        ·have e0:V 0=_:=hs 0 (by simp);have e1:V 1=_:=hs 1 (by simp);have e2:V 2=_:=hs 2 (by simp);have e3:V 3=_:=hs 3 (by simp);have e4:V 4=_:=hs 4 (by simp);have e5:V 5=_:=hs 5 (by simp);have e6:V 6=_:=hs 6 (by simp);have e7:V 7=_:=hs 7 (by simp);have r8:=hs 8 (by simp);have r9:=hs 9 (by simp);rw [if_pos (by rfl)];exact Rk.GrowL.value (v:=.pointer (some ⟨c1,0,none⟩)) (w':=w') (by simp [go_sem,Rs.look,e0,e1,e2,e3,e4,e5,e6,e7]) (Gai.refl _ _ _ _ _ _ _ _) rfl
       ·intro V w' hG hs;have e0:V 0=_:=hs 0 (by omega);have e1:V 1=_:=hs 1 (by omega);have e2:V 2=_:=hs 2 (by omega);have e3:V 3=_:=hs 3 (by omega);have e4:V 4=_:=hs 4 (by omega);have e5:V 5=_:=hs 5 (by omega);have e6:V 6=_:=hs 6 (by omega);have e7:V 7=_:=hs 7 (by omega);have r8:=hs 8 (by omega);have r9:=hs 9 (by omega);have e10:V 10=_:=hs 10 (by omega);obtain ⟨-,hown⟩:=r9;obtain ⟨vp,vc,e9⟩:∃ vp vc,V 9=.slice vp (k+1) vc:=own_val hown;rw [e9] at hown;simp only [Rs.canon,Rs.dstOf,List.range_succ,List.range_zero,List.nil_append,List.cons_append,List.foldl_cons,List.foldl_nil,List.drop_succ_cons,List.drop_zero,List.drop_nil,List.getElem?_toArray,List.getElem?_cons_succ,List.getElem?_cons_zero,Option.bind_some,List.getD_cons_succ,List.getD_cons_zero];rw [e0,e1,e2,e3,e4,e5,e6,e7,e10,e9];go_frame;clear e0 e1 e2 e3 e4 e5 e6 e7 e10 e9 hs;have HXW:Hid ((⟨1,m3,b2⟩:Word)=⟨1,(k:Int) % 3,(k:Int) % 2 == 0⟩):=Lib.hid (by rw [← hb2,HM3.out,HM2.out]);obtain ⟨hM,c0',f0',b0'⟩:=HD.out.wapp hG.1 (by rw [smW_len];exact hown);rw [HXW.out,← smW_next] at hM;have HM:=Lib.hid hM;have hmz:=hM.bz;clear hM hG hown r8 hb2 hm2 HM2 hm2c hv2 HD kv hnb HOW hbz hbx HXW;obtain ⟨m5,hm5,hm5b⟩:∃ m:Int,(k:Int).tmod 5=m∧m=(k:Int) % 5:=⟨_,rfl,Int.tmod_eq_emod_of_nonneg (by omega)⟩;have HM5:=Lib.hid hm5b;have hm5c:0≤m5∧m5<5:=by omega
        clear hm5b;have hv5:IntKind.i64.wrap m5=m5:=IntWalk.i64_in _ (by omega)
        go_upto_region 52 with fail
        refine wp_named fun W5 hW5=>?_;rw [← hW5] at HM hmz;clear hW5 c0' f0' b0';have ku:=blk_cells HM.out.b2 1 _ rfl;have hbx2:c2<W5.heap.size:=by have:=HM.out.l2;omega
        have hou:=HM.out.ou;rw [smT_len] at hou;have HOU:=Lib.hid hou;clear hou;go_wp2_with (at_builtin;refine wpList_append3 rfl _ _ rfl A_undTs A_infoTn rfl B u k (tcells (smT k)) [.int .i64 m3,.int .i64 3,.int .i64 (3+m5)] rfl (own_below HOU.out (below1 _ _)) W5.heap.size rfl (heap_last _ _) rfl ?t1 ?t2 ?t3 ?_)
        case t1=>intro q hq;simp at hq;rcases hq with rfl | rfl | rfl <;> rfl
        case t2=>simp;omega
        case t3=>omega
        intro u' w7 hown7 hgrow7;have HXT:Hid ((⟨m3,3,3+m5⟩:Turn)=⟨(k:Int) % 3,3,3+(k:Int) % 5⟩):=Lib.hid (by rw [HM3.out,HM5.out]);obtain ⟨hM7,c7',f7',b7'⟩:=(HM.out.below (below1 W5 _)).tapp (x:=⟨m3,3,3+m5⟩) hgrow7 (by rw [smT_len];exact hown7);rw [HXT.out,← smT_next] at hM7;have HM7:=Lib.hid hM7;obtain ⟨up,uc,rfl⟩:=own_val hown7;have hmz7:=hM7.bz;clear hM7 hown7 hgrow7 HOU HM hmz ku hbx2 HXT hm3 HM3 hm3c hv3 hm5 HM5 hm5c hv5
        go_upto_region 53 with fail
        refine wp_named fun W8 hW8=>?_;rw [← hW8] at HM7 hmz7;clear hW8 c7' f7' b7';go_wp2_with (at_builtin;refine wpList_append_whichI rfl _ _ rfl B _ _ _ rfl (HM7.out.two.oa.alloc _) ⟨W8.heap.size,0,none⟩ _ rfl (cell_one_new _ _ _ 0 _ rfl) rfl ?y1 ?y2 ?_)
        case y1=>simp;omega
        case y2=>simp;omega
        intro v8 w8 hown8 hgrow8 hwh8;have hM8:=(HM7.out.below (below1 W8 _)).iapp (by simpa using hown8) hgrow8 (by simpa using hwh8);have HM8:=Lib.hid hM8;have hmz8:=hM8.bz;clear hM8 hown8 hgrow8 hwh8 HM7 hmz7;go_wp2_with (at_builtin;refine wpList_append_whichI rfl _ _ rfl B _ _ _ rfl (HM8.out.two.ob.alloc _) ⟨w8.heap.size,0,none⟩ _ rfl (cell_one_new _ _ _ 0 _ rfl) rfl ?z1 ?z2 ?_)
        case z1=>simp;omega
        case z2=>simp;omega
        intro v9 w9 hown9 hgrow9 hwh9;have hM9:=((HM8.out.below (below1 w8 _)).swap.iapp (by simpa using hown9) hgrow9 (by simpa using hwh9)).swap;have HM9:=Lib.hid hM9;clear hM9 hown9 hgrow9 hwh9 HM8 hmz8;go_wp2_with fail
        go_roundw
        case rel=>exact ⟨k+1,_,_,by omega,by go_num,by rw [List.replicate_succ',List.range_succ,List.map_append];exact HM9.out⟩
        case measure=>simp [intOf];omega
      ·obtain rfl:k=n:=by omega
       go_wp2_with fail
       go_meet;exact ⟨_,rfl,v,u,hD⟩
    case rest =>
     obtain ⟨w3,rfl,v,u,hD⟩:=hcut;have HD:=Lib.hid hD;clear hD HP;obtain ⟨p1,a1,e1,h1,h2,h3⟩:=own_wds HD.out.ow rfl;obtain ⟨q2,b2,e2,h4,-,-⟩:=own_tns HD.out.ou rfl;obtain ⟨rp,rc,e3,h7,-⟩:=own_rd HD.out.two.oa rfl;obtain ⟨kp,kc,e4,h8,-⟩:=own_rd HD.out.two.ob rfl;have hA1:(List.replicate n (1:Int)).length=n:=by simp
     have hA2:((List.range n).map fun (i:Nat)=>(i:Int)).length=n:=by simp
     rw [smW_len] at e1 h2;rw [smT_len] at e2;rw [hA1] at e3;rw [hA2] at e4;subst e1;subst e2;subst e3;subst e4;have HR:=Lib.hid (show Rd3 c1 c2 n p1 q2 rp kp a1 g b2 rc kc _ _ w3 from ⟨HD.out.b1,HD.out.b2,⟨h1,.inl rfl⟩,⟨wds_gate w3 g HD.out.xg 5,h4⟩,h7,h8,hA1,hA2,by omega,h2,h3⟩);have HBW:=Lib.hid (join HB1.out HD.out.bel);generalize List.replicate n (1:Int)=A1 at HR;generalize (List.range n).map (fun (i:Nat)=>(i:Int))=A2 at HR;have hwe:=smW_err n hlt;have hte:=smT_err n hlt;obtain ⟨ew,hew⟩:∃ e,(⟨smW n,[],40⟩:Text).err=e:=⟨_,rfl⟩;obtain ⟨et,het⟩:∃ e,(⟨(gateT 5).words,smT n,5⟩:Text).err=e:=⟨_,rfl⟩;rw [hew] at hwe;rw [het] at hte;have HEW:=Lib.hid hew;have HET:=Lib.hid het;have HWE:=Lib.hid hwe;have HTE:=Lib.hid hte;clear HD h1 h2 h3 h4 h7 h8 hA1 hA2 hew het hwe hte;obtain ⟨b9,h9⟩:∃ b,decide ((n:Int)<9)=b:=⟨_,rfl⟩;obtain ⟨b12,h12⟩:∃ b,decide ((12:Int)<(n:Int))=b:=⟨_,rfl⟩;obtain ⟨bb,hbb⟩:∃ b,(b9||b12)=b:=⟨_,rfl⟩;have hw1:IntKind.i64.wrap ((n:Int)+1)=(n:Int)+1:=IntWalk.i64_in _ (by omega);have hmk:∀ W,(Instr.makeSlice 34 (.int .i64 ((n:Int)+1)) (.int .i64 ((n:Int)+1))).run Tryz.prog W=.ok (.slice (some ⟨W.heap.size,0,none⟩) (n+1) (n+1)) (W.alloc (.cells (arrOf (List.replicate (n+1) 0)) 3)):=fun W=>by
      have:=make_ints (n+1) (by omega) W;rwa [show ((n+1:Nat):Int)=(n:Int)+1 by omega] at this
     have HMK:=fun W (H:Rd3 c1 c2 n p1 q2 rp kp a1 g b2 rc kc A1 A2 W) p hI=>(show Calls Tryz.prog 24 #[.agg #[.slice p1 n a1,.slice none 0 0,.int .i64 40],.slice (some ⟨p,0,none⟩) (n+1) (n+1)] W fun e w'=>e=.returned (.bool true)∧Below W.heap.size W w' from by
      have:=H.marks1 (List.replicate (n+1) 0) (by simp;omega) (some ⟨p,0,none⟩) (n+1) hI;rwa [List.length_replicate] at this)
     go_upto_region 55 with fail
     go_cut [443] from 377 to 442 (fun s443 wx=>∃ wz:World,wz=wx∧s443=.bool false∧Below w3.heap.size w3 wz)
     case first J K' hJ hK' =>
      refine Rs.region_cut 67 377 464 [[],[],[],[0,1,2],[3],[4],[5],[5],[5,6,7],[5,8],[5,9],[10],[11],[11],[11,12,13],[11,14],[11,15],[16],[17],[17],[17],[17,18,19,20],[17,21],[17,22],[23],[24],[24],[24,25,26],[24,27],[24,28],[29],[30],[30,31],[30,32],[30,33],[34],[35],[35,36],[35,37],[38],[38,39],[35,38,40],[35,41],[42],[42],[42,44],[42,45],[42,43,46],[42,47],[42,48],[49],[49,50],[49,51],[42,49,52],[42,53],[54],[54,55],[54,56],[42,54,57],[42,58],[59],[59],[59,60,61],[59,62],[42,59,63],[35,42,64],[35,65]] [some 377,some 378,some 379,some 380,some 381,some 382,some 383,some 384,some 385,some 386,some 387,some 388,some 389,some 390,some 391,some 392,some 393,some 394,some 395,some 396,some 397,some 398,some 399,some 400,some 401,some 402,some 403,some 404,some 405,some 406,some 407,some 408,some 409,some 410,some 411,some 412,some 413,some 414,some 415,some 416,some 417,some 418,some 419,some 420,some 421,some 422,some 423,some 424,some 425,some 426,some 427,some 428,some 429,some 430,some 431,some 432,some 433,some 434,some 435,some 436,some 437,some 438,some 439,some 440,some 441,some 442,some 443] (sp55 n p1 q2 rp kp a1 g b2 rc kc b9 b12 bb) (fun a=>a.tmps[24]?=some (.int .i64 (n:Int))∧a.tmps[25]?=some (.pointer (some ⟨c1,0,none⟩))∧a.tmps[26]?=some (.pointer (some ⟨c2,0,none⟩))∧a.tmps[27]?=some (.slice rp n rc)∧a.tmps[28]?=some (.slice kp n kc)) ⟨rfl,rfl,rfl,rfl,rfl⟩ (by decide +kernel) rfl (by decide +kernel) (by decide +kernel) (by decide +kernel) rfl (sp55_stable _ _ _ _ _ _ _ _ _ _ _ _ _) ?_ ?_
      ·rintro a ⟨t24,t25,t26,t27,t28⟩;refine ⟨fun V w' hG hs=>?_,fun V w' hG hs=>?_,fun V w' hG hs=>?_,fun V w' hG hs=>?_,fun V w' hG hs=>?_,fun V w' hG hs=>?_,fun V w' hG hs=>?_,fun V w' hG hs=>?_,fun V w' hG hs=>?_,fun V w' hG hs=>?_,fun V w' hG hs=>?_,fun V w' hG hs=>?_,fun V w' hG hs=>?_,fun V w' hG hs=>?_,fun V w' hG hs=>?_,fun V w' hG hs=>?_,fun V w' hG hs=>?_,fun V w' hG hs=>?_,fun V w' hG hs=>?_,fun V w' hG hs=>?_,fun V w' hG hs=>?_,fun V w' hG hs=>?_,fun V w' hG hs=>?_,fun V w' hG hs=>?_,fun V w' hG hs=>?_,fun V w' hG hs=>?_,fun V w' hG hs=>?_,fun V w' hG hs=>?_,fun V w' hG hs=>?_,fun V w' hG hs=>?_,fun V w' hG hs=>?_,fun V w' hG hs=>?_,fun V w' hG hs=>?_,fun V w' hG hs=>?_,fun V w' hG hs=>?_,fun V w' hG hs=>?_,fun V w' hG hs=>?_,fun V w' hG hs=>?_,fun V w' hG hs=>?_,fun V w' hG hs=>?_,fun V w' hG hs=>?_,fun V w' hG hs=>?_,fun V w' hG hs=>?_,fun V w' hG hs=>?_,fun V w' hG hs=>?_,fun V w' hG hs=>?_,fun V w' hG hs=>?_,fun V w' hG hs=>?_,fun V w' hG hs=>?_,fun V w' hG hs=>?_,fun V w' hG hs=>?_,fun V w' hG hs=>?_,fun V w' hG hs=>?_,fun V w' hG hs=>?_,fun V w' hG hs=>?_,fun V w' hG hs=>?_,fun V w' hG hs=>?_,fun V w' hG hs=>?_,fun V w' hG hs=>?_,fun V w' hG hs=>?_,fun V w' hG hs=>?_,fun V w' hG hs=>?_,fun V w' hG hs=>?_,fun V w' hG hs=>?_,fun V w' hG hs=>?_,fun V w' hG hs=>?_,fun V w' hG hs=>?_,trivial⟩
       all_goals
        have HQ:=HR.out.below hG;obtain ⟨k0,k1,k2⟩:=blk3 HQ.x1;obtain ⟨k3,k4,k5⟩:=blk3 HQ.x2
       ·rw [if_pos (by rfl)];exact Rs.GrowL.value (v:=.agg #[.slice p1 n a1,.slice none 0 0,.int .i64 40]) (w':=w') (by simp [go_sem,Rs.look,t25,k0,k1,k2]) (Rs.Gr.refl _) rfl
       ·rw [if_pos (by rfl)];exact Rs.GrowL.value (v:=.agg #[.int .i64 0,.int .i64 0]) (w':=w') (by simp [go_sem,Rs.look]) (Rs.Gr.refl _) rfl
       ·rw [if_pos (by rfl)];exact Rs.GrowL.value (v:=.slice rp n rc) (w':=w') (by simp [go_sem,Rs.look,t27]) (Rs.Gr.refl _) rfl
       ·have e0:V 0=_:=hs 0 (by simp);have e1:V 1=_:=hs 1 (by simp);have e2:V 2=_:=hs 2 (by simp);rw [if_pos (by rfl)];refine Rs.GrowL.call (f:=23) (args:=#[.agg #[.slice p1 n a1,.slice none 0 0,.int .i64 40],.agg #[.int .i64 0,.int .i64 0],.slice rp n rc]) (by simp [go_sem,Rs.look,e0,e1,e2]) ?_;refine (HQ.parts1).mono ?_;rintro e w2 ⟨rfl,hB2⟩;exact ⟨_,rfl,hB2,rfl⟩
       ·have e3:V 3=_:=hs 3 (by simp);rw [if_pos (by rfl)];exact Rs.GrowL.value (v:=.bool false) (w':=w') (by simp [go_sem,Rs.look,e3]) (Rs.Gr.refl _) rfl
       ·have e4:V 4=_:=hs 4 (by simp);rw [if_pos (by rfl)];exact Rs.GrowL.value (v:=.bool false) (w':=w') (by simp [go_sem,Rs.look,e4]) (Rs.Gr.refl _) rfl
       ·have e5:V 5=_:=hs 5 (by simp);rw [if_pos (by simp [Rs.wantB,e5])];exact Rs.GrowL.value (v:=.agg #[.slice p1 n a1,.slice none 0 0,.int .i64 40]) (w':=w') (by simp [go_sem,Rs.look,t25,k0,k1,k2]) (Rs.Gr.refl _) rfl
       ·have e5:V 5=_:=hs 5 (by simp);rw [if_pos (by simp [Rs.wantB,e5])];exact Rs.GrowL.value (v:=.slice rp n rc) (w':=w') (by simp [go_sem,Rs.look,t27]) (Rs.Gr.refl _) rfl
       ·have e6:V 6=_:=hs 6 (by simp);have e7:V 7=_:=hs 7 (by simp);have e5:V 5=_:=hs 5 (by simp);rw [if_pos (by simp [Rs.wantB,e5])];refine Rs.GrowL.call (f:=25) (args:=#[.agg #[.slice p1 n a1,.slice none 0 0,.int .i64 40],.slice rp n rc]) (by simp [go_sem,Rs.look,e6,e7]) ?_;refine (HQ.astray1).mono ?_;rintro e w2 ⟨rfl,hB2⟩;exact ⟨_,rfl,hB2,rfl⟩
       ·have e8:V 8=_:=hs 8 (by simp);have e5:V 5=_:=hs 5 (by simp);rw [if_pos (by simp [Rs.wantB,e5])];exact Rs.GrowL.value (v:=.bool false) (w':=w') (by simp [go_sem,Rs.look,e8]) (Rs.Gr.refl _) rfl
       ·have e5:V 5=_:=hs 5 (by simp);have e9:V 9=_:=hs 9 (by simp);rw [if_pos (by rfl)];exact Rs.GrowL.value (v:=.bool false) (w':=w') (by simp [go_sem,Rs.look,e5,e9]) (Rs.Gr.refl _) rfl
       ·have e10:V 10=_:=hs 10 (by simp);rw [if_pos (by rfl)];exact Rs.GrowL.value (v:=.bool false) (w':=w') (by simp [go_sem,Rs.look,e10]) (Rs.Gr.refl _) rfl
       ·have e11:V 11=_:=hs 11 (by simp);rw [if_pos (by simp [Rs.wantB,e11])];exact Rs.GrowL.value (v:=.agg #[.slice p1 n a1,.slice none 0 0,.int .i64 40]) (w':=w') (by simp [go_sem,Rs.look,t25,k0,k1,k2]) (Rs.Gr.refl _) rfl
       ·have e11:V 11=_:=hs 11 (by simp);rw [if_pos (by simp [Rs.wantB,e11])];exact Rs.GrowL.value (v:=.slice kp n kc) (w':=w') (by simp [go_sem,Rs.look,t28]) (Rs.Gr.refl _) rfl
       ·have e12:V 12=_:=hs 12 (by simp);have e13:V 13=_:=hs 13 (by simp);have e11:V 11=_:=hs 11 (by simp);rw [if_pos (by simp [Rs.wantB,e11])];refine Rs.GrowL.call (f:=26) (args:=#[.agg #[.slice p1 n a1,.slice none 0 0,.int .i64 40],.slice kp n kc,.int .i64 1]) (by simp [go_sem,Rs.look,e12,e13]) ?_;refine (HQ.shorter1).mono ?_;rintro e w2 ⟨rfl,hB2⟩;exact ⟨_,rfl,hB2,rfl⟩
       ·have e14:V 14=_:=hs 14 (by simp);have e11:V 11=_:=hs 11 (by simp);rw [if_pos (by simp [Rs.wantB,e11])];exact Rs.GrowL.value (v:=.bool false) (w':=w') (by simp [go_sem,Rs.look,e14]) (Rs.Gr.refl _) rfl
       ·have e11:V 11=_:=hs 11 (by simp);have e15:V 15=_:=hs 15 (by simp);rw [if_pos (by rfl)];exact Rs.GrowL.value (v:=.bool false) (w':=w') (by simp [go_sem,Rs.look,e11,e15]) (Rs.Gr.refl _) rfl
       ·have e16:V 16=_:=hs 16 (by simp);rw [if_pos (by rfl)];exact Rs.GrowL.value (v:=.bool false) (w':=w') (by simp [go_sem,Rs.look,e16]) (Rs.Gr.refl _) rfl
       ·have e17:V 17=_:=hs 17 (by simp);rw [if_pos (by simp [Rs.wantB,e17])];exact Rs.GrowL.value (v:=.agg #[.slice (some ⟨g,0,none⟩) 8 8,.slice q2 n b2,.int .i64 5]) (w':=w') (by simp [go_sem,Rs.look,t26,k3,k4,k5]) (Rs.Gr.refl _) rfl
       ·have e17:V 17=_:=hs 17 (by simp);rw [if_pos (by simp [Rs.wantB,e17])];exact Rs.GrowL.value (v:=.agg #[.int .i64 3,.int .i64 7]) (w':=w') (by simp [go_sem,Rs.look]) (Rs.Gr.refl _) rfl
       ·have e17:V 17=_:=hs 17 (by simp);rw [if_pos (by simp [Rs.wantB,e17])];exact Rs.GrowL.value (v:=.slice (some ⟨w'.heap.size,0,none⟩) 3 3) (w':=w'.alloc (.cells #[.int .i64 2,.int .i64 4,.int .i64 2] 3)) (by simp [go_sem,Rs.look]) (below1 _ _) ⟨_,rfl,ints_lit3 w' [2,4,2]⟩
       ·have e18:V 18=_:=hs 18 (by simp);have e19:V 19=_:=hs 19 (by simp);have e17:V 17=_:=hs 17 (by simp);rw [if_pos (by simp [Rs.wantB,e17])];obtain ⟨p,e20,hI⟩:=hs 20 (by simp);refine Rs.GrowL.call (f:=23) (args:=#[.agg #[.slice (some ⟨g,0,none⟩) 8 8,.slice q2 n b2,.int .i64 5],.agg #[.int .i64 3,.int .i64 7],.slice (some ⟨p,0,none⟩) 3 3]) (by simp [go_sem,Rs.look,e18,e19,e20]) ?_;refine (HQ.parts2 [2,4,2] (by decide) _ 3 hI).mono ?_;rintro e w2 ⟨rfl,hB2⟩;exact ⟨_,rfl,hB2,rfl⟩
       ·have e21:V 21=_:=hs 21 (by simp);have e17:V 17=_:=hs 17 (by simp);rw [if_pos (by simp [Rs.wantB,e17])];exact Rs.GrowL.value (v:=.bool false) (w':=w') (by simp [go_sem,Rs.look,e21]) (Rs.Gr.refl _) rfl
       ·have e17:V 17=_:=hs 17 (by simp);have e22:V 22=_:=hs 22 (by simp);rw [if_pos (by rfl)];exact Rs.GrowL.value (v:=.bool false) (w':=w') (by simp [go_sem,Rs.look,e17,e22]) (Rs.Gr.refl _) rfl
       ·have e23:V 23=_:=hs 23 (by simp);rw [if_pos (by rfl)];exact Rs.GrowL.value (v:=.bool false) (w':=w') (by simp [go_sem,Rs.look,e23]) (Rs.Gr.refl _) rfl
       ·have e24:V 24=_:=hs 24 (by simp);rw [if_pos (by simp [Rs.wantB,e24])];exact Rs.GrowL.value (v:=.agg #[.slice (some ⟨g,0,none⟩) 8 8,.slice q2 n b2,.int .i64 5]) (w':=w') (by simp [go_sem,Rs.look,t26,k3,k4,k5]) (Rs.Gr.refl _) rfl
       ·have e24:V 24=_:=hs 24 (by simp);rw [if_pos (by simp [Rs.wantB,e24])];exact Rs.GrowL.value (v:=.slice (some ⟨w'.heap.size,0,none⟩) 3 3) (w':=w'.alloc (.cells #[.int .i64 2,.int .i64 4,.int .i64 2] 3)) (by simp [go_sem,Rs.look]) (below1 _ _) ⟨_,rfl,ints_lit3 w' [2,4,2]⟩
       ·have e25:V 25=_:=hs 25 (by simp);have e24:V 24=_:=hs 24 (by simp);rw [if_pos (by simp [Rs.wantB,e24])];obtain ⟨p,e26,hI⟩:=hs 26 (by simp);refine Rs.GrowL.call (f:=25) (args:=#[.agg #[.slice (some ⟨g,0,none⟩) 8 8,.slice q2 n b2,.int .i64 5],.slice (some ⟨p,0,none⟩) 3 3]) (by simp [go_sem,Rs.look,e25,e26]) ?_;refine (HQ.astray2 [2,4,2] (by decide) _ 3 hI).mono ?_;rintro e w2 ⟨rfl,hB2⟩;exact ⟨_,rfl,hB2,rfl⟩
       ·have e27:V 27=_:=hs 27 (by simp);have e24:V 24=_:=hs 24 (by simp);rw [if_pos (by simp [Rs.wantB,e24])];exact Rs.GrowL.value (v:=.bool false) (w':=w') (by simp [go_sem,Rs.look,e27]) (Rs.Gr.refl _) rfl
       ·have e24:V 24=_:=hs 24 (by simp);have e28:V 28=_:=hs 28 (by simp);rw [if_pos (by rfl)];exact Rs.GrowL.value (v:=.bool false) (w':=w') (by simp [go_sem,Rs.look,e24,e28]) (Rs.Gr.refl _) rfl
       ·have e29:V 29=_:=hs 29 (by simp);rw [if_pos (by rfl)];exact Rs.GrowL.value (v:=.bool false) (w':=w') (by simp [go_sem,Rs.look,e29]) (Rs.Gr.refl _) rfl
       ·have e30:V 30=_:=hs 30 (by simp);rw [if_pos (by simp [Rs.wantB,e30])];exact Rs.GrowL.value (v:=.agg #[.slice (some ⟨g,0,none⟩) 8 8,.slice q2 n b2,.int .i64 5]) (w':=w') (by simp [go_sem,Rs.look,t26,k3,k4,k5]) (Rs.Gr.refl _) rfl
       ·have e31:V 31=_:=hs 31 (by simp);have e30:V 30=_:=hs 30 (by simp);rw [if_pos (by simp [Rs.wantB,e30])];refine Rs.GrowL.call (f:=24) (args:=#[.agg #[.slice (some ⟨g,0,none⟩) 8 8,.slice q2 n b2,.int .i64 5],.slice none 0 0]) (by simp [go_sem,Rs.look,e31]) ?_;refine (HQ.marks2).mono ?_;rintro e w2 ⟨rfl,hB2⟩;exact ⟨_,rfl,hB2,rfl⟩
       ·have e32:V 32=_:=hs 32 (by simp);have e30:V 30=_:=hs 30 (by simp);rw [if_pos (by simp [Rs.wantB,e30])];exact Rs.GrowL.value (v:=.bool false) (w':=w') (by simp [go_sem,Rs.look,e32]) (Rs.Gr.refl _) rfl
       ·have e30:V 30=_:=hs 30 (by simp);have e33:V 33=_:=hs 33 (by simp);rw [if_pos (by rfl)];exact Rs.GrowL.value (v:=.bool false) (w':=w') (by simp [go_sem,Rs.look,e30,e33]) (Rs.Gr.refl _) rfl
       ·have e34:V 34=_:=hs 34 (by simp);rw [if_pos (by rfl)];exact Rs.GrowL.value (v:=.bool false) (w':=w') (by simp [go_sem,Rs.look,e34]) (Rs.Gr.refl _) rfl
       ·have e35:V 35=_:=hs 35 (by simp);rw [if_pos (by simp [Rs.wantB,e35])];exact Rs.GrowL.value (v:=.int .i64 (n:Int)) (w':=w') (by simp [go_sem,Rs.look,t24]) (Rs.Gr.refl _) rfl
       ·have e36:V 36=_:=hs 36 (by simp);have e35:V 35=_:=hs 35 (by simp);rw [if_pos (by simp [Rs.wantB,e35])];exact Rs.GrowL.value (v:=.bool b9) (w':=w') (by simp [go_sem,Rs.look,e36,h9]) (Rs.Gr.refl _) rfl
       ·have e37:V 37=_:=hs 37 (by simp);have e35:V 35=_:=hs 35 (by simp);rw [if_pos (by simp [Rs.wantB,e35])];exact Rs.GrowL.value (v:=.bool b9) (w':=w') (by simp [go_sem,Rs.look,e37]) (Rs.Gr.refl _) rfl
       ·have e38:V 38=_:=hs 38 (by simp);cases b9 with
        | true =>
         rw [if_neg (by first | (simp [Rs.wantB,e38];done) | (simp [Rs.wantB,e38];rfl))];rfl
        | false =>
         rw [if_pos (by simp [Rs.wantB,e38])];exact Rs.GrowL.value (v:=.int .i64 (n:Int)) (w':=w') (by simp [go_sem,Rs.look,t24]) (Rs.Gr.refl _) rfl
       ·have e39:V 39=_:=hs 39 (by simp);have e38:V 38=_:=hs 38 (by simp);cases b9 with
        | true =>
         rw [if_neg (by first | (simp [Rs.wantB,e38];done) | (simp [Rs.wantB,e38];rfl))];rfl
        | false =>
         rw [if_pos (by simp [Rs.wantB,e38])];exact Rs.GrowL.value (v:=.bool b12) (w':=w') (by simp [go_sem,Rs.look,e39,h12]) (Rs.Gr.refl _) rfl
       ·have e38:V 38=_:=hs 38 (by simp);have e40:V 40=_:=hs 40 (by simp);have e35:V 35=_:=hs 35 (by simp);rw [if_pos (by simp [Rs.wantB,e35])];cases b9 with
        | true =>
         have hb1:bb=true:=by rw [← hbb];rfl
         exact Rs.GrowL.value (v:=.bool bb) (w':=w') (by simp [go_sem,Rs.look,e38,e40,hb1]) (Rs.Gr.refl _) rfl
        | false =>
         have hb1:b12=bb:=by rw [← hbb];rfl
         exact Rs.GrowL.value (v:=.bool bb) (w':=w') (by simp [go_sem,Rs.look,e38,e40,hb1]) (Rs.Gr.refl _) rfl
       ·have e41:V 41=_:=hs 41 (by simp);have e35:V 35=_:=hs 35 (by simp);rw [if_pos (by simp [Rs.wantB,e35])];exact Rs.GrowL.value (v:=.bool bb) (w':=w') (by simp [go_sem,Rs.look,e41]) (Rs.Gr.refl _) rfl
       ·have e42:V 42=_:=hs 42 (by simp);cases bb with
        | true =>
         rw [if_pos (by simp [Rs.wantB,e42])];exact Rs.GrowL.value (v:=.agg #[.slice p1 n a1,.slice none 0 0,.int .i64 40]) (w':=w') (by simp [go_sem,Rs.look,t25,k0,k1,k2]) (Rs.Gr.refl _) rfl
        | false =>
         rw [if_neg (by first | (simp [Rs.wantB,e42];done) | (simp [Rs.wantB,e42];rfl))];rfl
       ·have e42:V 42=_:=hs 42 (by simp);cases bb with
        | true =>
         rw [if_pos (by simp [Rs.wantB,e42])];exact Rs.GrowL.value (v:=.int .i64 (n:Int)) (w':=w') (by simp [go_sem,Rs.look,t24]) (Rs.Gr.refl _) rfl
        | false =>
         rw [if_neg (by first | (simp [Rs.wantB,e42];done) | (simp [Rs.wantB,e42];rfl))];rfl
       ·have e44:V 44=_:=hs 44 (by simp);have e42:V 42=_:=hs 42 (by simp);cases bb with
        | true =>
         rw [if_pos (by simp [Rs.wantB,e42])];exact Rs.GrowL.value (v:=.int .i64 ((n:Int)+1)) (w':=w') (by simp [go_sem,Rs.look,e44,hw1]) (Rs.Gr.refl _) rfl
        | false =>
         rw [if_neg (by first | (simp [Rs.wantB,e42];done) | (simp [Rs.wantB,e42];rfl))];rfl
       ·have e45:V 45=_:=hs 45 (by simp);have e42:V 42=_:=hs 42 (by simp);cases bb with
        | true =>
         rw [if_pos (by simp [Rs.wantB,e42])];exact Rs.GrowL.value (v:=.slice (some ⟨w'.heap.size,0,none⟩) (n+1) (n+1)) (w':=w'.alloc (.cells (arrOf (List.replicate (n+1) 0)) 3)) (by simp [go_sem,Rs.look,e45,hmk w']) (below1 _ _) (fun _=>⟨_,rfl,ints_lit3 w' _⟩)
        | false =>
         rw [if_neg (by first | (simp [Rs.wantB,e42];done) | (simp [Rs.wantB,e42];rfl))];exact fun h=>by cases h
       ·have e43:V 43=_:=hs 43 (by simp);have e42:V 42=_:=hs 42 (by simp);cases bb with
        | true =>
         rw [if_pos (by simp [Rs.wantB,e42])];obtain ⟨p,e46,hI⟩:=hs 46 (by simp) rfl;refine Rs.GrowL.call (f:=24) (args:=#[.agg #[.slice p1 n a1,.slice none 0 0,.int .i64 40],.slice (some ⟨p,0,none⟩) (n+1) (n+1)]) (by simp [go_sem,Rs.look,e43,e46]) ?_;refine (HMK w' HQ p hI).mono ?_;rintro e w2 ⟨rfl,hB2⟩;exact ⟨_,rfl,hB2,rfl⟩
        | false =>
         rw [if_neg (by first | (simp [Rs.wantB,e42];done) | (simp [Rs.wantB,e42];rfl))];rfl
       ·have e47:V 47=_:=hs 47 (by simp);have e42:V 42=_:=hs 42 (by simp);cases bb with
        | true =>
         rw [if_pos (by simp [Rs.wantB,e42])];exact Rs.GrowL.value (v:=.bool false) (w':=w') (by simp [go_sem,Rs.look,e47]) (Rs.Gr.refl _) rfl
        | false =>
         rw [if_neg (by first | (simp [Rs.wantB,e42];done) | (simp [Rs.wantB,e42];rfl))];rfl
       ·have e48:V 48=_:=hs 48 (by simp);have e42:V 42=_:=hs 42 (by simp);cases bb with
        | true =>
         rw [if_pos (by simp [Rs.wantB,e42])];exact Rs.GrowL.value (v:=.bool false) (w':=w') (by simp [go_sem,Rs.look,e48]) (Rs.Gr.refl _) rfl
        | false =>
         rw [if_neg (by first | (simp [Rs.wantB,e42];done) | (simp [Rs.wantB,e42];rfl))];rfl
       ·have e49:V 49=_:=hs 49 (by simp);cases bb with
        | true =>
         rw [if_pos (by simp [Rs.wantB,e49])];exact Rs.GrowL.value (v:=.agg #[.slice p1 n a1,.slice none 0 0,.int .i64 40]) (w':=w') (by simp [go_sem,Rs.look,t25,k0,k1,k2]) (Rs.Gr.refl _) rfl
        | false =>
         rw [if_neg (by first | (simp [Rs.wantB,e49];done) | (simp [Rs.wantB,e49];rfl))];rfl
       ·have e50:V 50=_:=hs 50 (by simp);have e49:V 49=_:=hs 49 (by simp);cases bb with
        | true =>
         rw [if_pos (by simp [Rs.wantB,e49])];refine Rs.GrowL.call (f:=28) (args:=#[.agg #[.slice p1 n a1,.slice none 0 0,.int .i64 40]]) (by simp [go_sem,Rs.look,e50]) ?_;refine (HQ.fewest1).mono ?_;rintro e w2 ⟨rfl,hB2⟩;exact ⟨_,rfl,hB2,rfl⟩
        | false =>
         rw [if_neg (by first | (simp [Rs.wantB,e49];done) | (simp [Rs.wantB,e49];rfl))];rfl
       ·have e51:V 51=_:=hs 51 (by simp);have e49:V 49=_:=hs 49 (by simp);cases bb with
        | true =>
         rw [if_pos (by simp [Rs.wantB,e49])];exact Rs.GrowL.value (v:=.bool false) (w':=w') (by simp [go_sem,Rs.look,e51]) (Rs.Gr.refl _) rfl
        | false =>
         rw [if_neg (by first | (simp [Rs.wantB,e49];done) | (simp [Rs.wantB,e49];rfl))];rfl
       ·have e49:V 49=_:=hs 49 (by simp);have e52:V 52=_:=hs 52 (by simp);have e42:V 42=_:=hs 42 (by simp);cases bb with
        | true =>
         rw [if_pos (by simp [Rs.wantB,e42])];exact Rs.GrowL.value (v:=.bool false) (w':=w') (by simp [go_sem,Rs.look,e49,e52]) (Rs.Gr.refl _) rfl
        | false =>
         rw [if_neg (by first | (simp [Rs.wantB,e42];done) | (simp [Rs.wantB,e42];rfl))];rfl
       ·have e53:V 53=_:=hs 53 (by simp);have e42:V 42=_:=hs 42 (by simp);cases bb with
        | true =>
         rw [if_pos (by simp [Rs.wantB,e42])];exact Rs.GrowL.value (v:=.bool false) (w':=w') (by simp [go_sem,Rs.look,e53]) (Rs.Gr.refl _) rfl
        | false =>
         rw [if_neg (by first | (simp [Rs.wantB,e42];done) | (simp [Rs.wantB,e42];rfl))];rfl
       ·have e54:V 54=_:=hs 54 (by simp);cases bb with
        | true =>
         rw [if_pos (by simp [Rs.wantB,e54])];exact Rs.GrowL.value (v:=.agg #[.slice p1 n a1,.slice none 0 0,.int .i64 40]) (w':=w') (by simp [go_sem,Rs.look,t25,k0,k1,k2]) (Rs.Gr.refl _) rfl
        | false =>
         rw [if_neg (by first | (simp [Rs.wantB,e54];done) | (simp [Rs.wantB,e54];rfl))];rfl
       ·have e55:V 55=_:=hs 55 (by simp);have e54:V 54=_:=hs 54 (by simp);cases bb with
        | true =>
         rw [if_pos (by simp [Rs.wantB,e54])];refine Rs.GrowL.call (f:=3) (args:=#[.agg #[.slice p1 n a1,.slice none 0 0,.int .i64 40]]) (by simp [go_sem,Rs.look,e55]) ?_;refine (HQ.even1).mono ?_;rintro e w2 ⟨rfl,hB2⟩;exact ⟨_,rfl,hB2,rfl⟩
        | false =>
         rw [if_neg (by first | (simp [Rs.wantB,e54];done) | (simp [Rs.wantB,e54];rfl))];rfl
       ·have e56:V 56=_:=hs 56 (by simp);have e54:V 54=_:=hs 54 (by simp);cases bb with
        | true =>
         rw [if_pos (by simp [Rs.wantB,e54])];exact Rs.GrowL.value (v:=.bool false) (w':=w') (by simp [go_sem,Rs.look,e56]) (Rs.Gr.refl _) rfl
        | false =>
         rw [if_neg (by first | (simp [Rs.wantB,e54];done) | (simp [Rs.wantB,e54];rfl))];rfl
       ·have e54:V 54=_:=hs 54 (by simp);have e57:V 57=_:=hs 57 (by simp);have e42:V 42=_:=hs 42 (by simp);cases bb with
        | true =>
         rw [if_pos (by simp [Rs.wantB,e42])];exact Rs.GrowL.value (v:=.bool false) (w':=w') (by simp [go_sem,Rs.look,e54,e57]) (Rs.Gr.refl _) rfl
        | false =>
         rw [if_neg (by first | (simp [Rs.wantB,e42];done) | (simp [Rs.wantB,e42];rfl))];rfl
       ·have e58:V 58=_:=hs 58 (by simp);have e42:V 42=_:=hs 42 (by simp);cases bb with
        | true =>
         rw [if_pos (by simp [Rs.wantB,e42])];exact Rs.GrowL.value (v:=.bool false) (w':=w') (by simp [go_sem,Rs.look,e58]) (Rs.Gr.refl _) rfl
        | false =>
         rw [if_neg (by first | (simp [Rs.wantB,e42];done) | (simp [Rs.wantB,e42];rfl))];rfl
       ·have e59:V 59=_:=hs 59 (by simp);cases bb with
        | true =>
         rw [if_pos (by simp [Rs.wantB,e59])];exact Rs.GrowL.value (v:=.agg #[.slice p1 n a1,.slice none 0 0,.int .i64 40]) (w':=w') (by simp [go_sem,Rs.look,t25,k0,k1,k2]) (Rs.Gr.refl _) rfl
        | false =>
         rw [if_neg (by first | (simp [Rs.wantB,e59];done) | (simp [Rs.wantB,e59];rfl))];rfl
       ·have e59:V 59=_:=hs 59 (by simp);cases bb with
        | true =>
         rw [if_pos (by simp [Rs.wantB,e59])];exact Rs.GrowL.value (v:=.int .i64 (n:Int)) (w':=w') (by simp [go_sem,Rs.look,t24]) (Rs.Gr.refl _) rfl
        | false =>
         rw [if_neg (by first | (simp [Rs.wantB,e59];done) | (simp [Rs.wantB,e59];rfl))];rfl
       ·have e60:V 60=_:=hs 60 (by simp);have e61:V 61=_:=hs 61 (by simp);have e59:V 59=_:=hs 59 (by simp);cases bb with
        | true =>
         rw [if_pos (by simp [Rs.wantB,e59])];refine Rs.GrowL.call (f:=27) (args:=#[.agg #[.slice p1 n a1,.slice none 0 0,.int .i64 40],.int .i64 (n:Int)]) (by simp [go_sem,Rs.look,e60,e61]) ?_;refine (HQ.least1 n).mono ?_;rintro e w2 ⟨rfl,hB2⟩;exact ⟨_,rfl,hB2,rfl⟩
        | false =>
         rw [if_neg (by first | (simp [Rs.wantB,e59];done) | (simp [Rs.wantB,e59];rfl))];rfl
       ·have e62:V 62=_:=hs 62 (by simp);have e59:V 59=_:=hs 59 (by simp);cases bb with
        | true =>
         rw [if_pos (by simp [Rs.wantB,e59])];exact Rs.GrowL.value (v:=.bool false) (w':=w') (by simp [go_sem,Rs.look,e62]) (Rs.Gr.refl _) rfl
        | false =>
         rw [if_neg (by first | (simp [Rs.wantB,e59];done) | (simp [Rs.wantB,e59];rfl))];rfl
       ·have e59:V 59=_:=hs 59 (by simp);have e63:V 63=_:=hs 63 (by simp);have e42:V 42=_:=hs 42 (by simp);cases bb with
        | true =>
         rw [if_pos (by simp [Rs.wantB,e42])];exact Rs.GrowL.value (v:=.bool false) (w':=w') (by simp [go_sem,Rs.look,e59,e63]) (Rs.Gr.refl _) rfl
        | false =>
         rw [if_neg (by first | (simp [Rs.wantB,e42];done) | (simp [Rs.wantB,e42];rfl))];rfl
       ·have e42:V 42=_:=hs 42 (by simp);have e64:V 64=_:=hs 64 (by simp);have e35:V 35=_:=hs 35 (by simp);rw [if_pos (by simp [Rs.wantB,e35])];cases bb with
        | true=>exact Rs.GrowL.value (v:=.bool false) (w':=w') (by simp [go_sem,Rs.look,e42,e64]) (Rs.Gr.refl _) rfl
        | false=>exact Rs.GrowL.value (v:=.bool false) (w':=w') (by simp [go_sem,Rs.look,e42]) (Rs.Gr.refl _) rfl
       ·have e35:V 35=_:=hs 35 (by simp);have e65:V 65=_:=hs 65 (by simp);rw [if_pos (by rfl)];exact Rs.GrowL.value (v:=.bool false) (w':=w') (by simp [go_sem,Rs.look,e35,e65]) (Rs.Gr.refl _) rfl
      ·intro V w' hG hs;exact hK' _ _ (Met.intro (hJ _ _ ⟨V 0,V 1,V 2,V 3,V 4,V 5,V 6,V 7,V 8,V 9,V 10,V 11,V 12,V 13,V 14,V 15,V 16,V 17,V 18,V 19,V 20,V 21,V 22,V 23,V 24,V 25,V 26,V 27,V 28,V 29,V 30,V 31,V 32,V 33,V 34,V 35,V 36,V 37,V 38,V 39,V 40,V 41,V 42,V 43,V 44,V 45,V 46,V 47,V 48,V 49,V 50,V 51,V 52,V 53,V 54,V 55,V 56,V 57,V 58,V 59,V 60,V 61,V 62,V 63,V 64,V 65,V 66,⟨_,rfl,hs 66 (by omega),hG⟩,rfl⟩))
     obtain ⟨w4,rfl,rfl,hG⟩:=hcut;have HR:=Lib.hid (HR.out.below hG);have HBW:=Lib.hid (join HBW.out hG);clear hG hmk HMK hw1 h9 h12 hbb;obtain ⟨k0,k1,k2⟩:=blk3 HR.out.x1;have key:=key57 HWE.out HTE.out
     go_upto_region 57 with fail
     go_cut [461] from 444 to 460 (fun s461 wx=>∃ wz:World,wz=wx∧s461=.bool false∧Below w4.heap.size w4 wz)
     case first =>
      rcases key with ⟨g1,g2,rfl,g3⟩ | ⟨g1,g2,rfl,rfl,g3⟩ | ⟨g1,g2,rfl,g3,g4⟩ | ⟨g1,g2,g3,g4,g5⟩
      rotate_right
      ·go_wp2_with fail
       refine (HR.out.check1 _ HEW.out).mono ?_;rintro e w5 ⟨rfl,hB5⟩;have HQ:=HR.out.below hB5;obtain ⟨k3,k4,k5⟩:=blk3 HQ.x2;go_wp2_with fail
       rotate_left
       rename_i hx
       exact (hx (by rw [beq_eq_false_iff_ne.2 (by omega:¬ ew=0),decide_eq_false (by omega:¬ (n:Int)<13)])).elim;refine (HQ.check2 _ HET.out).mono ?_;rintro e w6 ⟨rfl,hB6⟩;go_wp2_with fail
       go_meet;refine ⟨_,rfl,?_,hB5.trans (hB6.mono hB5.size)⟩
       first
        | rfl
        | exact congrArg Value.bool (beq_eq_false_iff_ne.2 (by omega))
        | exact congrArg Value.bool (by rw [beq_eq_false_iff_ne.2 (by omega:¬ et=0),decide_eq_false (by omega:¬ (n:Int)<7)];rfl)
      all_goals
       go_wp2_with fail
       refine (HR.out.check1 _ HEW.out).mono ?_;rintro e w5 ⟨rfl,hB5⟩;have HQ:=HR.out.below hB5;obtain ⟨k3,k4,k5⟩:=blk3 HQ.x2;go_wp2_with fail
       refine (HQ.check2 _ HET.out).mono ?_;rintro e w6 ⟨rfl,hB6⟩;go_wp2_with fail
       go_meet;refine ⟨_,rfl,?_,hB5.trans (hB6.mono hB5.size)⟩
       first
        | rfl
        | exact congrArg Value.bool (beq_eq_false_iff_ne.2 (by omega))
        | exact congrArg Value.bool (by rw [beq_eq_false_iff_ne.2 (by omega:¬ et=0),decide_eq_false (by omega:¬ (n:Int)<7)];rfl)
     obtain ⟨w6,rfl,rfl,hG⟩:=hcut;clear key k0 k1 k2;have HBW:=Lib.hid (join HBW.out hG);clear hG;go_wp2_with fail
     go_meet;exact ⟨_,rfl,HBW.out⟩
   case rest =>
    obtain ⟨w9,rfl,hB⟩:=hcut;have HB9:=Lib.hid hB;clear hB HB1;go_wp2_with fail
    go_roundw
    case rel=>exact ⟨n+1,by omega,by go_num,HB9.out⟩
    case measure=>simp [intOf];omega
  ·obtain rfl:n=15:=by omega
   go_wp2_with fail
   exact HK.out _ rfl _ HB1.out
end Go.Proofs.YtadnggecnjdhiaaGreat
