/- TextSmall: its second loop. -/
import Derived.Test.YtadnggecnjdhiaaGreatYg
set_option linter.unusedSimpArgs false
set_option linter.unusedVariables false
namespace Go.Proofs.YtadnggecnjdhiaaGreat
open Go.RowKit Tx
set_option maxHeartbeats 400000000 in
set_option maxRecDepth 1000000 in
theorem TextSmall_two (w wa:World) (hB:Below w.heap.size w wa) (V:Nat→Value) {K:Act→World→Prop} {Q':Exit→Act→World→Prop} (hK:∀ l:List Value,l.length=464→∀ w',Below w.heap.size w w'→K ⟨l.toArray,[]⟩ w'):(hdC (tlC (tlC (Tryz.f4.body.getD .ret)))).wp Tryz.prog (Exit.then K Q') (fr V) wa:=by
 have HK:=Lib.hid hK;clear hK;simp only [hdC,tlC,Tryz.f4,Option.getD];dsimp only [fr,frs,Nat.reduceAdd];have HB:=Lib.hid hB;clear hB
 go_upto_block 4 with fail
 go_wp2_with fail
 go_loopw [134] (fun i wr=>∃ n:Nat,n≤120∧i=.int .i64 n∧Below w.heap.size w wr) (fun i _=>120-(intOf i).toNat)
 case atStart=>exact ⟨0,by omega,rfl,HB.out⟩
 case round=>as_aux_lemma =>
  obtain ⟨w1,rfl⟩:∃ w1:World,w1=wr:=⟨_,rfl⟩;obtain ⟨n,hn,rfl,hB⟩:=hrel;have HB1:=Lib.hid hB;clear hB HB;by_cases hlt:n<120
  ·have hlt':(n:Int)<120:=by omega
   go_upto_block 5 with fail
   go_cut [12,13,14,15,16,17,18,19,20,21,22,23] from 136 to 334 (fun _ _ _ _ _ _ _ _ _ _ _ _ wx=>∃ wz:World,wz=wx∧Below w.heap.size w wz)
   case first=>as_aux_lemma =>
    obtain ⟨q5,h5,h5b⟩:∃ q:Nat,(n:Int).tmod 5=q∧q<5:=⟨n % 5,by rw [Int.tmod_eq_emod_of_nonneg (by omega)];rfl,Nat.mod_lt _ (by omega)⟩;obtain ⟨q4,h4,h4b⟩:∃ q:Nat,(n:Int).tmod 4=q∧q<4:=⟨n % 4,by rw [Int.tmod_eq_emod_of_nonneg (by omega)];rfl,Nat.mod_lt _ (by omega)⟩
    go_upto_block 6 with fail
    have hP:Mkt w1 w1.heap.size (w1.heap.size+1) (2+(q5:Int)) (.slice none 0 0) (.slice none 0 0) [] [] (w1.alloc (.cells #[.slice none 0 0,.slice none 0 0,.int .i64 (2+(q5:Int))] 25)) :=
     ⟨heap_last _ _,own_none _ _ _ _,own_none _ _ _ _,by omega,Nat.le_refl _,by simp,below1 _ _⟩
    generalize w1.alloc (.cells #[.slice none 0 0,.slice none 0 0,.int .i64 (2+(q5:Int))] 25)=W3 at hP ⊢;have HP:=Lib.hid hP;clear hP
    go_cut [14] from 144 to 174 (fun _ wx=>∃ wz:World,wz=wx∧∃ ws v,ws.length=3+q4∧Mkt w1 w1.heap.size (w1.heap.size+1) (2+(q5:Int)) v (.slice none 0 0) ws [] wz)
    case first=>as_aux_lemma =>
     go_wp2_with fail
     go_loopw [144] (fun i wr=>∃ (k:Nat) (ws:List Word) (v:Value),k≤3+q4∧i=.int .i64 k∧ws.length=k∧Mkt w1 w1.heap.size (w1.heap.size+1) (2+(q5:Int)) v (.slice none 0 0) ws [] wr) (fun i _=>3+q4-(intOf i).toNat)
     case atStart=>exact ⟨0,[],_,by omega,rfl,rfl,HP.out⟩
     case round=>as_aux_lemma =>
      clear HP;obtain ⟨k,ws,v,hk,rfl,hwl,hD⟩:=hrel;obtain ⟨w5,rfl⟩:∃ w5:World,w5=wr:=⟨_,rfl⟩;by_cases hlk:k<3+q4
      ·have hlk':(k:Int)<3+(q4:Int):=by omega
       obtain ⟨kv,-,-,hbx⟩:=hD.load;have hnb:some w1.heap.size≠v.ownBlock:=fun e=>by have:=(own_blockI hD.ow _ e.symm).1;omega
       have HD:=Lib.hid hD;have HWL:=Lib.hid hwl;clear hwl hD;obtain ⟨d1,hd1,hd1b⟩:∃ d:Nat,(n:Int).tdiv ((k:Int)+1)=d∧d≤120:=⟨n / (k+1),by rw [Int.tdiv_eq_ediv_of_nonneg (by omega)];rfl,Nat.le_trans (Nat.div_le_self _ _) (by omega)⟩;obtain ⟨d2,hd2,hd2b⟩:∃ d:Nat,(n:Int).tdiv ((k:Int)+2)=d∧d≤120:=⟨n / (k+2),by rw [Int.tdiv_eq_ediv_of_nonneg (by omega)];rfl,Nat.le_trans (Nat.div_le_self _ _) (by omega)⟩;obtain ⟨m1,hm1,hm1b⟩:∃ m:Nat,(d1:Int).tmod 3=m∧m<3:=⟨d1 % 3,by rw [Int.tmod_eq_emod_of_nonneg (by omega)];rfl,Nat.mod_lt _ (by omega)⟩;obtain ⟨m2,hm2,hm2b⟩:∃ m:Nat,(d2:Int).tmod 4=m∧m<4:=⟨d2 % 4,by rw [Int.tmod_eq_emod_of_nonneg (by omega)];rfl,Nat.mod_lt _ (by omega)⟩;obtain ⟨m3,hm3,hm3b⟩:∃ m:Nat,(k:Int).tmod 3=m∧m<3:=⟨k % 3,by rw [Int.tmod_eq_emod_of_nonneg (by omega)];rfl,Nat.mod_lt _ (by omega)⟩;obtain ⟨zs,hzs⟩:∃ z:Int,(n:Int) / 2 ^ k=z:=⟨_,rfl⟩;obtain ⟨za,hza⟩:∃ z,Go.bits BinOp.and IntKind.i64 zs 1=z:=⟨_,rfl⟩;obtain ⟨bz,hbz⟩:∃ b,(za == 0)=b:=⟨_,rfl⟩;have hw1:IntKind.i64.wrap ((k:Int)+1)=(k:Int)+1:=IntWalk.i64_in _ (by omega);have hw2:IntKind.i64.wrap (1+(m1:Int))=1+(m1:Int):=IntWalk.i64_in _ (by omega);have hw3:IntKind.i64.wrap ((k:Int)+2)=(k:Int)+2:=IntWalk.i64_in _ (by omega);have hk1:¬ (k:Int)+1=0:=by omega
       have hk2:¬ (k:Int)+2=0:=by omega
       have hv1:IntKind.i64.wrap (d1:Int)=d1:=IntWalk.i64_in _ (by omega);have hv2:IntKind.i64.wrap (d2:Int)=d2:=IntWalk.i64_in _ (by omega)
       go_upto_region 22 with fail
       refine Rk.region_gen 25 (Gai 25 (w1.heap.size+1) 61 v ws.length (wcells ws)) (Ga.isGr (w1.heap.size+1) 61 v ws.length (wcells ws)) (fun i a b h=>h.1) (fun i a=>Gai.refl 25 (w1.heap.size+1) 61 v ws.length (wcells ws) i a) 27 [[],[0],[],[],[3],[2,3,4],[2,3,4,5],[2,3,4,5,6],[],[],[9],[8,9,10],[8,9,10,11],[],[],[13,14],[13,14,15],[13,14,15,16],[13,14,15,16,17],[13,14,15,16,17,18],[13,14,15,16,17,18,19],[13,14,15,16,17,18,19,20],[13,14,15,16,17,18,19,20,21],[2,3,4,5,6,7,8,9,10,11,12,13,14,15,16,17,18,19,20,21,22],[2,3,4,5,6,7,8,9,10,11,12,13,14,15,16,17,18,19,20,21,22,23],[0,1,2,3,4,5,6,7,8,9,10,11,12,13,14,15,16,17,18,19,20,21,22,23,24],[0,1,2,3,4,5,6,7,8,9,10,11,12,13,14,15,16,17,18,19,20,21,22,23,24,25]] [some 147,some 148,some 149,some 150,some 151,some 152,some 153,some 154,some 155,some 156,some 157,some 158,some 159,some 160,some 161,some 162,some 163,some 164,some 165,some 166,some 167,some 168,some 169,some 170,some 171,some 172,some 173] (by omega) (spTw w1.heap.size (w1.heap.size+1) v n k d1 d2 m1 m2 m3 zs za bz ws.length (wcells ws)) (by decide +kernel) (by decide +kernel) (Rs.slotsB_of 464 rfl (by decide +kernel)) (spTw_stable _ _ _ _ _ _ _ _ _ _ _ _ _ _ _) ?_ ?_
       ·refine ⟨fun V w' c hG hc hs=>?_,fun V w' c hG hc hs=>?_,fun V w' c hG hc hs=>?_,fun V w' c hG hc hs=>?_,fun V w' c hG hc hs=>?_,fun V w' c hG hc hs=>?_,fun V w' c hG hc hs=>?_,fun V w' c hG hc hs=>?_,fun V w' c hG hc hs=>?_,fun V w' c hG hc hs=>?_,fun V w' c hG hc hs=>?_,fun V w' c hG hc hs=>?_,fun V w' c hG hc hs=>?_,fun V w' c hG hc hs=>?_,fun V w' c hG hc hs=>?_,fun V w' c hG hc hs=>?_,fun V w' c hG hc hs=>?_,fun V w' c hG hc hs=>?_,fun V w' c hG hc hs=>?_,fun V w' c hG hc hs=>?_,fun V w' c hG hc hs=>?_,fun V w' c hG hc hs=>?_,fun V w' c hG hc hs=>?_,fun V w' c hG hc hs=>?_,fun V w' c hG hc hs=>?_,fun V w' c hG hc hs=>?_,fun V w' c hG hc hs=>?_,trivial⟩
        all_goals
         have k1:w'.cell? ⟨w1.heap.size,0,none⟩=some v:=(ga_cell hG hbx hnb 0).trans kv
        ·rw [if_pos (by rfl)];exact Rk.GrowL.value (v:=.pointer (some ⟨w1.heap.size,0,none⟩)) (w':=w') (by simp [go_sem,Rs.look]) (Gai.refl _ _ _ _ _ _ _ _) rfl
        ·have e0:V 0=_:=hs 0 (by simp);rw [if_pos (by rfl)];exact Rk.GrowL.value (v:=v) (w':=w') (by simp [go_sem,Rs.look,e0,k1]) (Gai.refl _ _ _ _ _ _ _ _) rfl
        ·rw [if_pos (by rfl)];exact Rk.GrowL.value (v:=.int .i64 ((n:Int))) (w':=w') (by simp [go_sem,Rs.look]) (Gai.refl _ _ _ _ _ _ _ _) rfl
        ·rw [if_pos (by rfl)];exact Rk.GrowL.value (v:=.int .i64 ((k:Int))) (w':=w') (by simp [go_sem,Rs.look]) (Gai.refl _ _ _ _ _ _ _ _) rfl
        ·have e3:V 3=_:=hs 3 (by simp);rw [if_pos (by rfl)];exact Rk.GrowL.value (v:=.int .i64 ((k:Int)+1)) (w':=w') (by simp [go_sem,Rs.look,e3,hw1]) (Gai.refl _ _ _ _ _ _ _ _) rfl
        ·have e2:V 2=_:=hs 2 (by simp);have e3:V 3=_:=hs 3 (by simp);have e4:V 4=_:=hs 4 (by simp);rw [if_pos (by rfl)];exact Rk.GrowL.value (v:=.int .i64 ((d1:Int))) (w':=w') (by simp [go_sem,Rs.look,e2,e3,e4,hd1,hk1,hv1]) (Gai.refl _ _ _ _ _ _ _ _) rfl
        ·have e2:V 2=_:=hs 2 (by simp);have e3:V 3=_:=hs 3 (by simp);have e4:V 4=_:=hs 4 (by simp);have e5:V 5=_:=hs 5 (by simp);rw [if_pos (by rfl)];exact Rk.GrowL.value (v:=.int .i64 ((m1:Int))) (w':=w') (by simp [go_sem,Rs.look,e2,e3,e4,e5,hm1]) (Gai.refl _ _ _ _ _ _ _ _) rfl
        ·have e2:V 2=_:=hs 2 (by simp);have e3:V 3=_:=hs 3 (by simp);have e4:V 4=_:=hs 4 (by simp);have e5:V 5=_:=hs 5 (by simp);have e6:V 6=_:=hs 6 (by simp);rw [if_pos (by rfl)];exact Rk.GrowL.value (v:=.int .i64 (1+(m1:Int))) (w':=w') (by simp [go_sem,Rs.look,e2,e3,e4,e5,e6,hw2]) (Gai.refl _ _ _ _ _ _ _ _) rfl
        ·rw [if_pos (by rfl)];exact Rk.GrowL.value (v:=.int .i64 ((n:Int))) (w':=w') (by simp [go_sem,Rs.look]) (Gai.refl _ _ _ _ _ _ _ _) rfl
        ·rw [if_pos (by rfl)];exact Rk.GrowL.value (v:=.int .i64 ((k:Int))) (w':=w') (by simp [go_sem,Rs.look]) (Gai.refl _ _ _ _ _ _ _ _) rfl
        ·have e9:V 9=_:=hs 9 (by simp);rw [if_pos (by rfl)];exact Rk.GrowL.value (v:=.int .i64 ((k:Int)+2)) (w':=w') (by simp [go_sem,Rs.look,e9,hw3]) (Gai.refl _ _ _ _ _ _ _ _) rfl
        ·have e8:V 8=_:=hs 8 (by simp);have e9:V 9=_:=hs 9 (by simp);have e10:V 10=_:=hs 10 (by simp);rw [if_pos (by rfl)];exact Rk.GrowL.value (v:=.int .i64 ((d2:Int))) (w':=w') (by simp [go_sem,Rs.look,e8,e9,e10,hd2,hk2,hv2]) (Gai.refl _ _ _ _ _ _ _ _) rfl
        ·have e8:V 8=_:=hs 8 (by simp);have e9:V 9=_:=hs 9 (by simp);have e10:V 10=_:=hs 10 (by simp);have e11:V 11=_:=hs 11 (by simp);rw [if_pos (by rfl)];exact Rk.GrowL.value (v:=.int .i64 ((m2:Int))) (w':=w') (by simp [go_sem,Rs.look,e8,e9,e10,e11,hm2]) (Gai.refl _ _ _ _ _ _ _ _) rfl
        ·rw [if_pos (by rfl)];exact Rk.GrowL.value (v:=.int .i64 ((n:Int))) (w':=w') (by simp [go_sem,Rs.look]) (Gai.refl _ _ _ _ _ _ _ _) rfl
        ·rw [if_pos (by rfl)];exact Rk.GrowL.value (v:=.int .i64 ((k:Int))) (w':=w') (by simp [go_sem,Rs.look]) (Gai.refl _ _ _ _ _ _ _ _) rfl
        ·have e13:V 13=_:=hs 13 (by simp);have e14:V 14=_:=hs 14 (by simp);rw [if_pos (by rfl)];exact Rk.GrowL.value (v:=.int .i64 (zs)) (w':=w') (by simp [go_sem,Rs.look,e13,e14,hzs]) (Gai.refl _ _ _ _ _ _ _ _) rfl
        ·have e13:V 13=_:=hs 13 (by simp);have e14:V 14=_:=hs 14 (by simp);have e15:V 15=_:=hs 15 (by simp);rw [if_pos (by rfl)];exact Rk.GrowL.value (v:=.int .i64 (za)) (w':=w') (by simp [go_sem,Rs.look,e13,e14,e15,hza]) (Gai.refl _ _ _ _ _ _ _ _) rfl
        ·have e13:V 13=_:=hs 13 (by simp);have e14:V 14=_:=hs 14 (by simp);have e15:V 15=_:=hs 15 (by simp);have e16:V 16=_:=hs 16 (by simp);rw [if_pos (by rfl)];exact Rk.GrowL.value (v:=.bool bz) (w':=w') (by simp [go_sem,Rs.look,e13,e14,e15,e16,hbz]) (Gai.refl _ _ _ _ _ _ _ _) rfl
        ·have e13:V 13=_:=hs 13 (by simp);have e14:V 14=_:=hs 14 (by simp);have e15:V 15=_:=hs 15 (by simp);have e16:V 16=_:=hs 16 (by simp);have e17:V 17=_:=hs 17 (by simp);rw [if_pos (by rfl)];exact Rk.GrowL.value (v:=.bool bz) (w':=w') (by simp [go_sem,Rs.look,e13,e14,e15,e16,e17]) (Gai.refl _ _ _ _ _ _ _ _) rfl
        ·have e13:V 13=_:=hs 13 (by simp);have e14:V 14=_:=hs 14 (by simp);have e15:V 15=_:=hs 15 (by simp);have e16:V 16=_:=hs 16 (by simp);have e17:V 17=_:=hs 17 (by simp);have e18:V 18=_:=hs 18 (by simp);cases bz with
         | true =>
          rw [if_neg (by simp [Rs.wantB,e18])];rfl
         | false =>
          rw [if_pos (by simp [Rs.wantB,e18])];exact Rk.GrowL.value (v:=.int .i64 ((k:Int))) (w':=w') (by simp [go_sem,Rs.look,e13,e14,e15,e16,e17,e18]) (Gai.refl _ _ _ _ _ _ _ _) rfl
        ·have e13:V 13=_:=hs 13 (by simp);have e14:V 14=_:=hs 14 (by simp);have e15:V 15=_:=hs 15 (by simp);have e16:V 16=_:=hs 16 (by simp);have e17:V 17=_:=hs 17 (by simp);have e18:V 18=_:=hs 18 (by simp);have e19:V 19=_:=hs 19 (by simp);cases bz with
         | true =>
          rw [if_neg (by simp [Rs.wantB,e18])];rfl
         | false =>
          rw [if_pos (by simp [Rs.wantB,e18])];exact Rk.GrowL.value (v:=.int .i64 ((m3:Int))) (w':=w') (by simp [go_sem,Rs.look,e13,e14,e15,e16,e17,e18,e19,hm3]) (Gai.refl _ _ _ _ _ _ _ _) rfl
        ·have e13:V 13=_:=hs 13 (by simp);have e14:V 14=_:=hs 14 (by simp);have e15:V 15=_:=hs 15 (by simp);have e16:V 16=_:=hs 16 (by simp);have e17:V 17=_:=hs 17 (by simp);have e18:V 18=_:=hs 18 (by simp);have e19:V 19=_:=hs 19 (by simp);have e20:V 20=_:=hs 20 (by simp);cases bz with
         | true =>
          rw [if_neg (by simp [Rs.wantB,e18])];rfl
         | false =>
          rw [if_pos (by simp [Rs.wantB,e18])];exact Rk.GrowL.value (v:=.bool ((m3:Int) == 2)) (w':=w') (by simp [go_sem,Rs.look,e13,e14,e15,e16,e17,e18,e19,e20]) (Gai.refl _ _ _ _ _ _ _ _) rfl
        ·have e13:V 13=_:=hs 13 (by simp);have e14:V 14=_:=hs 14 (by simp);have e15:V 15=_:=hs 15 (by simp);have e16:V 16=_:=hs 16 (by simp);have e17:V 17=_:=hs 17 (by simp);have e18:V 18=_:=hs 18 (by simp);have e19:V 19=_:=hs 19 (by simp);have e20:V 20=_:=hs 20 (by simp);have e21:V 21=_:=hs 21 (by simp);rw [if_pos (by rfl)];cases bz with
         | true=>exact Rk.GrowL.value (v:=.bool true) (w':=w') (by simp [go_sem,Rs.look,e18,e21]) (Gai.refl _ _ _ _ _ _ _ _) rfl
         | false=>exact Rk.GrowL.value (v:=.bool ((m3:Int) == 2)) (w':=w') (by simp [go_sem,Rs.look,e18,e21]) (Gai.refl _ _ _ _ _ _ _ _) rfl
        ·have e2:V 2=_:=hs 2 (by simp);have e3:V 3=_:=hs 3 (by simp);have e4:V 4=_:=hs 4 (by simp);have e5:V 5=_:=hs 5 (by simp);have e6:V 6=_:=hs 6 (by simp);have e7:V 7=_:=hs 7 (by simp);have e8:V 8=_:=hs 8 (by simp);have e9:V 9=_:=hs 9 (by simp);have e10:V 10=_:=hs 10 (by simp);have e11:V 11=_:=hs 11 (by simp);have e12:V 12=_:=hs 12 (by simp);have e13:V 13=_:=hs 13 (by simp);have e14:V 14=_:=hs 14 (by simp);have e15:V 15=_:=hs 15 (by simp);have e16:V 16=_:=hs 16 (by simp);have e17:V 17=_:=hs 17 (by simp);have e18:V 18=_:=hs 18 (by simp);have e19:V 19=_:=hs 19 (by simp);have e20:V 20=_:=hs 20 (by simp);have e21:V 21=_:=hs 21 (by simp);have e22:V 22=_:=hs 22 (by simp);rw [if_pos (by rfl)];exact Rk.GrowL.value (v:=.agg #[.int .i64 (1+(m1:Int)),.int .i64 (m2:Int),.bool (bz||(m3:Int) == 2)]) (w':=w') (by simp [go_sem,Rs.look,e2,e3,e4,e5,e6,e7,e8,e9,e10,e11,e12,e13,e14,e15,e16,e17,e18,e19,e20,e21,e22]) (Gai.refl _ _ _ _ _ _ _ _) rfl
        ·have e2:V 2=_:=hs 2 (by simp);have e3:V 3=_:=hs 3 (by simp);have e4:V 4=_:=hs 4 (by simp);have e5:V 5=_:=hs 5 (by simp);have e6:V 6=_:=hs 6 (by simp);have e7:V 7=_:=hs 7 (by simp);have e8:V 8=_:=hs 8 (by simp);have e9:V 9=_:=hs 9 (by simp);have e10:V 10=_:=hs 10 (by simp);have e11:V 11=_:=hs 11 (by simp);have e12:V 12=_:=hs 12 (by simp);have e13:V 13=_:=hs 13 (by simp);have e14:V 14=_:=hs 14 (by simp);have e15:V 15=_:=hs 15 (by simp);have e16:V 16=_:=hs 16 (by simp);have e17:V 17=_:=hs 17 (by simp);have e18:V 18=_:=hs 18 (by simp);have e19:V 19=_:=hs 19 (by simp);have e20:V 20=_:=hs 20 (by simp);have e21:V 21=_:=hs 21 (by simp);have e22:V 22=_:=hs 22 (by simp);have e23:V 23=_:=hs 23 (by simp);rw [if_pos (by rfl)];exact Rk.GrowL.value (v:=.slice (some ⟨w'.heap.size,0,none⟩) 1 1) (w':=w'.alloc (.cells #[.int .i64 (1+(m1:Int)),.int .i64 (m2:Int),.bool (bz||(m3:Int) == 2)] 61)) (by simp [go_sem,Rs.look,e23]) (Gai.of (below1 _ _)) (fun _=>⟨w'.heap.size,rfl,heap_last _ _⟩)
        ·have e0:V 0=_:=hs 0 (by simp);have e1:V 1=_:=hs 1 (by simp);have e2:V 2=_:=hs 2 (by simp);have e3:V 3=_:=hs 3 (by simp);have e4:V 4=_:=hs 4 (by simp);have e5:V 5=_:=hs 5 (by simp);have e6:V 6=_:=hs 6 (by simp);have e7:V 7=_:=hs 7 (by simp);have e8:V 8=_:=hs 8 (by simp);have e9:V 9=_:=hs 9 (by simp);have e10:V 10=_:=hs 10 (by simp);have e11:V 11=_:=hs 11 (by simp);have e12:V 12=_:=hs 12 (by simp);have e13:V 13=_:=hs 13 (by simp);have e14:V 14=_:=hs 14 (by simp);have e15:V 15=_:=hs 15 (by simp);have e16:V 16=_:=hs 16 (by simp);have e17:V 17=_:=hs 17 (by simp);have e18:V 18=_:=hs 18 (by simp);have e19:V 19=_:=hs 19 (by simp);have e20:V 20=_:=hs 20 (by simp);have e21:V 21=_:=hs 21 (by simp);have e22:V 22=_:=hs 22 (by simp);have e23:V 23=_:=hs 23 (by simp);have r24:=hs 24 (by simp);rw [if_pos (by rfl)];obtain ⟨p,e24,hpc⟩:=r24 (hc rfl);obtain ⟨v',w2,hr,g1,g2,g3⟩:=append_keep3 A_undWs A_infoWd rfl w' (w1.heap.size+1) 22 v ws.length (wcells ws) _ (hG.2 HD.out.ow) (by have:=HD.out.bz;have:=hG.1.size;omega) (by rw [HWL.out];omega) p hpc rfl (by intro q hq;simp [wcell] at hq;rcases hq with rfl | rfl | rfl <;> rfl)
         exact Rk.GrowL.value (v:=v') (w':=w2) (exec_append3 rfl rfl (by simp [Rs.look,e1]) (by simp [Rs.look,e24]) hr) ⟨⟨g2,fun _=>g3⟩,fun h=>absurd rfl h⟩ ⟨by simp,g1⟩
        ·have e0:V 0=_:=hs 0 (by simp);have e1:V 1=_:=hs 1 (by simp);have e2:V 2=_:=hs 2 (by simp);have e3:V 3=_:=hs 3 (by simp);have e4:V 4=_:=hs 4 (by simp);have e5:V 5=_:=hs 5 (by simp);have e6:V 6=_:=hs 6 (by simp);have e7:V 7=_:=hs 7 (by simp);have e8:V 8=_:=hs 8 (by simp);have e9:V 9=_:=hs 9 (by simp);have e10:V 10=_:=hs 10 (by simp);have e11:V 11=_:=hs 11 (by simp);have e12:V 12=_:=hs 12 (by simp);have e13:V 13=_:=hs 13 (by simp);have e14:V 14=_:=hs 14 (by simp);have e15:V 15=_:=hs 15 (by simp);have e16:V 16=_:=hs 16 (by simp);have e17:V 17=_:=hs 17 (by simp);have e18:V 18=_:=hs 18 (by simp);have e19:V 19=_:=hs 19 (by simp);have e20:V 20=_:=hs 20 (by simp);have e21:V 21=_:=hs 21 (by simp);have e22:V 22=_:=hs 22 (by simp);have e23:V 23=_:=hs 23 (by simp);have r24:=hs 24 (by simp);have r25:=hs 25 (by simp);rw [if_pos (by rfl)];exact Rk.GrowL.value (v:=.pointer (some ⟨w1.heap.size,0,none⟩)) (w':=w') (by simp [go_sem,Rs.look,e0,e1,e2,e3,e4,e5,e6,e7,e8,e9,e10,e11,e12,e13,e14,e15,e16,e17,e18,e19,e20,e21,e22,e23]) (Gai.refl _ _ _ _ _ _ _ _) rfl
       ·intro V w' hG hs;have r25:=hs 25 (by omega);have e26:V 26=_:=hs 26 (by omega);obtain ⟨-,hown⟩:=r25;obtain ⟨vp,vc,e25⟩:∃ vp vc,V 25=.slice vp (ws.length+1) vc:=own_val hown;rw [e25] at hown;simp only [Rs.canon,Rs.dstOf,List.range_succ,List.range_zero,List.nil_append,List.cons_append,List.foldl_cons,List.foldl_nil,List.drop_succ_cons,List.drop_zero,List.drop_nil,List.getElem?_toArray,List.getElem?_cons_succ,List.getElem?_cons_zero,Option.bind_some,List.getD_cons_succ,List.getD_cons_zero];rw [e26,e25];go_frame;clear e26 e25 hs;obtain ⟨hM,c0',f0',b0'⟩:=HD.out.wapp hG.1 hown;have HM:=Lib.hid hM;clear hM hG hown hzs hza hbz hd1 hd2 hm1 hm2 hm3 HD kv hnb;go_wp2_with fail
        go_roundw
        case rel=>exact ⟨k+1,_,_,by omega,by go_num,by rw [List.length_append,HWL.out];rfl,HM.out⟩
        case measure=>simp [intOf];omega
      ·obtain rfl:k=3+q4:=by omega
       go_wp2_with fail
       go_meet;exact ⟨_,rfl,ws,v,hwl,hD⟩
    case rest=>as_aux_lemma =>
     obtain ⟨w4,rfl,ws,v,hwl,hD⟩:=hcut;have HD4:=Lib.hid hD;have HWL:=Lib.hid hwl;clear hD hwl HP h5 h4;obtain ⟨n2,hn2,hn2b⟩:∃ d:Nat,(n:Int).tdiv 2=d∧d≤120:=⟨n / 2,by rw [Int.tdiv_eq_ediv_of_nonneg (by omega)];rfl,Nat.le_trans (Nat.div_le_self _ _) (by omega)⟩;obtain ⟨q3,h3,h3b⟩:∃ q:Nat,(n2:Int).tmod 3=q∧q<3:=⟨n2 % 3,by rw [Int.tmod_eq_emod_of_nonneg (by omega)];rfl,Nat.mod_lt _ (by omega)⟩
     go_upto_block 8 with fail
     go_cut [15,16,17] from 178 to 218 (fun _ _ _ wx=>∃ wz:World,wz=wx∧∃ ts u,ts.length=q3∧Mkt w1 w1.heap.size (w1.heap.size+1) (2+(q5:Int)) v u ws ts wz)
     case first=>as_aux_lemma =>
      go_wp2_with fail
      go_loopw [178] (fun i wr=>∃ (k:Nat) (ts:List Turn) (u:Value),k≤q3∧i=.int .i64 k∧ts.length=k∧Mkt w1 w1.heap.size (w1.heap.size+1) (2+(q5:Int)) v u ws ts wr) (fun i _=>q3-(intOf i).toNat)
      case atStart=>exact ⟨0,[],_,by omega,rfl,rfl,HD4.out⟩
      case round=>as_aux_lemma =>
       clear HD4;obtain ⟨k,ts,u,hk,rfl,htl,hD⟩:=hrel;obtain ⟨w5,rfl⟩:∃ w5:World,w5=wr:=⟨_,rfl⟩;by_cases hlk:k<q3
       ·have hlk':(k:Int)<(q3:Int):=by omega
        obtain ⟨pw,cw,hvE⟩:∃ pw cw,v=.slice pw ws.length cw:=own_val hD.ow;subst hvE;obtain ⟨kv,ku,-,hbx⟩:=hD.load;have hnb:some w1.heap.size≠u.ownBlock:=fun e=>by have:=(own_blockI hD.ou _ e.symm).1;omega
        have HD:=Lib.hid hD;have HTL:=Lib.hid htl;have hNl:3≤ws.length∧ws.length≤10:=by have:=HWL.out;omega
        have htl10:ts.length≤10:=by omega
        clear htl hD;obtain ⟨dA,hdA,hdAb⟩:∃ d:Nat,(n:Int).tdiv ((k:Int)+1)=d∧d≤120:=⟨n / (k+1),by rw [Int.tdiv_eq_ediv_of_nonneg (by omega)];rfl,Nat.le_trans (Nat.div_le_self _ _) (by omega)⟩;obtain ⟨dB,hdB,hdBb⟩:∃ d:Nat,(n:Int).tdiv ((k:Int)+3)=d∧d≤120:=⟨n / (k+3),by rw [Int.tdiv_eq_ediv_of_nonneg (by omega)];rfl,Nat.le_trans (Nat.div_le_self _ _) (by omega)⟩;obtain ⟨wz,hwz,hwzb⟩:∃ z:Int,(dA:Int).tmod (ws.length:Int)=z∧0≤z∧z≤120:=⟨_,rfl,by rw [Int.tmod_eq_emod_of_nonneg (by omega)];exact ⟨Int.emod_nonneg _ (by omega),by have:=Int.emod_lt_of_pos (dA:Int) (show (0:Int)<ws.length by omega);omega⟩⟩;obtain ⟨lz,hlz,hlzb⟩:∃ z:Int,(dB:Int).tmod (ws.length:Int)=z∧0≤z∧z≤120:=⟨_,rfl,by rw [Int.tmod_eq_emod_of_nonneg (by omega)];exact ⟨Int.emod_nonneg _ (by omega),by have:=Int.emod_lt_of_pos (dB:Int) (show (0:Int)<ws.length by omega);omega⟩⟩;have hwz':(dA:Int) % (ws.length:Int)=wz:=by rw [← hwz,Int.tmod_eq_emod_of_nonneg (by omega)]
        have hlz':(dB:Int) % (ws.length:Int)=lz:=by rw [← hlz,Int.tmod_eq_emod_of_nonneg (by omega)]
        have hk1:((k:Int)+1 == 0)=false:=by rw [beq_eq_false_iff_ne];omega
        have hk3:((k:Int)+3 == 0)=false:=by rw [beq_eq_false_iff_ne];omega
        have hkN:((ws.length:Int) == 0)=false:=by rw [beq_eq_false_iff_ne];omega
        go_upto_region 27 with fail
        go_quiet (fail)
        clear hdA hdB hwz hlz hwz' hlz' hk1 hk3 hkN;obtain ⟨dn,hdn,hdnb⟩:∃ d:Nat,(n:Int).tdiv ((k:Int)+2)=d∧d≤120:=⟨n / (k+2),by rw [Int.tdiv_eq_ediv_of_nonneg (by omega)];rfl,Nat.le_trans (Nat.div_le_self _ _) (by omega)⟩;obtain ⟨d1,hd1e⟩:∃ d1:Int,d1=dn:=⟨_,rfl⟩;have hd1:(n:Int).tdiv ((k:Int)+2)=d1:=by rw [hd1e];exact hdn
        have hd1b:0≤d1∧d1≤120:=by omega
        clear hd1e hdn hdnb;obtain ⟨m1,hm1,hm1b⟩:∃ m:Int,d1.tmod 3=m∧0≤m∧m<3:=⟨_,rfl,by rw [Int.tmod_eq_emod_of_nonneg (by omega)];omega⟩;have hw3:IntKind.i64.wrap ((k:Int)+2)=(k:Int)+2:=IntWalk.i64_in _ (by omega);have hw4:IntKind.i64.wrap ((ws.length:Int)-1)=(ws.length:Int)-1:=IntWalk.i64_in _ (by omega);have hw5:IntKind.i64.wrap (lz+m1)=lz+m1:=IntWalk.i64_in _ (by omega);have hv1:IntKind.i64.wrap d1=d1:=IntWalk.i64_in _ (by omega);have hv2:IntKind.i64.wrap m1=m1:=IntWalk.i64_in _ (by omega);have hk2:¬ (k:Int)+2=0:=by omega
        go_upto_region 28 with fail
        refine wp_named fun Wd hWd=>?_;have hBd:Below w5.heap.size w5 Wd:=by rw [hWd];exact below_drewN' (Below.refl _ _) _
        have HD:=Lib.hid (HD.out.below hBd);obtain ⟨kv,ku,-,hbx⟩:=HD.out.load;clear hWd hBd;refine Rk.region_gen 19 (Gai 19 (w1.heap.size+1) 63 u ts.length (tcells ts)) (Ga.isGr (w1.heap.size+1) 63 u ts.length (tcells ts)) (fun i a b h=>h.1) (fun i a=>Gai.refl 19 (w1.heap.size+1) 63 u ts.length (tcells ts) i a) 21 [[],[0],[],[],[],[4],[4,5],[4,5,6],[],[],[],[10],[9,10,11],[9,10,11,12],[8,9,10,11,12,13],[4,5,6,7,8,9,10,11,12,13,14],[3,4,5,6,7,8,9,10,11,12,13,14,15],[2,3,4,5,6,7,8,9,10,11,12,13,14,15,16],[2,3,4,5,6,7,8,9,10,11,12,13,14,15,16,17],[0,1,2,3,4,5,6,7,8,9,10,11,12,13,14,15,16,17,18],[0,1,2,3,4,5,6,7,8,9,10,11,12,13,14,15,16,17,18,19]] [some 197,some 198,some 199,some 200,some 201,some 202,some 203,some 204,some 205,some 206,some 207,some 208,some 209,some 210,some 211,some 212,some 213,some 214,some 215,some 216,some 217] (by omega) (spTu w1.heap.size (w1.heap.size+1) u (.slice pw ws.length cw) n k ws.length wz lz d1 m1 ts.length (tcells ts)) (by decide +kernel) (by decide +kernel) (Rs.slotsB_of 464 rfl (by decide +kernel)) (spTu_stable _ _ _ _ _ _ _ _ _ _ _ _ _) ?_ ?_
        ·refine ⟨fun V w' c hG hc hs=>?_,fun V w' c hG hc hs=>?_,fun V w' c hG hc hs=>?_,fun V w' c hG hc hs=>?_,fun V w' c hG hc hs=>?_,fun V w' c hG hc hs=>?_,fun V w' c hG hc hs=>?_,fun V w' c hG hc hs=>?_,fun V w' c hG hc hs=>?_,fun V w' c hG hc hs=>?_,fun V w' c hG hc hs=>?_,fun V w' c hG hc hs=>?_,fun V w' c hG hc hs=>?_,fun V w' c hG hc hs=>?_,fun V w' c hG hc hs=>?_,fun V w' c hG hc hs=>?_,fun V w' c hG hc hs=>?_,fun V w' c hG hc hs=>?_,fun V w' c hG hc hs=>?_,fun V w' c hG hc hs=>?_,fun V w' c hG hc hs=>?_,trivial⟩
         all_goals
          have k1:w'.cell? ⟨w1.heap.size,1,none⟩=some u:=(ga_cell hG hbx hnb 1).trans ku;have k0:w'.cell? ⟨w1.heap.size,0,none⟩=some (.slice pw ws.length cw):=(ga_cell hG hbx hnb 0).trans kv
         ·rw [if_pos (by rfl)];exact Rk.GrowL.value (v:=.pointer (some ⟨w1.heap.size,1,none⟩)) (w':=w') (by simp [go_sem,Rs.look]) (Gai.refl _ _ _ _ _ _ _ _) rfl
         ·have e0:V 0=_:=hs 0 (by simp);rw [if_pos (by rfl)];exact Rk.GrowL.value (v:=u) (w':=w') (by simp [go_sem,Rs.look,e0,k1]) (Gai.refl _ _ _ _ _ _ _ _) rfl
         ·rw [if_pos (by rfl)];exact Rk.GrowL.value (v:=.int .i64 (wz)) (w':=w') (by simp [go_sem,Rs.look]) (Gai.refl _ _ _ _ _ _ _ _) rfl
         ·rw [if_pos (by rfl)];exact Rk.GrowL.value (v:=.int .i64 (lz)) (w':=w') (by simp [go_sem,Rs.look]) (Gai.refl _ _ _ _ _ _ _ _) rfl
         ·rw [if_pos (by rfl)];exact Rk.GrowL.value (v:=.pointer (some ⟨w1.heap.size,0,none⟩)) (w':=w') (by simp [go_sem,Rs.look]) (Gai.refl _ _ _ _ _ _ _ _) rfl
         ·have e4:V 4=_:=hs 4 (by simp);rw [if_pos (by rfl)];exact Rk.GrowL.value (v:=(.slice pw ws.length cw)) (w':=w') (by simp [go_sem,Rs.look,e4,k0]) (Gai.refl _ _ _ _ _ _ _ _) rfl
         ·have e4:V 4=_:=hs 4 (by simp);have e5:V 5=_:=hs 5 (by simp);rw [if_pos (by rfl)];exact Rk.GrowL.value (v:=.int .i64 ((ws.length:Int))) (w':=w') (by simp [go_sem,Rs.look,e4,e5]) (Gai.refl _ _ _ _ _ _ _ _) rfl
         ·have e4:V 4=_:=hs 4 (by simp);have e5:V 5=_:=hs 5 (by simp);have e6:V 6=_:=hs 6 (by simp);rw [if_pos (by rfl)];exact Rk.GrowL.value (v:=.int .i64 ((ws.length:Int)-1)) (w':=w') (by simp [go_sem,Rs.look,e4,e5,e6,hw4]) (Gai.refl _ _ _ _ _ _ _ _) rfl
         ·rw [if_pos (by rfl)];exact Rk.GrowL.value (v:=.int .i64 (lz)) (w':=w') (by simp [go_sem,Rs.look]) (Gai.refl _ _ _ _ _ _ _ _) rfl
         ·rw [if_pos (by rfl)];exact Rk.GrowL.value (v:=.int .i64 ((n:Int))) (w':=w') (by simp [go_sem,Rs.look]) (Gai.refl _ _ _ _ _ _ _ _) rfl
         ·rw [if_pos (by rfl)];exact Rk.GrowL.value (v:=.int .i64 ((k:Int))) (w':=w') (by simp [go_sem,Rs.look]) (Gai.refl _ _ _ _ _ _ _ _) rfl
         ·have e10:V 10=_:=hs 10 (by simp);rw [if_pos (by rfl)];exact Rk.GrowL.value (v:=.int .i64 ((k:Int)+2)) (w':=w') (by simp [go_sem,Rs.look,e10,hw3]) (Gai.refl _ _ _ _ _ _ _ _) rfl
         ·have e9:V 9=_:=hs 9 (by simp);have e10:V 10=_:=hs 10 (by simp);have e11:V 11=_:=hs 11 (by simp);rw [if_pos (by rfl)];exact Rk.GrowL.value (v:=.int .i64 (d1)) (w':=w') (by simp [go_sem,Rs.look,e9,e10,e11,hd1,hk2,hv1]) (Gai.refl _ _ _ _ _ _ _ _) rfl
         ·have e9:V 9=_:=hs 9 (by simp);have e10:V 10=_:=hs 10 (by simp);have e11:V 11=_:=hs 11 (by simp);have e12:V 12=_:=hs 12 (by simp);rw [if_pos (by rfl)];exact Rk.GrowL.value (v:=.int .i64 (m1)) (w':=w') (by simp [go_sem,Rs.look,e9,e10,e11,e12,hm1,hv2]) (Gai.refl _ _ _ _ _ _ _ _) rfl
         ·have e8:V 8=_:=hs 8 (by simp);have e9:V 9=_:=hs 9 (by simp);have e10:V 10=_:=hs 10 (by simp);have e11:V 11=_:=hs 11 (by simp);have e12:V 12=_:=hs 12 (by simp);have e13:V 13=_:=hs 13 (by simp);rw [if_pos (by rfl)];exact Rk.GrowL.value (v:=.int .i64 (lz+m1)) (w':=w') (by simp [go_sem,Rs.look,e8,e9,e10,e11,e12,e13,hw5]) (Gai.refl _ _ _ _ _ _ _ _) rfl
         ·have e4:V 4=_:=hs 4 (by simp);have e5:V 5=_:=hs 5 (by simp);have e6:V 6=_:=hs 6 (by simp);have e7:V 7=_:=hs 7 (by simp);have e8:V 8=_:=hs 8 (by simp);have e9:V 9=_:=hs 9 (by simp);have e10:V 10=_:=hs 10 (by simp);have e11:V 11=_:=hs 11 (by simp);have e12:V 12=_:=hs 12 (by simp);have e13:V 13=_:=hs 13 (by simp);have e14:V 14=_:=hs 14 (by simp);rw [if_pos (by rfl)];exact Rk.GrowL.value (v:=.int .i64 (min ((ws.length:Int)-1) (lz+m1))) (w':=w') (by simp [go_sem,Rs.look,e4,e5,e6,e7,e8,e9,e10,e11,e12,e13,e14]) (Gai.refl _ _ _ _ _ _ _ _) rfl
         ·have e3:V 3=_:=hs 3 (by simp);have e4:V 4=_:=hs 4 (by simp);have e5:V 5=_:=hs 5 (by simp);have e6:V 6=_:=hs 6 (by simp);have e7:V 7=_:=hs 7 (by simp);have e8:V 8=_:=hs 8 (by simp);have e9:V 9=_:=hs 9 (by simp);have e10:V 10=_:=hs 10 (by simp);have e11:V 11=_:=hs 11 (by simp);have e12:V 12=_:=hs 12 (by simp);have e13:V 13=_:=hs 13 (by simp);have e14:V 14=_:=hs 14 (by simp);have e15:V 15=_:=hs 15 (by simp);rw [if_pos (by rfl)];exact Rk.GrowL.value (v:=.agg #[.int .i64 lz,.int .i64 (min ((ws.length:Int)-1) (lz+m1))]) (w':=w') (by simp [go_sem,Rs.look,e3,e4,e5,e6,e7,e8,e9,e10,e11,e12,e13,e14,e15]) (Gai.refl _ _ _ _ _ _ _ _) rfl
         ·have e2:V 2=_:=hs 2 (by simp);have e3:V 3=_:=hs 3 (by simp);have e4:V 4=_:=hs 4 (by simp);have e5:V 5=_:=hs 5 (by simp);have e6:V 6=_:=hs 6 (by simp);have e7:V 7=_:=hs 7 (by simp);have e8:V 8=_:=hs 8 (by simp);have e9:V 9=_:=hs 9 (by simp);have e10:V 10=_:=hs 10 (by simp);have e11:V 11=_:=hs 11 (by simp);have e12:V 12=_:=hs 12 (by simp);have e13:V 13=_:=hs 13 (by simp);have e14:V 14=_:=hs 14 (by simp);have e15:V 15=_:=hs 15 (by simp);have e16:V 16=_:=hs 16 (by simp);rw [if_pos (by rfl)];exact Rk.GrowL.value (v:=.agg #[.int .i64 wz,.int .i64 lz,.int .i64 (min ((ws.length:Int)-1) (lz+m1))]) (w':=w') (by simp [go_sem,Rs.look,e2,e3,e4,e5,e6,e7,e8,e9,e10,e11,e12,e13,e14,e15,e16]) (Gai.refl _ _ _ _ _ _ _ _) rfl
         ·have e2:V 2=_:=hs 2 (by simp);have e3:V 3=_:=hs 3 (by simp);have e4:V 4=_:=hs 4 (by simp);have e5:V 5=_:=hs 5 (by simp);have e6:V 6=_:=hs 6 (by simp);have e7:V 7=_:=hs 7 (by simp);have e8:V 8=_:=hs 8 (by simp);have e9:V 9=_:=hs 9 (by simp);have e10:V 10=_:=hs 10 (by simp);have e11:V 11=_:=hs 11 (by simp);have e12:V 12=_:=hs 12 (by simp);have e13:V 13=_:=hs 13 (by simp);have e14:V 14=_:=hs 14 (by simp);have e15:V 15=_:=hs 15 (by simp);have e16:V 16=_:=hs 16 (by simp);have e17:V 17=_:=hs 17 (by simp);rw [if_pos (by rfl)];exact Rk.GrowL.value (v:=.slice (some ⟨w'.heap.size,0,none⟩) 1 1) (w':=w'.alloc (.cells #[.int .i64 wz,.int .i64 lz,.int .i64 (min ((ws.length:Int)-1) (lz+m1))] 63)) (by simp [go_sem,Rs.look,e17]) (Gai.of (below1 _ _)) (fun _=>⟨w'.heap.size,rfl,heap_last _ _⟩)
         ·have e0:V 0=_:=hs 0 (by simp);have e1:V 1=_:=hs 1 (by simp);have e2:V 2=_:=hs 2 (by simp);have e3:V 3=_:=hs 3 (by simp);have e4:V 4=_:=hs 4 (by simp);have e5:V 5=_:=hs 5 (by simp);have e6:V 6=_:=hs 6 (by simp);have e7:V 7=_:=hs 7 (by simp);have e8:V 8=_:=hs 8 (by simp);have e9:V 9=_:=hs 9 (by simp);have e10:V 10=_:=hs 10 (by simp);have e11:V 11=_:=hs 11 (by simp);have e12:V 12=_:=hs 12 (by simp);have e13:V 13=_:=hs 13 (by simp);have e14:V 14=_:=hs 14 (by simp);have e15:V 15=_:=hs 15 (by simp);have e16:V 16=_:=hs 16 (by simp);have e17:V 17=_:=hs 17 (by simp);have r18:=hs 18 (by simp);rw [if_pos (by rfl)];obtain ⟨p,e18,hpc⟩:=r18 (hc rfl);obtain ⟨v',w2,hr,g1,g2,g3⟩:=append_keep3 A_undTs A_infoTn rfl w' (w1.heap.size+1) 23 u ts.length (tcells ts) _ (hG.2 HD.out.ou) (by have:=HD.out.bz;have:=hG.1.size;omega) (by omega) p hpc rfl (by intro q hq;simp [tcell] at hq;rcases hq with rfl | rfl | rfl <;> rfl)
          exact Rk.GrowL.value (v:=v') (w':=w2) (exec_append3 rfl rfl (by simp [Rs.look,e1]) (by simp [Rs.look,e18]) hr) ⟨⟨g2,fun _=>g3⟩,fun h=>absurd rfl h⟩ ⟨by simp,g1⟩
         ·have e0:V 0=_:=hs 0 (by simp);have e1:V 1=_:=hs 1 (by simp);have e2:V 2=_:=hs 2 (by simp);have e3:V 3=_:=hs 3 (by simp);have e4:V 4=_:=hs 4 (by simp);have e5:V 5=_:=hs 5 (by simp);have e6:V 6=_:=hs 6 (by simp);have e7:V 7=_:=hs 7 (by simp);have e8:V 8=_:=hs 8 (by simp);have e9:V 9=_:=hs 9 (by simp);have e10:V 10=_:=hs 10 (by simp);have e11:V 11=_:=hs 11 (by simp);have e12:V 12=_:=hs 12 (by simp);have e13:V 13=_:=hs 13 (by simp);have e14:V 14=_:=hs 14 (by simp);have e15:V 15=_:=hs 15 (by simp);have e16:V 16=_:=hs 16 (by simp);have e17:V 17=_:=hs 17 (by simp);have r18:=hs 18 (by simp);have r19:=hs 19 (by simp);rw [if_pos (by rfl)];exact Rk.GrowL.value (v:=.pointer (some ⟨w1.heap.size,1,none⟩)) (w':=w') (by simp [go_sem,Rs.look,e0,e1,e2,e3,e4,e5,e6,e7,e8,e9,e10,e11,e12,e13,e14,e15,e16,e17]) (Gai.refl _ _ _ _ _ _ _ _) rfl
        ·intro V w' hG hs;have r19:=hs 19 (by omega);have e20:V 20=_:=hs 20 (by omega);obtain ⟨-,hown⟩:=r19;obtain ⟨up,uc,e19⟩:∃ up uc,V 19=.slice up (ts.length+1) uc:=own_val hown;rw [e19] at hown;simp only [Rs.canon,Rs.dstOf,List.range_succ,List.range_zero,List.nil_append,List.cons_append,List.foldl_cons,List.foldl_nil,List.drop_succ_cons,List.drop_zero,List.drop_nil,List.getElem?_toArray,List.getElem?_cons_succ,List.getElem?_cons_zero,Option.bind_some,List.getD_cons_succ,List.getD_cons_zero];rw [e20,e19];go_frame;clear e20 e19 hs;obtain ⟨hM,c0',f0',b0'⟩:=HD.out.tapp hG.1 hown;have HM:=Lib.hid hM;clear hM hG hown hd1 hm1 HD kv ku hnb;go_wp2_with fail
         go_roundw
         case rel=>exact ⟨k+1,_,_,by omega,by go_num,by rw [List.length_append,HTL.out];rfl,HM.out⟩
         case measure=>simp [intOf];omega
       ·obtain rfl:k=q3:=by omega
        go_wp2_with fail
        go_meet;exact ⟨_,rfl,ts,u,htl,hD⟩
     case rest=>as_aux_lemma =>
      obtain ⟨w6,rfl,ts,u,htl,hD⟩:=hcut;obtain ⟨p,q,a,b,hvE,huE,hT,hle,hcap⟩:=hD.read;subst hvE;subst huE;have hbox:=hD.box;have hbw:=Lib.hid (join HB1.out hD.bel);have hwl:=HWL.out;have HTX:=Lib.hid hT;have HBX:=Lib.hid hbox;have hs6:w1.heap.size<w6.heap.size:=(Array.getElem?_eq_some_iff.1 hbox).1;obtain ⟨br,hbr⟩:∃ br,br=2+(q5:Int):=⟨_,rfl⟩;rw [← hbr] at HBX;have CFE:=Lib.hid (fun W (h:Below w6.heap.size w6 W)=>(show Calls Tryz.prog 29 #[.agg #[.slice p ws.length a,.slice q ts.length b,.int .i64 br]] W (ListPost (fewL ⟨ws,ts,br⟩) (fewE ⟨ws,ts,br⟩) W) from Fewest_any ⟨ws,ts,br⟩ (by show ws.length≤_;omega) (by show ts.length≤_;omega) p q a b ⟨hle,hcap⟩ W ((⟨hT.words,hT.turns⟩:TxAt w6 ⟨ws,ts,br⟩ p q).below h)));have CMA:=Lib.hid (fun W (h:Below w6.heap.size w6 W)=>(show Calls Tryz.prog 30 #[.agg #[.slice p ws.length a,.slice q ts.length b,.int .i64 br]] W (RdPostO (markL ⟨ws,ts,br⟩) (fewE ⟨ws,ts,br⟩) W) from Marks_own ⟨ws,ts,br⟩ (by show ws.length≤_;omega) (by show ts.length≤_;omega) p q a b ⟨hle,hcap⟩ W ((⟨hT.words,hT.turns⟩:TxAt w6 ⟨ws,ts,br⟩ p q).below h)));have CLE:=Lib.hid (fun wt W (h:Below w6.heap.size w6 W)=>(show Calls Tryz.prog 31 #[.agg #[.slice p ws.length a,.slice q ts.length b,.int .i64 br],.int .i64 wt] W (ListPost (leaL ⟨ws,ts,br⟩ wt) (leaE ⟨ws,ts,br⟩ wt) W) from Least_any ⟨ws,ts,br⟩ wt (by show ws.length≤_;omega) (by show ts.length≤_;omega) p q a b ⟨hle,hcap⟩ W ((⟨hT.words,hT.turns⟩:TxAt w6 ⟨ws,ts,br⟩ p q).below h)));have KTX:=Lib.hid (show TxAt w6 ⟨ws,ts,br⟩ p q from ⟨hT.words,hT.turns⟩);have hwb:ws.length≤9223372036854775807:=by omega
      have htb:ts.length≤9223372036854775807:=by omega
      clear hT hD hbox HD4 HTX htl hbr;have hbd1:(fewL ⟨ws,ts,br⟩).length≤1000000:=by
       by_cases he:(⟨ws,ts,br⟩:Text).err=0
       ·have F:=few_facts he;have:=F.fl;have:=F.b12;omega
       ·rw [show fewL ⟨ws,ts,br⟩=[] from if_neg he];simp
      have hbd2:(markL ⟨ws,ts,br⟩).length≤1000000:=by
       unfold markL;split
       ·rw [List.length_take];show min (ws.length+1) _≤_;omega
       ·simp
      have hbd3:∀ x,(leaL ⟨ws,ts,br⟩ x).length≤1000000:=fun x=>lea_len _ x (by show ws.length≤_;omega);generalize fewE ⟨ws,ts,br⟩=fe at CFE CMA;generalize fewL ⟨ws,ts,br⟩=l1 at CFE hbd1;generalize markL ⟨ws,ts,br⟩=l2 at CMA hbd2;obtain ⟨n9,h9,h9b⟩:∃ q:Nat,(n:Int).tmod 9=q∧q<9:=⟨n % 9,by rw [Int.tmod_eq_emod_of_nonneg (by omega)];rfl,Nat.mod_lt _ (by omega)⟩;obtain ⟨r3,hr3,hr3b⟩:∃ q:Nat,(n:Int).tmod 3=q∧q<3:=⟨n % 3,by rw [Int.tmod_eq_emod_of_nonneg (by omega)];rfl,Nat.mod_lt _ (by omega)⟩;obtain ⟨r4,hr4,hr4b⟩:∃ q:Nat,(n:Int).tmod 4=q∧q<4:=⟨n % 4,by rw [Int.tmod_eq_emod_of_nonneg (by omega)];rfl,Nat.mod_lt _ (by omega)⟩;obtain ⟨r5,hr5,hr5b⟩:∃ q:Nat,(n:Int).tmod 5=q∧q<5:=⟨n % 5,by rw [Int.tmod_eq_emod_of_nonneg (by omega)];rfl,Nat.mod_lt _ (by omega)⟩;have HR9:=Lib.hid h9;have HR3:=Lib.hid hr3;have HR4:=Lib.hid hr4;have HR5:=Lib.hid hr5;clear h9 hr3 hr4 hr5 hn2 h3 hwl hle hcap;have h9':=CLE.out (n9:Int);have hbd3:=hbd3 (n9:Int);generalize leaL ⟨ws,ts,br⟩ (n9:Int)=l3 at h9' hbd3;generalize leaE ⟨ws,ts,br⟩ (n9:Int)=le at h9';have CLE:=Lib.hid h9';clear h9';obtain ⟨k0,k1,k2⟩:=blk3 HBX.out;go_wp2_with fail
      refine (CFE.out w6 (Below.refl _ _)).mono ?_;rintro e w7 ⟨v7,rfl,ho1,hB7⟩;obtain ⟨p1,c1,rfl,hL1⟩:=Ls.of_own ho1 rfl (Nat.le_refl _);clear ho1 k0 k1 k2;have HB7:=Lib.hid hB7;have HL1:=Lib.hid hL1;clear hB7 hL1;obtain ⟨k0,k1,k2⟩:=blk3 ((HB7.out.block _ hs6).trans HBX.out);go_wp2_with fail
      refine (CMA.out w7 HB7.out).mono ?_;rintro e w8 ⟨p2,c2,rfl,hI2,hB8,hO2⟩;have hL2:Ls w8 w7.heap.size w8.heap.size p2 l2:=by
       by_cases e:l2=[]
       ·exact .inl e
       ·obtain ⟨b2,cs,T,rfl,h1,h2⟩:=hO2 e;refine .inr ⟨b2,cs,T,rfl,h1,(Array.getElem?_eq_some_iff.1 h2).1,h2,fun i hi=>?_⟩;obtain ⟨b3,o3,x,e3,-,hx,hc⟩:=hI2.at hi;injection e3 with e3;injection e3 with e3 e4;subst e3;subst e4;rw [Nat.zero_add,hx] at hc;unfold World.cell? at hc;rw [h2] at hc
        simpa using hc
      clear hI2 hO2 k0 k1 k2;have HB8:=Lib.hid (join HB7.out hB8);have HL1:=Lib.hid (HL1.out.below hB8);have HL2:=Lib.hid hL2;have hz8:=hB8.size;clear hL2 hB8;obtain ⟨k0,k1,k2⟩:=blk3 ((HB8.out.block _ hs6).trans HBX.out);have h9:=HR9.out;go_wp2_with fail
      clear h9;refine (CLE.out w8 HB8.out).mono ?_;rintro e w9 ⟨v9,rfl,ho3,hB9⟩;obtain ⟨p3,c3,rfl,hL3⟩:=Ls.of_own ho3 rfl (Nat.le_refl _);have HT9:=Lib.hid (show Trio w6 w9 w7.heap.size w8.heap.size w9.heap.size p1 p2 p3 l1 l2 l3 from ⟨join HB8.out hB9,HL1.out.below hB9,HL2.out.below hB9,hL3,HB7.out.size,hz8,hB9.size⟩);generalize w7.heap.size=B2 at HT9;generalize w8.heap.size=B3 at HT9;generalize w9.heap.size=B4 at HT9;clear hL3 ho3 hB9 HL1 HL2 HB7 HB8 hz8 k0 k1 k2 CFE CMA CLE;obtain ⟨n1,hn1⟩:∃ n1,n1=l1.length:=⟨_,rfl⟩;obtain ⟨n2',hn2'⟩:∃ n2',n2'=l2.length:=⟨_,rfl⟩;obtain ⟨n3,hn3⟩:∃ n3,n3=l3.length:=⟨_,rfl⟩;rw [← hn1,← hn2',← hn3];rw [← hn1] at hbd1;rw [← hn2'] at hbd2;rw [← hn3] at hbd3;have HN1:=Lib.hid hn1;have HN2:=Lib.hid hn2';have HN3:=Lib.hid hn3;clear hn1 hn2' hn3
      go_upto_region 33 with fail
      go_cut [243] from 236 to 242 (fun s wx=>∃ cb:Bool,s=.bool cb∧(cb=true→0<n1)∧∃ wz:World,wz=wx∧wz=w9)
      case first=>as_aux_lemma =>
       have hr3:=HR3.out;by_cases e3:r3=0
       ·have e3':((r3:Int) == 0)=true:=by rw [e3];rfl
        by_cases e4:0<n1
        ·have e4':(0:Int)<(n1:Int):=by omega
         go_wp2_with fail
         go_meet;exact ⟨_,rfl,fun _=>e4,_,rfl,rfl⟩
        ·have e4':¬ (0:Int)<(n1:Int):=by omega
         go_wp2_with fail
         go_meet;exact ⟨_,rfl,fun h=>by simp at h,_,rfl,rfl⟩
       ·have e3':((r3:Int) == 0)=false:=by rw [beq_eq_false_iff_ne];omega
        go_wp2_with fail
        go_meet;exact ⟨_,rfl,fun h=>by simp at h,_,rfl,rfl⟩
      case rest=>as_aux_lemma =>
       obtain ⟨cb,rfl,hcb,wz,rfl,rfl⟩:=hcut
       go_upto_if 243 with fail
       go_cut [18] from 244 to 252 (fun s wx=>s=.slice p1 n1 c1∧∃ wz:World,wz=wx∧∃ lx:List Int,n1=lx.length∧Trio w6 wz B2 B3 B4 p1 p2 p3 lx l2 l3)
       case first=>as_aux_lemma =>
        cases cb with
        | true =>
         have e4:0<n1:=hcb rfl;clear hcb;have hr4:=HR4.out;obtain ⟨iv,hiv,hivb⟩:∃ i:Nat,(n:Int).tmod (n1:Int)=i∧i<n1:=⟨n % n1,by rw [Int.tmod_eq_emod_of_nonneg (by omega)];rfl,Nat.mod_lt _ e4⟩;have hivb':(iv:Int)<(n1:Int):=by omega
         have hkN:((n1:Int) == 0)=false:=by rw [beq_eq_false_iff_ne];omega
         obtain ⟨g,hg,hgl,hc,hf,hset⟩:=HT9.out.at1 (i:=iv) (by have:=HN1.out;omega);subst hg;generalize l1.getD iv 0=xv at hc;have HST:=Lib.hid hset;clear hset;go_wp2_with fail
         go_meet;exact ⟨rfl,_,rfl,_,by rw [List.length_set];exact HN1.out,HST.out _⟩
        | false =>
         clear hcb;go_wp2_with fail
         go_meet;exact ⟨rfl,_,rfl,_,HN1.out,HT9.out⟩
       case rest=>as_aux_lemma =>
        obtain ⟨rfl,wy,rfl,lx,hlx,hT⟩:=hcut;clear HT9 HN1;have HT9:=Lib.hid hT;have HN1:=Lib.hid hlx;clear hT hlx;generalize hw9:wy=w9 at HT9 ⊢;clear hw9;generalize hll:lx=l1 at HT9 HN1;clear hll
        go_upto_region 35 with fail
        go_cut [260] from 253 to 259 (fun s wx=>∃ cb:Bool,s=.bool cb∧(cb=true→0<n2')∧∃ wz:World,wz=wx∧wz=w9)
        case first=>as_aux_lemma =>
         have hr3:=HR3.out;by_cases e3:r3=1
         ·have e3':((r3:Int) == 1)=true:=by rw [e3];rfl
          by_cases e4:0<n2'
          ·have e4':(0:Int)<(n2':Int):=by omega
           go_wp2_with fail
           go_meet;exact ⟨_,rfl,fun _=>e4,_,rfl,rfl⟩
          ·have e4':¬ (0:Int)<(n2':Int):=by omega
           go_wp2_with fail
           go_meet;exact ⟨_,rfl,fun h=>by simp at h,_,rfl,rfl⟩
         ·have e3':((r3:Int) == 1)=false:=by rw [beq_eq_false_iff_ne];omega
          go_wp2_with fail
          go_meet;exact ⟨_,rfl,fun h=>by simp at h,_,rfl,rfl⟩
        case rest=>as_aux_lemma =>
         obtain ⟨cb,rfl,hcb,wz,rfl,rfl⟩:=hcut
         go_upto_if 260 with fail
         go_cut [20] from 261 to 271 (fun s wx=>s=.slice p2 n2' c2∧∃ wz:World,wz=wx∧∃ lx:List Int,n2'=lx.length∧Trio w6 wz B2 B3 B4 p1 p2 p3 l1 lx l3)
         case first=>as_aux_lemma =>
          cases cb with
          | true =>
           have e4:0<n2':=hcb rfl;clear hcb;have hr4:=HR4.out;obtain ⟨iv,hiv,hivb⟩:∃ i:Nat,(n:Int).tmod (n2':Int)=i∧i<n2':=⟨n % n2',by rw [Int.tmod_eq_emod_of_nonneg (by omega)];rfl,Nat.mod_lt _ e4⟩;have hivb':(iv:Int)<(n2':Int):=by omega
           have hkN:((n2':Int) == 0)=false:=by rw [beq_eq_false_iff_ne];omega
           obtain ⟨g,hg,hgl,hc,hf,hset⟩:=HT9.out.at2 (i:=iv) (by have:=HN2.out;omega);subst hg;generalize l2.getD iv 0=xv at hc;have HST:=Lib.hid hset;clear hset;go_wp2_with fail
           go_meet;exact ⟨rfl,_,rfl,_,by rw [List.length_set];exact HN2.out,HST.out _⟩
          | false =>
           clear hcb;go_wp2_with fail
           go_meet;exact ⟨rfl,_,rfl,_,HN2.out,HT9.out⟩
         case rest=>as_aux_lemma =>
          obtain ⟨rfl,wy,rfl,lx,hlx,hT⟩:=hcut;clear HT9 HN2;have HT9:=Lib.hid hT;have HN2:=Lib.hid hlx;clear hT hlx;generalize hw9:wy=w9 at HT9 ⊢;clear hw9;generalize hll:lx=l2 at HT9 HN2;clear hll
          go_upto_region 37 with fail
          go_cut [279] from 272 to 278 (fun s wx=>∃ cb:Bool,s=.bool cb∧(cb=true→0<n3)∧∃ wz:World,wz=wx∧wz=w9)
          case first=>as_aux_lemma =>
           have hr3:=HR3.out;by_cases e3:r3=2
           ·have e3':((r3:Int) == 2)=true:=by rw [e3];rfl
            by_cases e4:0<n3
            ·have e4':(0:Int)<(n3:Int):=by omega
             go_wp2_with fail
             go_meet;exact ⟨_,rfl,fun _=>e4,_,rfl,rfl⟩
            ·have e4':¬ (0:Int)<(n3:Int):=by omega
             go_wp2_with fail
             go_meet;exact ⟨_,rfl,fun h=>by simp at h,_,rfl,rfl⟩
           ·have e3':((r3:Int) == 2)=false:=by rw [beq_eq_false_iff_ne];omega
            go_wp2_with fail
            go_meet;exact ⟨_,rfl,fun h=>by simp at h,_,rfl,rfl⟩
          case rest=>as_aux_lemma =>
           obtain ⟨cb,rfl,hcb,wz,rfl,rfl⟩:=hcut
           go_upto_if 279 with fail
           go_cut [22] from 280 to 288 (fun s wx=>s=.slice p3 n3 c3∧∃ wz:World,wz=wx∧∃ lx:List Int,n3=lx.length∧Trio w6 wz B2 B3 B4 p1 p2 p3 l1 l2 lx)
           case first=>as_aux_lemma =>
            cases cb with
            | true =>
             have e4:0<n3:=hcb rfl;clear hcb;have hr4:=HR4.out;obtain ⟨iv,hiv,hivb⟩:∃ i:Nat,(n:Int).tmod (n3:Int)=i∧i<n3:=⟨n % n3,by rw [Int.tmod_eq_emod_of_nonneg (by omega)];rfl,Nat.mod_lt _ e4⟩;have hivb':(iv:Int)<(n3:Int):=by omega
             have hkN:((n3:Int) == 0)=false:=by rw [beq_eq_false_iff_ne];omega
             obtain ⟨g,hg,hgl,hc,hf,hset⟩:=HT9.out.at3 (i:=iv) (by have:=HN3.out;omega);subst hg;generalize l3.getD iv 0=xv at hc;have HST:=Lib.hid hset;clear hset;go_wp2_with fail
             go_meet;exact ⟨rfl,_,rfl,_,by rw [List.length_set];exact HN3.out,HST.out _⟩
            | false =>
             clear hcb;go_wp2_with fail
             go_meet;exact ⟨rfl,_,rfl,_,HN3.out,HT9.out⟩
           case rest=>as_aux_lemma =>
            obtain ⟨rfl,wy,rfl,lx,hlx,hT⟩:=hcut;clear HT9 HN3;have HT9:=Lib.hid hT;have HN3:=Lib.hid hlx;clear hT hlx;generalize hw9:wy=w9 at HT9 ⊢;clear hw9;generalize hll:lx=l3 at HT9 HN3;clear hll
            go_upto_region 39 with fail
            have hr3:=HR3.out;have hr4:=HR4.out;have hr5:=HR5.out;have h9:=HR9.out;have C0:Hid (∀ W,Trio w6 W B2 B3 B4 p1 p2 p3 l1 l2 l3→Calls Tryz.prog 23 #[.agg #[.slice p ws.length a,.slice q ts.length b,.int .i64 br],.agg #[.int .i64 (r3:Int),.int .i64 (r5:Int)],.slice p1 n1 c1] W fun e w'=>e=.returned (.bool true)∧Below W.heap.size W w'):=Lib.hid fun W H=>by
             rw [HN1.out];exact TextParts_any ⟨ws,ts,br⟩ (r3:Int) (r5:Int) l1 hwb htb (by have:=HN1.out;omega) p q p1 a b c1 W (KTX.out.below H.b6) H.a.ints
            have C1:Hid (∀ W,Trio w6 W B2 B3 B4 p1 p2 p3 l1 l2 l3→Calls Tryz.prog 28 #[.agg #[.slice p ws.length a,.slice q ts.length b,.int .i64 br]] W fun e w'=>e=.returned (.bool true)∧Below W.heap.size W w'):=Lib.hid fun W H=>by
             exact TextFewest_any ⟨ws,ts,br⟩ hwb htb p q a b W (KTX.out.below H.b6)
            have C2:Hid (∀ W,Trio w6 W B2 B3 B4 p1 p2 p3 l1 l2 l3→Calls Tryz.prog 24 #[.agg #[.slice p ws.length a,.slice q ts.length b,.int .i64 br],.slice p2 n2' c2] W fun e w'=>e=.returned (.bool true)∧Below W.heap.size W w'):=Lib.hid fun W H=>by
             rw [HN2.out];exact TextMarks_any ⟨ws,ts,br⟩ l2 hwb htb (by have:=HN2.out;omega) p q p2 a b c2 W (KTX.out.below H.b6) H.b.ints
            have C3:Hid (∀ W,Trio w6 W B2 B3 B4 p1 p2 p3 l1 l2 l3→Calls Tryz.prog 3 #[.agg #[.slice p ws.length a,.slice q ts.length b,.int .i64 br]] W fun e w'=>e=.returned (.bool true)∧Below W.heap.size W w'):=Lib.hid fun W H=>by
             exact TextEven_any ⟨ws,ts,br⟩ hwb htb p q a b W (KTX.out.below H.b6)
            have C4:Hid (∀ W,Trio w6 W B2 B3 B4 p1 p2 p3 l1 l2 l3→Calls Tryz.prog 25 #[.agg #[.slice p ws.length a,.slice q ts.length b,.int .i64 br],.slice p1 n1 c1] W fun e w'=>e=.returned (.bool true)∧Below W.heap.size W w'):=Lib.hid fun W H=>by
             rw [HN1.out];exact TextAstray_any ⟨ws,ts,br⟩ l1 hwb htb (by have:=HN1.out;omega) p q p1 a b c1 W (KTX.out.below H.b6) H.a.ints
            have C5:Hid (∀ W,Trio w6 W B2 B3 B4 p1 p2 p3 l1 l2 l3→Calls Tryz.prog 26 #[.agg #[.slice p ws.length a,.slice q ts.length b,.int .i64 br],.slice p3 n3 c3,.int .i64 (r4:Int)] W fun e w'=>e=.returned (.bool true)∧Below W.heap.size W w'):=Lib.hid fun W H=>by
             rw [HN3.out];exact TextShorter_any ⟨ws,ts,br⟩ l3 (r4:Int) hwb htb (by have:=HN3.out;omega) p q p3 a b c3 W (KTX.out.below H.b6) H.c.ints
            have C6:Hid (∀ W,Trio w6 W B2 B3 B4 p1 p2 p3 l1 l2 l3→Calls Tryz.prog 27 #[.agg #[.slice p ws.length a,.slice q ts.length b,.int .i64 br],.int .i64 (n9:Int)] W fun e w'=>e=.returned (.bool true)∧Below W.heap.size W w'):=Lib.hid fun W H=>by
             exact TextLeast_any ⟨ws,ts,br⟩ (n9:Int) hwb htb p q a b W (KTX.out.below H.b6)
            obtain ⟨k0,k1,k2⟩:=blk3 ((HT9.out.b6.block _ hs6).trans HBX.out);go_wp2_with fail
            refine (C0.out _ HT9.out).mono ?_;rintro e w' ⟨rfl,hB⟩;have HT9:=Lib.hid (HT9.out.below hB);clear hB k0 k1 k2;obtain ⟨k0,k1,k2⟩:=blk3 ((HT9.out.b6.block _ hs6).trans HBX.out);go_wp2_with fail
            refine (C1.out _ HT9.out).mono ?_;rintro e w' ⟨rfl,hB⟩;have HT9:=Lib.hid (HT9.out.below hB);clear hB k0 k1 k2;obtain ⟨k0,k1,k2⟩:=blk3 ((HT9.out.b6.block _ hs6).trans HBX.out);go_wp2_with fail
            refine (C2.out _ HT9.out).mono ?_;rintro e w' ⟨rfl,hB⟩;have HT9:=Lib.hid (HT9.out.below hB);clear hB k0 k1 k2;obtain ⟨k0,k1,k2⟩:=blk3 ((HT9.out.b6.block _ hs6).trans HBX.out);go_wp2_with fail
            refine (C3.out _ HT9.out).mono ?_;rintro e w' ⟨rfl,hB⟩;have HT9:=Lib.hid (HT9.out.below hB);clear hB k0 k1 k2;obtain ⟨k0,k1,k2⟩:=blk3 ((HT9.out.b6.block _ hs6).trans HBX.out);go_wp2_with fail
            refine (C4.out _ HT9.out).mono ?_;rintro e w' ⟨rfl,hB⟩;have HT9:=Lib.hid (HT9.out.below hB);clear hB k0 k1 k2;obtain ⟨k0,k1,k2⟩:=blk3 ((HT9.out.b6.block _ hs6).trans HBX.out);go_wp2_with fail
            refine (C5.out _ HT9.out).mono ?_;rintro e w' ⟨rfl,hB⟩;have HT9:=Lib.hid (HT9.out.below hB);clear hB k0 k1 k2;obtain ⟨k0,k1,k2⟩:=blk3 ((HT9.out.b6.block _ hs6).trans HBX.out);go_wp2_with fail
            refine (C6.out _ HT9.out).mono ?_;rintro e w' ⟨rfl,hB⟩;have HT9:=Lib.hid (HT9.out.below hB);clear hB k0 k1 k2;go_wp2_with fail
            go_meet;exact ⟨_,rfl,hbw.out.trans (HT9.out.b6.mono hbw.out.size)⟩
   case rest=>as_aux_lemma =>
    obtain ⟨w9,rfl,hB⟩:=hcut;have HB9:=Lib.hid hB;clear hB HB1;go_wp2_with fail
    go_roundw
    case rel=>exact ⟨n+1,by omega,by go_num,HB9.out⟩
    case measure=>simp [intOf];omega
  ·obtain rfl:n=120:=by omega
   go_wp2_with fail
   exact HK.out _ rfl _ HB1.out
end Go.Proofs.YtadnggecnjdhiaaGreat
