/- Contracts of the code and of the reference, part 4. -/
import Derived.Test.YtadnggecnjdhiaaGreatYc
set_option linter.unusedSimpArgs false
set_option linter.unusedVariables false
namespace Go.Proofs.YtadnggecnjdhiaaGreat
open Go.RowKit Tx
attribute [local go_sem] Oper.semAt_some
theorem blk4 {W:World} {b:Nat} {v0 v1 v2 v3:Value} {ty:TypeId} {fr:Nat × Nat} (h:W.heap[b]?=some (.cells #[v0,v1,v2,v3] ty fr)):W.cell? ⟨b,0,none⟩=some v0∧W.cell? ⟨b,1,none⟩=some v1∧W.cell? ⟨b,2,none⟩=some v2∧W.cell? ⟨b,3,none⟩=some v3 :=
 ⟨blk_cells h 0 _ rfl,blk_cells h 1 _ rfl,blk_cells h 2 _ rfl,blk_cells h 3 _ rfl⟩
theorem parts1_any (u:Turn) (x:Int) (A:Nat) (w:World) (hA:w.heap[A]?=some (.cells #[.int .i64 x] 3 (0,0))) :
  Calls Tryz.prog 130 #[.agg #[.int .i64 u.word,.int .i64 u.lo,.int .i64 u.hi],.pointer (some ⟨A,0,none⟩)] w fun e w'=>e=.returned (.bool (u.parts x))∧Below w.heap.size w w':=by
 have hAl:=(Array.getElem?_eq_some_iff.1 hA).1;have c0:=blk_cells hA 0 _ rfl;obtain ⟨uw,ul,uh⟩:=u;unfold Turn.parts;dsimp only;clear hA;by_cases h1:uw<x
 ·by_cases h2:x≤ul
  ·go_enter Tryz.func130,Tryz.ntmps130
   go_wp2;go_ret;exact ⟨ret_bool (by simp [h1,h2]),below1 _ _⟩
  ·by_cases h3:uh<x
   ·by_cases h4:x≤uw
    ·exact absurd h1 (by omega)
    ·go_enter Tryz.func130,Tryz.ntmps130
     go_wp2;go_ret;exact ⟨ret_bool (by simp [h1,h2,h3,h4] <;> omega),below1 _ _⟩
   ·go_enter Tryz.func130,Tryz.ntmps130
    go_wp2;go_ret;exact ⟨ret_bool (by simp [h1,h2,h3] <;> omega),below1 _ _⟩
 ·by_cases h3:uh<x
  ·have h4:x≤uw:=by omega
   go_enter Tryz.func130,Tryz.ntmps130
   go_wp2;go_ret;exact ⟨ret_bool (by simp [h1,h3,h4] <;> omega),below1 _ _⟩
  ·go_enter Tryz.func130,Tryz.ntmps130
   go_wp2;go_ret;exact ⟨ret_bool (by simp [h1,h3] <;> omega),below1 _ _⟩
theorem entered_parts1:Entered 130:=fun args W=>by kernel_rfl
theorem parts_any (ts:List Turn) (hl:ts.length≤1000000) (x:Int) (pt:Option Addr) (ct:Nat) (v0 v2 v3:Value) (w:World) (hT:Tns w pt ts) :
  Calls Tryz.prog 96 #[.agg #[v0,.slice pt ts.length ct,v2,v3],.int .i64 x] w fun e w'=>e=.returned (.bool (ts.any fun u=>u.parts x))∧Below w.heap.size w w':=by
 have hmf:=mf;have hB3:Below w.heap.size w ((w.alloc (.cells #[v0,.slice pt ts.length ct,v2,v3] 84)).alloc (.cells #[.int .i64 x] 3)):=(below1 _ _).alloc (by simp) _;have hx:((w.alloc (.cells #[v0,.slice pt ts.length ct,v2,v3] 84)).alloc (.cells #[.int .i64 x] 3)).heap[w.heap.size+1]?=some (.cells #[.int .i64 x] 3 (0,0)):=by
  have:=heap_last (w.alloc (.cells #[v0,.slice pt ts.length ct,v2,v3] 84)) (.cells #[.int .i64 x] 3);rwa [World.size_alloc] at this
 have hcf:=containsFuncT 130 entered_parts1 (.pointer (some ⟨w.heap.size+1,0,none⟩)) (fun u=>u.parts x) ts pt ct _ hl (hT.below hB3) (fun W h u hu=>parts1_any u x (w.heap.size+1) W ((h.block _ (by simp)).trans hx));obtain ⟨kv,hkv⟩:∃ kv,kv=ts.any (fun u=>u.parts x):=⟨_,rfl⟩;rw [← hkv] at hcf ⊢;have HCF:=Lib.hid hcf;have HB3:=Lib.hid hB3;clear hcf hx hB3 hT hkv
 go_enter Tryz.func96,Tryz.ntmps96
 go_wp2_with fail
 refine HCF.out.mono ?_;rintro e w5 ⟨rfl,hB5⟩;go_wp2;go_ret;exact ⟨rfl,join HB3.out hB5⟩
set_option maxHeartbeats 800000 in
theorem sureB_any (t:Text) (pw pt:Option Addr) (cw ct:Nat) (mf:Value) (a b:Nat) (hab:a≤b) (hb:b≤t.words.length) (w:World) (hW:WkAt w t pw pt cw) :
  Calls Tryz.prog 44 #[.agg #[.slice pw t.words.length cw,.slice pt t.turns.length ct,.int .i64 t.breath,mf],.int .i64 a,.int .i64 b] w fun e w'=>e=.returned (.bool (t.sureB a b))∧Below w.heap.size w w':=by
 have HR:=Lib.hid (fun W (h:Below w.heap.size w W)=>right_any t pw pt cw ct mf a b hab hb W (hW.below h));have hm6:=hW.ok.m6;have HP:=Lib.hid (fun (x:Int) W (h:Below w.heap.size w W)=>parts_any t.turns (by omega) x pt ct (.slice pw t.words.length cw) (.int .i64 t.breath) mf W (hW.at_.turns.below h));have hsz:t.sureB a b=(t.right a b&&!(t.turns.any fun u=>u.parts a)&&!(t.turns.any fun u=>u.parts b)):=rfl;clear hW;obtain ⟨pa,hpa⟩:∃ pa,pa=t.turns.any (fun u=>u.parts (a:Int)):=⟨_,rfl⟩;obtain ⟨pb,hpb⟩:∃ pb,pb=t.turns.any (fun u=>u.parts (b:Int)):=⟨_,rfl⟩;obtain ⟨r,hr⟩:∃ r,r=t.right a b:=⟨_,rfl⟩;have HPA:=Lib.hid hpa;have HPB:=Lib.hid hpb;have HRR:=Lib.hid hr;have HF:Hid (t.sureB a b=(r&&!pa&&!pb)):=Lib.hid (by rw [hpa,hpb,hr];exact hsz);clear hpa hpb hr hsz
 go_enter Tryz.func44,Tryz.ntmps44
 go_wp2_with fail
 refine (HR.out _ (below1 _ _)).mono ?_;rintro e w5 ⟨rfl,hB5⟩;rw [← HRR.out];obtain ⟨hc5,hf5⟩:=bcell hB5;have hz5:w.heap.size<w5.heap.size:=by have:=hB5.size;simp at this;omega
 have HB5:=Lib.hid (join (below1 _ _) hB5);cases r with
 | false =>
  go_wp2;go_ret;exact ⟨ret_bool (by rw [HF.out];rfl),HB5.out⟩
 | true =>
  clear hB5;go_wp2_with fail
  refine (HP.out a _ HB5.out).mono ?_;rintro e w6 ⟨rfl,hB6⟩;rw [← HPA.out];obtain ⟨hc6,hf6⟩:=bcell hB6;have hz6:w.heap.size<w6.heap.size:=by have:=hB6.size;omega
  have HB6:=Lib.hid (join HB5.out hB6);cases pa with
  | true =>
   go_wp2;go_ret;exact ⟨ret_bool (by rw [HF.out];rfl),HB6.out⟩
  | false =>
   clear hB6;go_wp2_with fail
   refine (HP.out b _ HB6.out).mono ?_;rintro e w7 ⟨rfl,hB7⟩;rw [← HPB.out];go_wp2;go_ret;exact ⟨ret_bool (by rw [HF.out];simp),join HB6.out hB7⟩
def spEv1 (pw:Option Addr) (n cw:Nat) (v1 v2 v3:Value) (a b s m:Int) (r:Bool):Nat→List Value→Value→World→Prop
 | 0,_,v,_=>v=.agg #[.slice pw n cw,v1,v2,v3]
 | 1,_,v,_=>v=.int .i64 a
 | 2,_,v,_=>v=.int .i64 b
 | 3,_,v,_=>v=.int .i64 s
 | 4,_,v,_=>v=.int .i64 m
 | 5,_,v,_=>v=.bool true
 | 6,_,v,_=>v=.bool true
 | 7,_,v,_=>v=.agg #[.slice pw n cw,v1,v2,v3]
 | 8,_,v,_=>v=.int .i64 a
 | 9,_,v,_=>v=.int .i64 b
 | 10,_,v,_=>v=.bool r
 | 11,_,v,_=>v=.bool r
 | 12,_,v,_=>v=.bool r
 | _,_,_,_=>False
theorem spEv1_stable (pw:Option Addr) (n cw:Nat) (v1 v2 v3:Value) (a b s m:Int) (r:Bool):∀ i L v w w',spEv1 pw n cw v1 v2 v3 a b s m r i L v w→Rs.Gr w w'→spEv1 pw n cw v1 v2 v3 a b s m r i L v w':=by
 intro i L v w w' h hg
 match i with
 | 0=>exact h
 | 1=>exact h
 | 2=>exact h
 | 3=>exact h
 | 4=>exact h
 | 5=>exact h
 | 6=>exact h
 | 7=>exact h
 | 8=>exact h
 | 9=>exact h
 | 10=>exact h
 | 11=>exact h
 | 12=>exact h
def spEv0 (pw:Option Addr) (n cw:Nat) (v1 v2 v3:Value) (a b s m:Int) (r:Bool):Nat→List Value→Value→World→Prop
 | 0,_,v,_=>v=.agg #[.slice pw n cw,v1,v2,v3]
 | 1,_,v,_=>v=.int .i64 a
 | 2,_,v,_=>v=.int .i64 b
 | 3,_,v,_=>v=.int .i64 s
 | 4,_,v,_=>v=.int .i64 m
 | 5,_,v,_=>v=.bool false
 | 6,_,v,_=>v=.bool false
 | 7,_,v,_=>v=undef
 | 8,_,v,_=>v=undef
 | 9,_,v,_=>v=undef
 | 10,_,v,_=>v=undef
 | 11,_,v,_=>v=.bool false
 | 12,_,v,_=>v=.bool false
 | _,_,_,_=>False
theorem spEv0_stable (pw:Option Addr) (n cw:Nat) (v1 v2 v3:Value) (a b s m:Int) (r:Bool):∀ i L v w w',spEv0 pw n cw v1 v2 v3 a b s m r i L v w→Rs.Gr w w'→spEv0 pw n cw v1 v2 v3 a b s m r i L v w':=by
 intro i L v w w' h hg
 match i with
 | 0=>exact h
 | 1=>exact h
 | 2=>exact h
 | 3=>exact h
 | 4=>exact h
 | 5=>exact h
 | 6=>exact h
 | 7=>exact h
 | 8=>exact h
 | 9=>exact h
 | 10=>exact h
 | 11=>exact h
 | 12=>exact h
set_option maxHeartbeats 1000000 in
set_option maxRecDepth 100000 in
theorem rightWithin1_any (t:Text) (pw pt:Option Addr) (cw ct:Nat) (mf:Value) (m:Int) (a b:Nat) (hab:a≤b) (hb:b≤t.words.length) (X Y:Nat) (w:World) (hW:WkAt w t pw pt cw)
  (hX:w.heap[X]?=some (.cells #[.slice pw t.words.length cw,.slice pt t.turns.length ct,.int .i64 t.breath,mf] 84 (0,0))) (hY:w.heap[Y]?=some (.cells #[.int .i64 m] 3 (0,0))) :
  Calls Tryz.prog 92 #[.int .i64 a,.int .i64 b,.pointer (some ⟨X,0,none⟩),.pointer (some ⟨Y,0,none⟩)] w fun e w'=>e=.returned (.bool (t.within m a b))∧Below w.heap.size w w':=by
 have HRT:=Lib.hid (fun W (h:Below w.heap.size w W)=>right_any t pw pt cw ct mf a b hab hb W (hW.below h));have HSY:=Lib.hid (fun W (h:Below w.heap.size w W)=>syl_any t hW.ok pw cw (.slice pt t.turns.length ct) (.int .i64 t.breath) mf a b hab hb hW.cap W (hW.at_.words.below h));have HX:=Lib.hid hX;have HY:=Lib.hid hY;have HXl:=(Array.getElem?_eq_some_iff.1 hX).1;have HYl:=(Array.getElem?_eq_some_iff.1 hY).1;have hF:t.within m a b=(decide (t.syl a b≤m)&&t.right a b):=rfl;have HF:=Lib.hid hF;clear hX hY hW hF;by_cases hsm:t.syl a b≤m
 ·have HSM:=Lib.hid hsm
  go_enter Tryz.func92,Tryz.ntmps92
  go_wp2_with fail
  refine Rs.region_gen 13 [[],[],[],[0,1,2],[],[0,1,2,3,4],[0,1,2,3,4,5],[0,1,2,3,4,5,6],[0,1,2,3,4,5,6],[0,1,2,3,4,5,6],[0,1,2,3,4,5,6,7,8,9],[0,1,2,3,4,5,6,7,8,9,10],[0,1,2,3,4,5,6,7,8,9,10,11]] [some 7,some 8,some 9,some 10,some 11,some 12,some 13,some 14,some 15,some 16,some 17,some 18,some 6] (spEv1 pw t.words.length cw (.slice pt t.turns.length ct) (.int .i64 t.breath) mf a b (t.syl a b) m (t.right a b)) (by kernel_rfl) (by kernel_rfl) rfl (spEv1_stable _ _ _ _ _ _ _ _ _ _ _) ?_ ?_
  ·refine ⟨fun V w' hG hs=>?_,fun V w' hG hs=>?_,fun V w' hG hs=>?_,fun V w' hG hs=>?_,fun V w' hG hs=>?_,fun V w' hG hs=>?_,fun V w' hG hs=>?_,fun V w' hG hs=>?_,fun V w' hG hs=>?_,fun V w' hG hs=>?_,fun V w' hG hs=>?_,fun V w' hG hs=>?_,fun V w' hG hs=>?_,trivial⟩
   all_goals
    obtain ⟨k0,k1,k2,k3⟩:=blk4 ((hG.block X HXl).trans HX.out);have c0:=blk_cells ((hG.block Y HYl).trans HY.out) 0 _ rfl
   ·rw [if_pos (by rfl)];exact Rs.GrowL.value (v:=.agg #[.slice pw t.words.length cw,(.slice pt t.turns.length ct),(.int .i64 t.breath),mf]) (w':=w') (by simp [go_sem,Rs.look,k0,k1,k2,k3]) (Rs.Gr.refl _) rfl
   ·rw [if_pos (by rfl)];exact Rs.GrowL.value (v:=.int .i64 a) (w':=w') (by simp [go_sem,Rs.look]) (Rs.Gr.refl _) rfl
   ·rw [if_pos (by rfl)];exact Rs.GrowL.value (v:=.int .i64 b) (w':=w') (by simp [go_sem,Rs.look]) (Rs.Gr.refl _) rfl
   ·have e0:V 0=_:=hs 0 (by simp);have e1:V 1=_:=hs 1 (by simp);have e2:V 2=_:=hs 2 (by simp);rw [if_pos (by rfl)];refine Rs.GrowL.call (f:=93) (args:=#[.agg #[.slice pw t.words.length cw,.slice pt t.turns.length ct,.int .i64 t.breath,mf],.int .i64 a,.int .i64 b]) (by simp [go_sem,Rs.look,e0,e1,e2]) ?_;refine (HSY.out w' hG).mono ?_;rintro e w2 ⟨rfl,hB2⟩;exact ⟨_,rfl,hB2,rfl⟩
   ·rw [if_pos (by rfl)];exact Rs.GrowL.value (v:=.int .i64 m) (w':=w') (by simp [go_sem,Rs.look,c0]) (Rs.Gr.refl _) rfl
   ·have e0:V 0=_:=hs 0 (by simp);have e1:V 1=_:=hs 1 (by simp);have e2:V 2=_:=hs 2 (by simp);have e3:V 3=_:=hs 3 (by simp);have e4:V 4=_:=hs 4 (by simp);rw [if_pos (by rfl)];exact Rs.GrowL.value (v:=.bool true) (w':=w') (by simp [go_sem,Rs.look,e0,e1,e2,e3,e4,hsm]) (Rs.Gr.refl _) rfl
   ·have e0:V 0=_:=hs 0 (by simp);have e1:V 1=_:=hs 1 (by simp);have e2:V 2=_:=hs 2 (by simp);have e3:V 3=_:=hs 3 (by simp);have e4:V 4=_:=hs 4 (by simp);have e5:V 5=_:=hs 5 (by simp);rw [if_pos (by rfl)];exact Rs.GrowL.value (v:=.bool true) (w':=w') (by simp [go_sem,Rs.look,e0,e1,e2,e3,e4,e5]) (Rs.Gr.refl _) rfl
   ·have e0:V 0=_:=hs 0 (by simp);have e1:V 1=_:=hs 1 (by simp);have e2:V 2=_:=hs 2 (by simp);have e3:V 3=_:=hs 3 (by simp);have e4:V 4=_:=hs 4 (by simp);have e5:V 5=_:=hs 5 (by simp);have e6:V 6=_:=hs 6 (by simp);rw [if_pos (by simp [Rs.wantB,e6])];exact Rs.GrowL.value (v:=.agg #[.slice pw t.words.length cw,(.slice pt t.turns.length ct),(.int .i64 t.breath),mf]) (w':=w') (by simp [go_sem,Rs.look,e0,e1,e2,e3,e4,e5,e6,k0,k1,k2,k3]) (Rs.Gr.refl _) rfl
   ·have e0:V 0=_:=hs 0 (by simp);have e1:V 1=_:=hs 1 (by simp);have e2:V 2=_:=hs 2 (by simp);have e3:V 3=_:=hs 3 (by simp);have e4:V 4=_:=hs 4 (by simp);have e5:V 5=_:=hs 5 (by simp);have e6:V 6=_:=hs 6 (by simp);rw [if_pos (by simp [Rs.wantB,e6])];exact Rs.GrowL.value (v:=.int .i64 a) (w':=w') (by simp [go_sem,Rs.look,e0,e1,e2,e3,e4,e5,e6]) (Rs.Gr.refl _) rfl
   ·have e0:V 0=_:=hs 0 (by simp);have e1:V 1=_:=hs 1 (by simp);have e2:V 2=_:=hs 2 (by simp);have e3:V 3=_:=hs 3 (by simp);have e4:V 4=_:=hs 4 (by simp);have e5:V 5=_:=hs 5 (by simp);have e6:V 6=_:=hs 6 (by simp);rw [if_pos (by simp [Rs.wantB,e6])];exact Rs.GrowL.value (v:=.int .i64 b) (w':=w') (by simp [go_sem,Rs.look,e0,e1,e2,e3,e4,e5,e6]) (Rs.Gr.refl _) rfl
   ·have e0:V 0=_:=hs 0 (by simp);have e1:V 1=_:=hs 1 (by simp);have e2:V 2=_:=hs 2 (by simp);have e3:V 3=_:=hs 3 (by simp);have e4:V 4=_:=hs 4 (by simp);have e5:V 5=_:=hs 5 (by simp);have e6:V 6=_:=hs 6 (by simp);have e7:V 7=_:=hs 7 (by simp);have e8:V 8=_:=hs 8 (by simp);have e9:V 9=_:=hs 9 (by simp);rw [if_pos (by simp [Rs.wantB,e6])];refine Rs.GrowL.call (f:=91) (args:=#[.agg #[.slice pw t.words.length cw,.slice pt t.turns.length ct,.int .i64 t.breath,mf],.int .i64 a,.int .i64 b]) (by simp [go_sem,Rs.look,e7,e8,e9]) ?_;refine (HRT.out w' hG).mono ?_;rintro e w2 ⟨rfl,hB2⟩;exact ⟨_,rfl,hB2,rfl⟩
   ·have e0:V 0=_:=hs 0 (by simp);have e1:V 1=_:=hs 1 (by simp);have e2:V 2=_:=hs 2 (by simp);have e3:V 3=_:=hs 3 (by simp);have e4:V 4=_:=hs 4 (by simp);have e5:V 5=_:=hs 5 (by simp);have e6:V 6=_:=hs 6 (by simp);have e7:V 7=_:=hs 7 (by simp);have e8:V 8=_:=hs 8 (by simp);have e9:V 9=_:=hs 9 (by simp);have e10:V 10=_:=hs 10 (by simp);rw [if_pos (by rfl)];exact Rs.GrowL.value (v:=.bool (t.right a b)) (w':=w') (by simp [go_sem,Rs.look,e0,e1,e2,e3,e4,e5,e6,e7,e8,e9,e10]) (Rs.Gr.refl _) rfl
   ·have e0:V 0=_:=hs 0 (by simp);have e1:V 1=_:=hs 1 (by simp);have e2:V 2=_:=hs 2 (by simp);have e3:V 3=_:=hs 3 (by simp);have e4:V 4=_:=hs 4 (by simp);have e5:V 5=_:=hs 5 (by simp);have e6:V 6=_:=hs 6 (by simp);have e7:V 7=_:=hs 7 (by simp);have e8:V 8=_:=hs 8 (by simp);have e9:V 9=_:=hs 9 (by simp);have e10:V 10=_:=hs 10 (by simp);have e11:V 11=_:=hs 11 (by simp);rw [if_pos (by rfl)];exact Rs.GrowL.value (v:=.bool (t.right a b)) (w':=w') (by simp [go_sem,Rs.look,e0,e1,e2,e3,e4,e5,e6,e7,e8,e9,e10,e11]) (Rs.Gr.refl _) rfl
  ·intro V w' hG hs;have e0:V 0=_:=hs 0 (by omega);have e1:V 1=_:=hs 1 (by omega);have e2:V 2=_:=hs 2 (by omega);have e3:V 3=_:=hs 3 (by omega);have e4:V 4=_:=hs 4 (by omega);have e5:V 5=_:=hs 5 (by omega);have e6:V 6=_:=hs 6 (by omega);have e7:V 7=_:=hs 7 (by omega);have e8:V 8=_:=hs 8 (by omega);have e9:V 9=_:=hs 9 (by omega);have e10:V 10=_:=hs 10 (by omega);have e11:V 11=_:=hs 11 (by omega);have e12:V 12=_:=hs 12 (by omega);simp only [Rs.canon,Rs.dstOf,List.range_succ,List.range_zero,List.nil_append,List.cons_append,List.foldl_cons,List.foldl_nil,List.drop_succ_cons,List.drop_zero,List.drop_nil,List.getElem?_toArray,List.getElem?_cons_succ,List.getElem?_cons_zero,Option.bind_some,Act.put,List.getD_cons_succ,List.getD_cons_zero,List.setIfInBounds_toArray,List.set_cons_succ,List.set_cons_zero];rw [e0,e1,e2,e3,e4,e5,e6,e7,e8,e9,e10,e11,e12];clear e0 e1 e2 e3 e4 e5 e6 e7 e8 e9 e10 e11 e12 hs;go_wp2;go_ret;exact ⟨ret_bool (by rw [HF.out];simp [HSM.out]),hG⟩
 ·have HSM:=Lib.hid hsm
  go_enter Tryz.func92,Tryz.ntmps92
  go_wp2_with fail
  refine Rs.region_gen 13 [[],[],[],[0,1,2],[],[0,1,2,3,4],[0,1,2,3,4,5],[0,1,2,3,4,5,6],[0,1,2,3,4,5,6],[0,1,2,3,4,5,6],[0,1,2,3,4,5,6,7,8,9],[0,1,2,3,4,5,6,7,8,9,10],[0,1,2,3,4,5,6,7,8,9,10,11]] [some 7,some 8,some 9,some 10,some 11,some 12,some 13,some 14,some 15,some 16,some 17,some 18,some 6] (spEv0 pw t.words.length cw (.slice pt t.turns.length ct) (.int .i64 t.breath) mf a b (t.syl a b) m (t.right a b)) (by kernel_rfl) (by kernel_rfl) rfl (spEv0_stable _ _ _ _ _ _ _ _ _ _ _) ?_ ?_
  ·refine ⟨fun V w' hG hs=>?_,fun V w' hG hs=>?_,fun V w' hG hs=>?_,fun V w' hG hs=>?_,fun V w' hG hs=>?_,fun V w' hG hs=>?_,fun V w' hG hs=>?_,fun V w' hG hs=>?_,fun V w' hG hs=>?_,fun V w' hG hs=>?_,fun V w' hG hs=>?_,fun V w' hG hs=>?_,fun V w' hG hs=>?_,trivial⟩
   all_goals
    obtain ⟨k0,k1,k2,k3⟩:=blk4 ((hG.block X HXl).trans HX.out);have c0:=blk_cells ((hG.block Y HYl).trans HY.out) 0 _ rfl
   ·rw [if_pos (by rfl)];exact Rs.GrowL.value (v:=.agg #[.slice pw t.words.length cw,(.slice pt t.turns.length ct),(.int .i64 t.breath),mf]) (w':=w') (by simp [go_sem,Rs.look,k0,k1,k2,k3]) (Rs.Gr.refl _) rfl
   ·rw [if_pos (by rfl)];exact Rs.GrowL.value (v:=.int .i64 a) (w':=w') (by simp [go_sem,Rs.look]) (Rs.Gr.refl _) rfl
   ·rw [if_pos (by rfl)];exact Rs.GrowL.value (v:=.int .i64 b) (w':=w') (by simp [go_sem,Rs.look]) (Rs.Gr.refl _) rfl
   ·have e0:V 0=_:=hs 0 (by simp);have e1:V 1=_:=hs 1 (by simp);have e2:V 2=_:=hs 2 (by simp);rw [if_pos (by rfl)];refine Rs.GrowL.call (f:=93) (args:=#[.agg #[.slice pw t.words.length cw,.slice pt t.turns.length ct,.int .i64 t.breath,mf],.int .i64 a,.int .i64 b]) (by simp [go_sem,Rs.look,e0,e1,e2]) ?_;refine (HSY.out w' hG).mono ?_;rintro e w2 ⟨rfl,hB2⟩;exact ⟨_,rfl,hB2,rfl⟩
   ·rw [if_pos (by rfl)];exact Rs.GrowL.value (v:=.int .i64 m) (w':=w') (by simp [go_sem,Rs.look,c0]) (Rs.Gr.refl _) rfl
   ·have e0:V 0=_:=hs 0 (by simp);have e1:V 1=_:=hs 1 (by simp);have e2:V 2=_:=hs 2 (by simp);have e3:V 3=_:=hs 3 (by simp);have e4:V 4=_:=hs 4 (by simp);rw [if_pos (by rfl)];exact Rs.GrowL.value (v:=.bool false) (w':=w') (by simp [go_sem,Rs.look,e0,e1,e2,e3,e4,hsm]) (Rs.Gr.refl _) rfl
   ·have e0:V 0=_:=hs 0 (by simp);have e1:V 1=_:=hs 1 (by simp);have e2:V 2=_:=hs 2 (by simp);have e3:V 3=_:=hs 3 (by simp);have e4:V 4=_:=hs 4 (by simp);have e5:V 5=_:=hs 5 (by simp);rw [if_pos (by rfl)];exact Rs.GrowL.value (v:=.bool false) (w':=w') (by simp [go_sem,Rs.look,e0,e1,e2,e3,e4,e5]) (Rs.Gr.refl _) rfl
   ·have e0:V 0=_:=hs 0 (by simp);have e1:V 1=_:=hs 1 (by simp);have e2:V 2=_:=hs 2 (by simp);have e3:V 3=_:=hs 3 (by simp);have e4:V 4=_:=hs 4 (by simp);have e5:V 5=_:=hs 5 (by simp);have e6:V 6=_:=hs 6 (by simp);rw [if_neg (by simp [Rs.wantB,e6])];rfl
   ·have e0:V 0=_:=hs 0 (by simp);have e1:V 1=_:=hs 1 (by simp);have e2:V 2=_:=hs 2 (by simp);have e3:V 3=_:=hs 3 (by simp);have e4:V 4=_:=hs 4 (by simp);have e5:V 5=_:=hs 5 (by simp);have e6:V 6=_:=hs 6 (by simp);rw [if_neg (by simp [Rs.wantB,e6])];rfl
   ·have e0:V 0=_:=hs 0 (by simp);have e1:V 1=_:=hs 1 (by simp);have e2:V 2=_:=hs 2 (by simp);have e3:V 3=_:=hs 3 (by simp);have e4:V 4=_:=hs 4 (by simp);have e5:V 5=_:=hs 5 (by simp);have e6:V 6=_:=hs 6 (by simp);rw [if_neg (by simp [Rs.wantB,e6])];rfl
   ·have e0:V 0=_:=hs 0 (by simp);have e1:V 1=_:=hs 1 (by simp);have e2:V 2=_:=hs 2 (by simp);have e3:V 3=_:=hs 3 (by simp);have e4:V 4=_:=hs 4 (by simp);have e5:V 5=_:=hs 5 (by simp);have e6:V 6=_:=hs 6 (by simp);have e7:V 7=_:=hs 7 (by simp);have e8:V 8=_:=hs 8 (by simp);have e9:V 9=_:=hs 9 (by simp);rw [if_neg (by simp [Rs.wantB,e6])];rfl
   ·have e0:V 0=_:=hs 0 (by simp);have e1:V 1=_:=hs 1 (by simp);have e2:V 2=_:=hs 2 (by simp);have e3:V 3=_:=hs 3 (by simp);have e4:V 4=_:=hs 4 (by simp);have e5:V 5=_:=hs 5 (by simp);have e6:V 6=_:=hs 6 (by simp);have e7:V 7=_:=hs 7 (by simp);have e8:V 8=_:=hs 8 (by simp);have e9:V 9=_:=hs 9 (by simp);have e10:V 10=_:=hs 10 (by simp);rw [if_pos (by rfl)];exact Rs.GrowL.value (v:=.bool false) (w':=w') (by simp [go_sem,Rs.look,e0,e1,e2,e3,e4,e5,e6,e7,e8,e9,e10]) (Rs.Gr.refl _) rfl
   ·have e0:V 0=_:=hs 0 (by simp);have e1:V 1=_:=hs 1 (by simp);have e2:V 2=_:=hs 2 (by simp);have e3:V 3=_:=hs 3 (by simp);have e4:V 4=_:=hs 4 (by simp);have e5:V 5=_:=hs 5 (by simp);have e6:V 6=_:=hs 6 (by simp);have e7:V 7=_:=hs 7 (by simp);have e8:V 8=_:=hs 8 (by simp);have e9:V 9=_:=hs 9 (by simp);have e10:V 10=_:=hs 10 (by simp);have e11:V 11=_:=hs 11 (by simp);rw [if_pos (by rfl)];exact Rs.GrowL.value (v:=.bool false) (w':=w') (by simp [go_sem,Rs.look,e0,e1,e2,e3,e4,e5,e6,e7,e8,e9,e10,e11]) (Rs.Gr.refl _) rfl
  ·intro V w' hG hs;have e0:V 0=_:=hs 0 (by omega);have e1:V 1=_:=hs 1 (by omega);have e2:V 2=_:=hs 2 (by omega);have e3:V 3=_:=hs 3 (by omega);have e4:V 4=_:=hs 4 (by omega);have e5:V 5=_:=hs 5 (by omega);have e6:V 6=_:=hs 6 (by omega);have e7:V 7=_:=hs 7 (by omega);have e8:V 8=_:=hs 8 (by omega);have e9:V 9=_:=hs 9 (by omega);have e10:V 10=_:=hs 10 (by omega);have e11:V 11=_:=hs 11 (by omega);have e12:V 12=_:=hs 12 (by omega);simp only [Rs.canon,Rs.dstOf,List.range_succ,List.range_zero,List.nil_append,List.cons_append,List.foldl_cons,List.foldl_nil,List.drop_succ_cons,List.drop_zero,List.drop_nil,List.getElem?_toArray,List.getElem?_cons_succ,List.getElem?_cons_zero,Option.bind_some,Act.put,List.getD_cons_succ,List.getD_cons_zero,List.setIfInBounds_toArray,List.set_cons_succ,List.set_cons_zero];rw [e0,e1,e2,e3,e4,e5,e6,e7,e8,e9,e10,e11,e12];clear e0 e1 e2 e3 e4 e5 e6 e7 e8 e9 e10 e11 e12 hs;go_wp2;go_ret;exact ⟨ret_bool (by rw [HF.out,decide_eq_false (Int.not_le.2 HSM.out)];rfl),hG⟩
theorem entered_rightWithin1:Entered 92:=fun args W=>by kernel_rfl
theorem rightWithin_any (v0 v1 v2 v3:Value) (m:Int) (w:World) :
  Calls Tryz.prog 42 #[.agg #[v0,v1,v2,v3],.int .i64 m] w fun e w'=>e=.returned (.func (.func 92) #[] #[.pointer (some ⟨w.heap.size,0,none⟩),.pointer (some ⟨w.heap.size+1,0,none⟩)])∧w'=(w.alloc (.cells #[v0,v1,v2,v3] 84)).alloc (.cells #[.int .i64 m] 3):=by
 have hmf:=mf
 go_enter Tryz.func42,Tryz.ntmps42
 go_wp2;go_ret;exact ⟨by simp,rfl⟩
theorem entered_sure:Entered 44:=fun args W=>by kernel_rfl
theorem sure_may (t:Text) (pw pt:Option Addr) (cw ct:Nat) (mf:Value) (w:World) (hW:WkAt w t pw pt cw) :
  MayAt (.func (.func 44) #[.agg #[.slice pw t.words.length cw,.slice pt t.turns.length ct,.int .i64 t.breath,mf]] #[]) t.sureB t.words.length (fun k=>k<w.heap.size) w :=
 ⟨44,_,_,rfl,entered_sure,fun W hH a b hab hb=>sureB_any t pw pt cw ct mf a b (by omega) hb W ⟨hW.ok,hW.at_.hold hH (fun k hk=>hk),hW.cap⟩⟩
theorem within_may (t:Text) (pw pt:Option Addr) (cw ct:Nat) (mf:Value) (m:Int) (X Y:Nat) (w:World) (hW:WkAt w t pw pt cw)
  (hX:w.heap[X]?=some (.cells #[.slice pw t.words.length cw,.slice pt t.turns.length ct,.int .i64 t.breath,mf] 84 (0,0))) (hY:w.heap[Y]?=some (.cells #[.int .i64 m] 3 (0,0))) :
  MayAt (.func (.func 92) #[] #[.pointer (some ⟨X,0,none⟩),.pointer (some ⟨Y,0,none⟩)]) (t.within m) t.words.length (fun k=>k<w.heap.size) w:=by
 have hXl:=(Array.getElem?_eq_some_iff.1 hX).1;have hYl:=(Array.getElem?_eq_some_iff.1 hY).1;refine ⟨92,_,_,rfl,entered_rightWithin1,fun W hH a b hab hb=>?_⟩;exact rightWithin1_any t pw pt cw ct mf m a b (by omega) hb X Y W ⟨hW.ok,hW.at_.hold hH (fun k hk=>hk),hW.cap⟩ ((hH.same X hXl hXl).trans hX) ((hH.same Y hYl hYl).trans hY)
def surL (t:Text):List Int:=if t.err=0 then (Tx.fewest t.sureB t.words.length).1 else []
def surE (t:Text):Int:=if t.err=0 then (Tx.fewest t.sureB t.words.length).2 else t.err
set_option maxHeartbeats 800000 in
theorem Surest_any (t:Text) (hl1:t.words.length≤1000000) (hl2:t.turns.length≤1000000) (pw pt:Option Addr) (cw ct:Nat) (hcw:t.words.length≤cw∧cw≤maxLen) (w:World) (hW:TxAt w t pw pt) :
  Calls Tryz.prog 10 #[.agg #[.slice pw t.words.length cw,.slice pt t.turns.length ct,.int .i64 t.breath]] w (ListPost (surL t) (surE t) w):=by
 have hmf:=mf;by_cases he:t.err=0
 ·have ok:=err_ok he;have h1:surL t=(Tx.fewest t.sureB t.words.length).1:=if_pos he;have h2:surE t=(Tx.fewest t.sureB t.words.length).2:=if_pos he;rw [h1,h2];have HS:=Lib.hid (fun W (h:Below w.heap.size w W)=>open_ok t he pw pt cw ct W (hW.below h));have HF:=Lib.hid (fun mv W (h:Below w.heap.size w W)=>fewest_any t.sureB t.words.length cw ok.n1 ok.n12 pw (.slice pt t.turns.length ct) (.int .i64 t.breath) _ W (sure_may t pw pt cw ct mv W ⟨ok,hW.below h,hcw⟩));clear hW he h1 h2 ok
  go_enter Tryz.func10,Tryz.ntmps10
  go_wp2_with fail
  refine (HS.out _ (below1 _ _)).mono ?_;rintro e w5 ⟨rfl,hB5⟩;have HB5:=Lib.hid (join (below1 _ _) hB5);clear hB5;go_wp2_with fail
  refine (HF.out _ _ ?_).mono ?_
  ·exact join HB5.out (below1 _ _)
  rintro e w6 ⟨v,rfl,hown,hB6⟩;have HO:=Lib.hid hown;have HB6:=Lib.hid hB6;clear hown hB6;go_wp2;go_ret2;have hz:=HB5.out.size;exact ⟨_,rfl,own_base HO.out (by simp;omega),join (join HB5.out (below1 _ _)) HB6.out⟩
 ·have h1:surL t=[]:=if_neg he;have h2:surE t=t.err:=if_neg he;rw [h1,h2];have HS:=Lib.hid (fun W (h:Below w.heap.size w W)=>open_bad t he hl1 hl2 pw pt cw ct W (hW.below h));have HE:(t.err != 0)=true:=by simpa using he
  clear hW he h1 h2;generalize t.err=er at HE HS ⊢
  go_enter Tryz.func10,Tryz.ntmps10
  go_wp2_with fail
  refine (HS.out _ (below1 _ _)).mono ?_;rintro e w5 ⟨rfl,hB5⟩;have HB5:=Lib.hid (join (below1 _ _) hB5);clear hB5;go_wp2;go_ret2;exact ⟨_,rfl,own_none _ _ _ _,join HB5.out (below1 _ _)⟩
end Go.Proofs.YtadnggecnjdhiaaGreat
namespace Go.Proofs.YtadnggecnjdhiaaGreat
open Go.RowKit Tx
def EvenPost (r:List Int × Int × Int) (w:World) (e:Ending) (w':World):Prop:=∃ v,e=.returned (.tuple #[v,.int .i64 r.2.1,.int .i64 r.2.2])∧w'.ownsRow w.heap.size 3 1 v r.1.length (r.1.map (Value.int .i64))∧Below w.heap.size w w'
theorem evGo_step (t:Text) (m:Nat) (h:(m:Int)≤t.breath):evGo t (List.range' m (t.breath.toNat+1-m))=if (fewest (t.within (m:Nat)) t.words.length).2=0 then ((fewest (t.within (m:Nat)) t.words.length).1,(m:Int),0) else evGo t (List.range' (m+1) (t.breath.toNat+1-(m+1))):=by
 rw [show t.breath.toNat+1-m=(t.breath.toNat+1-(m+1))+1 by omega,List.range'_succ,evGo]
set_option maxHeartbeats 2000000 in
set_option maxRecDepth 100000 in
theorem Even_any (t:Text) (hl1:t.words.length≤1000000) (hl2:t.turns.length≤1000000) (pw pt:Option Addr) (cw ct:Nat) (hcw:t.words.length≤cw∧cw≤maxLen) (w:World) (hW:TxAt w t pw pt) :
  Calls Tryz.prog 9 #[.agg #[.slice pw t.words.length cw,.slice pt t.turns.length ct,.int .i64 t.breath]] w (EvenPost (evR t) w):=by
 by_cases he:t.err=0
 ·have ok:=err_ok he;have h1:evR t=evGo t (List.range' 1 (t.breath.toNat+1-1)):=if_pos he;have HEV:=Lib.hid h1;have HS:=Lib.hid (fun W (h:Below w.heap.size w W)=>open_ok t he pw pt cw ct W (hW.below h));have HF:=Lib.hid (fun mv m X Y W (h:Below w.heap.size w W) hX hY=>fewest_any (t.within m) t.words.length cw ok.n1 ok.n12 pw (.slice pt t.turns.length ct) (.int .i64 t.breath) _ W (within_may t pw pt cw ct mv m X Y W ⟨ok,hW.below h,hcw⟩ hX hY));have HOK:=Lib.hid ok;have hb40:=ok.b40;have hb1:=ok.b1;clear hW he h1 ok
  go_enter Tryz.func9,Tryz.ntmps9
  go_wp2_with fail
  refine (HS.out _ (below1 _ _)).mono ?_;rintro e w5 ⟨rfl,hB5⟩;have hz5:w.heap.size<w5.heap.size:=by have:=hB5.size;simp at this;omega
  have HT5:=Lib.hid ((hB5.block w.heap.size (by simp)).trans (heap_last w _));have HB5:=Lib.hid (join (below1 _ _) hB5);obtain ⟨B5,hB5e⟩:∃ B5,B5=w5.heap.size:=⟨_,rfl⟩;clear hB5;go_wp2_with fail
  go_loopw [7] (fun i wr=>∃ (m:Nat) (mv:Value),1≤m∧(m:Int)≤t.breath+1∧i=.int .i64 m∧Hid (wr.heap[w5.heap.size]?=some (.cells #[.slice pw t.words.length cw,.slice pt t.turns.length ct,.int .i64 t.breath,mv] 84 (0,0)))∧Hid (wr.heap[w.heap.size]?=some (.cells #[.slice pw t.words.length cw,.slice pt t.turns.length ct,.int .i64 t.breath] 25 (0,0)))∧Hid (Below w.heap.size w wr)∧Hid (evR t=evGo t (List.range' m (t.breath.toNat+1-m)))) (fun i _=>100-(intOf i).toNat)
  case atStart=>exact ⟨1,_,by omega,by omega,rfl,Lib.hid (heap_last w5 _),Lib.hid ((Below.heap_alloc _ _ _ hz5).trans HT5.out),Lib.hid (join HB5.out (below1 _ _)),HEV⟩
  case round =>
   obtain ⟨w6,rfl⟩:∃ w6:World,w6=wr:=⟨_,rfl⟩;obtain ⟨m,mv,hm1,hm2,rfl,HX,HT,HB,HE⟩:=hrel;obtain ⟨k0,k1,k2,k3⟩:=blk4 HX.out;obtain ⟨j0,j1,j2⟩:=blk3 HT.out;have hz6:=(Array.getElem?_eq_some_iff.1 HX.out).1;by_cases hlt:(m:Int)≤t.breath
   ·have HST:=Lib.hid (evGo_step t m hlt);go_wp2_with fail
    refine (rightWithin_any _ _ _ _ _ _).mono ?_;rintro e w7 ⟨rfl,hw7⟩;have hB7:Below w6.heap.size w6 w7:=by rw [hw7];exact (below1 _ _).alloc (by simp) _
    have hz7:w7.heap.size=w6.heap.size+2:=by rw [hw7];simp
    have hX7:w7.heap[w6.heap.size]?=some (.cells #[.slice pw t.words.length cw,.slice pt t.turns.length ct,.int .i64 t.breath,mv] 84 (0,0)):=by
     rw [hw7,Below.heap_alloc _ _ _ (by simp)];exact heap_last _ _
    have hY7:w7.heap[w6.heap.size+1]?=some (.cells #[.int .i64 m] 3 (0,0)):=by
     rw [hw7];have:=heap_last (w6.alloc (.cells #[.slice pw t.words.length cw,.slice pt t.turns.length ct,.int .i64 t.breath,mv] 84)) (.cells #[.int .i64 m] 3);rwa [World.size_alloc] at this
    have HX7:=Lib.hid hX7;have HY7:=Lib.hid hY7;have hx7:=(hB7.block _ hz6).trans HX.out;have HT7:=Lib.hid ((hB7.block _ (by omega)).trans HT.out);have HB7:=Lib.hid (join HB.out hB7);clear hw7 hB7 hX7 hY7 k0 k1 k2 k3 j0 j1 j2;obtain ⟨k0,k1,k2,k3⟩:=blk4 hx7;have HXX:=Lib.hid hx7;have hfz:w7.frozen? ⟨w5.heap.size,3,none⟩=false:=by simp [World.frozen?,hx7]
    clear hx7;go_wp2_with fail
    obtain ⟨w8,hw8⟩:∃ w8,w8=w7.setCell ⟨w5.heap.size,3,none⟩ (.func (.func 92) #[] #[.pointer (some ⟨w6.heap.size,0,none⟩),.pointer (some ⟨w6.heap.size+1,0,none⟩)]):=⟨_,rfl⟩;rw [← hw8];have hz8:w8.heap.size=w6.heap.size+2:=by rw [hw8];simp [hz7]
    have hB8:Below w.heap.size w w8:=by rw [hw8];exact belS HB7.out HB5.out.size
    have hX8:w8.heap[w6.heap.size]?=some (.cells #[.slice pw t.words.length cw,.slice pt t.turns.length ct,.int .i64 t.breath,mv] 84 (0,0)):=by rw [hw8,Below.heap_setCell _ _ _ _ (show w6.heap.size≠w5.heap.size by omega)];exact HX7.out
    have hY8:w8.heap[w6.heap.size+1]?=some (.cells #[.int .i64 m] 3 (0,0)):=by rw [hw8,Below.heap_setCell _ _ _ _ (show w6.heap.size+1≠w5.heap.size by omega)];exact HY7.out
    have HT8:Hid (w8.heap[w.heap.size]?=some (.cells #[.slice pw t.words.length cw,.slice pt t.turns.length ct,.int .i64 t.breath] 25 (0,0))):=Lib.hid (by rw [hw8,Below.heap_setCell _ _ _ _ (show w.heap.size≠w5.heap.size by omega)];exact HT7.out);have HXW:Hid (w8.heap[w5.heap.size]?=some (.cells #[.slice pw t.words.length cw,.slice pt t.turns.length ct,.int .i64 t.breath,.func (.func 92) #[] #[.pointer (some ⟨w6.heap.size,0,none⟩),.pointer (some ⟨w6.heap.size+1,0,none⟩)]] 84 (0,0))):=Lib.hid (by rw [hw8];exact heap_set_same _ HXX.out);have HB8:=Lib.hid hB8;have hc:=HF.out mv m w6.heap.size (w6.heap.size+1) w8 hB8 hX8 hY8;obtain ⟨fw,hfw⟩:∃ fw,fw=fewest (t.within (m:Nat)) t.words.length:=⟨_,rfl⟩;rw [← hfw] at HST hc;have HC:=Lib.hid hc;clear hc hw8 hB8 hX8 hY8 hfw k0 k1 k2 k3 HXX HB7 HX7 HY7 HT7 hz7;obtain ⟨f1,f2⟩:=fw;refine HC.out.mono ?_;rintro e w9 ⟨v,rfl,hown,hB9⟩;have HO:=Lib.hid hown;have HT9:=Lib.hid ((hB9.block _ (by omega)).trans HT8.out);have HX9:=Lib.hid ((hB9.block _ (by omega)).trans HXW.out);have HB9:=Lib.hid (join HB8.out hB9);have hz9:=hB9.size;clear hown hB9;dsimp only at HST HO ⊢;by_cases hf:f2=0
    ·subst hf;have HEE:Hid (evR t=(f1,(m:Int),0)):=Lib.hid (by rw [HE.out,HST.out,if_pos rfl]);clear HST;go_wp2;go_ret3;exact ⟨_,by rw [HEE.out];rfl,by rw [HEE.out];exact own_base HO.out (by omega),HB9.out⟩
    ·have HEE:Hid (evR t=evGo t (List.range' (m+1) (t.breath.toNat+1-(m+1)))):=Lib.hid (by rw [HE.out,HST.out,if_neg hf]);have hf2:(f2 == 0)=false:=by simpa using hf
     clear HST;go_wp2;go_roundw
     case rel=>exact ⟨m+1,_,by omega,by omega,by go_num,HX9,HT9,HB9,HEE⟩
     case measure=>simp [intOf];omega
   ·have HEE:Hid (evR t=([],0,6)):=Lib.hid (by rw [HE.out,show t.breath.toNat+1-m=0 by omega];rfl);go_wp2;go_ret3;exact ⟨_,by rw [HEE.out];rfl,by rw [HEE.out];exact own_none _ _ _ _,HB.out⟩
 ·have h1:evR t=([],0,t.err):=if_neg he;rw [h1];have HS:=Lib.hid (fun W (h:Below w.heap.size w W)=>open_bad t he hl1 hl2 pw pt cw ct W (hW.below h));have HE:(t.err != 0)=true:=by simpa using he
  clear hW he h1;generalize t.err=er at HE HS ⊢
  go_enter Tryz.func9,Tryz.ntmps9
  go_wp2_with fail
  refine (HS.out _ (below1 _ _)).mono ?_;rintro e w5 ⟨rfl,hB5⟩;have HB5:=Lib.hid (join (below1 _ _) hB5);clear hB5;go_wp2;go_ret3;exact ⟨_,rfl,own_none _ _ _ _,join HB5.out (below1 _ _)⟩
end Go.Proofs.YtadnggecnjdhiaaGreat
namespace Go.Proofs.YtadnggecnjdhiaaGreat
open Go.RowKit Tx
def sureR (t:Text) (R:List (List Int)):List (List Int):=R.filter fun l=>!decide ((astrayGo (placesL l) 0 t.turns).2.2.2=0)
def evP:Option (Nat × Int)→Nat × Int
 | none=>(0,0)
 | some p=>p
structure EvnF (t:Text) (R S:List (List Int)) (B C mm:Nat) (mo:Int):Prop where
 rr:rightsR t=R
 ss:sureR t R=S
 bb:bestLen R 0=B
 cc:bestLen S 0=C
 ee:(evR t).2.2=if B=0 then 6 else 0
 fe:surE t=if C=0 then 6 else 0
 es:evP (evS (longGo t 0) R)=(mm,mo)
 en:(evR t).2.1=mo
 el:(evR t).1.length=mm
 sl:(surL t).length=C
 ew:B≠0→(wrongR t (evR t).1).2.2=6
 eo:B≠0→longGo t 0 (evR t).1=mo
 ep:B≠0→Parts t.words.length (evR t).1
 sm:C≠0→surL t∈S
 b12:B≤12
 c12:C≤12
 m12:mm≤12
 r12:R.length≤100000
 rp:∀ l∈R,Parts t.words.length l
 s12:S.length≤100000
 sp:∀ l∈S,Parts t.words.length l
 cb:B=0→C=0
theorem even_facts {t:Text} (he:t.err=0):EvnF t (rightsR t) (sureR t (rightsR t)) (bestLen (rightsR t) 0) (bestLen (sureR t (rightsR t)) 0) (evP (evS (longGo t 0) (rightsR t))).1 (evP (evS (longGo t 0) (rightsR t))).2:=by
 have ok:=err_ok he;have hR:=rightsR_eq ok he;have hS:sureR t (rightsR t)=rights t.sureB t.words.length:=by
  rw [hR];unfold sureR rights;rw [List.filter_filter];refine List.filter_congr fun l hl=>?_;have hp:=(compF_mem _ _ _ (Nat.le_refl _)).1 hl;rw [Bool.eq_iff_iff,Bool.and_eq_true,sure_nowhere ok hp,Bool.not_eq_true',decide_eq_false_iff_not];exact and_comm
 obtain ⟨g1,g2,g3,g4⟩:=fewest_rights (may:=t.sureB) ok.n1 ok.n12;have hne:=rights_ne (may:=t.right) ok.n1;have hz:=bestLen_zero (rights t.right t.words.length) 0 hne;have hlenR:∀ l∈rights t.right t.words.length,l.length≤12:=fun l hl=>by
  have h1:=(mem_rights.1 hl).1;have:=isum_ge h1.1;have:=h1.2;have:=ok.n12;omega
 have hlenS:∀ l∈rights t.sureB t.words.length,l.length≤12:=fun l hl=>by
  have h1:=(mem_rights.1 hl).1;have:=isum_ge h1.1;have:=h1.2;have:=ok.n12;omega
 have eL:surL t=(Tx.fewest t.sureB t.words.length).1:=by unfold surL;rw [if_pos he]
 have eE:surE t=(Tx.fewest t.sureB t.words.length).2:=by unfold surE;rw [if_pos he]
 have hsyl:∀ x∈t.words,1≤x.syl∧x.syl≤9:=fun x hx=>⟨(ok.word x hx).1,(ok.word x hx).2.1⟩;have hev:=evR_spec he hsyl ok.n1 ok.n12 ok.b1;have hrf:=even_ref he hsyl ok.n1 ok.n12 ok.b1;have hm:∀ {l:List Int},Parts t.words.length l→okFrom t.right 0 l=true→(wrongR t l).2.2=6:=fun {l} h1 h2=>by
  have h3:=okR_ok ok he h1;rw [h2] at h3;unfold okR at h3;exact of_decide_eq_true h3
 have hr12:(rights t.right t.words.length).length≤100000:=by
  unfold rights;have h1:=List.length_filter_le (okFrom t.right 0) (compF t.words.length t.words.length);have h2:=Nat.le_trans (comp_len t.words.length t.words.length) (Nat.pow_le_pow_right (show 0<2 by omega) ok.n12);omega
 have hs12:(sureR t (rightsR t)).length≤100000:=by
  have h1:=List.length_filter_le (fun l=>!decide ((astrayGo (placesL l) 0 t.turns).2.2.2=0)) (rightsR t);have h2:(sureR t (rightsR t)).length≤(rightsR t).length:=h1;rw [hR] at h2 ⊢;omega
 have hsp:∀ l∈sureR t (rightsR t),Parts t.words.length l:=fun l hl=>by
  rw [hS] at hl;exact (mem_rights.1 hl).1
 have hcb:bestLen (rightsR t) 0=0→bestLen (sureR t (rightsR t)) 0=0:=fun h=>by
  rw [hR] at h ⊢;rw [(hz.1 h).2];rfl
 rcases hrf with ⟨h1,h2,h3⟩ | ⟨h1,h2,h3⟩
 ·have hB:bestLen (rightsR t) 0=0:=by rw [hR,hz];exact ⟨rfl,h1⟩
  have hev0:evS (longGo t 0) (rightsR t)=none:=by rw [hR,h1];rfl
  refine ⟨rfl,rfl,rfl,rfl,by rw [h2,if_pos hB],by rw [eE,g2,hS],rfl,?_,?_,by rw [eL,g1,hS],fun h=>absurd hB h,fun h=>absurd hB h,fun h=>absurd hB h,fun h=>?_,by omega,by rw [hS];exact bestLen_le _ 12 0 (by omega) hlenS,?_,by rw [hR];exact hr12,fun l hl=>by rw [hR] at hl;exact (mem_rights.1 hl).1,hs12,hsp,hcb⟩
  ·rw [hev0,evR_six he h2];rfl
  ·rw [hev0,h3];rfl
  ·rw [eL,hS];apply g3;rw [g2,if_neg (by rw [← hS];exact h)]
  ·rw [hev0];exact Nat.zero_le _
 ·have hB:bestLen (rightsR t) 0≠0:=by rw [hR];exact fun e=>h1 (hz.1 e).2
  rcases hev with ⟨q1,-,-⟩ | ⟨q1,q2,q3,q4,-,-,-⟩
  ·omega
  have hes:evS (longGo t 0) (rightsR t)=some ((evR t).1.length,(evR t).2.1):=by rw [hR];exact h3
  have hlen:(evR t).1.length≤12:=hlenR _ (mem_rights.2 ⟨q2,q3⟩);refine ⟨rfl,rfl,rfl,rfl,by rw [h2,if_neg hB],by rw [eE,g2,hS],rfl,by rw [hes];rfl,by rw [hes];rfl,by rw [eL,g1,hS],fun _=>hm q2 q3,fun _=>by rw [hes];exact q4,fun _=>q2,fun h=>?_,by rw [hR];exact bestLen_le _ 12 0 (by omega) hlenR,by rw [hS];exact bestLen_le _ 12 0 (by omega) hlenS,by rw [hes];exact hlen,by rw [hR];exact hr12,fun l hl=>by rw [hR] at hl;exact (mem_rights.1 hl).1,hs12,hsp,hcb⟩;rw [eL,hS];apply g3;rw [g2,if_neg (by rw [← hS];exact h)]
end Go.Proofs.YtadnggecnjdhiaaGreat
namespace Go.Proofs.YtadnggecnjdhiaaGreat
open Go.RowKit Tx
attribute [local go_sem] Oper.semAt_some
theorem LLs.el {W:World} {p:Option Addr} {L:List (List Int)} (h:LLs W p L) {i:Nat} (hi:i<L.length):∃ b q d,p=some ⟨b,0,none⟩∧b<W.heap.size∧W.cell? ⟨b,i,none⟩=some (.slice q (L.getD i []).length d)∧El W (.slice q (L.getD i []).length d) (L.getD i []):=by
 rcases h with rfl | ⟨b,hp,hl,h⟩
 ·simp at hi
 ·obtain ⟨x,h1,h2⟩:=h i hi;obtain ⟨q,d,rfl,h3⟩:=h2.ints;exact ⟨b,q,d,hp,hl,h1,h2⟩
structure SpG (B:Nat) (a b:World):Prop where
 low:Below B a b
 keep:∀ (p:Nat) (c0 c1:Value),a.heap[p]?=some (.cells #[c0,c1] 58 (0,0))→∃ d0 d1:Value,b.heap[p]?=some (.cells #[d0,d1] 58 (0,0))
theorem SpG.of {B:Nat} {a b:World} (hB:B≤a.heap.size) (h:Below a.heap.size a b):SpG B a b:=⟨h.mono hB,fun p c0 c1 hp=>⟨c0,c1,(h.block p (Array.getElem?_eq_some_iff.1 hp).1).trans hp⟩⟩
theorem SpG.isGr (B:Nat):Rg.IsGr (SpG B) where
 refl w:=⟨Below.refl _ _,fun p c0 c1 h=>⟨c0,c1,h⟩⟩
 drew w:=⟨(Below.refl _ _).drew,fun p c0 c1 h=>⟨c0,c1,h⟩⟩
 trans {a b c} h k:=⟨h.low.trans k.low,fun p c0 c1 hp=>by
  obtain ⟨d0,d1,hd⟩:=h.keep p c0 c1 hp;exact k.keep p d0 d1 hd⟩
theorem SpG.fill {B p:Nat} {a:World} {c0 c1 x y:Value} (hp:B≤p) (hb:a.heap[p]?=some (.cells #[c0,c1] 58 (0,0))):SpG B a ((a.setCell ⟨p,0,none⟩ x).setCell ⟨p,1,none⟩ y):=by
 refine ⟨belS (belS (Below.refl _ _) hp) hp,fun q d0 d1 hq=>?_⟩;by_cases e:q=p
 ·subst e;exact ⟨x,y,heap_set_same _ (heap_set_same _ hb)⟩
 ·exact ⟨d0,d1,(Below.heap_setCell _ _ _ _ e).trans ((Below.heap_setCell _ _ _ _ e).trans hq)⟩
theorem Rg.GrowL.skip {P:Program} {G:World→World→Prop} {o:Oper} {ρ:Operand→Value} {w w':World} {Φ:Value→World→Prop} (h:(execOp ρ o).run P w=.ok .skip w') (hg:G w w') (hv:Φ undef w'):Rg.GrowL G P o ρ w Φ:=by
 unfold Rg.GrowL;rw [h];exact ⟨hg,hv⟩
def nowB (t:Text) (l:List Int):Bool:=!decide ((astrayGo (placesL l) 0 t.turns).2.2.2=0)
def spRsu (t:Text) (pw pt:Option Addr) (cw ct g m c j A:Nat) (x:Value) (wa wb wc:Int) (bo:Bool):Nat→List Value→Value→World→Prop
 | 0,_,v,_=>v=.agg #[.slice pw t.words.length cw,.slice pt t.turns.length ct,.int .i64 t.breath]
 | 1,_,v,_=>v=.slice (some ⟨g,0,none⟩) m c
 | 2,_,v,_=>v=.int .i64 (j:Int)
 | 3,_,v,_=>v=.pointer (some ⟨g,j,none⟩)
 | 4,_,v,_=>v=x
 | 5,_,v,_=>v=.tuple #[.int .i64 wa,.agg #[.int .i64 wb,.int .i64 wc],.bool bo]
 | 6,_,v,_=>v=.tuple #[.int .i64 wa,.agg #[.int .i64 wb,.int .i64 wc],.bool bo]
 | 7,_,v,_=>v=.int .i64 wa
 | 8,_,v,_=>v=.agg #[.int .i64 wb,.int .i64 wc]
 | 9,_,v,_=>v=.bool bo
 | 10,L,v,w=>∃ p,v=.pointer (some ⟨p,0,none⟩)∧A≤p∧∃ d0 d1:Value,w.heap[p]?=some (.cells #[d0,d1] 58 (0,0))
 | 11,_,v,_=>v=.int .i64 wa
 | 12,L,v,w=>True
 | 13,_,v,_=>v=.bool bo
 | _,_,_,_=>False
theorem spRsu_stable (t:Text) (pw pt:Option Addr) (cw ct g m c j A:Nat) (x:Value) (wa wb wc:Int) (bo:Bool):∀ i L v w w',spRsu t pw pt cw ct g m c j A x wa wb wc bo i L v w→SpG A w w'→spRsu t pw pt cw ct g m c j A x wa wb wc bo i L v w':=by
 intro i L v w w' h hg
 match i with
 | 0=>exact h
 | 1=>exact h
 | 2=>exact h
 | 3=>exact h
 | 4=>exact h
 | 5=>exact h
 | 6=>exact h
 | 7=>exact h
 | 8=>exact h
 | 9=>exact h
 | 10=>obtain ⟨p,h1,h2,d0,d1,h3⟩:=h;obtain ⟨c0,c1,h4⟩:=hg.keep p d0 d1 h3;exact ⟨p,h1,h2,c0,c1,h4⟩
 | 11=>exact h
 | 12=>exact h
 | 13=>exact h
set_option maxHeartbeats 6000000 in
set_option maxRecDepth 100000 in
theorem rSure_any (t:Text) (he:t.err=0) (R:List (List Int)) (hRl:R.length≤100000) (hRp:∀ l∈R,Parts t.words.length l) (pw pt pR:Option Addr) (cw ct cR:Nat) (w:World) (hW:TxAt w t pw pt) (hR:LLs w pR R) :
  Calls Tryz.prog 13 #[.agg #[.slice pw t.words.length cw,.slice pt t.turns.length ct,.int .i64 t.breath],.slice pR R.length cR] w (LLPost (sureR t R) w):=by
 have ok:=err_ok he;have hn12:=ok.n12;have HWR0:=Lib.hid (fun (i:Nat) (hi:i<R.length) q d W (h:Below w.heap.size w W) (hL:Ints W q (R.getD i []))=>rAstray_any t (R.getD i []) (read_parts ok he (hRp _ (by simp [hi]))) (by have h1:=hRp (R.getD i []) (by simp [hi]);have:=isum_ge h1.1;have:=h1.2;omega) pw pt q cw ct d W (hW.below h) hL);have HB:=Lib.hid (below1 w (.cells #[.slice pw t.words.length cw,.slice pt t.turns.length ct,.int .i64 t.breath] 32));have HX:=Lib.hid (heap_last w (.cells #[.slice pw t.words.length cw,.slice pt t.turns.length ct,.int .i64 t.breath] 32));have HR:=Lib.hid hR;have HRR:Hid (sureR t R=R.filter (nowB t)):=Lib.hid rfl;obtain ⟨k0,k1,k2⟩:=blk3 HX.out;clear hW hR hRp ok
 go_enter Tryz.func13,Tryz.ntmps13
 go_wp2_with fail
 generalize w.alloc (.cells #[.slice pw t.words.length cw,.slice pt t.turns.length ct,.int .i64 t.breath] 32)=W1 at HB HX ⊢
 go_loopw [5,6,7,8,9] (fun v5 v6 _ _ _ wr=>∃ (i:Nat) (xs:List Value),v6=.int .i64 i∧i≤R.length∧wr.ownsRow (w.heap.size+1) 34 1 v5 ((R.take i).filter (nowB t)).length xs∧Els wr xs ((R.take i).filter (nowB t))∧Below w.heap.size w wr∧wr.heap[w.heap.size]?=some (.cells #[.slice pw t.words.length cw,.slice pt t.turns.length ct,.int .i64 t.breath] 32 (0,0))) (fun _ v6 _ _ _ _=>R.length-(intOf v6).toNat)
 case atStart=>exact ⟨0,[],rfl,Nat.zero_le _,own_none _ _ _ _,Els.nil _,HB.out,HX.out⟩
 case round =>
  clear HB HX k0 k1 k2;obtain ⟨wp,rfl⟩:∃ wp:World,wp=wr:=⟨_,rfl⟩;obtain ⟨i,xs,rfl,hi,hown,hels,hBr,hx⟩:=hrel;have HO:=Lib.hid hown;have HE:=Lib.hid hels;have HBr:=Lib.hid hBr;have HXr:=Lib.hid hx;have hz7:=hBr.size;have HZ0:w.heap.size<wp.heap.size:=(Array.getElem?_eq_some_iff.1 hx).1;by_cases hlt:i<R.length
  ·have hlt':(i:Int)<R.length:=by omega
   have hlt2:(i:Int)<R.length:=by omega
   obtain ⟨g5,q,d,rfl,hq5,hcell,hel⟩:=(HR.out.below hBr).el hlt;have hacl:((R.take i).filter (nowB t)).length≤100000:=by
    have h1:=List.length_filter_le (nowB t) (R.take i);rw [List.length_take] at h1;omega
   have HSN:Hid ((R.take (i+1)).filter (nowB t)=(R.take i).filter (nowB t)++(if nowB t (R.getD i []) then [R.getD i []] else [])):=Lib.hid (by
    rw [take_snocD [] hlt,List.filter_append];congr 1;simp only [List.filter_cons,List.filter_nil])
   generalize (R.take i).filter (nowB t)=acc at hacl HO HE HSN;have hQI:Ints wp q (R.getD i []):=by obtain ⟨q',d',e,h⟩:=hel.ints;injection e with e1 _ _;subst e1;exact h
   have HEL:=Lib.hid hel;have HWR:=Lib.hid (fun W h hL=>HWR0.out i hlt q d W h hL);generalize R.getD i []=l at hQI HSN HEL hcell HWR;have HQI:=Lib.hid hQI;have HCELL:=Lib.hid hcell;have HOKR:Hid (nowB t l=!decide ((astrayGo (placesL l) 0 t.turns).2.2.2=0)):=Lib.hid rfl;generalize astrayGo (placesL l) 0 t.turns=ag at HWR HOKR;obtain ⟨wa,wb,wc,wd⟩:=ag;dsimp only at HWR HOKR;obtain ⟨bo,hbo⟩:∃ bo,bo=decide (wd=0):=⟨_,rfl⟩;rw [← hbo] at HWR HOKR;clear hown hels hBr hx hel hQI hcell hbo;go_wp2_with fail
   refine Rg.region_gen (SpG.isGr wp.heap.size) 14 [[],[],[],[1,2],[1,2,3],[0,1,2,3,4],[0,1,2,3,4,5],[0,1,2,3,4,5,6],[0,1,2,3,4,5,6],[0,1,2,3,4,5,6],[],[0,1,2,3,4,5,6,7,10],[0,1,2,3,4,5,6,7,8,10,11],[0,1,2,3,4,5,6,7,8,9,10,11,12]] [some 17,some 18,some 19,some 20,some 21,some 22,some 16,some 23,some 24,some 25,some 8,some 7,none,some 9] (spRsu t pw pt cw ct g5 R.length cR i wp.heap.size (.slice q l.length d) wa wb wc bo) (by kernel_rfl) (by kernel_rfl) rfl (spRsu_stable _ _ _ _ _ _ _ _ _ _ _ _ _ _ _) ?_ ?_
   ·refine ⟨fun V w' hG hs=>?_,fun V w' hG hs=>?_,fun V w' hG hs=>?_,fun V w' hG hs=>?_,fun V w' hG hs=>?_,fun V w' hG hs=>?_,fun V w' hG hs=>?_,fun V w' hG hs=>?_,fun V w' hG hs=>?_,fun V w' hG hs=>?_,fun V w' hG hs=>?_,fun V w' hG hs=>?_,fun V w' hG hs=>?_,fun V w' hG hs=>?_,trivial⟩
    all_goals
     obtain ⟨k0,k1,k2⟩:=blk3 ((hG.low.block w.heap.size HZ0).trans HXr.out);have hcell:=(hG.low.cell (p:=⟨g5,i,none⟩) hq5).trans HCELL.out
    ·rw [if_pos (by rfl)];exact Rg.GrowL.value (v:=.agg #[.slice pw t.words.length cw,.slice pt t.turns.length ct,.int .i64 t.breath]) (w':=w') (by simp [go_sem,Rs.look,k0,k1,k2]) ((SpG.isGr wp.heap.size).refl _) rfl
    ·rw [if_pos (by rfl)];exact Rg.GrowL.value (v:=.slice (some ⟨g5,0,none⟩) R.length cR) (w':=w') (by simp [go_sem,Rs.look]) ((SpG.isGr wp.heap.size).refl _) rfl
    ·rw [if_pos (by rfl)];exact Rg.GrowL.value (v:=.int .i64 (i:Int)) (w':=w') (by simp [go_sem,Rs.look]) ((SpG.isGr wp.heap.size).refl _) rfl
    ·have e1:V 1=_:=hs 1 (by simp);have e2:V 2=_:=hs 2 (by simp);rw [if_pos (by rfl)];exact Rg.GrowL.value (v:=.pointer (some ⟨g5,i,none⟩)) (w':=w') (by simp [go_sem,Rs.look,e1,e2,hlt2]) ((SpG.isGr wp.heap.size).refl _) rfl
    ·have e1:V 1=_:=hs 1 (by simp);have e2:V 2=_:=hs 2 (by simp);have e3:V 3=_:=hs 3 (by simp);rw [if_pos (by rfl)];exact Rg.GrowL.value (v:=(.slice q l.length d)) (w':=w') (by simp [go_sem,Rs.look,e1,e2,e3,hcell]) ((SpG.isGr wp.heap.size).refl _) rfl
    ·have e0:V 0=_:=hs 0 (by simp);have e1:V 1=_:=hs 1 (by simp);have e2:V 2=_:=hs 2 (by simp);have e3:V 3=_:=hs 3 (by simp);have e4:V 4=_:=hs 4 (by simp);rw [if_pos (by rfl)];refine Rg.GrowL.call (SpG.isGr wp.heap.size) (f:=47) (args:=#[.agg #[.slice pw t.words.length cw,.slice pt t.turns.length ct,.int .i64 t.breath],.slice q l.length d]) (by simp [go_sem,Rs.look,e0,e4]) ?_;refine (HWR.out w' (join HBr.out hG.low) (HQI.out.below hG.low)).mono ?_;rintro e w2 ⟨rfl,hB2⟩;exact ⟨_,rfl,SpG.of hG.low.size hB2,rfl⟩
    ·have e0:V 0=_:=hs 0 (by simp);have e1:V 1=_:=hs 1 (by simp);have e2:V 2=_:=hs 2 (by simp);have e3:V 3=_:=hs 3 (by simp);have e4:V 4=_:=hs 4 (by simp);have e5:V 5=_:=hs 5 (by simp);rw [if_pos (by rfl)];exact Rg.GrowL.value (v:=.tuple #[.int .i64 wa,.agg #[.int .i64 wb,.int .i64 wc],.bool bo]) (w':=w') (by simp [go_sem,Rs.look,e0,e1,e2,e3,e4,e5]) ((SpG.isGr wp.heap.size).refl _) rfl
    ·have e0:V 0=_:=hs 0 (by simp);have e1:V 1=_:=hs 1 (by simp);have e2:V 2=_:=hs 2 (by simp);have e3:V 3=_:=hs 3 (by simp);have e4:V 4=_:=hs 4 (by simp);have e5:V 5=_:=hs 5 (by simp);have e6:V 6=_:=hs 6 (by simp);rw [if_pos (by rfl)];exact Rg.GrowL.value (v:=.int .i64 wa) (w':=w') (by simp [go_sem,Rs.look,e0,e1,e2,e3,e4,e5,e6]) ((SpG.isGr wp.heap.size).refl _) rfl
    ·have e0:V 0=_:=hs 0 (by simp);have e1:V 1=_:=hs 1 (by simp);have e2:V 2=_:=hs 2 (by simp);have e3:V 3=_:=hs 3 (by simp);have e4:V 4=_:=hs 4 (by simp);have e5:V 5=_:=hs 5 (by simp);have e6:V 6=_:=hs 6 (by simp);rw [if_pos (by rfl)];exact Rg.GrowL.value (v:=.agg #[.int .i64 wb,.int .i64 wc]) (w':=w') (by simp [go_sem,Rs.look,e0,e1,e2,e3,e4,e5,e6]) ((SpG.isGr wp.heap.size).refl _) rfl
    ·have e0:V 0=_:=hs 0 (by simp);have e1:V 1=_:=hs 1 (by simp);have e2:V 2=_:=hs 2 (by simp);have e3:V 3=_:=hs 3 (by simp);have e4:V 4=_:=hs 4 (by simp);have e5:V 5=_:=hs 5 (by simp);have e6:V 6=_:=hs 6 (by simp);rw [if_pos (by rfl)];exact Rg.GrowL.value (v:=.bool bo) (w':=w') (by simp [go_sem,Rs.look,e0,e1,e2,e3,e4,e5,e6]) ((SpG.isGr wp.heap.size).refl _) rfl
    ·rw [if_pos (by rfl)];exact Rg.GrowL.value (v:=.pointer (some ⟨w'.heap.size,0,none⟩)) (w':=w'.alloc (.cells #[.int .i64 0,.int .i64 0] 58)) (by simp [go_sem,Rs.look]) (SpG.of hG.low.size (below1 _ _)) ⟨_,rfl,hG.low.size,_,_,heap_last _ _⟩
    ·have e0:V 0=_:=hs 0 (by simp);have e1:V 1=_:=hs 1 (by simp);have e2:V 2=_:=hs 2 (by simp);have e3:V 3=_:=hs 3 (by simp);have e4:V 4=_:=hs 4 (by simp);have e5:V 5=_:=hs 5 (by simp);have e6:V 6=_:=hs 6 (by simp);have e7:V 7=_:=hs 7 (by simp);have r10:=hs 10 (by simp);rw [if_pos (by rfl)];exact Rg.GrowL.value (v:=.int .i64 wa) (w':=w') (by simp [go_sem,Rs.look,e0,e1,e2,e3,e4,e5,e6,e7]) ((SpG.isGr wp.heap.size).refl _) rfl
    ·have e0:V 0=_:=hs 0 (by simp);have e1:V 1=_:=hs 1 (by simp);have e2:V 2=_:=hs 2 (by simp);have e3:V 3=_:=hs 3 (by simp);have e4:V 4=_:=hs 4 (by simp);have e5:V 5=_:=hs 5 (by simp);have e6:V 6=_:=hs 6 (by simp);have e7:V 7=_:=hs 7 (by simp);have e8:V 8=_:=hs 8 (by simp);have r10:=hs 10 (by simp);have e11:V 11=_:=hs 11 (by simp);rw [if_pos (by rfl)];obtain ⟨p,e10,hp,d0,d1,x10⟩:=r10;have m0:=blk_cells x10 0 _ rfl;have m1:=blk_cells x10 1 _ rfl;have f10:∀ i,w'.frozen? ⟨p,i,none⟩=false:=fun i=>by simp [World.frozen?,x10]
     exact Rg.GrowL.skip (w':=(w'.setCell ⟨p,0,none⟩ (.int .i64 wb)).setCell ⟨p,1,none⟩ (.int .i64 wc)) (by simp [go_sem,Rs.look,e10,e8,m0,m1,f10]) (SpG.fill hp x10) trivial
    ·have e0:V 0=_:=hs 0 (by simp);have e1:V 1=_:=hs 1 (by simp);have e2:V 2=_:=hs 2 (by simp);have e3:V 3=_:=hs 3 (by simp);have e4:V 4=_:=hs 4 (by simp);have e5:V 5=_:=hs 5 (by simp);have e6:V 6=_:=hs 6 (by simp);have e7:V 7=_:=hs 7 (by simp);have e8:V 8=_:=hs 8 (by simp);have e9:V 9=_:=hs 9 (by simp);have r10:=hs 10 (by simp);have e11:V 11=_:=hs 11 (by simp);have r12:=hs 12 (by simp);rw [if_pos (by rfl)];exact Rg.GrowL.value (v:=.bool bo) (w':=w') (by simp [go_sem,Rs.look,e0,e1,e2,e3,e4,e5,e6,e7,e8,e9,e11]) ((SpG.isGr wp.heap.size).refl _) rfl
   ·intro V w' hG hs;have e0:V 0=_:=hs 0 (by omega);have e1:V 1=_:=hs 1 (by omega);have e2:V 2=_:=hs 2 (by omega);have e3:V 3=_:=hs 3 (by omega);have e4:V 4=_:=hs 4 (by omega);have e5:V 5=_:=hs 5 (by omega);have e6:V 6=_:=hs 6 (by omega);have e7:V 7=_:=hs 7 (by omega);have e8:V 8=_:=hs 8 (by omega);have e9:V 9=_:=hs 9 (by omega);have r10:=hs 10 (by omega);have e11:V 11=_:=hs 11 (by omega);have r12:=hs 12 (by omega);have e13:V 13=_:=hs 13 (by omega);obtain ⟨p10,e10,hp10,d0,d1,x10⟩:=r10;simp only [Rs.canon,Rs.dstOf,List.range_succ,List.range_zero,List.nil_append,List.cons_append,List.foldl_cons,List.foldl_nil,List.drop_succ_cons,List.drop_zero,List.drop_nil,List.getElem?_toArray,List.getElem?_cons_succ,List.getElem?_cons_zero,Option.bind_some,Act.put,List.getD_cons_succ,List.getD_cons_zero,List.setIfInBounds_toArray,List.set_cons_succ,List.set_cons_zero];rw [e0,e1,e2,e3,e4,e5,e6,e7,e8,e9,e10,e11,e13];clear e0 e1 e2 e3 e4 e5 e6 e7 e8 e9 e10 e11 e13 hs;clear x10 r12;have HB2:=Lib.hid hG.low;clear hG;have HO:=Lib.hid (own_below HO.out HB2.out);have HE:=Lib.hid (HE.out.below HB2.out);have HEL:=Lib.hid (HEL.out.below HB2.out);have HXr:=Lib.hid ((HB2.out.block w.heap.size HZ0).trans HXr.out);have hzg:=HB2.out.size;have hcell:=(HB2.out.cell (p:=⟨g5,i,none⟩) hq5).trans HCELL.out;have HBr:=Lib.hid (join HBr.out HB2.out);clear HB2 HCELL;cases bo with
    | false =>
     rw [HOKR.out,if_pos (by rfl)] at HSN;go_wp2_with (at_builtin;refine wpList_append_which rfl _ _ rfl (w.heap.size+1) _ _ _ rfl (HO.out.alloc _) ⟨w'.heap.size,0,none⟩ _ rfl (cell_one_new _ _ _ 0 _ rfl) rfl ?y1 ?y2 ?_)
     case y1=>first | omega | (simp;omega) | (simp at hzg ⊢;omega)
     case y2=>omega
     intro v' w9 hown9 hgrow9 hwhich;have HEL9:=Lib.hid ((HEL.out.below (below1 _ _)).grown (HO.out.alloc _) hgrow9);have HE9:=Lib.hid ((HE.out.below (below1 _ _)).grown (HO.out.alloc _) hgrow9);have HO9:=Lib.hid hown9;have HX9:=Lib.hid (blk_grown ((below1 _ _).block w.heap.size (by omega) |>.trans HXr.out) (HO.out.alloc _) hgrow9 (by omega));have HB9:=Lib.hid (below_grown (al2 HBr.out (by omega) _) (HO.out.alloc _) (by omega) (by first | omega | (simp;omega) | (simp at hzg ⊢;omega)) hgrow9);clear hgrow9 hown9 hwhich;go_wp2;go_roundw
     case rel=>exact ⟨i+1,_,by go_num,by omega,by rw [HSN.out,List.length_append];exact HO9.out,by rw [HSN.out];exact HE9.out.snoc HEL9.out,HB9.out,HX9.out⟩
     case measure=>simp [intOf];omega
    | true =>
     rw [HOKR.out,if_neg (by decide),List.append_nil] at HSN;go_wp2;go_roundw
     case rel=>exact ⟨i+1,xs,by go_num,by omega,by rw [HSN.out];exact HO.out,by rw [HSN.out];exact HE.out,HBr.out,HXr.out⟩
     case measure=>simp [intOf];omega
  ·obtain rfl:i=R.length:=by omega
   rw [List.take_length,← HRR.out] at HO HE;go_wp2;go_ret;exact ⟨_,xs,rfl,own_base HO.out (by omega),HE.out,HBr.out⟩
end Go.Proofs.YtadnggecnjdhiaaGreat
namespace Go.Proofs.YtadnggecnjdhiaaGreat
open Go.RowKit Tx
attribute [local go_sem] Oper.semAt_some
theorem longGo_bd {t:Text} (ok:Text.Ok t):∀ (l:List Int) (a:Nat),0≤longGo t a l∧longGo t a l≤1000
 | [],a=>by simp [longGo]
 | x::l,a=>by
  have ih:=longGo_bd ok l (a+x.toNat);rw [longGo];have hb:=isum_bd ((slice t.words a (a+x.toNat)).map (·.syl)) 0 9 (fun y hy=>by
   obtain ⟨z,hz,rfl⟩:=List.mem_map.1 hy;have:=ok.word z (List.mem_of_mem_drop (List.mem_of_mem_take hz));omega)
  have hlen:((slice t.words a (a+x.toNat)).map (·.syl)).length≤12:=by
   have:=ok.n12;simp [slice];omega
  unfold Text.syl;omega
theorem longGo_one {t:Text} {l:List Int} (h:Parts t.words.length l) {k:Nat} (hk:k<l.length) (m:Int) :
  max m (longGo t (isum (l.take k)).toNat (l.drop k))=max (max m (t.syl (isum (l.take k)).toNat (isum (l.take (k+1))).toNat)) (longGo t (isum (l.take (k+1))).toNat (l.drop (k+1))):=by
 have hx:=h.1 _ (getD_mem 0 hk);have hs:isum (l.take (k+1))=isum (l.take k)+l.getD k 0:=by rw [take_snocD 0 hk,isum_snoc]
 have h0:=isum_ge (l:=l.take k) (fun x hx=>h.1 x (List.mem_of_mem_take hx));have e:(isum (l.take k)).toNat+(l.getD k 0).toNat=(isum (l.take (k+1))).toNat:=by omega
 have hd:l.drop k=l.getD k 0::l.drop (k+1):=by rw [List.drop_eq_getElem_cons hk];simp [hk]
 rw [hd,longGo,e];omega
set_option maxHeartbeats 4000000 in
set_option maxRecDepth 100000 in
theorem rLongest_any (t:Text) (ok:Text.Ok t) (l:List Int) (hp:Parts t.words.length l) (pw pl:Option Addr) (cw cl:Nat) (v1 v2:Value) (w:World) (hW:Wds w pw t.words) (hL:Ints w pl l) :
  Calls Tryz.prog 17 #[.agg #[.slice pw t.words.length cw,v1,v2],.slice pl l.length cl] w fun e w'=>e=.returned (.int .i64 (longGo t 0 l))∧Below w.heap.size w w':=by
 have HB:=Lib.hid (below1 w (.cells #[.slice pw t.words.length cw,v1,v2] 32));have HX:=Lib.hid (heap_last w (.cells #[.slice pw t.words.length cw,v1,v2] 32));have HW:=Lib.hid hW;have HL:=Lib.hid hL;have HOK:=Lib.hid ok;have HP:=Lib.hid hp;have hn12:=ok.n12;have hll:l.length≤12:=by have:=isum_ge hp.1;have:=hp.2;omega
 have HPRE:=Lib.hid (fun k=>isum_take_le (fun x h=>by have:=hp.1 x h;omega) hp.2 k);obtain ⟨lo,hlo⟩:∃ lo,lo=longGo t 0 l:=⟨_,rfl⟩;have HLO:=Lib.hid hlo;rw [← hlo];clear hW hL ok hp hlo
 go_enter Tryz.func17,Tryz.ntmps17
 go_wp2_with fail
 generalize w.alloc (.cells #[.slice pw t.words.length cw,v1,v2] 32)=W1 at HB HX ⊢
 go_loopw [5,6,7,8,9] (fun mv av iv _ _ wr=>∃ (k a:Nat) (m:Int),k≤l.length∧iv=.int .i64 k∧av=.int .i64 (a:Int)∧mv=.int .i64 m∧(a:Int)=isum (l.take k)∧0≤m∧m≤1000∧max m (longGo t a (l.drop k))=lo∧W1=wr) (fun _ _ iv _ _ _=>l.length-(intOf iv).toNat)
 case atStart=>exact ⟨0,0,0,Nat.zero_le _,rfl,rfl,rfl,rfl,by omega,by omega,by have:=(longGo_bd HOK.out l 0).1;rw [HLO.out,List.drop_zero];omega,rfl⟩
 case round =>
  obtain ⟨k,a,m,hk,rfl,rfl,rfl,ha,hm0,hm1,hmx,rfl⟩:=hrel;have HA:=Lib.hid ha;have HM:=Lib.hid hmx;clear ha hmx;obtain ⟨k0,k1,k2⟩:=blk3 HX.out;by_cases hlt:k<l.length
  ·have hlt':(k:Int)<l.length:=by omega
   obtain ⟨g,o,x,rfl,hg,hxx,c1⟩:=(HL.out.below HB.out).at hlt;have hsn:isum (l.take (k+1))=(a:Int)+x:=by rw [take_snocD 0 hlt,isum_snoc,hxx,HA.out]
   have hx1:1≤x:=by rw [hxx];exact HP.out.1 _ (getD_mem 0 hlt)
   have hpr:=HPRE.out (k+1);rw [hsn] at hpr;obtain ⟨xn,rfl⟩:∃ n:Nat,x=(n:Int):=⟨x.toNat,by omega⟩;have hST:max m (longGo t a (l.drop k))=max (max m (t.syl a (a+xn))) (longGo t (a+xn) (l.drop (k+1))):=by
    have h:=longGo_one HP.out hlt m;rw [← HA.out,hsn] at h;rw [show ((a:Int)).toNat=a by omega,show ((a:Int)+(xn:Int)).toNat=a+xn by omega] at h;exact h
   rw [HM.out] at hST;have HST:=Lib.hid hST;have HSN:=Lib.hid hsn;have hax:a+xn≤t.words.length:=by omega
   clear hST hsn hxx HM;go_wp2_with fail
   go_loopw [8,9] (fun nv wv wr=>∃ q:Nat,q≤xn∧wv=.int .i64 ((a+q:Nat):Int)∧nv=.int .i64 (t.syl a (a+q))∧W1=wr) (fun _ wv _=>a+xn-(intOf wv).toNat)
   case atStart=>exact ⟨0,by omega,by simp,by rw [syl_none],rfl⟩
   case round =>
    obtain ⟨q,hq,rfl,rfl,rfl⟩:=hrel;by_cases hql:q<xn
    ·have hql':((a+q:Nat):Int)<(a:Int)+(xn:Int):=by omega
     have hlt2:a+q<t.words.length:=by omega
     have hlt3:((a+q:Nat):Int)<t.words.length:=by omega
     obtain ⟨bb,ow,y,rfl,hbl,hyy,d1,d2,d3⟩:=(HW.out.below HB.out).at hlt2;have hsy:=syl_snoc t a q hlt2;rw [← hyy] at hsy;have h1:=syl_bd HOK.out a (a+q);have h2:=syl_bd HOK.out a (a+(q+1));have HSY:=Lib.hid hsy;rw [hsy] at h2;generalize t.syl a (a+q)=sy at h1 h2 HSY;obtain ⟨ya,yb,yc⟩:=y;dsimp only at d1 d2 d3 h2 HSY;have e3:((a+q:Nat):Int)+1=((a+(q+1):Nat):Int):=by omega
     have E3:=Lib.hid e3;generalize hr:a+q=r at hql' hlt2 hlt3 d1 d2 d3 E3;clear hyy hsy e3;go_wp2;go_roundw
     case rel=>exact ⟨q+1,by omega,by rw [E3.out],by rw [HSY.out],by first | trivial | rfl⟩
     case measure=>simp [intOf];omega
    ·obtain rfl:q=xn:=by omega
     have hql':¬ ((a+q:Nat):Int)<(a:Int)+(q:Int):=by omega
     have hb:=syl_bd HOK.out a (a+q);generalize t.syl a (a+q)=sy at hb HST;have e3:(a:Int)+(q:Int)=((a+q:Nat):Int):=by omega
     have E3:=Lib.hid e3;clear e3;go_wp2;go_roundw
     case rel=>exact ⟨k+1,a+q,max m sy,by omega,by go_num,by first | rfl | rw [E3.out],by first | rfl | (congr 1;omega),by rw [HSN.out,E3.out],by omega,by omega,HST.out.symm,by first | trivial | rfl⟩
     case measure=>simp [intOf];omega
  ·obtain rfl:k=l.length:=by omega
   have hfin:m=lo:=by
    have:=HM.out;rw [List.drop_length,longGo] at this;omega
   subst hfin;clear HM;go_wp2;go_ret;exact ⟨rfl,HB.out⟩
end Go.Proofs.YtadnggecnjdhiaaGreat
namespace Go.Proofs.YtadnggecnjdhiaaGreat
open Go.RowKit Tx
attribute [local go_sem] Oper.semAt_some
theorem evS_none {f:List Int→Int} {R:List (List Int)} (h:evS f R=none):R=[]:=by
 apply Classical.byContradiction;intro hne;obtain ⟨l,_,h1,_⟩:=evS_spec f R hne;rw [h] at h1;cases h1
theorem evP_step (f:List Int→Int) (R:List (List Int)) (i:Nat) (hi:i<R.length) (l:List Int) (hl:R.getD i []=l) (mm:Nat) (mo:Int) (h:evP (evS f (R.take i))=(mm,mo)) :
  evP (evS f (R.take (i+1)))=if i=0∨f l<mo∨(f l=mo∧l.length<mm) then (l.length,f l) else (mm,mo):=by
 rw [take_snocD [] hi,evS_snoc,hl];cases he:evS f (R.take i) with
 | none =>
  have h0:=evS_none he;have h1:i=0:=by
   have h2:min i R.length=0:=by rw [← List.length_take,h0];rfl
   omega
  rw [if_pos (.inl h1)];rfl
 | some p =>
  obtain ⟨a,b⟩:=p;rw [he] at h;injection h with h1 h2;subst h1;subst h2;have h0:i≠0:=by
   rintro rfl;rw [List.take_zero] at he;cases he
  unfold evStep;dsimp only;by_cases hc:f l<b∨(f l=b∧l.length<a)
  ·rw [if_pos hc,if_pos (.inr hc)];rfl
  ·rw [if_neg hc,if_neg (by rintro (h | h);exact h0 h;exact hc h)];rfl
def spRev (t:Text) (pw pt:Option Addr) (cw ct g m c j:Nat) (x:Value) (lo:Int):Nat→List Value→Value→World→Prop
 | 0,_,v,_=>v=.agg #[.slice pw t.words.length cw,.slice pt t.turns.length ct,.int .i64 t.breath]
 | 1,_,v,_=>v=.slice (some ⟨g,0,none⟩) m c
 | 2,_,v,_=>v=.int .i64 (j:Int)
 | 3,_,v,_=>v=.pointer (some ⟨g,j,none⟩)
 | 4,_,v,_=>v=x
 | 5,_,v,_=>v=.int .i64 lo
 | _,_,_,_=>False
theorem spRev_stable (t:Text) (pw pt:Option Addr) (cw ct g m c j:Nat) (x:Value) (lo:Int):∀ i L v w w',spRev t pw pt cw ct g m c j x lo i L v w→Rs.Gr w w'→spRev t pw pt cw ct g m c j x lo i L v w':=by
 intro i L v w w' h hg
 match i with
 | 0=>exact h
 | 1=>exact h
 | 2=>exact h
 | 3=>exact h
 | 4=>exact h
 | 5=>exact h
set_option maxHeartbeats 6000000 in
set_option maxRecDepth 100000 in
theorem rEven_any (t:Text) (ok:Text.Ok t) (R:List (List Int)) (hRl:R.length≤100000) (hRp:∀ l∈R,Parts t.words.length l) (pw pt pR:Option Addr) (cw ct cR:Nat) (w:World) (hW:TxAt w t pw pt) (hR:LLs w pR R) :
  Calls Tryz.prog 15 #[.agg #[.slice pw t.words.length cw,.slice pt t.turns.length ct,.int .i64 t.breath],.slice pR R.length cR] w fun e w'=>e=.returned (.tuple #[.int .i64 ((evP (evS (longGo t 0) R)).1:Nat),.int .i64 (evP (evS (longGo t 0) R)).2])∧Below w.heap.size w w':=by
 obtain ⟨em,hem⟩:∃ em,em=evP (evS (longGo t 0) R):=⟨_,rfl⟩;have HEM:=Lib.hid hem;rw [← hem];clear hem;have hn12:=ok.n12;have HWR0:=Lib.hid (fun (i:Nat) (hi:i<R.length) q d W (h:Below w.heap.size w W) (hL:Ints W q (R.getD i []))=>rLongest_any t ok (R.getD i []) (hRp _ (by simp [hi])) pw q cw d (.slice pt t.turns.length ct) (.int .i64 t.breath) W ((hW.below h).words) hL);have HLB:=Lib.hid (fun (i:Nat) (hi:i<R.length)=>And.intro (longGo_bd ok (R.getD i []) 0) (show (R.getD i []).length≤12 by have h1:=hRp (R.getD i []) (by simp [hi]);have:=isum_ge h1.1;have:=h1.2;omega));have HEV:=Lib.hid (fun (i:Nat) (hi:i<R.length) l hl mm mo h=>evP_step (longGo t 0) R i hi l hl mm mo h);have HB:=Lib.hid (below1 w (.cells #[.slice pw t.words.length cw,.slice pt t.turns.length ct,.int .i64 t.breath] 32));have HX:=Lib.hid (heap_last w (.cells #[.slice pw t.words.length cw,.slice pt t.turns.length ct,.int .i64 t.breath] 32));have HR:=Lib.hid hR;obtain ⟨k0,k1,k2⟩:=blk3 HX.out;clear hW hR hRp ok
 go_enter Tryz.func15,Tryz.ntmps15
 go_wp2_with fail
 generalize w.alloc (.cells #[.slice pw t.words.length cw,.slice pt t.turns.length ct,.int .i64 t.breath] 32)=W1 at HB HX ⊢
 go_loopw [6,7,8,9] (fun v6 v7 v8 _ wr=>∃ (i mm:Nat) (mo:Int),v8=.int .i64 i∧i≤R.length∧v6=.int .i64 mm∧v7=.int .i64 mo∧evP (evS (longGo t 0) (R.take i))=(mm,mo)∧0≤mo∧mo≤1000∧mm≤12∧Below w.heap.size w wr∧wr.heap[w.heap.size]?=some (.cells #[.slice pw t.words.length cw,.slice pt t.turns.length ct,.int .i64 t.breath] 32 (0,0))) (fun _ _ v8 _ _=>R.length-(intOf v8).toNat)
 case atStart=>exact ⟨0,0,0,rfl,Nat.zero_le _,rfl,rfl,rfl,by omega,by omega,by omega,HB.out,HX.out⟩
 case round =>
  clear HB HX k0 k1 k2;obtain ⟨wp,rfl⟩:∃ wp:World,wp=wr:=⟨_,rfl⟩;obtain ⟨i,mm,mo,rfl,hi,rfl,rfl,hev,hm0,hm1,hmm,hBr,hx⟩:=hrel;have HBr:=Lib.hid hBr;have HXr:=Lib.hid hx;have hz7:=hBr.size;have HZ0:w.heap.size<wp.heap.size:=(Array.getElem?_eq_some_iff.1 hx).1;by_cases hlt:i<R.length
  ·have hlt':(i:Int)<R.length:=by omega
   have hlt2:(i:Int)<R.length:=by omega
   obtain ⟨g5,q,d,rfl,hq5,hcell,hQI⟩:=(HR.out.below hBr).at hlt;have HWR:=Lib.hid (fun W h hL=>HWR0.out i hlt q d W h hL);obtain ⟨⟨hl0,hl1⟩,hll⟩:=HLB.out i hlt;have HSN:=Lib.hid (HEV.out i hlt _ rfl mm mo hev);generalize R.getD i []=l at hQI hcell HWR hl0 hl1 hll HSN;generalize longGo t 0 l=lo at HWR hl0 hl1 HSN;have HQI:=Lib.hid hQI;have HCELL:=Lib.hid hcell;clear hBr hx hQI hcell hev;go_wp2_with fail
   refine Rs.region_gen 6 [[],[],[],[1,2],[1,2,3],[0,1,2,3,4]] [some 16,some 17,some 18,some 19,some 20,some 21] (spRev t pw pt cw ct g5 R.length cR i (.slice q l.length d) lo) (by kernel_rfl) (by kernel_rfl) rfl (spRev_stable _ _ _ _ _ _ _ _ _ _ _) ?_ ?_
   ·refine ⟨fun V w' hG hs=>?_,fun V w' hG hs=>?_,fun V w' hG hs=>?_,fun V w' hG hs=>?_,fun V w' hG hs=>?_,fun V w' hG hs=>?_,trivial⟩
    all_goals
     obtain ⟨k0,k1,k2⟩:=blk3 ((hG.block w.heap.size HZ0).trans HXr.out);have hcell:=(hG.cell (p:=⟨g5,i,none⟩) hq5).trans HCELL.out
    ·rw [if_pos (by rfl)];exact Rs.GrowL.value (v:=.agg #[.slice pw t.words.length cw,.slice pt t.turns.length ct,.int .i64 t.breath]) (w':=w') (by simp [go_sem,Rs.look,k0,k1,k2]) (Rs.Gr.refl _) rfl
    ·rw [if_pos (by rfl)];exact Rs.GrowL.value (v:=.slice (some ⟨g5,0,none⟩) R.length cR) (w':=w') (by simp [go_sem,Rs.look]) (Rs.Gr.refl _) rfl
    ·rw [if_pos (by rfl)];exact Rs.GrowL.value (v:=.int .i64 (i:Int)) (w':=w') (by simp [go_sem,Rs.look]) (Rs.Gr.refl _) rfl
    ·have e1:V 1=_:=hs 1 (by simp);have e2:V 2=_:=hs 2 (by simp);rw [if_pos (by rfl)];exact Rs.GrowL.value (v:=.pointer (some ⟨g5,i,none⟩)) (w':=w') (by simp [go_sem,Rs.look,e1,e2,hlt2]) (Rs.Gr.refl _) rfl
    ·have e1:V 1=_:=hs 1 (by simp);have e2:V 2=_:=hs 2 (by simp);have e3:V 3=_:=hs 3 (by simp);rw [if_pos (by rfl)];exact Rs.GrowL.value (v:=(.slice q l.length d)) (w':=w') (by simp [go_sem,Rs.look,e1,e2,e3,hcell]) (Rs.Gr.refl _) rfl
    ·have e0:V 0=_:=hs 0 (by simp);have e1:V 1=_:=hs 1 (by simp);have e2:V 2=_:=hs 2 (by simp);have e3:V 3=_:=hs 3 (by simp);have e4:V 4=_:=hs 4 (by simp);rw [if_pos (by rfl)];refine Rs.GrowL.call (f:=17) (args:=#[.agg #[.slice pw t.words.length cw,.slice pt t.turns.length ct,.int .i64 t.breath],.slice q l.length d]) (by simp [go_sem,Rs.look,e0,e4]) ?_;refine (HWR.out w' (join HBr.out hG) (HQI.out.below hG)).mono ?_;rintro e w2 ⟨rfl,hB2⟩;exact ⟨_,rfl,hB2,rfl⟩
   ·intro V w' hG hs;have e0:V 0=_:=hs 0 (by omega);have e1:V 1=_:=hs 1 (by omega);have e2:V 2=_:=hs 2 (by omega);have e3:V 3=_:=hs 3 (by omega);have e4:V 4=_:=hs 4 (by omega);have e5:V 5=_:=hs 5 (by omega);simp only [Rs.canon,Rs.dstOf,List.range_succ,List.range_zero,List.nil_append,List.cons_append,List.foldl_cons,List.foldl_nil,List.drop_succ_cons,List.drop_zero,List.drop_nil,List.getElem?_toArray,List.getElem?_cons_succ,List.getElem?_cons_zero,Option.bind_some,Act.put,List.getD_cons_succ,List.getD_cons_zero,List.setIfInBounds_toArray,List.set_cons_succ,List.set_cons_zero];rw [e0,e1,e2,e3,e4,e5];clear e0 e1 e2 e3 e4 e5 hs;have HXr:=Lib.hid ((hG.block w.heap.size HZ0).trans HXr.out);have hcell:=(hG.cell (p:=⟨g5,i,none⟩) hq5).trans HCELL.out;have HBr:=Lib.hid (join HBr.out hG);clear HCELL hG;by_cases h0:i=0
    ·subst h0;rw [if_pos (.inl rfl)] at HSN;go_wp2;go_roundw
     case rel=>exact ⟨1,l.length,lo,rfl,by omega,rfl,rfl,HSN.out,by omega,by omega,by omega,HBr.out,HXr.out⟩
     case measure=>simp [intOf];omega
    ·have h0':((i:Int) == 0)=false:=by rw [beq_eq_false_iff_ne];omega
     by_cases h1:lo<mo
     ·rw [if_pos (.inr (.inl h1))] at HSN;clear h0;go_wp2;go_roundw
      case rel=>exact ⟨i+1,l.length,lo,by go_num,by omega,rfl,rfl,HSN.out,by omega,by omega,by omega,HBr.out,HXr.out⟩
      case measure=>simp [intOf];omega
     ·by_cases h2:lo=mo
      ·subst h2;by_cases h3:l.length<mm
       ·have h3':(l.length:Int)<mm:=by omega
        rw [if_pos (.inr (.inr ⟨rfl,h3⟩))] at HSN;clear h0 h3;go_wp2;go_roundw
        case rel=>exact ⟨i+1,l.length,lo,by go_num,by omega,rfl,rfl,HSN.out,by omega,by omega,by omega,HBr.out,HXr.out⟩
        case measure=>simp [intOf];omega
       ·have h3':¬ (l.length:Int)<mm:=by omega
        rw [if_neg (by rintro (h | h | h);exact h0 h;exact h1 h;exact h3 h.2)] at HSN;clear h0 h3;go_wp2;go_roundw
        case rel=>exact ⟨i+1,mm,lo,by go_num,by omega,rfl,rfl,HSN.out,by omega,by omega,by omega,HBr.out,HXr.out⟩
        case measure=>simp [intOf];omega
      ·have h2':(lo == mo)=false:=by simpa using h2
       rw [if_neg (by rintro (h | h | h);exact h0 h;exact h1 h;exact h2 h.1)] at HSN;clear h0 h2;go_wp2;go_roundw
       case rel=>exact ⟨i+1,mm,mo,by go_num,by omega,rfl,rfl,HSN.out,by omega,by omega,by omega,HBr.out,HXr.out⟩
       case measure=>simp [intOf];omega
  ·obtain rfl:i=R.length:=by omega
   rw [List.take_length,← HEM.out] at hev;subst hev;clear HEM;go_wp2;go_ret2;exact ⟨rfl,HBr.out⟩
end Go.Proofs.YtadnggecnjdhiaaGreat
namespace Go.Proofs.YtadnggecnjdhiaaGreat
open Go.RowKit Tx
attribute [local go_sem] Oper.semAt_some
def spLte (t:Text) (pw pt:Option Addr) (cw ct B:Nat) :Nat→List Value→Value→World→Prop
 | 0,_,v,_=>v=.agg #[.slice pw t.words.length cw,.slice pt t.turns.length ct,.int .i64 t.breath]
 | 1,L,v,w=>∃ p q c d,v=.agg #[.slice p t.words.length c,.slice q t.turns.length d,.int .i64 t.breath]∧w.ownsRow B 61 3 (.slice p t.words.length c) t.words.length (wcells t.words)∧w.ownsRow B 63 3 (.slice q t.turns.length d) t.turns.length (tcells t.turns)∧t.words.length≤c∧c≤maxLen
 | 2,_,v,_=>v=.agg #[.slice pw t.words.length cw,.slice pt t.turns.length ct,.int .i64 t.breath]
 | 3,L,v,w=>∃ p q c d,v=.agg #[.slice p t.words.length c,.slice q t.turns.length d,.int .i64 t.breath]∧w.ownsRow B 80 3 (.slice p t.words.length c) t.words.length (wcells t.words)∧w.ownsRow B 81 3 (.slice q t.turns.length d) t.turns.length (tcells t.turns)
 | 4,L,v,w=>∃ p,v=.pointer (some ⟨p,0,none⟩)∧B≤p∧w.heap[p]?=some (.cells #[.slice none 0 0,.slice none 0 0,.int .i64 0] 25 (0,0))
 | 5,L,v,w=>∃ p,v=.pointer (some ⟨p,0,none⟩)∧B≤p∧w.heap[p]?=some (.cells #[.slice none 0 0,.slice none 0 0,.int .i64 0] 32 (0,0))
 | _,_,_,_=>False
theorem spLte_stable (t:Text) (pw pt:Option Addr) (cw ct B:Nat) :∀ i L v w w',spLte t pw pt cw ct B i L v w→Rs.Gr w w'→spLte t pw pt cw ct B i L v w':=by
 intro i L v w w' h hg
 match i with
 | 0=>exact h
 | 1=>obtain ⟨p,q,c,d,h1,h2,h3,h4⟩:=h;exact ⟨p,q,c,d,h1,own_below h2 hg,own_below h3 hg,h4⟩
 | 2=>exact h
 | 3=>obtain ⟨p,q,c,d,h1,h2,h3⟩:=h;exact ⟨p,q,c,d,h1,own_below h2 hg,own_below h3 hg⟩
 | 4=>obtain ⟨p,h1,h2,h3⟩:=h;exact ⟨p,h1,h2,(hg.block p (Array.getElem?_eq_some_iff.1 h3).1).trans h3⟩
 | 5=>obtain ⟨p,h1,h2,h3⟩:=h;exact ⟨p,h1,h2,(hg.block p (Array.getElem?_eq_some_iff.1 h3).1).trans h3⟩
set_option maxHeartbeats 6000000 in
set_option maxRecDepth 100000 in
theorem TextEven_any (t:Text) (hm1:t.words.length≤9223372036854775807) (hm2:t.turns.length≤9223372036854775807) (pw pt:Option Addr) (cw ct:Nat) (w:World) (hW:TxAt w t pw pt) :
  Calls Tryz.prog 3 #[.agg #[.slice pw t.words.length cw,.slice pt t.turns.length ct,.int .i64 t.breath]] w fun e w'=>e=.returned (.bool true)∧Below w.heap.size w w':=by
 have HW:=Lib.hid hW;have HB0:=Lib.hid (below1 w (.cells #[.slice pw t.words.length cw,.slice pt t.turns.length ct,.int .i64 t.breath] 25));have HX0:=Lib.hid (heap_last w (.cells #[.slice pw t.words.length cw,.slice pt t.turns.length ct,.int .i64 t.breath] 25));have HG:=Lib.hid (fun W=>great_any t 9 hm1 hm2 pw pt cw ct W);have HN:=Lib.hid (great_no (t:=t) (n:=9));generalize greatB t 9=gb at HG HN;clear hW;cases gb with
 | true =>
  obtain ⟨k0,k1,k2⟩:=blk3 HX0.out
  go_enter Tryz.func3,Tryz.ntmps3
  go_wp2_with fail
  refine (HG.out _).mono ?_;rintro e w1 ⟨rfl,hB⟩;have HB1:=Lib.hid (join HB0.out hB);clear hB k0 k1 k2;go_wp2_with fail
  refine (awake_any w1).mono ?_;rintro e w2 ⟨rfl,hB⟩;have HB2:=Lib.hid (join HB1.out hB);clear hB;go_wp2;go_ret;exact ⟨rfl,HB2.out⟩
 | false =>
  have hn:=HN.out rfl;clear HN;have hl1:t.words.length≤1000000:=by omega
  have hl2:t.turns.length≤1000000:=by omega
  have CEV:=fun p q c d hc W (h:TxAt W t p q)=>Even_any t hl1 hl2 p q c d hc W h;have CSU:=Lib.hid (fun p q c d hc W (h:TxAt W t p q)=>Surest_any t hl1 hl2 p q c d hc W h);have CCK:=Lib.hid (fun p q c d W (h:TxAt W t p q)=>rCheck_any t hl1 hl2 p q c d W h);unfold EvenPost at CEV;have CEV:=Lib.hid CEV;obtain ⟨er,her⟩:∃ er,t.err=er:=⟨_,rfl⟩;rw [her] at CCK;obtain ⟨k0,k1,k2⟩:=blk3 HX0.out
  go_enter Tryz.func3,Tryz.ntmps3
  go_wp2_with fail
  refine (HG.out _).mono ?_;rintro e w1 ⟨rfl,hB⟩;have HX1:=Lib.hid ((hB.block w.heap.size (Array.getElem?_eq_some_iff.1 HX0.out).1).trans HX0.out);have HB1:=Lib.hid (join HB0.out hB);have HZ0:w.heap.size<w1.heap.size:=(Array.getElem?_eq_some_iff.1 HX1.out).1;clear hB k0 k1 k2 HX0 HB0 HG;go_wp2_with fail
  refine Rs.region_gen 6 [[],[0],[],[0,1,2],[],[]] [some 25,some 26,some 27,some 28,some 3,some 4] (spLte t pw pt cw ct w1.heap.size) (by kernel_rfl) (by kernel_rfl) rfl (spLte_stable _ _ _ _ _ _) ?_ ?_
  ·refine ⟨fun V w' hG hs=>?_,fun V w' hG hs=>?_,fun V w' hG hs=>?_,fun V w' hG hs=>?_,fun V w' hG hs=>?_,fun V w' hG hs=>?_,trivial⟩
   all_goals
    obtain ⟨k0,k1,k2⟩:=blk3 ((hG.block w.heap.size HZ0).trans HX1.out)
   ·rw [if_pos (by rfl)];exact Rs.GrowL.value (v:=.agg #[.slice pw t.words.length cw,.slice pt t.turns.length ct,.int .i64 t.breath]) (w':=w') (by simp [go_sem,Rs.look,k0,k1,k2]) (Rs.Gr.refl _) rfl
   ·have e0:V 0=_:=hs 0 (by simp);rw [if_pos (by rfl)];refine Rs.GrowL.call (f:=7) (args:=#[.agg #[.slice pw t.words.length cw,.slice pt t.turns.length ct,.int .i64 t.breath]]) (by simp [go_sem,Rs.look,e0]) ?_;refine (lCopy_any t hl1 hl2 pw pt cw ct w' (HW.out.below (join HB1.out hG))).mono ?_;rintro e w2 ⟨g,h,rfl,o1,o2,hB2⟩;exact ⟨_,rfl,hB2,_,_,_,_,rfl,own_base o1 hG.size,own_base o2 hG.size,Nat.le_refl _,by unfold maxLen;omega⟩
   ·rw [if_pos (by rfl)];exact Rs.GrowL.value (v:=.agg #[.slice pw t.words.length cw,.slice pt t.turns.length ct,.int .i64 t.breath]) (w':=w') (by simp [go_sem,Rs.look,k0,k1,k2]) (Rs.Gr.refl _) rfl
   ·have e0:V 0=_:=hs 0 (by simp);have r1:=hs 1 (by simp);have e2:V 2=_:=hs 2 (by simp);rw [if_pos (by rfl)];refine Rs.GrowL.call (f:=8) (args:=#[.agg #[.slice pw t.words.length cw,.slice pt t.turns.length ct,.int .i64 t.breath]]) (by simp [go_sem,Rs.look,e2]) ?_;refine (theirs_any t hl1 hl2 pw pt cw ct w' (HW.out.below (join HB1.out hG))).mono ?_;rintro e w2 ⟨p,q,c,d,rfl,o1,o2,hB2⟩;exact ⟨_,rfl,hB2,_,_,_,_,rfl,own_base o1 hG.size,own_base o2 hG.size⟩
   ·rw [if_pos (by rfl)];exact Rs.GrowL.value (v:=.pointer (some ⟨w'.heap.size,0,none⟩)) (w':=w'.alloc (.cells #[.slice none 0 0,.slice none 0 0,.int .i64 0] 25)) (by simp [go_sem,Rs.look]) (below1 _ _) ⟨_,rfl,hG.size,heap_last _ _⟩
   ·rw [if_pos (by rfl)];exact Rs.GrowL.value (v:=.pointer (some ⟨w'.heap.size,0,none⟩)) (w':=w'.alloc (.cells #[.slice none 0 0,.slice none 0 0,.int .i64 0] 32)) (by simp [go_sem,Rs.look]) (below1 _ _) ⟨_,rfl,hG.size,heap_last _ _⟩
  ·intro V w' hG hs;have e0:V 0=_:=hs 0 (by omega);have r1:=hs 1 (by omega);have e2:V 2=_:=hs 2 (by omega);have r3:=hs 3 (by omega);have r4:=hs 4 (by omega);have r5:=hs 5 (by omega);obtain ⟨p7,q7,a7,b7,e1,o1,o2,hcw⟩:=r1;obtain ⟨p8,q8,a8,b8,e3,o3,o4⟩:=r3;obtain ⟨c7,e4,hc7,x7⟩:=r4;obtain ⟨c8,e5,hc8,x8⟩:=r5;simp only [Rs.canon,Rs.dstOf,List.range_succ,List.range_zero,List.nil_append,List.cons_append,List.foldl_cons,List.foldl_nil,List.drop_succ_cons,List.drop_zero,List.drop_nil,List.getElem?_toArray,List.getElem?_cons_succ,List.getElem?_cons_zero,Option.bind_some,Act.put,List.getD_cons_succ,List.getD_cons_zero,List.setIfInBounds_toArray,List.set_cons_succ,List.set_cons_zero];rw [e0,e1,e2,e3,e4,e5];clear e0 e1 e2 e3 e4 e5 hs;have hne:c7≠c8:=fun e=>by rw [e,x8] at x7;injection x7 with h;injection h with _ h;cases h
   have hz2:=hG.size;have hz1:=HB1.out.size;have HBx:=Lib.hid (join HB1.out hG);have hAx:=(hG.block w.heap.size HZ0).trans HX1.out;have HLW:=Lib.hid (LwT.start hAx (by omega) (by omega) x7 x8 o1 o2 o3 o4 HW.out HBx.out (by omega) (by omega));have HBW:=Lib.hid (lwSet_bel HBx.out (show w.heap.size≤c7 by omega) (show w.heap.size≤c8 by omega) (.slice p7 t.words.length a7) (.slice q7 t.turns.length b7) (.int .i64 t.breath) (.slice p8 t.words.length a8) (.slice q8 t.turns.length b8) (.int .i64 t.breath));have f7:∀ i,w'.frozen? ⟨c7,i,none⟩=false:=fun i=>by simp [World.frozen?,x7]
   have f8:∀ i,w'.frozen? ⟨c8,i,none⟩=false:=fun i=>by simp [World.frozen?,x8]
   obtain ⟨m0,m1,m2⟩:=blk3 x7;obtain ⟨n0,n1,n2⟩:=blk3 x8;have h7:c7<w'.heap.size:=(Array.getElem?_eq_some_iff.1 x7).1;have h8:c8<w'.heap.size:=(Array.getElem?_eq_some_iff.1 x8).1;clear o1 o2 o3 o4 x7 x8 hAx hz2 hz1 HX1 HB1 HBx;clear hG;go_wp2_with fail
   refine calls_named fun W hW=>?_;have hW2:W=lwSet w' c7 c8 (.slice p7 t.words.length a7) (.slice q7 t.turns.length b7) (.int .i64 t.breath) (.slice p8 t.words.length a8) (.slice q8 t.turns.length b8) (.int .i64 t.breath):=hW;rw [← hW2] at HLW HBW;clear hW hW2 f7 f8 m0 m1 m2 n0 n1 n2 h7 h8;rcases (Decidable.em (er=0)).symm with he | he
   ·have HER:(er != 0)=true:=by simpa using he
    have hev0:evR t=([],0,er):=by rw [← her];exact if_neg (by rw [her];exact he)
    have hsl0:surL t=[]:=if_neg (by rw [her];exact he);have hse0:surE t=er:=(if_neg (by rw [her];exact he)).trans her;rw [hev0] at CEV;rw [hsl0,hse0] at CSU;dsimp only at CEV CSU;obtain ⟨sl,hsl⟩:∃ sl:List Int,sl=[]:=⟨_,rfl⟩;rw [← hsl] at CSU;have HSL:Hid (sl.length=0):=Lib.hid (by rw [hsl];rfl);clear her he hev0 hsl0 hse0 hsl;obtain ⟨k0,k1,k2⟩:=blk3 HLW.out.prm;obtain ⟨k3,k4,k5⟩:=blk3 HLW.out.x7;obtain ⟨k6,k7,k8⟩:=blk3 HLW.out.x8;go_wp2_with fail
    refine (CEV.out p7 q7 a7 b7 ⟨hcw.1,hcw.2⟩ _ HLW.out.r7).mono ?_;rintro e w2 ⟨v18,rfl,ho,hB⟩;have HLW:=Lib.hid (HLW.out.below hB);have HBW:=Lib.hid (join HBW.out hB);obtain ⟨p18,c18,rfl,H18,-⟩:=own_rd ho rfl;have H18:=Lib.hid H18;clear k0 k1 k2 k3 k4 k5 k6 k7 k8;clear hB ho;obtain ⟨k0,k1,k2⟩:=blk3 HLW.out.prm;obtain ⟨k3,k4,k5⟩:=blk3 HLW.out.x7;obtain ⟨k6,k7,k8⟩:=blk3 HLW.out.x8;go_wp2_with fail
    refine (CSU.out p7 q7 a7 b7 ⟨hcw.1,hcw.2⟩ _ HLW.out.r7).mono ?_;rintro e w2 ⟨v19,rfl,ho,hB⟩;have HLW:=Lib.hid (HLW.out.below hB);have H18:=Lib.hid (H18.out.below hB);have HBW:=Lib.hid (join HBW.out hB);obtain ⟨p19,c19,rfl,H19,-⟩:=own_rd ho rfl;have H19:=Lib.hid H19;clear k0 k1 k2 k3 k4 k5 k6 k7 k8;clear hB ho;have HSB:=Lib.hid (heap_last w2 (.cells #[.slice p19 sl.length c19] 34));have hB:=below1 w2 (.cells #[.slice p19 sl.length c19] 34);have HLW:=Lib.hid (HLW.out.below hB);have H18:=Lib.hid (H18.out.below hB);have H19:=Lib.hid (H19.out.below hB);have HBW:=Lib.hid (join HBW.out hB);clear hB;obtain ⟨k0,k1,k2⟩:=blk3 HLW.out.prm;obtain ⟨k3,k4,k5⟩:=blk3 HLW.out.x7;obtain ⟨k6,k7,k8⟩:=blk3 HLW.out.x8;have y0:=blk_cells HSB.out 0 _ rfl;go_wp2_with fail
    refine (CCK.out p8 q8 a8 b8 _ HLW.out.r8).mono ?_;rintro e w2 ⟨rfl,hB⟩;have HSB:=Lib.hid ((hB.block _ (Array.getElem?_eq_some_iff.1 HSB.out).1).trans HSB.out);have HLW:=Lib.hid (HLW.out.below hB);have H18:=Lib.hid (H18.out.below hB);have H19:=Lib.hid (H19.out.below hB);have HBW:=Lib.hid (join HBW.out hB);clear k0 k1 k2 k3 k4 k5 k6 k7 k8 y0;clear hB;have hsl0:=HSL.out;clear HSL;obtain ⟨k0,k1,k2⟩:=blk3 HLW.out.prm;obtain ⟨k3,k4,k5⟩:=blk3 HLW.out.x7;obtain ⟨k6,k7,k8⟩:=blk3 HLW.out.x8;have y0:=blk_cells HSB.out 0 _ rfl;go_wp2_with fail
    refine (awake_any _).mono ?_;rintro e w10 ⟨rfl,hB10⟩;have HBW:=Lib.hid (join HBW.out hB10);clear hB10;go_wp2;go_ret;exact ⟨rfl,HBW.out⟩
   subst he;have F:=even_facts her;have ok:=err_ok her;have hn12:=ok.n12;have CRI:=Lib.hid (fun p q c d W (h:TxAt W t p q)=>Right_any t (by omega) hl2 p q c d W h);have CRF:=Lib.hid (fun p c W (h:LLs W p (rightsR t))=>rFewest_any (rightsR t) (by have:=F.r12;omega) (fun l hl=>by have h1:=F.rp l hl;have:=isum_ge h1.1;have:=h1.2;omega) p c W h);have CRS:=Lib.hid (fun p q r c d e W (h:TxAt W t p q) (hL:LLs W r (rightsR t))=>rSure_any t her (rightsR t) F.r12 F.rp p q r c d e W h hL);have CRE:=Lib.hid (fun p q r c d e W (h:TxAt W t p q) (hL:LLs W r (rightsR t))=>rEven_any t ok (rightsR t) F.r12 F.rp p q r c d e W h hL);have CRG:=Lib.hid (fun p c W (h:LLs W p (sureR t (rightsR t)))=>rFewest_any (sureR t (rightsR t)) (by have:=F.s12;omega) (fun l hl=>by have h1:=F.sp l hl;have:=isum_ge h1.1;have:=h1.2;omega) p c W h);have hel:=F.el;have hm12:=F.m12;have CRW:=Lib.hid (fun p q r c d e W (h:TxAt W t p q) (hL:Ints W r (evR t).1)=>rWrong_any t (evR t).1 hl1 hl2 (by omega) p q r c d e W h hL);have CRL:∀ hB:bestLen (rightsR t) 0≠0,Hid (∀ p r c e v1 v2 W (h:Wds W p t.words) (hL:Ints W r (evR t).1),Calls Tryz.prog 17 #[.agg #[.slice p t.words.length c,v1,v2],.slice r (evR t).1.length e] W fun e w'=>e=.returned (.int .i64 (longGo t 0 (evR t).1))∧Below W.heap.size W w'):=fun hB=>Lib.hid (fun p r c e v1 v2 W (h:Wds W p t.words) (hL:Ints W r (evR t).1)=>rLongest_any t ok (evR t).1 (F.ep hB) p r c e v1 v2 W h hL);have hsll:=F.sl;have hc12:=F.c12;have CCF:=Lib.hid (fun B ps cs p c W (hB:W.heap[B]?=some (.cells #[.slice ps (surL t).length cs] 34 (0,0))) (hS:Ints W ps (surL t)) (hL:LLs W p (sureR t (rightsR t)))=>containsFuncL 19 entered_even1 (.pointer (some ⟨B,0,none⟩)) (fun k=>decide (k=surL t)) (sureR t (rightsR t)) p c W (by have:=F.s12;omega) hL (fun W' h u hu pu cu hI=>even1_any u (surL t) (by have h1:=F.sp u hu;have:=isum_ge h1.1;have:=h1.2;omega) (by omega) B pu ps cu cs W' ((h.block B (Array.getElem?_eq_some_iff.1 hB).1).trans hB) hI (hS.below h)));have hsm:=F.sm;have hew:=F.ew;have heo:=F.eo;have hcb:=F.cb;have hee:=F.ee;have hfe:=F.fe;have hen:=F.en;clear F ok her hn12;generalize rightsR t=R at CRI CRF CRS CRE CRG CCF CRL hel hm12 hsll hc12 hsm hew heo hcb hee hfe hen;generalize sureR t R=S at CRS CRG CCF hsll hc12 hsm hcb hfe;generalize bestLen R 0=B at CRF CRL hew heo hcb hee;generalize bestLen S 0=C at CRG hsll hc12 hsm hcb hfe;generalize evP (evS (longGo t 0) R)=ep at CRE hel hm12 heo hen;obtain ⟨mm,mo⟩:=ep;dsimp only at CRE hel hm12 heo hen;have hel12:(evR t).1.length≤12:=by omega
   have hsl12:(surL t).length≤12:=by omega
   generalize evR t=ev at CEV CRW CRL hel hew heo hee hen hel12;obtain ⟨el,en,ee⟩:=ev;dsimp only at CEV CRW CRL hel hew heo hee hen hel12;generalize surL t=sl at CSU CCF hsll hsm hsl12;generalize surE t=se at CSU hfe;subst hel;subst hsll;subst hen;rcases Nat.eq_zero_or_pos B with hB0 | hB0
   ·have hC0:=hcb hB0;subst hB0;rw [if_pos rfl] at hee CRF;rw [if_pos hC0] at hfe CRG;subst hee;subst hfe;clear CRL hew heo hsm hcb CRW CCF hC0;obtain ⟨k0,k1,k2⟩:=blk3 HLW.out.prm;obtain ⟨k3,k4,k5⟩:=blk3 HLW.out.x7;obtain ⟨k6,k7,k8⟩:=blk3 HLW.out.x8;go_wp2_with fail
    refine (CEV.out p7 q7 a7 b7 ⟨hcw.1,hcw.2⟩ _ HLW.out.r7).mono ?_;rintro e w2 ⟨v18,rfl,ho,hB⟩;have HLW:=Lib.hid (HLW.out.below hB);have HBW:=Lib.hid (join HBW.out hB);obtain ⟨p18,c18,rfl,H18,-⟩:=own_rd ho rfl;have H18:=Lib.hid H18;clear k0 k1 k2 k3 k4 k5 k6 k7 k8;clear hB ho;obtain ⟨k0,k1,k2⟩:=blk3 HLW.out.prm;obtain ⟨k3,k4,k5⟩:=blk3 HLW.out.x7;obtain ⟨k6,k7,k8⟩:=blk3 HLW.out.x8;go_wp2_with fail
    refine (CSU.out p7 q7 a7 b7 ⟨hcw.1,hcw.2⟩ _ HLW.out.r7).mono ?_;rintro e w2 ⟨v19,rfl,ho,hB⟩;have HLW:=Lib.hid (HLW.out.below hB);have H18:=Lib.hid (H18.out.below hB);have HBW:=Lib.hid (join HBW.out hB);obtain ⟨p19,c19,rfl,H19,-⟩:=own_rd ho rfl;have H19:=Lib.hid H19;clear k0 k1 k2 k3 k4 k5 k6 k7 k8;clear hB ho;have HSB:=Lib.hid (heap_last w2 (.cells #[.slice p19 sl.length c19] 34));have hB:=below1 w2 (.cells #[.slice p19 sl.length c19] 34);have HLW:=Lib.hid (HLW.out.below hB);have H18:=Lib.hid (H18.out.below hB);have H19:=Lib.hid (H19.out.below hB);have HBW:=Lib.hid (join HBW.out hB);clear hB;obtain ⟨k0,k1,k2⟩:=blk3 HLW.out.prm;obtain ⟨k3,k4,k5⟩:=blk3 HLW.out.x7;obtain ⟨k6,k7,k8⟩:=blk3 HLW.out.x8;have y0:=blk_cells HSB.out 0 _ rfl;go_wp2_with fail
    refine (CCK.out p8 q8 a8 b8 _ HLW.out.r8).mono ?_;rintro e w2 ⟨rfl,hB⟩;have HSB:=Lib.hid ((hB.block _ (Array.getElem?_eq_some_iff.1 HSB.out).1).trans HSB.out);have HLW:=Lib.hid (HLW.out.below hB);have H18:=Lib.hid (H18.out.below hB);have H19:=Lib.hid (H19.out.below hB);have HBW:=Lib.hid (join HBW.out hB);clear k0 k1 k2 k3 k4 k5 k6 k7 k8 y0;clear hB;obtain ⟨k0,k1,k2⟩:=blk3 HLW.out.prm;obtain ⟨k3,k4,k5⟩:=blk3 HLW.out.x7;obtain ⟨k6,k7,k8⟩:=blk3 HLW.out.x8;have y0:=blk_cells HSB.out 0 _ rfl;go_wp2_with fail
    refine (CRI.out p8 q8 a8 b8 _ HLW.out.r8).mono ?_;rintro e w2 ⟨v20,xs20,rfl,ho,he20,hB⟩;have HSB:=Lib.hid ((hB.block _ (Array.getElem?_eq_some_iff.1 HSB.out).1).trans HSB.out);have HLW:=Lib.hid (HLW.out.below hB);have H18:=Lib.hid (H18.out.below hB);have H19:=Lib.hid (H19.out.below hB);have HBW:=Lib.hid (join HBW.out hB);obtain ⟨p20,c20,rfl,H20⟩:=LLs.of_own ho he20;have H20:=Lib.hid H20;clear k0 k1 k2 k3 k4 k5 k6 k7 k8 y0;clear hB ho he20;obtain ⟨k0,k1,k2⟩:=blk3 HLW.out.prm;obtain ⟨k3,k4,k5⟩:=blk3 HLW.out.x7;obtain ⟨k6,k7,k8⟩:=blk3 HLW.out.x8;have y0:=blk_cells HSB.out 0 _ rfl;go_wp2_with fail
    refine (CRS.out p8 q8 p20 a8 b8 c20 _ HLW.out.r8 H20.out).mono ?_;rintro e w2 ⟨v21,xs21,rfl,ho,he21,hB⟩;have HSB:=Lib.hid ((hB.block _ (Array.getElem?_eq_some_iff.1 HSB.out).1).trans HSB.out);have HLW:=Lib.hid (HLW.out.below hB);have H18:=Lib.hid (H18.out.below hB);have H19:=Lib.hid (H19.out.below hB);have H20:=Lib.hid (H20.out.below hB);have HBW:=Lib.hid (join HBW.out hB);obtain ⟨p21,c21,rfl,H21⟩:=LLs.of_own ho he21;have H21:=Lib.hid H21;clear k0 k1 k2 k3 k4 k5 k6 k7 k8 y0;clear hB ho he21;obtain ⟨k0,k1,k2⟩:=blk3 HLW.out.prm;obtain ⟨k3,k4,k5⟩:=blk3 HLW.out.x7;obtain ⟨k6,k7,k8⟩:=blk3 HLW.out.x8;have y0:=blk_cells HSB.out 0 _ rfl;go_wp2_with fail
    refine (CRF.out p20 c20 _ H20.out).mono ?_;rintro e w3 ⟨rfl,hw3⟩;subst hw3;clear k0 k1 k2 k3 k4 k5 k6 k7 k8 y0;obtain ⟨k0,k1,k2⟩:=blk3 HLW.out.prm;obtain ⟨k3,k4,k5⟩:=blk3 HLW.out.x7;obtain ⟨k6,k7,k8⟩:=blk3 HLW.out.x8;have y0:=blk_cells HSB.out 0 _ rfl;go_wp2_with fail
    refine (CRE.out p8 q8 p20 a8 b8 c20 _ HLW.out.r8 H20.out).mono ?_;rintro e w2 ⟨rfl,hB⟩;have HSB:=Lib.hid ((hB.block _ (Array.getElem?_eq_some_iff.1 HSB.out).1).trans HSB.out);have HLW:=Lib.hid (HLW.out.below hB);have H18:=Lib.hid (H18.out.below hB);have H19:=Lib.hid (H19.out.below hB);have H20:=Lib.hid (H20.out.below hB);have H21:=Lib.hid (H21.out.below hB);have HBW:=Lib.hid (join HBW.out hB);clear k0 k1 k2 k3 k4 k5 k6 k7 k8 y0;clear hB;obtain ⟨k0,k1,k2⟩:=blk3 HLW.out.prm;obtain ⟨k3,k4,k5⟩:=blk3 HLW.out.x7;obtain ⟨k6,k7,k8⟩:=blk3 HLW.out.x8;have y0:=blk_cells HSB.out 0 _ rfl;go_wp2_with fail
    refine (CRG.out p21 c21 _ H21.out).mono ?_;rintro e w3 ⟨rfl,hw3⟩;subst hw3;clear k0 k1 k2 k3 k4 k5 k6 k7 k8 y0;obtain ⟨k0,k1,k2⟩:=blk3 HLW.out.prm;obtain ⟨k3,k4,k5⟩:=blk3 HLW.out.x7;obtain ⟨k6,k7,k8⟩:=blk3 HLW.out.x8;have y0:=blk_cells HSB.out 0 _ rfl;go_wp2_with fail
    refine (same_yes t hl1 hl2 p7 q7 pw pt a7 b7 cw ct _ HLW.out.r7 HLW.out.r0).mono ?_;rintro e w2 ⟨rfl,hB⟩;have HSB:=Lib.hid ((hB.block _ (Array.getElem?_eq_some_iff.1 HSB.out).1).trans HSB.out);have HLW:=Lib.hid (HLW.out.below hB);have H18:=Lib.hid (H18.out.below hB);have H19:=Lib.hid (H19.out.below hB);have H20:=Lib.hid (H20.out.below hB);have H21:=Lib.hid (H21.out.below hB);have HBW:=Lib.hid (join HBW.out hB);clear k0 k1 k2 k3 k4 k5 k6 k7 k8 y0;clear hB;obtain ⟨k0,k1,k2⟩:=blk3 HLW.out.prm;obtain ⟨k3,k4,k5⟩:=blk3 HLW.out.x7;obtain ⟨k6,k7,k8⟩:=blk3 HLW.out.x8;have y0:=blk_cells HSB.out 0 _ rfl;go_wp2_with fail
    refine (awake_any _).mono ?_;rintro e w10 ⟨rfl,hB10⟩;have HBW:=Lib.hid (join HBW.out hB10);clear hB10;go_wp2;go_ret;exact ⟨rfl,HBW.out⟩
   have hBn:B≠0:=by omega
   rw [if_neg hBn] at hee CRF;subst hee;have hew:=hew hBn;have heo:=heo hBn;have CRL:=CRL hBn;rw [heo] at CRL;generalize wrongR t el=wr at CRW hew;obtain ⟨wa,wb,wc⟩:=wr;dsimp only at CRW hew;subst hew;clear heo hcb hBn hB0;rcases Nat.eq_zero_or_pos sl.length with hC0 | hC0
   ·rw [if_pos hC0] at hfe CRG;subst hfe;clear CCF hsm hC0;obtain ⟨k0,k1,k2⟩:=blk3 HLW.out.prm;obtain ⟨k3,k4,k5⟩:=blk3 HLW.out.x7;obtain ⟨k6,k7,k8⟩:=blk3 HLW.out.x8;go_wp2_with fail
    refine (CEV.out p7 q7 a7 b7 ⟨hcw.1,hcw.2⟩ _ HLW.out.r7).mono ?_;rintro e w2 ⟨v18,rfl,ho,hB⟩;have HLW:=Lib.hid (HLW.out.below hB);have HBW:=Lib.hid (join HBW.out hB);obtain ⟨p18,c18,rfl,H18,-⟩:=own_rd ho rfl;have H18:=Lib.hid H18;clear k0 k1 k2 k3 k4 k5 k6 k7 k8;clear hB ho;obtain ⟨k0,k1,k2⟩:=blk3 HLW.out.prm;obtain ⟨k3,k4,k5⟩:=blk3 HLW.out.x7;obtain ⟨k6,k7,k8⟩:=blk3 HLW.out.x8;go_wp2_with fail
    refine (CSU.out p7 q7 a7 b7 ⟨hcw.1,hcw.2⟩ _ HLW.out.r7).mono ?_;rintro e w2 ⟨v19,rfl,ho,hB⟩;have HLW:=Lib.hid (HLW.out.below hB);have H18:=Lib.hid (H18.out.below hB);have HBW:=Lib.hid (join HBW.out hB);obtain ⟨p19,c19,rfl,H19,-⟩:=own_rd ho rfl;have H19:=Lib.hid H19;clear k0 k1 k2 k3 k4 k5 k6 k7 k8;clear hB ho;have HSB:=Lib.hid (heap_last w2 (.cells #[.slice p19 sl.length c19] 34));have hB:=below1 w2 (.cells #[.slice p19 sl.length c19] 34);have HLW:=Lib.hid (HLW.out.below hB);have H18:=Lib.hid (H18.out.below hB);have H19:=Lib.hid (H19.out.below hB);have HBW:=Lib.hid (join HBW.out hB);clear hB;obtain ⟨k0,k1,k2⟩:=blk3 HLW.out.prm;obtain ⟨k3,k4,k5⟩:=blk3 HLW.out.x7;obtain ⟨k6,k7,k8⟩:=blk3 HLW.out.x8;have y0:=blk_cells HSB.out 0 _ rfl;go_wp2_with fail
    refine (CCK.out p8 q8 a8 b8 _ HLW.out.r8).mono ?_;rintro e w2 ⟨rfl,hB⟩;have HSB:=Lib.hid ((hB.block _ (Array.getElem?_eq_some_iff.1 HSB.out).1).trans HSB.out);have HLW:=Lib.hid (HLW.out.below hB);have H18:=Lib.hid (H18.out.below hB);have H19:=Lib.hid (H19.out.below hB);have HBW:=Lib.hid (join HBW.out hB);clear k0 k1 k2 k3 k4 k5 k6 k7 k8 y0;clear hB;obtain ⟨k0,k1,k2⟩:=blk3 HLW.out.prm;obtain ⟨k3,k4,k5⟩:=blk3 HLW.out.x7;obtain ⟨k6,k7,k8⟩:=blk3 HLW.out.x8;have y0:=blk_cells HSB.out 0 _ rfl;go_wp2_with fail
    refine (CRI.out p8 q8 a8 b8 _ HLW.out.r8).mono ?_;rintro e w2 ⟨v20,xs20,rfl,ho,he20,hB⟩;have HSB:=Lib.hid ((hB.block _ (Array.getElem?_eq_some_iff.1 HSB.out).1).trans HSB.out);have HLW:=Lib.hid (HLW.out.below hB);have H18:=Lib.hid (H18.out.below hB);have H19:=Lib.hid (H19.out.below hB);have HBW:=Lib.hid (join HBW.out hB);obtain ⟨p20,c20,rfl,H20⟩:=LLs.of_own ho he20;have H20:=Lib.hid H20;clear k0 k1 k2 k3 k4 k5 k6 k7 k8 y0;clear hB ho he20;obtain ⟨k0,k1,k2⟩:=blk3 HLW.out.prm;obtain ⟨k3,k4,k5⟩:=blk3 HLW.out.x7;obtain ⟨k6,k7,k8⟩:=blk3 HLW.out.x8;have y0:=blk_cells HSB.out 0 _ rfl;go_wp2_with fail
    refine (CRS.out p8 q8 p20 a8 b8 c20 _ HLW.out.r8 H20.out).mono ?_;rintro e w2 ⟨v21,xs21,rfl,ho,he21,hB⟩;have HSB:=Lib.hid ((hB.block _ (Array.getElem?_eq_some_iff.1 HSB.out).1).trans HSB.out);have HLW:=Lib.hid (HLW.out.below hB);have H18:=Lib.hid (H18.out.below hB);have H19:=Lib.hid (H19.out.below hB);have H20:=Lib.hid (H20.out.below hB);have HBW:=Lib.hid (join HBW.out hB);obtain ⟨p21,c21,rfl,H21⟩:=LLs.of_own ho he21;have H21:=Lib.hid H21;clear k0 k1 k2 k3 k4 k5 k6 k7 k8 y0;clear hB ho he21;obtain ⟨k0,k1,k2⟩:=blk3 HLW.out.prm;obtain ⟨k3,k4,k5⟩:=blk3 HLW.out.x7;obtain ⟨k6,k7,k8⟩:=blk3 HLW.out.x8;have y0:=blk_cells HSB.out 0 _ rfl;go_wp2_with fail
    refine (CRF.out p20 c20 _ H20.out).mono ?_;rintro e w3 ⟨rfl,hw3⟩;subst hw3;clear k0 k1 k2 k3 k4 k5 k6 k7 k8 y0;obtain ⟨k0,k1,k2⟩:=blk3 HLW.out.prm;obtain ⟨k3,k4,k5⟩:=blk3 HLW.out.x7;obtain ⟨k6,k7,k8⟩:=blk3 HLW.out.x8;have y0:=blk_cells HSB.out 0 _ rfl;go_wp2_with fail
    refine (CRE.out p8 q8 p20 a8 b8 c20 _ HLW.out.r8 H20.out).mono ?_;rintro e w2 ⟨rfl,hB⟩;have HSB:=Lib.hid ((hB.block _ (Array.getElem?_eq_some_iff.1 HSB.out).1).trans HSB.out);have HLW:=Lib.hid (HLW.out.below hB);have H18:=Lib.hid (H18.out.below hB);have H19:=Lib.hid (H19.out.below hB);have H20:=Lib.hid (H20.out.below hB);have H21:=Lib.hid (H21.out.below hB);have HBW:=Lib.hid (join HBW.out hB);clear k0 k1 k2 k3 k4 k5 k6 k7 k8 y0;clear hB;obtain ⟨k0,k1,k2⟩:=blk3 HLW.out.prm;obtain ⟨k3,k4,k5⟩:=blk3 HLW.out.x7;obtain ⟨k6,k7,k8⟩:=blk3 HLW.out.x8;have y0:=blk_cells HSB.out 0 _ rfl;go_wp2_with fail
    refine (CRG.out p21 c21 _ H21.out).mono ?_;rintro e w3 ⟨rfl,hw3⟩;subst hw3;clear k0 k1 k2 k3 k4 k5 k6 k7 k8 y0;obtain ⟨k0,k1,k2⟩:=blk3 HLW.out.prm;obtain ⟨k3,k4,k5⟩:=blk3 HLW.out.x7;obtain ⟨k6,k7,k8⟩:=blk3 HLW.out.x8;have y0:=blk_cells HSB.out 0 _ rfl;go_wp2_with fail
    refine (CRW.out p8 q8 p18 a8 b8 c18 _ HLW.out.r8 H18.out).mono ?_;rintro e w2 ⟨rfl,hB⟩;have HSB:=Lib.hid ((hB.block _ (Array.getElem?_eq_some_iff.1 HSB.out).1).trans HSB.out);have HLW:=Lib.hid (HLW.out.below hB);have H18:=Lib.hid (H18.out.below hB);have H19:=Lib.hid (H19.out.below hB);have H20:=Lib.hid (H20.out.below hB);have H21:=Lib.hid (H21.out.below hB);have HBW:=Lib.hid (join HBW.out hB);clear k0 k1 k2 k3 k4 k5 k6 k7 k8 y0;clear hB;obtain ⟨k0,k1,k2⟩:=blk3 HLW.out.prm;obtain ⟨k3,k4,k5⟩:=blk3 HLW.out.x7;obtain ⟨k6,k7,k8⟩:=blk3 HLW.out.x8;have y0:=blk_cells HSB.out 0 _ rfl;go_wp2_with fail
    refine (CRL.out p8 p18 a8 c18 _ _ _ HLW.out.r8.words H18.out).mono ?_;rintro e w2 ⟨rfl,hB⟩;have HSB:=Lib.hid ((hB.block _ (Array.getElem?_eq_some_iff.1 HSB.out).1).trans HSB.out);have HLW:=Lib.hid (HLW.out.below hB);have H18:=Lib.hid (H18.out.below hB);have H19:=Lib.hid (H19.out.below hB);have H20:=Lib.hid (H20.out.below hB);have H21:=Lib.hid (H21.out.below hB);have HBW:=Lib.hid (join HBW.out hB);clear k0 k1 k2 k3 k4 k5 k6 k7 k8 y0;clear hB;obtain ⟨k0,k1,k2⟩:=blk3 HLW.out.prm;obtain ⟨k3,k4,k5⟩:=blk3 HLW.out.x7;obtain ⟨k6,k7,k8⟩:=blk3 HLW.out.x8;have y0:=blk_cells HSB.out 0 _ rfl;go_wp2_with fail
    refine (same_yes t hl1 hl2 p7 q7 pw pt a7 b7 cw ct _ HLW.out.r7 HLW.out.r0).mono ?_;rintro e w2 ⟨rfl,hB⟩;have HSB:=Lib.hid ((hB.block _ (Array.getElem?_eq_some_iff.1 HSB.out).1).trans HSB.out);have HLW:=Lib.hid (HLW.out.below hB);have H18:=Lib.hid (H18.out.below hB);have H19:=Lib.hid (H19.out.below hB);have H20:=Lib.hid (H20.out.below hB);have H21:=Lib.hid (H21.out.below hB);have HBW:=Lib.hid (join HBW.out hB);clear k0 k1 k2 k3 k4 k5 k6 k7 k8 y0;clear hB;obtain ⟨k0,k1,k2⟩:=blk3 HLW.out.prm;obtain ⟨k3,k4,k5⟩:=blk3 HLW.out.x7;obtain ⟨k6,k7,k8⟩:=blk3 HLW.out.x8;have y0:=blk_cells HSB.out 0 _ rfl;go_wp2_with fail
    refine (awake_any _).mono ?_;rintro e w10 ⟨rfl,hB10⟩;have HBW:=Lib.hid (join HBW.out hB10);clear hB10;go_wp2;go_ret;exact ⟨rfl,HBW.out⟩
   ·have hCn:sl.length≠0:=by omega
    rw [if_neg hCn] at hfe CRG;subst hfe;have hany:(S.any fun k=>decide (k=sl))=true:=List.any_eq_true.2 ⟨sl,hsm hCn,by simp⟩;rw [hany] at CCF;clear hany hsm hCn hC0;obtain ⟨k0,k1,k2⟩:=blk3 HLW.out.prm;obtain ⟨k3,k4,k5⟩:=blk3 HLW.out.x7;obtain ⟨k6,k7,k8⟩:=blk3 HLW.out.x8;go_wp2_with fail
    refine (CEV.out p7 q7 a7 b7 ⟨hcw.1,hcw.2⟩ _ HLW.out.r7).mono ?_;rintro e w2 ⟨v18,rfl,ho,hB⟩;have HLW:=Lib.hid (HLW.out.below hB);have HBW:=Lib.hid (join HBW.out hB);obtain ⟨p18,c18,rfl,H18,-⟩:=own_rd ho rfl;have H18:=Lib.hid H18;clear k0 k1 k2 k3 k4 k5 k6 k7 k8;clear hB ho;obtain ⟨k0,k1,k2⟩:=blk3 HLW.out.prm;obtain ⟨k3,k4,k5⟩:=blk3 HLW.out.x7;obtain ⟨k6,k7,k8⟩:=blk3 HLW.out.x8;go_wp2_with fail
    refine (CSU.out p7 q7 a7 b7 ⟨hcw.1,hcw.2⟩ _ HLW.out.r7).mono ?_;rintro e w2 ⟨v19,rfl,ho,hB⟩;have HLW:=Lib.hid (HLW.out.below hB);have H18:=Lib.hid (H18.out.below hB);have HBW:=Lib.hid (join HBW.out hB);obtain ⟨p19,c19,rfl,H19,-⟩:=own_rd ho rfl;have H19:=Lib.hid H19;clear k0 k1 k2 k3 k4 k5 k6 k7 k8;clear hB ho;have HSB:=Lib.hid (heap_last w2 (.cells #[.slice p19 sl.length c19] 34));have hB:=below1 w2 (.cells #[.slice p19 sl.length c19] 34);have HLW:=Lib.hid (HLW.out.below hB);have H18:=Lib.hid (H18.out.below hB);have H19:=Lib.hid (H19.out.below hB);have HBW:=Lib.hid (join HBW.out hB);clear hB;obtain ⟨k0,k1,k2⟩:=blk3 HLW.out.prm;obtain ⟨k3,k4,k5⟩:=blk3 HLW.out.x7;obtain ⟨k6,k7,k8⟩:=blk3 HLW.out.x8;have y0:=blk_cells HSB.out 0 _ rfl;go_wp2_with fail
    refine (CCK.out p8 q8 a8 b8 _ HLW.out.r8).mono ?_;rintro e w2 ⟨rfl,hB⟩;have HSB:=Lib.hid ((hB.block _ (Array.getElem?_eq_some_iff.1 HSB.out).1).trans HSB.out);have HLW:=Lib.hid (HLW.out.below hB);have H18:=Lib.hid (H18.out.below hB);have H19:=Lib.hid (H19.out.below hB);have HBW:=Lib.hid (join HBW.out hB);clear k0 k1 k2 k3 k4 k5 k6 k7 k8 y0;clear hB;obtain ⟨k0,k1,k2⟩:=blk3 HLW.out.prm;obtain ⟨k3,k4,k5⟩:=blk3 HLW.out.x7;obtain ⟨k6,k7,k8⟩:=blk3 HLW.out.x8;have y0:=blk_cells HSB.out 0 _ rfl;go_wp2_with fail
    refine (CRI.out p8 q8 a8 b8 _ HLW.out.r8).mono ?_;rintro e w2 ⟨v20,xs20,rfl,ho,he20,hB⟩;have HSB:=Lib.hid ((hB.block _ (Array.getElem?_eq_some_iff.1 HSB.out).1).trans HSB.out);have HLW:=Lib.hid (HLW.out.below hB);have H18:=Lib.hid (H18.out.below hB);have H19:=Lib.hid (H19.out.below hB);have HBW:=Lib.hid (join HBW.out hB);obtain ⟨p20,c20,rfl,H20⟩:=LLs.of_own ho he20;have H20:=Lib.hid H20;clear k0 k1 k2 k3 k4 k5 k6 k7 k8 y0;clear hB ho he20;obtain ⟨k0,k1,k2⟩:=blk3 HLW.out.prm;obtain ⟨k3,k4,k5⟩:=blk3 HLW.out.x7;obtain ⟨k6,k7,k8⟩:=blk3 HLW.out.x8;have y0:=blk_cells HSB.out 0 _ rfl;go_wp2_with fail
    refine (CRS.out p8 q8 p20 a8 b8 c20 _ HLW.out.r8 H20.out).mono ?_;rintro e w2 ⟨v21,xs21,rfl,ho,he21,hB⟩;have HSB:=Lib.hid ((hB.block _ (Array.getElem?_eq_some_iff.1 HSB.out).1).trans HSB.out);have HLW:=Lib.hid (HLW.out.below hB);have H18:=Lib.hid (H18.out.below hB);have H19:=Lib.hid (H19.out.below hB);have H20:=Lib.hid (H20.out.below hB);have HBW:=Lib.hid (join HBW.out hB);obtain ⟨p21,c21,rfl,H21⟩:=LLs.of_own ho he21;have H21:=Lib.hid H21;clear k0 k1 k2 k3 k4 k5 k6 k7 k8 y0;clear hB ho he21;obtain ⟨k0,k1,k2⟩:=blk3 HLW.out.prm;obtain ⟨k3,k4,k5⟩:=blk3 HLW.out.x7;obtain ⟨k6,k7,k8⟩:=blk3 HLW.out.x8;have y0:=blk_cells HSB.out 0 _ rfl;go_wp2_with fail
    refine (CRF.out p20 c20 _ H20.out).mono ?_;rintro e w3 ⟨rfl,hw3⟩;subst hw3;clear k0 k1 k2 k3 k4 k5 k6 k7 k8 y0;obtain ⟨k0,k1,k2⟩:=blk3 HLW.out.prm;obtain ⟨k3,k4,k5⟩:=blk3 HLW.out.x7;obtain ⟨k6,k7,k8⟩:=blk3 HLW.out.x8;have y0:=blk_cells HSB.out 0 _ rfl;go_wp2_with fail
    refine (CRE.out p8 q8 p20 a8 b8 c20 _ HLW.out.r8 H20.out).mono ?_;rintro e w2 ⟨rfl,hB⟩;have HSB:=Lib.hid ((hB.block _ (Array.getElem?_eq_some_iff.1 HSB.out).1).trans HSB.out);have HLW:=Lib.hid (HLW.out.below hB);have H18:=Lib.hid (H18.out.below hB);have H19:=Lib.hid (H19.out.below hB);have H20:=Lib.hid (H20.out.below hB);have H21:=Lib.hid (H21.out.below hB);have HBW:=Lib.hid (join HBW.out hB);clear k0 k1 k2 k3 k4 k5 k6 k7 k8 y0;clear hB;obtain ⟨k0,k1,k2⟩:=blk3 HLW.out.prm;obtain ⟨k3,k4,k5⟩:=blk3 HLW.out.x7;obtain ⟨k6,k7,k8⟩:=blk3 HLW.out.x8;have y0:=blk_cells HSB.out 0 _ rfl;go_wp2_with fail
    refine (CRG.out p21 c21 _ H21.out).mono ?_;rintro e w3 ⟨rfl,hw3⟩;subst hw3;clear k0 k1 k2 k3 k4 k5 k6 k7 k8 y0;obtain ⟨k0,k1,k2⟩:=blk3 HLW.out.prm;obtain ⟨k3,k4,k5⟩:=blk3 HLW.out.x7;obtain ⟨k6,k7,k8⟩:=blk3 HLW.out.x8;have y0:=blk_cells HSB.out 0 _ rfl;go_wp2_with fail
    refine (CRW.out p8 q8 p18 a8 b8 c18 _ HLW.out.r8 H18.out).mono ?_;rintro e w2 ⟨rfl,hB⟩;have HSB:=Lib.hid ((hB.block _ (Array.getElem?_eq_some_iff.1 HSB.out).1).trans HSB.out);have HLW:=Lib.hid (HLW.out.below hB);have H18:=Lib.hid (H18.out.below hB);have H19:=Lib.hid (H19.out.below hB);have H20:=Lib.hid (H20.out.below hB);have H21:=Lib.hid (H21.out.below hB);have HBW:=Lib.hid (join HBW.out hB);clear k0 k1 k2 k3 k4 k5 k6 k7 k8 y0;clear hB;obtain ⟨k0,k1,k2⟩:=blk3 HLW.out.prm;obtain ⟨k3,k4,k5⟩:=blk3 HLW.out.x7;obtain ⟨k6,k7,k8⟩:=blk3 HLW.out.x8;have y0:=blk_cells HSB.out 0 _ rfl;go_wp2_with fail
    refine (CRL.out p8 p18 a8 c18 _ _ _ HLW.out.r8.words H18.out).mono ?_;rintro e w2 ⟨rfl,hB⟩;have HSB:=Lib.hid ((hB.block _ (Array.getElem?_eq_some_iff.1 HSB.out).1).trans HSB.out);have HLW:=Lib.hid (HLW.out.below hB);have H18:=Lib.hid (H18.out.below hB);have H19:=Lib.hid (H19.out.below hB);have H20:=Lib.hid (H20.out.below hB);have H21:=Lib.hid (H21.out.below hB);have HBW:=Lib.hid (join HBW.out hB);clear k0 k1 k2 k3 k4 k5 k6 k7 k8 y0;clear hB;obtain ⟨k0,k1,k2⟩:=blk3 HLW.out.prm;obtain ⟨k3,k4,k5⟩:=blk3 HLW.out.x7;obtain ⟨k6,k7,k8⟩:=blk3 HLW.out.x8;have y0:=blk_cells HSB.out 0 _ rfl;go_wp2_with fail
    refine (CCF.out _ p19 c19 p21 c21 _ HSB.out H19.out H21.out).mono ?_;rintro e w2 ⟨rfl,hB⟩;have HSB:=Lib.hid ((hB.block _ (Array.getElem?_eq_some_iff.1 HSB.out).1).trans HSB.out);have HLW:=Lib.hid (HLW.out.below hB);have H18:=Lib.hid (H18.out.below hB);have H19:=Lib.hid (H19.out.below hB);have H20:=Lib.hid (H20.out.below hB);have H21:=Lib.hid (H21.out.below hB);have HBW:=Lib.hid (join HBW.out hB);clear k0 k1 k2 k3 k4 k5 k6 k7 k8 y0;clear hB;obtain ⟨k0,k1,k2⟩:=blk3 HLW.out.prm;obtain ⟨k3,k4,k5⟩:=blk3 HLW.out.x7;obtain ⟨k6,k7,k8⟩:=blk3 HLW.out.x8;have y0:=blk_cells HSB.out 0 _ rfl;go_wp2_with fail
    refine (same_yes t hl1 hl2 p7 q7 pw pt a7 b7 cw ct _ HLW.out.r7 HLW.out.r0).mono ?_;rintro e w2 ⟨rfl,hB⟩;have HSB:=Lib.hid ((hB.block _ (Array.getElem?_eq_some_iff.1 HSB.out).1).trans HSB.out);have HLW:=Lib.hid (HLW.out.below hB);have H18:=Lib.hid (H18.out.below hB);have H19:=Lib.hid (H19.out.below hB);have H20:=Lib.hid (H20.out.below hB);have H21:=Lib.hid (H21.out.below hB);have HBW:=Lib.hid (join HBW.out hB);clear k0 k1 k2 k3 k4 k5 k6 k7 k8 y0;clear hB;obtain ⟨k0,k1,k2⟩:=blk3 HLW.out.prm;obtain ⟨k3,k4,k5⟩:=blk3 HLW.out.x7;obtain ⟨k6,k7,k8⟩:=blk3 HLW.out.x8;have y0:=blk_cells HSB.out 0 _ rfl;go_wp2_with fail
    refine (awake_any _).mono ?_;rintro e w10 ⟨rfl,hB10⟩;have HBW:=Lib.hid (join HBW.out hB10);clear hB10;go_wp2;go_ret;exact ⟨rfl,HBW.out⟩
end Go.Proofs.YtadnggecnjdhiaaGreat
namespace Go.Proofs.YtadnggecnjdhiaaGreat
open Go.RowKit Tx
def kdV:Value→Nat
 | .int .i64 _=>0
 | .bool _=>1
 | _=>2
theorem kd_int {v:Value} (h:kdV v=0):∃ z,v=.int .i64 z:=by
 unfold kdV at h;split at h
 ·exact ⟨_,rfl⟩
 ·cases h
 ·cases h
theorem kd_bool {v:Value} (h:kdV v=1):∃ z,v=.bool z:=by
 unfold kdV at h;split at h
 ·cases h
 ·exact ⟨_,rfl⟩
 ·cases h
def Sh (W:World) (b:Nat) (T:TypeId) (ks:List Nat):Prop:=∃ cs:Array Value,W.heap[b]?=some (.cells cs T (0,0))∧cs.toList.map kdV=ks
theorem Sh.below {W W':World} {b:Nat} {T:TypeId} {ks:List Nat} (h:Sh W b T ks) (hb:Below W.heap.size W W'):Sh W' b T ks:=by
 obtain ⟨cs,h1,h2⟩:=h;exact ⟨cs,(hb.block b (Array.getElem?_eq_some_iff.1 h1).1).trans h1,h2⟩
theorem Sh.set {W:World} {b k o:Nat} {T:TypeId} {ks:List Nat} (h:Sh W k T ks) (z:Int) (hk:k=b→ks[o]?=some 0):Sh (W.setCell ⟨b,o,none⟩ (.int .i64 z)) k T ks:=by
 obtain ⟨cs,h1,h2⟩:=h;by_cases e:k=b
 ·subst e;refine ⟨_,heap_set_same _ h1,?_⟩;rw [Array.toList_setIfInBounds,List.map_set,h2];have h3:=hk rfl;have h4:kdV (.int .i64 z)=0:=rfl;rw [h4];exact List.ext_getElem? fun i=>by
   rw [List.getElem?_set];split
   ·rename_i e;subst e;rw [h3];split <;> simp_all
   ·rfl
 ·exact ⟨cs,(Below.heap_setCell _ _ _ _ e).trans h1,h2⟩
theorem Sh.at {W:World} {b o:Nat} {T:TypeId} {ks:List Nat} (h:Sh W b T ks) (q:Nat) (hk:ks[o]?=some q):∃ v,kdV v=q∧W.cell? ⟨b,o,none⟩=some v∧W.frozen? ⟨b,o,none⟩=false:=by
 obtain ⟨cs,h1,h2⟩:=h;rw [← h2,List.getElem?_map] at hk;cases hc:cs.toList[o]? with
 | none=>rw [hc] at hk;cases hk
 | some v =>
  rw [hc] at hk;injection hk with hk;exact ⟨v,hk,blk_cells h1 o v (by simpa using hc),by simp [World.frozen?,h1]⟩
theorem Sh.ints {W:World} {b:Nat} {T:TypeId} {n:Nat} (h:Sh W b T (List.replicate n 0)):∃ l:List Int,l.length=n∧Ints W (some ⟨b,0,none⟩) l:=by
 have hlt:b<W.heap.size:=by obtain ⟨cs,h1,_⟩:=h;exact (Array.getElem?_eq_some_iff.1 h1).1
 refine ⟨(List.range n).map fun i=>intOf ((W.cell? ⟨b,i,none⟩).getD undef),by simp,.inr ⟨b,0,rfl,hlt,fun i hi=>?_⟩⟩;have hi':i<n:=by simpa using hi
 obtain ⟨v,h1,h2,-⟩:=h.at (o:=i) 0 (by simp [hi']);obtain ⟨z,rfl⟩:=kd_int h1;rw [Nat.zero_add,h2];simp [hi',h2,intOf]
theorem Sh.one {W:World} {b:Nat} {T:TypeId} (h:Sh W b T [0]):∃ z,W.heap[b]?=some (.cells #[.int .i64 z] T (0,0)):=by
 obtain ⟨cs,h1,h2⟩:=h;obtain ⟨l⟩:=cs
 match l,h2,h1 with
 | [a],h2,h1 =>
  injection h2 with h3 _;obtain ⟨z,rfl⟩:=kd_int h3;exact ⟨z,h1⟩
 | [],h2,_=>cases h2
 | _::_::_,h2,_=>simp at h2
theorem Sh.two {W:World} {b:Nat} {T:TypeId} (h:Sh W b T [0,0]):∃ x y,W.heap[b]?=some (.cells #[.int .i64 x,.int .i64 y] T (0,0)):=by
 obtain ⟨cs,h1,h2⟩:=h;obtain ⟨l⟩:=cs
 match l,h2,h1 with
 | [a,c],h2,h1 =>
  injection h2 with h3 h4;injection h4 with h4 _;obtain ⟨x,rfl⟩:=kd_int h3;obtain ⟨y,rfl⟩:=kd_int h4;exact ⟨x,y,h1⟩
 | [],h2,_=>cases h2
 | [_],h2,_=>simp at h2
 | _::_::_::_,h2,_=>simp at h2
def ks8:List Nat:=[0,0,1,0,0,1,0,0,1,0,0,1,0,0,1,0,0,1,0,0,1,0,0,1]
def boolOf:Value→Bool
 | .bool b=>b
 | _=>false
theorem Sh.words {W:World} {b:Nat} {T:TypeId} (h:Sh W b T ks8):∃ l:List Word,l.length=8∧Wds W (some ⟨b,0,none⟩) l:=by
 have hlt:b<W.heap.size:=by obtain ⟨cs,h1,_⟩:=h;exact (Array.getElem?_eq_some_iff.1 h1).1
 have hc:=fun o=>(W.cell? ⟨b,o,none⟩).getD undef;refine ⟨(List.range 8).map fun i=>⟨intOf ((W.cell? ⟨b,i*3,none⟩).getD undef),intOf ((W.cell? ⟨b,i*3+1,none⟩).getD undef),boolOf ((W.cell? ⟨b,i*3+2,none⟩).getD undef)⟩,by simp,.inr ⟨b,0,rfl,hlt,fun i hi=>?_⟩⟩;have hi':i<8:=by simpa using hi
 obtain ⟨k0,k1,k2⟩:ks8[i*3]?=some 0∧ks8[i*3+1]?=some 0∧ks8[i*3+2]?=some 1:=by
  have:i=0∨i=1∨i=2∨i=3∨i=4∨i=5∨i=6∨i=7:=by omega
  rcases this with rfl | rfl | rfl | rfl | rfl | rfl | rfl | rfl <;> exact ⟨rfl,rfl,rfl⟩
 obtain ⟨v0,h0,c0,-⟩:=h.at _ k0;obtain ⟨v1,h1,c1,-⟩:=h.at _ k1;obtain ⟨v2,h2,c2,-⟩:=h.at _ k2;obtain ⟨z0,rfl⟩:=kd_int h0;obtain ⟨z1,rfl⟩:=kd_int h1;obtain ⟨z2,rfl⟩:=kd_bool h2;rw [Nat.zero_add,c0,c1,c2];simp [hi',c0,c1,c2,intOf,boolOf]
theorem Sh.turn {W:World} {b:Nat} {T:TypeId} (h:Sh W b T [0,0,0]):∃ l:List Turn,l.length=1∧Tns W (some ⟨b,0,none⟩) l:=by
 have hlt:b<W.heap.size:=by obtain ⟨cs,h1,_⟩:=h;exact (Array.getElem?_eq_some_iff.1 h1).1
 obtain ⟨v0,h0,c0,-⟩:=h.at (o:=0) 0 rfl;obtain ⟨v1,h1,c1,-⟩:=h.at (o:=1) 0 rfl;obtain ⟨v2,h2,c2,-⟩:=h.at (o:=2) 0 rfl;obtain ⟨z0,rfl⟩:=kd_int h0;obtain ⟨z1,rfl⟩:=kd_int h1;obtain ⟨z2,rfl⟩:=kd_int h2;refine ⟨[⟨z0,z1,z2⟩],rfl,.inr ⟨b,0,rfl,hlt,fun i hi=>?_⟩⟩;obtain rfl:i=0:=by simpa using hi
 exact ⟨c0,c1,c2⟩
structure Laid (w0:World) (g u s:Nat) (W:World):Prop where
 lg:w0.heap.size≤g
 gu:g<u
 us:u<s
 sg:Sh W g 61 ks8
 su:Sh W u 63 [0,0,0]
 s5:Sh W s 3 [0,0,0]
 s6:Sh W (s+1) 3 [0,0,0,0,0,0,0,0,0]
 s7:Sh W (s+2) 3 [0,0,0]
 xt:∃ br,W.heap[s+3]?=some (.cells #[.slice (some ⟨g,0,none⟩) 8 8,.slice (some ⟨u,0,none⟩) 1 1,.int .i64 br] 25 (0,0))
 s8:Sh W (s+4) 58 [0,0]
 s9:Sh W (s+5) 3 [0]
 s10:Sh W (s+6) 3 [0]
 bel:Below w0.heap.size w0 W
theorem Laid.below {w0 W W':World} {g u s:Nat} (h:Laid w0 g u s W) (hb:Below W.heap.size W W'):Laid w0 g u s W' :=
 ⟨h.lg,h.gu,h.us,h.sg.below hb,h.su.below hb,h.s5.below hb,h.s6.below hb,h.s7.below hb,by
  obtain ⟨br,hx⟩:=h.xt;exact ⟨br,(hb.block _ (Array.getElem?_eq_some_iff.1 hx).1).trans hx⟩,h.s8.below hb,h.s9.below hb,h.s10.below hb,join h.bel hb⟩
def tsP (g u s:Nat):List (Nat × Nat):=[(s+3,2),(g,9),(g,4),(u,0),(u,1),(u,2),(s,0),(s,2),(s+1,0),(s+1,8),(s+2,0),(s+2,2),(s+4,0),(s+4,1),(s+5,0),(s+6,0)]
def ptr (p:Nat × Nat):Value:=.pointer (some ⟨p.1,p.2,none⟩)
theorem Laid.store {w0 W:World} {g u s:Nat} (h:Laid w0 g u s W) {p:Nat × Nat} (hp:p∈tsP g u s) :
  (∃ z,W.cell? ⟨p.1,p.2,none⟩=some (.int .i64 z))∧W.frozen? ⟨p.1,p.2,none⟩=false∧∀ v,Laid w0 g u s (W.setCell ⟨p.1,p.2,none⟩ (.int .i64 v)):=by
 have o1:=h.lg;have o2:=h.gu;have o3:=h.us;have int1:∀ {b o T ks},Sh W b T ks→ks[o]?=some 0→(∃ z,W.cell? ⟨b,o,none⟩=some (.int .i64 z))∧W.frozen? ⟨b,o,none⟩=false:=fun {b o T ks} hs hk=>by
  obtain ⟨v,h1,h2,h3⟩:=hs.at 0 hk;obtain ⟨z,rfl⟩:=kd_int h1;exact ⟨⟨z,h2⟩,h3⟩
 have key:w0.heap.size≤p.1∧(p.1=s+3→p.2=2)∧(g=p.1→ks8[p.2]?=some 0)∧(u=p.1→[0,0,0][p.2]?=some 0)∧(s=p.1→[0,0,0][p.2]?=some 0)∧(s+1=p.1→[0,0,0,0,0,0,0,0,0][p.2]?=some 0)∧(s+2=p.1→[0,0,0][p.2]?=some 0)∧(s+4=p.1→[0,0][p.2]?=some 0)∧(s+5=p.1→[0][p.2]?=some 0)∧(s+6=p.1→[0][p.2]?=some 0):=by
  simp only [tsP,List.mem_cons,List.not_mem_nil,or_false] at hp;rcases hp with rfl | rfl | rfl | rfl | rfl | rfl | rfl | rfl | rfl | rfl | rfl | rfl | rfl | rfl | rfl | rfl
  all_goals
   dsimp only;refine ⟨by omega,?_,?_,?_,?_,?_,?_,?_,?_,?_⟩ <;> intro e <;> first | rfl | omega
 obtain ⟨hle,kt,kg,ku,k5,k6,k7,k8,k9,k10⟩:=key;refine ⟨?_,?_,fun v=>⟨h.lg,h.gu,h.us,h.sg.set v kg,h.su.set v ku,h.s5.set v k5,h.s6.set v k6,h.s7.set v k7,?_,h.s8.set v k8,h.s9.set v k9,h.s10.set v k10,h.bel.setCell hle _⟩⟩
 ·simp only [tsP,List.mem_cons,List.not_mem_nil,or_false] at hp;rcases hp with rfl | rfl | rfl | rfl | rfl | rfl | rfl | rfl | rfl | rfl | rfl | rfl | rfl | rfl | rfl | rfl
  ·obtain ⟨br,hx⟩:=h.xt;exact ⟨br,blk_cells hx 2 _ rfl⟩
  ·exact (int1 h.sg rfl).1
  ·exact (int1 h.sg rfl).1
  ·exact (int1 h.su rfl).1
  ·exact (int1 h.su rfl).1
  ·exact (int1 h.su rfl).1
  ·exact (int1 h.s5 rfl).1
  ·exact (int1 h.s5 rfl).1
  ·exact (int1 h.s6 rfl).1
  ·exact (int1 h.s6 rfl).1
  ·exact (int1 h.s7 rfl).1
  ·exact (int1 h.s7 rfl).1
  ·exact (int1 h.s8 rfl).1
  ·exact (int1 h.s8 rfl).1
  ·exact (int1 h.s9 rfl).1
  ·exact (int1 h.s10 rfl).1
 ·have fz:∀ {b o T ks},Sh W b T ks→W.frozen? ⟨b,o,none⟩=false:=fun {b o T ks} hs=>by
   obtain ⟨cs,h1,_⟩:=hs;simp [World.frozen?,h1]
  simp only [tsP,List.mem_cons,List.not_mem_nil,or_false] at hp;rcases hp with rfl | rfl | rfl | rfl | rfl | rfl | rfl | rfl | rfl | rfl | rfl | rfl | rfl | rfl | rfl | rfl
  all_goals first | exact fz h.sg | exact fz h.su | exact fz h.s5 | exact fz h.s6 | exact fz h.s7 | exact fz h.s8 | exact fz h.s9 | exact fz h.s10 | (obtain ⟨br,hx⟩:=h.xt;simp [World.frozen?,hx])
 ·obtain ⟨br,hx⟩:=h.xt;by_cases e:s+3=p.1
  ·obtain ⟨p1,p2⟩:=p;dsimp only at e kt ⊢;subst e;obtain rfl:=kt rfl;exact ⟨v,heap_set_same _ hx⟩
  ·exact ⟨br,(Below.heap_setCell _ _ _ _ e).trans hx⟩
theorem Laid.read {w0 W:World} {g u s:Nat} (h:Laid w0 g u s W):∃ (t:Text) (l5 l6 l7:List Int) (lo hi pe we:Int),
  t.words.length=8∧t.turns.length=1∧TxAt W t (some ⟨g,0,none⟩) (some ⟨u,0,none⟩) ∧
  W.heap[s+3]?=some (.cells #[.slice (some ⟨g,0,none⟩) 8 8,.slice (some ⟨u,0,none⟩) 1 1,.int .i64 t.breath] 25 (0,0)) ∧
  l5.length=3∧Ints W (some ⟨s,0,none⟩) l5∧l6.length=9∧Ints W (some ⟨s+1,0,none⟩) l6∧l7.length=3∧Ints W (some ⟨s+2,0,none⟩) l7 ∧
  W.heap[s+4]?=some (.cells #[.int .i64 lo,.int .i64 hi] 58 (0,0))∧W.heap[s+5]?=some (.cells #[.int .i64 pe] 3 (0,0))∧W.heap[s+6]?=some (.cells #[.int .i64 we] 3 (0,0)):=by
 obtain ⟨ws,w1,w2⟩:=h.sg.words;obtain ⟨ts,t1,t2⟩:=h.su.turn;obtain ⟨l5,a1,a2⟩:=Sh.ints (n:=3) h.s5;obtain ⟨l6,b1,b2⟩:=Sh.ints (n:=9) h.s6;obtain ⟨l7,c1,c2⟩:=Sh.ints (n:=3) h.s7;obtain ⟨lo,hi,d⟩:=h.s8.two;obtain ⟨pe,e⟩:=h.s9.one;obtain ⟨we,f⟩:=h.s10.one;obtain ⟨br,x⟩:=h.xt;exact ⟨⟨ws,ts,br⟩,l5,l6,l7,lo,hi,pe,we,w1,t1,⟨w2,t2⟩,x,a1,a2,b1,b2,c1,c2,d,e,f⟩
end Go.Proofs.YtadnggecnjdhiaaGreat
namespace Go.Proofs.YtadnggecnjdhiaaGreat
open Go.RowKit Tx
attribute [local go_sem] Oper.semAt_some
def spLp (t:Text) (pw pt:Option Addr) (cw ct B:Nat) (l:List Int) (pl:Option Addr) (cl:Nat):Nat→List Value→Value→World→Prop
 | 0,_,v,_=>v=.agg #[.slice pw t.words.length cw,.slice pt t.turns.length ct,.int .i64 t.breath]
 | 1,L,v,w=>∃ p q c d,v=.agg #[.slice p t.words.length c,.slice q t.turns.length d,.int .i64 t.breath]∧w.ownsRow B 61 3 (.slice p t.words.length c) t.words.length (wcells t.words)∧w.ownsRow B 63 3 (.slice q t.turns.length d) t.turns.length (tcells t.turns)∧t.words.length≤c∧c≤maxLen
 | 2,_,v,_=>v=.agg #[.slice pw t.words.length cw,.slice pt t.turns.length ct,.int .i64 t.breath]
 | 3,L,v,w=>∃ p q c d,v=.agg #[.slice p t.words.length c,.slice q t.turns.length d,.int .i64 t.breath]∧w.ownsRow B 80 3 (.slice p t.words.length c) t.words.length (wcells t.words)∧w.ownsRow B 81 3 (.slice q t.turns.length d) t.turns.length (tcells t.turns)
 | 4,_,v,_=>v=.slice pl l.length cl
 | 5,L,v,w=>∃ p c,v=.slice p l.length c∧w.ownsRow B 3 1 (.slice p l.length c) l.length (l.map (Value.int .i64))
 | 6,L,v,w=>∃ p,v=.pointer (some ⟨p,0,none⟩)∧B≤p∧w.heap[p]?=some (.cells #[.slice none 0 0,.slice none 0 0,.int .i64 0] 25 (0,0))
 | 7,L,v,w=>∃ p,v=.pointer (some ⟨p,0,none⟩)∧B≤p∧w.heap[p]?=some (.cells #[.slice none 0 0,.slice none 0 0,.int .i64 0] 32 (0,0))
 | _,_,_,_=>False
theorem spLp_stable (t:Text) (pw pt:Option Addr) (cw ct B:Nat) (l:List Int) (pl:Option Addr) (cl:Nat):∀ i L v w w',spLp t pw pt cw ct B l pl cl i L v w→Rs.Gr w w'→spLp t pw pt cw ct B l pl cl i L v w':=by
 intro i L v w w' h hg
 match i with
 | 0=>exact h
 | 1=>obtain ⟨p,q,c,d,h1,h2,h3,h4⟩:=h;exact ⟨p,q,c,d,h1,own_below h2 hg,own_below h3 hg,h4⟩
 | 2=>exact h
 | 3=>obtain ⟨p,q,c,d,h1,h2,h3⟩:=h;exact ⟨p,q,c,d,h1,own_below h2 hg,own_below h3 hg⟩
 | 4=>exact h
 | 5=>obtain ⟨p,c,h1,h2⟩:=h;exact ⟨p,c,h1,own_below h2 hg⟩
 | 6=>obtain ⟨p,h1,h2,h3⟩:=h;exact ⟨p,h1,h2,(hg.block p (Array.getElem?_eq_some_iff.1 h3).1).trans h3⟩
 | 7=>obtain ⟨p,h1,h2,h3⟩:=h;exact ⟨p,h1,h2,(hg.block p (Array.getElem?_eq_some_iff.1 h3).1).trans h3⟩
def spLp4 (t:Text) (c7 c8:Nat) (p7 q7 p8 q8:Option Addr) (a7 b7 a8 b8:Nat) (er:Int):Nat→List Value→Value→World→Prop
 | 0,_,v,_=>v=.agg #[.slice p7 t.words.length a7,.slice q7 t.turns.length b7,.int .i64 t.breath]
 | 1,_,v,_=>v=.int .i64 er
 | 2,_,v,_=>v=.agg #[.slice p8 t.words.length a8,.slice q8 t.turns.length b8,.int .i64 t.breath]
 | 3,_,v,_=>v=.int .i64 er
 | 4,_,v,_=>v=.bool false
 | _,_,_,_=>False
theorem spLp4_stable (t:Text) (c7 c8:Nat) (p7 q7 p8 q8:Option Addr) (a7 b7 a8 b8:Nat) (er:Int):∀ i L v w w',spLp4 t c7 c8 p7 q7 p8 q8 a7 b7 a8 b8 er i L v w→Rs.Gr w w'→spLp4 t c7 c8 p7 q7 p8 q8 a7 b7 a8 b8 er i L v w':=by
 intro i L v w w' h hg
 match i with
 | 0=>exact h
 | 1=>exact h
 | 2=>exact h
 | 3=>exact h
 | 4=>exact h
set_option maxHeartbeats 6000000 in
set_option maxRecDepth 100000 in
theorem TextParts_any (t:Text) (lo hi:Int) (l:List Int) (hm1:t.words.length≤9223372036854775807) (hm2:t.turns.length≤9223372036854775807) (hm3:l.length≤9223372036854775807) (pw pt pl:Option Addr) (cw ct cl:Nat) (w:World) (hW:TxAt w t pw pt) (hL:Ints w pl l) :
  Calls Tryz.prog 23 #[.agg #[.slice pw t.words.length cw,.slice pt t.turns.length ct,.int .i64 t.breath],.agg #[.int .i64 lo,.int .i64 hi],.slice pl l.length cl] w fun e w'=>e=.returned (.bool true)∧Below w.heap.size w w':=by
 have HW:=Lib.hid hW;have HL:=Lib.hid hL;have HB0:=Lib.hid (join (below1 w (.cells #[.slice pw t.words.length cw,.slice pt t.turns.length ct,.int .i64 t.breath] 25)) (below1 _ (.cells #[.int .i64 lo,.int .i64 hi] 58)));have HX0:=Lib.hid (((below1 (w.alloc (.cells #[.slice pw t.words.length cw,.slice pt t.turns.length ct,.int .i64 t.breath] 25)) (.cells #[.int .i64 lo,.int .i64 hi] 58)).block w.heap.size (by simp)).trans (heap_last w _));have hy:=heap_last (w.alloc (.cells #[.slice pw t.words.length cw,.slice pt t.turns.length ct,.int .i64 t.breath] 25)) (.cells #[.int .i64 lo,.int .i64 hi] 58);rw [World.size_alloc] at hy;have HY0:=Lib.hid hy;have HG:=Lib.hid (fun W=>great_any t 20 hm1 hm2 pw pt cw ct W);have HN:=Lib.hid (great_no (t:=t) (n:=20));generalize greatB t 20=gb at HG HN;clear hW hL hy;cases gb with
 | true =>
  obtain ⟨k0,k1,k2⟩:=blk3 HX0.out
  go_enter Tryz.func23,Tryz.ntmps23
  go_wp2_with fail
  refine (HG.out _).mono ?_;rintro e w1 ⟨rfl,hB⟩;have HB1:=Lib.hid (join HB0.out hB);clear hB k0 k1 k2;go_wp2_with fail
  refine (awake_any w1).mono ?_;rintro e w2 ⟨rfl,hB⟩;have HB2:=Lib.hid (join HB1.out hB);clear hB;go_wp2;go_ret;exact ⟨rfl,HB2.out⟩
 | false =>
 have hn:=HN.out rfl;clear HN;by_cases hgt:20<l.length
 ·have hgt':(20:Int)<l.length:=by omega
  obtain ⟨k0,k1,k2⟩:=blk3 HX0.out
  go_enter Tryz.func23,Tryz.ntmps23
  go_wp2_with fail
  refine (HG.out _).mono ?_;rintro e w1 ⟨rfl,hB⟩;have HB1:=Lib.hid (join HB0.out hB);clear hB k0 k1 k2;go_wp2_with fail
  refine (awake_any w1).mono ?_;rintro e w2 ⟨rfl,hB⟩;have HB2:=Lib.hid (join HB1.out hB);clear hB;go_wp2;go_ret;exact ⟨rfl,HB2.out⟩
 ·have hgt':¬ (20:Int)<l.length:=by omega
  have hl1:t.words.length≤1000000:=by omega
  have hl2:t.turns.length≤1000000:=by omega
  have hl3:l.length≤1000000:=by omega
  have hsl:(sayL t lo hi).length≤1000000:=Nat.le_trans (say_len t lo hi) hl2;have CCK:=Lib.hid (fun p q c d W (h:TxAt W t p q)=>Check_any t hl1 hl2 p q c d W h);have CRC:=Lib.hid (fun p q c d W (h:TxAt W t p q)=>rCheck_any t hl1 hl2 p q c d W h);have CSY:=Lib.hid (fun p q c d W (h:TxAt W t p q)=>Says_any t lo hi hl1 hl2 p q c d W h);have CRS:=Lib.hid (fun p q c d W (h:TxAt W t p q)=>rSays_any t lo hi hl1 hl2 p q c d W h);have CWR:=Lib.hid (fun p q r c d e hc W (h:TxAt W t p q) (hL:Ints W r l)=>Wrong_any t l hl1 hl2 hl3 p q r c d e hc W h hL);have CRW:=Lib.hid (fun p q r c d e W (h:TxAt W t p q) (hL:Ints W r l)=>rWrong_any t l hl1 hl2 hl3 p q r c d e W h hL);generalize t.err=er at CCK CRC;generalize sayL t lo hi=sl at hsl CSY CRS;generalize sayE t lo hi=se at CSY CRS;generalize wrongR t l=wr at CWR CRW;obtain ⟨wa,wb,wc⟩:=wr;dsimp only at CWR CRW;obtain ⟨k0,k1,k2⟩:=blk3 HX0.out
  go_enter Tryz.func23,Tryz.ntmps23
  go_wp2_with fail
  refine (HG.out _).mono ?_;rintro e w1 ⟨rfl,hB⟩;have HX1:=Lib.hid ((hB.block w.heap.size (Array.getElem?_eq_some_iff.1 HX0.out).1).trans HX0.out);have HSP:=Lib.hid ((hB.block (w.heap.size+1) (Array.getElem?_eq_some_iff.1 HY0.out).1).trans HY0.out);have HB1:=Lib.hid (join HB0.out hB);have HZ0:w.heap.size<w1.heap.size:=(Array.getElem?_eq_some_iff.1 HX1.out).1;have HZ1:w.heap.size+1<w1.heap.size:=(Array.getElem?_eq_some_iff.1 HSP.out).1;clear hB k0 k1 k2 HX0 HY0 HB0 HG;go_wp2_with fail
  refine Rs.region_gen 8 [[],[0],[],[0,1,2],[],[0,1,2,3,4],[],[]] [some 26,some 27,some 28,some 29,some 30,some 31,some 7,some 8] (spLp t pw pt cw ct w1.heap.size l pl cl) (by kernel_rfl) (by kernel_rfl) rfl (spLp_stable _ _ _ _ _ _ _ _ _) ?_ ?_
  ·refine ⟨fun V w' hG hs=>?_,fun V w' hG hs=>?_,fun V w' hG hs=>?_,fun V w' hG hs=>?_,fun V w' hG hs=>?_,fun V w' hG hs=>?_,fun V w' hG hs=>?_,fun V w' hG hs=>?_,trivial⟩
   all_goals
    obtain ⟨k0,k1,k2⟩:=blk3 ((hG.block w.heap.size HZ0).trans HX1.out)
   ·rw [if_pos (by rfl)];exact Rs.GrowL.value (v:=.agg #[.slice pw t.words.length cw,.slice pt t.turns.length ct,.int .i64 t.breath]) (w':=w') (by simp [go_sem,Rs.look,k0,k1,k2]) (Rs.Gr.refl _) rfl
   ·have e0:V 0=_:=hs 0 (by simp);rw [if_pos (by rfl)];refine Rs.GrowL.call (f:=7) (args:=#[.agg #[.slice pw t.words.length cw,.slice pt t.turns.length ct,.int .i64 t.breath]]) (by simp [go_sem,Rs.look,e0]) ?_;refine (lCopy_any t hl1 hl2 pw pt cw ct w' (HW.out.below (join HB1.out hG))).mono ?_;rintro e w2 ⟨g,h,rfl,o1,o2,hB2⟩;exact ⟨_,rfl,hB2,_,_,_,_,rfl,own_base o1 hG.size,own_base o2 hG.size,Nat.le_refl _,by unfold maxLen;omega⟩
   ·rw [if_pos (by rfl)];exact Rs.GrowL.value (v:=.agg #[.slice pw t.words.length cw,.slice pt t.turns.length ct,.int .i64 t.breath]) (w':=w') (by simp [go_sem,Rs.look,k0,k1,k2]) (Rs.Gr.refl _) rfl
   ·have e0:V 0=_:=hs 0 (by simp);have r1:=hs 1 (by simp);have e2:V 2=_:=hs 2 (by simp);rw [if_pos (by rfl)];refine Rs.GrowL.call (f:=8) (args:=#[.agg #[.slice pw t.words.length cw,.slice pt t.turns.length ct,.int .i64 t.breath]]) (by simp [go_sem,Rs.look,e2]) ?_;refine (theirs_any t hl1 hl2 pw pt cw ct w' (HW.out.below (join HB1.out hG))).mono ?_;rintro e w2 ⟨p,q,c,d,rfl,o1,o2,hB2⟩;exact ⟨_,rfl,hB2,_,_,_,_,rfl,own_base o1 hG.size,own_base o2 hG.size⟩
   ·rw [if_pos (by rfl)];exact Rs.GrowL.value (v:=.slice pl l.length cl) (w':=w') (by simp [go_sem,Rs.look]) (Rs.Gr.refl _) rfl
   ·have e0:V 0=_:=hs 0 (by simp);have r1:=hs 1 (by simp);have e2:V 2=_:=hs 2 (by simp);have r3:=hs 3 (by simp);have e4:V 4=_:=hs 4 (by simp);rw [if_pos (by rfl)];refine Rs.GrowL.call (f:=54) (args:=#[.slice pl l.length cl]) (by simp [go_sem,Rs.look,e4]) ?_;refine (Copy_ints l hl3 pl cl w' (HL.out.below (join HB1.out hG))).mono ?_;rintro e w2 ⟨v,rfl,ho,hB2⟩;obtain ⟨p,c,rfl⟩:=own_val ho;exact ⟨_,rfl,hB2,p,c,rfl,own_base ho hG.size⟩
   ·rw [if_pos (by rfl)];exact Rs.GrowL.value (v:=.pointer (some ⟨w'.heap.size,0,none⟩)) (w':=w'.alloc (.cells #[.slice none 0 0,.slice none 0 0,.int .i64 0] 25)) (by simp [go_sem,Rs.look]) (below1 _ _) ⟨_,rfl,hG.size,heap_last _ _⟩
   ·rw [if_pos (by rfl)];exact Rs.GrowL.value (v:=.pointer (some ⟨w'.heap.size,0,none⟩)) (w':=w'.alloc (.cells #[.slice none 0 0,.slice none 0 0,.int .i64 0] 32)) (by simp [go_sem,Rs.look]) (below1 _ _) ⟨_,rfl,hG.size,heap_last _ _⟩
  ·intro V w' hG hs;have e0:V 0=_:=hs 0 (by omega);have r1:=hs 1 (by omega);have e2:V 2=_:=hs 2 (by omega);have r3:=hs 3 (by omega);have e4:V 4=_:=hs 4 (by omega);have r5:=hs 5 (by omega);have r6:=hs 6 (by omega);have r7:=hs 7 (by omega);obtain ⟨p7,q7,a7,b7,e1,o1,o2,hcw⟩:=r1;obtain ⟨p8,q8,a8,b8,e3,o3,o4⟩:=r3;obtain ⟨p9,c9,e5,o9⟩:=r5;obtain ⟨c7,e6,hc7,x7⟩:=r6;obtain ⟨c8,e7,hc8,x8⟩:=r7;simp only [Rs.canon,Rs.dstOf,List.range_succ,List.range_zero,List.nil_append,List.cons_append,List.foldl_cons,List.foldl_nil,List.drop_succ_cons,List.drop_zero,List.drop_nil,List.getElem?_toArray,List.getElem?_cons_succ,List.getElem?_cons_zero,Option.bind_some,Act.put,List.getD_cons_succ,List.getD_cons_zero,List.setIfInBounds_toArray,List.set_cons_succ,List.set_cons_zero];rw [e0,e1,e2,e3,e4,e5,e6,e7];clear e0 e1 e2 e3 e4 e5 e6 e7 hs;have hne:c7≠c8:=fun e=>by rw [e,x8] at x7;injection x7 with h;injection h with _ h;cases h
   have hz2:=hG.size;have hz1:=HB1.out.size;have HBx:=Lib.hid (join HB1.out hG);have hAx:=(hG.block w.heap.size HZ0).trans HX1.out;have HLW:=Lib.hid (LwT.start hAx (by omega) (by omega) x7 x8 o1 o2 o3 o4 HW.out HBx.out (by omega) (by omega));have HBW:=Lib.hid (lwSet_bel HBx.out (show w.heap.size≤c7 by omega) (show w.heap.size≤c8 by omega) (.slice p7 t.words.length a7) (.slice q7 t.turns.length b7) (.int .i64 t.breath) (.slice p8 t.words.length a8) (.slice q8 t.turns.length b8) (.int .i64 t.breath));have HI9:=Lib.hid (own_rd (own_lwSet x7 x8 hne (by decide) (by decide) (.slice p7 t.words.length a7) (.slice q7 t.turns.length b7) (.int .i64 t.breath) (.slice p8 t.words.length a8) (.slice q8 t.turns.length b8) (.int .i64 t.breath) o9) rfl);have hsp:=(hG.block (w.heap.size+1) HZ1).trans HSP.out;have HSP:=Lib.hid ((lwSet_other (show w.heap.size+1≠c7 by omega) (show w.heap.size+1≠c8 by omega) (.slice p7 t.words.length a7) (.slice q7 t.turns.length b7) (.int .i64 t.breath) (.slice p8 t.words.length a8) (.slice q8 t.turns.length b8) (.int .i64 t.breath)).trans hsp);have f7:∀ i,w'.frozen? ⟨c7,i,none⟩=false:=fun i=>by simp [World.frozen?,x7]
   have f8:∀ i,w'.frozen? ⟨c8,i,none⟩=false:=fun i=>by simp [World.frozen?,x8]
   obtain ⟨m0,m1,m2⟩:=blk3 x7;obtain ⟨n0,n1,n2⟩:=blk3 x8;have h7:c7<w'.heap.size:=(Array.getElem?_eq_some_iff.1 x7).1;have h8:c8<w'.heap.size:=(Array.getElem?_eq_some_iff.1 x8).1;clear o1 o2 o3 o4 o9 x7 x8 hAx hsp hz2 hz1 HX1 HB1 HBx;clear hG;go_wp2_with fail
   obtain ⟨W,hW⟩:∃ W,W=lwSet w' c7 c8 (.slice p7 t.words.length a7) (.slice q7 t.turns.length b7) (.int .i64 t.breath) (.slice p8 t.words.length a8) (.slice q8 t.turns.length b8) (.int .i64 t.breath):=⟨_,rfl⟩;rw [← hW] at HLW HBW HI9 HSP;unfold lwSet at hW;rw [← hW];clear hW f7 f8 m0 m1 m2 n0 n1 n2 h7 h8;obtain ⟨p9',c9',e9,hI9,-⟩:=HI9.out;injection e9 with e9 _ e9c;subst e9;subst e9c;clear HI9;have HI9:=Lib.hid hI9;clear hI9;refine Rs.region_gen 5 [[],[0],[],[0,1,2],[0,1,2,3]] [some 32,some 33,some 34,some 35,some 36] (spLp4 t c7 c8 p7 q7 p8 q8 a7 b7 a8 b8 er) (by kernel_rfl) (by kernel_rfl) rfl (spLp4_stable _ _ _ _ _ _ _ _ _ _ _ _) ?_ ?_
   ·refine ⟨fun V w' hG hs=>?_,fun V w' hG hs=>?_,fun V w' hG hs=>?_,fun V w' hG hs=>?_,fun V w' hG hs=>?_,trivial⟩
    all_goals
     have HQ:=HLW.out.below hG;obtain ⟨k3,k4,k5⟩:=blk3 HQ.x7;obtain ⟨k6,k7,k8⟩:=blk3 HQ.x8;clear HQ
    ·rw [if_pos (by rfl)];exact Rs.GrowL.value (v:=.agg #[.slice p7 t.words.length a7,.slice q7 t.turns.length b7,.int .i64 t.breath]) (w':=w') (by simp [go_sem,Rs.look,k3,k4,k5]) (Rs.Gr.refl _) rfl
    ·have e0:V 0=_:=hs 0 (by simp);rw [if_pos (by rfl)];refine Rs.GrowL.call (f:=33) (args:=#[.agg #[.slice p7 t.words.length a7,.slice q7 t.turns.length b7,.int .i64 t.breath]]) (by simp [go_sem,Rs.look,e0]) ?_;refine (CCK.out p7 q7 a7 b7 w' (HLW.out.below hG).r7).mono ?_;rintro e w2 ⟨rfl,hB2⟩;exact ⟨_,rfl,hB2,rfl⟩
    ·rw [if_pos (by rfl)];exact Rs.GrowL.value (v:=.agg #[.slice p8 t.words.length a8,.slice q8 t.turns.length b8,.int .i64 t.breath]) (w':=w') (by simp [go_sem,Rs.look,k6,k7,k8]) (Rs.Gr.refl _) rfl
    ·have e0:V 0=_:=hs 0 (by simp);have e1:V 1=_:=hs 1 (by simp);have e2:V 2=_:=hs 2 (by simp);rw [if_pos (by rfl)];refine Rs.GrowL.call (f:=11) (args:=#[.agg #[.slice p8 t.words.length a8,.slice q8 t.turns.length b8,.int .i64 t.breath]]) (by simp [go_sem,Rs.look,e2]) ?_;refine (CRC.out p8 q8 a8 b8 w' (HLW.out.below hG).r8).mono ?_;rintro e w2 ⟨rfl,hB2⟩;exact ⟨_,rfl,hB2,rfl⟩
    ·have e0:V 0=_:=hs 0 (by simp);have e1:V 1=_:=hs 1 (by simp);have e2:V 2=_:=hs 2 (by simp);have e3:V 3=_:=hs 3 (by simp);rw [if_pos (by rfl)];exact Rs.GrowL.value (v:=.bool false) (w':=w') (by simp [go_sem,Rs.look,e0,e1,e2,e3]) (Rs.Gr.refl _) rfl
   ·intro V w' hG hs;have e0:V 0=_:=hs 0 (by omega);have e1:V 1=_:=hs 1 (by omega);have e2:V 2=_:=hs 2 (by omega);have e3:V 3=_:=hs 3 (by omega);have e4:V 4=_:=hs 4 (by omega);simp only [Rs.canon,Rs.dstOf,List.range_succ,List.range_zero,List.nil_append,List.cons_append,List.foldl_cons,List.foldl_nil,List.drop_succ_cons,List.drop_zero,List.drop_nil,List.getElem?_toArray,List.getElem?_cons_succ,List.getElem?_cons_zero,Option.bind_some,Act.put,List.getD_cons_succ,List.getD_cons_zero,List.setIfInBounds_toArray,List.set_cons_succ,List.set_cons_zero];rw [e0,e1,e2,e3,e4];clear e0 e1 e2 e3 e4 hs;have HLW:=Lib.hid (HLW.out.below hG);have HI9:=Lib.hid (HI9.out.below hG);have HSP:=Lib.hid ((hG.block _ (Array.getElem?_eq_some_iff.1 HSP.out).1).trans HSP.out);have HBW:=Lib.hid (join HBW.out hG);clear hG;obtain ⟨k0,k1,k2⟩:=blk3 HLW.out.prm;obtain ⟨k3,k4,k5⟩:=blk3 HLW.out.x7;obtain ⟨k6,k7,k8⟩:=blk3 HLW.out.x8;have y0:=blk_cells HSP.out 0 _ rfl;have y1:=blk_cells HSP.out 1 _ rfl;go_wp2_with fail
    refine (CSY.out p7 q7 a7 b7 _ HLW.out.r7).mono ?_;rintro e w2 ⟨v18,rfl,ho,hB⟩;have HSP:=Lib.hid ((hB.block _ (Array.getElem?_eq_some_iff.1 HSP.out).1).trans HSP.out);have HLW:=Lib.hid (HLW.out.below hB);have HI9:=Lib.hid (HI9.out.below hB);have HBW:=Lib.hid (join HBW.out hB);obtain ⟨p18,c18,rfl,H18,-⟩:=own_rd ho rfl;have H18:=Lib.hid H18;clear k0 k1 k2 k3 k4 k5 k6 k7 k8 y0 y1;clear hB ho;obtain ⟨k0,k1,k2⟩:=blk3 HLW.out.prm;obtain ⟨k3,k4,k5⟩:=blk3 HLW.out.x7;obtain ⟨k6,k7,k8⟩:=blk3 HLW.out.x8;have y0:=blk_cells HSP.out 0 _ rfl;have y1:=blk_cells HSP.out 1 _ rfl;go_wp2_with fail
    refine (CRS.out p8 q8 a8 b8 _ HLW.out.r8).mono ?_;rintro e w2 ⟨v19,rfl,ho,hB⟩;have HSP:=Lib.hid ((hB.block _ (Array.getElem?_eq_some_iff.1 HSP.out).1).trans HSP.out);have HLW:=Lib.hid (HLW.out.below hB);have HI9:=Lib.hid (HI9.out.below hB);have H18:=Lib.hid (H18.out.below hB);have HBW:=Lib.hid (join HBW.out hB);obtain ⟨p19,c19,rfl,H19,-⟩:=own_rd ho rfl;have H19:=Lib.hid H19;clear k0 k1 k2 k3 k4 k5 k6 k7 k8 y0 y1;clear hB ho;obtain ⟨k0,k1,k2⟩:=blk3 HLW.out.prm;obtain ⟨k3,k4,k5⟩:=blk3 HLW.out.x7;obtain ⟨k6,k7,k8⟩:=blk3 HLW.out.x8;have y0:=blk_cells HSP.out 0 _ rfl;have y1:=blk_cells HSP.out 1 _ rfl;go_wp2_with fail
    refine (Like_ints p18 p19 c18 c19 sl sl true (by simp) _ hsl hsl H18.out H19.out).mono ?_;rintro e w2 ⟨rfl,hB⟩;have HSP:=Lib.hid ((hB.block _ (Array.getElem?_eq_some_iff.1 HSP.out).1).trans HSP.out);have HLW:=Lib.hid (HLW.out.below hB);have HI9:=Lib.hid (HI9.out.below hB);have HBW:=Lib.hid (join HBW.out hB);clear k0 k1 k2 k3 k4 k5 k6 k7 k8 y0 y1;clear hB H18 H19;obtain ⟨k0,k1,k2⟩:=blk3 HLW.out.prm;obtain ⟨k3,k4,k5⟩:=blk3 HLW.out.x7;obtain ⟨k6,k7,k8⟩:=blk3 HLW.out.x8;have y0:=blk_cells HSP.out 0 _ rfl;have y1:=blk_cells HSP.out 1 _ rfl;go_wp2_with fail
    refine (CWR.out p7 q7 p9 a7 b7 c9 ⟨hcw.1,hcw.2⟩ _ HLW.out.r7 HI9.out).mono ?_;rintro e w2 ⟨rfl,hB⟩;have HSP:=Lib.hid ((hB.block _ (Array.getElem?_eq_some_iff.1 HSP.out).1).trans HSP.out);have HLW:=Lib.hid (HLW.out.below hB);have HI9:=Lib.hid (HI9.out.below hB);have HBW:=Lib.hid (join HBW.out hB);clear k0 k1 k2 k3 k4 k5 k6 k7 k8 y0 y1;clear hB;obtain ⟨k0,k1,k2⟩:=blk3 HLW.out.prm;obtain ⟨k3,k4,k5⟩:=blk3 HLW.out.x7;obtain ⟨k6,k7,k8⟩:=blk3 HLW.out.x8;have y0:=blk_cells HSP.out 0 _ rfl;have y1:=blk_cells HSP.out 1 _ rfl;go_wp2_with fail
    refine (CRW.out p8 q8 pl a8 b8 cl _ HLW.out.r8 (HL.out.below HBW.out)).mono ?_;rintro e w2 ⟨rfl,hB⟩;have HSP:=Lib.hid ((hB.block _ (Array.getElem?_eq_some_iff.1 HSP.out).1).trans HSP.out);have HLW:=Lib.hid (HLW.out.below hB);have HI9:=Lib.hid (HI9.out.below hB);have HBW:=Lib.hid (join HBW.out hB);clear k0 k1 k2 k3 k4 k5 k6 k7 k8 y0 y1;clear hB;obtain ⟨k0,k1,k2⟩:=blk3 HLW.out.prm;obtain ⟨k3,k4,k5⟩:=blk3 HLW.out.x7;obtain ⟨k6,k7,k8⟩:=blk3 HLW.out.x8;have y0:=blk_cells HSP.out 0 _ rfl;have y1:=blk_cells HSP.out 1 _ rfl;go_wp2_with fail
    refine (same_yes t hl1 hl2 p7 q7 pw pt a7 b7 cw ct _ HLW.out.r7 HLW.out.r0).mono ?_;rintro e w2 ⟨rfl,hB⟩;have HSP:=Lib.hid ((hB.block _ (Array.getElem?_eq_some_iff.1 HSP.out).1).trans HSP.out);have HLW:=Lib.hid (HLW.out.below hB);have HI9:=Lib.hid (HI9.out.below hB);have HBW:=Lib.hid (join HBW.out hB);clear k0 k1 k2 k3 k4 k5 k6 k7 k8 y0 y1;clear hB;obtain ⟨k0,k1,k2⟩:=blk3 HLW.out.prm;obtain ⟨k3,k4,k5⟩:=blk3 HLW.out.x7;obtain ⟨k6,k7,k8⟩:=blk3 HLW.out.x8;have y0:=blk_cells HSP.out 0 _ rfl;have y1:=blk_cells HSP.out 1 _ rfl;go_wp2_with fail
    refine (Like_ints p9 pl c9 cl l l true (by simp) _ hl3 hl3 HI9.out (HL.out.below HBW.out)).mono ?_;rintro e w2 ⟨rfl,hB⟩;have HSP:=Lib.hid ((hB.block _ (Array.getElem?_eq_some_iff.1 HSP.out).1).trans HSP.out);have HLW:=Lib.hid (HLW.out.below hB);have HI9:=Lib.hid (HI9.out.below hB);have HBW:=Lib.hid (join HBW.out hB);clear k0 k1 k2 k3 k4 k5 k6 k7 k8 y0 y1;clear hB;obtain ⟨k0,k1,k2⟩:=blk3 HLW.out.prm;obtain ⟨k3,k4,k5⟩:=blk3 HLW.out.x7;obtain ⟨k6,k7,k8⟩:=blk3 HLW.out.x8;have y0:=blk_cells HSP.out 0 _ rfl;have y1:=blk_cells HSP.out 1 _ rfl;go_wp2_with fail
    refine (awake_any _).mono ?_;rintro e w10 ⟨rfl,hB10⟩;have HBW:=Lib.hid (join HBW.out hB10);clear hB10;go_wp2;go_ret;exact ⟨rfl,HBW.out⟩
end Go.Proofs.YtadnggecnjdhiaaGreat
namespace Go.Proofs.YtadnggecnjdhiaaGreat
open Go.RowKit Tx
attribute [local go_sem] Oper.semAt_some
def spLa (t:Text) (pw pt:Option Addr) (cw ct B:Nat) (l:List Int) (pl:Option Addr) (cl:Nat):Nat→List Value→Value→World→Prop
 | 0,_,v,_=>v=.agg #[.slice pw t.words.length cw,.slice pt t.turns.length ct,.int .i64 t.breath]
 | 1,L,v,w=>∃ p q c d,v=.agg #[.slice p t.words.length c,.slice q t.turns.length d,.int .i64 t.breath]∧w.ownsRow B 61 3 (.slice p t.words.length c) t.words.length (wcells t.words)∧w.ownsRow B 63 3 (.slice q t.turns.length d) t.turns.length (tcells t.turns)∧t.words.length≤c∧c≤maxLen
 | 2,_,v,_=>v=.agg #[.slice pw t.words.length cw,.slice pt t.turns.length ct,.int .i64 t.breath]
 | 3,L,v,w=>∃ p q c d,v=.agg #[.slice p t.words.length c,.slice q t.turns.length d,.int .i64 t.breath]∧w.ownsRow B 80 3 (.slice p t.words.length c) t.words.length (wcells t.words)∧w.ownsRow B 81 3 (.slice q t.turns.length d) t.turns.length (tcells t.turns)
 | 4,_,v,_=>v=.slice pl l.length cl
 | 5,L,v,w=>∃ p c,v=.slice p l.length c∧w.ownsRow B 3 1 (.slice p l.length c) l.length (l.map (Value.int .i64))
 | 6,L,v,w=>∃ p,v=.pointer (some ⟨p,0,none⟩)∧B≤p∧w.heap[p]?=some (.cells #[.slice none 0 0,.slice none 0 0,.int .i64 0] 25 (0,0))
 | 7,L,v,w=>∃ p,v=.pointer (some ⟨p,0,none⟩)∧B≤p∧w.heap[p]?=some (.cells #[.slice none 0 0,.slice none 0 0,.int .i64 0] 32 (0,0))
 | _,_,_,_=>False
theorem spLa_stable (t:Text) (pw pt:Option Addr) (cw ct B:Nat) (l:List Int) (pl:Option Addr) (cl:Nat):∀ i L v w w',spLa t pw pt cw ct B l pl cl i L v w→Rs.Gr w w'→spLa t pw pt cw ct B l pl cl i L v w':=by
 intro i L v w w' h hg
 match i with
 | 0=>exact h
 | 1=>obtain ⟨p,q,c,d,h1,h2,h3,h4⟩:=h;exact ⟨p,q,c,d,h1,own_below h2 hg,own_below h3 hg,h4⟩
 | 2=>exact h
 | 3=>obtain ⟨p,q,c,d,h1,h2,h3⟩:=h;exact ⟨p,q,c,d,h1,own_below h2 hg,own_below h3 hg⟩
 | 4=>exact h
 | 5=>obtain ⟨p,c,h1,h2⟩:=h;exact ⟨p,c,h1,own_below h2 hg⟩
 | 6=>obtain ⟨p,h1,h2,h3⟩:=h;exact ⟨p,h1,h2,(hg.block p (Array.getElem?_eq_some_iff.1 h3).1).trans h3⟩
 | 7=>obtain ⟨p,h1,h2,h3⟩:=h;exact ⟨p,h1,h2,(hg.block p (Array.getElem?_eq_some_iff.1 h3).1).trans h3⟩
theorem astrayGo_ends (P:List Int):∀ (us:List Turn) (i:Nat),(astrayGo P i us).2.2.2=0∨(astrayGo P i us).2.2.2=6
 | [],_=>.inr rfl
 | u::us,i=>by
  rw [astrayGo];split
  ·exact .inl rfl
  ·exact astrayGo_ends P us (i+1)
set_option maxHeartbeats 8000000 in
set_option maxRecDepth 100000 in
theorem TextAstray_any (t:Text) (l:List Int) (hm1:t.words.length≤9223372036854775807) (hm2:t.turns.length≤9223372036854775807) (hm3:l.length≤9223372036854775807) (pw pt pl:Option Addr) (cw ct cl:Nat) (w:World) (hW:TxAt w t pw pt) (hL:Ints w pl l) :
  Calls Tryz.prog 25 #[.agg #[.slice pw t.words.length cw,.slice pt t.turns.length ct,.int .i64 t.breath],.slice pl l.length cl] w fun e w'=>e=.returned (.bool true)∧Below w.heap.size w w':=by
 have HW:=Lib.hid hW;have HL:=Lib.hid hL;have HB0:=Lib.hid (below1 w (.cells #[.slice pw t.words.length cw,.slice pt t.turns.length ct,.int .i64 t.breath] 25));have HX0:=Lib.hid (heap_last w (.cells #[.slice pw t.words.length cw,.slice pt t.turns.length ct,.int .i64 t.breath] 25));have HG:=Lib.hid (fun W=>great_any t 20 hm1 hm2 pw pt cw ct W);have HN:=Lib.hid (great_no (t:=t) (n:=20));generalize greatB t 20=gb at HG HN;clear hW hL;cases gb with
 | true =>
  obtain ⟨k0,k1,k2⟩:=blk3 HX0.out
  go_enter Tryz.func25,Tryz.ntmps25
  go_wp2_with fail
  refine (HG.out _).mono ?_;rintro e w1 ⟨rfl,hB⟩;have HB1:=Lib.hid (join HB0.out hB);clear hB k0 k1 k2;go_wp2_with fail
  refine (awake_any w1).mono ?_;rintro e w2 ⟨rfl,hB⟩;have HB2:=Lib.hid (join HB1.out hB);clear hB;go_wp2;go_ret;exact ⟨rfl,HB2.out⟩
 | false =>
 have hn:=HN.out rfl;clear HN;by_cases hgt:20<l.length
 ·have hgt':(20:Int)<l.length:=by omega
  obtain ⟨k0,k1,k2⟩:=blk3 HX0.out
  go_enter Tryz.func25,Tryz.ntmps25
  go_wp2_with fail
  refine (HG.out _).mono ?_;rintro e w1 ⟨rfl,hB⟩;have HB1:=Lib.hid (join HB0.out hB);clear hB k0 k1 k2;go_wp2_with fail
  refine (awake_any w1).mono ?_;rintro e w2 ⟨rfl,hB⟩;have HB2:=Lib.hid (join HB1.out hB);clear hB;go_wp2;go_ret;exact ⟨rfl,HB2.out⟩
 ·have hgt':¬ (20:Int)<l.length:=by omega
  have hl1:t.words.length≤1000000:=by omega
  have hl2:t.turns.length≤1000000:=by omega
  have hl3:l.length≤1000000:=by omega
  have CAS:=Lib.hid (fun p q r c d e hc W (h:TxAt W t p q) (hL:Ints W r l)=>Astray_any t l hl1 hl2 (by omega) p q r c d e hc W h hL);have CRE:=Lib.hid (fun p q r c d e W (h:TxAt W t p q) (hL:Ints W r l)=>Reading_any t l hl1 hl2 hl3 p q r c d e W h hL);have CRW:=Lib.hid (fun p q r c d e W (h:TxAt W t p q) (hL:Ints W r l)=>rWrong_any t l hl1 hl2 hl3 p q r c d e W h hL);have CRA:=Lib.hid (fun he p q r c d e W (h:TxAt W t p q) (hL:Ints W r l)=>rAstray_any t l he (by omega) p q r c d e W h hL);have HGE:=Lib.hid (astrayGo_ends (placesL l) t.turns 0);have HAR:Hid (astrayR t l=if readErr t l=0 then (if (wrongR t l).2.2=6 then astrayGo (placesL l) 0 t.turns else (0,0,0,8)) else (0,0,0,readErr t l)):=Lib.hid (by
   unfold astrayR wrongR;by_cases h:readErr t l=0
   ·rw [if_pos h,if_pos h,if_pos h]
   ·rw [if_neg h,if_neg h])
  generalize astrayR t l=av at CAS HAR;generalize readErr t l=er at CRE CRA HAR;generalize wrongR t l=wr at CRW HAR;generalize astrayGo (placesL l) 0 t.turns=ag at CRA HAR HGE;obtain ⟨wa,wb,wc⟩:=wr;dsimp only at CRW HAR;obtain ⟨k0,k1,k2⟩:=blk3 HX0.out
  go_enter Tryz.func25,Tryz.ntmps25
  go_wp2_with fail
  refine (HG.out _).mono ?_;rintro e w1 ⟨rfl,hB⟩;have HX1:=Lib.hid ((hB.block w.heap.size (Array.getElem?_eq_some_iff.1 HX0.out).1).trans HX0.out);have HB1:=Lib.hid (join HB0.out hB);have HZ0:w.heap.size<w1.heap.size:=(Array.getElem?_eq_some_iff.1 HX1.out).1;clear hB k0 k1 k2 HX0 HB0 HG;go_wp2_with fail
  refine Rs.region_gen 8 [[],[0],[],[0,1,2],[],[0,1,2,3,4],[],[]] [some 26,some 27,some 28,some 29,some 30,some 31,some 5,some 6] (spLa t pw pt cw ct w1.heap.size l pl cl) (by kernel_rfl) (by kernel_rfl) rfl (spLa_stable _ _ _ _ _ _ _ _ _) ?_ ?_
  ·refine ⟨fun V w' hG hs=>?_,fun V w' hG hs=>?_,fun V w' hG hs=>?_,fun V w' hG hs=>?_,fun V w' hG hs=>?_,fun V w' hG hs=>?_,fun V w' hG hs=>?_,fun V w' hG hs=>?_,trivial⟩
   all_goals
    obtain ⟨k0,k1,k2⟩:=blk3 ((hG.block w.heap.size HZ0).trans HX1.out)
   ·rw [if_pos (by rfl)];exact Rs.GrowL.value (v:=.agg #[.slice pw t.words.length cw,.slice pt t.turns.length ct,.int .i64 t.breath]) (w':=w') (by simp [go_sem,Rs.look,k0,k1,k2]) (Rs.Gr.refl _) rfl
   ·have e0:V 0=_:=hs 0 (by simp);rw [if_pos (by rfl)];refine Rs.GrowL.call (f:=7) (args:=#[.agg #[.slice pw t.words.length cw,.slice pt t.turns.length ct,.int .i64 t.breath]]) (by simp [go_sem,Rs.look,e0]) ?_;refine (lCopy_any t hl1 hl2 pw pt cw ct w' (HW.out.below (join HB1.out hG))).mono ?_;rintro e w2 ⟨g,h,rfl,o1,o2,hB2⟩;exact ⟨_,rfl,hB2,_,_,_,_,rfl,own_base o1 hG.size,own_base o2 hG.size,Nat.le_refl _,by unfold maxLen;omega⟩
   ·rw [if_pos (by rfl)];exact Rs.GrowL.value (v:=.agg #[.slice pw t.words.length cw,.slice pt t.turns.length ct,.int .i64 t.breath]) (w':=w') (by simp [go_sem,Rs.look,k0,k1,k2]) (Rs.Gr.refl _) rfl
   ·have e0:V 0=_:=hs 0 (by simp);have r1:=hs 1 (by simp);have e2:V 2=_:=hs 2 (by simp);rw [if_pos (by rfl)];refine Rs.GrowL.call (f:=8) (args:=#[.agg #[.slice pw t.words.length cw,.slice pt t.turns.length ct,.int .i64 t.breath]]) (by simp [go_sem,Rs.look,e2]) ?_;refine (theirs_any t hl1 hl2 pw pt cw ct w' (HW.out.below (join HB1.out hG))).mono ?_;rintro e w2 ⟨p,q,c,d,rfl,o1,o2,hB2⟩;exact ⟨_,rfl,hB2,_,_,_,_,rfl,own_base o1 hG.size,own_base o2 hG.size⟩
   ·rw [if_pos (by rfl)];exact Rs.GrowL.value (v:=.slice pl l.length cl) (w':=w') (by simp [go_sem,Rs.look]) (Rs.Gr.refl _) rfl
   ·have e0:V 0=_:=hs 0 (by simp);have r1:=hs 1 (by simp);have e2:V 2=_:=hs 2 (by simp);have r3:=hs 3 (by simp);have e4:V 4=_:=hs 4 (by simp);rw [if_pos (by rfl)];refine Rs.GrowL.call (f:=54) (args:=#[.slice pl l.length cl]) (by simp [go_sem,Rs.look,e4]) ?_;refine (Copy_ints l hl3 pl cl w' (HL.out.below (join HB1.out hG))).mono ?_;rintro e w2 ⟨v,rfl,ho,hB2⟩;obtain ⟨p,c,rfl⟩:=own_val ho;exact ⟨_,rfl,hB2,p,c,rfl,own_base ho hG.size⟩
   ·rw [if_pos (by rfl)];exact Rs.GrowL.value (v:=.pointer (some ⟨w'.heap.size,0,none⟩)) (w':=w'.alloc (.cells #[.slice none 0 0,.slice none 0 0,.int .i64 0] 25)) (by simp [go_sem,Rs.look]) (below1 _ _) ⟨_,rfl,hG.size,heap_last _ _⟩
   ·rw [if_pos (by rfl)];exact Rs.GrowL.value (v:=.pointer (some ⟨w'.heap.size,0,none⟩)) (w':=w'.alloc (.cells #[.slice none 0 0,.slice none 0 0,.int .i64 0] 32)) (by simp [go_sem,Rs.look]) (below1 _ _) ⟨_,rfl,hG.size,heap_last _ _⟩
  ·intro V w' hG hs;have e0:V 0=_:=hs 0 (by omega);have r1:=hs 1 (by omega);have e2:V 2=_:=hs 2 (by omega);have r3:=hs 3 (by omega);have e4:V 4=_:=hs 4 (by omega);have r5:=hs 5 (by omega);have r6:=hs 6 (by omega);have r7:=hs 7 (by omega);obtain ⟨p7,q7,a7,b7,e1,o1,o2,hcw⟩:=r1;obtain ⟨p8,q8,a8,b8,e3,o3,o4⟩:=r3;obtain ⟨p9,c9,e5,o9⟩:=r5;obtain ⟨c7,e6,hc7,x7⟩:=r6;obtain ⟨c8,e7,hc8,x8⟩:=r7;simp only [Rs.canon,Rs.dstOf,List.range_succ,List.range_zero,List.nil_append,List.cons_append,List.foldl_cons,List.foldl_nil,List.drop_succ_cons,List.drop_zero,List.drop_nil,List.getElem?_toArray,List.getElem?_cons_succ,List.getElem?_cons_zero,Option.bind_some,Act.put,List.getD_cons_succ,List.getD_cons_zero,List.setIfInBounds_toArray,List.set_cons_succ,List.set_cons_zero];rw [e0,e1,e2,e3,e4,e5,e6,e7];clear e0 e1 e2 e3 e4 e5 e6 e7 hs;have hne:c7≠c8:=fun e=>by rw [e,x8] at x7;injection x7 with h;injection h with _ h;cases h
   have hz2:=hG.size;have hz1:=HB1.out.size;have HBx:=Lib.hid (join HB1.out hG);have hAx:=(hG.block w.heap.size HZ0).trans HX1.out;have HLW:=Lib.hid (LwT.start hAx (by omega) (by omega) x7 x8 o1 o2 o3 o4 HW.out HBx.out (by omega) (by omega));have HBW:=Lib.hid (lwSet_bel HBx.out (show w.heap.size≤c7 by omega) (show w.heap.size≤c8 by omega) (.slice p7 t.words.length a7) (.slice q7 t.turns.length b7) (.int .i64 t.breath) (.slice p8 t.words.length a8) (.slice q8 t.turns.length b8) (.int .i64 t.breath));have HI9:=Lib.hid (own_rd (own_lwSet x7 x8 hne (by decide) (by decide) (.slice p7 t.words.length a7) (.slice q7 t.turns.length b7) (.int .i64 t.breath) (.slice p8 t.words.length a8) (.slice q8 t.turns.length b8) (.int .i64 t.breath) o9) rfl);have f7:∀ i,w'.frozen? ⟨c7,i,none⟩=false:=fun i=>by simp [World.frozen?,x7]
   have f8:∀ i,w'.frozen? ⟨c8,i,none⟩=false:=fun i=>by simp [World.frozen?,x8]
   obtain ⟨m0,m1,m2⟩:=blk3 x7;obtain ⟨n0,n1,n2⟩:=blk3 x8;have h7:c7<w'.heap.size:=(Array.getElem?_eq_some_iff.1 x7).1;have h8:c8<w'.heap.size:=(Array.getElem?_eq_some_iff.1 x8).1;clear o1 o2 o3 o4 o9 x7 x8 hAx hz2 hz1 HX1 HB1 HBx;clear hG;go_wp2_with fail
   refine calls_named fun W hW=>?_;have hW2:W=lwSet w' c7 c8 (.slice p7 t.words.length a7) (.slice q7 t.turns.length b7) (.int .i64 t.breath) (.slice p8 t.words.length a8) (.slice q8 t.turns.length b8) (.int .i64 t.breath):=hW;rw [← hW2] at HLW HBW HI9;clear hW hW2 f7 f8 m0 m1 m2 n0 n1 n2 h7 h8;obtain ⟨p9',c9',e9,hI9,-⟩:=HI9.out;injection e9 with e9 _ e9c;subst e9;subst e9c;clear HI9;have HI9:=Lib.hid hI9;clear hI9;rcases (Decidable.em (er=0)).symm with he | he
   ·have HER:(er == 0)=false:=by simpa using he
    have HAV:Hid (av=(0,0,0,er)):=Lib.hid (by rw [HAR.out,if_neg he]);rw [HAV.out] at CAS;dsimp only at CAS;clear HAV HAR he CRA;obtain ⟨k0,k1,k2⟩:=blk3 HLW.out.prm;obtain ⟨k3,k4,k5⟩:=blk3 HLW.out.x7;obtain ⟨k6,k7,k8⟩:=blk3 HLW.out.x8;refine (CAS.out p7 q7 p9 a7 b7 c9 ⟨hcw.1,hcw.2⟩ _ HLW.out.r7 HI9.out).mono ?_;rintro e w2 ⟨rfl,hB⟩;have HLW:=Lib.hid (HLW.out.below hB);have HI9:=Lib.hid (HI9.out.below hB);have HBW:=Lib.hid (join HBW.out hB);clear k0 k1 k2 k3 k4 k5 k6 k7 k8;clear hB;have HSA:=Lib.hid (heap_last w2 (.cells #[.int .i64 0,.int .i64 0] 58));have hB:=below1 w2 (.cells #[.int .i64 0,.int .i64 0] 58);have HLW:=Lib.hid (HLW.out.below hB);have HI9:=Lib.hid (HI9.out.below hB);have HBW:=Lib.hid (join HBW.out hB);clear hB;obtain ⟨k0,k1,k2⟩:=blk3 HLW.out.prm;obtain ⟨k3,k4,k5⟩:=blk3 HLW.out.x7;obtain ⟨k6,k7,k8⟩:=blk3 HLW.out.x8;have y0:=blk_cells HSA.out 0 _ rfl;have y1:=blk_cells HSA.out 1 _ rfl;go_wp2_with fail
    refine (CRE.out p8 q8 pl a8 b8 cl _ HLW.out.r8 (HL.out.below HBW.out)).mono ?_;rintro e w2 ⟨rfl,hB⟩;have HSA:=Lib.hid ((hB.block _ (Array.getElem?_eq_some_iff.1 HSA.out).1).trans HSA.out);have HLW:=Lib.hid (HLW.out.below hB);have HI9:=Lib.hid (HI9.out.below hB);have HBW:=Lib.hid (join HBW.out hB);clear k0 k1 k2 k3 k4 k5 k6 k7 k8 y0 y1;clear hB;have HSB:=Lib.hid (heap_last w2 (.cells #[.int .i64 0,.int .i64 0] 58));have hB:=below1 w2 (.cells #[.int .i64 0,.int .i64 0] 58);have HSA:=Lib.hid ((hB.block _ (Array.getElem?_eq_some_iff.1 HSA.out).1).trans HSA.out);have HLW:=Lib.hid (HLW.out.below hB);have HI9:=Lib.hid (HI9.out.below hB);have HBW:=Lib.hid (join HBW.out hB);clear hB;obtain ⟨k0,k1,k2⟩:=blk3 HLW.out.prm;obtain ⟨k3,k4,k5⟩:=blk3 HLW.out.x7;obtain ⟨k6,k7,k8⟩:=blk3 HLW.out.x8;have y0:=blk_cells HSA.out 0 _ rfl;have y1:=blk_cells HSA.out 1 _ rfl;have z0:=blk_cells HSB.out 0 _ rfl;have z1:=blk_cells HSB.out 1 _ rfl;go_wp2_with fail
    refine (same_yes t hl1 hl2 p7 q7 pw pt a7 b7 cw ct _ HLW.out.r7 HLW.out.r0).mono ?_;rintro e w2 ⟨rfl,hB⟩;have HSA:=Lib.hid ((hB.block _ (Array.getElem?_eq_some_iff.1 HSA.out).1).trans HSA.out);have HSB:=Lib.hid ((hB.block _ (Array.getElem?_eq_some_iff.1 HSB.out).1).trans HSB.out);have HLW:=Lib.hid (HLW.out.below hB);have HI9:=Lib.hid (HI9.out.below hB);have HBW:=Lib.hid (join HBW.out hB);clear k0 k1 k2 k3 k4 k5 k6 k7 k8 y0 y1 z0 z1;clear hB;obtain ⟨k0,k1,k2⟩:=blk3 HLW.out.prm;obtain ⟨k3,k4,k5⟩:=blk3 HLW.out.x7;obtain ⟨k6,k7,k8⟩:=blk3 HLW.out.x8;have y0:=blk_cells HSA.out 0 _ rfl;have y1:=blk_cells HSA.out 1 _ rfl;have z0:=blk_cells HSB.out 0 _ rfl;have z1:=blk_cells HSB.out 1 _ rfl;go_wp2_with fail
    refine (Like_ints p9 pl c9 cl l l true (by simp) _ hl3 hl3 HI9.out (HL.out.below HBW.out)).mono ?_;rintro e w2 ⟨rfl,hB⟩;have HSA:=Lib.hid ((hB.block _ (Array.getElem?_eq_some_iff.1 HSA.out).1).trans HSA.out);have HSB:=Lib.hid ((hB.block _ (Array.getElem?_eq_some_iff.1 HSB.out).1).trans HSB.out);have HLW:=Lib.hid (HLW.out.below hB);have HI9:=Lib.hid (HI9.out.below hB);have HBW:=Lib.hid (join HBW.out hB);clear k0 k1 k2 k3 k4 k5 k6 k7 k8 y0 y1 z0 z1;clear hB;obtain ⟨k0,k1,k2⟩:=blk3 HLW.out.prm;obtain ⟨k3,k4,k5⟩:=blk3 HLW.out.x7;obtain ⟨k6,k7,k8⟩:=blk3 HLW.out.x8;have y0:=blk_cells HSA.out 0 _ rfl;have y1:=blk_cells HSA.out 1 _ rfl;have z0:=blk_cells HSB.out 0 _ rfl;have z1:=blk_cells HSB.out 1 _ rfl;go_wp2_with fail
    refine (awake_any _).mono ?_;rintro e w10 ⟨rfl,hB10⟩;have HBW:=Lib.hid (join HBW.out hB10);clear hB10;go_wp2;go_ret;exact ⟨rfl,HBW.out⟩
   rcases (Decidable.em (wc=6)).symm with hr | hr
   ·have HWC:(wc != 6)=true:=by simpa using hr
    have HAV:Hid (av=(0,0,0,8)):=Lib.hid (by rw [HAR.out,if_pos he,if_neg hr]);rw [HAV.out] at CAS;dsimp only at CAS;rw [he] at CRE;clear HAV HAR he hr CRA;obtain ⟨k0,k1,k2⟩:=blk3 HLW.out.prm;obtain ⟨k3,k4,k5⟩:=blk3 HLW.out.x7;obtain ⟨k6,k7,k8⟩:=blk3 HLW.out.x8;refine (CAS.out p7 q7 p9 a7 b7 c9 ⟨hcw.1,hcw.2⟩ _ HLW.out.r7 HI9.out).mono ?_;rintro e w2 ⟨rfl,hB⟩;have HLW:=Lib.hid (HLW.out.below hB);have HI9:=Lib.hid (HI9.out.below hB);have HBW:=Lib.hid (join HBW.out hB);clear k0 k1 k2 k3 k4 k5 k6 k7 k8;clear hB;have HSA:=Lib.hid (heap_last w2 (.cells #[.int .i64 0,.int .i64 0] 58));have hB:=below1 w2 (.cells #[.int .i64 0,.int .i64 0] 58);have HLW:=Lib.hid (HLW.out.below hB);have HI9:=Lib.hid (HI9.out.below hB);have HBW:=Lib.hid (join HBW.out hB);clear hB;obtain ⟨k0,k1,k2⟩:=blk3 HLW.out.prm;obtain ⟨k3,k4,k5⟩:=blk3 HLW.out.x7;obtain ⟨k6,k7,k8⟩:=blk3 HLW.out.x8;have y0:=blk_cells HSA.out 0 _ rfl;have y1:=blk_cells HSA.out 1 _ rfl;go_wp2_with fail
    refine (CRE.out p8 q8 pl a8 b8 cl _ HLW.out.r8 (HL.out.below HBW.out)).mono ?_;rintro e w2 ⟨rfl,hB⟩;have HSA:=Lib.hid ((hB.block _ (Array.getElem?_eq_some_iff.1 HSA.out).1).trans HSA.out);have HLW:=Lib.hid (HLW.out.below hB);have HI9:=Lib.hid (HI9.out.below hB);have HBW:=Lib.hid (join HBW.out hB);clear k0 k1 k2 k3 k4 k5 k6 k7 k8 y0 y1;clear hB;obtain ⟨k0,k1,k2⟩:=blk3 HLW.out.prm;obtain ⟨k3,k4,k5⟩:=blk3 HLW.out.x7;obtain ⟨k6,k7,k8⟩:=blk3 HLW.out.x8;have y0:=blk_cells HSA.out 0 _ rfl;have y1:=blk_cells HSA.out 1 _ rfl;go_wp2_with fail
    refine (CRW.out p8 q8 pl a8 b8 cl _ HLW.out.r8 (HL.out.below HBW.out)).mono ?_;rintro e w2 ⟨rfl,hB⟩;have HSA:=Lib.hid ((hB.block _ (Array.getElem?_eq_some_iff.1 HSA.out).1).trans HSA.out);have HLW:=Lib.hid (HLW.out.below hB);have HI9:=Lib.hid (HI9.out.below hB);have HBW:=Lib.hid (join HBW.out hB);clear k0 k1 k2 k3 k4 k5 k6 k7 k8 y0 y1;clear hB;have HSB:=Lib.hid (heap_last w2 (.cells #[.int .i64 0,.int .i64 0] 58));have hB:=below1 w2 (.cells #[.int .i64 0,.int .i64 0] 58);have HSA:=Lib.hid ((hB.block _ (Array.getElem?_eq_some_iff.1 HSA.out).1).trans HSA.out);have HLW:=Lib.hid (HLW.out.below hB);have HI9:=Lib.hid (HI9.out.below hB);have HBW:=Lib.hid (join HBW.out hB);clear hB;obtain ⟨k0,k1,k2⟩:=blk3 HLW.out.prm;obtain ⟨k3,k4,k5⟩:=blk3 HLW.out.x7;obtain ⟨k6,k7,k8⟩:=blk3 HLW.out.x8;have y0:=blk_cells HSA.out 0 _ rfl;have y1:=blk_cells HSA.out 1 _ rfl;have z0:=blk_cells HSB.out 0 _ rfl;have z1:=blk_cells HSB.out 1 _ rfl;go_wp2_with fail
    refine (same_yes t hl1 hl2 p7 q7 pw pt a7 b7 cw ct _ HLW.out.r7 HLW.out.r0).mono ?_;rintro e w2 ⟨rfl,hB⟩;have HSA:=Lib.hid ((hB.block _ (Array.getElem?_eq_some_iff.1 HSA.out).1).trans HSA.out);have HSB:=Lib.hid ((hB.block _ (Array.getElem?_eq_some_iff.1 HSB.out).1).trans HSB.out);have HLW:=Lib.hid (HLW.out.below hB);have HI9:=Lib.hid (HI9.out.below hB);have HBW:=Lib.hid (join HBW.out hB);clear k0 k1 k2 k3 k4 k5 k6 k7 k8 y0 y1 z0 z1;clear hB;obtain ⟨k0,k1,k2⟩:=blk3 HLW.out.prm;obtain ⟨k3,k4,k5⟩:=blk3 HLW.out.x7;obtain ⟨k6,k7,k8⟩:=blk3 HLW.out.x8;have y0:=blk_cells HSA.out 0 _ rfl;have y1:=blk_cells HSA.out 1 _ rfl;have z0:=blk_cells HSB.out 0 _ rfl;have z1:=blk_cells HSB.out 1 _ rfl;go_wp2_with fail
    refine (Like_ints p9 pl c9 cl l l true (by simp) _ hl3 hl3 HI9.out (HL.out.below HBW.out)).mono ?_;rintro e w2 ⟨rfl,hB⟩;have HSA:=Lib.hid ((hB.block _ (Array.getElem?_eq_some_iff.1 HSA.out).1).trans HSA.out);have HSB:=Lib.hid ((hB.block _ (Array.getElem?_eq_some_iff.1 HSB.out).1).trans HSB.out);have HLW:=Lib.hid (HLW.out.below hB);have HI9:=Lib.hid (HI9.out.below hB);have HBW:=Lib.hid (join HBW.out hB);clear k0 k1 k2 k3 k4 k5 k6 k7 k8 y0 y1 z0 z1;clear hB;obtain ⟨k0,k1,k2⟩:=blk3 HLW.out.prm;obtain ⟨k3,k4,k5⟩:=blk3 HLW.out.x7;obtain ⟨k6,k7,k8⟩:=blk3 HLW.out.x8;have y0:=blk_cells HSA.out 0 _ rfl;have y1:=blk_cells HSA.out 1 _ rfl;have z0:=blk_cells HSB.out 0 _ rfl;have z1:=blk_cells HSB.out 1 _ rfl;go_wp2_with fail
    refine (awake_any _).mono ?_;rintro e w10 ⟨rfl,hB10⟩;have HBW:=Lib.hid (join HBW.out hB10);clear hB10;go_wp2;go_ret;exact ⟨rfl,HBW.out⟩
   have HAV:Hid (av=ag):=Lib.hid (by rw [HAR.out,if_pos he,if_pos hr]);rw [HAV.out] at CAS
   replace CRA:=Lib.hid (CRA.out he)
   subst he;subst hr;obtain ⟨aa,ab,ac,ad⟩:=ag;dsimp only at CAS CRA HGE;clear HAV HAR;rcases HGE.out with rfl | rfl
   ·clear HGE;obtain ⟨k0,k1,k2⟩:=blk3 HLW.out.prm;obtain ⟨k3,k4,k5⟩:=blk3 HLW.out.x7;obtain ⟨k6,k7,k8⟩:=blk3 HLW.out.x8;refine (CAS.out p7 q7 p9 a7 b7 c9 ⟨hcw.1,hcw.2⟩ _ HLW.out.r7 HI9.out).mono ?_;rintro e w2 ⟨rfl,hB⟩;have HLW:=Lib.hid (HLW.out.below hB);have HI9:=Lib.hid (HI9.out.below hB);have HBW:=Lib.hid (join HBW.out hB);clear k0 k1 k2 k3 k4 k5 k6 k7 k8;clear hB;have HSA:=Lib.hid (heap_last w2 (.cells #[.int .i64 ab,.int .i64 ac] 58));have hB:=below1 w2 (.cells #[.int .i64 ab,.int .i64 ac] 58);have HLW:=Lib.hid (HLW.out.below hB);have HI9:=Lib.hid (HI9.out.below hB);have HBW:=Lib.hid (join HBW.out hB);clear hB;obtain ⟨k0,k1,k2⟩:=blk3 HLW.out.prm;obtain ⟨k3,k4,k5⟩:=blk3 HLW.out.x7;obtain ⟨k6,k7,k8⟩:=blk3 HLW.out.x8;have y0:=blk_cells HSA.out 0 _ rfl;have y1:=blk_cells HSA.out 1 _ rfl;go_wp2_with fail
    refine (CRE.out p8 q8 pl a8 b8 cl _ HLW.out.r8 (HL.out.below HBW.out)).mono ?_;rintro e w2 ⟨rfl,hB⟩;have HSA:=Lib.hid ((hB.block _ (Array.getElem?_eq_some_iff.1 HSA.out).1).trans HSA.out);have HLW:=Lib.hid (HLW.out.below hB);have HI9:=Lib.hid (HI9.out.below hB);have HBW:=Lib.hid (join HBW.out hB);clear k0 k1 k2 k3 k4 k5 k6 k7 k8 y0 y1;clear hB;obtain ⟨k0,k1,k2⟩:=blk3 HLW.out.prm;obtain ⟨k3,k4,k5⟩:=blk3 HLW.out.x7;obtain ⟨k6,k7,k8⟩:=blk3 HLW.out.x8;have y0:=blk_cells HSA.out 0 _ rfl;have y1:=blk_cells HSA.out 1 _ rfl;go_wp2_with fail
    refine (CRW.out p8 q8 pl a8 b8 cl _ HLW.out.r8 (HL.out.below HBW.out)).mono ?_;rintro e w2 ⟨rfl,hB⟩;have HSA:=Lib.hid ((hB.block _ (Array.getElem?_eq_some_iff.1 HSA.out).1).trans HSA.out);have HLW:=Lib.hid (HLW.out.below hB);have HI9:=Lib.hid (HI9.out.below hB);have HBW:=Lib.hid (join HBW.out hB);clear k0 k1 k2 k3 k4 k5 k6 k7 k8 y0 y1;clear hB;obtain ⟨wX,hwX⟩:∃ wX,wX=w2:=⟨_,rfl⟩;rw [← hwX] at HLW HSA HI9 HBW ⊢;clear hwX;have HLX:=HLW;have HSX:=HSA;have HIX:=HI9;have HBX:=HBW;have HSB:=Lib.hid (heap_last wX (.cells #[.int .i64 0,.int .i64 0] 58));have hB:=below1 wX (.cells #[.int .i64 0,.int .i64 0] 58);have HSA:=Lib.hid ((hB.block _ (Array.getElem?_eq_some_iff.1 HSA.out).1).trans HSA.out);have HLW:=Lib.hid (HLW.out.below hB);have HI9:=Lib.hid (HI9.out.below hB);have HBW:=Lib.hid (join HBW.out hB);clear hB;obtain ⟨k0,k1,k2⟩:=blk3 HLW.out.prm;obtain ⟨k3,k4,k5⟩:=blk3 HLW.out.x7;obtain ⟨k6,k7,k8⟩:=blk3 HLW.out.x8;have y0:=blk_cells HSA.out 0 _ rfl;have y1:=blk_cells HSA.out 1 _ rfl;have z0:=blk_cells HSB.out 0 _ rfl;have z1:=blk_cells HSB.out 1 _ rfl;go_wp2_with fail
    refine (CRA.out p8 q8 pl a8 b8 cl _ HLW.out.r8 (HL.out.below HBW.out)).mono ?_;rintro e w2 ⟨rfl,hB⟩;have HSB:=Lib.hid ((hB.block _ (Array.getElem?_eq_some_iff.1 HSB.out).1).trans HSB.out);have HBY:=Lib.hid (join (below1 wX (.cells #[.int .i64 0,.int .i64 0] 58)) hB);clear k0 k1 k2 k3 k4 k5 k6 k7 k8 y0 y1 z0 z1;clear hB;have z0:=blk_cells HSB.out 0 _ rfl;have z1:=blk_cells HSB.out 1 _ rfl;have zf:∀ i,w2.frozen? ⟨wX.heap.size,i,none⟩=false:=fun i=>by simp [World.frozen?,HSB.out]
    have zs:wX.heap.size<w2.heap.size:=(Array.getElem?_eq_some_iff.1 HSB.out).1;obtain ⟨wY,hwY⟩:∃ wY,wY=(w2.setCell ⟨wX.heap.size,0,none⟩ (.int .i64 ab)).setCell ⟨wX.heap.size,1,none⟩ (.int .i64 ac):=⟨_,rfl⟩;have HBZ:Below wX.heap.size wX wY:=by rw [hwY];exact belS (belS HBY.out (Nat.le_refl _)) (Nat.le_refl _)
    have HSB2:Hid (wY.heap[wX.heap.size]?=some (.cells #[.int .i64 ab,.int .i64 ac] 58 (0,0))):=Lib.hid (by rw [hwY];exact heap_set_same _ (heap_set_same _ HSB.out));have HLW:=Lib.hid (HLX.out.below HBZ);have HI9:=Lib.hid (HIX.out.below HBZ);have HSA:=Lib.hid ((HBZ.block _ (Array.getElem?_eq_some_iff.1 HSX.out).1).trans HSX.out);have HBW:=Lib.hid (join HBX.out HBZ);clear HSB HBY HBZ HLX HIX HSX HBX;have HSB:=HSB2;clear HSB2;rw [hwY] at HLW HI9 HSA HBW HSB;clear hwY;obtain ⟨k0,k1,k2⟩:=blk3 HLW.out.prm;obtain ⟨k3,k4,k5⟩:=blk3 HLW.out.x7;obtain ⟨k6,k7,k8⟩:=blk3 HLW.out.x8;have y0:=blk_cells HSA.out 0 _ rfl;have y1:=blk_cells HSA.out 1 _ rfl;have z0:=blk_cells HSB.out 0 _ rfl;have z1:=blk_cells HSB.out 1 _ rfl;go_wp2_with fail
    refine (same_yes t hl1 hl2 p7 q7 pw pt a7 b7 cw ct _ HLW.out.r7 HLW.out.r0).mono ?_;rintro e w2 ⟨rfl,hB⟩;have HSA:=Lib.hid ((hB.block _ (Array.getElem?_eq_some_iff.1 HSA.out).1).trans HSA.out);have HSB:=Lib.hid ((hB.block _ (Array.getElem?_eq_some_iff.1 HSB.out).1).trans HSB.out);have HLW:=Lib.hid (HLW.out.below hB);have HI9:=Lib.hid (HI9.out.below hB);have HBW:=Lib.hid (join HBW.out hB);clear k0 k1 k2 k3 k4 k5 k6 k7 k8 y0 y1 z0 z1;clear hB;obtain ⟨k0,k1,k2⟩:=blk3 HLW.out.prm;obtain ⟨k3,k4,k5⟩:=blk3 HLW.out.x7;obtain ⟨k6,k7,k8⟩:=blk3 HLW.out.x8;have y0:=blk_cells HSA.out 0 _ rfl;have y1:=blk_cells HSA.out 1 _ rfl;have z0:=blk_cells HSB.out 0 _ rfl;have z1:=blk_cells HSB.out 1 _ rfl;go_wp2_with fail
    refine (Like_ints p9 pl c9 cl l l true (by simp) _ hl3 hl3 HI9.out (HL.out.below HBW.out)).mono ?_;rintro e w2 ⟨rfl,hB⟩;have HSA:=Lib.hid ((hB.block _ (Array.getElem?_eq_some_iff.1 HSA.out).1).trans HSA.out);have HSB:=Lib.hid ((hB.block _ (Array.getElem?_eq_some_iff.1 HSB.out).1).trans HSB.out);have HLW:=Lib.hid (HLW.out.below hB);have HI9:=Lib.hid (HI9.out.below hB);have HBW:=Lib.hid (join HBW.out hB);clear k0 k1 k2 k3 k4 k5 k6 k7 k8 y0 y1 z0 z1;clear hB;obtain ⟨k0,k1,k2⟩:=blk3 HLW.out.prm;obtain ⟨k3,k4,k5⟩:=blk3 HLW.out.x7;obtain ⟨k6,k7,k8⟩:=blk3 HLW.out.x8;have y0:=blk_cells HSA.out 0 _ rfl;have y1:=blk_cells HSA.out 1 _ rfl;have z0:=blk_cells HSB.out 0 _ rfl;have z1:=blk_cells HSB.out 1 _ rfl;go_wp2_with fail
    refine (awake_any _).mono ?_;rintro e w10 ⟨rfl,hB10⟩;have HBW:=Lib.hid (join HBW.out hB10);clear hB10;go_wp2;go_ret;exact ⟨rfl,HBW.out⟩
   ·clear HGE;obtain ⟨k0,k1,k2⟩:=blk3 HLW.out.prm;obtain ⟨k3,k4,k5⟩:=blk3 HLW.out.x7;obtain ⟨k6,k7,k8⟩:=blk3 HLW.out.x8;refine (CAS.out p7 q7 p9 a7 b7 c9 ⟨hcw.1,hcw.2⟩ _ HLW.out.r7 HI9.out).mono ?_;rintro e w2 ⟨rfl,hB⟩;have HLW:=Lib.hid (HLW.out.below hB);have HI9:=Lib.hid (HI9.out.below hB);have HBW:=Lib.hid (join HBW.out hB);clear k0 k1 k2 k3 k4 k5 k6 k7 k8;clear hB;have HSA:=Lib.hid (heap_last w2 (.cells #[.int .i64 ab,.int .i64 ac] 58));have hB:=below1 w2 (.cells #[.int .i64 ab,.int .i64 ac] 58);have HLW:=Lib.hid (HLW.out.below hB);have HI9:=Lib.hid (HI9.out.below hB);have HBW:=Lib.hid (join HBW.out hB);clear hB;obtain ⟨k0,k1,k2⟩:=blk3 HLW.out.prm;obtain ⟨k3,k4,k5⟩:=blk3 HLW.out.x7;obtain ⟨k6,k7,k8⟩:=blk3 HLW.out.x8;have y0:=blk_cells HSA.out 0 _ rfl;have y1:=blk_cells HSA.out 1 _ rfl;go_wp2_with fail
    refine (CRE.out p8 q8 pl a8 b8 cl _ HLW.out.r8 (HL.out.below HBW.out)).mono ?_;rintro e w2 ⟨rfl,hB⟩;have HSA:=Lib.hid ((hB.block _ (Array.getElem?_eq_some_iff.1 HSA.out).1).trans HSA.out);have HLW:=Lib.hid (HLW.out.below hB);have HI9:=Lib.hid (HI9.out.below hB);have HBW:=Lib.hid (join HBW.out hB);clear k0 k1 k2 k3 k4 k5 k6 k7 k8 y0 y1;clear hB;obtain ⟨k0,k1,k2⟩:=blk3 HLW.out.prm;obtain ⟨k3,k4,k5⟩:=blk3 HLW.out.x7;obtain ⟨k6,k7,k8⟩:=blk3 HLW.out.x8;have y0:=blk_cells HSA.out 0 _ rfl;have y1:=blk_cells HSA.out 1 _ rfl;go_wp2_with fail
    refine (CRW.out p8 q8 pl a8 b8 cl _ HLW.out.r8 (HL.out.below HBW.out)).mono ?_;rintro e w2 ⟨rfl,hB⟩;have HSA:=Lib.hid ((hB.block _ (Array.getElem?_eq_some_iff.1 HSA.out).1).trans HSA.out);have HLW:=Lib.hid (HLW.out.below hB);have HI9:=Lib.hid (HI9.out.below hB);have HBW:=Lib.hid (join HBW.out hB);clear k0 k1 k2 k3 k4 k5 k6 k7 k8 y0 y1;clear hB;obtain ⟨wX,hwX⟩:∃ wX,wX=w2:=⟨_,rfl⟩;rw [← hwX] at HLW HSA HI9 HBW ⊢;clear hwX;have HLX:=HLW;have HSX:=HSA;have HIX:=HI9;have HBX:=HBW;have HSB:=Lib.hid (heap_last wX (.cells #[.int .i64 0,.int .i64 0] 58));have hB:=below1 wX (.cells #[.int .i64 0,.int .i64 0] 58);have HSA:=Lib.hid ((hB.block _ (Array.getElem?_eq_some_iff.1 HSA.out).1).trans HSA.out);have HLW:=Lib.hid (HLW.out.below hB);have HI9:=Lib.hid (HI9.out.below hB);have HBW:=Lib.hid (join HBW.out hB);clear hB;obtain ⟨k0,k1,k2⟩:=blk3 HLW.out.prm;obtain ⟨k3,k4,k5⟩:=blk3 HLW.out.x7;obtain ⟨k6,k7,k8⟩:=blk3 HLW.out.x8;have y0:=blk_cells HSA.out 0 _ rfl;have y1:=blk_cells HSA.out 1 _ rfl;have z0:=blk_cells HSB.out 0 _ rfl;have z1:=blk_cells HSB.out 1 _ rfl;go_wp2_with fail
    refine (CRA.out p8 q8 pl a8 b8 cl _ HLW.out.r8 (HL.out.below HBW.out)).mono ?_;rintro e w2 ⟨rfl,hB⟩;have HSB:=Lib.hid ((hB.block _ (Array.getElem?_eq_some_iff.1 HSB.out).1).trans HSB.out);have HBY:=Lib.hid (join (below1 wX (.cells #[.int .i64 0,.int .i64 0] 58)) hB);clear k0 k1 k2 k3 k4 k5 k6 k7 k8 y0 y1 z0 z1;clear hB;have z0:=blk_cells HSB.out 0 _ rfl;have z1:=blk_cells HSB.out 1 _ rfl;have zf:∀ i,w2.frozen? ⟨wX.heap.size,i,none⟩=false:=fun i=>by simp [World.frozen?,HSB.out]
    have zs:wX.heap.size<w2.heap.size:=(Array.getElem?_eq_some_iff.1 HSB.out).1;obtain ⟨wY,hwY⟩:∃ wY,wY=(w2.setCell ⟨wX.heap.size,0,none⟩ (.int .i64 ab)).setCell ⟨wX.heap.size,1,none⟩ (.int .i64 ac):=⟨_,rfl⟩;have HBZ:Below wX.heap.size wX wY:=by rw [hwY];exact belS (belS HBY.out (Nat.le_refl _)) (Nat.le_refl _)
    have HSB2:Hid (wY.heap[wX.heap.size]?=some (.cells #[.int .i64 ab,.int .i64 ac] 58 (0,0))):=Lib.hid (by rw [hwY];exact heap_set_same _ (heap_set_same _ HSB.out));have HLW:=Lib.hid (HLX.out.below HBZ);have HI9:=Lib.hid (HIX.out.below HBZ);have HSA:=Lib.hid ((HBZ.block _ (Array.getElem?_eq_some_iff.1 HSX.out).1).trans HSX.out);have HBW:=Lib.hid (join HBX.out HBZ);clear HSB HBY HBZ HLX HIX HSX HBX;have HSB:=HSB2;clear HSB2;rw [hwY] at HLW HI9 HSA HBW HSB;clear hwY;obtain ⟨k0,k1,k2⟩:=blk3 HLW.out.prm;obtain ⟨k3,k4,k5⟩:=blk3 HLW.out.x7;obtain ⟨k6,k7,k8⟩:=blk3 HLW.out.x8;have y0:=blk_cells HSA.out 0 _ rfl;have y1:=blk_cells HSA.out 1 _ rfl;have z0:=blk_cells HSB.out 0 _ rfl;have z1:=blk_cells HSB.out 1 _ rfl;go_wp2_with fail
    refine (same_yes t hl1 hl2 p7 q7 pw pt a7 b7 cw ct _ HLW.out.r7 HLW.out.r0).mono ?_;rintro e w2 ⟨rfl,hB⟩;have HSA:=Lib.hid ((hB.block _ (Array.getElem?_eq_some_iff.1 HSA.out).1).trans HSA.out);have HSB:=Lib.hid ((hB.block _ (Array.getElem?_eq_some_iff.1 HSB.out).1).trans HSB.out);have HLW:=Lib.hid (HLW.out.below hB);have HI9:=Lib.hid (HI9.out.below hB);have HBW:=Lib.hid (join HBW.out hB);clear k0 k1 k2 k3 k4 k5 k6 k7 k8 y0 y1 z0 z1;clear hB;obtain ⟨k0,k1,k2⟩:=blk3 HLW.out.prm;obtain ⟨k3,k4,k5⟩:=blk3 HLW.out.x7;obtain ⟨k6,k7,k8⟩:=blk3 HLW.out.x8;have y0:=blk_cells HSA.out 0 _ rfl;have y1:=blk_cells HSA.out 1 _ rfl;have z0:=blk_cells HSB.out 0 _ rfl;have z1:=blk_cells HSB.out 1 _ rfl;go_wp2_with fail
    refine (Like_ints p9 pl c9 cl l l true (by simp) _ hl3 hl3 HI9.out (HL.out.below HBW.out)).mono ?_;rintro e w2 ⟨rfl,hB⟩;have HSA:=Lib.hid ((hB.block _ (Array.getElem?_eq_some_iff.1 HSA.out).1).trans HSA.out);have HSB:=Lib.hid ((hB.block _ (Array.getElem?_eq_some_iff.1 HSB.out).1).trans HSB.out);have HLW:=Lib.hid (HLW.out.below hB);have HI9:=Lib.hid (HI9.out.below hB);have HBW:=Lib.hid (join HBW.out hB);clear k0 k1 k2 k3 k4 k5 k6 k7 k8 y0 y1 z0 z1;clear hB;obtain ⟨k0,k1,k2⟩:=blk3 HLW.out.prm;obtain ⟨k3,k4,k5⟩:=blk3 HLW.out.x7;obtain ⟨k6,k7,k8⟩:=blk3 HLW.out.x8;have y0:=blk_cells HSA.out 0 _ rfl;have y1:=blk_cells HSA.out 1 _ rfl;have z0:=blk_cells HSB.out 0 _ rfl;have z1:=blk_cells HSB.out 1 _ rfl;go_wp2_with fail
    refine (awake_any _).mono ?_;rintro e w10 ⟨rfl,hB10⟩;have HBW:=Lib.hid (join HBW.out hB10);clear hB10;go_wp2;go_ret;exact ⟨rfl,HBW.out⟩
end Go.Proofs.YtadnggecnjdhiaaGreat
namespace Go.Proofs.YtadnggecnjdhiaaGreat
open Go.RowKit Tx
attribute [local go_sem] Oper.semAt_some
def spLl (t:Text) (pw pt:Option Addr) (cw ct B:Nat) :Nat→List Value→Value→World→Prop
 | 0,_,v,_=>v=.agg #[.slice pw t.words.length cw,.slice pt t.turns.length ct,.int .i64 t.breath]
 | 1,L,v,w=>∃ p q c d,v=.agg #[.slice p t.words.length c,.slice q t.turns.length d,.int .i64 t.breath]∧w.ownsRow B 61 3 (.slice p t.words.length c) t.words.length (wcells t.words)∧w.ownsRow B 63 3 (.slice q t.turns.length d) t.turns.length (tcells t.turns)∧t.words.length≤c∧c≤maxLen
 | 2,_,v,_=>v=.agg #[.slice pw t.words.length cw,.slice pt t.turns.length ct,.int .i64 t.breath]
 | 3,L,v,w=>∃ p q c d,v=.agg #[.slice p t.words.length c,.slice q t.turns.length d,.int .i64 t.breath]∧w.ownsRow B 80 3 (.slice p t.words.length c) t.words.length (wcells t.words)∧w.ownsRow B 81 3 (.slice q t.turns.length d) t.turns.length (tcells t.turns)
 | 4,L,v,w=>∃ p,v=.pointer (some ⟨p,0,none⟩)∧B≤p∧w.heap[p]?=some (.cells #[.slice none 0 0,.slice none 0 0,.int .i64 0] 25 (0,0))
 | 5,L,v,w=>∃ p,v=.pointer (some ⟨p,0,none⟩)∧B≤p∧w.heap[p]?=some (.cells #[.slice none 0 0,.slice none 0 0,.int .i64 0] 32 (0,0))
 | _,_,_,_=>False
theorem spLl_stable (t:Text) (pw pt:Option Addr) (cw ct B:Nat) :∀ i L v w w',spLl t pw pt cw ct B i L v w→Rs.Gr w w'→spLl t pw pt cw ct B i L v w':=by
 intro i L v w w' h hg
 match i with
 | 0=>exact h
 | 1=>obtain ⟨p,q,c,d,h1,h2,h3,h4⟩:=h;exact ⟨p,q,c,d,h1,own_below h2 hg,own_below h3 hg,h4⟩
 | 2=>exact h
 | 3=>obtain ⟨p,q,c,d,h1,h2,h3⟩:=h;exact ⟨p,q,c,d,h1,own_below h2 hg,own_below h3 hg⟩
 | 4=>obtain ⟨p,h1,h2,h3⟩:=h;exact ⟨p,h1,h2,(hg.block p (Array.getElem?_eq_some_iff.1 h3).1).trans h3⟩
 | 5=>obtain ⟨p,h1,h2,h3⟩:=h;exact ⟨p,h1,h2,(hg.block p (Array.getElem?_eq_some_iff.1 h3).1).trans h3⟩
theorem lea_len (t:Text) (wt:Int) (hl1:t.words.length≤1000000):(leaL t wt).length≤1000000:=by
 unfold leaL;split
 ·split
  ·simp
  ·unfold Text.least;cases hg:t.leastGo wt (List.range' 1 t.len) with
   | none=>simp
   | some l =>
    obtain ⟨h,-⟩:=(leastGo_spec t wt _ List.pairwise_lt_range').1 l hg;rw [List.mem_range'_1] at h;have:t.len=t.words.length:=rfl;dsimp only;omega
 ·simp
theorem spa_len (t:Text) (hl1:t.words.length≤1000000):(spaL t).length≤1000000:=by
 unfold spaL;split
 ·exact Nat.le_trans (spareTo_len t _) hl1
 ·simp
set_option maxHeartbeats 6000000 in
set_option maxRecDepth 100000 in
theorem TextLeast_any (t:Text) (wt:Int) (hm1:t.words.length≤9223372036854775807) (hm2:t.turns.length≤9223372036854775807) (pw pt:Option Addr) (cw ct:Nat) (w:World) (hW:TxAt w t pw pt) :
  Calls Tryz.prog 27 #[.agg #[.slice pw t.words.length cw,.slice pt t.turns.length ct,.int .i64 t.breath],.int .i64 wt] w fun e w'=>e=.returned (.bool true)∧Below w.heap.size w w':=by
 have HW:=Lib.hid hW;have HB0:=Lib.hid (below1 w (.cells #[.slice pw t.words.length cw,.slice pt t.turns.length ct,.int .i64 t.breath] 25));have HX0:=Lib.hid (heap_last w (.cells #[.slice pw t.words.length cw,.slice pt t.turns.length ct,.int .i64 t.breath] 25));have HG:=Lib.hid (fun W=>great_any t 10 hm1 hm2 pw pt cw ct W);have HN:=Lib.hid (great_no (t:=t) (n:=10));generalize greatB t 10=gb at HG HN;clear hW;cases gb with
 | true =>
  obtain ⟨k0,k1,k2⟩:=blk3 HX0.out
  go_enter Tryz.func27,Tryz.ntmps27
  go_wp2_with fail
  refine (HG.out _).mono ?_;rintro e w1 ⟨rfl,hB⟩;have HB1:=Lib.hid (join HB0.out hB);clear hB k0 k1 k2;go_wp2_with fail
  refine (awake_any w1).mono ?_;rintro e w2 ⟨rfl,hB⟩;have HB2:=Lib.hid (join HB1.out hB);clear hB;go_wp2;go_ret;exact ⟨rfl,HB2.out⟩
 | false =>
  have hn:=HN.out rfl;clear HN;have hl1:t.words.length≤1000000:=by omega
  have hl2:t.turns.length≤1000000:=by omega
  have hsl:=lea_len t wt hl1;have hpl:=spa_len t hl1;have CLE:=Lib.hid (fun p q c d hc W (h:TxAt W t p q)=>Least_any t wt hl1 hl2 p q c d hc W h);have CRL:=Lib.hid (fun p q c d W (h:TxAt W t p q)=>rLeast_any t wt hl1 hl2 p q c d W h);have CSP:=Lib.hid (fun p q c d W (h:TxAt W t p q)=>Spare_any t hl1 hl2 p q c d W h);have CRS:=Lib.hid (fun p q c d W (h:TxAt W t p q)=>rSpare_any t hl1 hl2 p q c d W h);generalize leaL t wt=sl at hsl CLE CRL;generalize leaE t wt=se at CLE CRL;generalize spaL t=pl at hpl CSP CRS;generalize t.err=er at CSP CRS;obtain ⟨k0,k1,k2⟩:=blk3 HX0.out
  go_enter Tryz.func27,Tryz.ntmps27
  go_wp2_with fail
  refine (HG.out _).mono ?_;rintro e w1 ⟨rfl,hB⟩;have HX1:=Lib.hid ((hB.block w.heap.size (Array.getElem?_eq_some_iff.1 HX0.out).1).trans HX0.out);have HB1:=Lib.hid (join HB0.out hB);have HZ0:w.heap.size<w1.heap.size:=(Array.getElem?_eq_some_iff.1 HX1.out).1;clear hB k0 k1 k2 HX0 HB0 HG;go_wp2_with fail
  refine Rs.region_gen 6 [[],[0],[],[0,1,2],[],[]] [some 14,some 15,some 16,some 17,some 5,some 6] (spLl t pw pt cw ct w1.heap.size) (by kernel_rfl) (by kernel_rfl) rfl (spLl_stable _ _ _ _ _ _) ?_ ?_
  ·refine ⟨fun V w' hG hs=>?_,fun V w' hG hs=>?_,fun V w' hG hs=>?_,fun V w' hG hs=>?_,fun V w' hG hs=>?_,fun V w' hG hs=>?_,trivial⟩
   all_goals
    obtain ⟨k0,k1,k2⟩:=blk3 ((hG.block w.heap.size HZ0).trans HX1.out)
   ·rw [if_pos (by rfl)];exact Rs.GrowL.value (v:=.agg #[.slice pw t.words.length cw,.slice pt t.turns.length ct,.int .i64 t.breath]) (w':=w') (by simp [go_sem,Rs.look,k0,k1,k2]) (Rs.Gr.refl _) rfl
   ·have e0:V 0=_:=hs 0 (by simp);rw [if_pos (by rfl)];refine Rs.GrowL.call (f:=7) (args:=#[.agg #[.slice pw t.words.length cw,.slice pt t.turns.length ct,.int .i64 t.breath]]) (by simp [go_sem,Rs.look,e0]) ?_;refine (lCopy_any t hl1 hl2 pw pt cw ct w' (HW.out.below (join HB1.out hG))).mono ?_;rintro e w2 ⟨g,h,rfl,o1,o2,hB2⟩;exact ⟨_,rfl,hB2,_,_,_,_,rfl,own_base o1 hG.size,own_base o2 hG.size,Nat.le_refl _,by unfold maxLen;omega⟩
   ·rw [if_pos (by rfl)];exact Rs.GrowL.value (v:=.agg #[.slice pw t.words.length cw,.slice pt t.turns.length ct,.int .i64 t.breath]) (w':=w') (by simp [go_sem,Rs.look,k0,k1,k2]) (Rs.Gr.refl _) rfl
   ·have e0:V 0=_:=hs 0 (by simp);have r1:=hs 1 (by simp);have e2:V 2=_:=hs 2 (by simp);rw [if_pos (by rfl)];refine Rs.GrowL.call (f:=8) (args:=#[.agg #[.slice pw t.words.length cw,.slice pt t.turns.length ct,.int .i64 t.breath]]) (by simp [go_sem,Rs.look,e2]) ?_;refine (theirs_any t hl1 hl2 pw pt cw ct w' (HW.out.below (join HB1.out hG))).mono ?_;rintro e w2 ⟨p,q,c,d,rfl,o1,o2,hB2⟩;exact ⟨_,rfl,hB2,_,_,_,_,rfl,own_base o1 hG.size,own_base o2 hG.size⟩
   ·rw [if_pos (by rfl)];exact Rs.GrowL.value (v:=.pointer (some ⟨w'.heap.size,0,none⟩)) (w':=w'.alloc (.cells #[.slice none 0 0,.slice none 0 0,.int .i64 0] 25)) (by simp [go_sem,Rs.look]) (below1 _ _) ⟨_,rfl,hG.size,heap_last _ _⟩
   ·rw [if_pos (by rfl)];exact Rs.GrowL.value (v:=.pointer (some ⟨w'.heap.size,0,none⟩)) (w':=w'.alloc (.cells #[.slice none 0 0,.slice none 0 0,.int .i64 0] 32)) (by simp [go_sem,Rs.look]) (below1 _ _) ⟨_,rfl,hG.size,heap_last _ _⟩
  ·intro V w' hG hs;have e0:V 0=_:=hs 0 (by omega);have r1:=hs 1 (by omega);have e2:V 2=_:=hs 2 (by omega);have r3:=hs 3 (by omega);have r4:=hs 4 (by omega);have r5:=hs 5 (by omega);obtain ⟨p7,q7,a7,b7,e1,o1,o2,hcw⟩:=r1;obtain ⟨p8,q8,a8,b8,e3,o3,o4⟩:=r3;obtain ⟨c7,e4,hc7,x7⟩:=r4;obtain ⟨c8,e5,hc8,x8⟩:=r5;simp only [Rs.canon,Rs.dstOf,List.range_succ,List.range_zero,List.nil_append,List.cons_append,List.foldl_cons,List.foldl_nil,List.drop_succ_cons,List.drop_zero,List.drop_nil,List.getElem?_toArray,List.getElem?_cons_succ,List.getElem?_cons_zero,Option.bind_some,Act.put,List.getD_cons_succ,List.getD_cons_zero,List.setIfInBounds_toArray,List.set_cons_succ,List.set_cons_zero];rw [e0,e1,e2,e3,e4,e5];clear e0 e1 e2 e3 e4 e5 hs;have hne:c7≠c8:=fun e=>by rw [e,x8] at x7;injection x7 with h;injection h with _ h;cases h
   have hz2:=hG.size;have hz1:=HB1.out.size;have HBx:=Lib.hid (join HB1.out hG);have hAx:=(hG.block w.heap.size HZ0).trans HX1.out;have HLW:=Lib.hid (LwT.start hAx (by omega) (by omega) x7 x8 o1 o2 o3 o4 HW.out HBx.out (by omega) (by omega));have HBW:=Lib.hid (lwSet_bel HBx.out (show w.heap.size≤c7 by omega) (show w.heap.size≤c8 by omega) (.slice p7 t.words.length a7) (.slice q7 t.turns.length b7) (.int .i64 t.breath) (.slice p8 t.words.length a8) (.slice q8 t.turns.length b8) (.int .i64 t.breath));have f7:∀ i,w'.frozen? ⟨c7,i,none⟩=false:=fun i=>by simp [World.frozen?,x7]
   have f8:∀ i,w'.frozen? ⟨c8,i,none⟩=false:=fun i=>by simp [World.frozen?,x8]
   obtain ⟨m0,m1,m2⟩:=blk3 x7;obtain ⟨n0,n1,n2⟩:=blk3 x8;have h7:c7<w'.heap.size:=(Array.getElem?_eq_some_iff.1 x7).1;have h8:c8<w'.heap.size:=(Array.getElem?_eq_some_iff.1 x8).1;clear o1 o2 o3 o4 x7 x8 hAx hz2 hz1 HX1 HB1 HBx;clear hG;go_wp2_with fail
   refine calls_named fun W hW=>?_;have hW2:W=lwSet w' c7 c8 (.slice p7 t.words.length a7) (.slice q7 t.turns.length b7) (.int .i64 t.breath) (.slice p8 t.words.length a8) (.slice q8 t.turns.length b8) (.int .i64 t.breath):=hW;rw [← hW2] at HLW HBW;clear hW hW2 f7 f8 m0 m1 m2 n0 n1 n2 h7 h8;obtain ⟨k0,k1,k2⟩:=blk3 HLW.out.prm;obtain ⟨k3,k4,k5⟩:=blk3 HLW.out.x7;obtain ⟨k6,k7,k8⟩:=blk3 HLW.out.x8;refine (CLE.out p7 q7 a7 b7 ⟨hcw.1,hcw.2⟩ _ HLW.out.r7).mono ?_;rintro e w2 ⟨v18,rfl,ho,hB⟩;have HLW:=Lib.hid (HLW.out.below hB);have HBW:=Lib.hid (join HBW.out hB);obtain ⟨p18,c18,rfl,H18,-⟩:=own_rd ho rfl;have H18:=Lib.hid H18;clear k0 k1 k2 k3 k4 k5 k6 k7 k8;clear hB ho;obtain ⟨k0,k1,k2⟩:=blk3 HLW.out.prm;obtain ⟨k3,k4,k5⟩:=blk3 HLW.out.x7;obtain ⟨k6,k7,k8⟩:=blk3 HLW.out.x8;go_wp2_with fail
   refine (CRL.out p8 q8 a8 b8 _ HLW.out.r8).mono ?_;rintro e w2 ⟨p19,c19,rfl,H19,hB⟩;have HLW:=Lib.hid (HLW.out.below hB);have H18:=Lib.hid (H18.out.below hB);have HBW:=Lib.hid (join HBW.out hB);have H19:=Lib.hid H19;clear k0 k1 k2 k3 k4 k5 k6 k7 k8;clear hB;obtain ⟨k0,k1,k2⟩:=blk3 HLW.out.prm;obtain ⟨k3,k4,k5⟩:=blk3 HLW.out.x7;obtain ⟨k6,k7,k8⟩:=blk3 HLW.out.x8;go_wp2_with fail
   refine (Like_ints p18 p19 c18 c19 sl sl true (by simp) _ hsl hsl H18.out H19.out).mono ?_;rintro e w2 ⟨rfl,hB⟩;have HLW:=Lib.hid (HLW.out.below hB);have HBW:=Lib.hid (join HBW.out hB);clear k0 k1 k2 k3 k4 k5 k6 k7 k8;clear hB H18 H19;obtain ⟨k0,k1,k2⟩:=blk3 HLW.out.prm;obtain ⟨k3,k4,k5⟩:=blk3 HLW.out.x7;obtain ⟨k6,k7,k8⟩:=blk3 HLW.out.x8;go_wp2_with fail
   refine (CSP.out p7 q7 a7 b7 _ HLW.out.r7).mono ?_;rintro e w2 ⟨v18,rfl,ho,hB⟩;have HLW:=Lib.hid (HLW.out.below hB);have HBW:=Lib.hid (join HBW.out hB);obtain ⟨p18,c18,rfl,H18,-⟩:=own_rd ho rfl;have H18:=Lib.hid H18;clear k0 k1 k2 k3 k4 k5 k6 k7 k8;clear hB ho;obtain ⟨k0,k1,k2⟩:=blk3 HLW.out.prm;obtain ⟨k3,k4,k5⟩:=blk3 HLW.out.x7;obtain ⟨k6,k7,k8⟩:=blk3 HLW.out.x8;go_wp2_with fail
   refine (CRS.out p8 q8 a8 b8 _ HLW.out.r8).mono ?_;rintro e w2 ⟨v19,rfl,ho,hB⟩;have HLW:=Lib.hid (HLW.out.below hB);have H18:=Lib.hid (H18.out.below hB);have HBW:=Lib.hid (join HBW.out hB);obtain ⟨p19,c19,rfl,H19,-⟩:=own_rd ho rfl;have H19:=Lib.hid H19;clear k0 k1 k2 k3 k4 k5 k6 k7 k8;clear hB ho;obtain ⟨k0,k1,k2⟩:=blk3 HLW.out.prm;obtain ⟨k3,k4,k5⟩:=blk3 HLW.out.x7;obtain ⟨k6,k7,k8⟩:=blk3 HLW.out.x8;go_wp2_with fail
   refine (Like_ints p18 p19 c18 c19 pl pl true (by simp) _ hpl hpl H18.out H19.out).mono ?_;rintro e w2 ⟨rfl,hB⟩;have HLW:=Lib.hid (HLW.out.below hB);have HBW:=Lib.hid (join HBW.out hB);clear k0 k1 k2 k3 k4 k5 k6 k7 k8;clear hB H18 H19;obtain ⟨k0,k1,k2⟩:=blk3 HLW.out.prm;obtain ⟨k3,k4,k5⟩:=blk3 HLW.out.x7;obtain ⟨k6,k7,k8⟩:=blk3 HLW.out.x8;go_wp2_with fail
   refine (same_yes t hl1 hl2 p7 q7 pw pt a7 b7 cw ct _ HLW.out.r7 HLW.out.r0).mono ?_;rintro e w2 ⟨rfl,hB⟩;have HLW:=Lib.hid (HLW.out.below hB);have HBW:=Lib.hid (join HBW.out hB);clear k0 k1 k2 k3 k4 k5 k6 k7 k8;clear hB;obtain ⟨k0,k1,k2⟩:=blk3 HLW.out.prm;obtain ⟨k3,k4,k5⟩:=blk3 HLW.out.x7;obtain ⟨k6,k7,k8⟩:=blk3 HLW.out.x8;go_wp2_with fail
   refine (awake_any _).mono ?_;rintro e w10 ⟨rfl,hB10⟩;have HBW:=Lib.hid (join HBW.out hB10);clear hB10;go_wp2;go_ret;exact ⟨rfl,HBW.out⟩
end Go.Proofs.YtadnggecnjdhiaaGreat
namespace Go.Proofs.YtadnggecnjdhiaaGreat
open Go.RowKit Tx
attribute [local go_sem] Oper.semAt_some
def spLf (t:Text) (pw pt:Option Addr) (cw ct B:Nat) :Nat→List Value→Value→World→Prop
 | 0,_,v,_=>v=.agg #[.slice pw t.words.length cw,.slice pt t.turns.length ct,.int .i64 t.breath]
 | 1,L,v,w=>∃ p q c d,v=.agg #[.slice p t.words.length c,.slice q t.turns.length d,.int .i64 t.breath]∧w.ownsRow B 61 3 (.slice p t.words.length c) t.words.length (wcells t.words)∧w.ownsRow B 63 3 (.slice q t.turns.length d) t.turns.length (tcells t.turns)∧t.words.length≤c∧c≤maxLen
 | 2,_,v,_=>v=.agg #[.slice pw t.words.length cw,.slice pt t.turns.length ct,.int .i64 t.breath]
 | 3,L,v,w=>∃ p q c d,v=.agg #[.slice p t.words.length c,.slice q t.turns.length d,.int .i64 t.breath]∧w.ownsRow B 80 3 (.slice p t.words.length c) t.words.length (wcells t.words)∧w.ownsRow B 81 3 (.slice q t.turns.length d) t.turns.length (tcells t.turns)
 | 4,L,v,w=>∃ p,v=.pointer (some ⟨p,0,none⟩)∧B≤p∧w.heap[p]?=some (.cells #[.slice none 0 0,.slice none 0 0,.int .i64 0] 25 (0,0))
 | 5,L,v,w=>∃ p,v=.pointer (some ⟨p,0,none⟩)∧B≤p∧w.heap[p]?=some (.cells #[.slice none 0 0,.slice none 0 0,.int .i64 0] 32 (0,0))
 | _,_,_,_=>False
theorem spLf_stable (t:Text) (pw pt:Option Addr) (cw ct B:Nat) :∀ i L v w w',spLf t pw pt cw ct B i L v w→Rs.Gr w w'→spLf t pw pt cw ct B i L v w':=by
 intro i L v w w' h hg
 match i with
 | 0=>exact h
 | 1=>obtain ⟨p,q,c,d,h1,h2,h3,h4⟩:=h;exact ⟨p,q,c,d,h1,own_below h2 hg,own_below h3 hg,h4⟩
 | 2=>exact h
 | 3=>obtain ⟨p,q,c,d,h1,h2,h3⟩:=h;exact ⟨p,q,c,d,h1,own_below h2 hg,own_below h3 hg⟩
 | 4=>obtain ⟨p,h1,h2,h3⟩:=h;exact ⟨p,h1,h2,(hg.block p (Array.getElem?_eq_some_iff.1 h3).1).trans h3⟩
 | 5=>obtain ⟨p,h1,h2,h3⟩:=h;exact ⟨p,h1,h2,(hg.block p (Array.getElem?_eq_some_iff.1 h3).1).trans h3⟩
structure FewF (t:Text) (R:List (List Int)) (B:Nat):Prop where
 rr:rightsR t=R
 bb:bestLen R 0=B
 fl:(fewL t).length=B
 fe:fewE t=if B=0 then 6 else 0
 fw:B≠0→(wrongR t (fewL t)).2.2=6
 cn:cntN t=(R.length:Int)
 nl:nevL t=if B=0 then [] else nevTo R t.words.length
 ne:nevE t=if B=0 then 6 else 0
 b12:B≤12
 r12:R.length≤100000
 rp:∀ l∈R,Parts t.words.length l
theorem few_facts {t:Text} (he:t.err=0):FewF t (rightsR t) (bestLen (rightsR t) 0):=by
 have ok:=err_ok he;have hR:=rightsR_eq ok he;obtain ⟨f1,f2,f3,f4⟩:=fewest_rights (may:=t.right) ok.n1 ok.n12;have hne:=rights_ne (may:=t.right) ok.n1;have hz:=bestLen_zero (rights t.right t.words.length) 0 hne;have hcnt:=count_rights t.right t.words.length;have hlen:∀ l∈rightsR t,l.length≤12:=fun l hl=>by
  rw [hR] at hl;have h1:=(mem_rights.1 hl).1;have:=isum_ge h1.1;have:=h1.2;have:=ok.n12;omega
 have eL:fewL t=(Tx.fewest t.right t.words.length).1:=by unfold fewL;rw [if_pos he]
 have eE:fewE t=(Tx.fewest t.right t.words.length).2:=by unfold fewE;rw [if_pos he]
 have hB0:bestLen (rightsR t) 0=0↔rightsR t=[]:=by rw [hR,hz];simp
 refine ⟨rfl,rfl,by rw [eL,f1,hR],by rw [eE,f2,hR],fun hB=>?_,?_,?_,?_,bestLen_le _ 12 0 (by omega) hlen,?_,fun l hl=>by rw [hR] at hl;exact (mem_rights.1 hl).1⟩
 ·have hmem:fewL t∈rightsR t:=by
   rw [eL,hR];apply f3;rw [f2,if_neg (by rw [← hR];exact hB)]
  unfold rightsR at hmem;have:=(List.mem_filter.1 hmem).2;unfold okR at this;exact of_decide_eq_true this
 ·unfold cntN;rw [if_pos he,hcnt,hR]
 ·unfold nevL Tx.unbroken;rw [if_pos he,hcnt];by_cases h0:rightsR t=[]
  ·rw [← hR,h0];rfl
  ·rw [← hR,if_neg (by intro e;exact h0 (List.length_eq_zero_iff.1 e)),if_neg (fun e=>h0 (hB0.1 e))];unfold nevTo;dsimp only
   congr 1
   refine List.filter_congr fun q hq=>?_;rw [List.mem_range'_1] at hq;rw [unbr_rights ok.n12 (by omega) (by omega),hR]
 ·unfold nevE Tx.unbroken;rw [if_pos he,hcnt];by_cases h0:rightsR t=[]
  ·rw [← hR,h0];rfl
  ·rw [← hR,if_neg (by intro e;exact h0 (List.length_eq_zero_iff.1 e)),if_neg (fun e=>h0 (hB0.1 e))]
 ·unfold rightsR;have h1:=List.length_filter_le (okR t) (compF t.words.length t.words.length);have h2:=Nat.le_trans (comp_len t.words.length t.words.length) (Nat.pow_le_pow_right (show 0<2 by omega) ok.n12);omega
set_option maxHeartbeats 6000000 in
set_option maxRecDepth 100000 in
theorem TextFewest_any (t:Text) (hm1:t.words.length≤9223372036854775807) (hm2:t.turns.length≤9223372036854775807) (pw pt:Option Addr) (cw ct:Nat) (w:World) (hW:TxAt w t pw pt) :
  Calls Tryz.prog 28 #[.agg #[.slice pw t.words.length cw,.slice pt t.turns.length ct,.int .i64 t.breath]] w fun e w'=>e=.returned (.bool true)∧Below w.heap.size w w':=by
 have HW:=Lib.hid hW;have HB0:=Lib.hid (below1 w (.cells #[.slice pw t.words.length cw,.slice pt t.turns.length ct,.int .i64 t.breath] 25));have HX0:=Lib.hid (heap_last w (.cells #[.slice pw t.words.length cw,.slice pt t.turns.length ct,.int .i64 t.breath] 25));have HG:=Lib.hid (fun W=>great_any t 10 hm1 hm2 pw pt cw ct W);have HN:=Lib.hid (great_no (t:=t) (n:=10));generalize greatB t 10=gb at HG HN;clear hW;cases gb with
 | true =>
  obtain ⟨k0,k1,k2⟩:=blk3 HX0.out
  go_enter Tryz.func28,Tryz.ntmps28
  go_wp2_with fail
  refine (HG.out _).mono ?_;rintro e w1 ⟨rfl,hB⟩;have HB1:=Lib.hid (join HB0.out hB);clear hB k0 k1 k2;go_wp2_with fail
  refine (awake_any w1).mono ?_;rintro e w2 ⟨rfl,hB⟩;have HB2:=Lib.hid (join HB1.out hB);clear hB;go_wp2;go_ret;exact ⟨rfl,HB2.out⟩
 | false =>
  have hn:=HN.out rfl;clear HN;have hl1:t.words.length≤1000000:=by omega
  have hl2:t.turns.length≤1000000:=by omega
  have CFE:=Lib.hid (fun p q c d hc W (h:TxAt W t p q)=>Fewest_any t hl1 hl2 p q c d hc W h);have CCO:=Lib.hid (fun p q c d hc W (h:TxAt W t p q)=>Count_any t hl1 hl2 p q c d hc W h);have CNE:=Lib.hid (fun p q c d hc W (h:TxAt W t p q)=>Never_any t hl1 hl2 p q c d hc W h);have CCK:=Lib.hid (fun p q c d W (h:TxAt W t p q)=>rCheck_any t hl1 hl2 p q c d W h);obtain ⟨er,her⟩:∃ er,t.err=er:=⟨_,rfl⟩;rw [her] at CCO CCK;obtain ⟨k0,k1,k2⟩:=blk3 HX0.out
  go_enter Tryz.func28,Tryz.ntmps28
  go_wp2_with fail
  refine (HG.out _).mono ?_;rintro e w1 ⟨rfl,hB⟩;have HX1:=Lib.hid ((hB.block w.heap.size (Array.getElem?_eq_some_iff.1 HX0.out).1).trans HX0.out);have HB1:=Lib.hid (join HB0.out hB);have HZ0:w.heap.size<w1.heap.size:=(Array.getElem?_eq_some_iff.1 HX1.out).1;clear hB k0 k1 k2 HX0 HB0 HG;go_wp2_with fail
  refine Rs.region_gen 6 [[],[0],[],[0,1,2],[],[]] [some 21,some 22,some 23,some 24,some 3,some 4] (spLf t pw pt cw ct w1.heap.size) (by kernel_rfl) (by kernel_rfl) rfl (spLf_stable _ _ _ _ _ _) ?_ ?_
  ·refine ⟨fun V w' hG hs=>?_,fun V w' hG hs=>?_,fun V w' hG hs=>?_,fun V w' hG hs=>?_,fun V w' hG hs=>?_,fun V w' hG hs=>?_,trivial⟩
   all_goals
    obtain ⟨k0,k1,k2⟩:=blk3 ((hG.block w.heap.size HZ0).trans HX1.out)
   ·rw [if_pos (by rfl)];exact Rs.GrowL.value (v:=.agg #[.slice pw t.words.length cw,.slice pt t.turns.length ct,.int .i64 t.breath]) (w':=w') (by simp [go_sem,Rs.look,k0,k1,k2]) (Rs.Gr.refl _) rfl
   ·have e0:V 0=_:=hs 0 (by simp);rw [if_pos (by rfl)];refine Rs.GrowL.call (f:=7) (args:=#[.agg #[.slice pw t.words.length cw,.slice pt t.turns.length ct,.int .i64 t.breath]]) (by simp [go_sem,Rs.look,e0]) ?_;refine (lCopy_any t hl1 hl2 pw pt cw ct w' (HW.out.below (join HB1.out hG))).mono ?_;rintro e w2 ⟨g,h,rfl,o1,o2,hB2⟩;exact ⟨_,rfl,hB2,_,_,_,_,rfl,own_base o1 hG.size,own_base o2 hG.size,Nat.le_refl _,by unfold maxLen;omega⟩
   ·rw [if_pos (by rfl)];exact Rs.GrowL.value (v:=.agg #[.slice pw t.words.length cw,.slice pt t.turns.length ct,.int .i64 t.breath]) (w':=w') (by simp [go_sem,Rs.look,k0,k1,k2]) (Rs.Gr.refl _) rfl
   ·have e0:V 0=_:=hs 0 (by simp);have r1:=hs 1 (by simp);have e2:V 2=_:=hs 2 (by simp);rw [if_pos (by rfl)];refine Rs.GrowL.call (f:=8) (args:=#[.agg #[.slice pw t.words.length cw,.slice pt t.turns.length ct,.int .i64 t.breath]]) (by simp [go_sem,Rs.look,e2]) ?_;refine (theirs_any t hl1 hl2 pw pt cw ct w' (HW.out.below (join HB1.out hG))).mono ?_;rintro e w2 ⟨p,q,c,d,rfl,o1,o2,hB2⟩;exact ⟨_,rfl,hB2,_,_,_,_,rfl,own_base o1 hG.size,own_base o2 hG.size⟩
   ·rw [if_pos (by rfl)];exact Rs.GrowL.value (v:=.pointer (some ⟨w'.heap.size,0,none⟩)) (w':=w'.alloc (.cells #[.slice none 0 0,.slice none 0 0,.int .i64 0] 25)) (by simp [go_sem,Rs.look]) (below1 _ _) ⟨_,rfl,hG.size,heap_last _ _⟩
   ·rw [if_pos (by rfl)];exact Rs.GrowL.value (v:=.pointer (some ⟨w'.heap.size,0,none⟩)) (w':=w'.alloc (.cells #[.slice none 0 0,.slice none 0 0,.int .i64 0] 32)) (by simp [go_sem,Rs.look]) (below1 _ _) ⟨_,rfl,hG.size,heap_last _ _⟩
  ·intro V w' hG hs;have e0:V 0=_:=hs 0 (by omega);have r1:=hs 1 (by omega);have e2:V 2=_:=hs 2 (by omega);have r3:=hs 3 (by omega);have r4:=hs 4 (by omega);have r5:=hs 5 (by omega);obtain ⟨p7,q7,a7,b7,e1,o1,o2,hcw⟩:=r1;obtain ⟨p8,q8,a8,b8,e3,o3,o4⟩:=r3;obtain ⟨c7,e4,hc7,x7⟩:=r4;obtain ⟨c8,e5,hc8,x8⟩:=r5;simp only [Rs.canon,Rs.dstOf,List.range_succ,List.range_zero,List.nil_append,List.cons_append,List.foldl_cons,List.foldl_nil,List.drop_succ_cons,List.drop_zero,List.drop_nil,List.getElem?_toArray,List.getElem?_cons_succ,List.getElem?_cons_zero,Option.bind_some,Act.put,List.getD_cons_succ,List.getD_cons_zero,List.setIfInBounds_toArray,List.set_cons_succ,List.set_cons_zero];rw [e0,e1,e2,e3,e4,e5];clear e0 e1 e2 e3 e4 e5 hs;have hne:c7≠c8:=fun e=>by rw [e,x8] at x7;injection x7 with h;injection h with _ h;cases h
   have hz2:=hG.size;have hz1:=HB1.out.size;have HBx:=Lib.hid (join HB1.out hG);have hAx:=(hG.block w.heap.size HZ0).trans HX1.out;have HLW:=Lib.hid (LwT.start hAx (by omega) (by omega) x7 x8 o1 o2 o3 o4 HW.out HBx.out (by omega) (by omega));have HBW:=Lib.hid (lwSet_bel HBx.out (show w.heap.size≤c7 by omega) (show w.heap.size≤c8 by omega) (.slice p7 t.words.length a7) (.slice q7 t.turns.length b7) (.int .i64 t.breath) (.slice p8 t.words.length a8) (.slice q8 t.turns.length b8) (.int .i64 t.breath));have f7:∀ i,w'.frozen? ⟨c7,i,none⟩=false:=fun i=>by simp [World.frozen?,x7]
   have f8:∀ i,w'.frozen? ⟨c8,i,none⟩=false:=fun i=>by simp [World.frozen?,x8]
   obtain ⟨m0,m1,m2⟩:=blk3 x7;obtain ⟨n0,n1,n2⟩:=blk3 x8;have h7:c7<w'.heap.size:=(Array.getElem?_eq_some_iff.1 x7).1;have h8:c8<w'.heap.size:=(Array.getElem?_eq_some_iff.1 x8).1;clear o1 o2 o3 o4 x7 x8 hAx hz2 hz1 HX1 HB1 HBx;clear hG;go_wp2_with fail
   refine calls_named fun W hW=>?_;have hW2:W=lwSet w' c7 c8 (.slice p7 t.words.length a7) (.slice q7 t.turns.length b7) (.int .i64 t.breath) (.slice p8 t.words.length a8) (.slice q8 t.turns.length b8) (.int .i64 t.breath):=hW;rw [← hW2] at HLW HBW;clear hW hW2 f7 f8 m0 m1 m2 n0 n1 n2 h7 h8;rcases (Decidable.em (er=0)).symm with he | he
   ·have HER:(er != 0)=true:=by simpa using he
    rw [show fewL t=[] from by unfold fewL;rw [her];exact if_neg he,show fewE t=er from by unfold fewE;rw [her];exact if_neg he] at CFE;rw [show cntN t=0 from by unfold cntN;rw [her];exact if_neg he] at CCO;rw [show nevL t=[] from by unfold nevL;rw [her];exact if_neg he,show nevE t=er from by unfold nevE;rw [her];exact if_neg he] at CNE;clear her he;obtain ⟨k0,k1,k2⟩:=blk3 HLW.out.prm;obtain ⟨k3,k4,k5⟩:=blk3 HLW.out.x7;obtain ⟨k6,k7,k8⟩:=blk3 HLW.out.x8;refine (CFE.out p7 q7 a7 b7 ⟨hcw.1,hcw.2⟩ _ HLW.out.r7).mono ?_;rintro e w2 ⟨v18,rfl,ho,hB⟩;have HLW:=Lib.hid (HLW.out.below hB);have HBW:=Lib.hid (join HBW.out hB);obtain ⟨p18,c18,rfl,H18,-⟩:=own_rd ho rfl;have H18:=Lib.hid H18;clear k0 k1 k2 k3 k4 k5 k6 k7 k8;clear hB ho;obtain ⟨k0,k1,k2⟩:=blk3 HLW.out.prm;obtain ⟨k3,k4,k5⟩:=blk3 HLW.out.x7;obtain ⟨k6,k7,k8⟩:=blk3 HLW.out.x8;go_wp2_with fail
    refine (CCO.out p7 q7 a7 b7 ⟨hcw.1,hcw.2⟩ _ HLW.out.r7).mono ?_;rintro e w2 ⟨rfl,hB⟩;have HLW:=Lib.hid (HLW.out.below hB);have H18:=Lib.hid (H18.out.below hB);have HBW:=Lib.hid (join HBW.out hB);clear k0 k1 k2 k3 k4 k5 k6 k7 k8;clear hB;obtain ⟨k0,k1,k2⟩:=blk3 HLW.out.prm;obtain ⟨k3,k4,k5⟩:=blk3 HLW.out.x7;obtain ⟨k6,k7,k8⟩:=blk3 HLW.out.x8;go_wp2_with fail
    refine (CNE.out p7 q7 a7 b7 ⟨hcw.1,hcw.2⟩ _ HLW.out.r7).mono ?_;rintro e w2 ⟨v19,rfl,ho,hB⟩;have HLW:=Lib.hid (HLW.out.below hB);have H18:=Lib.hid (H18.out.below hB);have HBW:=Lib.hid (join HBW.out hB);obtain ⟨p19,c19,rfl,H19,-⟩:=own_rd ho rfl;have H19:=Lib.hid H19;clear k0 k1 k2 k3 k4 k5 k6 k7 k8;clear hB ho;obtain ⟨k0,k1,k2⟩:=blk3 HLW.out.prm;obtain ⟨k3,k4,k5⟩:=blk3 HLW.out.x7;obtain ⟨k6,k7,k8⟩:=blk3 HLW.out.x8;go_wp2_with fail
    refine (CCK.out p8 q8 a8 b8 _ HLW.out.r8).mono ?_;rintro e w2 ⟨rfl,hB⟩;have HLW:=Lib.hid (HLW.out.below hB);have H18:=Lib.hid (H18.out.below hB);have H19:=Lib.hid (H19.out.below hB);have HBW:=Lib.hid (join HBW.out hB);clear k0 k1 k2 k3 k4 k5 k6 k7 k8;clear hB;obtain ⟨k0,k1,k2⟩:=blk3 HLW.out.prm;obtain ⟨k3,k4,k5⟩:=blk3 HLW.out.x7;obtain ⟨k6,k7,k8⟩:=blk3 HLW.out.x8;go_wp2_with fail
    refine (awake_any _).mono ?_;rintro e w10 ⟨rfl,hB10⟩;have HBW:=Lib.hid (join HBW.out hB10);clear hB10;go_wp2;go_ret;exact ⟨rfl,HBW.out⟩
   subst he;have F:=few_facts her;have hn1:=(err_ok her).n1;have hn12:=(err_ok her).n12;have CRI:=Lib.hid (fun p q c d W (h:TxAt W t p q)=>Right_any t (by omega) hl2 p q c d W h);have CRF:=Lib.hid (fun p c W (h:LLs W p (rightsR t))=>rFewest_any (rightsR t) (by have:=F.r12;omega) (fun l hl=>by have h1:=F.rp l hl;have:=isum_ge h1.1;have:=h1.2;omega) p c W h);have CRW:=Lib.hid (fun p q r c d e W (h:TxAt W t p q) (hL:Ints W r (fewL t))=>rWrong_any t (fewL t) hl1 hl2 (by have:=F.fl;have:=F.b12;omega) p q r c d e W h hL);have CRN:=Lib.hid (fun pw cw v1 v2 p c W (h:LLs W p (rightsR t))=>rNever_any t.words.length hn1 hn12 (rightsR t) (by have:=F.r12;omega) F.rp pw cw v1 v2 p c W h);have hnl0:(nevL t).length≤1000000:=by
    rw [F.nl];split
    ·simp
    ·have:=nevTo_len (rightsR t) t.words.length;omega
   have HF:=Lib.hid F;rw [F.fe] at CFE;rw [F.cn] at CCO;rw [F.ne] at CNE;generalize rightsR t=R at CRI CRF CRN HF CCO CFE CNE hnl0 F;generalize bestLen R 0=B at CRF HF CFE CNE F;have hlB:(((fewL t).length:Int) != (B:Int))=false:=by rw [HF.out.fl];simp
   have hflen:(fewL t).length≤1000000:=by have:=HF.out.fl;have:=HF.out.b12;omega
   rcases Nat.eq_zero_or_pos B with hB0 | hB0
   ·subst hB0;rw [if_pos rfl] at CFE CNE;rw [if_pos rfl] at CRF;have hnv:nevL t=[]:=HF.out.nl.trans (if_pos rfl);rw [hnv] at CNE;clear HF F hnv hnl0 CRN CRW her;generalize fewL t=fl at CFE hlB hflen;obtain ⟨k0,k1,k2⟩:=blk3 HLW.out.prm;obtain ⟨k3,k4,k5⟩:=blk3 HLW.out.x7;obtain ⟨k6,k7,k8⟩:=blk3 HLW.out.x8;refine (CFE.out p7 q7 a7 b7 ⟨hcw.1,hcw.2⟩ _ HLW.out.r7).mono ?_;rintro e w2 ⟨v18,rfl,ho,hB⟩;have HLW:=Lib.hid (HLW.out.below hB);have HBW:=Lib.hid (join HBW.out hB);obtain ⟨p18,c18,rfl,H18,-⟩:=own_rd ho rfl;have H18:=Lib.hid H18;clear k0 k1 k2 k3 k4 k5 k6 k7 k8;clear hB ho;obtain ⟨k0,k1,k2⟩:=blk3 HLW.out.prm;obtain ⟨k3,k4,k5⟩:=blk3 HLW.out.x7;obtain ⟨k6,k7,k8⟩:=blk3 HLW.out.x8;go_wp2_with fail
    refine (CCO.out p7 q7 a7 b7 ⟨hcw.1,hcw.2⟩ _ HLW.out.r7).mono ?_;rintro e w2 ⟨rfl,hB⟩;have HLW:=Lib.hid (HLW.out.below hB);have H18:=Lib.hid (H18.out.below hB);have HBW:=Lib.hid (join HBW.out hB);clear k0 k1 k2 k3 k4 k5 k6 k7 k8;clear hB;obtain ⟨k0,k1,k2⟩:=blk3 HLW.out.prm;obtain ⟨k3,k4,k5⟩:=blk3 HLW.out.x7;obtain ⟨k6,k7,k8⟩:=blk3 HLW.out.x8;go_wp2_with fail
    refine (CNE.out p7 q7 a7 b7 ⟨hcw.1,hcw.2⟩ _ HLW.out.r7).mono ?_;rintro e w2 ⟨v19,rfl,ho,hB⟩;have HLW:=Lib.hid (HLW.out.below hB);have H18:=Lib.hid (H18.out.below hB);have HBW:=Lib.hid (join HBW.out hB);obtain ⟨p19,c19,rfl,H19,-⟩:=own_rd ho rfl;have H19:=Lib.hid H19;clear k0 k1 k2 k3 k4 k5 k6 k7 k8;clear hB ho;obtain ⟨k0,k1,k2⟩:=blk3 HLW.out.prm;obtain ⟨k3,k4,k5⟩:=blk3 HLW.out.x7;obtain ⟨k6,k7,k8⟩:=blk3 HLW.out.x8;go_wp2_with fail
    refine (CCK.out p8 q8 a8 b8 _ HLW.out.r8).mono ?_;rintro e w2 ⟨rfl,hB⟩;have HLW:=Lib.hid (HLW.out.below hB);have H18:=Lib.hid (H18.out.below hB);have H19:=Lib.hid (H19.out.below hB);have HBW:=Lib.hid (join HBW.out hB);clear k0 k1 k2 k3 k4 k5 k6 k7 k8;clear hB;obtain ⟨k0,k1,k2⟩:=blk3 HLW.out.prm;obtain ⟨k3,k4,k5⟩:=blk3 HLW.out.x7;obtain ⟨k6,k7,k8⟩:=blk3 HLW.out.x8;go_wp2_with fail
    refine (CRI.out p8 q8 a8 b8 _ HLW.out.r8).mono ?_;rintro e w2 ⟨v20,xs20,rfl,ho,he20,hB⟩;have HLW:=Lib.hid (HLW.out.below hB);have H18:=Lib.hid (H18.out.below hB);have H19:=Lib.hid (H19.out.below hB);have HBW:=Lib.hid (join HBW.out hB);obtain ⟨p20,c20,rfl,H20⟩:=LLs.of_own ho he20;have H20:=Lib.hid H20;clear k0 k1 k2 k3 k4 k5 k6 k7 k8;clear hB ho he20;obtain ⟨k0,k1,k2⟩:=blk3 HLW.out.prm;obtain ⟨k3,k4,k5⟩:=blk3 HLW.out.x7;obtain ⟨k6,k7,k8⟩:=blk3 HLW.out.x8;go_wp2_with fail
    refine (CRF.out p20 c20 _ H20.out).mono ?_;rintro e w3 ⟨rfl,hw3⟩;subst hw3;clear k0 k1 k2 k3 k4 k5 k6 k7 k8;obtain ⟨k0,k1,k2⟩:=blk3 HLW.out.prm;obtain ⟨k3,k4,k5⟩:=blk3 HLW.out.x7;obtain ⟨k6,k7,k8⟩:=blk3 HLW.out.x8;go_wp2_with fail
    refine (same_yes t hl1 hl2 p7 q7 pw pt a7 b7 cw ct _ HLW.out.r7 HLW.out.r0).mono ?_;rintro e w2 ⟨rfl,hB⟩;have HLW:=Lib.hid (HLW.out.below hB);have H18:=Lib.hid (H18.out.below hB);have H19:=Lib.hid (H19.out.below hB);have H20:=Lib.hid (H20.out.below hB);have HBW:=Lib.hid (join HBW.out hB);clear k0 k1 k2 k3 k4 k5 k6 k7 k8;clear hB;obtain ⟨k0,k1,k2⟩:=blk3 HLW.out.prm;obtain ⟨k3,k4,k5⟩:=blk3 HLW.out.x7;obtain ⟨k6,k7,k8⟩:=blk3 HLW.out.x8;go_wp2_with fail
    refine (awake_any _).mono ?_;rintro e w10 ⟨rfl,hB10⟩;have HBW:=Lib.hid (join HBW.out hB10);clear hB10;go_wp2;go_ret;exact ⟨rfl,HBW.out⟩
   ·have hBn:B≠0:=by omega
    rw [if_neg hBn] at CFE CNE;rw [if_neg hBn] at CRF;have hw6:=HF.out.fw hBn;have hnv:nevL t=nevTo R t.words.length:=HF.out.nl.trans (if_neg hBn);rw [hnv] at CNE hnl0;have hnl:=hnl0;clear HF F hnv hnl0 her hB0 hBn;generalize fewL t=fl at CFE hlB hflen CRW hw6;generalize nevTo R t.words.length=nl at CNE hnl CRN;generalize wrongR t fl=wr at CRW hw6;obtain ⟨wa,wb,wc⟩:=wr;dsimp only at CRW hw6;subst hw6;obtain ⟨k0,k1,k2⟩:=blk3 HLW.out.prm;obtain ⟨k3,k4,k5⟩:=blk3 HLW.out.x7;obtain ⟨k6,k7,k8⟩:=blk3 HLW.out.x8;refine (CFE.out p7 q7 a7 b7 ⟨hcw.1,hcw.2⟩ _ HLW.out.r7).mono ?_;rintro e w2 ⟨v18,rfl,ho,hB⟩;have HLW:=Lib.hid (HLW.out.below hB);have HBW:=Lib.hid (join HBW.out hB);obtain ⟨p18,c18,rfl,H18,-⟩:=own_rd ho rfl;have H18:=Lib.hid H18;clear k0 k1 k2 k3 k4 k5 k6 k7 k8;clear hB ho;obtain ⟨k0,k1,k2⟩:=blk3 HLW.out.prm;obtain ⟨k3,k4,k5⟩:=blk3 HLW.out.x7;obtain ⟨k6,k7,k8⟩:=blk3 HLW.out.x8;go_wp2_with fail
    refine (CCO.out p7 q7 a7 b7 ⟨hcw.1,hcw.2⟩ _ HLW.out.r7).mono ?_;rintro e w2 ⟨rfl,hB⟩;have HLW:=Lib.hid (HLW.out.below hB);have H18:=Lib.hid (H18.out.below hB);have HBW:=Lib.hid (join HBW.out hB);clear k0 k1 k2 k3 k4 k5 k6 k7 k8;clear hB;obtain ⟨k0,k1,k2⟩:=blk3 HLW.out.prm;obtain ⟨k3,k4,k5⟩:=blk3 HLW.out.x7;obtain ⟨k6,k7,k8⟩:=blk3 HLW.out.x8;go_wp2_with fail
    refine (CNE.out p7 q7 a7 b7 ⟨hcw.1,hcw.2⟩ _ HLW.out.r7).mono ?_;rintro e w2 ⟨v19,rfl,ho,hB⟩;have HLW:=Lib.hid (HLW.out.below hB);have H18:=Lib.hid (H18.out.below hB);have HBW:=Lib.hid (join HBW.out hB);obtain ⟨p19,c19,rfl,H19,-⟩:=own_rd ho rfl;have H19:=Lib.hid H19;clear k0 k1 k2 k3 k4 k5 k6 k7 k8;clear hB ho;obtain ⟨k0,k1,k2⟩:=blk3 HLW.out.prm;obtain ⟨k3,k4,k5⟩:=blk3 HLW.out.x7;obtain ⟨k6,k7,k8⟩:=blk3 HLW.out.x8;go_wp2_with fail
    refine (CCK.out p8 q8 a8 b8 _ HLW.out.r8).mono ?_;rintro e w2 ⟨rfl,hB⟩;have HLW:=Lib.hid (HLW.out.below hB);have H18:=Lib.hid (H18.out.below hB);have H19:=Lib.hid (H19.out.below hB);have HBW:=Lib.hid (join HBW.out hB);clear k0 k1 k2 k3 k4 k5 k6 k7 k8;clear hB;obtain ⟨k0,k1,k2⟩:=blk3 HLW.out.prm;obtain ⟨k3,k4,k5⟩:=blk3 HLW.out.x7;obtain ⟨k6,k7,k8⟩:=blk3 HLW.out.x8;go_wp2_with fail
    refine (CRI.out p8 q8 a8 b8 _ HLW.out.r8).mono ?_;rintro e w2 ⟨v20,xs20,rfl,ho,he20,hB⟩;have HLW:=Lib.hid (HLW.out.below hB);have H18:=Lib.hid (H18.out.below hB);have H19:=Lib.hid (H19.out.below hB);have HBW:=Lib.hid (join HBW.out hB);obtain ⟨p20,c20,rfl,H20⟩:=LLs.of_own ho he20;have H20:=Lib.hid H20;clear k0 k1 k2 k3 k4 k5 k6 k7 k8;clear hB ho he20;obtain ⟨k0,k1,k2⟩:=blk3 HLW.out.prm;obtain ⟨k3,k4,k5⟩:=blk3 HLW.out.x7;obtain ⟨k6,k7,k8⟩:=blk3 HLW.out.x8;go_wp2_with fail
    refine (CRF.out p20 c20 _ H20.out).mono ?_;rintro e w3 ⟨rfl,hw3⟩;subst hw3;clear k0 k1 k2 k3 k4 k5 k6 k7 k8;obtain ⟨k0,k1,k2⟩:=blk3 HLW.out.prm;obtain ⟨k3,k4,k5⟩:=blk3 HLW.out.x7;obtain ⟨k6,k7,k8⟩:=blk3 HLW.out.x8;go_wp2_with fail
    refine (CRW.out p8 q8 p18 a8 b8 c18 _ HLW.out.r8 H18.out).mono ?_;rintro e w2 ⟨rfl,hB⟩;have HLW:=Lib.hid (HLW.out.below hB);have H18:=Lib.hid (H18.out.below hB);have H19:=Lib.hid (H19.out.below hB);have H20:=Lib.hid (H20.out.below hB);have HBW:=Lib.hid (join HBW.out hB);clear k0 k1 k2 k3 k4 k5 k6 k7 k8;clear hB;obtain ⟨k0,k1,k2⟩:=blk3 HLW.out.prm;obtain ⟨k3,k4,k5⟩:=blk3 HLW.out.x7;obtain ⟨k6,k7,k8⟩:=blk3 HLW.out.x8;go_wp2_with fail
    refine (CRN.out _ a8 _ _ p20 c20 _ H20.out).mono ?_;rintro e w2 ⟨v21,rfl,ho,hB⟩;have HLW:=Lib.hid (HLW.out.below hB);have H18:=Lib.hid (H18.out.below hB);have H19:=Lib.hid (H19.out.below hB);have H20:=Lib.hid (H20.out.below hB);have HBW:=Lib.hid (join HBW.out hB);obtain ⟨p21,c21,rfl,H21,-⟩:=own_rd ho rfl;have H21:=Lib.hid H21;clear k0 k1 k2 k3 k4 k5 k6 k7 k8;clear hB ho;obtain ⟨k0,k1,k2⟩:=blk3 HLW.out.prm;obtain ⟨k3,k4,k5⟩:=blk3 HLW.out.x7;obtain ⟨k6,k7,k8⟩:=blk3 HLW.out.x8;go_wp2_with fail
    refine (Like_ints p19 p21 c19 c21 nl nl true (by simp) _ hnl hnl H19.out H21.out).mono ?_;rintro e w2 ⟨rfl,hB⟩;have HLW:=Lib.hid (HLW.out.below hB);have H18:=Lib.hid (H18.out.below hB);have H19:=Lib.hid (H19.out.below hB);have H20:=Lib.hid (H20.out.below hB);have H21:=Lib.hid (H21.out.below hB);have HBW:=Lib.hid (join HBW.out hB);clear k0 k1 k2 k3 k4 k5 k6 k7 k8;clear hB;obtain ⟨k0,k1,k2⟩:=blk3 HLW.out.prm;obtain ⟨k3,k4,k5⟩:=blk3 HLW.out.x7;obtain ⟨k6,k7,k8⟩:=blk3 HLW.out.x8;go_wp2_with fail
    refine (same_yes t hl1 hl2 p7 q7 pw pt a7 b7 cw ct _ HLW.out.r7 HLW.out.r0).mono ?_;rintro e w2 ⟨rfl,hB⟩;have HLW:=Lib.hid (HLW.out.below hB);have H18:=Lib.hid (H18.out.below hB);have H19:=Lib.hid (H19.out.below hB);have H20:=Lib.hid (H20.out.below hB);have H21:=Lib.hid (H21.out.below hB);have HBW:=Lib.hid (join HBW.out hB);clear k0 k1 k2 k3 k4 k5 k6 k7 k8;clear hB;obtain ⟨k0,k1,k2⟩:=blk3 HLW.out.prm;obtain ⟨k3,k4,k5⟩:=blk3 HLW.out.x7;obtain ⟨k6,k7,k8⟩:=blk3 HLW.out.x8;go_wp2_with fail
    refine (awake_any _).mono ?_;rintro e w10 ⟨rfl,hB10⟩;have HBW:=Lib.hid (join HBW.out hB10);clear hB10;go_wp2;go_ret;exact ⟨rfl,HBW.out⟩
end Go.Proofs.YtadnggecnjdhiaaGreat
namespace Go.Proofs.YtadnggecnjdhiaaGreat
open Tx
def NoGain (may:Nat→Nat→Bool) (n:Nat) (m:Marks):Prop:=∀ a b,a<b→b≤n→may a b=true→m.getD b 0≤m.getD a 0+1
theorem marks_ext {m k:Marks} (h1:m.length=k.length) (h:∀ p,m.getD p 0=k.getD p 0):m=k:=by
 apply List.ext_getElem h1;intro i hi hk;have:=h i
 simpa [List.getD_eq_getElem?_getD,hi,hk] using this
theorem low_fold (may:Nat→Nat→Bool) (n:Nat) (m:Marks) (hm:m.length=13) (hn:n≤12):∀ k,k≤n →
  ((List.range k).foldl (lowRow may n) m).length=13∧(∀ p,((List.range k).foldl (lowRow may n) m).getD p 0≤m.getD p 0) ∧
   (∀ a b,a<k→a<b→b≤n→may a b=true→((List.range k).foldl (lowRow may n) m).getD b 0≤m.getD a 0+1)
 | 0,_=>⟨by simpa using hm,fun p=>by simp,fun a b h=>by omega⟩
 | k+1,hk=>by
  obtain ⟨h1,h2,h3⟩:=low_fold may n m hm hn k (by omega);rw [List.range_succ,List.foldl_append,List.foldl_cons,List.foldl_nil];generalize (List.range k).foldl (lowRow may n) m=M at h1 h2 h3 ⊢;obtain ⟨g1,g2⟩:=row_get k (brs may n k) M (fun b hb=>by rw [mem_brs] at hb;rw [h1];omega);have e:∀ p,(lowRow may n M k).getD p 0≤M.getD p 0:=fun p=>by
   unfold lowRow;rw [g2];split <;> omega
  refine ⟨by unfold lowRow;rw [g1,h1],fun p=>by have:=e p;have:=h2 p;omega,fun a b ha hab hb hmay=>?_⟩;by_cases hak:a=k
  ·subst hak;unfold lowRow;rw [g2,if_pos (by rw [mem_brs];exact ⟨hab,hb,hmay⟩)];have:=h2 a;omega
  ·have:=h3 a b (by omega) hab hb hmay;have:=e b;omega
theorem low_same (may:Nat→Nat→Bool) (n:Nat) (m:Marks) (hm:m.length=13) (hn:n≤12) (h:NoGain may n m):∀ k,k≤n→(List.range k).foldl (lowRow may n) m=m
 | 0,_=>rfl
 | k+1,hk=>by
  rw [List.range_succ,List.foldl_append,List.foldl_cons,List.foldl_nil,low_same may n m hm hn h k (by omega)];obtain ⟨g1,g2⟩:=row_get k (brs may n k) m (fun b hb=>by rw [mem_brs] at hb;rw [hm];omega);refine marks_ext g1 fun p=>?_;unfold lowRow;rw [g2];split
  ·rename_i hp
   rw [mem_brs] at hp;have:=h k p hp.1 hp.2.1 hp.2.2;omega
  ·rfl
theorem lowered_iff (may:Nat→Nat→Bool) (n:Nat) (m:Marks) (hm:m.length=13) (hn:n≤12):lowered may n m=m↔NoGain may n m:=by
 constructor
 ·intro h a b hab hb hmay;have:=(low_fold may n m hm hn n (Nat.le_refl _)).2.2 a b (by omega) hab hb hmay;have e:(List.range n).foldl (lowRow may n) m=m:=h;rw [e] at this;exact this
 ·intro h;exact low_same may n m hm hn h n (Nat.le_refl _)
theorem greatest_nogain (may:Nat→Nat→Bool) (n:Nat) (hn:n≤12):NoGain may n (greatest may n):=fun a b hab hb hmay=>(greatest_inv may n hn).hold a b (by omega) hab hb hmay
theorem greatest_tail (may:Nat→Nat→Bool) (n:Nat) (hn:n≤12) (p:Nat) (hp:n<p):(greatest may n).getD p 0=0:=by
 unfold greatest lowered;have key:∀ k,k≤n→((List.range k).foldl (lowRow may n) (top n)).getD p 0=0∧((List.range k).foldl (lowRow may n) (top n)).length=13:=by
  intro k
  induction k with
  | zero=>intro _;exact ⟨by rw [List.range_zero,List.foldl_nil,top_get n p hn,if_neg (by omega)],by simp [top]⟩
  | succ k ih =>
   intro hk;obtain ⟨h1,h2⟩:=ih (by omega);rw [List.range_succ,List.foldl_append,List.foldl_cons,List.foldl_nil];generalize (List.range k).foldl (lowRow may n) (top n)=M at h1 h2 ⊢;obtain ⟨g1,g2⟩:=row_get k (brs may n k) M (fun b hb=>by rw [mem_brs] at hb;rw [h2];omega);refine ⟨?_,by unfold lowRow;rw [g1,h2]⟩;unfold lowRow;rw [g2,if_neg (by rw [mem_brs];omega),h1]
 exact (key n (Nat.le_refl _)).1
theorem greatest_pad (may:Nat→Nat→Bool) (n:Nat) (hn:n≤12):(greatest may n).take (n+1)++List.replicate (13-((greatest may n).take (n+1)).length) 0=greatest may n:=by
 have hl:=(greatest_inv may n hn).len;refine marks_ext (by simp [hl];omega) fun p=>?_;by_cases hp:p<n+1
 ·have h2:p<min (n+1) 13:=by omega
  simp [List.getElem?_append,List.getElem?_take,hl,hp,show p<13 by omega,h2]
 ·have h0:=greatest_tail may n hn p (by omega);rw [h0];have h2:¬ p<min (n+1) 13:=by omega
  simp [List.getElem?_append,List.getElem?_take,hl,hp,List.getElem?_replicate,h2];split <;> rfl
theorem greatest_last {may:Nat→Nat→Bool} {n:Nat} (hn1:1≤n) (hn:n≤12) (h:(fewest may n).2=0):(greatest may n).getD n 0=(fewest may n).1.length∧(greatest may n).getD n 0<99:=by
 have hi:=greatest_inv may n hn;unfold fewest at h ⊢;by_cases hm:(greatest may n).getD n 0<99
 ·rw [if_pos hm];exact ⟨by rw [← (walk_spec hi n n (Nat.le_refl _) (Nat.le_refl _) hm).2.2];simp,hm⟩
 ·rw [if_neg hm] at h;simp at h
end Go.Proofs.YtadnggecnjdhiaaGreat
namespace Go.Proofs.YtadnggecnjdhiaaGreat
open Go.RowKit Tx
def RdPost (l:List Int) (er:Int) (w:World) (e:Ending) (w':World):Prop:=∃ p c,e=.returned (.tuple #[.slice p l.length c,.int .i64 er])∧Ints w' p l∧Below w.heap.size w w'
def RdPostO (l:List Int) (er:Int) (w:World) (e:Ending) (w':World):Prop:=∃ p c,e=.returned (.tuple #[.slice p l.length c,.int .i64 er])∧Ints w' p l∧Below w.heap.size w w'∧(l≠[]→∃ b cs T,p=some ⟨b,0,none⟩∧w.heap.size≤b∧w'.heap[b]?=some (.cells cs T (0,0)))
def markL (t:Text):List Int:=if fewE t=0 then (greatest t.right t.words.length).take (t.words.length+1) else []
theorem fewE_dec {t:Text} (he:t.err=0):fewE t=if (greatest t.right t.words.length).getD t.words.length 0<99 then 0 else 6:=by
 unfold fewE fewest;rw [if_pos he];split <;> rfl
theorem A_arr13:Tryz.prog.underlying 116=some (.array (Tryz.prog.arrayLen 116) (Tryz.prog.elem 116)):=by kernel_rfl
theorem A_len13:Tryz.prog.arrayLen 116=13:=by kernel_rfl
theorem A_siz13 (W:World):(sizeOf (Tryz.prog.elem 116)).run Tryz.prog W=.ok 1 W:=by kernel_rfl
theorem slice_marks (n:Nat) (hn:n≤13) (g:Nat) (W:World):(Instr.sliceAt 116 (.pointer (some ⟨g,0,none⟩)) none (some (.int .i64 (n:Int))) none).run Tryz.prog W=.ok (.slice (some ⟨g,0,none⟩) n 13) W:=by
 rw [run_sliceAt_array_h W 116 ⟨g,0,none⟩ A_arr13 .i64 (n:Int) (by omega) (by rw [A_len13];omega),A_siz13,A_len13];simp only [Result.andThen_ok,slicedAt,Int.toNat_natCast]
 congr 1
set_option maxHeartbeats 2000000 in
set_option maxRecDepth 100000 in
theorem Marks_own (t:Text) (hl1:t.words.length≤1000000) (hl2:t.turns.length≤1000000) (pw pt:Option Addr) (cw ct:Nat) (hcw:t.words.length≤cw∧cw≤maxLen) (w:World) (hW:TxAt w t pw pt) :
  Calls Tryz.prog 30 #[.agg #[.slice pw t.words.length cw,.slice pt t.turns.length ct,.int .i64 t.breath]] w (RdPostO (markL t) (fewE t) w):=by
 by_cases he:t.err=0
 ·have ok:=err_ok he;have hn:=ok.n12;have HFE:=Lib.hid (fewE_dec he);have HS:=Lib.hid (fun W (h:Below w.heap.size w W)=>open_ok t he pw pt cw ct W (hW.below h));have HG:=Lib.hid (fun W (h:Below w.heap.size w W)=>greatest_any t.right t.words.length cw hn pw (.slice pt t.turns.length ct) (.int .i64 t.breath) _ W (right_may t pw pt cw ct .nilFunc W ⟨ok,hW.below h,hcw⟩));have HSM:=Lib.hid (greatest_small (may:=t.right) hn);clear hW he ok
  go_enter Tryz.func30,Tryz.ntmps30
  go_wp2_with fail
  refine (HS.out _ (below1 _ _)).mono ?_;rintro e w5 ⟨rfl,hB5⟩;have HB5:=Lib.hid (join (below1 _ _) hB5);have hz5:w.heap.size<w5.heap.size:=by have:=hB5.size;simp at this;omega
  clear hB5;go_wp2_with fail
  refine (HG.out _ (join HB5.out (below1 _ _))).mono ?_;rintro e W1 ⟨rfl,hB1⟩;have hz1':w5.heap.size+1≤W1.heap.size:=by have:=hB1.size;simp at this;omega
  have HX1:=Lib.hid ((hB1.block w5.heap.size (by simp)).trans (heap_last w5 _));have HB1:=Lib.hid (join (join HB5.out (below1 _ _)) hB1);have hsz:(arrOf (greatest t.right t.words.length)).size=13:=by rw [arrOf_size];exact HSM.out.1
  have HI:=Lib.hid (size_marks hsz);have HON:=Lib.hid (arrOf_one (greatest t.right t.words.length));obtain ⟨mv,hmv⟩:∃ mv,mv=Value.func (.func 91) #[.agg #[.slice pw t.words.length cw,.slice pt t.turns.length ct,.int .i64 t.breath,.nilFunc]] #[]:=⟨_,rfl⟩;rw [← hmv] at HX1;have HRE:=Lib.hid (fun W=>reached_any (.slice pw t.words.length cw) (.slice pt t.turns.length ct) (.int .i64 t.breath) mv (greatest t.right t.words.length) HSM.out.1 t.words.length (by omega) W);rw [← hmv];clear hB1 hmv;obtain ⟨BA,hBA⟩:∃ BA,BA=arrOf (greatest t.right t.words.length):=⟨_,rfl⟩;rw [← hBA] at HI HON HRE hsz ⊢;have HBA:=Lib.hid hBA;have HSZ:=Lib.hid hsz;clear hBA hsz;go_wp2_with (with_reducible refine wpList_store_new rfl 116 _ _ rfl _ BA rfl rfl HI.out ?hs HON.out ?_)
  case hs=>rw [HSZ.out];rfl
  have HM:=Lib.hid (heap_last W1 (.cells BA 116));have HX:=Lib.hid ((Below.heap_alloc W1 (.cells BA 116) _ (show w5.heap.size<W1.heap.size by omega)).trans HX1.out);have HB2:=Lib.hid (join HB1.out (below1 W1 (.cells BA 116)));have hz2':(W1.alloc (.cells BA 116)).heap.size=W1.heap.size+1:=by simp
  generalize hW2:W1.alloc (.cells BA 116)=W2 at HM HX HB2 hz2' ⊢;clear hW2;refine Rs.region_gen 6 [[],[],[],[2],[0,1,2,3],[0,1,2,3,4]] [some 17,some 18,some 19,some 20,some 21,some 22] (spFe pw t.words.length cw (.slice pt t.turns.length ct) (.int .i64 t.breath) mv BA (decide ((greatest t.right t.words.length).getD t.words.length 0<99))) (by kernel_rfl) (by kernel_rfl) rfl (spFe_stable _ _ _ _ _ _ _ _) ?_ ?_
  ·refine ⟨fun V w' hG hs=>?_,fun V w' hG hs=>?_,fun V w' hG hs=>?_,fun V w' hG hs=>?_,fun V w' hG hs=>?_,fun V w' hG hs=>?_,trivial⟩
   all_goals
    have hm:=(hG.block W1.heap.size (by omega)).trans HM.out;have hx:=(hG.block w5.heap.size (by omega)).trans HX.out;have k0:=blk_cells hx 0 _ rfl;have k1:=blk_cells hx 1 _ rfl;have k2:=blk_cells hx 2 _ rfl;have k3:=blk_cells hx 3 _ rfl
   ·rw [if_pos (by rfl)];exact Rs.GrowL.value (v:=.agg #[.slice pw t.words.length cw,.slice pt t.turns.length ct,.int .i64 t.breath,mv]) (w':=w') (by simp [go_sem,Rs.look,k0,k1,k2,k3]) (Rs.Gr.refl _) rfl
   ·rw [if_pos (by rfl)];exact Rs.GrowL.value (v:=.agg BA) (w':=w') (exec_load_row 116 _ rfl W1.heap.size rfl 116 BA (0,0) _ hm und_marks rfl HI.out) (Rs.Gr.refl _) rfl
   ·rw [if_pos (by rfl)];exact Rs.GrowL.value (v:=.agg #[.slice pw t.words.length cw,.slice pt t.turns.length ct,.int .i64 t.breath,mv]) (w':=w') (by simp [go_sem,Rs.look,k0,k1,k2,k3]) (Rs.Gr.refl _) rfl
   ·have e2:V 2=_:=hs 2 (by simp);rw [if_pos (by rfl)];refine Rs.GrowL.call (f:=72) (args:=#[.agg #[.slice pw t.words.length cw,.slice pt t.turns.length ct,.int .i64 t.breath,mv]]) (by simp [go_sem,Rs.look,e2]) ?_;refine (end_any _ _ _ _ _ _ _).mono ?_;rintro e w2 ⟨rfl,rfl⟩;exact ⟨_,rfl,below1 _ _,rfl⟩
   ·have e0:V 0=_:=hs 0 (by simp);have e1:V 1=_:=hs 1 (by simp);have e2:V 2=_:=hs 2 (by simp);have e3:V 3=_:=hs 3 (by simp);rw [if_pos (by rfl)];refine Rs.GrowL.call (f:=71) (args:=#[.agg #[.slice pw t.words.length cw,.slice pt t.turns.length ct,.int .i64 t.breath,mv],.agg BA,.int .i64 t.words.length]) (by simp [go_sem,Rs.look,e0,e1,e3]) ?_;refine (HRE.out w').mono ?_;rintro e w2 ⟨rfl,hB2⟩;exact ⟨_,rfl,hB2,rfl⟩
   ·have e0:V 0=_:=hs 0 (by simp);have e1:V 1=_:=hs 1 (by simp);have e2:V 2=_:=hs 2 (by simp);have e3:V 3=_:=hs 3 (by simp);have e4:V 4=_:=hs 4 (by simp);rw [if_pos (by rfl)];exact Rs.GrowL.value (v:=.bool (!(decide ((greatest t.right t.words.length).getD t.words.length 0<99)))) (w':=w') (by simp [go_sem,Rs.look,e0,e1,e2,e3,e4]) (Rs.Gr.refl _) rfl
  ·intro V w' hG hs;have e0:V 0=_:=hs 0 (by omega);have e1:V 1=_:=hs 1 (by omega);have e2:V 2=_:=hs 2 (by omega);have e3:V 3=_:=hs 3 (by omega);have e4:V 4=_:=hs 4 (by omega);have e5:V 5=_:=hs 5 (by omega);simp only [Rs.canon,Rs.dstOf,List.range_succ,List.range_zero,List.nil_append,List.cons_append,List.foldl_cons,List.foldl_nil,List.drop_succ_cons,List.drop_zero,List.drop_nil,List.getElem?_toArray,List.getElem?_cons_succ,List.getElem?_cons_zero,Option.bind_some,Act.put,List.getD_cons_succ,List.getD_cons_zero,List.setIfInBounds_toArray,List.set_cons_succ,List.set_cons_zero];rw [e0,e1,e2,e3,e4,e5];clear e0 e1 e2 e3 e4 e5 hs;have HG:=Lib.hid hG;have hzg:=hG.size;have HMw:=Lib.hid ((hG.block W1.heap.size (by omega)).trans HM.out);have hxw:=(hG.block w5.heap.size (by omega)).trans HX.out;have k0:=blk_cells hxw 0 _ rfl;have k1:=blk_cells hxw 1 _ rfl;have k2:=blk_cells hxw 2 _ rfl;have k3:=blk_cells hxw 3 _ rfl;have hsw:w5.heap.size<w'.heap.size∧W1.heap.size<w'.heap.size:=by omega
   obtain ⟨hsw0,hsw1⟩:=hsw;have HXW:=Lib.hid hxw;clear hG hxw HX HM;by_cases hd:(greatest t.right t.words.length).getD t.words.length 0<99
   ·have HFZ:Hid (fewE t=0):=Lib.hid (by rw [HFE.out,if_pos hd]);rw [decide_eq_true hd];clear hd;go_wp2_with fail
    refine (end_any _ _ _ _ _ _ _).mono ?_;rintro e w7 ⟨rfl,hw7⟩;have hB7:Below w'.heap.size w' w7:=by rw [← hw7];exact below1 _ _
    have HM7:=Lib.hid ((hB7.block _ hsw1).trans HMw.out);have HB7:=Lib.hid (join HB2.out (join HG.out hB7));have hz7:=hB7.size;have hn13:(t.words.length:Int)+1≤13:=by omega
    have hsumN:IntKind.i64.wrap ((t.words.length:Int)+1)=((t.words.length+1:Nat):Int):=by rw [IntWalk.i64_in _ (by omega)];omega
    have hn14:((t.words.length+1:Nat):Int)≤13:=by omega
    have hsl:∀ W,(Instr.sliceAt 116 (.pointer (some ⟨W1.heap.size,0,none⟩)) none (some (.int .i64 ((t.words.length:Int)+1))) none).run Tryz.prog W=.ok (.slice (some ⟨W1.heap.size,0,none⟩) (t.words.length+1) 13) W:=fun W=>by
     have:=slice_marks (t.words.length+1) (by omega) W1.heap.size W;rwa [show ((t.words.length+1:Nat):Int)=(t.words.length:Int)+1 by omega] at this
    clear hw7 hB7 k0 k1 k2 k3 hsumN hn14;go_wp2;go_ret2;have hML:markL t=(greatest t.right t.words.length).take (t.words.length+1):=if_pos HFZ.out;have hlen:(markL t).length=t.words.length+1:=by rw [hML,List.length_take,HSM.out.1];omega
    refine ⟨some ⟨W1.heap.size,0,none⟩,13,by rw [HFZ.out,hlen];rfl,.inr ⟨W1.heap.size,0,rfl,by omega,fun i hi=>?_⟩,HB7.out,fun _=>⟨W1.heap.size,_,_,rfl,HB1.out.size,HM7.out⟩⟩;rw [hlen] at hi;have hc:=blk_cells HM7.out i _ (by rw [HBA.out];exact arrOf_get (by rw [HSM.out.1];omega));rw [Nat.zero_add,hc,hML]
    congr 2
    simp [List.getElem?_take,hi]
   ·have HFZ:Hid (fewE t=6):=Lib.hid (by rw [HFE.out,if_neg hd]);rw [decide_eq_false hd];clear hd;go_wp2;go_ret2;have hML:markL t=[]:=if_neg (by rw [HFZ.out];decide);exact ⟨none,0,by rw [HFZ.out,hML];rfl,.inl hML,join HB2.out HG.out,fun h=>absurd hML h⟩
 ·have h2:fewE t=t.err:=if_neg he;have hML:markL t=[]:=if_neg (by rw [h2];exact he);rw [h2];have HML:=Lib.hid hML;have HS:=Lib.hid (fun W (h:Below w.heap.size w W)=>open_bad t he hl1 hl2 pw pt cw ct W (hW.below h));have HE:(t.err != 0)=true:=by simpa using he
  clear hW he h2 hML;generalize t.err=er at HE HS ⊢
  go_enter Tryz.func30,Tryz.ntmps30
  go_wp2_with fail
  refine (HS.out _ (below1 _ _)).mono ?_;rintro e w5 ⟨rfl,hB5⟩;have HB5:=Lib.hid (join (below1 _ _) hB5);clear hB5;go_wp2;go_ret2;exact ⟨none,0,by rw [HML.out];exact rfl,.inl HML.out,join HB5.out (below1 _ _),fun h=>absurd HML.out h⟩
theorem Marks_any (t:Text) (hl1:t.words.length≤1000000) (hl2:t.turns.length≤1000000) (pw pt:Option Addr) (cw ct:Nat) (hcw:t.words.length≤cw∧cw≤maxLen) (w:World) (hW:TxAt w t pw pt) :
  Calls Tryz.prog 30 #[.agg #[.slice pw t.words.length cw,.slice pt t.turns.length ct,.int .i64 t.breath]] w (RdPost (markL t) (fewE t) w) :=
 (Marks_own t hl1 hl2 pw pt cw ct hcw w hW).mono fun e w' ⟨p,c,h1,h2,h3,_⟩=>⟨p,c,h1,h2,h3⟩
end Go.Proofs.YtadnggecnjdhiaaGreat
namespace Go.Proofs.YtadnggecnjdhiaaGreat
open Tx
end Go.Proofs.YtadnggecnjdhiaaGreat
namespace Go.Proofs.YtadnggecnjdhiaaGreat
open Go.RowKit Tx
theorem markL_len {t:Text} (ok:Text.Ok t) (h:fewE t=0):(markL t).length=t.words.length+1:=by
 have:=ok.n12;rw [markL,if_pos h,List.length_take,(greatest_inv t.right t.words.length ok.n12).len];omega
theorem markL_get {t:Text} (ok:Text.Ok t) (h:fewE t=0) (i:Nat) (hi:i≤t.words.length):(markL t).getD i 0=(greatest t.right t.words.length).getD i 0:=by
 rw [markL,if_pos h];simp [List.getElem?_take,show i<t.words.length+1 by omega]
theorem marks_show {t:Text} (ok:Text.Ok t) (he:t.err=0) (h:fewE t=0):¬ (markL t).any (fun k=>!btw k 0 99)=true∧shows t (markL t)=(((fewL t).length:Int),0):=by
 have hi:=greatest_inv t.right t.words.length ok.n12;have hl:=markL_len ok h;have hf:(fewest t.right t.words.length).2=0:=by rw [← h];exact (if_pos he).symm
 have hfl:fewL t=(fewest t.right t.words.length).1:=if_pos he;have hany:¬ (markL t).any (fun k=>!btw k 0 99)=true:=by
  intro ha;obtain ⟨x,hx,hb⟩:=List.any_eq_true.1 ha;obtain ⟨i,hi2,rfl⟩:=List.mem_iff_getElem.1 hx;have e:(markL t)[i]=(greatest t.right t.words.length).getD i 0:=by
   rw [← markL_get ok h i (by omega)];simp [hi2]
  rw [e] at hb;have:=hi.bd i;unfold btw at hb;rw [Bool.not_eq_true',Bool.and_eq_false_iff,decide_eq_false_iff_not,decide_eq_false_iff_not] at hb;omega
 refine ⟨hany,?_⟩;have hpad:padM (markL t)=greatest t.right t.words.length:=by
  unfold padM;rw [markL,if_pos h];exact greatest_pad t.right t.words.length ok.n12
 have hh:holdB t.right t.words.length (padM (markL t))=true:=by
  rw [hpad];unfold holdB;rw [Bool.and_eq_true];exact ⟨by rw [hi.zero];rfl,decide_eq_true ((lowered_iff _ _ _ hi.len ok.n12).2 (greatest_nogain _ _ ok.n12))⟩
 unfold shows;rw [if_neg (by simp [he]),if_neg (by omega),if_neg hany,if_neg (by rw [hh];simp),markL_get ok h _ (Nat.le_refl _),(greatest_last ok.n1 ok.n12 hf).1,hfl]
end Go.Proofs.YtadnggecnjdhiaaGreat
namespace Go.Proofs.YtadnggecnjdhiaaGreat
open Tx
def last0 (n:Nat):List Int:=(List.range 12).map fun w=>if w<n then (w:Int) else 0
def lastW (b:Nat) (m:List Int) (w:Nat):List Int:=m.set w (max (m.getD w 0) ((b:Int)-1))
def lastB (a b:Nat) (m:List Int):List Int:=(List.range' a (b-a)).foldl (lastW b) m
def lastRow (may:Nat→Nat→Bool) (n:Nat) (m:List Int) (a:Nat):List Int:=(brs may n a).foldl (fun m b=>lastB a b m) m
def lastT (may:Nat→Nat→Bool) (n:Nat):List Int:=(List.range n).foldl (lastRow may n) (last0 n)
def apartB (last:List Int) (l:List Int):Bool:=(List.range (l.length-1)).all fun i=>decide (last.getD (l.getD i 0).toNat 0<l.getD (i+1) 0)
def loneGo (last:List Int) (n:Nat):List Nat→List Int
 | []=>[0]
 | k::ks=>match (Tx.lists n k 0).find? (apartB last) with | some l=>l | none=>loneGo last n ks
def downTo2 (n:Nat):List Nat:=(List.range' 2 (n-1)).reverse
def loneR (may:Nat→Nat→Bool) (n:Nat):List Int:=loneGo (lastT may n) n (downTo2 n)
theorem lastB_get (a b:Nat):∀ (k:Nat) (m:List Int),m.length=12→a+k≤12→((List.range' a k).foldl (lastW b) m).length=12 ∧
  ∀ w,((List.range' a k).foldl (lastW b) m).getD w 0=if a≤w∧w<a+k then max (m.getD w 0) ((b:Int)-1) else m.getD w 0
 | 0,m,hm,_=>⟨by simpa using hm,fun w=>by rw [if_neg (by omega)];simp⟩
 | k+1,m,hm,hk=>by
  obtain ⟨h1,h2⟩:=lastB_get a b k m hm (by omega);rw [show List.range' a (k+1)=List.range' a k++[a+k] by rw [List.range'_concat];simp,List.foldl_append,List.foldl_cons,List.foldl_nil];generalize (List.range' a k).foldl (lastW b) m=M at h1 h2 ⊢;refine ⟨by simp [lastW,h1],fun w=>?_⟩;unfold lastW;by_cases hw:w=a+k
  ·subst hw;rw [if_pos (by omega)];simp only [List.getD_eq_getElem?_getD,List.getElem?_set];rw [if_pos (by trivial),if_pos (by omega)];have:=h2 (a+k);rw [if_neg (by omega)] at this;simp only [List.getD_eq_getElem?_getD] at this;rw [← this];rfl
  ·have:=h2 w;simp only [List.getD_eq_getElem?_getD,List.getElem?_set] at this ⊢;rw [if_neg (Ne.symm hw),this];by_cases h3:a≤w∧w<a+k
   ·rw [if_pos h3,if_pos (by omega)]
   ·rw [if_neg h3,if_neg (by omega)]
structure LastInv (n:Nat) (S:Nat→Nat→Prop) (m:List Int):Prop where
 len:m.length=12
 low:∀ w,w<n→(w:Int)≤m.getD w 0∧m.getD w 0<n
 up:∀ a b w,S a b→a≤w→w<b→(b:Int)-1≤m.getD w 0
 back:∀ w,w<n→m.getD w 0=w∨∃ a b,S a b∧a≤w∧w<b∧m.getD w 0=(b:Int)-1
theorem LastInv.add {n:Nat} {S:Nat→Nat→Prop} {m:List Int} (h:LastInv n S m) (hn:n≤12) (a b:Nat) (hab:a<b) (hb:b≤n):LastInv n (fun x y=>S x y∨(x=a∧y=b)) (lastB a b m):=by
 obtain ⟨g1,g2⟩:=lastB_get a b (b-a) m h.len (by omega);have g3:∀ w,(lastB a b m).getD w 0=if a≤w∧w<b then max (m.getD w 0) ((b:Int)-1) else m.getD w 0:=fun w=>by
  unfold lastB;rw [g2];congr 1;rw [show a+(b-a)=b by omega]
 refine ⟨by unfold lastB;exact g1,fun w hw=>?_,fun x y w hs hx hy=>?_,fun w hw=>?_⟩
 ·have:=h.low w hw;rw [g3];split <;> omega
 ·rw [g3];rcases hs with hs | ⟨rfl,rfl⟩
  ·have:=h.up x y w hs hx hy;split <;> omega
  ·rw [if_pos ⟨hx,hy⟩];omega
 ·rw [g3];have hl:=h.low w hw;by_cases hin:a≤w∧w<b
  ·rw [if_pos hin];by_cases hm:m.getD w 0≤(b:Int)-1
   ·exact .inr ⟨a,b,.inr ⟨rfl,rfl⟩,hin.1,hin.2,by omega⟩
   ·rcases h.back w hw with e | ⟨x,y,hs,h1,h2,h3⟩
    ·left;omega
    ·exact .inr ⟨x,y,.inl hs,h1,h2,by omega⟩
  ·rw [if_neg hin];rcases h.back w hw with e | ⟨x,y,hs,h1,h2,h3⟩
   ·exact .inl e
   ·exact .inr ⟨x,y,.inl hs,h1,h2,h3⟩
theorem LastInv.congr {n:Nat} {S S':Nat→Nat→Prop} {m:List Int} (h:LastInv n S m) (e:∀ a b,S a b↔S' a b):LastInv n S' m :=
 ⟨h.len,h.low,fun a b w hs=>h.up a b w ((e a b).2 hs),fun w hw=>(h.back w hw).imp id fun ⟨a,b,hs,r⟩=>⟨a,b,(e a b).1 hs,r⟩⟩
theorem last0_inv (n:Nat) (hn:n≤12):LastInv n (fun _ _=>False) (last0 n):=by
 have hg:∀ w,w<n→(last0 n).getD w 0=(w:Int):=fun w hw=>by
  unfold last0;simp [show w<12 by omega,hw]
 refine ⟨by simp [last0],fun w hw=>by rw [hg w hw];omega,fun a b w h=>h.elim,fun w hw=>.inl (hg w hw)⟩
theorem lastT_inv (may:Nat→Nat→Bool) (n:Nat) (hn:n≤12):LastInv n (fun a b=>a<b∧b≤n∧may a b=true) (lastT may n):=by
 have row:∀ (a:Nat) (bs:List Nat) (m:List Int) (S:Nat→Nat→Prop),(∀ b∈bs,a<b∧b≤n)→LastInv n S m→LastInv n (fun x y=>S x y∨(x=a∧y∈bs)) (bs.foldl (fun m b=>lastB a b m) m):=by
  intro a bs
  induction bs with
  | nil=>intro m S _ h;exact h.congr fun x y=>by simp
  | cons b bs ih =>
   intro m S hb h;rw [List.foldl_cons];have hb0:=hb b (by simp);refine (ih _ _ (fun c hc=>hb c (by simp [hc])) (h.add hn a b hb0.1 hb0.2)).congr fun x y=>?_;simp only [List.mem_cons];constructor
   ·rintro ((h | ⟨h1,h2⟩) | ⟨h1,h2⟩)
    ·exact .inl h
    ·exact .inr ⟨h1,.inl h2⟩
    ·exact .inr ⟨h1,.inr h2⟩
   ·rintro (h | ⟨h1,h2 | h2⟩)
    ·exact .inl (.inl h)
    ·exact .inl (.inr ⟨h1,h2⟩)
    ·exact .inr ⟨h1,h2⟩
 have key:∀ k,k≤n→LastInv n (fun a b=>a<k∧a<b∧b≤n∧may a b=true) ((List.range k).foldl (lastRow may n) (last0 n)):=by
  intro k
  induction k with
  | zero=>intro _;exact (last0_inv n hn).congr fun a b=>by simp
  | succ k ih =>
   intro hk;rw [List.range_succ,List.foldl_append,List.foldl_cons,List.foldl_nil];refine (row k (brs may n k) _ _ (fun b hb=>by rw [mem_brs] at hb;exact ⟨hb.1,hb.2.1⟩) (ih (by omega))).congr fun x y=>?_;rw [mem_brs];constructor
   ·rintro (⟨h1,h2⟩ | ⟨rfl,h2⟩)
    ·exact ⟨by omega,h2⟩
    ·exact ⟨by omega,h2⟩
   ·rintro ⟨h1,h2⟩;by_cases hx:x=k
    ·subst hx;exact .inr ⟨rfl,h2⟩
    ·exact .inl ⟨by omega,h2⟩
 exact (key n (Nat.le_refl _)).congr fun a b=>⟨fun h=>h.2,fun h=>⟨by omega,h⟩⟩
def Alone (may:Nat→Nat→Bool) (n:Nat) (l:List Int):Prop:=∀ a b,a<b→b≤n→may a b=true→∀ i j,i<j→j<l.length→¬ ((a:Int)≤l.getD i 0∧l.getD j 0<b)
theorem incr_get {hi:Int}:∀ {lo:Int} {l:List Int},Incr lo hi l→∀ i,i<l.length→lo≤l.getD i 0∧l.getD i 0<hi∧(∀ j,i<j→j<l.length→l.getD i 0<l.getD j 0)
 | _,[],_,i,h=>by simp at h
 | lo,x::l,⟨h1,h2,h3⟩,0,_=>⟨by simpa using h1,by simpa using h2,fun j hj hjl=>by
   cases j with
   | zero=>omega
   | succ j =>
    have:=(incr_get h3 j (by simpa using hjl)).1;simp at this ⊢;omega⟩
 | lo,x::l,⟨h1,h2,h3⟩,i+1,h=>by
  obtain ⟨g1,g2,g3⟩:=incr_get h3 i (by simpa using h);refine ⟨by simp at g1 ⊢;omega,by simpa using g2,fun j hj hjl=>?_⟩;cases j with
  | zero=>omega
  | succ j=>have:=g3 j (by omega) (by simpa using hjl);simpa using this
theorem apart_alone {may:Nat→Nat→Bool} {n:Nat} (hn:n≤12) {l:List Int} (hl:Incr 0 n l):apartB (lastT may n) l=true↔Alone may n l:=by
 have hI:=lastT_inv may n hn;unfold apartB;simp only [List.all_eq_true,List.mem_range,decide_eq_true_eq];constructor
 ·rintro h a b hab hb hm i j hij hj ⟨h1,h2⟩;obtain ⟨g1,g2,g3⟩:=incr_get hl i (by omega);have h5:=h i (by omega);have h6:=g3 j hij hj;have h7:l.getD (i+1) 0≤l.getD j 0:=by
   by_cases e:j=i+1
   ·rw [e];omega
   ·have:=(incr_get hl (i+1) (by omega)).2.2 j (by omega) hj;omega
  have:=hI.up a b (l.getD i 0).toNat ⟨hab,hb,hm⟩ (by omega) (by omega);omega
 ·intro h i hi;obtain ⟨g1,g2,g3⟩:=incr_get hl i (by omega);have g4:=g3 (i+1) (by omega) (by omega);rcases hI.back (l.getD i 0).toNat (by omega) with e | ⟨a,b,⟨h1,h2,h3⟩,h4,h5,h6⟩
  ·rw [e];omega
  ·rw [h6];rcases Int.lt_or_le ((b:Int)-1) (l.getD (i+1) 0) with h7 | h7
   ·exact h7
   ·exact absurd ⟨by omega,by omega⟩ (h a b h1 h2 h3 i (i+1) (by omega) (by omega))
theorem loneGo_spec (may:Nat→Nat→Bool) (n:Nat) (hn1:1≤n) (hn:n≤12):∀ (ks:List Nat),ks.Pairwise (· > ·)→(∀ k∈ks,2≤k) →
  Incr 0 n (loneGo (lastT may n) n ks)∧Alone may n (loneGo (lastT may n) n ks)∧1≤(loneGo (lastT may n) n ks).length ∧
   (∀ m,Incr 0 n m→Alone may n m→(m.length∈ks∨m.length=1)→m.length<(loneGo (lastT may n) n ks).length∨(m.length=(loneGo (lastT may n) n ks).length∧(m=loneGo (lastT may n) n ks∨lexB (loneGo (lastT may n) n ks) m=true)))
 | [],_,_=>by
  rw [loneGo];refine ⟨⟨by omega,by omega,trivial⟩,fun a b _ _ _ i j hij hj=>by simp at hj;omega,by simp,fun m hm ha hl=>.inr ?_⟩;have hl1:m.length=1:=by simpa using hl
  refine ⟨hl1,?_⟩
  match m,hl1 with
  | [x],_ =>
   obtain ⟨h1,h2,_⟩:=hm;by_cases hx:x=0
   ·left;rw [hx]
   ·right;rw [lexB,if_pos (Ne.symm hx)];exact decide_eq_true (by omega)
 | k::ks,hs,hk2=>by
  rw [List.pairwise_cons] at hs;obtain ⟨i1,i2,i3,i4⟩:=loneGo_spec may n hn1 hn ks hs.2 (fun x hx=>hk2 x (by simp [hx]));rw [loneGo];cases hf:(Tx.lists n k 0).find? (apartB (lastT may n)) with
  | some l =>
   obtain ⟨h1,h2,h3⟩:=find_first (lists_sorted _ _ _) hf;obtain ⟨g1,g2⟩:=(lists_mem _ _ _ _).1 h1;have hk:=hk2 k (by simp);dsimp only;refine ⟨g2,(apart_alone hn g2).1 h2,by omega,fun m hm ha hl=>?_⟩;rcases hl with hl | hl
   ·rcases List.mem_cons.1 hl with e | e
    ·right;refine ⟨by omega,?_⟩;exact h3 m ((lists_mem _ _ _ _).2 ⟨e,hm⟩) ((apart_alone hn hm).2 ha)
    ·left;have:=hs.1 _ e;omega
   ·left;omega
  | none =>
   dsimp only;refine ⟨i1,i2,i3,fun m hm ha hl=>?_⟩;refine i4 m hm ha ?_;rcases hl with hl | hl
   ·rcases List.mem_cons.1 hl with e | e
    ·exfalso;have:=List.find?_eq_none.1 hf m ((lists_mem _ _ _ _).2 ⟨e,hm⟩);exact this ((apart_alone hn hm).2 ha)
    ·exact .inl e
   ·exact .inr hl
theorem loneR_spec (may:Nat→Nat→Bool) (n:Nat) (hn1:1≤n) (hn:n≤12) :
  Incr 0 n (loneR may n)∧Alone may n (loneR may n)∧1≤(loneR may n).length ∧
   (∀ m,Incr 0 n m→Alone may n m→m≠[]→m.length<(loneR may n).length∨(m.length=(loneR may n).length∧(m=loneR may n∨lexB (loneR may n) m=true))):=by
 obtain ⟨h1,h2,h3,h4⟩:=loneGo_spec may n hn1 hn (downTo2 n) (by unfold downTo2;rw [List.pairwise_reverse];exact List.pairwise_lt_range') (fun k hk=>by unfold downTo2 at hk;simp [List.mem_range'_1] at hk;omega);refine ⟨h1,h2,h3,fun m hm ha hne=>h4 m hm ha ?_⟩;have h0:m.length≠0:=fun e=>hne (List.length_eq_zero_iff.1 e);rcases Incr.len hm with h | h
 ·by_cases e:m.length=1
  ·exact .inr e
  ·left;unfold downTo2;simp [List.mem_range'_1];omega
 ·exact absurd h hne
end Go.Proofs.YtadnggecnjdhiaaGreat
namespace Go.Proofs.YtadnggecnjdhiaaGreat
open Tx
def inB (a b:Nat) (x:Int):Bool:=decide ((a:Int)≤x)&&decide (x<(b:Int))
def manyIn (l:List Int) (a b:Nat):Nat:=l.countP (inB a b)
def badB (t:Text) (l:List Int) (a b:Nat):Bool:=decide (1<manyIn l a b)&&t.right a b
def aloneTo (t:Text) (l:List Int) (a:Nat):Bool:=(List.range a).all fun x=>(List.range' (x+1) (t.words.length-x)).all fun b=>!badB t l x b
def aloneRow (t:Text) (l:List Int) (a b:Nat):Bool:=(List.range' (a+1) (b-(a+1))).all fun c=>!badB t l a c
def aloneB (t:Text) (l:List Int):Bool:=aloneTo t l t.words.length
theorem aloneTo_zero (t:Text) (l:List Int):aloneTo t l 0=true:=rfl
theorem aloneRow_zero (t:Text) (l:List Int) (a:Nat):aloneRow t l a (a+1)=true:=by unfold aloneRow;rw [Nat.sub_self];rfl
theorem aloneRow_succ (t:Text) (l:List Int) (a b:Nat) (h:a+1≤b):aloneRow t l a (b+1)=(aloneRow t l a b&&!badB t l a b):=by
 unfold aloneRow;rw [show b+1-(a+1)=(b-(a+1))+1 by omega,List.range'_concat,List.all_append,show a+1+1*(b-(a+1))=b by omega];simp
theorem aloneTo_succ (t:Text) (l:List Int) (a:Nat) (h:a<t.words.length):aloneTo t l (a+1)=(aloneTo t l a&&aloneRow t l a (t.words.length+1)):=by
 unfold aloneTo aloneRow;rw [List.range_succ,List.all_append,show t.words.length+1-(a+1)=t.words.length-a by omega];simp
theorem manyIn_snoc (l:List Int) (a b k:Nat) (h:k<l.length):manyIn (l.take (k+1)) a b=manyIn (l.take k) a b+(if inB a b (l.getD k 0) then 1 else 0):=by
 have e:l.take (k+1)=l.take k++[l.getD k 0]:=by
  rw [List.take_succ_eq_append_getElem h];simp [h]
 unfold manyIn;rw [e,List.countP_append,List.countP_cons,List.countP_nil];omega
theorem two_of_count {p:Int→Bool}:∀ {l:List Int},1<l.countP p→∃ i j,i<j∧j<l.length∧p (l.getD i 0)=true∧p (l.getD j 0)=true
 | [],h=>by simp at h
 | x::l,h=>by
  rw [List.countP_cons] at h;by_cases hx:p x=true
  ·have h1:0<l.countP p:=by rw [if_pos hx] at h;omega
   obtain ⟨y,hy,hp⟩:=List.countP_pos_iff.1 h1;obtain ⟨j,hj,rfl⟩:=List.mem_iff_getElem.1 hy;exact ⟨0,j+1,by omega,by simpa using hj,by simpa using hx,by simpa [hj] using hp⟩
  ·obtain ⟨i,j,h1,h2,h3,h4⟩:=two_of_count (l:=l) (by rw [if_neg hx] at h;omega);exact ⟨i+1,j+1,by omega,by simpa using h2,by simpa using h3,by simpa using h4⟩
theorem count_of_one {p:Int→Bool}:∀ {l:List Int} {j:Nat},j<l.length→p (l.getD j 0)=true→0<l.countP p:=fun {l j} hj hp=>by
 rw [List.countP_pos_iff];exact ⟨l.getD j 0,by simp [hj],hp⟩
theorem count_of_two {p:Int→Bool}:∀ {l:List Int} {i j:Nat},i<j→j<l.length→p (l.getD i 0)=true→p (l.getD j 0)=true→1<l.countP p
 | [],i,j,_,h,_,_=>by simp at h
 | x::l,0,0,h,_,_,_=>by omega
 | x::l,0,j+1,_,h2,h3,h4=>by
  rw [List.countP_cons];have:=count_of_one (l:=l) (j:=j) (by simpa using h2) (by simpa using h4);have hx:p x=true:=by simpa using h3
  rw [if_pos hx];omega
 | x::l,i+1,0,h,_,_,_=>by omega
 | x::l,i+1,j+1,h1,h2,h3,h4=>by
  rw [List.countP_cons];have:=count_of_two (l:=l) (i:=i) (j:=j) (by omega) (by simpa using h2) (by simpa using h3) (by simpa using h4);omega
theorem aloneB_iff {t:Text} {l:List Int} (hl:Incr 0 t.words.length l):aloneB t l=true↔Alone t.right t.words.length l:=by
 unfold aloneB aloneTo badB;simp only [List.all_eq_true,List.mem_range,List.mem_range'_1,Bool.not_eq_true',Bool.and_eq_false_iff,decide_eq_false_iff_not];constructor
 ·rintro h a b hab hb hm i j hij hj ⟨h1,h2⟩;have h3:=(incr_get hl i (by omega)).2.2 j hij hj;rcases h a (by omega) b ⟨by omega,by omega⟩ with h4 | h4
  ·apply h4;unfold manyIn;exact count_of_two hij hj (by unfold inB;rw [Bool.and_eq_true,decide_eq_true_eq,decide_eq_true_eq];omega) (by unfold inB;rw [Bool.and_eq_true,decide_eq_true_eq,decide_eq_true_eq];omega)
  ·rw [hm] at h4;cases h4
 ·intro h a ha b hb;by_cases hm:t.right a b=true
  ·left;intro h2;unfold manyIn at h2;obtain ⟨i,j,h3,h4,h5,h6⟩:=two_of_count h2;unfold inB at h5 h6;rw [Bool.and_eq_true,decide_eq_true_eq,decide_eq_true_eq] at h5 h6;exact h a b (by omega) (by omega) hm i j h3 h4 ⟨h5.1,h6.2⟩
  ·right;simpa using hm
def betL (a b:List Int):Prop:=b.length<a.length∨(a.length=b.length∧lexB a b=true)
theorem betL_trans {a b c:List Int} (h1:betL a b) (h2:betL b c):betL a c:=by
 rcases h1 with h1 | ⟨h1,h1'⟩ <;> rcases h2 with h2 | ⟨h2,h2'⟩
 ·exact .inl (by omega)
 ·exact .inl (by omega)
 ·exact .inl (by omega)
 ·exact .inr ⟨by omega,lexB_trans h1 h2 h1' h2'⟩
theorem betL_irr {a:List Int} (h:betL a a):False:=by
 rcases h with h | ⟨_,h⟩
 ·omega
 ·rw [lexB_irr] at h;cases h
def BL (t:Text) (k:Nat) (b:List Int):Prop:=(b=[]∨(Incr 0 t.words.length b∧aloneB t b=true))∧∀ j,j<k→aloneB t (bits 0 j)=true→¬ betL (bits 0 j) b
theorem BL.zero (t:Text):BL t 0 []:=⟨.inl rfl,fun j h=>by omega⟩
theorem BL.skip {t:Text} {k:Nat} {b:List Int} (h:BL t k b) (hn:aloneB t (bits 0 k)=false):BL t (k+1) b :=
 ⟨h.1,fun j hj ha=>by
  by_cases e:j=k
  ·rw [e,hn] at ha;cases ha
  ·exact h.2 j (by omega) ha⟩
theorem BL.keep {t:Text} {k:Nat} {b:List Int} (h:BL t k b) (hn:¬ betL (bits 0 k) b):BL t (k+1) b :=
 ⟨h.1,fun j hj ha=>by
  by_cases e:j=k
  ·rw [e];exact hn
  ·exact h.2 j (by omega) ha⟩
theorem BL.take {t:Text} {k:Nat} {b:List Int} (h:BL t k b) (hk:k<2 ^ t.words.length) (ha:aloneB t (bits 0 k)=true) (hb:betL (bits 0 k) b):BL t (k+1) (bits 0 k) :=
 ⟨.inr ⟨by have:=bits_incr t.words.length 0 k hk;simpa using this,ha⟩,fun j hj hja hjb=>by
  by_cases e:j=k
  ·rw [e] at hjb;exact betL_irr hjb
  ·exact h.2 j (by omega) hja (betL_trans hjb hb)⟩
theorem BL.last {t:Text} {b:List Int} (hn1:1≤t.words.length) (hn:t.words.length≤12) (h:BL t (2 ^ t.words.length) b):b=loneR t.right t.words.length:=by
 obtain ⟨s1,s2,s3,s4⟩:=loneR_spec t.right t.words.length hn1 hn;obtain ⟨j,hj,e⟩:=bits_all t.words.length 0 _ (by simpa using s1);have h1:=h.2 j hj (by rw [e];exact (aloneB_iff s1).2 s2);rw [e] at h1;rcases h.1 with rfl | ⟨hi,ha⟩
 ·exact absurd (.inl (by simp only [List.length_nil];omega)) h1
 ·by_cases hb:b=[]
  ·subst hb;exact absurd (.inl (by simp only [List.length_nil];omega)) h1
  ·rcases s4 b hi ((aloneB_iff hi).1 ha) hb with h2 | ⟨h2,h3 | h3⟩
   ·exact absurd (.inl h2) h1
   ·exact h3
   ·exact absurd (.inr ⟨h2.symm,h3⟩) h1
end Go.Proofs.YtadnggecnjdhiaaGreat
namespace Go.Proofs.YtadnggecnjdhiaaGreat
open Go.RowKit Tx
def gainB (t:Text) (l:List Int) (a b:Nat):Bool:=t.right a b&&decide (l.getD a 0+1<l.getD b 0)
def okTo (t:Text) (l:List Int) (a:Nat):Bool:=(List.range a).all fun x=>(List.range' (x+1) (t.words.length-x)).all fun b=>!gainB t l x b
def okRow (t:Text) (l:List Int) (a b:Nat):Bool:=(List.range' (a+1) (b-(a+1))).all fun c=>!gainB t l a c
theorem okTo_zero (t:Text) (l:List Int):okTo t l 0=true:=rfl
theorem okRow_zero (t:Text) (l:List Int) (a:Nat):okRow t l a (a+1)=true:=by unfold okRow;rw [Nat.sub_self];rfl
theorem okRow_succ (t:Text) (l:List Int) (a b:Nat) (h:a+1≤b):okRow t l a (b+1)=(okRow t l a b&&!gainB t l a b):=by
 unfold okRow;rw [show b+1-(a+1)=(b-(a+1))+1 by omega,List.range'_concat,List.all_append,show a+1+1*(b-(a+1))=b by omega];simp
theorem okTo_succ (t:Text) (l:List Int) (a:Nat) (h:a<t.words.length):okTo t l (a+1)=(okTo t l a&&okRow t l a (t.words.length+1)):=by
 unfold okTo okRow;rw [List.range_succ,List.all_append,show t.words.length+1-(a+1)=t.words.length-a by omega];simp
theorem padM_get (l:List Int) (k:Nat) (h:k<l.length):(padM l).getD k 0=l.getD k 0:=by
 unfold padM;simp [List.getElem?_append,h]
theorem okTo_hold (t:Text) (l:List Int) (hn:t.words.length≤12) (hl:l.length=t.words.length+1):((l.getD 0 0 == 0)&&okTo t l t.words.length)=holdB t.right t.words.length (padM l):=by
 unfold holdB;rw [padM_get l 0 (by omega)]
 congr 1
 rw [Bool.eq_iff_iff,decide_eq_true_eq,lowered_iff _ _ _ (by simp [padM];omega) hn];unfold okTo gainB NoGain;simp only [List.all_eq_true,List.mem_range,List.mem_range'_1,Bool.not_eq_true',Bool.and_eq_false_iff,decide_eq_false_iff_not];constructor
 ·intro h a b hab hb hm;rcases h a (by omega) b ⟨by omega,by omega⟩ with h1 | h1
  ·rw [hm] at h1;cases h1
  ·rw [padM_get l a (by omega),padM_get l b (by omega)];omega
 ·intro h a ha b hb;by_cases hm:t.right a b=true
  ·right;have:=h a b (by omega) (by omega) hm;rw [padM_get l a (by omega),padM_get l b (by omega)] at this;omega
  ·left;simpa using hm
theorem kindI_right (t:Text) (a b:Nat):decide (kindI t a b<0)=t.right a b:=by
 rw [Bool.eq_iff_iff,decide_eq_true_eq,← kind_right];unfold kindI;cases hk:kindOf t a b with
 | none=>simp
 | some k =>
  simp only [Option.getD_some];constructor
  ·intro h;unfold kindOf at hk;split at hk <;> (try split at hk) <;> (try split at hk) <;> simp at hk <;> omega
  ·intro h;cases h
end Go.Proofs.YtadnggecnjdhiaaGreat
namespace Go.Proofs.YtadnggecnjdhiaaGreat
open Go.RowKit Tx
attribute [local go_sem] Oper.semAt_some
def RdRow (l:List Int) (w:World) (e:Ending) (w':World):Prop:=∃ p c,e=.returned (.slice p l.length c)∧Ints w' p l∧Below w.heap.size w w'
theorem inB_cases (a b:Nat) (x:Int):inB a b x=(decide (x ≥ (a:Int))&&decide (x<(b:Int))):=rfl
set_option maxHeartbeats 8000000 in
set_option maxRecDepth 100000 in
theorem rLone_any (t:Text) (he:t.err=0) (pw pt:Option Addr) (cw ct:Nat) (w:World) (hW:TxAt w t pw pt) :
  Calls Tryz.prog 59 #[.agg #[.slice pw t.words.length cw,.slice pt t.turns.length ct,.int .i64 t.breath]] w (RdRow (loneR t.right t.words.length) w):=by
 have ok:=err_ok he;have hn1:=ok.n1;have hn12:=ok.n12;have HOK:=Lib.hid ok;have HB:=Lib.hid (below1 w (.cells #[.slice pw t.words.length cw,.slice pt t.turns.length ct,.int .i64 t.breath] 32));have HX:=Lib.hid (heap_last w (.cells #[.slice pw t.words.length cw,.slice pt t.turns.length ct,.int .i64 t.breath] 32));have HW:=Lib.hid hW;have hz1:(w.alloc (.cells #[.slice pw t.words.length cw,.slice pt t.turns.length ct,.int .i64 t.breath] 32)).heap.size=w.heap.size+1:=by simp
 have hpow:2 ^ t.words.length≤4096:=by exact Nat.pow_le_pow_right (by omega) (show t.words.length≤12 by omega)
 have HN:=Lib.hid (fun W=>listsN_any t hn12 pw cw (.slice pt t.turns.length ct) (.int .i64 t.breath) W);have HLAST:=Lib.hid (fun b (h:BL t (2 ^ t.words.length) b)=>BL.last hn1 hn12 h);have HTK:=Lib.hid (fun k b (h:BL t k b) hk ha hb=>BL.take h hk ha hb);have HINC:Hid (∀ k,k<2 ^ t.words.length→(bits 0 k).length≤12∧∀ x∈bits 0 k,0≤x∧x<t.words.length):=Lib.hid (fun n hn=>by
  have h:=bits_incr t.words.length 0 n hn;rw [Nat.zero_add] at h;refine ⟨?_,fun x hx=>by have:=h.bd x hx;omega⟩;rcases h.len with h | h
  ·omega
  ·rw [h];simp)
 obtain ⟨N,hNe⟩:∃ N,N=2 ^ t.words.length:=⟨_,rfl⟩;rw [← hNe] at hpow HN HLAST HTK HINC;clear hW ok hNe
 go_enter Tryz.func59,Tryz.ntmps59
 go_wp2_with fail
 generalize w.alloc (.cells #[.slice pw t.words.length cw,.slice pt t.turns.length ct,.int .i64 t.breath] 32)=W1 at HB HX hz1 ⊢
 go_loopw [3,4] (fun v i wr=>∃ (k:Nat) (b:List Int) (pb:Option Addr) (cb:Nat),k≤N∧i=.int .i64 k∧v=.slice pb b.length cb∧b.length≤12∧Hid (Ints wr pb b)∧Hid (BL t k b)∧Hid (Below W1.heap.size W1 wr)) (fun _ i _=>N-(intOf i).toNat)
 case atStart=>exact ⟨0,[],none,0,Nat.zero_le _,rfl,rfl,by simp,Lib.hid (.inl rfl),Lib.hid (BL.zero t),Lib.hid (Below.refl _ _)⟩
 case round=>as_aux_lemma =>
  obtain ⟨w3,rfl⟩:∃ w3:World,w3=wr:=⟨_,rfl⟩;obtain ⟨k,b,pb,cb,hk,rfl,rfl,hb12,HIB,HBL,HB3⟩:=hrel;have hz3:=HB3.out.size;have HX3:=Lib.hid ((HB3.out.block w.heap.size (by omega)).trans HX.out);obtain ⟨k0,k1,k2⟩:=blk3 HX3.out;go_wp2_with fail
  refine (HN.out _).mono ?_;rintro e w4 ⟨rfl,hB4⟩;have HX4:=Lib.hid ((hB4.block w.heap.size (by omega)).trans HX3.out);have HIB4:=Lib.hid (HIB.out.below hB4);have HB4:=Lib.hid (join HB3.out hB4);have hz4:=hB4.size;clear hB4 k0 k1 k2 HIB HX3;obtain ⟨k0,k1,k2⟩:=blk3 HX4.out;by_cases hlt:k<N
  ·have hlt':(k:Int)<(N:Int):=by omega
   obtain ⟨hl12,hlin⟩:=HINC.out k hlt;go_wp2_with fail
   refine (list_any k (by omega) _).mono ?_;rintro e w5 ⟨v,rfl,hown,hB5⟩;obtain ⟨L,hLe⟩:∃ L,L=bits 0 k:=⟨_,rfl⟩;rw [← hLe] at hown hl12 hlin;have HLE:=Lib.hid hLe;obtain ⟨pl,cl,rfl,hIL,-,-⟩:=own_rd hown rfl;have HIL:=Lib.hid hIL;have HX5:=Lib.hid ((hB5.block w.heap.size (by omega)).trans HX4.out);have HIB5:=Lib.hid (HIB4.out.below hB5);have HB5:=Lib.hid (join HB4.out hB5);have hz5:=hB5.size;have HSK:=Lib.hid (fun h=>BL.skip HBL.out h);have HKP:=Lib.hid (fun h=>BL.keep HBL.out h);have HTK1:=Lib.hid (HTK.out k b HBL.out hlt);rw [← hLe] at HSK HKP HTK1;clear hown hIL hB5 hLe k0 k1 k2 HIB4 HX4 hlin HBL;obtain ⟨k0,k1,k2⟩:=blk3 HX5.out;go_wp2_with fail
   go_loopw [6,7] (fun h i wr=>∃ (a:Nat) (al:Bool),a≤t.words.length∧i=.int .i64 a∧h=.bool al∧Hid (al=aloneTo t L a)∧Hid (Below w5.heap.size w5 wr)) (fun _ i _=>t.words.length-(intOf i).toNat)
   case atStart=>exact ⟨0,true,Nat.zero_le _,rfl,rfl,Lib.hid (aloneTo_zero t L).symm,Lib.hid (Below.refl _ _)⟩
   case round=>as_aux_lemma =>
    clear k0 k1 k2;obtain ⟨w6,rfl⟩:∃ w6:World,w6=wr:=⟨_,rfl⟩;obtain ⟨a,al,ha,rfl,rfl,HAL,HB6⟩:=hrel;have hz6:=HB6.out.size;have HX6:=Lib.hid ((HB6.out.block w.heap.size (by omega)).trans HX5.out);obtain ⟨k0,k1,k2⟩:=blk3 HX6.out;by_cases han:a<t.words.length
    ·have han':(a:Int)<t.words.length:=by omega
     have HTO:=Lib.hid (aloneTo_succ t L a han);go_wp2_with fail
     go_loopw [6,8] (fun h i wr=>∃ (b:Nat) (ar:Bool),a+1≤b∧b≤t.words.length+1∧i=.int .i64 b∧h=.bool ar∧Hid (ar=(al&&aloneRow t L a b))∧Hid (Below w6.heap.size w6 wr)) (fun _ i _=>t.words.length+1-(intOf i).toNat)
     case atStart=>exact ⟨a+1,al,Nat.le_refl _,by omega,by go_num,rfl,Lib.hid (by rw [aloneRow_zero,Bool.and_true]),Lib.hid (Below.refl _ _)⟩
     case round=>as_aux_lemma =>
      clear k0 k1 k2;obtain ⟨w7,rfl⟩:∃ w7:World,w7=wr:=⟨_,rfl⟩;obtain ⟨q,ar,haq,hqn,rfl,rfl,HAR,HB7⟩:=hrel;have hz7:=HB7.out.size;have HX7:=Lib.hid ((HB7.out.block w.heap.size (by omega)).trans HX6.out);obtain ⟨k0,k1,k2⟩:=blk3 HX7.out;by_cases hql:q≤t.words.length
      ·have hql':(q:Int)≤t.words.length:=by omega
       have HIL7:=Lib.hid (HIL.out.below (join HB6.out HB7.out));have HRS:=Lib.hid (aloneRow_succ t L a q haq);go_wp2_with fail
       go_loopw [9,10] (fun m i wr=>∃ (j:Nat),j≤L.length∧i=.int .i64 j∧m=.int .i64 ((manyIn (L.take j) a q:Nat):Int)∧Hid (w7=wr)) (fun _ i _=>L.length-(intOf i).toNat)
       case atStart=>exact ⟨0,Nat.zero_le _,rfl,rfl,Lib.hid rfl⟩
       case round=>as_aux_lemma =>
        obtain ⟨j,hj,rfl,rfl,HWR⟩:=hrel;have hwr0:=HWR.out;subst hwr0;have hmle:manyIn (L.take j) a q≤12:=by
         have:=List.countP_le_length (p:=inB a q) (l:=L.take j);rw [List.length_take] at this;unfold manyIn;omega
        by_cases hjl:j<L.length
        ·have hjl':(j:Int)<L.length:=by omega
         obtain ⟨bl,ol,x,rfl,hbl,hxx,hcx⟩:=HIL7.out.at hjl;have HMS:=Lib.hid (manyIn_snoc L a q j hjl);rw [← hxx,inB_cases] at HMS;obtain ⟨mm,hmm⟩:∃ mm,mm=manyIn (L.take j) a q:=⟨_,rfl⟩;rw [← hmm] at hmle HMS ⊢;clear hxx hmm;by_cases h1:x ≥ (a:Int)
         ·by_cases h2:x<(q:Int)
          ·have HM2:Hid (manyIn (L.take (j+1)) a q=mm+1):=Lib.hid (by rw [HMS.out,decide_eq_true h1,decide_eq_true h2];rfl);go_wp2;go_roundw
           case rel=>exact ⟨j+1,by omega,by go_num,by rw [HM2.out];go_num,(by first | trivial | exact Lib.hid rfl)⟩
           case measure=>simp [intOf];omega
          ·have HM2:Hid (manyIn (L.take (j+1)) a q=mm):=Lib.hid (by rw [HMS.out,decide_eq_true h1,decide_eq_false h2];rfl);go_wp2;go_roundw
           case rel=>exact ⟨j+1,by omega,by go_num,by rw [HM2.out],(by first | trivial | exact Lib.hid rfl)⟩
           case measure=>simp [intOf];omega
         ·have HM2:Hid (manyIn (L.take (j+1)) a q=mm):=Lib.hid (by rw [HMS.out,decide_eq_false h1];rfl);go_wp2;go_roundw
          case rel=>exact ⟨j+1,by omega,by go_num,by rw [HM2.out],(by first | trivial | exact Lib.hid rfl)⟩
          case measure=>simp [intOf];omega
        ·have hje:j=L.length:=by omega
         subst hje;have HBD:Hid (badB t L a q=(decide (1<manyIn (L.take L.length) a q)&&t.right a q)):=Lib.hid (by rw [List.take_length];rfl);obtain ⟨mm,hmm⟩:∃ mm,mm=manyIn (L.take L.length) a q:=⟨_,rfl⟩;rw [← hmm] at hmle HBD ⊢;clear hmm hjl hj;by_cases hm1:mm > 1
         ·have hm1':(mm:Int) > 1:=by omega
          cases ar with
          | true =>
           have HFT:=Lib.hid (Fault_any t HOK.out a q (by omega) hql pw pt cw ct _ (HW.out.below (join HB.out (join HB5.out (join HB6.out HB7.out)))));have hki0:=kindI_right t a q;obtain ⟨ki,hkie⟩:∃ ki,ki=kindI t a q:=⟨_,rfl⟩;rw [← hkie] at HFT hki0;clear hkie;go_wp2_with fail
           refine HFT.out.mono ?_;rintro e w8 ⟨rfl,hB8⟩;have HB8:=Lib.hid (join HB7.out hB8);clear hB8;cases hrt:t.right a q with
           | true =>
            rw [hrt,decide_eq_true_eq] at hki0;have HNX:Hid (false=(al&&aloneRow t L a (q+1))):=Lib.hid (by rw [HRS.out,HBD.out,hrt,decide_eq_true hm1];simp);clear hrt;go_wp2;go_roundw
            case rel=>exact ⟨q+1,false,by omega,by omega,by go_num,rfl,HNX,HB8⟩
            case measure=>simp [intOf];omega
           | false =>
            rw [hrt,decide_eq_false_iff_not] at hki0;have HNX:Hid (true=(al&&aloneRow t L a (q+1))):=Lib.hid (by rw [HRS.out,HBD.out,hrt];simpa using HAR.out);clear hrt;go_wp2;go_roundw
            case rel=>exact ⟨q+1,true,by omega,by omega,by go_num,rfl,HNX,HB8⟩
            case measure=>simp [intOf];omega
          | false =>
           have HNX:Hid (false=(al&&aloneRow t L a (q+1))):=Lib.hid (by rw [HRS.out,← Bool.and_assoc,← HAR.out];rfl);go_wp2;go_roundw
           case rel=>exact ⟨q+1,false,by omega,by omega,by go_num,rfl,HNX,HB7⟩
           case measure=>simp [intOf];omega
         ·have hm1':¬ (mm:Int) > 1:=by omega
          have HNX:Hid (ar=(al&&aloneRow t L a (q+1))):=Lib.hid (by rw [HRS.out,HBD.out,decide_eq_false (by omega:¬ 1<mm)];simpa using HAR.out);go_wp2;go_roundw
          case rel=>exact ⟨q+1,ar,by omega,by omega,by go_num,rfl,HNX,HB7⟩
          case measure=>simp [intOf];omega
      ·have hqe:q=t.words.length+1:=by omega
       have HNX:Hid (ar=aloneTo t L (a+1)):=Lib.hid (by rw [HAR.out,HAL.out,HTO.out,hqe]);clear hqe;go_wp2;go_roundw
       case rel=>exact ⟨a+1,ar,by omega,by go_num,rfl,HNX,Lib.hid (join HB6.out HB7.out)⟩
       case measure=>simp [intOf];omega
    ·have hae:a=t.words.length:=by omega
     have HAB:Hid (al=aloneB t L):=Lib.hid (by rw [HAL.out,hae];rfl);have HIL6:=Lib.hid (HIL.out.below HB6.out);have HIB6:=Lib.hid (HIB5.out.below HB6.out);have HB6w:=Lib.hid (join HB5.out HB6.out);clear hae HAL;cases al with
     | false =>
      have HNX:=Lib.hid (HSK.out HAB.out.symm);go_wp2;go_roundw
      case rel=>exact ⟨k+1,b,pb,cb,by omega,by go_num,rfl,hb12,HIB6,HNX,HB6w⟩
      case measure=>simp [intOf];omega
     | true =>
      by_cases hg:b.length<L.length
      ·have hg':(L.length:Int) > (b.length:Int):=by omega
       have HNX:=Lib.hid (HTK1.out HAB.out.symm (.inl hg));go_wp2;go_roundw
       case rel=>exact ⟨k+1,L,pl,cl,by omega,by go_num,rfl,hl12,HIL6,HNX,HB6w⟩
       case measure=>simp [intOf];omega
      ·have hg':¬ (L.length:Int) > (b.length:Int):=by omega
       by_cases hge:L.length=b.length
       ·have hge':((L.length:Int) == (b.length:Int))=true:=by rw [hge];simp
        have HBF:=Lib.hid (before_any2 L b hge (by omega) pl pb cl cb w6 HIL6.out HIB6.out);have HTL:=Lib.hid (fun (h:lexB L b=true)=>HTK1.out HAB.out.symm (.inr ⟨hge,h⟩));have HKL:=Lib.hid (fun (h:lexB L b=false)=>HKP.out (fun hb=>by
         rcases hb with h1 | ⟨_,h1⟩
         ·omega
         ·rw [h] at h1;cases h1))
        have HGE:=Lib.hid hge;clear hge;go_wp2_with fail
        refine HBF.out.mono ?_;rintro e w9 ⟨rfl,hB9⟩;have HIL9:=Lib.hid (HIL6.out.below hB9);have HIB9:=Lib.hid (HIB6.out.below hB9);have HB9:=Lib.hid (join HB6w.out hB9);clear hB9;cases hlx:lexB L b with
        | true =>
         have HNX:=Lib.hid (HTL.out hlx);clear hlx;go_wp2;go_roundw
         case rel=>exact ⟨k+1,L,pl,cl,by omega,by go_num,rfl,hl12,HIL9,HNX,HB9⟩
         case measure=>simp [intOf];omega
        | false =>
         have HNX:=Lib.hid (HKL.out hlx);clear hlx;go_wp2;go_roundw
         case rel=>exact ⟨k+1,b,pb,cb,by omega,by go_num,rfl,hb12,HIB9,HNX,HB9⟩
         case measure=>simp [intOf];omega
       ·have hge':((L.length:Int) == (b.length:Int))=false:=by rw [beq_eq_false_iff_ne];omega
        have hge2:¬ (L.length:Int)=(b.length:Int):=by omega
        have HNX:=Lib.hid (HKP.out (fun hb=>by rcases hb with h1 | ⟨h1,_⟩ <;> omega))
        go_wp2;go_roundw
        case rel=>exact ⟨k+1,b,pb,cb,by omega,by go_num,rfl,hb12,HIB6,HNX,HB6w⟩
        case measure=>simp [intOf];omega
  ·have hke:k=N:=by omega
   have HFIN:Hid (b=loneR t.right t.words.length):=Lib.hid (HLAST.out b (by rw [← hke];exact HBL.out));clear hke;go_wp2;go_ret;exact ⟨pb,cb,by rw [← HFIN.out];rfl,by rw [← HFIN.out];exact HIB4.out,join HB.out HB4.out⟩
end Go.Proofs.YtadnggecnjdhiaaGreat
