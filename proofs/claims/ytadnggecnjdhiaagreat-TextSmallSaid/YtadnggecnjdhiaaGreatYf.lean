/- Contracts of the code and of the reference, part 6. -/
import Derived.Test.YtadnggecnjdhiaaGreatYe
import Derived.Lib.SliceRun
set_option linter.unusedSimpArgs false
set_option linter.unusedVariables false
namespace Go.Proofs.YtadnggecnjdhiaaGreat
open Go.RowKit Tx
attribute [local go_sem] Oper.semAt_some
theorem own_cellE {w:World} {base:Nat} {E:TypeId} {g n c:Nat} {xs:List Value} (h:w.ownsRow base E 3 (.slice (some ⟨g,0,none⟩) n c) n xs) {j:Nat} (hj:j<n*3):∃ v,w.cell? ⟨g,j,none⟩=some v∧∀ i,w.frozen? ⟨g,i,none⟩=false:=by
 rcases h.2 with ⟨h1,_⟩ | ⟨g',cap,cur,hv,hb,hg,h1,h2,h3,h4⟩
 ·cases h1
 ·injection hv with e1 _ e3;injection e1 with e1;injection e1 with e1;subst e1;have hlt:j<cur.size:=by omega
  exact ⟨cur[j],by simp only [World.cell?,hg];simp [hlt],fun i=>by simp only [World.frozen?,hg];simp⟩
theorem own_some {w:World} {base:Nat} {E:TypeId} {p:Option Addr} {n c:Nat} {xs:List Value} (h:w.ownsRow base E 3 (.slice p n c) n xs) (hn:0<n):∃ g,p=some ⟨g,0,none⟩:=by
 rcases h.2 with ⟨h1,h2⟩ | ⟨g',cap,cur,hv,_⟩
 ·omega
 ·injection hv with e1;exact ⟨g',e1⟩
def nowTo (l:List Int) (n k:Nat):List Int:=(List.range n).map fun (i:Nat)=>if i<k then nowF l i else 0
theorem nowTo_len (l:List Int) (n k:Nat):(nowTo l n k).length=n:=by simp [nowTo]
theorem nowTo_zero (l:List Int) (n:Nat):nowTo l n 0=List.replicate n 0:=by
 apply List.ext_getElem?;intro i;unfold nowTo;by_cases hi:i<n
 ·simp [hi]
 ·rw [List.getElem?_eq_none (by simpa using hi),List.getElem?_eq_none (by simpa using hi)]
theorem nowTo_succ (l:List Int) (n:Nat) {k:Nat} (hk:k<n):(nowTo l n k).set k (nowF l k)=nowTo l n (k+1):=by
 apply List.ext_getElem?;intro i;rw [List.getElem?_set,nowTo_len];unfold nowTo;rw [List.getElem?_map,List.getElem?_map];by_cases h:k=i
 ·subst h;rw [if_pos rfl,if_pos hk];simp [hk]
 ·rw [if_neg h];by_cases hi:i<n
  ·rw [List.getElem?_range hi];simp only [Option.map_some];by_cases g:i<k
   ·rw [if_pos g,if_pos (by omega)]
   ·rw [if_neg g,if_neg (by omega)]
  ·rw [List.getElem?_eq_none (by simpa using hi)];rfl
theorem nowTo_full (l:List Int) (n:Nat) {k:Nat} (hk:k<n):(nowTo l n n).getD k 0=nowF l k:=by
 unfold nowTo;simp [hk]
theorem now_at {W:World} {M n k:Nat} {l:List Int} {tg:Nat × Nat} (h:W.heap[M]?=some (.cells (arrOf (nowTo l n n)) 3 tg)) (hk:k<n):W.cell? ⟨M,k,none⟩=some (.int .i64 (nowF l k)):=by
 have h2:(arrOf (nowTo l n n))[k]?=some (.int .i64 (nowF l k)):=by rw [arrOf_get (by rw [nowTo_len];exact hk),nowTo_full l n hk]
 simp [World.cell?,h,h2]
theorem coreUp (a:Bool) (b j:Nat) (l:List Int):(a&&(List.range (j+1)).all fun i=>l.contains ((b:Int)+(i:Int)))=((a&&(List.range j).all fun i=>l.contains ((b:Int)+(i:Int)))&&l.contains ((b:Int)+(j:Int))):=by
 rw [List.range_succ,List.all_append,Bool.and_assoc];simp
theorem take_all {l:List Int} {n k:Nat} (h:Upto l n k n):l.take k=l:=by rw [h.full,List.take_length]
def spSr16 (A R bb o n cw k:Nat) (v1:Value) (x:Word):Nat→List Value→Value→World→Prop
 | 0,_,v,_=>v=.pointer (some ⟨R,0,none⟩)
 | 1,_,v,_=>v=v1
 | 2,_,v,_=>v=.pointer (some ⟨A,0,none⟩)
 | 3,_,v,_=>v=.slice (some ⟨bb,o,none⟩) n cw
 | 4,_,v,_=>v=.int .i64 (k:Int)
 | 5,_,v,_=>v=.pointer (some ⟨bb,o+k*3,none⟩)
 | 6,_,v,_=>v=.agg #[.int .i64 x.syl,.int .i64 x.wt,.bool x.stop]
 | 7,L,v,w=>∃ p,v=.slice (some ⟨p,0,none⟩) 1 1∧w.heap[p]?=some (.cells #[.int .i64 x.syl,.int .i64 x.wt,.bool x.stop] 80 (0,0))
 | _,_,_,_=>False
theorem spSr16_stable (A R bb o n cw k:Nat) (v1:Value) (x:Word):∀ i L v w w',spSr16 A R bb o n cw k v1 x i L v w→Rs.Gr w w'→spSr16 A R bb o n cw k v1 x i L v w':=by
 intro i L v w w' h hg
 match i with
 | 0=>exact h
 | 1=>exact h
 | 2=>exact h
 | 3=>exact h
 | 4=>exact h
 | 5=>exact h
 | 6=>exact h
 | 7=>obtain ⟨p,h1,h3⟩:=h;exact ⟨p,h1,(hg.block p (Array.getElem?_eq_some_iff.1 h3).1).trans h3⟩
def spSr29 (R M b14 n:Nat) (u1:Value) (l:List Int) (a b c:Nat):Nat→List Value→Value→World→Prop
 | 0,_,v,_=>v=.pointer (some ⟨R,1,none⟩)
 | 1,_,v,_=>v=u1
 | 2,_,v,_=>v=.slice (some ⟨M,0,none⟩) n n
 | 3,_,v,_=>v=.pointer (some ⟨b14,0,none⟩)
 | 4,_,v,_=>v=.int .i64 (a:Int)
 | 5,_,v,_=>v=.pointer (some ⟨M,a,none⟩)
 | 6,_,v,_=>v=.int .i64 (nowF l a)
 | 7,_,v,_=>v=.slice (some ⟨M,0,none⟩) n n
 | 8,_,v,_=>v=.pointer (some ⟨b14,1,none⟩)
 | 9,_,v,_=>v=.pointer (some ⟨b14,1,none⟩)
 | 10,_,v,_=>v=.int .i64 (b:Int)
 | 11,_,v,_=>v=.pointer (some ⟨M,b,none⟩)
 | 12,_,v,_=>v=.int .i64 (nowF l b)
 | 13,_,v,_=>v=.slice (some ⟨M,0,none⟩) n n
 | 14,_,v,_=>v=.pointer (some ⟨b14,1,none⟩)
 | 15,_,v,_=>v=.pointer (some ⟨b14,2,none⟩)
 | 16,_,v,_=>v=.int .i64 (c:Int)
 | 17,_,v,_=>v=.pointer (some ⟨M,c,none⟩)
 | 18,_,v,_=>v=.int .i64 (nowF l c)
 | 19,_,v,_=>v=.agg #[.int .i64 (nowF l b),.int .i64 (nowF l c)]
 | 20,_,v,_=>v=.agg #[.int .i64 (nowF l a),.int .i64 (nowF l b),.int .i64 (nowF l c)]
 | 21,L,v,w=>∃ p,v=.slice (some ⟨p,0,none⟩) 1 1∧w.heap[p]?=some (.cells #[.int .i64 (nowF l a),.int .i64 (nowF l b),.int .i64 (nowF l c)] 81 (0,0))
 | _,_,_,_=>False
theorem spSr29_stable (R M b14 n:Nat) (u1:Value) (l:List Int) (a b c:Nat):∀ i L v w w',spSr29 R M b14 n u1 l a b c i L v w→Rs.Gr w w'→spSr29 R M b14 n u1 l a b c i L v w':=by
 intro i L v w w' h hg
 match i with
 | 0=>exact h
 | 1=>exact h
 | 2=>exact h
 | 3=>exact h
 | 4=>exact h
 | 5=>exact h
 | 6=>exact h
 | 7=>exact h
 | 8=>exact h
 | 9=>exact h
 | 10=>exact h
 | 11=>exact h
 | 12=>exact h
 | 13=>exact h
 | 14=>exact h
 | 15=>exact h
 | 16=>exact h
 | 17=>exact h
 | 18=>exact h
 | 19=>exact h
 | 20=>exact h
 | 21=>obtain ⟨p,h1,h3⟩:=h;exact ⟨p,h1,(hg.block p (Array.getElem?_eq_some_iff.1 h3).1).trans h3⟩
set_option maxHeartbeats 16000000 in
set_option maxRecDepth 100000 in
theorem rShorter_any (t:Text) (l:List Int) (hl1:t.words.length≤1000000) (hl2:t.turns.length≤1000000) (hll:l.length≤1000000) (pw pt pl:Option Addr) (cw ct cl:Nat) (w:World) (hW:TxAt w t pw pt) (hL:Ints w pl l) :
  Calls Tryz.prog 63 #[.agg #[.slice pw t.words.length cw,.slice pt t.turns.length ct,.int .i64 t.breath],.slice pl l.length cl] w (TextPost 80 81 (shoT t l) (shoE t l) w):=by
 have HS:=Lib.hid (fun W (h:Below w.heap.size w W)=>rKeeps_any t l hl1 hl2 hll pw pt pl cw ct cl W (hW.below h) (hL.below h));by_cases he:t.keptE l=0
 ·have HE:=Lib.hid he;cases hks:t.keeps l with
  | false =>
  have h1:shoT t l=⟨[],[],0⟩:=by unfold shoT;rw [if_neg (by rw [hks];simp)]
  have h2:shoE t l=8:=by unfold shoE;rw [if_pos he,hks];rfl
  have h3:keeB t l=false:=by unfold keeB;rw [if_pos he,hks]
  rw [h1,h2];have HK:=Lib.hid h3;clear hW hL he h1 h2 h3 hks
  go_enter Tryz.func63,Tryz.ntmps63
  go_wp2_with fail
  refine (HS.out _ ((below1 _ _).alloc (by simp) _)).mono ?_;rintro e w5 ⟨rfl,hB5⟩;have hz7:w.heap.size+1<w5.heap.size:=by have:=hB5.size;simp at this;omega
  have HRES:=Lib.hid (show w5.heap[w.heap.size+1]?=some (.cells #[.slice none 0 0,.slice none 0 0,.int .i64 0] 32 (0,0)) by
   rw [hB5.block _ (by simp)];have:=heap_last (w.alloc (.cells #[.slice pw t.words.length cw,.slice pt t.turns.length ct,.int .i64 t.breath] 32)) (.cells #[.slice none 0 0,.slice none 0 0,.int .i64 0] 32);rwa [World.size_alloc] at this)
  have HT5:=Lib.hid (show w5.heap[w.heap.size]?=some (.cells #[.slice pw t.words.length cw,.slice pt t.turns.length ct,.int .i64 t.breath] 32 (0,0)) by
   rw [hB5.block _ (by simp;omega),Below.heap_alloc _ _ _ (by simp)];exact heap_last _ _)
  have HB6:=Lib.hid (join ((below1 _ _).alloc (by simp) _) hB5);clear hB5;rw [HK.out,HE.out];have z:∀ i,w5.frozen? ⟨w.heap.size+1,i,none⟩=false:=fun i=>by simp [World.frozen?,HRES.out]
  obtain ⟨r0,r1,r2⟩:=blk3 HRES.out;go_wp2;refine bodyPost_ret (v:=.tuple #[.agg #[.slice none 0 0,.slice none 0 0,.int .i64 0],.int .i64 8]) (by simp [results,Tryz.results63,go_sem,hz7,r0,r1,r2]) rfl ⟨none,none,0,0,rfl,own_none _ _ _ _,own_none _ _ _ _,?_⟩;have hz9:=HB6.out.size
  repeat' (first | exact HB6.out | apply belS | apply belA | apply belD)
  all_goals first | omega | (simp;done) | (simp;omega)
  | true =>
  have hk:=keptE_zero he;have ok:=err_ok hk.1;have h1:shoT t l=t.shortT l:=by unfold shoT;rw [if_pos ⟨he,hks⟩]
  have h2:shoE t l=0:=by unfold shoE;rw [if_pos he,hks];rfl
  have h3:keeB t l=true:=by unfold keeB;rw [if_pos he,hks]
  rw [h1,h2];have HK:=Lib.hid h3;have HOK:=Lib.hid ok;have hn12:=ok.n12;have hm6:=ok.m6;have hlen:=kept_len he;have HU0:=Lib.hid (Upto.start (n:=t.words.length) hk.2.2.2 hk.2.2.1);have HHAS:=Lib.hid (fun x W (h:Below w.heap.size w W)=>has_any l x hll pl cl W (hL.below h));obtain ⟨bb,o,x0,rfl,hbb,_⟩:=hW.words.at (i:=0) (by have:=ok.n1;omega);have HWD:=Lib.hid hW.words;have HTN:=Lib.hid hW.turns;have hmk:=make_ints t.words.length (by omega);obtain ⟨i0,hi0,hz0,hz1,hz2⟩:=info_parts A_infoRW;obtain ⟨j0,hj0,hy0,hy1,hy2⟩:=info_parts A_infoRT;clear hW hL he h1 h2 h3 hks ok hk
  go_enter Tryz.func63,Tryz.ntmps63
  go_wp2_with fail
  refine (HS.out _ ((below1 _ _).alloc (by simp) _)).mono ?_;rintro e w5 ⟨rfl,hB5⟩;have hz7:w.heap.size+1<w5.heap.size:=by have:=hB5.size;simp at this;omega
  have HRES:=Lib.hid (show w5.heap[w.heap.size+1]?=some (.cells #[.slice none 0 0,.slice none 0 0,.int .i64 0] 32 (0,0)) by
   rw [hB5.block _ (by simp)];have:=heap_last (w.alloc (.cells #[.slice (some ⟨bb,o,none⟩) t.words.length cw,.slice pt t.turns.length ct,.int .i64 t.breath] 32)) (.cells #[.slice none 0 0,.slice none 0 0,.int .i64 0] 32);rwa [World.size_alloc] at this)
  have HT5:=Lib.hid (show w5.heap[w.heap.size]?=some (.cells #[.slice (some ⟨bb,o,none⟩) t.words.length cw,.slice pt t.turns.length ct,.int .i64 t.breath] 32 (0,0)) by
   rw [hB5.block _ (by simp;omega),Below.heap_alloc _ _ _ (by simp)];exact heap_last _ _)
  have HB6:=Lib.hid (join ((below1 _ _).alloc (by simp) _) hB5);clear hB5;rw [HK.out,HE.out];have hz6:w.heap.size<w5.heap.size:=by omega
  obtain ⟨k0,k1,k2⟩:=blk3 HT5.out;go_wp2_with fail
  clear k0 k1 k2 hmk;obtain ⟨WL,hWL⟩:∃ WL,WL=(w5.alloc (.cells #[.slice none 0 0,.slice none 0 0,.int .i64 t.breath] 32)).alloc (.cells (arrOf (List.replicate t.words.length 0)) 3):=⟨_,rfl⟩;rw [← hWL];obtain ⟨R,hR⟩:∃ R,R=w5.heap.size:=⟨_,rfl⟩;have HM0:=Lib.hid (show SrT w t (some ⟨bb,o,none⟩) pt cw ct R (R+1) (nowTo l t.words.length 0) (.slice none 0 0) (.slice none 0 0) [] [] WL by
   have hb:Below w5.heap.size w5 WL:=by rw [hWL];exact (below1 _ _).alloc (by simp) _
   have hl:=heap_last (w5.alloc (.cells #[.slice none 0 0,.slice none 0 0,.int .i64 t.breath] 32)) (.cells (arrOf (List.replicate t.words.length 0)) 3);rw [World.size_alloc,← hWL] at hl;refine ⟨(hb.block _ (by omega)).trans HT5.out,(hb.block _ (by omega)).trans HRES.out,?_,by rw [nowTo_zero,hR];exact hl,own_none _ _ _ _,own_none _ _ _ _,HB6.out.trans (hb.mono HB6.out.size),by omega,by omega⟩;rw [hWL,hR];exact ((below1 (w5.alloc (.cells #[.slice none 0 0,.slice none 0 0,.int .i64 t.breath] 32)) _).block w5.heap.size (by simp)).trans (heap_last _ _))
  rw [← hR];clear hWL hR HB6 HT5 HRES hz7 hz6
  go_loopw [11,12] (fun a i wr=>∃ (k kk:Nat) (v:Value),k≤t.words.length∧i=.int .i64 k∧a=.int .i64 ((kk:Int)-1)∧Hid (Upto l t.words.length kk k)∧Hid (SrT w t (some ⟨bb,o,none⟩) pt cw ct R (R+1) (nowTo l t.words.length k) v (.slice none 0 0) (shortW t.words (l.take kk) k) [] wr)) (fun _ i _=>t.words.length-(intOf i).toNat)
  case atStart=>exact ⟨0,0,_,Nat.zero_le _,rfl,rfl,HU0,HM0⟩
  case round =>
   obtain ⟨k,kk,v,hk,rfl,rfl,HU,HM⟩:=hrel;clear HM0 HU0;obtain ⟨p1,c1,rfl⟩:=own_val HM.out.ow;have hkl:=HU.out.kl;have hRM:=HM.out.lt1;have hMs:=HM.out.siz;have hSl:=Lib.hid (show (shortW t.words (l.take kk) k).length=kk by rw [shortW_len,List.length_take];omega);obtain ⟨k0,k1,k2⟩:=blk3 HM.out.txt;have hA0:w.heap.size<wr.heap.size:=by omega
   by_cases hlt:k<t.words.length
   ·have hlt':(k:Int)<t.words.length:=by omega
    have hk0:(0:Int)≤(k:Int):=by omega
    have HHIT:=Lib.hid (fun h=>short_hit HU.out hlt h);have HMISS:=Lib.hid (short_miss HU.out hlt);generalize shortW t.words (l.take kk) k=S at HM hSl HHIT HMISS ⊢;obtain ⟨bb',o',x,hp,_,hxx,d0,d1,d2⟩:=HWD.out.at hlt;injection hp with hp;injection hp with hp1 hp2 _;subst hp1;subst hp2;have HD:=Lib.hid (show w.cell? ⟨bb,o+k*3,none⟩=some (.int .i64 x.syl)∧w.cell? ⟨bb,o+k*3+1,none⟩=some (.int .i64 x.wt)∧w.cell? ⟨bb,o+k*3+2,none⟩=some (.bool x.stop) from ⟨d0,d1,d2⟩);rw [← hxx] at HHIT HMISS;clear d0 d1 d2 hxx;have cM:=blk_cells HM.out.now k _ (arrOf_get (by rw [nowTo_len];exact hlt));have fM:∀ i,wr.frozen? ⟨R+1,i,none⟩=false:=fun i=>by simp [World.frozen?,HM.out.now]
    generalize (nowTo l t.words.length k).getD k 0=old at cM;go_wp2_with fail
    clear cM fM k0 k1 k2;have HM1:=Lib.hid (HM.out.setNow k (-1));clear HM;refine (HHAS.out (k:Int) _ HM1.out.bel).mono ?_;rintro e w8 ⟨rfl,hB⟩;have HM:=Lib.hid (HM1.out.low hB);clear HM1 hB;have hA0:w.heap.size<w8.heap.size:=by have:=HM.out.siz;omega
    obtain ⟨k0,k1,k2⟩:=blk3 HM.out.txt;have cM:=blk_cells HM.out.now k _ (arrOf_get (by rw [List.length_set,nowTo_len];exact hlt));have fM:∀ i,w8.frozen? ⟨R+1,i,none⟩=false:=fun i=>by simp [World.frozen?,HM.out.now]
    generalize ((nowTo l t.words.length k).set k (-1)).getD k 0=old2 at cM;cases hc:l.contains (k:Int) with
    | true =>
     have HIDX:=Lib.hid (HU.out.idx hc);have HUN:=Lib.hid (HU.out.next hc);have HSN:=Lib.hid (HHIT.out hc);have hadd:IntKind.wrap .i64 ((kk:Int)-1+1)=(kk:Int):=by rw [show (kk:Int)-1+1=(kk:Int) by omega];exact IntWalk.i64_in _ (by omega)
     clear hc HHIT HMISS;go_wp2_with fail
     clear cM fM k0 k1 k2 hA0;have HM2:=Lib.hid (HM.out.setNow k (kk:Int));rw [List.set_set,← HIDX.out,nowTo_succ l _ hlt] at HM2;rw [← HIDX.out];have HNK:=Lib.hid (show nowF l k=(kk:Int) from HIDX.out);generalize w8.setCell ⟨R+1,k,none⟩ (.int .i64 (nowF l k))=w9 at HM2 ⊢;clear HM;have HM:=HM2;clear HM2;refine Rs.region_gen 8 [[],[0],[],[2],[],[2,3,4],[2,3,4,5],[2,3,4,5,6]] [some 57,some 58,some 59,some 60,some 61,some 62,some 63,some 64] (spSr16 w.heap.size R bb o t.words.length cw k (.slice p1 S.length c1) x) (by kernel_rfl) (by kernel_rfl) rfl (spSr16_stable _ _ _ _ _ _ _ _ _) ?_ ?_
     ·refine ⟨fun V w' hG hs=>?_,fun V w' hG hs=>?_,fun V w' hG hs=>?_,fun V w' hG hs=>?_,fun V w' hG hs=>?_,fun V w' hG hs=>?_,fun V w' hG hs=>?_,fun V w' hG hs=>?_,trivial⟩
      all_goals
       obtain ⟨j0,j1,j2⟩:=blk3 ((hG.block R (by have:=HM.out.siz;have:=HM.out.lt2;omega)).trans HM.out.box);obtain ⟨k0,k1,k2⟩:=blk3 ((hG.block w.heap.size (by have:=HM.out.siz;have:=HM.out.lt2;have:=HM.out.lt1;omega)).trans HM.out.txt);have hBw:=below_trans2 HM.out.bel hG;have d0:=(hBw.cell (p:=⟨bb,o+k*3,none⟩) hbb).trans HD.out.1;have d1:=(hBw.cell (p:=⟨bb,o+k*3+1,none⟩) hbb).trans HD.out.2.1;have d2:=(hBw.cell (p:=⟨bb,o+k*3+2,none⟩) hbb).trans HD.out.2.2
      ·rw [if_pos (by rfl)];exact Rs.GrowL.value (v:=.pointer (some ⟨R,0,none⟩)) (w':=w') (by simp [go_sem,Rs.look]) (Rs.Gr.refl _) rfl
      ·have e0:V 0=_:=hs 0 (by simp);rw [if_pos (by rfl)];exact Rs.GrowL.value (v:=(.slice p1 S.length c1)) (w':=w') (by simp [go_sem,Rs.look,e0,j0]) (Rs.Gr.refl _) rfl
      ·rw [if_pos (by rfl)];exact Rs.GrowL.value (v:=.pointer (some ⟨w.heap.size,0,none⟩)) (w':=w') (by simp [go_sem,Rs.look]) (Rs.Gr.refl _) rfl
      ·have e2:V 2=_:=hs 2 (by simp);rw [if_pos (by rfl)];exact Rs.GrowL.value (v:=.slice (some ⟨bb,o,none⟩) t.words.length cw) (w':=w') (by simp [go_sem,Rs.look,e2,k0]) (Rs.Gr.refl _) rfl
      ·rw [if_pos (by rfl)];exact Rs.GrowL.value (v:=.int .i64 (k:Int)) (w':=w') (by simp [go_sem,Rs.look]) (Rs.Gr.refl _) rfl
      ·have e2:V 2=_:=hs 2 (by simp);have e3:V 3=_:=hs 3 (by simp);have e4:V 4=_:=hs 4 (by simp);rw [if_pos (by rfl)];exact Rs.GrowL.value (v:=.pointer (some ⟨bb,o+k*3,none⟩)) (w':=w') (by simp [go_sem,Rs.look,e2,e3,e4,hk0,hlt',hlt]) (Rs.Gr.refl _) rfl
      ·have e2:V 2=_:=hs 2 (by simp);have e3:V 3=_:=hs 3 (by simp);have e4:V 4=_:=hs 4 (by simp);have e5:V 5=_:=hs 5 (by simp);rw [if_pos (by rfl)];exact Rs.GrowL.value (v:=.agg #[.int .i64 x.syl,.int .i64 x.wt,.bool x.stop]) (w':=w') (by simp [go_sem,Rs.look,e2,e3,e4,e5,d0,d1,d2]) (Rs.Gr.refl _) rfl
      ·have e2:V 2=_:=hs 2 (by simp);have e3:V 3=_:=hs 3 (by simp);have e4:V 4=_:=hs 4 (by simp);have e5:V 5=_:=hs 5 (by simp);have e6:V 6=_:=hs 6 (by simp);rw [if_pos (by rfl)];exact Rs.GrowL.value (v:=.slice (some ⟨w'.heap.size,0,none⟩) 1 1) (w':=w'.alloc (.cells #[.int .i64 x.syl,.int .i64 x.wt,.bool x.stop] 80)) (by simp [go_sem,Rs.look,e6]) (below1 _ _) ⟨_,rfl,heap_last _ _⟩
     ·intro V w' hG hs;have e0:V 0=_:=hs 0 (by omega);have e1:V 1=_:=hs 1 (by omega);have e2:V 2=_:=hs 2 (by omega);have e3:V 3=_:=hs 3 (by omega);have e4:V 4=_:=hs 4 (by omega);have e5:V 5=_:=hs 5 (by omega);have e6:V 6=_:=hs 6 (by omega);have r7:=hs 7 (by omega);obtain ⟨p9,e7,hx9⟩:=r7;simp only [Rs.canon,Rs.dstOf,List.range_succ,List.range_zero,List.nil_append,List.cons_append,List.foldl_cons,List.foldl_nil,List.drop_succ_cons,List.drop_zero,List.drop_nil,List.getElem?_toArray,List.getElem?_cons_succ,List.getElem?_cons_zero,Option.bind_some,Act.put,List.getD_cons_succ,List.getD_cons_zero,List.setIfInBounds_toArray,List.set_cons_succ,List.set_cons_zero];rw [e0,e1,e2,e3,e4,e5,e6,e7];clear e0 e1 e2 e3 e4 e5 e6 e7 hs;have HM:=Lib.hid (HM.out.low hG);have HX9:=Lib.hid hx9;clear hG hx9;go_wp2_with (at_builtin;refine wpList_append_own _ rfl _ _ 29 rfl (R+1+1) 80 i0 (.agg #[.int .i64 0,.int .i64 0,.bool false]) 3 24 A_undRW hi0 hz0 hz1 hz2 rfl (by decide) _ _ _ rfl HM.out.ow ⟨p9,0,none⟩ 1 1 [.int .i64 x.syl,.int .i64 x.wt,.bool x.stop] rfl rfl ?e1 ?e2 ?e3 ?e4 ?e5 ?_)
      case e1=>exact cell3_at HX9.out
      case e2=>intro u hu;simp at hu;rcases hu with rfl | rfl | rfl <;> rfl
      case e3=>have:=hSl.out;unfold maxLen;omega
      case e4=>have:=hSl.out;omega
      case e5=>have:=HM.out.siz;omega
      intro v' w10 hown hgrow _;obtain ⟨vp,vc,rfl⟩:=own_val hown;have hh:=grow_hold (M:=R+1) HM.out.ow (by omega) hgrow;have hu:=own_other HM.out.ou HM.out.ow (by decide) hgrow;have HM3:=Lib.hid (HM.out.wapp (x:=x) hh (fun k hk=>hk) hu hown);have hbx:=(hh.same R (by show R≤R+1;omega) (by have:=HM.out.siz;omega)).trans HM.out.box;have fR:∀ i,w10.frozen? ⟨R,i,none⟩=false:=fun i=>by simp [World.frozen?,hbx]
      obtain ⟨j0',j1',j2'⟩:=blk3 hbx;have hRl:=(Array.getElem?_eq_some_iff.1 hbx).1;clear hh hu hgrow hown hbx HM;go_wp2;go_roundw
      case rel=>exact ⟨k+1,kk+1,_,by omega,by go_num,by rw [HNK.out];congr 1;omega,HUN,Lib.hid (by rw [show ((k+1:Nat):Int)=(k:Int)+1 from rfl,HSN.out];exact HM3.out)⟩
      case measure=>simp [intOf];omega
    | false =>
     have HUM:=Lib.hid (HU.out.miss hc);have HM2:=HM;rw [← nowF_miss hc,nowTo_succ l _ hlt] at HM2;clear hc HHIT HM;have HM:=HM2;clear HM2 cM fM;by_cases hkk:kk=0
     ·have hge:¬ (0:Int)≤(kk:Int)-1:=by omega
      have HMS:=Lib.hid (show shortW t.words (l.take kk) ((k:Int)+1)=S by rw [HMISS.out,if_neg (by omega)]);clear hkk HMISS;go_wp2;go_roundw
      case rel=>exact ⟨k+1,kk,_,by omega,by go_num,rfl,HUM,Lib.hid (by rw [show ((k+1:Nat):Int)=(k:Int)+1 from rfl,HMS.out];exact HM.out)⟩
      case measure=>simp [intOf];omega
     ·obtain ⟨q,rfl⟩:∃ q,kk=q+1:=⟨kk-1,by omega⟩;have hq:((q+1:Nat):Int)-1=(q:Int):=by omega
      rw [hq];have hge:(0:Int)≤(q:Int):=by omega
      have d2:=(HM.out.bel.cell (p:=⟨bb,o+k*3+2,none⟩) hbb).trans HD.out.2.2;cases hst:x.stop with
      | false =>
       have HMS:=Lib.hid (show shortW t.words (l.take (q+1)) ((k:Int)+1)=S by rw [HMISS.out,if_neg (by rw [hst];simp)]);rw [hst] at d2;clear hkk HMISS hst;go_wp2;go_roundw
       case rel=>exact ⟨k+1,q+1,_,by omega,by go_num,by rw [hq],HUM,Lib.hid (by rw [show ((k+1:Nat):Int)=(k:Int)+1 from rfl,HMS.out];exact HM.out)⟩
       case measure=>simp [intOf];omega
      | true =>
       have HMS:=Lib.hid (show shortW t.words (l.take (q+1)) ((k:Int)+1)=S.set q { S.getD q default with stop:=true } by rw [HMISS.out,if_pos ⟨by omega,hst⟩];rfl);rw [hst] at d2;clear hkk HMISS hst;have hSq:S.length=q+1:=hSl.out;obtain ⟨g,rfl⟩:=own_some HM.out.ow (by omega);obtain ⟨uq,cq,fq⟩:=own_cellE HM.out.ow (j:=q*3+2) (by omega);have HM3:=Lib.hid (HM.out.stop q (by omega));obtain ⟨j0',j1',j2'⟩:=blk3 HM.out.box;have hRl:=(Array.getElem?_eq_some_iff.1 HM.out.box).1;have hq1:(q:Int)<(S.length:Int):=by omega
       have hq2:q<S.length:=by omega
       go_wp2;go_roundw
       case rel=>exact ⟨k+1,q+1,_,by omega,by go_num,by rw [hq],HUM,Lib.hid (by rw [show ((k+1:Nat):Int)=(k:Int)+1 from rfl,HMS.out];exact HM3.out)⟩
       case measure=>simp [intOf];omega
   ·obtain rfl:k=t.words.length:=by omega
    have hta:=take_all HU.out;rw [hta] at HM;clear HU hSl hkl hk hta;generalize hSW:shortW t.words l t.words.length=SW at HM;have HSW:=Lib.hid hSW;clear hSW;go_wp2_with fail
    clear k0 k1 k2 hA0 hlt hRM hMs
    go_loopw [13] (fun i wr=>∃ (k:Nat) (u:Value),k≤t.turns.length∧i=.int .i64 k∧Hid (SrT w t (some ⟨bb,o,none⟩) pt cw ct R (R+1) (nowTo l t.words.length t.words.length) (.slice p1 SW.length c1) u SW (shortTs (t.turns.take k) l) wr)) (fun i _=>t.turns.length-(intOf i).toNat)
    case atStart=>exact ⟨0,_,Nat.zero_le _,rfl,HM⟩
    case round =>
     clear HM;obtain ⟨k,u,hk,rfl,HM⟩:=hrel;obtain ⟨p2,c2,rfl⟩:=own_val HM.out.ou;have hRM:=HM.out.lt1;have hMs:=HM.out.siz;obtain ⟨k0,k1,k2⟩:=blk3 HM.out.txt;have hA0:w.heap.size<wr.heap.size:=by omega
     by_cases hlt:k<t.turns.length
     ·have hlt':(k:Int)<t.turns.length:=by omega
      have hk0:(0:Int)≤(k:Int):=by omega
      obtain ⟨tb,tq',u,rfl,_,hxx,d0,d1,d2⟩:=(HTN.out.below HM.out.bel).at hlt;have hur:=HOK.out.turn u (by rw [hxx];exact getD_mem default hlt);have HSN:=Lib.hid (show shortTs (t.turns.take (k+1)) l=shortTs (t.turns.take k) l++(if coreIn u l&&l.contains u.word then [shortTurn l u] else []) by rw [take_snocD default hlt,← hxx];exact shortTs_snoc (t.turns.take k) u l);clear hxx;obtain ⟨uw,ul,uh⟩:=u;dsimp only at d0 d1 d2 hur HSN;obtain ⟨a,rfl⟩:=Int.eq_ofNat_of_zero_le hur.1;obtain ⟨b,rfl⟩:=Int.eq_ofNat_of_zero_le hur.2.2.1;obtain ⟨c,rfl⟩:=Int.eq_ofNat_of_zero_le (show 0≤uh by omega);have ha0:(0:Int)≤(a:Int):=by omega
      have ha1:(a:Int)<(t.words.length:Int):=hur.2.1;have ha2:a<t.words.length:=by omega
      have hb0:(0:Int)≤(b:Int):=by omega
      have hb1:(b:Int)<(t.words.length:Int):=by omega
      have hb2:b<t.words.length:=by omega
      have hc0:(0:Int)≤(c:Int):=by omega
      have hc1:(c:Int)<(t.words.length:Int):=by omega
      have hc2:c<t.words.length:=by omega
      have hbc:b≤c:=by omega
      obtain ⟨b14,hb14⟩:∃ b14,b14=wr.heap.size:=⟨_,rfl⟩;have HX14:=Lib.hid (heap_last wr (.cells #[.int .i64 (a:Int),.int .i64 (b:Int),.int .i64 (c:Int)] 81));have HM1:=Lib.hid (HM.out.low (below1 wr (.cells #[.int .i64 (a:Int),.int .i64 (b:Int),.int .i64 (c:Int)] 81)));have hca:=now_at HM.out.now ha2;have HGA:=Lib.hid (nowF_pos l (a:Int));clear hur;go_wp2_with fail
      clear d0 d1 d2 k0 k1 k2 hca;generalize wr.alloc (.cells #[.int .i64 (a:Int),.int .i64 (b:Int),.int .i64 (c:Int)] 81)=W8 at HX14 HM1 ⊢;clear HM;have HM:=HM1;clear HM1;rw [← hb14] at HX14 ⊢;clear hb14 hA0 hRM hMs;obtain ⟨m0,m1,m2⟩:=blk3 HX14.out;have h14:=(Array.getElem?_eq_some_iff.1 HX14.out).1
      go_loop [15,16] (fun al i=>∃ j:Nat,b+j≤c+1∧i=.int .i64 ((b:Int)+(j:Int))∧al=.bool (l.contains (a:Int)&&(List.range j).all fun i=>l.contains ((b:Int)+(i:Int)))) (fun _ i=>c+1-(intOf i).toNat)
      case atStart=>exact ⟨0,by omega,by simp,by rw [← HGA.out];simp⟩
      case round =>
       obtain ⟨j,hj,rfl,rfl⟩:=hrel;by_cases hjc:b+j≤c
       ·have hjc':(b:Int)+(j:Int)≤(c:Int):=by omega
        have hq0:(0:Int)≤(b:Int)+(j:Int):=by omega
        have hq1:(b:Int)+(j:Int)<(t.words.length:Int):=by omega
        have hq2:b+j<t.words.length:=by omega
        have hadd:IntKind.wrap .i64 ((b:Int)+(j:Int)+1)=(b:Int)+(j:Int)+1:=IntWalk.i64_in _ (by omega);have hcq:=now_at HM.out.now hq2;have HGQ:=Lib.hid (nowF_pos l ((b+j:Nat):Int));have HUP:=Lib.hid (coreUp (l.contains (a:Int)) b j l);have hcast:((b+j:Nat):Int)=(b:Int)+(j:Int):=by omega
        rw [hcast] at hcq HGQ;generalize (l.contains (a:Int)&&(List.range j).all fun i=>l.contains ((b:Int)+(i:Int)))=al at HUP ⊢;cases al with
        | true =>
         rw [Bool.true_and,← HGQ.out] at HUP;go_wp2;go_round
         case rel=>exact ⟨j+1,by omega,by push_cast;rw [Int.add_assoc],by rw [HUP.out]⟩
         case measure=>simp only [intOf];omega
        | false =>
         rw [Bool.false_and] at HUP;go_wp2;go_round
         case rel=>exact ⟨j+1,by omega,by push_cast;rw [Int.add_assoc],by rw [HUP.out]⟩
         case measure=>simp only [intOf];omega
       ·have hjc':¬ (b:Int)+(j:Int)≤(c:Int):=by omega
        have HAL:=Lib.hid (show (l.contains (a:Int)&&(List.range j).all fun i=>l.contains ((b:Int)+(i:Int)))=(coreIn ⟨(a:Int),(b:Int),(c:Int)⟩ l&&l.contains (a:Int)) by
         rw [Bool.and_comm];unfold coreIn;rw [show ((c:Int)+1-(b:Int)).toNat=j by omega])
        rw [HAL.out];clear HAL;cases hall:(coreIn ⟨(a:Int),(b:Int),(c:Int)⟩ l&&l.contains (a:Int)) with
        | false =>
         have HSM:=Lib.hid (show shortTs (t.turns.take (k+1)) l=shortTs (t.turns.take k) l by rw [HSN.out,hall];simp);clear hall HSN;go_wp2;go_roundw
         case rel=>exact ⟨k+1,_,by omega,by go_num,Lib.hid (by rw [HSM.out];exact HM.out)⟩
         case measure=>simp [intOf];omega
        | true =>
         have HSM:=Lib.hid (show shortTs (t.turns.take (k+1)) l=shortTs (t.turns.take k) l++[⟨nowF l a,nowF l b,nowF l c⟩] by
          rw [HSN.out,hall,if_pos rfl];rw [Bool.and_eq_true] at hall;have he:=core_ends (show (b:Int)≤(c:Int) by omega) hall.1;unfold shortTurn nowF;rw [if_pos hall.2,if_pos he.1,if_pos he.2])
         clear hall HSN;go_wp2_with fail
         refine Rs.region_gen 22 [[],[0],[],[],[3],[2,3,4],[2,3,4,5],[],[],[8],[8,9],[7,8,9,10],[7,8,9,10,11],[],[],[14],[14,15],[13,14,15,16],[13,14,15,16,17],[7,8,9,10,11,12,13,14,15,16,17,18],[2,3,4,5,6,7,8,9,10,11,12,13,14,15,16,17,18,19],[2,3,4,5,6,7,8,9,10,11,12,13,14,15,16,17,18,19,20]] [some 119,some 120,some 121,some 122,some 123,some 124,some 125,some 126,some 127,some 128,some 129,some 130,some 131,some 132,some 133,some 134,some 135,some 136,some 137,some 138,some 139,some 140] (spSr29 R (R+1) b14 t.words.length (.slice p2 (shortTs (t.turns.take k) l).length c2) l a b c) (by kernel_rfl) (by kernel_rfl) rfl (spSr29_stable _ _ _ _ _ _ _ _ _) ?_ ?_
         ·refine ⟨fun V w' hG hs=>?_,fun V w' hG hs=>?_,fun V w' hG hs=>?_,fun V w' hG hs=>?_,fun V w' hG hs=>?_,fun V w' hG hs=>?_,fun V w' hG hs=>?_,fun V w' hG hs=>?_,fun V w' hG hs=>?_,fun V w' hG hs=>?_,fun V w' hG hs=>?_,fun V w' hG hs=>?_,fun V w' hG hs=>?_,fun V w' hG hs=>?_,fun V w' hG hs=>?_,fun V w' hG hs=>?_,fun V w' hG hs=>?_,fun V w' hG hs=>?_,fun V w' hG hs=>?_,fun V w' hG hs=>?_,fun V w' hG hs=>?_,fun V w' hG hs=>?_,trivial⟩
          all_goals
           obtain ⟨j0,j1,j2⟩:=blk3 ((hG.block R (by have:=HM.out.siz;have:=HM.out.lt2;omega)).trans HM.out.box);obtain ⟨m0,m1,m2⟩:=blk3 ((hG.block b14 (Array.getElem?_eq_some_iff.1 HX14.out).1).trans HX14.out);have hNW:=(hG.block (R+1) HM.out.siz).trans HM.out.now;have ca:=now_at hNW ha2;have cb:=now_at hNW hb2;have cc:=now_at hNW hc2
          ·rw [if_pos (by rfl)];exact Rs.GrowL.value (v:=.pointer (some ⟨R,1,none⟩)) (w':=w') (by simp [go_sem,Rs.look]) (Rs.Gr.refl _) rfl
          ·have e0:V 0=_:=hs 0 (by simp);rw [if_pos (by rfl)];exact Rs.GrowL.value (v:=(.slice p2 (shortTs (t.turns.take k) l).length c2)) (w':=w') (by simp [go_sem,Rs.look,e0,j1]) (Rs.Gr.refl _) rfl
          ·rw [if_pos (by rfl)];exact Rs.GrowL.value (v:=.slice (some ⟨(R+1),0,none⟩) t.words.length t.words.length) (w':=w') (by simp [go_sem,Rs.look]) (Rs.Gr.refl _) rfl
          ·rw [if_pos (by rfl)];exact Rs.GrowL.value (v:=.pointer (some ⟨b14,0,none⟩)) (w':=w') (by simp [go_sem,Rs.look]) (Rs.Gr.refl _) rfl
          ·have e3:V 3=_:=hs 3 (by simp);rw [if_pos (by rfl)];exact Rs.GrowL.value (v:=.int .i64 (a:Int)) (w':=w') (by simp [go_sem,Rs.look,e3,m0]) (Rs.Gr.refl _) rfl
          ·have e2:V 2=_:=hs 2 (by simp);have e3:V 3=_:=hs 3 (by simp);have e4:V 4=_:=hs 4 (by simp);rw [if_pos (by rfl)];exact Rs.GrowL.value (v:=.pointer (some ⟨(R+1),a,none⟩)) (w':=w') (by simp [go_sem,Rs.look,e2,e3,e4,ha0,ha1,ha2]) (Rs.Gr.refl _) rfl
          ·have e2:V 2=_:=hs 2 (by simp);have e3:V 3=_:=hs 3 (by simp);have e4:V 4=_:=hs 4 (by simp);have e5:V 5=_:=hs 5 (by simp);rw [if_pos (by rfl)];exact Rs.GrowL.value (v:=.int .i64 (nowF l a)) (w':=w') (by simp [go_sem,Rs.look,e2,e3,e4,e5,ca]) (Rs.Gr.refl _) rfl
          ·rw [if_pos (by rfl)];exact Rs.GrowL.value (v:=.slice (some ⟨(R+1),0,none⟩) t.words.length t.words.length) (w':=w') (by simp [go_sem,Rs.look]) (Rs.Gr.refl _) rfl
          ·rw [if_pos (by rfl)];exact Rs.GrowL.value (v:=.pointer (some ⟨b14,1,none⟩)) (w':=w') (by simp [go_sem,Rs.look]) (Rs.Gr.refl _) rfl
          ·have e8:V 8=_:=hs 8 (by simp);rw [if_pos (by rfl)];exact Rs.GrowL.value (v:=.pointer (some ⟨b14,1,none⟩)) (w':=w') (by simp [go_sem,Rs.look,e8]) (Rs.Gr.refl _) rfl
          ·have e8:V 8=_:=hs 8 (by simp);have e9:V 9=_:=hs 9 (by simp);rw [if_pos (by rfl)];exact Rs.GrowL.value (v:=.int .i64 (b:Int)) (w':=w') (by simp [go_sem,Rs.look,e8,e9,m1]) (Rs.Gr.refl _) rfl
          ·have e7:V 7=_:=hs 7 (by simp);have e8:V 8=_:=hs 8 (by simp);have e9:V 9=_:=hs 9 (by simp);have e10:V 10=_:=hs 10 (by simp);rw [if_pos (by rfl)];exact Rs.GrowL.value (v:=.pointer (some ⟨(R+1),b,none⟩)) (w':=w') (by simp [go_sem,Rs.look,e7,e8,e9,e10,hb0,hb1,hb2]) (Rs.Gr.refl _) rfl
          ·have e7:V 7=_:=hs 7 (by simp);have e8:V 8=_:=hs 8 (by simp);have e9:V 9=_:=hs 9 (by simp);have e10:V 10=_:=hs 10 (by simp);have e11:V 11=_:=hs 11 (by simp);rw [if_pos (by rfl)];exact Rs.GrowL.value (v:=.int .i64 (nowF l b)) (w':=w') (by simp [go_sem,Rs.look,e7,e8,e9,e10,e11,cb]) (Rs.Gr.refl _) rfl
          ·rw [if_pos (by rfl)];exact Rs.GrowL.value (v:=.slice (some ⟨(R+1),0,none⟩) t.words.length t.words.length) (w':=w') (by simp [go_sem,Rs.look]) (Rs.Gr.refl _) rfl
          ·rw [if_pos (by rfl)];exact Rs.GrowL.value (v:=.pointer (some ⟨b14,1,none⟩)) (w':=w') (by simp [go_sem,Rs.look]) (Rs.Gr.refl _) rfl
          ·have e14:V 14=_:=hs 14 (by simp);rw [if_pos (by rfl)];exact Rs.GrowL.value (v:=.pointer (some ⟨b14,2,none⟩)) (w':=w') (by simp [go_sem,Rs.look,e14]) (Rs.Gr.refl _) rfl
          ·have e14:V 14=_:=hs 14 (by simp);have e15:V 15=_:=hs 15 (by simp);rw [if_pos (by rfl)];exact Rs.GrowL.value (v:=.int .i64 (c:Int)) (w':=w') (by simp [go_sem,Rs.look,e14,e15,m2]) (Rs.Gr.refl _) rfl
          ·have e13:V 13=_:=hs 13 (by simp);have e14:V 14=_:=hs 14 (by simp);have e15:V 15=_:=hs 15 (by simp);have e16:V 16=_:=hs 16 (by simp);rw [if_pos (by rfl)];exact Rs.GrowL.value (v:=.pointer (some ⟨(R+1),c,none⟩)) (w':=w') (by simp [go_sem,Rs.look,e13,e14,e15,e16,hc0,hc1,hc2]) (Rs.Gr.refl _) rfl
          ·have e13:V 13=_:=hs 13 (by simp);have e14:V 14=_:=hs 14 (by simp);have e15:V 15=_:=hs 15 (by simp);have e16:V 16=_:=hs 16 (by simp);have e17:V 17=_:=hs 17 (by simp);rw [if_pos (by rfl)];exact Rs.GrowL.value (v:=.int .i64 (nowF l c)) (w':=w') (by simp [go_sem,Rs.look,e13,e14,e15,e16,e17,cc]) (Rs.Gr.refl _) rfl
          ·have e7:V 7=_:=hs 7 (by simp);have e8:V 8=_:=hs 8 (by simp);have e9:V 9=_:=hs 9 (by simp);have e10:V 10=_:=hs 10 (by simp);have e11:V 11=_:=hs 11 (by simp);have e12:V 12=_:=hs 12 (by simp);have e13:V 13=_:=hs 13 (by simp);have e14:V 14=_:=hs 14 (by simp);have e15:V 15=_:=hs 15 (by simp);have e16:V 16=_:=hs 16 (by simp);have e17:V 17=_:=hs 17 (by simp);have e18:V 18=_:=hs 18 (by simp);rw [if_pos (by rfl)];exact Rs.GrowL.value (v:=.agg #[.int .i64 (nowF l b),.int .i64 (nowF l c)]) (w':=w') (by simp [go_sem,Rs.look,e7,e8,e9,e10,e11,e12,e13,e14,e15,e16,e17,e18]) (Rs.Gr.refl _) rfl
          ·have e2:V 2=_:=hs 2 (by simp);have e3:V 3=_:=hs 3 (by simp);have e4:V 4=_:=hs 4 (by simp);have e5:V 5=_:=hs 5 (by simp);have e6:V 6=_:=hs 6 (by simp);have e7:V 7=_:=hs 7 (by simp);have e8:V 8=_:=hs 8 (by simp);have e9:V 9=_:=hs 9 (by simp);have e10:V 10=_:=hs 10 (by simp);have e11:V 11=_:=hs 11 (by simp);have e12:V 12=_:=hs 12 (by simp);have e13:V 13=_:=hs 13 (by simp);have e14:V 14=_:=hs 14 (by simp);have e15:V 15=_:=hs 15 (by simp);have e16:V 16=_:=hs 16 (by simp);have e17:V 17=_:=hs 17 (by simp);have e18:V 18=_:=hs 18 (by simp);have e19:V 19=_:=hs 19 (by simp);rw [if_pos (by rfl)];exact Rs.GrowL.value (v:=.agg #[.int .i64 (nowF l a),.int .i64 (nowF l b),.int .i64 (nowF l c)]) (w':=w') (by simp [go_sem,Rs.look,e2,e3,e4,e5,e6,e7,e8,e9,e10,e11,e12,e13,e14,e15,e16,e17,e18,e19]) (Rs.Gr.refl _) rfl
          ·have e2:V 2=_:=hs 2 (by simp);have e3:V 3=_:=hs 3 (by simp);have e4:V 4=_:=hs 4 (by simp);have e5:V 5=_:=hs 5 (by simp);have e6:V 6=_:=hs 6 (by simp);have e7:V 7=_:=hs 7 (by simp);have e8:V 8=_:=hs 8 (by simp);have e9:V 9=_:=hs 9 (by simp);have e10:V 10=_:=hs 10 (by simp);have e11:V 11=_:=hs 11 (by simp);have e12:V 12=_:=hs 12 (by simp);have e13:V 13=_:=hs 13 (by simp);have e14:V 14=_:=hs 14 (by simp);have e15:V 15=_:=hs 15 (by simp);have e16:V 16=_:=hs 16 (by simp);have e17:V 17=_:=hs 17 (by simp);have e18:V 18=_:=hs 18 (by simp);have e19:V 19=_:=hs 19 (by simp);have e20:V 20=_:=hs 20 (by simp);rw [if_pos (by rfl)];exact Rs.GrowL.value (v:=.slice (some ⟨w'.heap.size,0,none⟩) 1 1) (w':=w'.alloc (.cells #[.int .i64 (nowF l a),.int .i64 (nowF l b),.int .i64 (nowF l c)] 81)) (by simp [go_sem,Rs.look,e20]) (below1 _ _) ⟨_,rfl,heap_last _ _⟩
         ·intro V w' hG hs;have e0:V 0=_:=hs 0 (by omega);have e1:V 1=_:=hs 1 (by omega);have e2:V 2=_:=hs 2 (by omega);have e3:V 3=_:=hs 3 (by omega);have e4:V 4=_:=hs 4 (by omega);have e5:V 5=_:=hs 5 (by omega);have e6:V 6=_:=hs 6 (by omega);have e7:V 7=_:=hs 7 (by omega);have e8:V 8=_:=hs 8 (by omega);have e9:V 9=_:=hs 9 (by omega);have e10:V 10=_:=hs 10 (by omega);have e11:V 11=_:=hs 11 (by omega);have e12:V 12=_:=hs 12 (by omega);have e13:V 13=_:=hs 13 (by omega);have e14:V 14=_:=hs 14 (by omega);have e15:V 15=_:=hs 15 (by omega);have e16:V 16=_:=hs 16 (by omega);have e17:V 17=_:=hs 17 (by omega);have e18:V 18=_:=hs 18 (by omega);have e19:V 19=_:=hs 19 (by omega);have e20:V 20=_:=hs 20 (by omega);have r21:=hs 21 (by omega);obtain ⟨p9,e21,hx9⟩:=r21;simp only [Rs.canon,Rs.dstOf,List.range_succ,List.range_zero,List.nil_append,List.cons_append,List.foldl_cons,List.foldl_nil,List.drop_succ_cons,List.drop_zero,List.drop_nil,List.getElem?_toArray,List.getElem?_cons_succ,List.getElem?_cons_zero,Option.bind_some,Act.put,List.getD_cons_succ,List.getD_cons_zero,List.setIfInBounds_toArray,List.set_cons_succ,List.set_cons_zero];rw [e0,e1,e2,e3,e4,e5,e6,e7,e8,e9,e10,e11,e12,e13,e14,e15,e16,e17,e18,e19,e20,e21];clear e0 e1 e2 e3 e4 e5 e6 e7 e8 e9 e10 e11 e12 e13 e14 e15 e16 e17 e18 e19 e20 e21 hs;have HM:=Lib.hid (HM.out.low hG);have HX9:=Lib.hid hx9;have htl:=shortTs_len (t.turns.take k) l;have htk:(t.turns.take k).length≤6:=by rw [List.length_take];omega
          clear hG hx9;go_wp2_with (at_builtin;refine wpList_append_own _ rfl _ _ 30 rfl (R+1+1) 81 j0 (.agg #[.int .i64 0,.int .i64 0,.int .i64 0]) 3 24 A_undRT hj0 hy0 hy1 hy2 rfl (by decide) _ _ _ rfl HM.out.ou ⟨p9,0,none⟩ 1 1 [.int .i64 (nowF l a),.int .i64 (nowF l b),.int .i64 (nowF l c)] rfl rfl ?e1 ?e2 ?e3 ?e4 ?e5 ?_)
          case e1=>exact cell3_at HX9.out
          case e2=>intro u hu;simp at hu;rcases hu with rfl | rfl | rfl <;> rfl
          case e3=>unfold maxLen;omega
          case e4=>omega
          case e5=>have:=HM.out.siz;omega
          intro v' w10 hown hgrow _;obtain ⟨vp,vc,rfl⟩:=own_val hown;have hh:=grow_hold (M:=R+1) HM.out.ou (by omega) hgrow;have hu:=own_other HM.out.ow HM.out.ou (by decide) hgrow;have HM3:=Lib.hid (HM.out.tapp (x:=⟨nowF l a,nowF l b,nowF l c⟩) hh (fun k hk=>hk) hu hown);have hbx:=(hh.same R (by show R≤R+1;omega) (by have:=HM.out.siz;omega)).trans HM.out.box;have fR:∀ i,w10.frozen? ⟨R,i,none⟩=false:=fun i=>by simp [World.frozen?,hbx]
          obtain ⟨j0',j1',j2'⟩:=blk3 hbx;have hRl:=(Array.getElem?_eq_some_iff.1 hbx).1;clear hh hu hgrow hown hbx HM;go_wp2;go_roundw
          case rel=>exact ⟨k+1,_,by omega,by go_num,Lib.hid (by rw [HSM.out];exact HM3.out)⟩
          case measure=>simp [intOf];omega
     ·obtain rfl:k=t.turns.length:=by omega
      have HTT:=Lib.hid (show shortTs (t.turns.take t.turns.length) l=shortTs t.turns l by rw [List.take_length]);rw [HTT.out] at HM;generalize hTS:shortTs t.turns l=TS at HM;have HTS:=Lib.hid hTS;clear HTT hTS;obtain ⟨j0',j1',j2'⟩:=blk3 HM.out.box;have hRl:=(Array.getElem?_eq_some_iff.1 HM.out.box).1;obtain ⟨r0,r1,r2⟩:=blk3 HM.out.res;have z:∀ i,wr.frozen? ⟨w.heap.size+1,i,none⟩=false:=fun i=>by simp [World.frozen?,HM.out.res]
      have hz7:w.heap.size+1<wr.heap.size:=by omega
      go_wp2;obtain ⟨W3,hW3⟩:∃ W3,W3=((wr.setCell ⟨w.heap.size+1,0,none⟩ (.slice p1 SW.length c1)).setCell ⟨w.heap.size+1,1,none⟩ (.slice p2 TS.length c2)).setCell ⟨w.heap.size+1,2,none⟩ (.int .i64 t.breath):=⟨_,rfl⟩;rw [← hW3];have hx1:W3.heap[w.heap.size+1]?=some (.cells #[.slice p1 SW.length c1,.slice p2 TS.length c2,.int .i64 t.breath] 32 (0,0)):=by
       rw [hW3];exact heap_set_same _ (heap_set_same _ (heap_set_same _ HM.out.res))
      have hO:W3.ownsRow w.heap.size 80 3 (.slice p1 SW.length c1) SW.length (wcells SW):=by
       rw [hW3];exact own_base (own_setC (own_setC (own_setC HM.out.ow (by omega)) (by omega)) (by omega)) (by omega)
      have hQ:W3.ownsRow w.heap.size 81 3 (.slice p2 TS.length c2) TS.length (tcells TS):=by
       rw [hW3];exact own_base (own_setC (own_setC (own_setC HM.out.ou (by omega)) (by omega)) (by omega)) (by omega)
      have hBW:Below w.heap.size w W3:=by
       rw [hW3];exact ((HM.out.bel.setCell (p:=⟨w.heap.size+1,0,none⟩) (by show w.heap.size≤w.heap.size+1;omega) _).setCell (p:=⟨w.heap.size+1,1,none⟩) (by show w.heap.size≤w.heap.size+1;omega) _).setCell (p:=⟨w.heap.size+1,2,none⟩) (by show w.heap.size≤w.heap.size+1;omega) _
      have e0:(t.shortT l).words=SW:=HSW.out;have e1:(t.shortT l).turns=TS:=HTS.out;have e2:(t.shortT l).breath=t.breath:=rfl;generalize t.shortT l=X at e0 e1 e2 ⊢;subst e0;subst e1;have q0:=blk_cells hx1 0 _ rfl;have q1:=blk_cells hx1 1 _ rfl;have q2:=blk_cells hx1 2 _ rfl;refine bodyPost_ret (v:=.tuple #[.agg #[.slice p1 X.words.length c1,.slice p2 X.turns.length c2,.int .i64 t.breath],.int .i64 0]) (by simp [results,Tryz.results63,go_sem,q0,q1,q2]) rfl ⟨p1,p2,c1,c2,by rw [e2],hO,hQ,hBW⟩
 ·have h1:shoT t l=⟨[],[],0⟩:=by unfold shoT;rw [if_neg (fun h=>he h.1)]
  have h2:shoE t l=t.keptE l:=if_neg he;have hne:(t.keptE l != 0)=true:=by simpa using he
  rw [h1,h2];clear hW hL he h1 h2
  go_enter Tryz.func63,Tryz.ntmps63
  go_wp2_with fail
  refine (HS.out _ ((below1 _ _).alloc (by simp) _)).mono ?_;rintro e w5 ⟨rfl,hB5⟩;have hz7:w.heap.size+1<w5.heap.size:=by have:=hB5.size;simp at this;omega
  have HRES:=Lib.hid (show w5.heap[w.heap.size+1]?=some (.cells #[.slice none 0 0,.slice none 0 0,.int .i64 0] 32 (0,0)) by
   rw [hB5.block _ (by simp)];have:=heap_last (w.alloc (.cells #[.slice pw t.words.length cw,.slice pt t.turns.length ct,.int .i64 t.breath] 32)) (.cells #[.slice none 0 0,.slice none 0 0,.int .i64 0] 32);rwa [World.size_alloc] at this)
  have HT5:=Lib.hid (show w5.heap[w.heap.size]?=some (.cells #[.slice pw t.words.length cw,.slice pt t.turns.length ct,.int .i64 t.breath] 32 (0,0)) by
   rw [hB5.block _ (by simp;omega),Below.heap_alloc _ _ _ (by simp)];exact heap_last _ _)
  have HB6:=Lib.hid (join ((below1 _ _).alloc (by simp) _) hB5);clear hB5;have z:∀ i,w5.frozen? ⟨w.heap.size+1,i,none⟩=false:=fun i=>by simp [World.frozen?,HRES.out]
  obtain ⟨r0,r1,r2⟩:=blk3 HRES.out;go_wp2;refine bodyPost_ret (v:=.tuple #[.agg #[.slice none 0 0,.slice none 0 0,.int .i64 0],.int .i64 (t.keptE l)]) (by simp [results,Tryz.results63,go_sem,hz7,r0,r1,r2]) rfl ⟨none,none,0,0,rfl,own_none _ _ _ _,own_none _ _ _ _,?_⟩;have hz9:=HB6.out.size
  repeat' (first | exact HB6.out | apply belS | apply belA | apply belD)
  all_goals first | omega | (simp;done) | (simp;omega)
end Go.Proofs.YtadnggecnjdhiaaGreat
namespace Go.Proofs.YtadnggecnjdhiaaGreat
open Go.RowKit Tx
theorem zero3_len (a b c:Value) (n:Nat):(Builtin.zeroCells #[a,b,c] n).toList.length=n*3:=by
 simp [Builtin.zeroCells]
theorem zero3_one (a b c:Value) (n:Nat) (h:∀ u∈[a,b,c],u.oneCell'=true):∀ v∈(Builtin.zeroCells #[a,b,c] n).toList,v.oneCell'=true:=by
 intro v hv;simp [Builtin.zeroCells] at hv;obtain ⟨i,_,rfl⟩:=hv;have hi:i % 3=0∨i % 3=1∨i % 3=2:=by omega
 rcases hi with h1 | h1 | h1 <;> rw [h1] <;> exact h _ (by simp)
theorem grown_setCells (g:Nat):∀ (vs:List Value) (o:Nat) (w:World),w.grownBy (w.setCells g o vs) (some g)
 | [],_,_=>⟨rfl,rfl,rfl,Nat.le_refl _,fun _ _ _=>rfl⟩
 | v::r,o,w=>by
  have h1:=grown_set w g o v;have h2:=grown_setCells g r (o+1) (w.setCell ⟨g,o,none⟩ v);exact ⟨h2.os.trans h1.os,h2.tape.trans h1.tape,h2.output.trans h1.output,Nat.le_trans h1.size h2.size,fun k hk hn=>(h2.block k (Nat.lt_of_lt_of_le hk h1.size) hn).trans (h1.block k hk hn)⟩
theorem clear_own {Ts e:TypeId} {i0:TypeInfo} {a b c:Value} (hu:Tryz.prog.underlying Ts=some (.slice e)) (hi:Tryz.prog.info? e=some i0) (hz:i0.zero=some (.agg #[a,b,c])) (h1:∀ u∈[a,b,c],u.oneCell'=true)
  {w:World} {base:Nat} {p:Option Addr} {n cp:Nat} {xs:List Value} (h:w.ownsRow base e 3 (.slice p n cp) n xs) :
  ∃ w',(∀ ty,(Builtin.clear_ #[Ts] ty #[.slice p n cp]).run Tryz.prog w=.ok (.tuple #[]) w')∧Below base w w'∧w.grownBy w' (Value.slice p n cp).ownBlock:=by
 have hv:∀ w,(zeroValue e).run Tryz.prog w=.ok (.agg #[a,b,c]) w:=fun w=>by simp [zeroValue,typeInfo,hi,hz]
 rcases h.2 with ⟨h2,h3⟩ | ⟨g,cap,cur,h2,hb,hg,hnc,hcm,hcs,_⟩
 ·injection h2 with h2;subst h2;exact ⟨w,fun ty=>by simp [Builtin.clear_,run_underlying hu],Below.refl _ _,⟨rfl,rfl,rfl,Nat.le_refl _,fun _ _ _=>rfl⟩⟩
 ·injection h2 with h2 _ h4;subst h2;rcases Nat.eq_zero_or_pos n with rfl | hn
  ·exact ⟨w,fun ty=>by simp [Builtin.clear_,run_underlying hu],Below.refl _ _,⟨rfl,rfl,rfl,Nat.le_refl _,fun _ _ _=>rfl⟩⟩
  ·have hst:=run_storeCells_cells (P:=Tryz.prog) g 0 (Builtin.zeroCells #[a,b,c] n).toList 0 w (fun j hj=>by
    rw [zero3_len] at hj;have hlt:j<cur.size:=by
     have:n*3≤cap*3:=Nat.mul_le_mul_right 3 hnc;omega
    simp only [World.cell?,hg];simp [hlt]) (fun j hj=>by simp only [World.frozen?,hg];simp) (zero3_one a b c n h1)
   simp only [Nat.add_zero] at hst;obtain ⟨m,rfl⟩:∃ m,n=m+1:=⟨n-1,by omega⟩;refine ⟨w.setCells g 0 (Builtin.zeroCells #[a,b,c] (m+1)).toList,fun ty=>?_,below_setCells' hb _ _ _ (Below.refl _ _),grown_setCells g _ _ _⟩;have hc:(Value.agg #[a,b,c]).cells=#[a,b,c]:=rfl;simp [Builtin.clear_,run_underlying hu,hv,hc,hst]
theorem blk_other {w w':World} {base R:Nat} {e T:TypeId} {s:Nat} {v:Value} {n:Nat} {xs:List Value} {cs:Array Value} {tg:Nat × Nat} (h:w.heap[R]?=some (.cells cs T tg)) (ho:w.ownsRow base e s v n xs) (hT:T≠e) (hg:w.grownBy w' v.ownBlock):w'.heap[R]?=some (.cells cs T tg):=by
 refine (hg.block R (Array.getElem?_eq_some_iff.1 h).1 ?_).trans h;rcases ho.2 with ⟨h1,_⟩ | ⟨g,cap,cur,h1,_,hgx,_⟩
 ·rw [h1];show some R≠none;simp
 ·rw [h1]
  show some R≠some g
  intro e2;injection e2 with e2;subst e2;rw [hgx] at h;injection h with h;injection h with _ h;exact hT h.symm
end Go.Proofs.YtadnggecnjdhiaaGreat
namespace Go.Proofs.YtadnggecnjdhiaaGreat
open Go.RowKit Tx
attribute [local go_sem] Oper.semAt_some
def spLsh (t:Text) (pw pt:Option Addr) (cw ct B:Nat) (l:List Int) (pl:Option Addr) (cl:Nat):Nat→List Value→Value→World→Prop
 | 0,_,v,_=>v=.agg #[.slice pw t.words.length cw,.slice pt t.turns.length ct,.int .i64 t.breath]
 | 1,L,v,w=>∃ p q c d,v=.agg #[.slice p t.words.length c,.slice q t.turns.length d,.int .i64 t.breath]∧w.ownsRow B 61 3 (.slice p t.words.length c) t.words.length (wcells t.words)∧w.ownsRow B 63 3 (.slice q t.turns.length d) t.turns.length (tcells t.turns)∧t.words.length≤c∧c≤maxLen
 | 2,_,v,_=>v=.agg #[.slice pw t.words.length cw,.slice pt t.turns.length ct,.int .i64 t.breath]
 | 3,L,v,w=>∃ p q c d,v=.agg #[.slice p t.words.length c,.slice q t.turns.length d,.int .i64 t.breath]∧w.ownsRow B 80 3 (.slice p t.words.length c) t.words.length (wcells t.words)∧w.ownsRow B 81 3 (.slice q t.turns.length d) t.turns.length (tcells t.turns)
 | 4,_,v,_=>v=.slice pl l.length cl
 | 5,L,v,w=>∃ p c,v=.slice p l.length c∧w.ownsRow B 3 1 (.slice p l.length c) l.length (l.map (Value.int .i64))
 | 6,L,v,w=>∃ p,v=.pointer (some ⟨p,0,none⟩)∧B≤p∧w.heap[p]?=some (.cells #[.slice none 0 0,.slice none 0 0,.int .i64 0] 25 (0,0))
 | 7,L,v,w=>∃ p,v=.pointer (some ⟨p,0,none⟩)∧B≤p∧w.heap[p]?=some (.cells #[.slice none 0 0,.slice none 0 0,.int .i64 0] 32 (0,0))
 | _,_,_,_=>False
theorem spLsh_stable (t:Text) (pw pt:Option Addr) (cw ct B:Nat) (l:List Int) (pl:Option Addr) (cl:Nat):∀ i L v w w',spLsh t pw pt cw ct B l pl cl i L v w→Rs.Gr w w'→spLsh t pw pt cw ct B l pl cl i L v w':=by
 intro i L v w w' h hg
 match i with
 | 0=>exact h
 | 1=>obtain ⟨p,q,c,d,h1,h2,h3,h4⟩:=h;exact ⟨p,q,c,d,h1,own_below h2 hg,own_below h3 hg,h4⟩
 | 2=>exact h
 | 3=>obtain ⟨p,q,c,d,h1,h2,h3⟩:=h;exact ⟨p,q,c,d,h1,own_below h2 hg,own_below h3 hg⟩
 | 4=>exact h
 | 5=>obtain ⟨p,c,h1,h2⟩:=h;exact ⟨p,c,h1,own_below h2 hg⟩
 | 6=>obtain ⟨p,h1,h2,h3⟩:=h;exact ⟨p,h1,h2,(hg.block p (Array.getElem?_eq_some_iff.1 h3).1).trans h3⟩
 | 7=>obtain ⟨p,h1,h2,h3⟩:=h;exact ⟨p,h1,h2,(hg.block p (Array.getElem?_eq_some_iff.1 h3).1).trans h3⟩
set_option maxHeartbeats 8000000 in
set_option maxRecDepth 100000 in
theorem TextShorter_any (t:Text) (l:List Int) (pc:Int) (hm1:t.words.length≤9223372036854775807) (hm2:t.turns.length≤9223372036854775807) (hm3:l.length≤9223372036854775807) (pw pt pl:Option Addr) (cw ct cl:Nat) (w:World) (hW:TxAt w t pw pt) (hL:Ints w pl l) :
  Calls Tryz.prog 26 #[.agg #[.slice pw t.words.length cw,.slice pt t.turns.length ct,.int .i64 t.breath],.slice pl l.length cl,.int .i64 pc] w fun e w'=>e=.returned (.bool true)∧Below w.heap.size w w':=by
 have HW:=Lib.hid hW;have HL:=Lib.hid hL;have HB0:=Lib.hid (below1 w (.cells #[.slice pw t.words.length cw,.slice pt t.turns.length ct,.int .i64 t.breath] 25));have HX0:=Lib.hid (heap_last w (.cells #[.slice pw t.words.length cw,.slice pt t.turns.length ct,.int .i64 t.breath] 25));have HG:=Lib.hid (fun W=>great_any t 20 hm1 hm2 pw pt cw ct W);have HN:=Lib.hid (great_no (t:=t) (n:=20));generalize greatB t 20=gb at HG HN;clear hW hL;cases gb with
 | true =>
  obtain ⟨k0,k1,k2⟩:=blk3 HX0.out
  go_enter Tryz.func26,Tryz.ntmps26
  go_wp2_with fail
  refine (HG.out _).mono ?_;rintro e w1 ⟨rfl,hB⟩;have HB1:=Lib.hid (join HB0.out hB);clear hB k0 k1 k2;go_wp2_with fail
  refine (awake_any w1).mono ?_;rintro e w2 ⟨rfl,hB⟩;have HB2:=Lib.hid (join HB1.out hB);clear hB;go_wp2;go_ret;exact ⟨rfl,HB2.out⟩
 | false =>
 have hn:=HN.out rfl;clear HN;by_cases hgt:20<l.length
 ·have hgt':(20:Int)<l.length:=by omega
  obtain ⟨k0,k1,k2⟩:=blk3 HX0.out
  go_enter Tryz.func26,Tryz.ntmps26
  go_wp2_with fail
  refine (HG.out _).mono ?_;rintro e w1 ⟨rfl,hB⟩;have HB1:=Lib.hid (join HB0.out hB);clear hB k0 k1 k2;go_wp2_with fail
  refine (awake_any w1).mono ?_;rintro e w2 ⟨rfl,hB⟩;have HB2:=Lib.hid (join HB1.out hB);clear hB;go_wp2;go_ret;exact ⟨rfl,HB2.out⟩
 ·have hgt':¬ (20:Int)<l.length:=by omega
  have hl1:t.words.length≤1000000:=by omega
  have hl2:t.turns.length≤1000000:=by omega
  have hl3:l.length≤1000000:=by omega
  have CKE:=Lib.hid (fun p q r c d e W (h:TxAt W t p q) (hL:Ints W r l)=>Keeps_any t l hl1 hl2 hl3 p q r c d e W h hL);have CRK:=Lib.hid (fun p q r c d e W (h:TxAt W t p q) (hL:Ints W r l)=>rKeeps_any t l hl1 hl2 hl3 p q r c d e W h hL);have CSH:=Lib.hid (fun p q r c d e hc W (h:TxAt W t p q) (hL:Ints W r l)=>Shorter_any t l hl1 hl2 hl3 p q r c d e hc W h hL);have CRS:=Lib.hid (fun p q r c d e W (h:TxAt W t p q) (hL:Ints W r l)=>rShorter_any t l hl1 hl2 hl3 p q r c d e W h hL);have CPR:=Lib.hid (fun p q c d W (h:TxAt W t p q)=>Price_any t pc hl1 hl2 p q c d W h);have CRP:=Lib.hid (fun p q c d W (h:TxAt W t p q)=>rPrice_any t pc hl1 hl2 p q c d W h);have hXw:(shoT t l).words.length≤1000000:=by
   unfold shoT;split
   ·show (shortW t.words l t.words.length).length≤1000000
    rw [shortW_len];exact hl3
   ·simp
  have hXt:(shoT t l).turns.length≤1000000:=by
   unfold shoT;split
   ·exact Nat.le_trans (shortTs_len _ _) hl2
   ·simp
  generalize keeB t l=kb at CKE CRK;generalize keeN t l=kn at CKE CRK;generalize t.keptE l=ke at CKE CRK;generalize shoT t l=X at CSH CRS hXw hXt;generalize shoE t l=xe at CSH CRS;generalize t.priceV pc=pv at CPR CRP;generalize t.priceE pc=pe at CPR CRP;obtain ⟨k0,k1,k2⟩:=blk3 HX0.out
  go_enter Tryz.func26,Tryz.ntmps26
  go_wp2_with fail
  refine (HG.out _).mono ?_;rintro e w1 ⟨rfl,hB⟩;have HX1:=Lib.hid ((hB.block w.heap.size (Array.getElem?_eq_some_iff.1 HX0.out).1).trans HX0.out);have HB1:=Lib.hid (join HB0.out hB);have HZ0:w.heap.size<w1.heap.size:=(Array.getElem?_eq_some_iff.1 HX1.out).1;clear hB k0 k1 k2 HX0 HB0 HG;go_wp2_with fail
  refine Rs.region_gen 8 [[],[0],[],[0,1,2],[],[0,1,2,3,4],[],[]] [some 30,some 31,some 32,some 33,some 34,some 35,some 7,some 8] (spLsh t pw pt cw ct w1.heap.size l pl cl) (by kernel_rfl) (by kernel_rfl) rfl (spLsh_stable _ _ _ _ _ _ _ _ _) ?_ ?_
  ·refine ⟨fun V w' hG hs=>?_,fun V w' hG hs=>?_,fun V w' hG hs=>?_,fun V w' hG hs=>?_,fun V w' hG hs=>?_,fun V w' hG hs=>?_,fun V w' hG hs=>?_,fun V w' hG hs=>?_,trivial⟩
   all_goals
    obtain ⟨k0,k1,k2⟩:=blk3 ((hG.block w.heap.size HZ0).trans HX1.out)
   ·rw [if_pos (by rfl)];exact Rs.GrowL.value (v:=.agg #[.slice pw t.words.length cw,.slice pt t.turns.length ct,.int .i64 t.breath]) (w':=w') (by simp [go_sem,Rs.look,k0,k1,k2]) (Rs.Gr.refl _) rfl
   ·have e0:V 0=_:=hs 0 (by simp);rw [if_pos (by rfl)];refine Rs.GrowL.call (f:=7) (args:=#[.agg #[.slice pw t.words.length cw,.slice pt t.turns.length ct,.int .i64 t.breath]]) (by simp [go_sem,Rs.look,e0]) ?_;refine (lCopy_any t hl1 hl2 pw pt cw ct w' (HW.out.below (join HB1.out hG))).mono ?_;rintro e w2 ⟨g,h,rfl,o1,o2,hB2⟩;exact ⟨_,rfl,hB2,_,_,_,_,rfl,own_base o1 hG.size,own_base o2 hG.size,Nat.le_refl _,by unfold maxLen;omega⟩
   ·rw [if_pos (by rfl)];exact Rs.GrowL.value (v:=.agg #[.slice pw t.words.length cw,.slice pt t.turns.length ct,.int .i64 t.breath]) (w':=w') (by simp [go_sem,Rs.look,k0,k1,k2]) (Rs.Gr.refl _) rfl
   ·have e0:V 0=_:=hs 0 (by simp);have r1:=hs 1 (by simp);have e2:V 2=_:=hs 2 (by simp);rw [if_pos (by rfl)];refine Rs.GrowL.call (f:=8) (args:=#[.agg #[.slice pw t.words.length cw,.slice pt t.turns.length ct,.int .i64 t.breath]]) (by simp [go_sem,Rs.look,e2]) ?_;refine (theirs_any t hl1 hl2 pw pt cw ct w' (HW.out.below (join HB1.out hG))).mono ?_;rintro e w2 ⟨p,q,c,d,rfl,o1,o2,hB2⟩;exact ⟨_,rfl,hB2,_,_,_,_,rfl,own_base o1 hG.size,own_base o2 hG.size⟩
   ·rw [if_pos (by rfl)];exact Rs.GrowL.value (v:=.slice pl l.length cl) (w':=w') (by simp [go_sem,Rs.look]) (Rs.Gr.refl _) rfl
   ·have e0:V 0=_:=hs 0 (by simp);have r1:=hs 1 (by simp);have e2:V 2=_:=hs 2 (by simp);have r3:=hs 3 (by simp);have e4:V 4=_:=hs 4 (by simp);rw [if_pos (by rfl)];refine Rs.GrowL.call (f:=54) (args:=#[.slice pl l.length cl]) (by simp [go_sem,Rs.look,e4]) ?_;refine (Copy_ints l hl3 pl cl w' (HL.out.below (join HB1.out hG))).mono ?_;rintro e w2 ⟨v,rfl,ho,hB2⟩;obtain ⟨p,c,rfl⟩:=own_val ho;exact ⟨_,rfl,hB2,p,c,rfl,own_base ho hG.size⟩
   ·rw [if_pos (by rfl)];exact Rs.GrowL.value (v:=.pointer (some ⟨w'.heap.size,0,none⟩)) (w':=w'.alloc (.cells #[.slice none 0 0,.slice none 0 0,.int .i64 0] 25)) (by simp [go_sem,Rs.look]) (below1 _ _) ⟨_,rfl,hG.size,heap_last _ _⟩
   ·rw [if_pos (by rfl)];exact Rs.GrowL.value (v:=.pointer (some ⟨w'.heap.size,0,none⟩)) (w':=w'.alloc (.cells #[.slice none 0 0,.slice none 0 0,.int .i64 0] 32)) (by simp [go_sem,Rs.look]) (below1 _ _) ⟨_,rfl,hG.size,heap_last _ _⟩
  ·intro V w' hG hs;have e0:V 0=_:=hs 0 (by omega);have r1:=hs 1 (by omega);have e2:V 2=_:=hs 2 (by omega);have r3:=hs 3 (by omega);have e4:V 4=_:=hs 4 (by omega);have r5:=hs 5 (by omega);have r6:=hs 6 (by omega);have r7:=hs 7 (by omega);obtain ⟨p7,q7,a7,b7,e1,o1,o2,hcw⟩:=r1;obtain ⟨p8,q8,a8,b8,e3,o3,o4⟩:=r3;obtain ⟨p9,c9,e5,o9⟩:=r5;obtain ⟨c7,e6,hc7,x7⟩:=r6;obtain ⟨c8,e7,hc8,x8⟩:=r7;simp only [Rs.canon,Rs.dstOf,List.range_succ,List.range_zero,List.nil_append,List.cons_append,List.foldl_cons,List.foldl_nil,List.drop_succ_cons,List.drop_zero,List.drop_nil,List.getElem?_toArray,List.getElem?_cons_succ,List.getElem?_cons_zero,Option.bind_some,Act.put,List.getD_cons_succ,List.getD_cons_zero,List.setIfInBounds_toArray,List.set_cons_succ,List.set_cons_zero];rw [e0,e1,e2,e3,e4,e5,e6,e7];clear e0 e1 e2 e3 e4 e5 e6 e7 hs;have hne:c7≠c8:=fun e=>by rw [e,x8] at x7;injection x7 with h;injection h with _ h;cases h
   have hz2:=hG.size;have hz1:=HB1.out.size;have HBx:=Lib.hid (join HB1.out hG);have hAx:=(hG.block w.heap.size HZ0).trans HX1.out;have HLW:=Lib.hid (LwT.start hAx (by omega) (by omega) x7 x8 o1 o2 o3 o4 HW.out HBx.out (by omega) (by omega));have HBW:=Lib.hid (lwSet_bel HBx.out (show w.heap.size≤c7 by omega) (show w.heap.size≤c8 by omega) (.slice p7 t.words.length a7) (.slice q7 t.turns.length b7) (.int .i64 t.breath) (.slice p8 t.words.length a8) (.slice q8 t.turns.length b8) (.int .i64 t.breath));have HI9:=Lib.hid (own_rd (own_lwSet x7 x8 hne (by decide) (by decide) (.slice p7 t.words.length a7) (.slice q7 t.turns.length b7) (.int .i64 t.breath) (.slice p8 t.words.length a8) (.slice q8 t.turns.length b8) (.int .i64 t.breath) o9) rfl);have f7:∀ i,w'.frozen? ⟨c7,i,none⟩=false:=fun i=>by simp [World.frozen?,x7]
   have f8:∀ i,w'.frozen? ⟨c8,i,none⟩=false:=fun i=>by simp [World.frozen?,x8]
   obtain ⟨m0,m1,m2⟩:=blk3 x7;obtain ⟨n0,n1,n2⟩:=blk3 x8;have h7:c7<w'.heap.size:=(Array.getElem?_eq_some_iff.1 x7).1;have h8:c8<w'.heap.size:=(Array.getElem?_eq_some_iff.1 x8).1;clear o1 o2 o3 o4 o9 x7 x8 hAx hz2 hz1 HX1 HB1 HBx;clear hG;go_wp2_with fail
   refine calls_named fun W hW=>?_;have hW2:W=lwSet w' c7 c8 (.slice p7 t.words.length a7) (.slice q7 t.turns.length b7) (.int .i64 t.breath) (.slice p8 t.words.length a8) (.slice q8 t.turns.length b8) (.int .i64 t.breath):=hW;rw [← hW2] at HLW HBW HI9;clear hW hW2 f7 f8 m0 m1 m2 n0 n1 n2 h7 h8;obtain ⟨p9',c9',e9,hI9,-⟩:=HI9.out;injection e9 with e9 _ e9c;subst e9;subst e9c;clear HI9;have HI9:=Lib.hid hI9;clear hI9;refine (CKE.out p7 q7 p9 a7 b7 c9 _ HLW.out.r7 HI9.out).mono ?_;rintro e w2 ⟨rfl,hB⟩;have HLW:=Lib.hid (HLW.out.below hB);have HI9:=Lib.hid (HI9.out.below hB);have HBW:=Lib.hid (join HBW.out hB);clear hB;obtain ⟨k0,k1,k2⟩:=blk3 HLW.out.prm;obtain ⟨k3,k4,k5⟩:=blk3 HLW.out.x7;obtain ⟨k6,k7,k8⟩:=blk3 HLW.out.x8;go_wp2_with fail
   refine (CRK.out p8 q8 pl a8 b8 cl _ HLW.out.r8 (HL.out.below HBW.out)).mono ?_;rintro e w2 ⟨rfl,hB⟩;have HLW:=Lib.hid (HLW.out.below hB);have HI9:=Lib.hid (HI9.out.below hB);have HBW:=Lib.hid (join HBW.out hB);clear k0 k1 k2 k3 k4 k5 k6 k7 k8;clear hB;obtain ⟨wS,hwS⟩:∃ wS,wS=w2:=⟨_,rfl⟩;rw [← hwS] at HLW HI9 HBW ⊢;clear hwS;have HLS:=HLW;have HIS:=HI9;have HBS:=HBW;obtain ⟨k0,k1,k2⟩:=blk3 HLW.out.prm;obtain ⟨k3,k4,k5⟩:=blk3 HLW.out.x7;obtain ⟨k6,k7,k8⟩:=blk3 HLW.out.x8;go_wp2_with fail
   refine (CSH.out p7 q7 p9 a7 b7 c9 ⟨hcw.1,hcw.2⟩ _ HLW.out.r7 HI9.out).mono ?_;rintro e w2 ⟨pa,qa,ca,da,rfl,oa,ob,hB⟩;have HLW:=Lib.hid (HLW.out.below hB);have HI9:=Lib.hid (HI9.out.below hB);have HBW:=Lib.hid (join HBW.out hB);have OA:=Lib.hid oa;have OB:=Lib.hid ob;have HS2:=Lib.hid hB;clear k0 k1 k2 k3 k4 k5 k6 k7 k8;clear hB oa ob;have HB16:=Lib.hid (heap_last w2 (.cells #[.slice pa X.words.length ca,.slice qa X.turns.length da,.int .i64 X.breath] 25));have hB:=below1 w2 (.cells #[.slice pa X.words.length ca,.slice qa X.turns.length da,.int .i64 X.breath] 25);have HLW:=Lib.hid (HLW.out.below hB);have HI9:=Lib.hid (HI9.out.below hB);have HBW:=Lib.hid (join HBW.out hB);have OA:=Lib.hid (own_below OA.out hB);have OB:=Lib.hid (own_below OB.out hB);have HS2:=Lib.hid (HS2.out.trans (hB.mono HS2.out.size));clear hB;obtain ⟨k0,k1,k2⟩:=blk3 HLW.out.prm;obtain ⟨k3,k4,k5⟩:=blk3 HLW.out.x7;obtain ⟨k6,k7,k8⟩:=blk3 HLW.out.x8;have y0:=blk_cells HB16.out 0 _ rfl;have y1:=blk_cells HB16.out 1 _ rfl;have y2:=blk_cells HB16.out 2 _ rfl;go_wp2_with fail
   refine (CRS.out p8 q8 pl a8 b8 cl _ HLW.out.r8 (HL.out.below HBW.out)).mono ?_;rintro e w3 ⟨pb,qb,cb,db,rfl,oc,od,hB⟩;have HB16:=Lib.hid ((hB.block _ (Array.getElem?_eq_some_iff.1 HB16.out).1).trans HB16.out);have HLW:=Lib.hid (HLW.out.below hB);have HI9:=Lib.hid (HI9.out.below hB);have HBW:=Lib.hid (join HBW.out hB);have OA:=Lib.hid (own_below OA.out hB);have OB:=Lib.hid (own_below OB.out hB);have HS2:=Lib.hid (HS2.out.trans (hB.mono HS2.out.size));have OC:=Lib.hid oc;have OD:=Lib.hid od;clear k0 k1 k2 k3 k4 k5 k6 k7 k8 y0 y1 y2;clear hB oc od;have HB17:=Lib.hid (heap_last w3 (.cells #[.slice pb X.words.length cb,.slice qb X.turns.length db,.int .i64 X.breath] 32));have hB:=below1 w3 (.cells #[.slice pb X.words.length cb,.slice qb X.turns.length db,.int .i64 X.breath] 32);have HB16:=Lib.hid ((hB.block _ (Array.getElem?_eq_some_iff.1 HB16.out).1).trans HB16.out);have HLW:=Lib.hid (HLW.out.below hB);have HI9:=Lib.hid (HI9.out.below hB);have HBW:=Lib.hid (join HBW.out hB);have OA:=Lib.hid (own_below OA.out hB);have OB:=Lib.hid (own_below OB.out hB);have OC:=Lib.hid (own_below OC.out hB);have OD:=Lib.hid (own_below OD.out hB);have HS2:=Lib.hid (HS2.out.trans (hB.mono HS2.out.size));clear hB;obtain ⟨k0,k1,k2⟩:=blk3 HLW.out.prm;obtain ⟨k3,k4,k5⟩:=blk3 HLW.out.x7;obtain ⟨k6,k7,k8⟩:=blk3 HLW.out.x8;have y0:=blk_cells HB16.out 0 _ rfl;have y1:=blk_cells HB16.out 1 _ rfl;have y2:=blk_cells HB16.out 2 _ rfl;have z0:=blk_cells HB17.out 0 _ rfl;have z1:=blk_cells HB17.out 1 _ rfl;have z2:=blk_cells HB17.out 2 _ rfl;obtain ⟨pa',ca',ea,RA,-⟩:=own_wds OA.out rfl;injection ea with ea _ ec;subst ea;subst ec;obtain ⟨pb',cb',eb,RB,-⟩:=own_wds OC.out rfl;injection eb with eb _ ec;subst eb;subst ec;obtain ⟨qa',da',ea,SA,-⟩:=own_tns OB.out rfl;injection ea with ea _ ec;subst ea;subst ec;obtain ⟨qb',db',eb,SB,-⟩:=own_tns OD.out rfl;injection eb with eb _ ec;subst eb;subst ec;have RA:=Lib.hid RA;have RB:=Lib.hid RB;have SA:=Lib.hid SA;have SB:=Lib.hid SB;go_wp2_with fail
   clear k0 k1 k2 k3 k4 k5 k6 k7 k8 y0 y1 y2 z0 z1 z2;obtain ⟨c16,h16⟩:∃ c,c=w2.heap.size:=⟨_,rfl⟩;obtain ⟨c17,h17⟩:∃ c,c=w3.heap.size:=⟨_,rfl⟩;generalize w3.alloc (.cells #[.slice pb X.words.length cb,.slice qb X.turns.length db,.int .i64 X.breath] 32)=WL at HLW HI9 HBW HB16 HB17 RA RB SA SB OA OB OC OD HS2 ⊢;rw [← h16] at HB16 ⊢;rw [← h17] at HB17 ⊢;clear h16 h17 CKE CRK CSH CRS
   go_loopw [106] (fun i wr=>∃ k:Nat,k≤X.words.length∧i=.int .i64 k∧Hid (Below WL.heap.size WL wr)) (fun i _=>X.words.length-(intOf i).toNat)
   case atStart=>exact ⟨0,Nat.zero_le _,rfl,Lib.hid (Below.refl _ _)⟩
   case round =>
    obtain ⟨k,hk,rfl,HBr⟩:=hrel;by_cases hlt:k<X.words.length
    ·have hlt':(k:Int)<X.words.length:=by omega
     have hk0:(0:Int)≤(k:Int):=by omega
     obtain ⟨ba,oa,x,rfl,hba,hxx,c1,c2,c3⟩:=(RA.out.below HBr.out).at hlt;obtain ⟨bb,ob,y,rfl,hbb,hyy,d1,d2,d3⟩:=(RB.out.below HBr.out).at hlt;have hxy:y=x:=by rw [hyy,hxx]
     subst hxy;clear hxx hyy;obtain ⟨xa,xb,xc⟩:=y;dsimp only at c1 c2 c3 d1 d2 d3;have hb17:=(HBr.out.block _ (Array.getElem?_eq_some_iff.1 HB17.out).1).trans HB17.out;obtain ⟨z0,z1,z2⟩:=blk3 hb17;have hl17:=(Array.getElem?_eq_some_iff.1 hb17).1;clear hb17;go_wp2
     go_quiet (fail)
     go_wp2;go_roundw
     case rel=>exact ⟨k+1,by omega,by go_num,Lib.hid (below_drewN' (HBr.out.trans ((below1 _ _).mono HBr.out.size)) _)⟩
     case measure=>simp [intOf];omega
    ·obtain rfl:k=X.words.length:=by omega
     have hB:=HBr.out;clear HBr hk hlt;have HB16:=Lib.hid ((hB.block _ (Array.getElem?_eq_some_iff.1 HB16.out).1).trans HB16.out);have HB17:=Lib.hid ((hB.block _ (Array.getElem?_eq_some_iff.1 HB17.out).1).trans HB17.out);have HLW:=Lib.hid (HLW.out.below hB);have HI9:=Lib.hid (HI9.out.below hB);have HBW:=Lib.hid (join HBW.out hB);have OA:=Lib.hid (own_below OA.out hB);have OB:=Lib.hid (own_below OB.out hB);have OC:=Lib.hid (own_below OC.out hB);have OD:=Lib.hid (own_below OD.out hB);have HS2:=Lib.hid (HS2.out.trans (hB.mono HS2.out.size));have RA:=Lib.hid (RA.out.below hB);have RB:=Lib.hid (RB.out.below hB);have SA:=Lib.hid (SA.out.below hB);have SB:=Lib.hid (SB.out.below hB);clear hB;obtain ⟨k0,k1,k2⟩:=blk3 HLW.out.prm;obtain ⟨k3,k4,k5⟩:=blk3 HLW.out.x7;obtain ⟨k6,k7,k8⟩:=blk3 HLW.out.x8;have y0:=blk_cells HB16.out 0 _ rfl;have y1:=blk_cells HB16.out 1 _ rfl;have y2:=blk_cells HB16.out 2 _ rfl;have z0:=blk_cells HB17.out 0 _ rfl;have z1:=blk_cells HB17.out 1 _ rfl;have z2:=blk_cells HB17.out 2 _ rfl;go_wp2_with fail
     clear k0 k1 k2 k3 k4 k5 k6 k7 k8 y0 y1 y2 z0 z1 z2;obtain ⟨WL,hWL⟩:∃ W,W=wr:=⟨_,rfl⟩;rw [← hWL] at HLW HI9 HBW HB16 HB17 RA RB SA SB OA OB OC OD HS2 ⊢;clear hWL
     go_loopw [122] (fun i wr=>∃ k:Nat,k≤X.turns.length∧i=.int .i64 k∧Hid (Below WL.heap.size WL wr)) (fun i _=>X.turns.length-(intOf i).toNat)
     case atStart=>exact ⟨0,Nat.zero_le _,rfl,Lib.hid (Below.refl _ _)⟩
     case round =>
      obtain ⟨k,hk,rfl,HBr⟩:=hrel;by_cases hlt:k<X.turns.length
      ·have hlt':(k:Int)<X.turns.length:=by omega
       have hk0:(0:Int)≤(k:Int):=by omega
       obtain ⟨ba,oa,x,rfl,hba,hxx,c1,c2,c3⟩:=(SA.out.below HBr.out).at hlt;obtain ⟨bb,ob,y,rfl,hbb,hyy,d1,d2,d3⟩:=(SB.out.below HBr.out).at hlt;have hxy:y=x:=by rw [hyy,hxx]
       subst hxy;clear hxx hyy;obtain ⟨xa,xb,xc⟩:=y;dsimp only at c1 c2 c3 d1 d2 d3;have hb17:=(HBr.out.block _ (Array.getElem?_eq_some_iff.1 HB17.out).1).trans HB17.out;obtain ⟨z0,z1,z2⟩:=blk3 hb17;have hl17:=(Array.getElem?_eq_some_iff.1 hb17).1;clear hb17;go_wp2
       go_quiet (fail)
       go_wp2;go_roundw
       case rel=>exact ⟨k+1,by omega,by go_num,Lib.hid (below_drewN' (HBr.out.trans ((below1 _ _).mono HBr.out.size)) _)⟩
       case measure=>simp [intOf];omega
      ·obtain rfl:k=X.turns.length:=by omega
       have hB:=HBr.out;clear HBr hk hlt;have HB16:=Lib.hid ((hB.block _ (Array.getElem?_eq_some_iff.1 HB16.out).1).trans HB16.out);have HB17:=Lib.hid ((hB.block _ (Array.getElem?_eq_some_iff.1 HB17.out).1).trans HB17.out);have HLW:=Lib.hid (HLW.out.below hB);have HI9:=Lib.hid (HI9.out.below hB);have HBW:=Lib.hid (join HBW.out hB);have OA:=Lib.hid (own_below OA.out hB);have OB:=Lib.hid (own_below OB.out hB);have OC:=Lib.hid (own_below OC.out hB);have OD:=Lib.hid (own_below OD.out hB);have HS2:=Lib.hid (HS2.out.trans (hB.mono HS2.out.size));have RA:=Lib.hid (RA.out.below hB);have RB:=Lib.hid (RB.out.below hB);have SA:=Lib.hid (SA.out.below hB);have SB:=Lib.hid (SB.out.below hB);clear hB;obtain ⟨k0,k1,k2⟩:=blk3 HLW.out.prm;obtain ⟨k3,k4,k5⟩:=blk3 HLW.out.x7;obtain ⟨k6,k7,k8⟩:=blk3 HLW.out.x8;have y0:=blk_cells HB16.out 0 _ rfl;have y1:=blk_cells HB16.out 1 _ rfl;have y2:=blk_cells HB16.out 2 _ rfl;have z0:=blk_cells HB17.out 0 _ rfl;have z1:=blk_cells HB17.out 1 _ rfl;have z2:=blk_cells HB17.out 2 _ rfl;obtain ⟨i0,hi0,hz0,hz1,hz2⟩:=info_parts A_infoWd;obtain ⟨j0,hj0,hy0,hy1,hy2⟩:=info_parts A_infoTn;obtain ⟨W1,hcl1,hb1,hg1⟩:=clear_own A_undWs hi0 hz0 (by intro u hu;simp at hu;rcases hu with rfl | rfl | rfl <;> rfl) OA.out
       have hb16':=blk_other HB16.out OA.out (by decide) hg1;have OB1:=own_other OB.out OA.out (by decide) hg1;obtain ⟨W2,hcl2,hb2,hg2⟩:=clear_own A_undTs hj0 hy0 (by intro u hu;simp at hu;rcases hu with rfl | rfl | rfl <;> rfl) OB1
       obtain ⟨v0,v1,v2⟩:=blk3 hb16';have HS3:=Lib.hid (HS2.out.trans (hb1.trans hb2));have HLW2:=Lib.hid (HLS.out.below HS3.out);have HI2:=Lib.hid (HIS.out.below HS3.out);have HBW2:=Lib.hid (join HBS.out HS3.out);obtain ⟨n0,n1,n2⟩:=blk3 HLW2.out.x7;clear hi0 hz0 hz1 hz2 hj0 hy0 hy1 hy2 hb16' OB1 hb1 hb2 hg1 hg2 RA RB SA SB OA OB OC OD HLS HIS HBS HB16 HB17 hXw hXt;go_wp2_with fail
       clear hcl1 hcl2 v0 v1 v2 n0 n1 n2 y0 y1 y2 z0 z1 z2 k0 k1 k2 k3 k4 k5 k6 k7 k8 HLW HI9 HBW HS2 HS3;have HLW:=HLW2;have HI9:=HI2;have HBW:=HBW2;clear HLW2 HI2 HBW2;refine (CPR.out p7 q7 a7 b7 _ HLW.out.r7).mono ?_;rintro e w2 ⟨rfl,hB⟩;have HLW:=Lib.hid (HLW.out.below hB);have HI9:=Lib.hid (HI9.out.below hB);have HBW:=Lib.hid (join HBW.out hB);clear hB;obtain ⟨k0,k1,k2⟩:=blk3 HLW.out.prm;obtain ⟨k3,k4,k5⟩:=blk3 HLW.out.x7;obtain ⟨k6,k7,k8⟩:=blk3 HLW.out.x8;go_wp2_with fail
       refine (CRP.out p8 q8 a8 b8 _ HLW.out.r8).mono ?_;rintro e w2 ⟨rfl,hB⟩;have HLW:=Lib.hid (HLW.out.below hB);have HI9:=Lib.hid (HI9.out.below hB);have HBW:=Lib.hid (join HBW.out hB);clear k0 k1 k2 k3 k4 k5 k6 k7 k8;clear hB;obtain ⟨k0,k1,k2⟩:=blk3 HLW.out.prm;obtain ⟨k3,k4,k5⟩:=blk3 HLW.out.x7;obtain ⟨k6,k7,k8⟩:=blk3 HLW.out.x8;go_wp2_with fail
       refine (same_yes t hl1 hl2 p7 q7 pw pt a7 b7 cw ct _ HLW.out.r7 HLW.out.r0).mono ?_;rintro e w2 ⟨rfl,hB⟩;have HLW:=Lib.hid (HLW.out.below hB);have HI9:=Lib.hid (HI9.out.below hB);have HBW:=Lib.hid (join HBW.out hB);clear k0 k1 k2 k3 k4 k5 k6 k7 k8;clear hB;obtain ⟨k0,k1,k2⟩:=blk3 HLW.out.prm;obtain ⟨k3,k4,k5⟩:=blk3 HLW.out.x7;obtain ⟨k6,k7,k8⟩:=blk3 HLW.out.x8;go_wp2_with fail
       refine (Like_ints p9 pl c9 cl l l true (by simp) _ hl3 hl3 HI9.out (HL.out.below HBW.out)).mono ?_;rintro e w2 ⟨rfl,hB⟩;have HLW:=Lib.hid (HLW.out.below hB);have HI9:=Lib.hid (HI9.out.below hB);have HBW:=Lib.hid (join HBW.out hB);clear k0 k1 k2 k3 k4 k5 k6 k7 k8;clear hB;obtain ⟨k0,k1,k2⟩:=blk3 HLW.out.prm;obtain ⟨k3,k4,k5⟩:=blk3 HLW.out.x7;obtain ⟨k6,k7,k8⟩:=blk3 HLW.out.x8;go_wp2_with fail
       refine (awake_any _).mono ?_;rintro e w10 ⟨rfl,hB10⟩;have HBW:=Lib.hid (join HBW.out hB10);clear hB10;go_wp2;go_ret;exact ⟨rfl,HBW.out⟩
end Go.Proofs.YtadnggecnjdhiaaGreat
namespace Go.Proofs.YtadnggecnjdhiaaGreat
open Go.RowKit Tx
theorem cell_lu {W:World} {b o:Nat} {v:Value} (h:W.cell? ⟨b,o,none⟩=some v):b<W.heap.size:=by
 apply Classical.byContradiction;intro hn;have:W.heap[b]?=none:=Array.getElem?_eq_none (by omega);simp [World.cell?,this] at h
structure Rdy (g u s:Nat) (t:Text) (l5 l6 l7:List Int) (lo hi pe we:Int) (W:World):Prop where
 n8:t.words.length=8
 n1:t.turns.length=1
 tx:TxAt W t (some ⟨g,0,none⟩) (some ⟨u,0,none⟩)
 xt:W.heap[s+3]?=some (.cells #[.slice (some ⟨g,0,none⟩) 8 8,.slice (some ⟨u,0,none⟩) 1 1,.int .i64 t.breath] 25 (0,0))
 n5:l5.length=3
 i5:Ints W (some ⟨s,0,none⟩) l5
 n6:l6.length=9
 i6:Ints W (some ⟨s+1,0,none⟩) l6
 n7:l7.length=3
 i7:Ints W (some ⟨s+2,0,none⟩) l7
 x8:W.heap[s+4]?=some (.cells #[.int .i64 lo,.int .i64 hi] 58 (0,0))
 x9:W.heap[s+5]?=some (.cells #[.int .i64 pe] 3 (0,0))
 x10:W.heap[s+6]?=some (.cells #[.int .i64 we] 3 (0,0))
theorem Laid.rdy {w0 W:World} {g u s:Nat} (h:Laid w0 g u s W):∃ t l5 l6 l7 lo hi pe we,Rdy g u s t l5 l6 l7 lo hi pe we W:=by
 obtain ⟨t,l5,l6,l7,lo,hi,pe,we,a1,a2,a3,a4,a5,a6,a7,a8,a9,a10,a11,a12,a13⟩:=h.read;exact ⟨t,l5,l6,l7,lo,hi,pe,we,a1,a2,a3,a4,a5,a6,a7,a8,a9,a10,a11,a12,a13⟩
section
variable {g u s:Nat} {t:Text} {l5 l6 l7:List Int} {lo hi pe we:Int} {W:World}
theorem Rdy.below (h:Rdy g u s t l5 l6 l7 lo hi pe we W) {W':World} (hb:Below W.heap.size W W'):Rdy g u s t l5 l6 l7 lo hi pe we W' :=
 have k:∀ {b o},W.heap[b]?=some o→W'.heap[b]?=some o:=fun {b o} hx=>(hb.block b (Array.getElem?_eq_some_iff.1 hx).1).trans hx
 ⟨h.n8,h.n1,h.tx.below hb,k h.xt,h.n5,h.i5.below hb,h.n6,h.i6.below hb,h.n7,h.i7.below hb,k h.x8,k h.x9,k h.x10⟩
theorem Rdy.parts (h:Rdy g u s t l5 l6 l7 lo hi pe we W):Calls Tryz.prog 23 #[.agg #[.slice (some ⟨g,0,none⟩) 8 8,.slice (some ⟨u,0,none⟩) 1 1,.int .i64 t.breath],.agg #[.int .i64 lo,.int .i64 hi],.slice (some ⟨s,0,none⟩) 3 3] W fun e w'=>e=.returned (.bool true)∧Below W.heap.size W w':=by
 have:=TextParts_any t lo hi l5 (by have:=h.n8;omega) (by have:=h.n1;omega) (by have:=h.n5;omega) (some ⟨g,0,none⟩) (some ⟨u,0,none⟩) (some ⟨s,0,none⟩) 8 1 3 W h.tx h.i5;rwa [h.n8,h.n1,h.n5] at this
theorem Rdy.marks (h:Rdy g u s t l5 l6 l7 lo hi pe we W):Calls Tryz.prog 24 #[.agg #[.slice (some ⟨g,0,none⟩) 8 8,.slice (some ⟨u,0,none⟩) 1 1,.int .i64 t.breath],.slice (some ⟨s+1,0,none⟩) 9 9] W fun e w'=>e=.returned (.bool true)∧Below W.heap.size W w':=by
 have:=TextMarks_any t l6 (by have:=h.n8;omega) (by have:=h.n1;omega) (by have:=h.n6;omega) (some ⟨g,0,none⟩) (some ⟨u,0,none⟩) (some ⟨s+1,0,none⟩) 8 1 9 W h.tx h.i6;rwa [h.n8,h.n1,h.n6] at this
theorem Rdy.astray (h:Rdy g u s t l5 l6 l7 lo hi pe we W):Calls Tryz.prog 25 #[.agg #[.slice (some ⟨g,0,none⟩) 8 8,.slice (some ⟨u,0,none⟩) 1 1,.int .i64 t.breath],.slice (some ⟨s,0,none⟩) 3 3] W fun e w'=>e=.returned (.bool true)∧Below W.heap.size W w':=by
 have:=TextAstray_any t l5 (by have:=h.n8;omega) (by have:=h.n1;omega) (by have:=h.n5;omega) (some ⟨g,0,none⟩) (some ⟨u,0,none⟩) (some ⟨s,0,none⟩) 8 1 3 W h.tx h.i5;rwa [h.n8,h.n1,h.n5] at this
theorem Rdy.shorter (h:Rdy g u s t l5 l6 l7 lo hi pe we W):Calls Tryz.prog 26 #[.agg #[.slice (some ⟨g,0,none⟩) 8 8,.slice (some ⟨u,0,none⟩) 1 1,.int .i64 t.breath],.slice (some ⟨s+2,0,none⟩) 3 3,.int .i64 pe] W fun e w'=>e=.returned (.bool true)∧Below W.heap.size W w':=by
 have:=TextShorter_any t l7 pe (by have:=h.n8;omega) (by have:=h.n1;omega) (by have:=h.n7;omega) (some ⟨g,0,none⟩) (some ⟨u,0,none⟩) (some ⟨s+2,0,none⟩) 8 1 3 W h.tx h.i7;rwa [h.n8,h.n1,h.n7] at this
theorem Rdy.least (h:Rdy g u s t l5 l6 l7 lo hi pe we W):Calls Tryz.prog 27 #[.agg #[.slice (some ⟨g,0,none⟩) 8 8,.slice (some ⟨u,0,none⟩) 1 1,.int .i64 t.breath],.int .i64 we] W fun e w'=>e=.returned (.bool true)∧Below W.heap.size W w':=by
 have:=TextLeast_any t we (by have:=h.n8;omega) (by have:=h.n1;omega) (some ⟨g,0,none⟩) (some ⟨u,0,none⟩) 8 1 W h.tx;rwa [h.n8,h.n1] at this
theorem Rdy.fewest (h:Rdy g u s t l5 l6 l7 lo hi pe we W):Calls Tryz.prog 28 #[.agg #[.slice (some ⟨g,0,none⟩) 8 8,.slice (some ⟨u,0,none⟩) 1 1,.int .i64 t.breath]] W fun e w'=>e=.returned (.bool true)∧Below W.heap.size W w':=by
 have:=TextFewest_any t (by have:=h.n8;omega) (by have:=h.n1;omega) (some ⟨g,0,none⟩) (some ⟨u,0,none⟩) 8 1 W h.tx;rwa [h.n8,h.n1] at this
theorem Rdy.even (h:Rdy g u s t l5 l6 l7 lo hi pe we W):Calls Tryz.prog 3 #[.agg #[.slice (some ⟨g,0,none⟩) 8 8,.slice (some ⟨u,0,none⟩) 1 1,.int .i64 t.breath]] W fun e w'=>e=.returned (.bool true)∧Below W.heap.size W w':=by
 have:=TextEven_any t (by have:=h.n8;omega) (by have:=h.n1;omega) (some ⟨g,0,none⟩) (some ⟨u,0,none⟩) 8 1 W h.tx;rwa [h.n8,h.n1] at this
end
end Go.Proofs.YtadnggecnjdhiaaGreat
namespace Go.Proofs.YtadnggecnjdhiaaGreat.Rk
open Go Go.RowKit Go.Proofs.YtadnggecnjdhiaaGreat.Rs
open Go.Proofs.YtadnggecnjdhiaaGreat.Rg (IsGr)
variable {P:Program} {ops:Array Oper}
def GrowAt (G:World→World→Prop) (P:Program) (o:Oper) (a:Act) (w:World) (Φ:Value→World→Prop):Prop :=
 match (execOp a.eval o).run P w with
 | .ok (.value v) w'=>G w w'∧Φ v w'
 | .ok .skip w'=>G w w'∧Φ undef w'
 | .ok (.enter f args) w'=>w'=w∧Calls P f args w' (fun e w''=>∃ v,e=.returned v∧G w w''∧Φ v w'')
 | _=>False
def StepOk (G:World→World→Prop) (P:Program) (ops:Array Oper) (o:Oper) (a:Act) (w:World) (Φ:Value→World→Prop):Prop :=
 if Region.wanted o (yielded ops a.tmps)=true then GrowAt G P o a w Φ else Φ undef w
section main
variable {n:Nat} {dl:List (List Nat)} {a0:Act} {w0:World} {Q:Exit→Act→World→Prop}
structure Inv (G:World→World→Prop) (j0:Nat) (ops:Array Oper) (n:Nat) (dl:List (List Nat)) (Spec:Nat→Bool→List Value→Value→World→Prop) (a0:Act) (w0:World) (V:Nat→Value) (listed:Array Bool) (a:Act) (w:World):Prop where
 head:HeadInv .any ops n listed
 size:a.tmps.size=a0.tmps.size
 defers:a.defers=a0.defers
 slot:∀ k,k<n→listed.getD k false=true→∀ d,dstOf ops k=some d→d<a0.tmps.size→a.tmps[d]?=some (V k)
 other:∀ d,(∀ k,k<n→listed.getD k false=true→dstOf ops k≠some d)→a.tmps[d]?=a0.tmps[d]?
 spec:∀ k,k<n→listed.getD k false=true→Spec k (listed.getD j0 false) ((dl.getD k []).map V) (V k) w
 gr:G w0 w
theorem Inv.looks {G:World→World→Prop} {j0:Nat} {Spec:Nat→Bool→List Value→Value→World→Prop} {V:Nat→Value} {listed:Array Bool} {a:Act} {w:World} (inv:Inv G j0 ops n dl Spec a0 w0 V listed a w) {i:Nat} {o:Oper} (hi:ops[i]?=some o) (_hin:i<n) (hiu:listed.getD i false=false)
  (hr:∀ e∈o.after,Region.binds .any e=true→listed.getD e.on false=true)
  (hdl:∀ k∈dl.getD i [],k<n∧k∈depsOf ops n i)
  (hlook:∀ k,k<n→∀ d,dstOf ops k=some d→(d∈o.looksAt ops→k∈dl.getD i []∨i∈depsOf ops n k∨i=k)∧True)
  (hnd:∀ j k,j<n→k<n→j≠k→∀ d,dstOf ops k=some d→dstOf ops j≠some d) :
  ∀ d∈o.looksAt ops,a.tmps[d]?=(canon ops V a0 (dl.getD i [])).tmps[d]?:=by
 intro d hd;have hdep:∀ k∈dl.getD i [],listed.getD k false=true:=fun k hk=>depsOf_listed inv.head.closed n i (fun o' ho'=>by rw [hi] at ho';cases ho';exact hr) k (hdl k hk).2;by_cases hlt:d<a0.tmps.size
 ·by_cases hex:∃ k,k∈dl.getD i []∧dstOf ops k=some d
  ·obtain ⟨k,hk,hkd⟩:=hex;rw [inv.slot k (hdl k hk).1 (hdep k hk) d hkd hlt,canon_in V hkd _ _ hk (fun j hj hjk=>hnd j k (hdl j hj).1 (hdl k hk).1 hjk d hkd) hlt]
  ·rw [canon_out V _ _ (fun k hk e=>hex ⟨k,hk,e⟩)];refine inv.other d (fun k hk hl e=>?_);rcases (hlook k hk d e).1 hd with h | h | h
   ·exact hex ⟨k,h,e⟩
   ·have:=depsOf_listed inv.head.closed n k (fun o' ho' e' he' hb'=>inv.head.closed k o' ho' hl e' he' hb') i h;rw [hiu] at this;cases this
   ·subst h;rw [hiu] at hl;cases hl
 ·have e1:a.tmps[d]?=none:=Array.getElem?_eq_none (by rw [inv.size];exact Nat.le_of_not_lt hlt);have e2:(canon ops V a0 (dl.getD i [])).tmps[d]?=none:=Array.getElem?_eq_none (by rw [size_canon];exact Nat.le_of_not_lt hlt);rw [e1,e2]
theorem Inv.step {G:World→World→Prop} {j0:Nat} (hG:IsGr G) {Spec:Nat→Bool→List Value→Value→World→Prop} {V:Nat→Value} {listed:Array Bool} {a:Act} {w w':World} (inv:Inv G j0 ops n dl Spec a0 w0 V listed a w) {i:Nat} {o:Oper} {v:Value} (hi:ops[i]?=some o) (hin:i<n) (hiu:listed.getD i false=false)
  (hri:i∈Region.ready .any ops listed)
  (hdl:∀ j,j<n→∀ k∈dl.getD j [],k<n∧k∈depsOf ops n j)
  (hnd:∀ j k,j<n→k<n→j≠k→∀ d,dstOf ops k=some d→dstOf ops j≠some d)
  (stable:∀ k L v,Spec k (listed.getD j0 false) L v w→Spec k (listed.getD j0 false||i == j0) L v w')
  (hg:G w w') (hs:Spec i (listed.getD j0 false||i == j0) ((dl.getD i []).map V) v w') :
  Inv G j0 ops n dl Spec a0 w0 (fun k=>if k=i then v else V k) (listed.setIfInBounds i true) (a.put o.dst v) w':=by
 have hisz:i<listed.size:=by rw [inv.head.size];exact (Array.getElem?_eq_some_iff.1 hi).1
 have hdst:dstOf ops i=o.dst:=by simp [dstOf,hi]
 have hdep:∀ k,k<n→(k=i∨listed.getD k false=true)→∀ j∈dl.getD k [],j≠i:=fun k hk hkl j hj e=>by
  have hm:=(hdl k hk j hj).2;rw [e] at hm;have:listed.getD i false=true:=by
   rcases hkl with rfl | hkl
   ·obtain ⟨_,o',ho',hall⟩:=mem_ready.1 hri;exact depsOf_listed inv.head.closed n k (fun o'' ho''=>by rw [ho'] at ho'';cases ho'';exact hall) k hm
   ·exact depsOf_listed inv.head.closed n k (fun o' ho' e' he' hb'=>inv.head.closed k o' ho' hkl e' he' hb') i hm
  rw [hiu] at this;cases this
 have hmap:∀ k,k<n→(k=i∨listed.getD k false=true)→(dl.getD k []).map (fun k=>if k=i then v else V k)=(dl.getD k []).map V:=fun k hk hkl =>
  List.map_congr_left fun j hj=>by rw [if_neg (hdep k hk hkl j hj)]
 have hj0:(listed.setIfInBounds i true).getD j0 false=(listed.getD j0 false||i == j0):=by
  by_cases e:i=j0
  ·subst e;simp [hisz]
  ·rw [getD_set_ne false e];simp [e]
 refine ⟨inv.head.set hri hin,?_,?_,fun k hk hl d hd hlt=>?_,fun d hd=>?_,fun k hk hl=>?_,hG.trans inv.gr hg⟩
 ·rw [← inv.size];cases o.dst <;> simp [Act.put]
 ·rw [← inv.defers];cases o.dst <;> rfl
 ·by_cases hki:k=i
  ·subst hki;rw [hdst] at hd;rw [if_pos rfl,hd];simp [Act.put,inv.size,hlt]
  ·rw [if_neg hki];rw [getD_set_ne false (fun e=>hki e.symm)] at hl;rw [← inv.slot k hk hl d hd hlt];cases ho:o.dst with
   | none=>rfl
   | some d' =>
    simp only [Act.put];exact Array.getElem?_setIfInBounds_ne (fun e=>hnd i k hin hk (fun e=>hki e.symm) d hd (by rw [hdst,ho,e]))
 ·have h1:dstOf ops i≠some d:=hd i hin (by simp [hisz]);rw [hdst] at h1;rw [← inv.other d (fun k hk hl e=>by
   by_cases hki:k=i
   ·subst hki;exact h1 (by rw [← hdst];exact e)
   ·exact hd k hk (by rw [getD_set_ne false (fun e=>hki e.symm)];exact hl) e)]
  cases ho:o.dst with
  | none=>rfl
  | some d'=>simp only [Act.put];exact Array.getElem?_setIfInBounds_ne (fun e=>h1 (by rw [ho,e]))
 ·by_cases hki:k=i
  ·subst hki;rw [hmap k hk (.inl rfl),hj0];simp only [if_true];exact hs
  ·rw [getD_set_ne false (fun e=>hki e.symm)] at hl;rw [hmap k hk (.inr hl),hj0];simp only [if_neg hki];exact stable _ _ _ (inv.spec k hk hl)
theorem head_all {G:World→World→Prop} {j0:Nat} {Gi:Nat→World→World→Prop} (hG:IsGr G) (hA:∀ i a b,Gi i a b→G a b) (hRf:∀ i a,Gi i a a) {Spec:Nat→Bool→List Value→Value→World→Prop} (g:Nat)
  (hsel:∀ (j:Nat) (o:Oper) cs b,ops[j]?=some o→o.op≠.select cs b) (hn:n≤ops.size)
  (hsink:n=ops.size∨(Region.sinkB .any ops n=true∧Region.chainB .any ops n=true))
  (hlow:∀ i,i<n→∀ o,ops[i]?=some o→∀ e∈o.after,Region.binds .any e=true→e.on<i)
  (hdl:∀ j,j<n→∀ k∈dl.getD j [],k<n∧k∈depsOf ops n j)
  (hlook:∀ i,i<n→∀ o,ops[i]?=some o→∀ k,k<n→∀ d,dstOf ops k=some d→(d∈o.looksAt ops→k∈dl.getD i []∨i∈depsOf ops n k∨i=k)∧True)
  (hnd:∀ j k,j<n→k<n→j≠k→∀ d,dstOf ops k=some d→dstOf ops j≠some d)
  (stable:∀ i c w w',(i=j0→c=false)→Gi i w w'→∀ k L v,Spec k c L v w→Spec k (c||i == j0) L v w')
  (step:∀ i o V w c,ops[i]?=some o→i<n→G w0 w→(i=j0→c=false)→(∀ k∈dl.getD i [],Spec k c ((dl.getD k []).map V) (V k) w)→StepOk (Gi i) P ops o (canon ops V a0 (dl.getD i [])) w (Spec i (c||i == j0) ((dl.getD i []).map V)))
  (fin:∀ V listed a w,Inv G j0 ops n dl Spec a0 w0 V listed a w→(∀ k,k<n→listed.getD k false=true)→wpAny P .any ops Q g listed a w) :
  ∀ (f:Nat) (V:Nat→Value) (listed:Array Bool) (a:Act) (w:World),left n listed=f→Inv G j0 ops n dl Spec a0 w0 V listed a w→wpAny P .any ops Q (f+g) listed a w:=by
 intro f
 induction f with
 | zero=>intro V listed a w hf inv;rw [Nat.zero_add];exact fin V listed a w inv (left_zero hf)
 | succ f ih =>
  intro V listed a w hf inv;have hun:∃ i,i<n∧listed.getD i false=false∧∀ j,j<i→listed.getD j false=true:=by
   have hex:∃ i,i<n∧listed.getD i false=false:=by
    apply Classical.byContradiction;intro hno;have:left n listed=0:=by
     unfold left;rw [List.length_eq_zero_iff,List.filter_eq_nil_iff];intro i hi;cases hv:listed.getD i false with
     | true=>simp
     | false=>exact absurd ⟨i,List.mem_range.1 hi,hv⟩ hno
    omega
   obtain ⟨i,h1,h2⟩:=hex
   induction i using Nat.strongRecOn with
   | _ i ihi =>
    by_cases h3:∀ j,j<i→listed.getD j false=true
    ·exact ⟨i,h1,h2,h3⟩
    ·simp only [Classical.not_forall] at h3;obtain ⟨j,hj,hj2⟩:=h3;exact ihi j hj (by omega) (by simpa using hj2)
  obtain ⟨i0,hi0,hi0u,hi0m⟩:=hun;have hready0:i0∈Region.ready .any ops listed:=by
   rw [mem_ready];have hlt:i0<ops.size:=by omega
   refine ⟨getD_in (by rw [inv.head.size];exact hlt) hi0u,ops[i0],Array.getElem?_eq_getElem hlt,fun e he hb=>hi0m _ (hlow i0 hi0 _ (Array.getElem?_eq_getElem hlt) e he hb)⟩
  rw [show f+1+g=(f+g)+1 by omega];refine ⟨fun h=>(by rw [h] at hready0;cases hready0),fun i hi=>?_⟩;obtain ⟨hiu,o,ho,hall⟩:=mem_ready.1 hi;have hiu':=getD_both hiu;have hilt:i<ops.size:=(Array.getElem?_eq_some_iff.1 ho).1;have hin:i<n:=by
   rcases hsink with h | ⟨h1,h2⟩
   ·omega
   ·by_cases hns:n<ops.size
    ·rcases Nat.lt_or_ge i n with h | h
     ·exact h
     ·exact absurd hi (tail_waits h1 h2 hns inv.head _ i0 rfl hi0 (getD_in (by rw [inv.head.size];omega) hi0u) i h)
    ·omega
  have hc0:i=j0→listed.getD j0 false=false:=fun e=>by rw [← e];exact hiu'
  have hso:=step i o V w (listed.getD j0 false) ho hin inv.gr hc0 (fun k hk=>inv.spec k (hdl i hin k hk).1 (depsOf_listed inv.head.closed n i (fun o' ho'=>by rw [ho] at ho';cases ho';exact hall) k (hdl i hin k hk).2));have hlk:=inv.looks ho hin hiu' hall (hdl i hin) (hlook i hin o ho) hnd;have hw:=wanted_congr (ops:=ops) o hlk;have hex:=exec_congr (ops:=ops) o (fun cs b=>hsel i o cs b ho) hlk;have hnext:∀ v w',Gi i w w'→Spec i (listed.getD j0 false||i == j0) ((dl.getD i []).map V) v w'→wpAny P .any ops Q (f+g) (listed.setIfInBounds i true) (a.put o.dst v) w':=fun v w' hg hs =>
   ih _ _ _ _ (by have:=left_set (n:=n) hin (by rw [inv.head.size];exact hilt) hiu';omega) (inv.step hG ho hin hiu' hi hdl hnd (stable i _ _ _ hc0 hg) (hA _ _ _ hg) hs)
  unfold StepOk at hso;rw [← hw] at hso;unfold wpOp;simp only [ho];by_cases hwt:Region.wanted o (yielded ops a.tmps)=true
  ·rw [if_pos hwt] at hso ⊢;refine .inl ?_;unfold GrowAt at hso;unfold Oper.wp;rw [← hex] at hso;generalize (execOp a.eval o).run P w=r at hso;cases r with
   | halt x w'=>exact hso.elim
   | ok nx w' =>
    cases nx with
    | value v=>exact hnext v w' hso.1 hso.2
    | skip=>exact hnext undef w' hso.1 hso.2
    | enter fn args =>
     refine hso.2.mono ?_;rintro e w'' ⟨v,rfl,h1,h2⟩;exact hnext v w'' h1 h2
    | _=>exact hso.elim
  ·rw [if_neg hwt] at hso ⊢;exact hnext undef w (hRf _ _) hso
theorem region_spec {G:World→World→Prop} {j0:Nat} {Gi:Nat→World→World→Prop} (hG:IsGr G) (hA:∀ i a b,Gi i a b→G a b) (hRf:∀ i a,Gi i a a) {id:Nat} {l:List Oper} {w:World} {a0:Act} {Q:Exit→Act→World→Prop} (n:Nat) (dl:List (List Nat)) (hm:P.follows .mixedOrders=true) (hB:shapeB l.toArray n dl=true)
  (hj0:j0<n) (Spec:Nat→Bool→List Value→Value→World→Prop) (stable:∀ i c w w',(i=j0→c=false)→Gi i w w'→∀ k L v,Spec k c L v w→Spec k (c||i == j0) L v w')
  (step:∀ i o V w' c,l[i]?=some o→i<n→G w w'→(i=j0→c=false)→(∀ k∈dl.getD i [],Spec k c ((dl.getD k []).map V) (V k) w')→StepOk (Gi i) P l.toArray o (canon l.toArray V a0 (dl.getD i [])) w' (Spec i (c||i == j0) ((dl.getD i []).map V)))
  (fin:∀ V w',G w w'→(∀ k,k<n→Spec k true ((dl.getD k []).map V) (V k) w')→wpList P l.toArray Q (l.drop n) (canon l.toArray V a0 (List.range n)) w') :
  (Code.region id l.toArray true).wp P Q a0 w:=by
 simp only [shapeB,Bool.and_eq_true,decide_eq_true_eq,Bool.or_eq_true] at hB;obtain ⟨⟨⟨⟨⟨hsel,hn⟩,hdlen⟩,hsink⟩,hall⟩,hseq⟩:=hB;rw [List.all_eq_true] at hall;have hops:∀ i,i<n→∃ o,l.toArray[i]?=some o∧(∀ e∈o.after,Region.binds .any e=true→e.on<i)∧(∀ k∈dl.getD i [],k<n∧k∈depsOf l.toArray n i) ∧
   (∀ k,k<n→∀ d,dstOf l.toArray k=some d→(d∈o.looksAt l.toArray→k∈dl.getD i []∨i∈depsOf l.toArray n k∨i=k)∧(k≠i→dstOf l.toArray i≠some d)):=by
  intro i hi;have h:=hall i (List.mem_range.2 hi);cases ho:l.toArray[i]? with
  | none=>rw [ho] at h;cases h
  | some o =>
   rw [ho] at h;simp only [Bool.and_eq_true,List.all_eq_true] at h;obtain ⟨⟨h1,h2⟩,h3⟩:=h;refine ⟨o,rfl,fun e he hb=>?_,fun k hk=>?_,fun k hk d hd=>?_⟩
   ·have:=h1 e (by simpa using he);rw [hb] at this;simpa using this
   ·have:=h2 k hk
    simpa using this
   ·have:=h3 k (List.mem_range.2 hk);rw [hd] at this;simp only [Bool.and_eq_true,Bool.or_eq_true,Bool.not_eq_true',beq_iff_eq,decide_eq_true_eq,List.contains_iff_mem] at this;refine ⟨fun hm=>?_,fun hne=>?_⟩
    ·rcases this.1 with ((h | h) | h) | h
     ·rw [show (o.looksAt l.toArray).contains d=true from List.contains_iff_mem.2 hm] at h;cases h
     ·exact .inl h
     ·exact .inr (.inl h)
     ·exact .inr (.inr h)
    ·rcases this.2 with h | h
     ·exact absurd h hne
     ·exact h
 have hnd:∀ j k,j<n→k<n→j≠k→∀ d,dstOf l.toArray k=some d→dstOf l.toArray j≠some d:=fun j k hj hk hne d hd=>by
  obtain ⟨o,_,_,_,h⟩:=hops j hj;exact (h k hk d hd).2 (fun e=>hne e.symm)
 refine wp_region_any hm ?_;have inv0:Inv G j0 l.toArray n dl Spec a0 w (fun _=>undef) (Array.replicate l.toArray.size false) a0 { w with drawn:=w.drawn+1 } :=
  ⟨⟨by simp,fun j oj _ hl=>(by rw [getD_replicate_false] at hl;cases hl),fun t _ ht=>getD_in (by simpa using ht) (getD_replicate_false _ _)⟩,rfl,rfl,
   fun k _ hl=>(by rw [getD_replicate_false] at hl;cases hl),fun _ _=>rfl,fun k _ hl=>(by rw [getD_replicate_false] at hl;cases hl),hG.drew _⟩
 have hleft:left n (Array.replicate l.toArray.size false)=n:=by
  unfold left;rw [List.filter_eq_self.2 (fun i _=>by rw [getD_replicate_false];rfl)];simp
 have:=head_all hG hA hRf (P:=P) (Q:=Q) (Spec:=Spec) (dl:=dl) (a0:=a0) (w0:=w) (l.toArray.size-n) (Region.noSelect_spec hsel) hn (by rcases hsink with h | h;exact .inl h;exact .inr h)
  (fun i hi o ho e he hb=>by obtain ⟨o',ho',h1,_⟩:=hops i hi;rw [ho] at ho';cases ho';exact h1 e he hb)
  (fun j hj=>by obtain ⟨_,_,_,h,_⟩:=hops j hj;exact h)
  (fun i hi o ho k hk d hd=>by obtain ⟨o',ho',_,_,h⟩:=hops i hi;rw [ho] at ho';cases ho';exact ⟨(h k hk d hd).1,trivial⟩)
  hnd stable (fun i o V w' c ho=>step i o V w' c (by simpa using ho)) ?_ n _ _ _ _ hleft inv0
 ·rwa [show n+(l.toArray.size-n)=l.toArray.size by omega] at this
 ·intro V listed a w' inv hl;have hld:listed=((List.range l.toArray.size).map (fun i=>decide (i<n))).toArray:=by
   apply Array.ext
   ·rw [inv.head.size];simp
   ·intro i h1 h2;have hi:i<l.toArray.size:=by rw [inv.head.size] at h1;exact h1
    have e2:((List.range l.toArray.size).map (fun i=>decide (i<n))).toArray[i]=decide (i<n):=by simp
    rw [e2];by_cases hin:i<n
    ·have:=hl i hin;simp only [hin,decide_true]
     simpa [h1] using this
    ·have:=inv.head.tail i (by omega) hi;simp only [hin,decide_false]
     simpa [h1] using this
  have hact:a=canon l.toArray V a0 (List.range n):=by
   have ht:a.tmps=(canon l.toArray V a0 (List.range n)).tmps:=by
    apply Array.ext_getElem?;intro d;by_cases hlt:d<a0.tmps.size
    ·by_cases hex:∃ k,k<n∧dstOf l.toArray k=some d
     ·obtain ⟨k,hk,hd⟩:=hex;rw [inv.slot k hk (hl k hk) d hd hlt,canon_in V hd _ _ (List.mem_range.2 hk) (fun j hj hjk=>hnd j k (List.mem_range.1 hj) hk hjk d hd) hlt]
     ·rw [inv.other d (fun k hk _ e=>hex ⟨k,hk,e⟩),canon_out V _ _ (fun k hk e=>hex ⟨k,List.mem_range.1 hk,e⟩)]
    ·have e1:a.tmps[d]?=none:=Array.getElem?_eq_none (by rw [inv.size];exact Nat.le_of_not_lt hlt);have e2:(canon l.toArray V a0 (List.range n)).tmps[d]?=none:=Array.getElem?_eq_none (by rw [size_canon];exact Nat.le_of_not_lt hlt);rw [e1,e2]
   have hdf:a.defers=(canon l.toArray V a0 (List.range n)).defers:=by rw [inv.defers,defers_canon]
   obtain ⟨t,d⟩:=a;generalize canon l.toArray V a0 (List.range n)=b at ht hdf;obtain ⟨t',d'⟩:=b;dsimp only at ht hdf;rw [ht,hdf]
  have hf:=fin V w' inv.gr (fun k hk=>by have:=inv.spec k hk (hl k hk);rwa [hl j0 hj0] at this);rw [← hact] at hf;have hdl:(l.drop n).length=l.toArray.size-n:=by simp
  have hsq:=wpAny_of_seq (P:=P) (md:=.any) (Q':=Q) (l.drop n) n listed a w' (fun j=>by simp [List.getElem?_drop]) (by rw [hdl,hld];exact hseq) hf;rwa [hdl] at hsq
def GrowL (G:World→World→Prop) (P:Program) (o:Oper) (ρ:Operand→Value) (w:World) (Φ:Value→World→Prop):Prop :=
 match (execOp ρ o).run P w with
 | .ok (.value v) w'=>G w w'∧Φ v w'
 | .ok .skip w'=>G w w'∧Φ undef w'
 | .ok (.enter f args) w'=>w'=w∧Calls P f args w' (fun e w''=>∃ v,e=.returned v∧G w w''∧Φ v w'')
 | _=>False
theorem GrowL.value {G:World→World→Prop} {o:Oper} {ρ:Operand→Value} {w w':World} {v:Value} {Φ:Value→World→Prop} (h:(execOp ρ o).run P w=.ok (.value v) w') (hg:G w w') (hv:Φ v w'):GrowL G P o ρ w Φ:=by
 unfold GrowL;rw [h];exact ⟨hg,hv⟩
theorem GrowL.call {G:World→World→Prop} {o:Oper} {ρ:Operand→Value} {w:World} {Φ:Value→World→Prop} {f:FuncId} {args:Array Value} (h:(execOp ρ o).run P w=.ok (.enter f args) w) (hc:Calls P f args w (fun e w''=>∃ v,e=.returned v∧G w w''∧Φ v w'')):GrowL G P o ρ w Φ:=by
 unfold GrowL;rw [h];exact ⟨rfl,hc⟩
def genSteps (G:World→World→Prop) (j0:Nat) (Gi:Nat→World→World→Prop) (P:Program) (ds:List (Option Nat)) (a0:Act) (w:World) (dl0:List (List Nat)) (Sp:Nat→Bool→List Value→Value→World→Prop):List Oper→Nat→List (List Nat)→Prop
 | o::l,i,d::dl=>(∀ (V:Nat→Value) w' c,G w w'→(i=j0→c=false)→(∀ k∈d,Sp k c ((dl0.getD k []).map V) (V k) w')→if wantB o V=true then GrowL (Gi i) P o (Rs.look ds V a0 d) w' (Sp i (c||i == j0) (d.map V)) else Sp i (c||i == j0) (d.map V) undef w')∧genSteps G j0 Gi P ds a0 w dl0 Sp l (i+1) dl
 | _,_,_=>True
theorem genSteps_get {G:World→World→Prop} {j0:Nat} {Gi:Nat→World→World→Prop} {ds:List (Option Nat)} {a0:Act} {w:World} {dl0:List (List Nat)} {Sp:Nat→Bool→List Value→Value→World→Prop}:∀ (l:List Oper) (i:Nat) (dl:List (List Nat)),genSteps G j0 Gi P ds a0 w dl0 Sp l i dl→∀ (j:Nat) (o:Oper) (d:List Nat),l[j]?=some o→dl[j]?=some d →
  ∀ (V:Nat→Value) w' c,G w w'→(i+j=j0→c=false)→(∀ k∈d,Sp k c ((dl0.getD k []).map V) (V k) w')→if wantB o V=true then GrowL (Gi (i+j)) P o (Rs.look ds V a0 d) w' (Sp (i+j) (c||i+j == j0) (d.map V)) else Sp (i+j) (c||i+j == j0) (d.map V) undef w'
 | [],_,_,_,j,o,d,ho,_=>by simp at ho
 | _::_,_,[],_,j,o,d,_,hd=>by simp at hd
 | o'::l,i,d'::dl,h,0,o,d,ho,hd=>by simp at ho hd;subst ho;subst hd;exact h.1
 | o'::l,i,d'::dl,h,j+1,o,d,ho,hd=>by
  have:=genSteps_get l (i+1) dl h.2 j o d (by simpa using ho) (by simpa using hd);rwa [show i+(j+1)=i+1+j by omega]
theorem region_gen {G:World→World→Prop} (j0:Nat) (Gi:Nat→World→World→Prop) (hG:IsGr G) (hA:∀ i a b,Gi i a b→G a b) (hRf:∀ i a,Gi i a a) {id:Nat} {l:List Oper} {w:World} {a0:Act} {Q:Exit→Act→World→Prop} (n:Nat) (dl:List (List Nat)) (ds:List (Option Nat)) (hj0:j0<n) (Sp:Nat→Bool→List Value→Value→World→Prop) (hm:P.follows .mixedOrders=true) (hB:shapeB l.toArray n dl=true) (hS:slotsB l.toArray n a0.tmps.size dl ds=true)
  (stable:∀ i c w w',(i=j0→c=false)→Gi i w w'→∀ k L v,Sp k c L v w→Sp k (c||i == j0) L v w')
  (step:genSteps G j0 Gi P ds a0 w dl Sp l 0 dl)
  (fin:∀ V w',G w w'→(∀ k,k<n→Sp k true ((dl.getD k []).map V) (V k) w')→wpList P l.toArray Q (l.drop n) (canon l.toArray V a0 (List.range n)) w') :
  (Code.region id l.toArray true).wp P Q a0 w:=by
 have hB':=hB;simp only [shapeB,Bool.and_eq_true,decide_eq_true_eq] at hB';obtain ⟨⟨⟨⟨⟨hsel,hn⟩,hdlen⟩,_⟩,hall⟩,_⟩:=hB';rw [List.all_eq_true] at hall;unfold slotsB at hS;rw [List.all_eq_true] at hS;have hdst:∀ i,i<n→dstOf l.toArray i=ds.getD i none∧∀ d,dstOf l.toArray i=some d→d<a0.tmps.size:=fun i hi=>by
  have h:=hS i (List.mem_range.2 hi);simp only [Bool.and_eq_true,beq_iff_eq] at h;refine ⟨h.1.1,fun d hd=>?_⟩;have h2:=h.1.2;rw [← h.1.1,hd] at h2
  simpa using h2
 refine region_spec hG hA hRf n dl hm hB hj0 Sp stable (fun i o V w' c ho hi hg hc hs=>?_) fin;have hst:=genSteps_get l 0 dl step i o (dl.getD i []) ho (by simp [List.getElem?_eq_getElem (show i<dl.length by omega)]) V w' c hg (by rw [Nat.zero_add];exact hc) hs;rw [Nat.zero_add] at hst;have hio:=hall i (List.mem_range.2 hi);have hoo:l.toArray[i]?=some o:=by simpa using ho
 rw [hoo] at hio;simp only [Bool.and_eq_true,List.all_eq_true] at hio;obtain ⟨⟨_,h2⟩,h3⟩:=hio;have hdl:∀ k∈dl.getD i [],k<n:=fun k hk=>by have:=h2 k hk;simp only [Bool.and_eq_true,decide_eq_true_eq] at this;exact this.1
 have hnd:∀ j k,j<n→k<n→j≠k→∀ d,dstOf l.toArray k=some d→dstOf l.toArray j≠some d:=fun j k hj hk hne d hd=>by
  have h:=hall j (List.mem_range.2 hj);cases hoj:l.toArray[j]? with
  | none=>rw [hoj] at h;cases h
  | some oj =>
   rw [hoj] at h;simp only [Bool.and_eq_true,List.all_eq_true] at h;have:=h.2 k (List.mem_range.2 hk);rw [hd] at this;simp only [Bool.and_eq_true,Bool.or_eq_true,beq_iff_eq,decide_eq_true_eq] at this;rcases this.2 with h | h
   ·exact absurd h.symm hne
   ·exact h
 have hslot:∀ t,(canon l.toArray V a0 (dl.getD i [])).eval (.tmp t)=Rs.look ds V a0 (dl.getD i []) (.tmp t):=fun t=>by
  unfold Rs.look;simp only;split
  ·rename_i k hk
   have hkm:=List.mem_of_find?_eq_some hk;have hkd:=List.find?_some hk;simp only [beq_iff_eq] at hkd;have hkn:=hdl k hkm;have e:dstOf l.toArray k=some t:=by rw [(hdst k hkn).1];exact hkd
   have:=canon_in (ops:=l.toArray) V e (dl.getD i []) a0 hkm (fun j hj hjk=>hnd j k (hdl j hj) hkn hjk t e) ((hdst k hkn).2 t e);simp only [Act.eval,Array.getD_eq_getD_getElem?,this,Option.getD_some]
  ·rename_i hk
   have hno:∀ k∈dl.getD i [],dstOf l.toArray k≠some t:=fun k hkm e=>by
    have:=List.find?_eq_none.1 hk k hkm;rw [(hdst k (hdl k hkm)).1] at e;rw [e] at this;exact this (by simp)
   have:=canon_out (ops:=l.toArray) V (d:=t) (dl.getD i []) a0 hno;simp only [Act.eval,Array.getD_eq_getD_getElem?,this]
 have hex:execOp (canon l.toArray V a0 (dl.getD i [])).eval o=execOp (Rs.look ds V a0 (dl.getD i [])) o :=
  execOp_congr o (fun c b=>Region.noSelect_spec hsel i o c b hoo) fun x _=>by
   cases x with
   | tmp t=>exact hslot t
   | _=>rfl
 have hwant:Region.wanted o (yielded l.toArray (canon l.toArray V a0 (dl.getD i [])).tmps)=wantB o V:=by
  unfold Region.wanted wantB;cases hgd:o.guard with
  | none=>rfl
  | some gb =>
   obtain ⟨g,b⟩:=gb;have h:=hS i (List.mem_range.2 hi);rw [hoo] at h;simp only [Option.bind_some,hgd,Bool.and_eq_true,List.contains_iff_mem] at h;obtain ⟨hgm,hgs⟩:=h.2;obtain ⟨t,ht⟩:=Option.isSome_iff_exists.1 hgs;have hgn:=hdl g hgm;have hv:=canon_in (ops:=l.toArray) V ht (dl.getD i []) a0 hgm (fun j hj hjk=>hnd j g (hdl j hj) hgn hjk t ht) ((hdst g hgn).2 t ht);have hy:yielded l.toArray (canon l.toArray V a0 (dl.getD i [])).tmps g=match V g with | .bool x=>some x | _=>none:=by
    unfold yielded;unfold dstOf at ht;simp only [ht,Option.bind_some,hv];cases V g <;> rfl
   simp only [hy];cases V g <;> simp
 unfold StepOk;rw [hwant];by_cases hw:wantB o V=true
 ·rw [if_pos hw] at hst ⊢;unfold GrowL at hst;unfold GrowAt;rw [hex];exact hst
 ·rw [if_neg hw] at hst ⊢;exact hst
end main
end Go.Proofs.YtadnggecnjdhiaaGreat.Rk
namespace Go.Proofs.YtadnggecnjdhiaaGreat
open Go.RowKit Tx
theorem append_keep3 {T e:TypeId} {z:Value} (hT:Tryz.prog.underlying T=some (.slice e)) (hE:(Tryz.prog.info? e).map (fun i=>(i.zero,i.size,i.bytes))=some (some z,3,24)) (hz:z.cells.size=3)
  (w:World) (base:Nat) (ty:TypeId) (tv:Value) (n:Nat) (xs cs:List Value) (hown:w.ownsRow base e 3 tv n xs) (hb:base≤w.heap.size) (hn:n≤1000) (p:Nat) (hp:w.heap[p]?=some (.cells cs.toArray e (0,0))) (hcl:cs.length=3) (h1c:∀ u∈cs,u.oneCell'=true) :
  ∃ v' w',(Builtin.append_ #[T,T] ty #[tv,.slice (some ⟨p,0,none⟩) 1 1]).run Tryz.prog w=.ok v' w'∧w'.ownsRow base e 3 v' (n+1) (xs++cs)∧w.grownBy w' tv.ownBlock∧w'.ownsRow base e 3 tv n xs:=by
 obtain ⟨i0,hi,hz0,hz1,hz2⟩:=info_parts hE;have hnews:∀ j u,cs[j]?=some u→w.cell? ((⟨p,0,none⟩:Addr).add j)=some u:=fun j u hj=>by
  have hadd:(⟨p,0,none⟩:Addr).add j=⟨p,j,none⟩:=by unfold Addr.add;split <;> simp_all
  rw [hadd];exact blk_cells hp j u (by simpa using hj)
 obtain ⟨v',w',hr,h2,h3,h4⟩:=run_append_own (P:=Tryz.prog) w base T ty e i0 z 3 24 hT hi hz0 hz1 hz2 hz (by decide) tv n xs hown ⟨p,0,none⟩ 1 1 cs hcl hnews h1c (by unfold maxLen;omega) (by omega) hb;refine ⟨v',w',hr,h2,h3,?_⟩;rcases hown.2 with ⟨rfl,rfl⟩ | ⟨g,cap,cur,rfl,hbg,hg,hnc,hcm,hcs,htake⟩
 ·have hx:xs=[]:=List.eq_nil_of_length_eq_zero (by simpa using hown.1);subst hx;exact World.ownsRow_nil _ _ _ _
 ·by_cases hroom:n+1≤cap
  ·have hr2:=run_append_room (P:=Tryz.prog) w T ty e i0 hT hi g n cap cur hg ⟨p,0,none⟩ 1 1 cs (by rw [hz1];exact hcl) hnews h1c hroom (by rw [hcs,hz1,hcl];omega);rw [hr2] at hr;injection hr with hv hw;subst hv;refine ⟨hown.1,.inr ?_⟩;rcases h2.2 with ⟨h5,_⟩ | ⟨g',cap',cur',h5,h6,h7,h8,h9,h10,h11⟩
   ·cases h5
   ·injection h5 with e1 e2 e3;injection e1 with e1;injection e1 with e1;subst e1 e3;refine ⟨_,_,cur',rfl,hbg,h7,hnc,hcm,h10,?_⟩;have h12:(cur'.toList.take ((n+1)*3)).take (n*3)=xs:=by
     rw [h11,List.take_append_of_le_length (by rw [hown.1];exact Nat.le_refl _),List.take_of_length_le (by rw [hown.1];exact Nat.le_refl _)]
    rw [List.take_take,Nat.min_eq_left (by omega)] at h12;exact h12
  ·have holds:∀ j u,xs[j]?=some u→w.cell? ((⟨g,0,none⟩:Addr).add j)=some u:=hown.cells (g:=g) rfl;have hr2:=run_append_grow (P:=Tryz.prog) w T ty e i0 z hT hi hz0 ⟨g,0,none⟩ n cap xs (by rw [hz1];exact hown.1) holds ⟨p,0,none⟩ 1 1 cs (by rw [hz1];exact hcl) hnews (by omega) (by omega) (by rw [hz2];exact growslice_fits (by omega) (by omega));rw [hr2] at hr;injection hr with hv hw;rw [← hw];exact hown.kept (row:=none) ⟨rfl,rfl,rfl,by simp,fun k hk _=>Below.heap_alloc w.drew _ k hk⟩ (by right;simp [Value.ownBlock])
theorem exec_append3 {P:Program} {ρ:Operand→Value} {o:Oper} {s x:Operand} {t ty:TypeId} {vs vx v':Value} {w w':World} (ho:o.op=.call { callee:=.builtin .append,args:=#[s,x],argTypes:=#[t,t] }) (hty:o.type=ty) (hs:ρ s=vs) (hx:ρ x=vx) (hr:(Builtin.append_ #[t,t] ty #[vs,vx]).run P w=.ok v' w'):(execOp ρ o).run P w=.ok (.value v') w':=by
 subst hty;unfold execOp;simp only [ho,resolve,invoke,builtin,Sem.run_bind,Sem.run_pure,Result.andThen_ok,List.map_toArray,List.map_cons,List.map_nil,hs,hx,hr]
def Ga (B:Nat) (e:TypeId) (tv:Value) (n:Nat) (xs:List Value) (a b:World):Prop:=a.grownBy b tv.ownBlock∧(a.ownsRow B e 3 tv n xs→b.ownsRow B e 3 tv n xs)
theorem Ga.of {B:Nat} {e:TypeId} {tv:Value} {n:Nat} {xs:List Value} {a b:World} (h:Below a.heap.size a b):Ga B e tv n xs a b:=⟨grown_of_below h _,fun ho=>own_below ho h⟩
theorem Ga.isGr (B:Nat) (e:TypeId) (tv:Value) (n:Nat) (xs:List Value):Rg.IsGr (Ga B e tv n xs) where
 refl w:=.of (Below.refl _ _)
 drew w:=.of ((Below.refl _ _).drew)
 trans {a b c} h k:=⟨⟨k.1.os.trans h.1.os,k.1.tape.trans h.1.tape,k.1.output.trans h.1.output,Nat.le_trans h.1.size k.1.size,fun i hi hr=>(k.1.block i (Nat.lt_of_lt_of_le hi h.1.size) hr).trans (h.1.block i hi hr)⟩,fun ho=>k.2 (h.2 ho)⟩
def Gai (j0 B:Nat) (e:TypeId) (tv:Value) (n:Nat) (xs:List Value) (i:Nat) (a b:World):Prop:=Ga B e tv n xs a b∧(i≠j0→Below a.heap.size a b)
theorem Gai.of {j0 B:Nat} {e:TypeId} {tv:Value} {n:Nat} {xs:List Value} {i:Nat} {a b:World} (h:Below a.heap.size a b):Gai j0 B e tv n xs i a b:=⟨.of h,fun _=>h⟩
theorem Gai.refl (j0 B:Nat) (e:TypeId) (tv:Value) (n:Nat) (xs:List Value) (i:Nat) (a:World):Gai j0 B e tv n xs i a a:=.of (Below.refl _ _)
structure Mkt (w0:World) (c B:Nat) (br:Int) (v u:Value) (ws:List Word) (ts:List Turn) (W:World):Prop where
 box:W.heap[c]?=some (.cells #[v,u,.int .i64 br] 25 (0,0))
 ow:W.ownsRow B 61 3 v ws.length (wcells ws)
 ou:W.ownsRow B 63 3 u ts.length (tcells ts)
 lt:c<B
 le:w0.heap.size≤c
 bz:B≤W.heap.size
 bel:Below w0.heap.size w0 W
section
variable {w0:World} {c B:Nat} {br:Int} {v u:Value} {ws:List Word} {ts:List Turn} {W W':World}
theorem Mkt.below (h:Mkt w0 c B br v u ws ts W) (hB:Below W.heap.size W W'):Mkt w0 c B br v u ws ts W' :=
 ⟨(hB.block _ (Array.getElem?_eq_some_iff.1 h.box).1).trans h.box,own_below h.ow hB,own_below h.ou hB,h.lt,h.le,Nat.le_trans h.bz hB.size,join h.bel hB⟩
theorem Mkt.wapp {v':Value} {x:Word} (h:Mkt w0 c B br v u ws ts W) (hg:W.grownBy W' v.ownBlock) (ho:W'.ownsRow B 61 3 v' (ws.length+1) (wcells ws++wcell x)) :
  Mkt w0 c B br v' u (ws++[x]) ts (W'.setCell ⟨c,0,none⟩ v')∧W'.cell? ⟨c,0,none⟩=some v∧W'.frozen? ⟨c,0,none⟩=false∧c<W'.heap.size:=by
 have hlt:=h.lt;have hbz:=h.bz;have hle:=h.le;have hb:=blk_other h.box h.ow (by decide) hg;have hu:=own_other h.ou h.ow (by decide) hg;refine ⟨⟨heap_set_same _ hb,?_,own_setC hu hlt,hlt,hle,by rw [World.size_setCell];exact Nat.le_trans hbz hg.size,(below_grown h.bel h.ow (by omega) (by omega) hg).setCell (p:=⟨c,0,none⟩) hle _⟩,blk_cells hb 0 _ rfl,by simp [World.frozen?,hb],(Array.getElem?_eq_some_iff.1 hb).1⟩;have:=own_setC (o:=0) (u:=v') ho hlt;rw [← wcells_snoc] at this;rw [List.length_append];exact this
theorem Mkt.tapp {u':Value} {x:Turn} (h:Mkt w0 c B br v u ws ts W) (hg:W.grownBy W' u.ownBlock) (ho:W'.ownsRow B 63 3 u' (ts.length+1) (tcells ts++tcell x)) :
  Mkt w0 c B br v u' ws (ts++[x]) (W'.setCell ⟨c,1,none⟩ u')∧W'.cell? ⟨c,1,none⟩=some u∧W'.frozen? ⟨c,1,none⟩=false∧c<W'.heap.size:=by
 have hlt:=h.lt;have hbz:=h.bz;have hle:=h.le;have hb:=blk_other h.box h.ou (by decide) hg;have hw:=own_other h.ow h.ou (by decide) hg;refine ⟨⟨heap_set_same _ hb,own_setC hw hlt,?_,hlt,hle,by rw [World.size_setCell];exact Nat.le_trans hbz hg.size,(below_grown h.bel h.ou (by omega) (by omega) hg).setCell (p:=⟨c,1,none⟩) hle _⟩,blk_cells hb 1 _ rfl,by simp [World.frozen?,hb],(Array.getElem?_eq_some_iff.1 hb).1⟩;have:=own_setC (o:=1) (u:=u') ho hlt;rw [← tcells_snoc] at this;rw [List.length_append];exact this
theorem Mkt.load (h:Mkt w0 c B br v u ws ts W):W.cell? ⟨c,0,none⟩=some v∧W.cell? ⟨c,1,none⟩=some u∧W.cell? ⟨c,2,none⟩=some (.int .i64 br)∧c<W.heap.size :=
 ⟨blk_cells h.box 0 _ rfl,blk_cells h.box 1 _ rfl,blk_cells h.box 2 _ rfl,(Array.getElem?_eq_some_iff.1 h.box).1⟩
theorem Mkt.read (h:Mkt w0 c B br v u ws ts W):∃ p q a b,v=.slice p ws.length a∧u=.slice q ts.length b∧TxAt W ⟨ws,ts,br⟩ p q∧ws.length≤a∧a≤maxLen:=by
 obtain ⟨p,a,e1,h1,h2,h3⟩:=own_wds h.ow rfl;obtain ⟨q,b,e2,h4,-,-⟩:=own_tns h.ou rfl;exact ⟨p,q,a,b,e1,e2,⟨h1,h4⟩,h2,h3⟩
end
end Go.Proofs.YtadnggecnjdhiaaGreat
namespace Go.Proofs.YtadnggecnjdhiaaGreat
open Go.RowKit Tx
theorem ga_cell {B:Nat} {e:TypeId} {tv:Value} {n:Nat} {xs:List Value} {a b:World} (h:Ga B e tv n xs a b) {c:Nat} (hc:c<a.heap.size) (hne:some c≠tv.ownBlock) (o:Nat):b.cell? ⟨c,o,none⟩=a.cell? ⟨c,o,none⟩:=by
 unfold World.cell?;rw [h.1.block c hc hne]
def spTw (c0 B:Nat) (tv:Value) (n k d1 d2 m1 m2 m3:Nat) (zs za:Int) (bz:Bool) (K:Nat) (xs:List Value):Nat→Bool→List Value→Value→World→Prop
 | 0,_,_,v,_=>v=.pointer (some ⟨c0,0,none⟩)
 | 1,_,_,v,_=>v=tv
 | 2,_,_,v,_=>v=.int .i64 ((n:Int))
 | 3,_,_,v,_=>v=.int .i64 ((k:Int))
 | 4,_,_,v,_=>v=.int .i64 ((k:Int)+1)
 | 5,_,_,v,_=>v=.int .i64 ((d1:Int))
 | 6,_,_,v,_=>v=.int .i64 ((m1:Int))
 | 7,_,_,v,_=>v=.int .i64 (1+(m1:Int))
 | 8,_,_,v,_=>v=.int .i64 ((n:Int))
 | 9,_,_,v,_=>v=.int .i64 ((k:Int))
 | 10,_,_,v,_=>v=.int .i64 ((k:Int)+2)
 | 11,_,_,v,_=>v=.int .i64 ((d2:Int))
 | 12,_,_,v,_=>v=.int .i64 ((m2:Int))
 | 13,_,_,v,_=>v=.int .i64 ((n:Int))
 | 14,_,_,v,_=>v=.int .i64 ((k:Int))
 | 15,_,_,v,_=>v=.int .i64 (zs)
 | 16,_,_,v,_=>v=.int .i64 (za)
 | 17,_,_,v,_=>v=.bool bz
 | 18,_,_,v,_=>v=.bool bz
 | 19,_,_,v,_=>v=if bz then undef else .int .i64 ((k:Int))
 | 20,_,_,v,_=>v=if bz then undef else .int .i64 ((m3:Int))
 | 21,_,_,v,_=>v=if bz then undef else .bool ((m3:Int) == 2)
 | 22,_,_,v,_=>v=.bool (bz||(m3:Int) == 2)
 | 23,_,_,v,_=>v=.agg #[.int .i64 (1+(m1:Int)),.int .i64 (m2:Int),.bool (bz||(m3:Int) == 2)]
 | 24,c,_,v,w=>c=false→∃ p,v=.slice (some ⟨p,0,none⟩) 1 1∧w.heap[p]?=some (.cells (wcell ⟨1+(m1:Int),(m2:Int),bz||(m3:Int) == 2⟩).toArray 61 (0,0))
 | 25,c,_,v,w=>c=true∧w.ownsRow B 61 3 v (K+1) (xs++wcell ⟨1+(m1:Int),(m2:Int),bz||(m3:Int) == 2⟩)
 | 26,_,_,v,_=>v=.pointer (some ⟨c0,0,none⟩)
 | _,_,_,_,_=>False
theorem spTw_stable (c0 B:Nat) (tv:Value) (n k d1 d2 m1 m2 m3:Nat) (zs za:Int) (bz:Bool) (K:Nat) (xs:List Value):∀ i c w w',(i=25→c=false)→Gai 25 B 61 tv K xs i w w'→∀ q L v,spTw c0 B tv n k d1 d2 m1 m2 m3 zs za bz K xs q c L v w→spTw c0 B tv n k d1 d2 m1 m2 m3 zs za bz K xs q (c||i == 25) L v w':=by
 intro i c w w' hi hg q L v h
 match q with
 | 0=>exact h
 | 1=>exact h
 | 2=>exact h
 | 3=>exact h
 | 4=>exact h
 | 5=>exact h
 | 6=>exact h
 | 7=>exact h
 | 8=>exact h
 | 9=>exact h
 | 10=>exact h
 | 11=>exact h
 | 12=>exact h
 | 13=>exact h
 | 14=>exact h
 | 15=>exact h
 | 16=>exact h
 | 17=>exact h
 | 18=>exact h
 | 19=>exact h
 | 20=>exact h
 | 21=>exact h
 | 22=>exact h
 | 23=>exact h
 | 24 =>
  intro hc;by_cases e:i=25
  ·subst e;simp at hc
  ·have hb:=hg.2 e;have hc':c=false:=by simpa [e] using hc
   obtain ⟨p,h1,h2⟩:=h hc';exact ⟨p,h1,(hb.block p (Array.getElem?_eq_some_iff.1 h2).1).trans h2⟩
 | 25 =>
  obtain ⟨h1,h2⟩:=h;have e:i≠25:=fun e=>by rw [hi e] at h1;cases h1
  exact ⟨by rw [h1];rfl,own_below h2 (hg.2 e)⟩
 | 26=>exact h
def spTu (c0 B:Nat) (tv wv:Value) (n k N:Nat) (wz lz d1 m1:Int) (K:Nat) (xs:List Value):Nat→Bool→List Value→Value→World→Prop
 | 0,_,_,v,_=>v=.pointer (some ⟨c0,1,none⟩)
 | 1,_,_,v,_=>v=tv
 | 2,_,_,v,_=>v=.int .i64 (wz)
 | 3,_,_,v,_=>v=.int .i64 (lz)
 | 4,_,_,v,_=>v=.pointer (some ⟨c0,0,none⟩)
 | 5,_,_,v,_=>v=wv
 | 6,_,_,v,_=>v=.int .i64 ((N:Int))
 | 7,_,_,v,_=>v=.int .i64 ((N:Int)-1)
 | 8,_,_,v,_=>v=.int .i64 (lz)
 | 9,_,_,v,_=>v=.int .i64 ((n:Int))
 | 10,_,_,v,_=>v=.int .i64 ((k:Int))
 | 11,_,_,v,_=>v=.int .i64 ((k:Int)+2)
 | 12,_,_,v,_=>v=.int .i64 (d1)
 | 13,_,_,v,_=>v=.int .i64 (m1)
 | 14,_,_,v,_=>v=.int .i64 (lz+m1)
 | 15,_,_,v,_=>v=.int .i64 (min ((N:Int)-1) (lz+m1))
 | 16,_,_,v,_=>v=.agg #[.int .i64 lz,.int .i64 (min ((N:Int)-1) (lz+m1))]
 | 17,_,_,v,_=>v=.agg #[.int .i64 wz,.int .i64 lz,.int .i64 (min ((N:Int)-1) (lz+m1))]
 | 18,c,_,v,w=>c=false→∃ p,v=.slice (some ⟨p,0,none⟩) 1 1∧w.heap[p]?=some (.cells (tcell ⟨wz,lz,min ((N:Int)-1) (lz+m1)⟩).toArray 63 (0,0))
 | 19,c,_,v,w=>c=true∧w.ownsRow B 63 3 v (K+1) (xs++tcell ⟨wz,lz,min ((N:Int)-1) (lz+m1)⟩)
 | 20,_,_,v,_=>v=.pointer (some ⟨c0,1,none⟩)
 | _,_,_,_,_=>False
theorem spTu_stable (c0 B:Nat) (tv wv:Value) (n k N:Nat) (wz lz d1 m1:Int) (K:Nat) (xs:List Value):∀ i c w w',(i=19→c=false)→Gai 19 B 63 tv K xs i w w'→∀ q L v,spTu c0 B tv wv n k N wz lz d1 m1 K xs q c L v w→spTu c0 B tv wv n k N wz lz d1 m1 K xs q (c||i == 19) L v w':=by
 intro i c w w' hi hg q L v h
 match q with
 | 0=>exact h
 | 1=>exact h
 | 2=>exact h
 | 3=>exact h
 | 4=>exact h
 | 5=>exact h
 | 6=>exact h
 | 7=>exact h
 | 8=>exact h
 | 9=>exact h
 | 10=>exact h
 | 11=>exact h
 | 12=>exact h
 | 13=>exact h
 | 14=>exact h
 | 15=>exact h
 | 16=>exact h
 | 17=>exact h
 | 18 =>
  intro hc;by_cases e:i=19
  ·subst e;simp at hc
  ·have hb:=hg.2 e;have hc':c=false:=by simpa [e] using hc
   obtain ⟨p,h1,h2⟩:=h hc';exact ⟨p,h1,(hb.block p (Array.getElem?_eq_some_iff.1 h2).1).trans h2⟩
 | 19 =>
  obtain ⟨h1,h2⟩:=h;have e:i≠19:=fun e=>by rw [hi e] at h1;cases h1
  exact ⟨by rw [h1];rfl,own_below h2 (hg.2 e)⟩
 | 20=>exact h
end Go.Proofs.YtadnggecnjdhiaaGreat
namespace Go.Proofs.YtadnggecnjdhiaaGreat
open Go.RowKit Tx
theorem wp_named {P:Program} {c:Code} {Q:Exit→Act→World→Prop} {a:Act} {w:World} (h:∀ W,W=w→c.wp P Q a W):c.wp P Q a w:=h w rfl
def Ls (W:World) (lo hi:Nat) (p:Option Addr) (l:List Int):Prop:=l=[]∨∃ b cs T,p=some ⟨b,0,none⟩∧lo≤b∧b<hi∧W.heap[b]?=some (.cells cs T (0,0))∧∀ i,i<l.length→cs[i]?=some (.int .i64 (l.getD i 0))
section
variable {W W':World} {lo hi:Nat} {p:Option Addr} {l:List Int}
theorem Ls.ints (h:Ls W lo hi p l):Ints W p l:=by
 rcases h with h | ⟨b,cs,T,hp,h1,h2,hx,hc⟩
 ·exact .inl h
 ·exact .inr ⟨b,0,hp,(Array.getElem?_eq_some_iff.1 hx).1,fun i hi=>by rw [Nat.zero_add];exact blk_cells hx i _ (hc i hi)⟩
theorem Ls.below (h:Ls W lo hi p l) (hb:Below W.heap.size W W'):Ls W' lo hi p l:=by
 rcases h with h | ⟨b,cs,T,hp,h1,h2,hx,hc⟩
 ·exact .inl h
 ·exact .inr ⟨b,cs,T,hp,h1,h2,(hb.block b (Array.getElem?_eq_some_iff.1 hx).1).trans hx,hc⟩
theorem Ls.other (h:Ls W lo hi p l) {R:Nat} (hR:R<lo∨hi≤R) (o:Nat) (x:Value):Ls (W.setCell ⟨R,o,none⟩ x) lo hi p l:=by
 rcases h with h | ⟨b,cs,T,hp,h1,h2,hx,hc⟩
 ·exact .inl h
 ·exact .inr ⟨b,cs,T,hp,h1,h2,(Below.heap_setCell _ _ _ _ (by show b≠R;omega)).trans hx,hc⟩
theorem Ls.at (h:Ls W lo hi p l) {i:Nat} (hi':i<l.length):∃ b,p=some ⟨b,0,none⟩∧lo≤b∧b<hi∧b<W.heap.size∧W.cell? ⟨b,i,none⟩=some (.int .i64 (l.getD i 0))∧W.frozen? ⟨b,i,none⟩=false∧∀ z,Ls (W.setCell ⟨b,i,none⟩ (.int .i64 z)) lo hi p (l.set i z):=by
 rcases h with rfl | ⟨b,cs,T,hp,h1,h2,hx,hc⟩
 ·simp at hi'
 ·refine ⟨b,hp,h1,h2,(Array.getElem?_eq_some_iff.1 hx).1,blk_cells hx i _ (hc i hi'),by simp [World.frozen?,hx],fun z=>.inr ⟨b,_,T,hp,h1,h2,heap_set_same _ hx,fun j hj=>?_⟩⟩;rw [List.length_set] at hj;have hcs:i<cs.size:=(Array.getElem?_eq_some_iff.1 (hc i hi')).1;by_cases e:j=i
  ·subst e;simp [hcs,hi']
  ·rw [Array.getElem?_setIfInBounds_ne (Ne.symm e),hc j hj];simp [List.getElem?_set,Ne.symm e]
theorem Ls.of_own {n:Nat} {v:Value} {e:TypeId} (h:W.ownsRow lo e 1 v n (l.map (Value.int .i64))) (hn:n=l.length) (hh:W.heap.size≤hi):∃ p c,v=.slice p l.length c∧Ls W lo hi p l:=by
 obtain ⟨p,c,e1,hI,-⟩:=own_rd h hn;subst hn;rcases h.2 with ⟨h1,h2⟩ | ⟨g,cap,cur,h1,hb,hg,h4,h5,h6,h7⟩
 ·exact ⟨p,c,e1,.inl (List.length_eq_zero_iff.1 h2)⟩
 ·refine ⟨_,_,h1,.inr ⟨g,cur,_,rfl,hb,by have:=(Array.getElem?_eq_some_iff.1 hg).1;omega,hg,fun i hi'=>?_⟩⟩;have h8:(cur.toList.take (l.length*1))[i]?=(l.map (Value.int .i64))[i]?:=by rw [h7]
  rw [List.getElem?_take,if_pos (by omega),Array.getElem?_toList,List.getElem?_map] at h8;rw [h8];simp [hi']
end
structure Trio (w6 W:World) (B2 B3 B4:Nat) (p1 p2 p3:Option Addr) (l1 l2 l3:List Int):Prop where
 b6:Below w6.heap.size w6 W
 a:Ls W w6.heap.size B2 p1 l1
 b:Ls W B2 B3 p2 l2
 c:Ls W B3 B4 p3 l3
 o1:w6.heap.size≤B2
 o2:B2≤B3
 o3:B3≤B4
section
variable {w6 W W':World} {B2 B3 B4:Nat} {p1 p2 p3:Option Addr} {l1 l2 l3:List Int}
theorem Trio.below (h:Trio w6 W B2 B3 B4 p1 p2 p3 l1 l2 l3) (hb:Below W.heap.size W W'):Trio w6 W' B2 B3 B4 p1 p2 p3 l1 l2 l3:=⟨join h.b6 hb,h.a.below hb,h.b.below hb,h.c.below hb,h.o1,h.o2,h.o3⟩
theorem Trio.at1 (h:Trio w6 W B2 B3 B4 p1 p2 p3 l1 l2 l3) {i:Nat} (hi:i<l1.length):∃ b,p1=some ⟨b,0,none⟩∧b<W.heap.size∧W.cell? ⟨b,i,none⟩=some (.int .i64 (l1.getD i 0))∧W.frozen? ⟨b,i,none⟩=false∧∀ z,Trio w6 (W.setCell ⟨b,i,none⟩ (.int .i64 z)) B2 B3 B4 p1 p2 p3 (l1.set i z) l2 l3:=by
 obtain ⟨b,e,k1,k2,k3,k4,k5,k6⟩:=h.a.at hi;have o2:=h.o2;exact ⟨b,e,k3,k4,k5,fun z=>⟨h.b6.setCell k1 _,k6 z,h.b.other (by omega) _ _,h.c.other (by omega) _ _,h.o1,h.o2,h.o3⟩⟩
theorem Trio.at2 (h:Trio w6 W B2 B3 B4 p1 p2 p3 l1 l2 l3) {i:Nat} (hi:i<l2.length):∃ b,p2=some ⟨b,0,none⟩∧b<W.heap.size∧W.cell? ⟨b,i,none⟩=some (.int .i64 (l2.getD i 0))∧W.frozen? ⟨b,i,none⟩=false∧∀ z,Trio w6 (W.setCell ⟨b,i,none⟩ (.int .i64 z)) B2 B3 B4 p1 p2 p3 l1 (l2.set i z) l3:=by
 obtain ⟨b,e,k1,k2,k3,k4,k5,k6⟩:=h.b.at hi;have o1:=h.o1;exact ⟨b,e,k3,k4,k5,fun z=>⟨h.b6.setCell (show w6.heap.size≤b by omega) _,h.a.other (by omega) _ _,k6 z,h.c.other (by omega) _ _,h.o1,h.o2,h.o3⟩⟩
theorem Trio.at3 (h:Trio w6 W B2 B3 B4 p1 p2 p3 l1 l2 l3) {i:Nat} (hi:i<l3.length):∃ b,p3=some ⟨b,0,none⟩∧b<W.heap.size∧W.cell? ⟨b,i,none⟩=some (.int .i64 (l3.getD i 0))∧W.frozen? ⟨b,i,none⟩=false∧∀ z,Trio w6 (W.setCell ⟨b,i,none⟩ (.int .i64 z)) B2 B3 B4 p1 p2 p3 l1 l2 (l3.set i z):=by
 obtain ⟨b,e,k1,k2,k3,k4,k5,k6⟩:=h.c.at hi;have o1:=h.o1;have o2:=h.o2;exact ⟨b,e,k3,k4,k5,fun z=>⟨h.b6.setCell (show w6.heap.size≤b by omega) _,h.a.other (by omega) _ _,h.b.other (by omega) _ _,k6 z,h.o1,h.o2,h.o3⟩⟩
end
end Go.Proofs.YtadnggecnjdhiaaGreat
namespace Go.Proofs.YtadnggecnjdhiaaGreat
open Go.RowKit Tx
theorem append_whichI (w:World) (base:Nat) (i0:TypeInfo) (hi:Tryz.prog.info? 3=some i0) (hz0:i0.zero=some (.int .i64 0)) (hz1:i0.size=1) (hz2:i0.bytes=8) (ty:TypeId) (tv:Value) (n:Nat) (xs:List Value) (x:Value) (hx1:x.oneCell'=true) (hown:w.ownsRow base 3 1 tv n xs) (hb:base≤w.heap.size) (hn:n≤1000000) (a:Addr) (ha:w.cell? (a.add 0)=some x) :
  ∃ v' w',(Builtin.append_ #[34,34] ty #[tv,.slice (some a) 1 1]).run Tryz.prog w=.ok v' w'∧w'.ownsRow base 3 1 v' (n+1) (xs++[x])∧w.grownBy w' tv.ownBlock∧(v'.ownBlock=tv.ownBlock∨v'.ownBlock=some w.heap.size):=by
 have hnews:∀ j u,[x][j]?=some u→w.cell? (a.add j)=some u:=fun j u hj=>by
  match j,hj with
  | 0,hj=>simp at hj;subst hj;exact ha
 obtain ⟨v',w',hr,h2,h3,h4⟩:=run_append_own (P:=Tryz.prog) w base 34 ty 3 i0 (.int .i64 0) 1 8 A_undI hi hz0 hz1 hz2 rfl (by decide) tv n xs hown a 1 1 [x] rfl hnews (by simpa using hx1) (by unfold maxLen;omega) (by omega) hb;refine ⟨v',w',hr,h2,h3,?_⟩;rcases hown.2 with ⟨rfl,rfl⟩ | ⟨g,cap,cur,rfl,hbg,hg,hnc,hcm,hcs,htake⟩
 ·have hr2:=run_append_nil (P:=Tryz.prog) w 34 ty 3 i0 (.int .i64 0) A_undI hi hz0 a 1 1 [x] (by rw [hz1];rfl) hnews (by omega) (by omega) (by rw [hz2];omega);rw [hr2] at hr;injection hr with hv hw;right;rw [← hv];rfl
 ·by_cases hroom:n+1≤cap
  ·have hr2:=run_append_room (P:=Tryz.prog) w 34 ty 3 i0 A_undI hi g n cap cur hg a 1 1 [x] (by rw [hz1];rfl) hnews (by simpa using hx1) hroom (by rw [hcs,hz1];simp;omega);rw [hr2] at hr;injection hr with hv hw;subst hv;exact .inl rfl
  ·have holds:∀ j u,xs[j]?=some u→w.cell? ((⟨g,0,none⟩:Addr).add j)=some u:=hown.cells (g:=g) rfl;have hr2:=run_append_grow (P:=Tryz.prog) w 34 ty 3 i0 (.int .i64 0) A_undI hi hz0 ⟨g,0,none⟩ n cap xs (by rw [hz1];exact hown.1) holds a 1 1 [x] (by rw [hz1];rfl) hnews (by omega) (by omega) (by rw [hz2];exact growslice_fits (by omega) (by omega));rw [hr2] at hr;injection hr with hv hw;right;rw [← hv];rfl
theorem wpList_append_whichI {ops:Array Oper} {rest:List Oper} {o:Oper} {a:Act} {w:World} {Q:Exit→Act→World→Prop} (hgd:o.guard=none) (s x:Operand)
  (ho:o.op=.call { callee:=.builtin .append,args:=#[s,x],argTypes:=#[34,34] }) (base:Nat) (tv:Value) (n:Nat) (xs:List Value) (hs:a.eval s=tv) (hown:w.ownsRow base 3 1 tv n xs)
  (ad:Addr) (u:Value) (hx:a.eval x=.slice (some ad) 1 1) (hu:w.cell? (ad.add 0)=some u) (hu1:u.oneCell'=true) (hb:base≤w.heap.size) (hn:n≤1000000)
  (h:∀ v' w',w'.ownsRow base 3 1 v' (n+1) (xs++[u])→w.grownBy w' tv.ownBlock→(v'.ownBlock=tv.ownBlock∨v'.ownBlock=some w.heap.size)→wpList Tryz.prog ops Q rest (a.put o.dst v') w'):wpList Tryz.prog ops Q (o::rest) a w :=
 wpList_plain hgd fun _ hK=>by
  obtain ⟨i0,hi,hz0,hz1,hz2⟩:=info_parts A_infoI;obtain ⟨v',w',hr,h2,h3,h4⟩:=append_whichI w base i0 hi hz0 hz1 hz2 o.type tv n xs u hu1 hown hb hn ad hu;unfold Oper.wp execOp;simp only [ho,resolve,invoke,builtin,Sem.run_bind,Sem.run_pure,Result.andThen_ok,List.map_toArray,List.map_cons,List.map_nil,hs,hx,hr];exact hK _ _ (h v' w' h2 h3 h4)
structure Two (B:Nat) (va:Value) (al:List Int) (vb:Value) (bl2:List Int) (W:World):Prop where
 oa:W.ownsRow B 3 1 va al.length (al.map (Value.int .i64))
 ob:W.ownsRow B 3 1 vb bl2.length (bl2.map (Value.int .i64))
 ne:va.ownBlock=none∨va.ownBlock≠vb.ownBlock
theorem Two.start (B:Nat) (W:World):Two B (.slice none 0 0) [] (.slice none 0 0) [] W:=⟨own_none _ _ _ _,own_none _ _ _ _,.inl rfl⟩
theorem Two.swap {B:Nat} {va vb:Value} {al bl2:List Int} {W:World} (h:Two B va al vb bl2 W):Two B vb bl2 va al W:=⟨h.ob,h.oa,by
 rcases h.ne with e | e
 ·rw [e];cases hb:vb.ownBlock with
  | none=>exact .inl rfl
  | some g=>exact .inr (by simp)
 ·exact .inr (Ne.symm e)⟩
theorem Two.below {B:Nat} {va vb:Value} {al bl2:List Int} {W W':World} (h:Two B va al vb bl2 W) (hB:Below W.heap.size W W'):Two B va al vb bl2 W':=⟨own_below h.oa hB,own_below h.ob hB,h.ne⟩
theorem Two.lt {B:Nat} {va vb:Value} {al bl2:List Int} {W:World} (h:Two B va al vb bl2 W):∀ k,vb.ownBlock=some k→k<W.heap.size:=by
 intro k hk;rcases h.ob.2 with ⟨h1,_⟩ | ⟨g,cap,cur,h1,hb,hg,_⟩
 ·rw [h1] at hk;cases hk
 ·rw [h1] at hk;injection hk with hk;subst hk;exact (Array.getElem?_eq_some_iff.1 hg).1
theorem Two.app {B:Nat} {va vb v':Value} {al bl2:List Int} {x:Int} {W W':World} (h:Two B va al vb bl2 W) (hown:W'.ownsRow B 3 1 v' (al.length+1) (al.map (Value.int .i64)++[.int .i64 x])) (hg:W.grownBy W' va.ownBlock) (hw:v'.ownBlock=va.ownBlock∨v'.ownBlock=some W.heap.size):Two B v' (al++[x]) vb bl2 W':=by
 have hlt:=h.lt;refine ⟨by simpa using hown,h.ob.kept hg ?_,?_⟩
 ·rcases h.ne with e | e
  ·rw [e];cases hb:vb.ownBlock with
   | none=>exact .inl rfl
   | some g=>exact .inr (by simp)
  ·exact .inr (Ne.symm e)
 ·rcases hw with e | e
  ·rw [e];exact h.ne
  ·right;rw [e];intro e2;exact absurd (hlt _ e2.symm) (by omega)
theorem wpList_append3 {ops:Array Oper} {rest:List Oper} {o:Oper} {a:Act} {w:World} {Q:Exit→Act→World→Prop} {T e:TypeId} {z:Value} (hgd:o.guard=none) (s x:Operand)
  (ho:o.op=.call { callee:=.builtin .append,args:=#[s,x],argTypes:=#[T,T] }) (hT:Tryz.prog.underlying T=some (.slice e)) (hE:(Tryz.prog.info? e).map (fun i=>(i.zero,i.size,i.bytes))=some (some z,3,24)) (hz:z.cells.size=3)
  (base:Nat) (tv:Value) (n:Nat) (xs cs:List Value) (hs:a.eval s=tv) (hown:w.ownsRow base e 3 tv n xs) (p:Nat) (hx:a.eval x=.slice (some ⟨p,0,none⟩) 1 1) (hp:w.heap[p]?=some (.cells cs.toArray e (0,0))) (hcl:cs.length=3) (h1c:∀ u∈cs,u.oneCell'=true) (hb:base≤w.heap.size) (hn:n≤1000)
  (h:∀ v' w',w'.ownsRow base e 3 v' (n+1) (xs++cs)→w.grownBy w' tv.ownBlock→wpList Tryz.prog ops Q rest (a.put o.dst v') w'):wpList Tryz.prog ops Q (o::rest) a w :=
 wpList_plain hgd fun _ hK=>by
  obtain ⟨v',w',hr,h2,h3,h4⟩:=append_keep3 hT hE hz w base o.type tv n xs cs hown hb hn p hp hcl h1c;unfold Oper.wp execOp;simp only [ho,resolve,invoke,builtin,Sem.run_bind,Sem.run_pure,Result.andThen_ok,List.map_toArray,List.map_cons,List.map_nil,hs,hx,hr];exact hK _ _ (h v' w' h2 h3)
theorem al_last' (W:World) (o:Obj) (k:Nat) (h:k=W.heap.size):(W.alloc o).heap[k]?=some o:=by subst h;exact heap_last W o
def gateO:Obj:=.cells #[.int .i64 1,.int .i64 0,.bool false,.int .i64 1,.int .i64 4,.bool true,.int .i64 1,.int .i64 0,.bool false,.int .i64 1,.int .i64 3,.bool true,.int .i64 1,.int .i64 3,.bool false,.int .i64 1,.int .i64 3,.bool true,.int .i64 1,.int .i64 0,.bool false,.int .i64 1,.int .i64 2,.bool true] 61
structure Pr (w0:World) (c1 c2 g B:Nat) (v u rv kv:Value) (ws:List Word) (ts:List Turn) (al bl:List Int) (W:World):Prop where
 b1:W.heap[c1]?=some (.cells #[v,.slice none 0 0,.int .i64 40] 25 (0,0))
 b2:W.heap[c2]?=some (.cells #[.slice (some ⟨g,0,none⟩) 8 8,u,.int .i64 5] 25 (0,0))
 ow:W.ownsRow B 61 3 v ws.length (wcells ws)
 ou:W.ownsRow B 63 3 u ts.length (tcells ts)
 xg:W.heap[g]?=some gateO
 two:Two B rv al kv bl W
 l1:c1<B
 l2:c2<B
 lg:g<B
 n12:c1≠c2
 n1g:c1≠g
 n2g:c2≠g
 le1:w0.heap.size≤c1
 le2:w0.heap.size≤c2
 bz:B≤W.heap.size
 bel:Below w0.heap.size w0 W
section
variable {w0:World} {c1 c2 g B:Nat} {v u rv kv:Value} {ws:List Word} {ts:List Turn} {al bl:List Int} {W W':World}
theorem Pr.below (h:Pr w0 c1 c2 g B v u rv kv ws ts al bl W) (hB:Below W.heap.size W W'):Pr w0 c1 c2 g B v u rv kv ws ts al bl W' :=
 have k:∀ {b o},W.heap[b]?=some o→W'.heap[b]?=some o:=fun {b o} hx=>(hB.block b (Array.getElem?_eq_some_iff.1 hx).1).trans hx
 ⟨k h.b1,k h.b2,own_below h.ow hB,own_below h.ou hB,k h.xg,h.two.below hB,h.l1,h.l2,h.lg,h.n12,h.n1g,h.n2g,h.le1,h.le2,Nat.le_trans h.bz hB.size,join h.bel hB⟩
theorem low_grown {e:TypeId} {s n:Nat} {t:Value} {xs:List Value} {k:Nat} {o:Obj} (h:W.heap[k]?=some o) (ho:W.ownsRow B e s t n xs) (hk:k<B) (hg:W.grownBy W' t.ownBlock):W'.heap[k]?=some o :=
 (hg.block k (Array.getElem?_eq_some_iff.1 h).1 (fun e2=>by have:=(own_blockI ho k e2.symm).1;omega)).trans h
theorem Pr.wapp {v':Value} {x:Word} (h:Pr w0 c1 c2 g B v u rv kv ws ts al bl W) (hg:W.grownBy W' v.ownBlock) (ho:W'.ownsRow B 61 3 v' (ws.length+1) (wcells ws++wcell x)) :
  Pr w0 c1 c2 g B v' u rv kv (ws++[x]) ts al bl (W'.setCell ⟨c1,0,none⟩ v')∧W'.cell? ⟨c1,0,none⟩=some v∧W'.frozen? ⟨c1,0,none⟩=false∧c1<W'.heap.size:=by
 have l1:=h.l1;have le1:=h.le1;have bz:=h.bz;have x1:=low_grown h.b1 h.ow l1 hg;have x2:=low_grown h.b2 h.ow h.l2 hg;have xg:=low_grown h.xg h.ow h.lg hg;refine ⟨⟨heap_set_same _ x1,(Below.heap_setCell _ _ _ _ (Ne.symm h.n12)).trans x2,?_,own_setC (own_other h.ou h.ow (by decide) hg) l1,(Below.heap_setCell _ _ _ _ (Ne.symm h.n1g)).trans xg,⟨own_setC (own_other h.two.oa h.ow (by decide) hg) l1,own_setC (own_other h.two.ob h.ow (by decide) hg) l1,h.two.ne⟩,l1,h.l2,h.lg,h.n12,h.n1g,h.n2g,le1,h.le2,by rw [World.size_setCell];exact Nat.le_trans bz hg.size,(below_grown h.bel h.ow (by omega) (by omega) hg).setCell (p:=⟨c1,0,none⟩) le1 _⟩,blk_cells x1 0 _ rfl,by simp [World.frozen?,x1],(Array.getElem?_eq_some_iff.1 x1).1⟩;have:=own_setC (o:=0) (u:=v') ho l1;rw [← wcells_snoc] at this;rw [List.length_append];exact this
theorem Pr.tapp {u':Value} {x:Turn} (h:Pr w0 c1 c2 g B v u rv kv ws ts al bl W) (hg:W.grownBy W' u.ownBlock) (ho:W'.ownsRow B 63 3 u' (ts.length+1) (tcells ts++tcell x)) :
  Pr w0 c1 c2 g B v u' rv kv ws (ts++[x]) al bl (W'.setCell ⟨c2,1,none⟩ u')∧W'.cell? ⟨c2,1,none⟩=some u∧W'.frozen? ⟨c2,1,none⟩=false∧c2<W'.heap.size:=by
 have l2:=h.l2;have le2:=h.le2;have bz:=h.bz;have x1:=low_grown h.b1 h.ou h.l1 hg;have x2:=low_grown h.b2 h.ou l2 hg;have xg:=low_grown h.xg h.ou h.lg hg;refine ⟨⟨(Below.heap_setCell _ _ _ _ h.n12).trans x1,heap_set_same _ x2,own_setC (own_other h.ow h.ou (by decide) hg) l2,?_,(Below.heap_setCell _ _ _ _ (Ne.symm h.n2g)).trans xg,⟨own_setC (own_other h.two.oa h.ou (by decide) hg) l2,own_setC (own_other h.two.ob h.ou (by decide) hg) l2,h.two.ne⟩,h.l1,l2,h.lg,h.n12,h.n1g,h.n2g,h.le1,le2,by rw [World.size_setCell];exact Nat.le_trans bz hg.size,(below_grown h.bel h.ou (by have:=h.le1;have:=h.l1;omega) (by have:=h.le1;have:=h.l1;omega) hg).setCell (p:=⟨c2,1,none⟩) le2 _⟩,blk_cells x2 1 _ rfl,by simp [World.frozen?,x2],(Array.getElem?_eq_some_iff.1 x2).1⟩;have:=own_setC (o:=1) (u:=u') ho l2;rw [← tcells_snoc] at this;rw [List.length_append];exact this
theorem Pr.swap (h:Pr w0 c1 c2 g B v u rv kv ws ts al bl W):Pr w0 c1 c2 g B v u kv rv ws ts bl al W :=
 ⟨h.b1,h.b2,h.ow,h.ou,h.xg,h.two.swap,h.l1,h.l2,h.lg,h.n12,h.n1g,h.n2g,h.le1,h.le2,h.bz,h.bel⟩
theorem Pr.iapp {v':Value} {x:Int} (h:Pr w0 c1 c2 g B v u rv kv ws ts al bl W) (ho:W'.ownsRow B 3 1 v' (al.length+1) (al.map (Value.int .i64)++[.int .i64 x])) (hg:W.grownBy W' rv.ownBlock) (hw:v'.ownBlock=rv.ownBlock∨v'.ownBlock=some W.heap.size) :
  Pr w0 c1 c2 g B v u v' kv ws ts (al++[x]) bl W' :=
 ⟨low_grown h.b1 h.two.oa h.l1 hg,low_grown h.b2 h.two.oa h.l2 hg,own_other h.ow h.two.oa (by decide) hg,own_other h.ou h.two.oa (by decide) hg,low_grown h.xg h.two.oa h.lg hg,h.two.app ho hg hw,h.l1,h.l2,h.lg,h.n12,h.n1g,h.n2g,h.le1,h.le2,Nat.le_trans h.bz hg.size,below_grown h.bel h.two.oa (by have:=h.le1;have:=h.l1;omega) (by have:=h.le1;have:=h.l1;have:=h.bz;omega) hg⟩
end
def smW (n:Nat):List Word:=(List.range n).map fun (i:Nat)=>⟨1,(i:Int) % 3,(i:Int) % 2 == 0⟩
def smT (n:Nat):List Turn:=(List.range n).map fun (i:Nat)=>⟨(i:Int) % 3,3,3+(i:Int) % 5⟩
theorem smW_next (n:Nat):smW (n+1)=smW n++[⟨1,(n:Int) % 3,(n:Int) % 2 == 0⟩]:=by unfold smW;rw [List.range_succ,List.map_append];rfl
theorem smT_next (n:Nat):smT (n+1)=smT n++[⟨(n:Int) % 3,3,3+(n:Int) % 5⟩]:=by unfold smT;rw [List.range_succ,List.map_append];rfl
theorem smW_len (n:Nat):(smW n).length=n:=by simp [smW]
theorem smT_len (n:Nat):(smT n).length=n:=by simp [smT]
theorem smW_err:∀ n,n<15→(((⟨smW n,[],40⟩:Text).err == 0)=(decide (0<n)&&decide (n<13))):=by decide +kernel
theorem smT_err:∀ n,n<15→(((⟨(gateT 5).words,smT n,5⟩:Text).err == 0)=decide (n<7)):=by decide +kernel
end Go.Proofs.YtadnggecnjdhiaaGreat
namespace Go.Proofs.YtadnggecnjdhiaaGreat
open Go.RowKit Tx
def spTv (c0 B:Nat) (tv:Value) (k:Nat) (m3:Int) (m2:Int) (b2:Bool) (K:Nat) (xs:List Value):Nat→Bool→List Value→Value→World→Prop
 | 0,_,_,v,_=>v=.pointer (some ⟨c0,0,none⟩)
 | 1,_,_,v,_=>v=tv
 | 2,_,_,v,_=>v=.int .i64 ((k:Int))
 | 3,_,_,v,_=>v=.int .i64 (m3)
 | 4,_,_,v,_=>v=.int .i64 ((k:Int))
 | 5,_,_,v,_=>v=.int .i64 (m2)
 | 6,_,_,v,_=>v=.bool b2
 | 7,_,_,v,_=>v=.agg #[.int .i64 1,.int .i64 m3,.bool b2]
 | 8,c,_,v,w=>c=false→∃ p,v=.slice (some ⟨p,0,none⟩) 1 1∧w.heap[p]?=some (.cells (wcell ⟨1,m3,b2⟩).toArray 61 (0,0))
 | 9,c,_,v,w=>c=true∧w.ownsRow B 61 3 v (K+1) (xs++wcell ⟨1,m3,b2⟩)
 | 10,_,_,v,_=>v=.pointer (some ⟨c0,0,none⟩)
 | _,_,_,_,_=>False
theorem spTv_stable (c0 B:Nat) (tv:Value) (k:Nat) (m3:Int) (m2:Int) (b2:Bool) (K:Nat) (xs:List Value):∀ i c w w',(i=9→c=false)→Gai 9 B 61 tv K xs i w w'→∀ q L v,spTv c0 B tv k m3 m2 b2 K xs q c L v w→spTv c0 B tv k m3 m2 b2 K xs q (c||i == 9) L v w':=by
 intro i c w w' hi hg q L v h
 match q with
 | 0=>exact h
 | 1=>exact h
 | 2=>exact h
 | 3=>exact h
 | 4=>exact h
 | 5=>exact h
 | 6=>exact h
 | 7=>exact h
 | 8 =>
  intro hc;by_cases e:i=9
  ·subst e;simp at hc
  ·have hb:=hg.2 e;have hc':c=false:=by simpa [e] using hc
   obtain ⟨p,h1,h2⟩:=h hc';exact ⟨p,h1,(hb.block p (Array.getElem?_eq_some_iff.1 h2).1).trans h2⟩
 | 9 =>
  obtain ⟨h1,h2⟩:=h;have e:i≠9:=fun e=>by rw [hi e] at h1;cases h1
  exact ⟨by rw [h1];rfl,own_below h2 (hg.2 e)⟩
 | 10=>exact h
end Go.Proofs.YtadnggecnjdhiaaGreat
namespace Go.Proofs.YtadnggecnjdhiaaGreat
open Go.RowKit Tx
theorem ints_lit3 (W:World) (l:List Int):Ints (W.alloc (.cells (arrOf l) 3)) (some ⟨W.heap.size,0,none⟩) l :=
 .inr ⟨_,0,rfl,by simp,fun i hi=>by rw [Nat.zero_add];exact blk_cells (heap_last _ _) i _ (arrOf_get hi)⟩
structure Rd3 (c1 c2 n:Nat) (p1 q2 rp kp:Option Addr) (a1 g b2 rc kc:Nat) (A1 A2:List Int) (W:World):Prop where
 x1:W.heap[c1]?=some (.cells #[.slice p1 n a1,.slice none 0 0,.int .i64 40] 25 (0,0))
 x2:W.heap[c2]?=some (.cells #[.slice (some ⟨g,0,none⟩) 8 8,.slice q2 n b2,.int .i64 5] 25 (0,0))
 t1:TxAt W ⟨smW n,[],40⟩ p1 none
 t2:TxAt W ⟨(gateT 5).words,smT n,5⟩ (some ⟨g,0,none⟩) q2
 ir:Ints W rp A1
 ik:Ints W kp A2
 n1:A1.length=n
 n2:A2.length=n
 le:n≤20
 lc:n≤a1
 lm:a1≤maxLen
section
variable {c1 c2 n:Nat} {p1 q2 rp kp:Option Addr} {a1 g b2 rc kc:Nat} {A1 A2:List Int} {W:World}
theorem Rd3.below (h:Rd3 c1 c2 n p1 q2 rp kp a1 g b2 rc kc A1 A2 W) {W':World} (hb:Below W.heap.size W W'):Rd3 c1 c2 n p1 q2 rp kp a1 g b2 rc kc A1 A2 W' :=
 have k:∀ {b o},W.heap[b]?=some o→W'.heap[b]?=some o:=fun {b o} hx=>(hb.block b (Array.getElem?_eq_some_iff.1 hx).1).trans hx
 ⟨k h.x1,k h.x2,h.t1.below hb,h.t2.below hb,h.ir.below hb,h.ik.below hb,h.n1,h.n2,h.le,h.lc,h.lm⟩
theorem Rd3.parts1 (h:Rd3 c1 c2 n p1 q2 rp kp a1 g b2 rc kc A1 A2 W):Calls Tryz.prog 23 #[.agg #[.slice p1 n a1,.slice none 0 0,.int .i64 40],.agg #[.int .i64 0,.int .i64 0],.slice rp n rc] W fun e w'=>e=.returned (.bool true)∧Below W.heap.size W w':=by
 have hl:=h.le;have:=TextParts_any ⟨smW n,[],40⟩ 0 0 A1 (by show (smW n).length≤_;rw [smW_len];omega) (by show ([]:List Turn).length≤_;simp) (by rw [h.n1];omega) p1 none rp a1 0 rc W h.t1 h.ir;dsimp only at this;rwa [smW_len,h.n1] at this
theorem Rd3.astray1 (h:Rd3 c1 c2 n p1 q2 rp kp a1 g b2 rc kc A1 A2 W):Calls Tryz.prog 25 #[.agg #[.slice p1 n a1,.slice none 0 0,.int .i64 40],.slice rp n rc] W fun e w'=>e=.returned (.bool true)∧Below W.heap.size W w':=by
 have hl:=h.le;have:=TextAstray_any ⟨smW n,[],40⟩ A1 (by show (smW n).length≤_;rw [smW_len];omega) (by show ([]:List Turn).length≤_;simp) (by rw [h.n1];omega) p1 none rp a1 0 rc W h.t1 h.ir;dsimp only at this;rwa [smW_len,h.n1] at this
theorem Rd3.shorter1 (h:Rd3 c1 c2 n p1 q2 rp kp a1 g b2 rc kc A1 A2 W):Calls Tryz.prog 26 #[.agg #[.slice p1 n a1,.slice none 0 0,.int .i64 40],.slice kp n kc,.int .i64 1] W fun e w'=>e=.returned (.bool true)∧Below W.heap.size W w':=by
 have hl:=h.le;have:=TextShorter_any ⟨smW n,[],40⟩ A2 1 (by show (smW n).length≤_;rw [smW_len];omega) (by show ([]:List Turn).length≤_;simp) (by rw [h.n2];omega) p1 none kp a1 0 kc W h.t1 h.ik;dsimp only at this;rwa [smW_len,h.n2] at this
theorem Rd3.marks1 (h:Rd3 c1 c2 n p1 q2 rp kp a1 g b2 rc kc A1 A2 W) (l:List Int) (hl:l.length≤100) (p:Option Addr) (c:Nat) (hp:Ints W p l):Calls Tryz.prog 24 #[.agg #[.slice p1 n a1,.slice none 0 0,.int .i64 40],.slice p l.length c] W fun e w'=>e=.returned (.bool true)∧Below W.heap.size W w':=by
 have hle:=h.le;have:=TextMarks_any ⟨smW n,[],40⟩ l (by show (smW n).length≤_;rw [smW_len];omega) (by show ([]:List Turn).length≤_;simp) (by omega) p1 none p a1 0 c W h.t1 hp;dsimp only at this;rwa [smW_len] at this
theorem Rd3.fewest1 (h:Rd3 c1 c2 n p1 q2 rp kp a1 g b2 rc kc A1 A2 W):Calls Tryz.prog 28 #[.agg #[.slice p1 n a1,.slice none 0 0,.int .i64 40]] W fun e w'=>e=.returned (.bool true)∧Below W.heap.size W w':=by
 have hl:=h.le;have:=TextFewest_any ⟨smW n,[],40⟩ (by show (smW n).length≤_;rw [smW_len];omega) (by show ([]:List Turn).length≤_;simp) p1 none a1 0 W h.t1;dsimp only at this;rwa [smW_len] at this
theorem Rd3.even1 (h:Rd3 c1 c2 n p1 q2 rp kp a1 g b2 rc kc A1 A2 W):Calls Tryz.prog 3 #[.agg #[.slice p1 n a1,.slice none 0 0,.int .i64 40]] W fun e w'=>e=.returned (.bool true)∧Below W.heap.size W w':=by
 have hl:=h.le;have:=TextEven_any ⟨smW n,[],40⟩ (by show (smW n).length≤_;rw [smW_len];omega) (by show ([]:List Turn).length≤_;simp) p1 none a1 0 W h.t1;dsimp only at this;rwa [smW_len] at this
theorem Rd3.least1 (h:Rd3 c1 c2 n p1 q2 rp kp a1 g b2 rc kc A1 A2 W) (x:Int):Calls Tryz.prog 27 #[.agg #[.slice p1 n a1,.slice none 0 0,.int .i64 40],.int .i64 x] W fun e w'=>e=.returned (.bool true)∧Below W.heap.size W w':=by
 have hl:=h.le;have:=TextLeast_any ⟨smW n,[],40⟩ x (by show (smW n).length≤_;rw [smW_len];omega) (by show ([]:List Turn).length≤_;simp) p1 none a1 0 W h.t1;dsimp only at this;rwa [smW_len] at this
theorem Rd3.check1 (h:Rd3 c1 c2 n p1 q2 rp kp a1 g b2 rc kc A1 A2 W) (er:Int) (he:(⟨smW n,[],40⟩:Text).err=er):Calls Tryz.prog 33 #[.agg #[.slice p1 n a1,.slice none 0 0,.int .i64 40]] W fun e w'=>e=.returned (.int .i64 er)∧Below W.heap.size W w':=by
 have hl:=h.le;have:=Check_any ⟨smW n,[],40⟩ (by show (smW n).length≤_;rw [smW_len];omega) (by show ([]:List Turn).length≤_;simp) p1 none a1 0 W h.t1;rw [he] at this;dsimp only at this;rwa [smW_len] at this
theorem Rd3.parts2 (h:Rd3 c1 c2 n p1 q2 rp kp a1 g b2 rc kc A1 A2 W) (l:List Int) (hl:l.length≤100) (p:Option Addr) (c:Nat) (hp:Ints W p l):Calls Tryz.prog 23 #[.agg #[.slice (some ⟨g,0,none⟩) 8 8,.slice q2 n b2,.int .i64 5],.agg #[.int .i64 3,.int .i64 7],.slice p l.length c] W fun e w'=>e=.returned (.bool true)∧Below W.heap.size W w':=by
 have hle:=h.le;have:=TextParts_any ⟨(gateT 5).words,smT n,5⟩ 3 7 l (by show (8:Nat)≤_;omega) (by show (smT n).length≤_;rw [smT_len];omega) (by omega) (some ⟨g,0,none⟩) q2 p 8 b2 c W h.t2 hp;dsimp only at this;rw [smT_len] at this;exact this
theorem Rd3.astray2 (h:Rd3 c1 c2 n p1 q2 rp kp a1 g b2 rc kc A1 A2 W) (l:List Int) (hl:l.length≤100) (p:Option Addr) (c:Nat) (hp:Ints W p l):Calls Tryz.prog 25 #[.agg #[.slice (some ⟨g,0,none⟩) 8 8,.slice q2 n b2,.int .i64 5],.slice p l.length c] W fun e w'=>e=.returned (.bool true)∧Below W.heap.size W w':=by
 have hle:=h.le;have:=TextAstray_any ⟨(gateT 5).words,smT n,5⟩ l (by show (8:Nat)≤_;omega) (by show (smT n).length≤_;rw [smT_len];omega) (by omega) (some ⟨g,0,none⟩) q2 p 8 b2 c W h.t2 hp;dsimp only at this;rw [smT_len] at this;exact this
theorem Rd3.marks2 (h:Rd3 c1 c2 n p1 q2 rp kp a1 g b2 rc kc A1 A2 W):Calls Tryz.prog 24 #[.agg #[.slice (some ⟨g,0,none⟩) 8 8,.slice q2 n b2,.int .i64 5],.slice none 0 0] W fun e w'=>e=.returned (.bool true)∧Below W.heap.size W w':=by
 have hle:=h.le;have:=TextMarks_any ⟨(gateT 5).words,smT n,5⟩ [] (by show (8:Nat)≤_;omega) (by show (smT n).length≤_;rw [smT_len];omega) (by simp) (some ⟨g,0,none⟩) q2 none 8 b2 0 W h.t2 (.inl rfl);dsimp only at this;rw [smT_len] at this;exact this
theorem Rd3.check2 (h:Rd3 c1 c2 n p1 q2 rp kp a1 g b2 rc kc A1 A2 W) (er:Int) (he:(⟨(gateT 5).words,smT n,5⟩:Text).err=er):Calls Tryz.prog 33 #[.agg #[.slice (some ⟨g,0,none⟩) 8 8,.slice q2 n b2,.int .i64 5]] W fun e w'=>e=.returned (.int .i64 er)∧Below W.heap.size W w':=by
 have hl:=h.le;have:=Check_any ⟨(gateT 5).words,smT n,5⟩ (by show (8:Nat)≤_;omega) (by show (smT n).length≤_;rw [smT_len];omega) (some ⟨g,0,none⟩) q2 8 b2 W h.t2;rw [he] at this;dsimp only at this;rw [smT_len] at this;exact this
end
end Go.Proofs.YtadnggecnjdhiaaGreat
namespace Go.Proofs.YtadnggecnjdhiaaGreat.Rs
open Go Go.RowKit
theorem slotsB_of {ops:Array Oper} {n:Nat} {a0:Act} {dl:List (List Nat)} {ds:List (Option Nat)} (sz:Nat) (h:a0.tmps.size=sz) (hS:slotsB ops n sz dl ds=true):slotsB ops n a0.tmps.size dl ds=true:=by rw [h];exact hS
def splice:List Value→Nat→List Value→List Value
 | [],_,_=>[]
 | x::xs,d+1,vs=>x::splice xs d vs
 | _::xs,0,v::vs=>v::splice xs 0 vs
 | xs,0,[]=>xs
theorem splice_out:∀ (l:List Value) (d:Nat) (vs:List Value) (i:Nat),i<d∨d+vs.length≤i→(splice l d vs)[i]?=l[i]?
 | [],_,_,_,_=>rfl
 | x::xs,d+1,vs,0,_=>rfl
 | x::xs,d+1,vs,i+1,h=>by simpa [splice] using splice_out xs d vs i (by omega)
 | _::xs,0,v::vs,0,h=>by simp at h
 | _::xs,0,v::vs,i+1,h=>by simpa [splice] using splice_out xs 0 vs i (by simp at h;omega)
 | x::xs,0,[],i,_=>rfl
theorem splice_in:∀ (l:List Value) (d:Nat) (vs:List Value) (k:Nat),k<vs.length→d+k<l.length→(splice l d vs)[d+k]?=vs[k]?
 | [],_,_,_,_,h=>by simp at h
 | x::xs,d+1,vs,k,h,h2=>by rw [show d+1+k=(d+k)+1 by omega];simpa [splice] using splice_in xs d vs k h (by simp at h2;omega)
 | _::xs,0,v::vs,0,_,_=>rfl
 | _::xs,0,v::vs,k+1,h,h2=>by
  have:=splice_in xs 0 vs k (by simpa using h) (by simp at h2 ⊢;omega);rw [Nat.zero_add] at this ⊢;simpa [splice] using this
 | x::xs,0,[],k,h,_=>by simp at h
theorem canon_splice {ops:Array Oper} {n off:Nat} (hd:∀ k,k<n→dstOf ops k=some (off+k)) (V:Nat→Value) (l0:List Value) (df) (hn:off+n≤l0.length) :
  canon ops V ⟨l0.toArray,df⟩ (List.range n)=⟨(splice l0 off ((List.range n).map V)).toArray,df⟩:=by
 have h1:(canon ops V ⟨l0.toArray,df⟩ (List.range n)).tmps=(splice l0 off ((List.range n).map V)).toArray:=by
  apply Array.ext_getElem?;intro i;by_cases h:off≤i∧i<off+n
  ·obtain ⟨k,rfl⟩:∃ k,i=off+k:=⟨i-off,by omega⟩;rw [canon_in V (hd k (by omega)) _ _ (by simp;omega) (fun j hj hjk e=>hjk (by rw [hd j (by simpa using hj)] at e;simpa using e)) (by show _<l0.toArray.size;simp;omega)];rw [List.getElem?_toArray,splice_in _ _ _ k (by simp;omega) (by omega)];simp [show k<n by omega]
  ·rw [canon_out V _ _ (fun k hk=>by rw [hd k (by simpa using hk)];simp at hk ⊢;omega),List.getElem?_toArray,List.getElem?_toArray,splice_out _ _ _ i (by simp;omega)]
 have h2:=defers_canon (ops:=ops) V (List.range n) ⟨l0.toArray,df⟩;generalize canon ops V ⟨l0.toArray,df⟩ (List.range n)=a at h1 h2;cases a;simp only at h1 h2;rw [h1,h2]
def shapeD (ops:Array Oper) (n:Nat) (dl:List (List Nat)):Bool :=
 Region.noSelect ops&&decide (n≤ops.size)&&decide (dl.length=n) &&
 (decide (n=ops.size)||Region.sinkB .any ops n&&Region.chainB .any ops n) &&
 (List.range n).all (fun i=>match ops[i]? with
  | none=>false
  | some o=>o.after.toList.all (fun e=>!Region.binds .any e||decide (e.on<i))&&(dl.getD i []).all (fun k=>decide (k<n)&&o.after.toList.any fun e=>Region.binds .any e&&e.on == k) &&
   (List.range n).all (fun k=>match dstOf ops k with
    | none=>true
    | some d=>(!(o.looksAt ops).contains d||(dl.getD i []).contains k||i == k)&&(k == i||decide (dstOf ops i≠some d)))) &&
 Region.seqB .any ops (ops.size-n) n ((List.range ops.size).map (fun i=>decide (i<n))).toArray
theorem shapeB_of {ops:Array Oper} {n:Nat} {dl:List (List Nat)} (h:shapeD ops n dl=true):shapeB ops n dl=true:=by
 simp only [shapeD,shapeB,Bool.and_eq_true] at h ⊢;obtain ⟨⟨h1,h2⟩,h3⟩:=h;refine ⟨⟨h1,?_⟩,h3⟩;rw [List.all_eq_true] at h2 ⊢;intro i hi;have hb:=h2 i hi;have hn:0<n:=by have:=List.mem_range.1 hi;omega
 cases ho:ops[i]? with
 | none=>rw [ho] at hb;cases hb
 | some o =>
  rw [ho] at hb;simp only [Bool.and_eq_true] at hb ⊢;obtain ⟨⟨a,b⟩,c⟩:=hb;refine ⟨⟨a,?_⟩,?_⟩
  ·rw [List.all_eq_true] at b ⊢;intro k hk;have hk2:=b k hk;simp only [Bool.and_eq_true] at hk2 ⊢;refine ⟨hk2.1,?_⟩;obtain ⟨e,he,hek⟩:=List.any_eq_true.1 hk2.2;simp only [Bool.and_eq_true,beq_iff_eq] at hek;obtain ⟨m,rfl⟩:∃ m,n=m+1:=⟨n-1,by omega⟩;rw [List.contains_iff_mem];unfold depsOf;rw [ho];simp only [List.mem_flatMap,List.mem_filter];exact ⟨e,⟨he,hek.1⟩,by rw [hek.2];simp⟩
  ·rw [List.all_eq_true] at c ⊢;intro k hk;have hk2:=c k hk;cases hd:dstOf ops k with
   | none=>rfl
   | some d =>
    rw [hd] at hk2;simp only [Bool.and_eq_true,Bool.or_eq_true] at hk2 ⊢;refine ⟨?_,hk2.2⟩;rcases hk2.1 with (h | h) | h
    ·exact .inl (.inl (.inl h))
    ·exact .inl (.inl (.inr h))
    ·exact .inr h
theorem region_known {P:Program} {id:Nat} {l:List Oper} {w:World} {l0:List Value} {df} {Q:Exit→Act→World→Prop} (n off sz:Nat) (dl:List (List Nat)) (ds:List (Option Nat)) (Sp:Nat→List Value→Value→World→Prop) (Known:Act→Prop) (hk:Known ⟨l0.toArray,df⟩) (hm:P.follows .mixedOrders=true) (hsz:l0.length=sz) (hB:shapeB l.toArray n dl=true) (hS:slotsB l.toArray n sz dl ds=true) (hd:(decide (off+n≤sz)&&(List.range n).all fun k=>ds.getD k none == some (off+k))=true)
  (stable:∀ i L v w w',Sp i L v w→Gr w w'→Sp i L v w')
  (step:∀ a,Known a→Rg.genSteps Gr P ds a w dl Sp l 0 dl)
  (fin:∀ V w',Gr w w'→(∀ k,k<n→Sp k ((dl.getD k []).map V) (V k) w')→wpList P l.toArray Q (l.drop n) ⟨(splice l0 off ((List.range n).map V)).toArray,df⟩ w') :
  (Code.region id l.toArray true).wp P Q ⟨l0.toArray,df⟩ w:=by
 have hS':slotsB l.toArray n (Act.mk l0.toArray df).tmps.size dl ds=true:=by rw [show (Act.mk l0.toArray df).tmps.size=sz from hsz];exact hS
 rw [Bool.and_eq_true,decide_eq_true_eq,List.all_eq_true] at hd;have hdst:∀ k,k<n→dstOf l.toArray k=some (off+k):=fun k hk=>by
  unfold slotsB at hS;rw [List.all_eq_true] at hS;have h:=hS k (List.mem_range.2 hk);simp only [Bool.and_eq_true,beq_iff_eq] at h;have h2:=hd.2 k (List.mem_range.2 hk);rw [beq_iff_eq] at h2;rw [h.1.1,h2]
 refine region_gen n dl ds Sp hm hB hS' stable (step _ hk) fun V w' g s=>?_;rw [canon_splice hdst V l0 df (by rw [hsz];exact hd.1)];exact fin V w' g s
theorem region_cut {P:Program} {id:Nat} {l:List Oper} {w:World} {l0:List Value} {df} {K:Act→World→Prop} {Q':Exit→Act→World→Prop} (n off sz:Nat) (dl:List (List Nat)) (ds:List (Option Nat)) (Sp:Nat→List Value→Value→World→Prop) (Known:Act→Prop) (hk:Known ⟨l0.toArray,df⟩) (hm:P.follows .mixedOrders=true) (hsz:l0.length=sz) (hB:shapeD l.toArray n dl=true) (hS:slotsB l.toArray n sz dl ds=true) (hd:(decide (off+n≤sz)&&(List.range n).all fun k=>ds.getD k none == some (off+k))=true) (hl:l.drop n=[])
  (stable:∀ i L v w w',Sp i L v w→Gr w w'→Sp i L v w')
  (step:∀ a,Known a→Rg.genSteps Gr P ds a w dl Sp l 0 dl)
  (fin:∀ V w',Gr w w'→(∀ k,k<n→Sp k ((dl.getD k []).map V) (V k) w')→K ⟨(splice l0 off ((List.range n).map V)).toArray,df⟩ w') :
  (Code.region id l.toArray true).wp P (Exit.then K Q') ⟨l0.toArray,df⟩ w :=
 region_known n off sz dl ds Sp Known hk hm hsz (shapeB_of hB) hS hd stable step fun V w' g s=>by rw [hl];exact fin V w' g s
end Go.Proofs.YtadnggecnjdhiaaGreat.Rs
namespace Go.Proofs.YtadnggecnjdhiaaGreat
open Go.RowKit Tx
def sp55 (n:Nat) (p1 q2 rp kp:Option Addr) (a1 g b2 rc kc:Nat) (b9 b12 bb:Bool):Nat→List Value→Value→World→Prop
 | 0,_,v,_=>v=.agg #[.slice p1 n a1,.slice none 0 0,.int .i64 40]
 | 1,_,v,_=>v=.agg #[.int .i64 0,.int .i64 0]
 | 2,_,v,_=>v=.slice rp n rc
 | 3,_,v,_=>v=.bool true
 | 4,_,v,_=>v=.bool false
 | 5,_,v,_=>v=.bool false
 | 6,_,v,_=>v=.agg #[.slice p1 n a1,.slice none 0 0,.int .i64 40]
 | 7,_,v,_=>v=.slice rp n rc
 | 8,_,v,_=>v=.bool true
 | 9,_,v,_=>v=.bool false
 | 10,_,v,_=>v=.bool false
 | 11,_,v,_=>v=.bool false
 | 12,_,v,_=>v=.agg #[.slice p1 n a1,.slice none 0 0,.int .i64 40]
 | 13,_,v,_=>v=.slice kp n kc
 | 14,_,v,_=>v=.bool true
 | 15,_,v,_=>v=.bool false
 | 16,_,v,_=>v=.bool false
 | 17,_,v,_=>v=.bool false
 | 18,_,v,_=>v=.agg #[.slice (some ⟨g,0,none⟩) 8 8,.slice q2 n b2,.int .i64 5]
 | 19,_,v,_=>v=.agg #[.int .i64 3,.int .i64 7]
 | 20,_,v,w=>∃ p,v=.slice (some ⟨p,0,none⟩) 3 3∧Ints w (some ⟨p,0,none⟩) [2,4,2]
 | 21,_,v,_=>v=.bool true
 | 22,_,v,_=>v=.bool false
 | 23,_,v,_=>v=.bool false
 | 24,_,v,_=>v=.bool false
 | 25,_,v,_=>v=.agg #[.slice (some ⟨g,0,none⟩) 8 8,.slice q2 n b2,.int .i64 5]
 | 26,_,v,w=>∃ p,v=.slice (some ⟨p,0,none⟩) 3 3∧Ints w (some ⟨p,0,none⟩) [2,4,2]
 | 27,_,v,_=>v=.bool true
 | 28,_,v,_=>v=.bool false
 | 29,_,v,_=>v=.bool false
 | 30,_,v,_=>v=.bool false
 | 31,_,v,_=>v=.agg #[.slice (some ⟨g,0,none⟩) 8 8,.slice q2 n b2,.int .i64 5]
 | 32,_,v,_=>v=.bool true
 | 33,_,v,_=>v=.bool false
 | 34,_,v,_=>v=.bool false
 | 35,_,v,_=>v=.bool false
 | 36,_,v,_=>v=.int .i64 (n:Int)
 | 37,_,v,_=>v=.bool b9
 | 38,_,v,_=>v=.bool b9
 | 39,_,v,_=>v=if b9 then undef else .int .i64 (n:Int)
 | 40,_,v,_=>v=if b9 then undef else .bool b12
 | 41,_,v,_=>v=.bool bb
 | 42,_,v,_=>v=.bool bb
 | 43,_,v,_=>v=if bb then .agg #[.slice p1 n a1,.slice none 0 0,.int .i64 40] else undef
 | 44,_,v,_=>v=if bb then .int .i64 (n:Int) else undef
 | 45,_,v,_=>v=if bb then .int .i64 ((n:Int)+1) else undef
 | 46,_,v,w=>bb=true→∃ p,v=.slice (some ⟨p,0,none⟩) (n+1) (n+1)∧Ints w (some ⟨p,0,none⟩) (List.replicate (n+1) 0)
 | 47,_,v,_=>v=if bb then .bool true else undef
 | 48,_,v,_=>v=if bb then .bool false else undef
 | 49,_,v,_=>v=if bb then .bool false else undef
 | 50,_,v,_=>v=if bb then .agg #[.slice p1 n a1,.slice none 0 0,.int .i64 40] else undef
 | 51,_,v,_=>v=if bb then .bool true else undef
 | 52,_,v,_=>v=if bb then .bool false else undef
 | 53,_,v,_=>v=if bb then .bool false else undef
 | 54,_,v,_=>v=if bb then .bool false else undef
 | 55,_,v,_=>v=if bb then .agg #[.slice p1 n a1,.slice none 0 0,.int .i64 40] else undef
 | 56,_,v,_=>v=if bb then .bool true else undef
 | 57,_,v,_=>v=if bb then .bool false else undef
 | 58,_,v,_=>v=if bb then .bool false else undef
 | 59,_,v,_=>v=if bb then .bool false else undef
 | 60,_,v,_=>v=if bb then .agg #[.slice p1 n a1,.slice none 0 0,.int .i64 40] else undef
 | 61,_,v,_=>v=if bb then .int .i64 (n:Int) else undef
 | 62,_,v,_=>v=if bb then .bool true else undef
 | 63,_,v,_=>v=if bb then .bool false else undef
 | 64,_,v,_=>v=if bb then .bool false else undef
 | 65,_,v,_=>v=.bool false
 | 66,_,v,_=>v=.bool false
 | _,_,_,_=>False
theorem sp55_stable (n:Nat) (p1 q2 rp kp:Option Addr) (a1 g b2 rc kc:Nat) (b9 b12 bb:Bool):∀ i L v w w',sp55 n p1 q2 rp kp a1 g b2 rc kc b9 b12 bb i L v w→Rs.Gr w w'→sp55 n p1 q2 rp kp a1 g b2 rc kc b9 b12 bb i L v w':=by
 intro i L v w w' h hg
 match i with
 | 0=>exact h
 | 1=>exact h
 | 2=>exact h
 | 3=>exact h
 | 4=>exact h
 | 5=>exact h
 | 6=>exact h
 | 7=>exact h
 | 8=>exact h
 | 9=>exact h
 | 10=>exact h
 | 11=>exact h
 | 12=>exact h
 | 13=>exact h
 | 14=>exact h
 | 15=>exact h
 | 16=>exact h
 | 17=>exact h
 | 18=>exact h
 | 19=>exact h
 | 20=>obtain ⟨p,h1,h2⟩:=h;exact ⟨p,h1,h2.below hg⟩
 | 21=>exact h
 | 22=>exact h
 | 23=>exact h
 | 24=>exact h
 | 25=>exact h
 | 26=>obtain ⟨p,h1,h2⟩:=h;exact ⟨p,h1,h2.below hg⟩
 | 27=>exact h
 | 28=>exact h
 | 29=>exact h
 | 30=>exact h
 | 31=>exact h
 | 32=>exact h
 | 33=>exact h
 | 34=>exact h
 | 35=>exact h
 | 36=>exact h
 | 37=>exact h
 | 38=>exact h
 | 39=>exact h
 | 40=>exact h
 | 41=>exact h
 | 42=>exact h
 | 43=>exact h
 | 44=>exact h
 | 45=>exact h
 | 46=>intro hb;obtain ⟨p,h1,h2⟩:=h hb;exact ⟨p,h1,h2.below hg⟩
 | 47=>exact h
 | 48=>exact h
 | 49=>exact h
 | 50=>exact h
 | 51=>exact h
 | 52=>exact h
 | 53=>exact h
 | 54=>exact h
 | 55=>exact h
 | 56=>exact h
 | 57=>exact h
 | 58=>exact h
 | 59=>exact h
 | 60=>exact h
 | 61=>exact h
 | 62=>exact h
 | 63=>exact h
 | 64=>exact h
 | 65=>exact h
 | 66=>exact h
theorem key57 {n:Nat} {ew et:Int} (h1:(ew == 0)=(decide (0<n)&&decide (n<13))) (h2:(et == 0)=decide (n<7)):(¬ (0:Int)<n∧¬ ew=0∧et=0∧(n:Int)<7)∨((0:Int)<n∧(n:Int)<13∧ew=0∧et=0∧(n:Int)<7)∨((0:Int)<n∧(n:Int)<13∧ew=0∧¬ et=0∧¬ (n:Int)<7)∨((0:Int)<n∧¬ (n:Int)<13∧¬ ew=0∧¬ et=0∧¬ (n:Int)<7):=by
 have h1':ew=0↔(0<n∧n<13):=by rw [← beq_iff_eq (a:=ew),h1];simp
 have h2':et=0↔n<7:=by rw [← beq_iff_eq (a:=et),h2];simp
 omega
end Go.Proofs.YtadnggecnjdhiaaGreat
