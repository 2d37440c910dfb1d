/- TextSmall: its first loop. -/
import Derived.Test.YtadnggecnjdhiaaGreatYf
import Derived.Deep.CutBlock
set_option linter.unusedSimpArgs false
set_option linter.unusedVariables false
namespace Go.Proofs.YtadnggecnjdhiaaGreat
open Go.RowKit Tx
def frs:Nat→Nat→(Nat→Value)→List Value
 | 0,_,_=>[]
 | n+1,i,V=>V i::frs n (i+1) V
theorem frs_of:∀ (l:List Value) (i:Nat) (V:Nat→Value),(∀ k,k<l.length→V (i+k)=l.getD k undef)→l=frs l.length i V
 | [],_,_,_=>rfl
 | x::l,i,V,h=>by
  have h0:=h 0 (by simp);have hl:=frs_of l (i+1) V fun k hk=>by rw [show i+1+k=i+(k+1) by omega];simpa using h (k+1) (by simpa using hk)
  simp only [List.length_cons,frs];rw [← hl]
  simpa using h0.symm
def fr (V:Nat→Value):Act:=⟨(frs 464 0 V).toArray,[]⟩
theorem fr_of (l:List Value) (h:l.length=464):(⟨l.toArray,[]⟩:Act)=fr fun i=>l.getD i undef:=by
 have:=frs_of l 0 (fun i=>l.getD i undef) fun k _=>by rw [Nat.zero_add]
 rw [h] at this;unfold fr;rw [← this]
theorem seq_fr {P:Program} {A B:Code} {Q:Exit→Act→World→Prop} {a:Act} {w:World} (R:World→Prop) (first:∀ K:Act→World→Prop,(∀ l:List Value,l.length=464→∀ w',R w'→K ⟨l.toArray,[]⟩ w')→A.wp P (Exit.then K Q) a w) (rest:∀ V w',R w'→B.wp P Q (fr V) w'):(A.seq B).wp P Q a w :=
 wp_seq (first _ fun l hl w' h=>by rw [fr_of l hl];exact rest _ _ h)
def hdC:Code→Code
 | .seq a _=>a
 | c=>c
def tlC:Code→Code
 | .seq _ b=>b
 | c=>c
end Go.Proofs.YtadnggecnjdhiaaGreat
set_option linter.unusedSimpArgs false
set_option linter.unusedVariables false
namespace Go.Proofs.YtadnggecnjdhiaaGreat
open Go.RowKit Tx
def tsV:List Int:=[-9223372036854775808,-1,0,1,2,4,7,8,9,10,12,13,20,21,40,41,99,100,101,9223372036854775807]
def laidW (W0:World) (g u:Nat):World:=(((((((W0.alloc (.cells #[.int .i64 4,.int .i64 2,.int .i64 2] 3)).alloc (.cells #[.int .i64 0,.int .i64 1,.int .i64 1,.int .i64 1,.int .i64 1,.int .i64 1,.int .i64 2,.int .i64 2,.int .i64 3] 3)).alloc (.cells #[.int .i64 1,.int .i64 3,.int .i64 5] 3)).alloc (.cells #[.slice (some ⟨g,0,none⟩) 8 8,.slice (some ⟨u,0,none⟩) 1 1,.int .i64 5] 25)).alloc (.cells #[.int .i64 4,.int .i64 7] 58)).alloc (.cells #[.int .i64 2] 3)).alloc (.cells #[.int .i64 7] 3))
theorem sh_at {W:World} {b:Nat} {T:TypeId} {l:List Value} (h:W.heap[b]?=some (.cells l.toArray T (0,0))):Sh W b T (l.map kdV):=⟨_,h,rfl⟩
theorem al_last (W:World) (o:Obj) (k:Nat) (h:k=W.heap.size):(W.alloc o).heap[k]?=some o:=by subst h;exact heap_last W o
theorem laid_of {w2 W0:World} {g u:Nat} (hg:w2.heap.size≤g) (hgu:g<u) (xg:W0.heap[g]?=some (.cells #[.int .i64 1,.int .i64 0,.bool false,.int .i64 1,.int .i64 4,.bool true,.int .i64 1,.int .i64 0,.bool false,.int .i64 1,.int .i64 3,.bool true,.int .i64 1,.int .i64 3,.bool false,.int .i64 1,.int .i64 3,.bool true,.int .i64 1,.int .i64 0,.bool false,.int .i64 1,.int .i64 2,.bool true] 61 (0,0)))
  (xu:W0.heap[u]?=some (.cells #[.int .i64 3,.int .i64 4,.int .i64 7] 63 (0,0))) (hB:Below w2.heap.size w2 W0):Laid w2 g u W0.heap.size (laidW W0 g u):=by
 have hu:=(Array.getElem?_eq_some_iff.1 xu).1;have hz:=hB.size;unfold laidW;have hB7:Below w2.heap.size w2 (laidW W0 g u):=by
  unfold laidW;exact al2 (al2 (al2 (al2 (al2 (al2 (al2 hB (by omega) _) (by simp;omega) _) (by simp;omega) _) (by simp;omega) _) (by simp;omega) _) (by simp;omega) _) (by simp;omega) _
 unfold laidW at hB7;refine ⟨hg,hgu,hu,?_,?_,?_,?_,?_,⟨5,?_⟩,?_,?_,?_,hB7⟩
 ·exact sh_at (l:=[.int .i64 1,.int .i64 0,.bool false,.int .i64 1,.int .i64 4,.bool true,.int .i64 1,.int .i64 0,.bool false,.int .i64 1,.int .i64 3,.bool true,.int .i64 1,.int .i64 3,.bool false,.int .i64 1,.int .i64 3,.bool true,.int .i64 1,.int .i64 0,.bool false,.int .i64 1,.int .i64 2,.bool true]) (by
   iterate 7 refine (Below.heap_alloc _ _ _ (by first | omega | (simp;done) | (simp;omega))).trans ?_
   exact xg)
 ·exact sh_at (l:=[.int .i64 3,.int .i64 4,.int .i64 7]) (by
   iterate 7 refine (Below.heap_alloc _ _ _ (by first | omega | (simp;done) | (simp;omega))).trans ?_
   exact xu)
 ·exact sh_at (l:=[.int .i64 4,.int .i64 2,.int .i64 2]) (by
   iterate 6 refine (Below.heap_alloc _ _ _ (by first | omega | (simp;done) | (simp;omega))).trans ?_
   exact al_last _ _ _ (by first | rfl | (simp;done)))
 ·exact sh_at (l:=[.int .i64 0,.int .i64 1,.int .i64 1,.int .i64 1,.int .i64 1,.int .i64 1,.int .i64 2,.int .i64 2,.int .i64 3]) (by
   iterate 5 refine (Below.heap_alloc _ _ _ (by first | omega | (simp;done) | (simp;omega))).trans ?_
   exact al_last _ _ _ (by first | rfl | (simp;done)))
 ·exact sh_at (l:=[.int .i64 1,.int .i64 3,.int .i64 5]) (by
   iterate 4 refine (Below.heap_alloc _ _ _ (by first | omega | (simp;done) | (simp;omega))).trans ?_
   exact al_last _ _ _ (by first | rfl | (simp;done)))
 ·iterate 3 refine (Below.heap_alloc _ _ _ (by first | omega | (simp;done) | (simp;omega))).trans ?_
  exact al_last _ _ _ (by first | rfl | (simp;done))
 ·exact sh_at (l:=[.int .i64 4,.int .i64 7]) (by
   iterate 2 refine (Below.heap_alloc _ _ _ (by first | omega | (simp;done) | (simp;omega))).trans ?_
   exact al_last _ _ _ (by first | rfl | (simp;done)))
 ·exact sh_at (l:=[.int .i64 2]) (by
   iterate 1 refine (Below.heap_alloc _ _ _ (by first | omega | (simp;done) | (simp;omega))).trans ?_
   exact al_last _ _ _ (by first | rfl | (simp;done)))
 ·exact sh_at (l:=[.int .i64 7]) (by
   exact al_last _ _ _ (by first | rfl | (simp;done)))
def spTs (g u s B:Nat):Nat→List Value→Value→World→Prop
 | 0,_,v,_=>v=.pointer (some ⟨s+3,2,none⟩)
 | 1,_,v,_=>v=.pointer (some ⟨s+3,0,none⟩)
 | 2,_,v,_=>v=.slice (some ⟨g,0,none⟩) 8 8
 | 3,_,v,_=>v=.pointer (some ⟨g,9,none⟩)
 | 4,_,v,_=>v=.pointer (some ⟨g,9,none⟩)
 | 5,_,v,_=>v=.pointer (some ⟨s+3,0,none⟩)
 | 6,_,v,_=>v=.slice (some ⟨g,0,none⟩) 8 8
 | 7,_,v,_=>v=.pointer (some ⟨g,3,none⟩)
 | 8,_,v,_=>v=.pointer (some ⟨g,4,none⟩)
 | 9,_,v,_=>v=.pointer (some ⟨s+3,1,none⟩)
 | 10,_,v,_=>v=.slice (some ⟨u,0,none⟩) 1 1
 | 11,_,v,_=>v=.pointer (some ⟨u,0,none⟩)
 | 12,_,v,_=>v=.pointer (some ⟨u,0,none⟩)
 | 13,_,v,_=>v=.pointer (some ⟨s+3,1,none⟩)
 | 14,_,v,_=>v=.slice (some ⟨u,0,none⟩) 1 1
 | 15,_,v,_=>v=.pointer (some ⟨u,0,none⟩)
 | 16,_,v,_=>v=.pointer (some ⟨u,1,none⟩)
 | 17,_,v,_=>v=.pointer (some ⟨u,1,none⟩)
 | 18,_,v,_=>v=.pointer (some ⟨s+3,1,none⟩)
 | 19,_,v,_=>v=.slice (some ⟨u,0,none⟩) 1 1
 | 20,_,v,_=>v=.pointer (some ⟨u,0,none⟩)
 | 21,_,v,_=>v=.pointer (some ⟨u,1,none⟩)
 | 22,_,v,_=>v=.pointer (some ⟨u,2,none⟩)
 | 23,_,v,_=>v=.slice (some ⟨s,0,none⟩) 3 3
 | 24,_,v,_=>v=.pointer (some ⟨s,0,none⟩)
 | 25,_,v,_=>v=.slice (some ⟨s,0,none⟩) 3 3
 | 26,_,v,_=>v=.pointer (some ⟨s,2,none⟩)
 | 27,_,v,_=>v=.slice (some ⟨s+1,0,none⟩) 9 9
 | 28,_,v,_=>v=.pointer (some ⟨s+1,0,none⟩)
 | 29,_,v,_=>v=.slice (some ⟨s+1,0,none⟩) 9 9
 | 30,_,v,_=>v=.pointer (some ⟨s+1,8,none⟩)
 | 31,_,v,_=>v=.slice (some ⟨s+2,0,none⟩) 3 3
 | 32,_,v,_=>v=.pointer (some ⟨s+2,0,none⟩)
 | 33,_,v,_=>v=.slice (some ⟨s+2,0,none⟩) 3 3
 | 34,_,v,_=>v=.pointer (some ⟨s+2,2,none⟩)
 | 35,_,v,_=>v=.pointer (some ⟨s+4,0,none⟩)
 | 36,_,v,_=>v=.pointer (some ⟨s+4,1,none⟩)
 | 37,L,v,w=>∃ p,v=.slice (some ⟨p,0,none⟩) 16 16∧B≤p∧w.heap[p]?=some (.cells ((tsP g u s).map ptr).toArray 59 (0,0))
 | _,_,_,_=>False
theorem spTs_stable (g u s B:Nat):∀ i L v w w',spTs g u s B i L v w→Rs.Gr w w'→spTs g u s B i L v w':=by
 intro i L v w w' h hg
 match i with
 | 0=>exact h
 | 1=>exact h
 | 2=>exact h
 | 3=>exact h
 | 4=>exact h
 | 5=>exact h
 | 6=>exact h
 | 7=>exact h
 | 8=>exact h
 | 9=>exact h
 | 10=>exact h
 | 11=>exact h
 | 12=>exact h
 | 13=>exact h
 | 14=>exact h
 | 15=>exact h
 | 16=>exact h
 | 17=>exact h
 | 18=>exact h
 | 19=>exact h
 | 20=>exact h
 | 21=>exact h
 | 22=>exact h
 | 23=>exact h
 | 24=>exact h
 | 25=>exact h
 | 26=>exact h
 | 27=>exact h
 | 28=>exact h
 | 29=>exact h
 | 30=>exact h
 | 31=>exact h
 | 32=>exact h
 | 33=>exact h
 | 34=>exact h
 | 35=>exact h
 | 36=>exact h
 | 37=>obtain ⟨p,h1,h2,h3⟩:=h;exact ⟨p,h1,h2,(hg.block p (Array.getElem?_eq_some_iff.1 h3).1).trans h3⟩
set_option maxHeartbeats 400000000 in
set_option maxRecDepth 1000000 in
theorem TextSmall_one (w:World) (V:Nat→Value) {K:Act→World→Prop} {Q':Exit→Act→World→Prop} (hK:∀ l:List Value,l.length=464→∀ w',Below w.heap.size w w'→K ⟨l.toArray,[]⟩ w'):(hdC (tlC (Tryz.f4.body.getD .ret))).wp Tryz.prog (Exit.then K Q') (fr V) w:=by
 have HK:=Lib.hid hK;clear hK;simp only [hdC,tlC,Tryz.f4,Option.getD];dsimp only [fr,frs,Nat.reduceAdd]
 go_upto_block 0 with fail
 have hrow:=heap_last w (.cells (tsV.map (Value.int .i64)).toArray 3);have HB0:=Lib.hid (below1 w (.cells (tsV.map (Value.int .i64)).toArray 3));have HROW:=Lib.hid hrow;clear hrow;go_wp2_with fail
 go_loopw [32] (fun i wr=>∃ n:Nat,n≤20∧i=.int .i64 n∧Below w.heap.size w wr∧wr.heap[w.heap.size]?=some (.cells (tsV.map (Value.int .i64)).toArray 3 (0,0))) (fun i _=>20-(intOf i).toNat)
 case atStart=>exact ⟨0,by omega,rfl,HB0.out,HROW.out⟩
 case round =>
  obtain ⟨w1,rfl⟩:∃ w1:World,w1=wr:=⟨_,rfl⟩;obtain ⟨n,hn,rfl,hB,hx⟩:=hrel;have HB1:=Lib.hid hB;have HX1:=Lib.hid hx;clear hB hx HB0 HROW;by_cases hlt:n<20
  ·have hlt':(n:Int)<20:=by omega
   obtain ⟨vz,hvz⟩:∃ vz:Int,vz=tsV.getD n 0:=⟨_,rfl⟩;have hc:=blk_cells HX1.out n (.int .i64 vz) (by rw [hvz];have:n<tsV.length:=hlt;simp [this]);clear hvz
   go_upto_block 1 with fail
   go_cut [2,3,4,5,6,7,8,9,10,11] from 34 to 132 (fun _ _ _ _ _ _ _ _ _ _ wx=>∃ wz:World,wz=wx∧Below w.heap.size w wz∧wz.heap[w.heap.size]?=some (.cells (tsV.map (Value.int .i64)).toArray 3 (0,0)))
   case first =>
    skip
    go_wp2_with fail
    go_loopw [36] (fun i wr=>∃ k:Nat,k≤16∧i=.int .i64 k∧Below w.heap.size w wr∧wr.heap[w.heap.size]?=some (.cells (tsV.map (Value.int .i64)).toArray 3 (0,0))) (fun i _=>16-(intOf i).toNat)
    case atStart=>exact ⟨0,by omega,rfl,HB1.out,HX1.out⟩
    case round =>
     clear hc HB1 HX1;obtain ⟨w2,rfl⟩:∃ w2:World,w2=wr:=⟨_,rfl⟩;obtain ⟨k,hk,rfl,hB,hx⟩:=hrel;have HB2:=Lib.hid hB;have HX2:=Lib.hid hx;clear hB hx;by_cases hlk:k<16
     ·have hlk':(k:Int)<16:=by omega
      go_wp2_with fail
      refine (Gate_blk 7 w2).mono ?_;rintro e W0 ⟨g,u,rfl,hg,hgu,xg,xu,hBg⟩;have HL:=Lib.hid (laid_of hg hgu xg xu hBg);have hsz:(laidW W0 g u).heap.size=W0.heap.size+7:=by simp [laidW]
      clear hg hgu xg xu hBg
      go_upto_region 9 with fail
      obtain ⟨s,hs⟩:∃ s,s=W0.heap.size:=⟨_,rfl⟩;obtain ⟨W3,hW3⟩:∃ W3,W3=laidW W0 g u:=⟨_,rfl⟩;rw [← hW3] at HL hsz;unfold laidW at hW3;rw [← hW3];rw [← hs] at HL hsz ⊢;clear hW3 hs;have hb3:s+3<W3.heap.size:=by omega
      obtain ⟨br,hxt⟩:=HL.out.xt;have HXT:=Lib.hid hxt;clear hxt;refine Rs.region_known 38 44 464 [[],[],[1],[1,2],[1,2,3],[],[5],[5,6],[5,6,7],[],[9],[9,10],[9,10,11],[],[13],[13,14],[13,14,15],[13,14,15,16],[],[18],[18,19],[18,19,20],[18,19,20,21],[],[23],[],[25],[],[27],[],[29],[],[31],[],[33],[],[],[0,1,2,3,4,5,6,7,8,9,10,11,12,13,14,15,16,17,18,19,20,21,22,23,24,25,26,27,28,29,30,31,32,33,34,35,36]] [some 44,some 45,some 46,some 47,some 48,some 49,some 50,some 51,some 52,some 53,some 54,some 55,some 56,some 57,some 58,some 59,some 60,some 61,some 62,some 63,some 64,some 65,some 66,some 67,some 68,some 69,some 70,some 71,some 72,some 73,some 74,some 75,some 76,some 77,some 78,some 79,some 80,some 81] (spTs g u s W3.heap.size) (fun a=>a.tmps[4]?=some (.pointer (some ⟨s+3,0,none⟩))∧a.tmps[5]?=some (.slice (some ⟨s,0,none⟩) 3 3)∧a.tmps[6]?=some (.slice (some ⟨s+1,0,none⟩) 9 9)∧a.tmps[7]?=some (.slice (some ⟨s+2,0,none⟩) 3 3)∧a.tmps[8]?=some (.pointer (some ⟨s+4,0,none⟩))∧a.tmps[9]?=some (.pointer (some ⟨s+5,0,none⟩))∧a.tmps[10]?=some (.pointer (some ⟨s+6,0,none⟩))) ⟨rfl,rfl,rfl,rfl,rfl,rfl,rfl⟩ (by decide +kernel) rfl (by decide +kernel) (by decide +kernel) (by decide +kernel) (spTs_stable _ _ _ _) ?_ ?_
      ·rintro a ⟨t4,t5,t6,t7,t8,t9,t10⟩;refine ⟨fun V w' hG hs=>?_,fun V w' hG hs=>?_,fun V w' hG hs=>?_,fun V w' hG hs=>?_,fun V w' hG hs=>?_,fun V w' hG hs=>?_,fun V w' hG hs=>?_,fun V w' hG hs=>?_,fun V w' hG hs=>?_,fun V w' hG hs=>?_,fun V w' hG hs=>?_,fun V w' hG hs=>?_,fun V w' hG hs=>?_,fun V w' hG hs=>?_,fun V w' hG hs=>?_,fun V w' hG hs=>?_,fun V w' hG hs=>?_,fun V w' hG hs=>?_,fun V w' hG hs=>?_,fun V w' hG hs=>?_,fun V w' hG hs=>?_,fun V w' hG hs=>?_,fun V w' hG hs=>?_,fun V w' hG hs=>?_,fun V w' hG hs=>?_,fun V w' hG hs=>?_,fun V w' hG hs=>?_,fun V w' hG hs=>?_,fun V w' hG hs=>?_,fun V w' hG hs=>?_,fun V w' hG hs=>?_,fun V w' hG hs=>?_,fun V w' hG hs=>?_,fun V w' hG hs=>?_,fun V w' hG hs=>?_,fun V w' hG hs=>?_,fun V w' hG hs=>?_,fun V w' hG hs=>?_,trivial⟩
       all_goals
        obtain ⟨k0,k1,k2⟩:=blk3 ((hG.block (s+3) hb3).trans HXT.out)
       ·rw [if_pos (by rfl)];exact Rs.GrowL.value (v:=.pointer (some ⟨s+3,2,none⟩)) (w':=w') (by simp [go_sem,Rs.look,t4]) (Rs.Gr.refl _) rfl
       ·rw [if_pos (by rfl)];exact Rs.GrowL.value (v:=.pointer (some ⟨s+3,0,none⟩)) (w':=w') (by simp [go_sem,Rs.look,t4]) (Rs.Gr.refl _) rfl
       ·have e1:V 1=_:=hs 1 (by simp);rw [if_pos (by rfl)];exact Rs.GrowL.value (v:=.slice (some ⟨g,0,none⟩) 8 8) (w':=w') (by simp [go_sem,Rs.look,e1,k0]) (Rs.Gr.refl _) rfl
       ·have e1:V 1=_:=hs 1 (by simp);have e2:V 2=_:=hs 2 (by simp);rw [if_pos (by rfl)];exact Rs.GrowL.value (v:=.pointer (some ⟨g,9,none⟩)) (w':=w') (by simp [go_sem,Rs.look,e1,e2]) (Rs.Gr.refl _) rfl
       ·have e1:V 1=_:=hs 1 (by simp);have e2:V 2=_:=hs 2 (by simp);have e3:V 3=_:=hs 3 (by simp);rw [if_pos (by rfl)];exact Rs.GrowL.value (v:=.pointer (some ⟨g,9,none⟩)) (w':=w') (by simp [go_sem,Rs.look,e1,e2,e3]) (Rs.Gr.refl _) rfl
       ·rw [if_pos (by rfl)];exact Rs.GrowL.value (v:=.pointer (some ⟨s+3,0,none⟩)) (w':=w') (by simp [go_sem,Rs.look,t4]) (Rs.Gr.refl _) rfl
       ·have e5:V 5=_:=hs 5 (by simp);rw [if_pos (by rfl)];exact Rs.GrowL.value (v:=.slice (some ⟨g,0,none⟩) 8 8) (w':=w') (by simp [go_sem,Rs.look,e5,k0]) (Rs.Gr.refl _) rfl
       ·have e5:V 5=_:=hs 5 (by simp);have e6:V 6=_:=hs 6 (by simp);rw [if_pos (by rfl)];exact Rs.GrowL.value (v:=.pointer (some ⟨g,3,none⟩)) (w':=w') (by simp [go_sem,Rs.look,e5,e6]) (Rs.Gr.refl _) rfl
       ·have e5:V 5=_:=hs 5 (by simp);have e6:V 6=_:=hs 6 (by simp);have e7:V 7=_:=hs 7 (by simp);rw [if_pos (by rfl)];exact Rs.GrowL.value (v:=.pointer (some ⟨g,4,none⟩)) (w':=w') (by simp [go_sem,Rs.look,e5,e6,e7]) (Rs.Gr.refl _) rfl
       ·rw [if_pos (by rfl)];exact Rs.GrowL.value (v:=.pointer (some ⟨s+3,1,none⟩)) (w':=w') (by simp [go_sem,Rs.look,t4]) (Rs.Gr.refl _) rfl
       ·have e9:V 9=_:=hs 9 (by simp);rw [if_pos (by rfl)];exact Rs.GrowL.value (v:=.slice (some ⟨u,0,none⟩) 1 1) (w':=w') (by simp [go_sem,Rs.look,e9,k1]) (Rs.Gr.refl _) rfl
       ·have e9:V 9=_:=hs 9 (by simp);have e10:V 10=_:=hs 10 (by simp);rw [if_pos (by rfl)];exact Rs.GrowL.value (v:=.pointer (some ⟨u,0,none⟩)) (w':=w') (by simp [go_sem,Rs.look,e9,e10]) (Rs.Gr.refl _) rfl
       ·have e9:V 9=_:=hs 9 (by simp);have e10:V 10=_:=hs 10 (by simp);have e11:V 11=_:=hs 11 (by simp);rw [if_pos (by rfl)];exact Rs.GrowL.value (v:=.pointer (some ⟨u,0,none⟩)) (w':=w') (by simp [go_sem,Rs.look,e9,e10,e11]) (Rs.Gr.refl _) rfl
       ·rw [if_pos (by rfl)];exact Rs.GrowL.value (v:=.pointer (some ⟨s+3,1,none⟩)) (w':=w') (by simp [go_sem,Rs.look,t4]) (Rs.Gr.refl _) rfl
       ·have e13:V 13=_:=hs 13 (by simp);rw [if_pos (by rfl)];exact Rs.GrowL.value (v:=.slice (some ⟨u,0,none⟩) 1 1) (w':=w') (by simp [go_sem,Rs.look,e13,k1]) (Rs.Gr.refl _) rfl
       ·have e13:V 13=_:=hs 13 (by simp);have e14:V 14=_:=hs 14 (by simp);rw [if_pos (by rfl)];exact Rs.GrowL.value (v:=.pointer (some ⟨u,0,none⟩)) (w':=w') (by simp [go_sem,Rs.look,e13,e14]) (Rs.Gr.refl _) rfl
       ·have e13:V 13=_:=hs 13 (by simp);have e14:V 14=_:=hs 14 (by simp);have e15:V 15=_:=hs 15 (by simp);rw [if_pos (by rfl)];exact Rs.GrowL.value (v:=.pointer (some ⟨u,1,none⟩)) (w':=w') (by simp [go_sem,Rs.look,e13,e14,e15]) (Rs.Gr.refl _) rfl
       ·have e13:V 13=_:=hs 13 (by simp);have e14:V 14=_:=hs 14 (by simp);have e15:V 15=_:=hs 15 (by simp);have e16:V 16=_:=hs 16 (by simp);rw [if_pos (by rfl)];exact Rs.GrowL.value (v:=.pointer (some ⟨u,1,none⟩)) (w':=w') (by simp [go_sem,Rs.look,e13,e14,e15,e16]) (Rs.Gr.refl _) rfl
       ·rw [if_pos (by rfl)];exact Rs.GrowL.value (v:=.pointer (some ⟨s+3,1,none⟩)) (w':=w') (by simp [go_sem,Rs.look,t4]) (Rs.Gr.refl _) rfl
       ·have e18:V 18=_:=hs 18 (by simp);rw [if_pos (by rfl)];exact Rs.GrowL.value (v:=.slice (some ⟨u,0,none⟩) 1 1) (w':=w') (by simp [go_sem,Rs.look,e18,k1]) (Rs.Gr.refl _) rfl
       ·have e18:V 18=_:=hs 18 (by simp);have e19:V 19=_:=hs 19 (by simp);rw [if_pos (by rfl)];exact Rs.GrowL.value (v:=.pointer (some ⟨u,0,none⟩)) (w':=w') (by simp [go_sem,Rs.look,e18,e19]) (Rs.Gr.refl _) rfl
       ·have e18:V 18=_:=hs 18 (by simp);have e19:V 19=_:=hs 19 (by simp);have e20:V 20=_:=hs 20 (by simp);rw [if_pos (by rfl)];exact Rs.GrowL.value (v:=.pointer (some ⟨u,1,none⟩)) (w':=w') (by simp [go_sem,Rs.look,e18,e19,e20]) (Rs.Gr.refl _) rfl
       ·have e18:V 18=_:=hs 18 (by simp);have e19:V 19=_:=hs 19 (by simp);have e20:V 20=_:=hs 20 (by simp);have e21:V 21=_:=hs 21 (by simp);rw [if_pos (by rfl)];exact Rs.GrowL.value (v:=.pointer (some ⟨u,2,none⟩)) (w':=w') (by simp [go_sem,Rs.look,e18,e19,e20,e21]) (Rs.Gr.refl _) rfl
       ·rw [if_pos (by rfl)];exact Rs.GrowL.value (v:=.slice (some ⟨s,0,none⟩) 3 3) (w':=w') (by simp [go_sem,Rs.look,t5]) (Rs.Gr.refl _) rfl
       ·have e23:V 23=_:=hs 23 (by simp);rw [if_pos (by rfl)];exact Rs.GrowL.value (v:=.pointer (some ⟨s,0,none⟩)) (w':=w') (by simp [go_sem,Rs.look,e23]) (Rs.Gr.refl _) rfl
       ·rw [if_pos (by rfl)];exact Rs.GrowL.value (v:=.slice (some ⟨s,0,none⟩) 3 3) (w':=w') (by simp [go_sem,Rs.look,t5]) (Rs.Gr.refl _) rfl
       ·have e25:V 25=_:=hs 25 (by simp);rw [if_pos (by rfl)];exact Rs.GrowL.value (v:=.pointer (some ⟨s,2,none⟩)) (w':=w') (by simp [go_sem,Rs.look,e25]) (Rs.Gr.refl _) rfl
       ·rw [if_pos (by rfl)];exact Rs.GrowL.value (v:=.slice (some ⟨s+1,0,none⟩) 9 9) (w':=w') (by simp [go_sem,Rs.look,t6]) (Rs.Gr.refl _) rfl
       ·have e27:V 27=_:=hs 27 (by simp);rw [if_pos (by rfl)];exact Rs.GrowL.value (v:=.pointer (some ⟨s+1,0,none⟩)) (w':=w') (by simp [go_sem,Rs.look,e27]) (Rs.Gr.refl _) rfl
       ·rw [if_pos (by rfl)];exact Rs.GrowL.value (v:=.slice (some ⟨s+1,0,none⟩) 9 9) (w':=w') (by simp [go_sem,Rs.look,t6]) (Rs.Gr.refl _) rfl
       ·have e29:V 29=_:=hs 29 (by simp);rw [if_pos (by rfl)];exact Rs.GrowL.value (v:=.pointer (some ⟨s+1,8,none⟩)) (w':=w') (by simp [go_sem,Rs.look,e29]) (Rs.Gr.refl _) rfl
       ·rw [if_pos (by rfl)];exact Rs.GrowL.value (v:=.slice (some ⟨s+2,0,none⟩) 3 3) (w':=w') (by simp [go_sem,Rs.look,t7]) (Rs.Gr.refl _) rfl
       ·have e31:V 31=_:=hs 31 (by simp);rw [if_pos (by rfl)];exact Rs.GrowL.value (v:=.pointer (some ⟨s+2,0,none⟩)) (w':=w') (by simp [go_sem,Rs.look,e31]) (Rs.Gr.refl _) rfl
       ·rw [if_pos (by rfl)];exact Rs.GrowL.value (v:=.slice (some ⟨s+2,0,none⟩) 3 3) (w':=w') (by simp [go_sem,Rs.look,t7]) (Rs.Gr.refl _) rfl
       ·have e33:V 33=_:=hs 33 (by simp);rw [if_pos (by rfl)];exact Rs.GrowL.value (v:=.pointer (some ⟨s+2,2,none⟩)) (w':=w') (by simp [go_sem,Rs.look,e33]) (Rs.Gr.refl _) rfl
       ·rw [if_pos (by rfl)];exact Rs.GrowL.value (v:=.pointer (some ⟨s+4,0,none⟩)) (w':=w') (by simp [go_sem,Rs.look,t8]) (Rs.Gr.refl _) rfl
       ·rw [if_pos (by rfl)];exact Rs.GrowL.value (v:=.pointer (some ⟨s+4,1,none⟩)) (w':=w') (by simp [go_sem,Rs.look,t8]) (Rs.Gr.refl _) rfl
       ·have e0:V 0=_:=hs 0 (by simp);have e1:V 1=_:=hs 1 (by simp);have e2:V 2=_:=hs 2 (by simp);have e3:V 3=_:=hs 3 (by simp);have e4:V 4=_:=hs 4 (by simp);have e5:V 5=_:=hs 5 (by simp);have e6:V 6=_:=hs 6 (by simp);have e7:V 7=_:=hs 7 (by simp);have e8:V 8=_:=hs 8 (by simp);have e9:V 9=_:=hs 9 (by simp);have e10:V 10=_:=hs 10 (by simp);have e11:V 11=_:=hs 11 (by simp);have e12:V 12=_:=hs 12 (by simp);have e13:V 13=_:=hs 13 (by simp);have e14:V 14=_:=hs 14 (by simp);have e15:V 15=_:=hs 15 (by simp);have e16:V 16=_:=hs 16 (by simp);have e17:V 17=_:=hs 17 (by simp);have e18:V 18=_:=hs 18 (by simp);have e19:V 19=_:=hs 19 (by simp);have e20:V 20=_:=hs 20 (by simp);have e21:V 21=_:=hs 21 (by simp);have e22:V 22=_:=hs 22 (by simp);have e23:V 23=_:=hs 23 (by simp);have e24:V 24=_:=hs 24 (by simp);have e25:V 25=_:=hs 25 (by simp);have e26:V 26=_:=hs 26 (by simp);have e27:V 27=_:=hs 27 (by simp);have e28:V 28=_:=hs 28 (by simp);have e29:V 29=_:=hs 29 (by simp);have e30:V 30=_:=hs 30 (by simp);have e31:V 31=_:=hs 31 (by simp);have e32:V 32=_:=hs 32 (by simp);have e33:V 33=_:=hs 33 (by simp);have e34:V 34=_:=hs 34 (by simp);have e35:V 35=_:=hs 35 (by simp);have e36:V 36=_:=hs 36 (by simp);rw [if_pos (by rfl)];exact Rs.GrowL.value (v:=.slice (some ⟨w'.heap.size,0,none⟩) 16 16) (w':=w'.alloc (.cells ((tsP g u s).map ptr).toArray 59)) (by simp (maxSteps:=5000000) [go_sem,Rs.look,t9,t10,tsP,ptr,e0,e4,e8,e12,e17,e22,e24,e26,e28,e30,e32,e34,e35,e36]) (below1 _ _) ⟨_,rfl,hG.size,heap_last _ _⟩
      ·intro V w' hG hs;obtain ⟨pp,e37,hpp,xpp⟩:=hs 37 (by omega);clear hs;simp only [Rs.splice,List.range_succ,List.range_zero,List.nil_append,List.cons_append,List.map_cons,List.map_nil,List.drop_succ_cons,List.drop_zero];rw [e37];clear e37;have HL:=Lib.hid (HL.out.below hG);have hzg:=hG.size;have hpl:pp<w'.heap.size:=(Array.getElem?_eq_some_iff.1 xpp).1;clear hG HXT;have hcp:w'.cell? ⟨pp,k,none⟩=some (ptr ((tsP g u s).getD k (0,0))):=blk_cells xpp k _ (by
        have h16:k<(tsP g u s).length:=hlk;simp [h16])
       have hmem:(tsP g u s).getD k (0,0)∈tsP g u s:=getD_mem (0,0) hlk;generalize (tsP g u s).getD k (0,0)=tp at hcp hmem;obtain ⟨tb,tofs⟩:=tp;obtain ⟨⟨oz,hoz⟩,hfz,hst⟩:=HL.out.store hmem;dsimp only [ptr] at hcp hoz hfz hst;have hLs:=hst vz;have HLS:=Lib.hid hLs;have htb:tb<w'.heap.size:=by
        exact cell_lu hoz
       clear hst hLs hmem xpp
       go_upto_region 11 with fail
       obtain ⟨W4,hW4⟩:∃ W4,W4=w'.setCell ⟨tb,tofs,none⟩ (.int .i64 vz):=⟨_,rfl⟩;rw [← hW4] at HLS ⊢;have HB4:=Lib.hid (join HB2.out HLS.out.bel);have HX4:=Lib.hid ((HLS.out.bel.block _ (Array.getElem?_eq_some_iff.1 HX2.out).1).trans HX2.out);obtain ⟨t,l5,l6,l7,lo,hi,pe,we,hR⟩:=HLS.out.rdy;have HR:=Lib.hid hR;clear hR hW4 hoz hfz htb hcp HLS HL HB2 HX2 hpl hzg hpp hb3 hsz;obtain ⟨k0,k1,k2⟩:=blk3 HR.out.xt;have m0:=blk_cells HR.out.x8 0 _ rfl;have m1:=blk_cells HR.out.x8 1 _ rfl;have m2:=blk_cells HR.out.x9 0 _ rfl;have m3:=blk_cells HR.out.x10 0 _ rfl;go_wp2_with fail
       refine HR.out.parts.mono ?_;rintro e w5 ⟨rfl,hB⟩;have HR:=Lib.hid (HR.out.below hB);have HX4:=Lib.hid ((hB.block _ (Array.getElem?_eq_some_iff.1 HX4.out).1).trans HX4.out);have HB4:=Lib.hid (join HB4.out hB);clear hB k0 k1 k2 m0 m1 m2 m3;obtain ⟨k0,k1,k2⟩:=blk3 HR.out.xt;have m0:=blk_cells HR.out.x8 0 _ rfl;have m1:=blk_cells HR.out.x8 1 _ rfl;have m2:=blk_cells HR.out.x9 0 _ rfl;have m3:=blk_cells HR.out.x10 0 _ rfl;go_wp2_with fail
       refine HR.out.marks.mono ?_;rintro e w5 ⟨rfl,hB⟩;have HR:=Lib.hid (HR.out.below hB);have HX4:=Lib.hid ((hB.block _ (Array.getElem?_eq_some_iff.1 HX4.out).1).trans HX4.out);have HB4:=Lib.hid (join HB4.out hB);clear hB k0 k1 k2 m0 m1 m2 m3;obtain ⟨k0,k1,k2⟩:=blk3 HR.out.xt;have m0:=blk_cells HR.out.x8 0 _ rfl;have m1:=blk_cells HR.out.x8 1 _ rfl;have m2:=blk_cells HR.out.x9 0 _ rfl;have m3:=blk_cells HR.out.x10 0 _ rfl;go_wp2_with fail
       refine HR.out.astray.mono ?_;rintro e w5 ⟨rfl,hB⟩;have HR:=Lib.hid (HR.out.below hB);have HX4:=Lib.hid ((hB.block _ (Array.getElem?_eq_some_iff.1 HX4.out).1).trans HX4.out);have HB4:=Lib.hid (join HB4.out hB);clear hB k0 k1 k2 m0 m1 m2 m3;obtain ⟨k0,k1,k2⟩:=blk3 HR.out.xt;have m0:=blk_cells HR.out.x8 0 _ rfl;have m1:=blk_cells HR.out.x8 1 _ rfl;have m2:=blk_cells HR.out.x9 0 _ rfl;have m3:=blk_cells HR.out.x10 0 _ rfl;go_wp2_with fail
       refine HR.out.shorter.mono ?_;rintro e w5 ⟨rfl,hB⟩;have HR:=Lib.hid (HR.out.below hB);have HX4:=Lib.hid ((hB.block _ (Array.getElem?_eq_some_iff.1 HX4.out).1).trans HX4.out);have HB4:=Lib.hid (join HB4.out hB);clear hB k0 k1 k2 m0 m1 m2 m3;obtain ⟨k0,k1,k2⟩:=blk3 HR.out.xt;have m0:=blk_cells HR.out.x8 0 _ rfl;have m1:=blk_cells HR.out.x8 1 _ rfl;have m2:=blk_cells HR.out.x9 0 _ rfl;have m3:=blk_cells HR.out.x10 0 _ rfl;go_wp2_with fail
       refine HR.out.least.mono ?_;rintro e w5 ⟨rfl,hB⟩;have HR:=Lib.hid (HR.out.below hB);have HX4:=Lib.hid ((hB.block _ (Array.getElem?_eq_some_iff.1 HX4.out).1).trans HX4.out);have HB4:=Lib.hid (join HB4.out hB);clear hB k0 k1 k2 m0 m1 m2 m3;by_cases hk6:k<6
       ·have hk6':(k:Int)<6:=by omega
        obtain ⟨k0,k1,k2⟩:=blk3 HR.out.xt;have m0:=blk_cells HR.out.x8 0 _ rfl;have m1:=blk_cells HR.out.x8 1 _ rfl;have m2:=blk_cells HR.out.x9 0 _ rfl;have m3:=blk_cells HR.out.x10 0 _ rfl;go_wp2_with fail
        refine HR.out.fewest.mono ?_;rintro e w5 ⟨rfl,hB⟩;have HR:=Lib.hid (HR.out.below hB);have HX4:=Lib.hid ((hB.block _ (Array.getElem?_eq_some_iff.1 HX4.out).1).trans HX4.out);have HB4:=Lib.hid (join HB4.out hB);clear hB k0 k1 k2 m0 m1 m2 m3;obtain ⟨k0,k1,k2⟩:=blk3 HR.out.xt;have m0:=blk_cells HR.out.x8 0 _ rfl;have m1:=blk_cells HR.out.x8 1 _ rfl;have m2:=blk_cells HR.out.x9 0 _ rfl;have m3:=blk_cells HR.out.x10 0 _ rfl;go_wp2_with fail
        refine HR.out.even.mono ?_;rintro e w5 ⟨rfl,hB⟩;have HR:=Lib.hid (HR.out.below hB);have HX4:=Lib.hid ((hB.block _ (Array.getElem?_eq_some_iff.1 HX4.out).1).trans HX4.out);have HB4:=Lib.hid (join HB4.out hB);clear hB k0 k1 k2 m0 m1 m2 m3;go_wp2_with fail
        go_roundw
        case rel=>exact ⟨k+1,by omega,by go_num,HB4.out,HX4.out⟩
        case measure=>simp [intOf];omega
       ·have hk6':¬ (k:Int)<6:=by omega
        go_wp2_with fail
        go_roundw
        case rel=>exact ⟨k+1,by omega,by go_num,HB4.out,HX4.out⟩
        case measure=>simp [intOf];omega
     ·obtain rfl:k=16:=by omega
      go_wp2_with fail
      go_meet;exact ⟨_,rfl,HB2.out,HX2.out⟩
   case rest =>
    obtain ⟨w9,rfl,hB,hx⟩:=hcut;have HB9:=Lib.hid hB;have HX9:=Lib.hid hx;clear hB hx HB1 HX1 hc;go_wp2_with fail
    go_roundw
    case rel=>exact ⟨n+1,by omega,by go_num,HB9.out,HX9.out⟩
    case measure=>simp [intOf];omega
  ·obtain rfl:n=20:=by omega
   go_wp2_with fail
   exact HK.out _ rfl _ HB1.out
end Go.Proofs.YtadnggecnjdhiaaGreat
