/- Contracts of the code and of the reference, part 5. -/
import Derived.Test.YtadnggecnjdhiaaGreatYd
set_option linter.unusedSimpArgs false
set_option linter.unusedVariables false
namespace Go.Proofs.YtadnggecnjdhiaaGreat
open Go.RowKit Tx
attribute [local go_sem] Oper.semAt_some
theorem und_twelve:Tryz.prog.underlying 163=some (.array 12 3):=by kernel_rfl
theorem size_twelve {A:Array Value} (h:A.size=12):(Tryz.prog.info? 163).map (·.size)=some A.size:=by rw [h];kernel_rfl
def Sm12 (m:List Int):Prop:=m.length=12∧∀ k,k<12→0≤m.getD k 0∧m.getD k 0≤1000
theorem sm12_lastW {m:List Int} (h:Sm12 m) (b w:Nat) (hb:b≤13):Sm12 (lastW b m w):=by
 refine ⟨by simp [lastW,h.1],fun k hk=>?_⟩;unfold lastW;have h1:=h.2 k hk;simp only [List.getD_eq_getElem?_getD,List.getElem?_set] at *;by_cases hkb:w=k
 ·subst hkb;rw [if_pos rfl,if_pos (by rw [h.1];exact hk)];simp;omega
 ·rw [if_neg hkb];exact h1
theorem sm12_fold {m:List Int} (h:Sm12 m) (b:Nat) (hb:b≤13):∀ l:List Nat,Sm12 (l.foldl (lastW b) m):=by
 intro l
 induction l generalizing m with
 | nil=>exact h
 | cons x l ih=>exact ih (sm12_lastW h b x hb)
def lastK (k:Nat):List Int:=(List.range 12).map fun w=>if w<k then (w:Int) else 0
theorem lastK_set (k:Nat) (hk:k<12):(lastK k).set k (k:Int)=lastK (k+1):=by
 unfold lastK;apply List.ext_getElem (by simp);intro i h1 h2;simp only [List.getElem_set,List.getElem_map,List.getElem_range];by_cases hi:k=i
 ·subst hi;simp
 ·rw [if_neg hi];by_cases hik:i<k
  ·rw [if_pos hik,if_pos (by omega)]
  ·rw [if_neg hik,if_neg (by omega)]
theorem lastK_zero:lastK 0=List.replicate 12 0:=by decide
theorem lastK_sm (k:Nat) (hk:k≤12):Sm12 (lastK k):=by
 refine ⟨by simp [lastK],fun i hi=>?_⟩;unfold lastK;simp only [List.getD_eq_getElem?_getD,List.getElem?_map,List.getElem?_range hi,Option.map_some,Option.getD_some];split <;> omega
theorem hold_bel {B M:Nat} {w w':World} (h:Hold (fun k=>k≠M) w w') (hM:B≤M) (hB:B≤w.heap.size):Below B w w' :=
 ⟨h.os,h.tape,h.output,h.size,fun k hk=>h.same k (show k≠M by omega) (by omega)⟩
structure LtC (n cw:Nat) (pw:Option Addr) (v1 v2 mv:Value) (w W:World) (M:List Int) (C:Nat) (ds:List Deferred):Prop where
 wk:W.heap[w.heap.size]?=some (.cells #[.slice pw n cw,v1,v2,mv] 84 (0,0))
 mks:W.heap[w.heap.size+1+1]?=some (.cells (arrOf M) 163 (0,0))
 res:W.heap[w.heap.size+1]?=some (.cells (arrOf (List.replicate 12 0)) 163 (0,0))
 bel:Below w.heap.size w W
 ends:Ends (w.heap.size+1+1+1) W C ds
 sz:w.heap.size+1+1+1≤W.heap.size∧C≤W.heap.size
 small:Sm12 M
theorem LtC.below {n cw:Nat} {pw:Option Addr} {v1 v2 mv:Value} {w W W':World} {M:List Int} {C:Nat} {ds:List Deferred} (h:LtC n cw pw v1 v2 mv w W M C ds) {B:Nat} (h3:w.heap.size+1+1+1≤B) (hC:C≤B) (hB:Below B W W'):LtC n cw pw v1 v2 mv w W' M C ds :=
 ⟨(hB.block _ (by omega)).trans h.wk,(hB.block _ (by omega)).trans h.mks,(hB.block _ (by omega)).trans h.res,h.bel.trans (hB.mono (by omega)),h.ends.keep (fun k _ hk=>hB.block k (by omega)),
  ⟨Nat.le_trans h.sz.1 hB.size,Nat.le_trans h.sz.2 hB.size⟩,h.small⟩
set_option maxHeartbeats 4000000 in
set_option maxRecDepth 100000 in
theorem lastTogether_any (may:Nat→Nat→Bool) (n cw:Nat) (hn:n≤12) (pw:Option Addr) (v1 v2 mv:Value) (w:World) (hMay:MayAt mv may n (fun k=>k<w.heap.size) w) :
  Calls Tryz.prog 131 #[.agg #[.slice pw n cw,v1,v2,mv]] w fun e w'=>e=.returned (.agg (arrOf (lastT may n)))∧Below w.heap.size w w':=by
 have HMAY:=Lib.hid hMay;clear hMay;obtain ⟨m,hm9⟩:∃ m:Nat,9≤m:=⟨9,Nat.le_refl _⟩;refine (callsIn_wide (n:=m)).1 ?_;refine callsIn_of_wp_marks Tryz.func131 rfl trivial ?_ rfl;simp only [Tryz.ntmps131,List.size_toArray,List.length_cons,List.length_nil,Nat.reduceAdd,Nat.reduceSub,Array.replicate_succ,Array.replicate_zero,List.push_toArray,List.append_toArray,List.nil_append,List.cons_append]
 gi_wp2_with fail
 have hB3:∀ o1 o2 o3,Below w.heap.size w (((w.alloc o1).alloc o2).alloc o3):=fun o1 o2 o3=>(((below1 _ _).alloc (by simp) _).alloc (by simp;omega) _);generalize hW3:((w.alloc (Obj.cells #[Value.slice pw n cw,v1,v2,mv] 84)).alloc (Obj.cells #[Value.int IntKind.i64 0,Value.int IntKind.i64 0,Value.int IntKind.i64 0,Value.int IntKind.i64 0,Value.int IntKind.i64 0,Value.int IntKind.i64 0,Value.int IntKind.i64 0,Value.int IntKind.i64 0,Value.int IntKind.i64 0,Value.int IntKind.i64 0,Value.int IntKind.i64 0,Value.int IntKind.i64 0] 163)).alloc (Obj.cells #[Value.int IntKind.i64 0,Value.int IntKind.i64 0,Value.int IntKind.i64 0,Value.int IntKind.i64 0,Value.int IntKind.i64 0,Value.int IntKind.i64 0,Value.int IntKind.i64 0,Value.int IntKind.i64 0,Value.int IntKind.i64 0,Value.int IntKind.i64 0,Value.int IntKind.i64 0,Value.int IntKind.i64 0] 163)=W3;have hA3:LtC n cw pw v1 v2 mv w W3 (lastK 0) W3.heap.size []:=by
  have hb3:Below w.heap.size w W3:=by rw [← hW3];exact hB3 _ _ _
  refine ⟨?_,?_,?_,hb3,trivial,⟨?_,Nat.le_refl _⟩,lastK_sm 0 (by omega)⟩
  ·rw [← hW3,Below.heap_alloc _ _ _ (by first | (simp;done) | (simp;omega)),Below.heap_alloc _ _ _ (by simp)];exact heap_last _ _
  ·rw [← hW3,lastK_zero];have:=heap_last ((w.alloc (Obj.cells #[Value.slice pw n cw,v1,v2,mv] 84)).alloc (Obj.cells (arrOf (List.replicate 12 0)) 163)) (Obj.cells (arrOf (List.replicate 12 0)) 163);rwa [World.size_alloc,World.size_alloc] at this
  ·rw [← hW3,Below.heap_alloc _ _ _ (by simp)];have:=heap_last (w.alloc (Obj.cells #[Value.slice pw n cw,v1,v2,mv] 84)) (Obj.cells (arrOf (List.replicate 12 0)) 163);rwa [World.size_alloc] at this
  ·rw [← hW3];simp
 clear hW3 hB3
 gi_loopw [12] (fun i wr=>∃ k:Nat,k≤n∧i=.int .i64 k∧Hid (LtC n cw pw v1 v2 mv w wr (lastK k) wr.heap.size [])) (fun i _=>n-(intOf i).toNat)
 case atStart=>exact ⟨0,Nat.zero_le _,rfl,Lib.hid hA3⟩
 case round =>
  clear hA3;obtain ⟨k,hk,rfl,HA⟩:=hrel;have hsz0:=HA.out.sz.1;by_cases hlt:k<n
  ·have hlt':(k:Int)<n:=by omega
   have hk12:(k:Int)<12:=by omega
   have hk12':k<12:=by omega
   obtain ⟨Mb,hMb⟩:∃ Mb,Mb=w.heap.size+1+1:=⟨_,rfl⟩;have HMb:=Lib.hid hMb;have hcb:=blk_cells HA.out.mks k _ (arrOf_get (by simp [lastK];omega));have hfz:wr.frozen? ⟨Mb,k,none⟩=false:=by simp [World.frozen?,hMb,HA.out.mks]
   rw [← hMb] at hcb;have hMl:Mb<wr.heap.size:=by omega
   have hblk:=heap_set_same (w:=wr) (g:=Mb) (o:=k) (.int .i64 (k:Int)) (cs:=arrOf (lastK k)) (t:=163) (by rw [hMb];exact HA.out.mks);rw [arrOf_set,lastK_set k hk12'] at hblk;have hH:Hold (fun j=>j≠Mb) wr (wr.setCell ⟨Mb,k,none⟩ (.int .i64 (k:Int))):=Hold.setCell _ _ _ (fun h=>h rfl);have HNEW:Hid (LtC n cw pw v1 v2 mv w (wr.setCell ⟨Mb,k,none⟩ (.int .i64 (k:Int))) (lastK (k+1)) (wr.setCell ⟨Mb,k,none⟩ (.int .i64 (k:Int))).heap.size []):=Lib.hid
    ⟨(hH.same _ (by omega) (by omega)).trans HA.out.wk,by rw [← hMb];exact hblk,(hH.same _ (by omega) (by omega)).trans HA.out.res,HA.out.bel.setCell (p:=⟨Mb,k,none⟩) (show w.heap.size≤Mb by omega) _,trivial,⟨by have:=hH.size;omega,Nat.le_refl _⟩,lastK_sm _ (by omega)⟩
   clear hblk hH;rw [← hMb];clear hMb
   gi_wp2
   go_roundw
   case rel=>exact ⟨k+1,by omega,by go_num,HNEW⟩
   case measure=>simp [intOf];omega
  ·have hkn:n=k:=by omega
   subst hkn;obtain ⟨f0,f1,f2,f3⟩:wr.cell? ⟨w.heap.size,0,none⟩=some (.slice pw n cw)∧wr.cell? ⟨w.heap.size,1,none⟩=some v1∧wr.cell? ⟨w.heap.size,2,none⟩=some v2∧wr.cell? ⟨w.heap.size,3,none⟩=some mv :=
    ⟨blk_cells HA.out.wk 0 _ rfl,blk_cells HA.out.wk 1 _ rfl,blk_cells HA.out.wk 2 _ rfl,blk_cells HA.out.wk 3 _ rfl⟩
   have hs00:w.heap.size<wr.heap.size:=by omega
   gi_wp2_with fail
   refine ⟨trivial,(fun h=>by cases h),?_⟩;refine (callsIn_wide.2 (end_any _ _ _ _ _ _ _)).mono ?_;rintro e W6 ⟨rfl,hw6⟩;have hA6:LtC n cw pw v1 v2 mv w W6 (lastK n) W6.heap.size []:=by
    have hb6:Below wr.heap.size wr W6:=by rw [← hw6];exact below1 _ _
    have:=HA.out.below (C:=wr.heap.size) hsz0 (Nat.le_refl _) hb6;exact ⟨this.wk,this.mks,this.res,this.bel,trivial,⟨this.sz.1,Nat.le_refl _⟩,this.small⟩
   clear hw6 f0 f1 f2 f3 HA hs00 hsz0
   gi_wp2_with fail
   refine wpIn_loop (fun a' w'=>∃ (k:Nat) (ds:List Deferred) (u4 u5 u6 u7 u8 u9 u10 u11 u12 u13 u14 u15 u16 u17 u18 u19 u22 u23 u24 u25 u26 u27 u28 u29 u30 u31 u32 u33 u34 u35 u36 u37 u38 u39 u40 u41 u42 u43:Value),k≤n∧a'={ tmps:=#[.agg #[.slice pw n cw,v1,v2,mv],.pointer (some ⟨w.heap.size,0,none⟩),.pointer (some ⟨w.heap.size+1,0,none⟩),.pointer (some ⟨w.heap.size+1+1,0,none⟩),u4,u5,u6,u7,u8,u9,u10,u11,u12,u13,u14,u15,u16,u17,u18,u19,.int .i64 n,.int .i64 k,u22,u23,u24,u25,u26,u27,u28,u29,u30,u31,u32,u33,u34,u35,u36,u37,u38,u39,u40,u41,u42,u43],defers:=ds }∧LtC n cw pw v1 v2 mv w w' ((List.range k).foldl (lastRow may n) (lastK n)) w'.heap.size ds) (fun a' _=>n-(intOf (a'.tmps.getD 21 undef)).toNat) ⟨0,[],_,_,_,_,_,_,_,_,_,_,_,_,_,_,_,_,_,_,_,_,_,_,_,_,_,_,_,_,_,_,_,_,_,_,_,_,_,_,Nat.zero_le _,rfl,hA6⟩ ?_;clear hA6;rintro a' wo ⟨k,ds,u4,u5,u6,u7,u8,u9,u10,u11,u12,u13,u14,u15,u16,u17,u18,u19,u22,u23,u24,u25,u26,u27,u28,u29,u30,u31,u32,u33,u34,u35,u36,u37,u38,u39,u40,u41,u42,u43,hk,rfl,hA⟩;have HA:=Lib.hid hA;have hsz0:=hA.sz.1;have f0:=blk_cells hA.wk 0 _ rfl;have f1:=blk_cells hA.wk 1 _ rfl;have f2:=blk_cells hA.wk 2 _ rfl;have f3:=blk_cells hA.wk 3 _ rfl;clear hA;generalize hMk:(List.range k).foldl (lastRow may n) (lastK n)=Mk at HA;have HMK:=Lib.hid hMk;clear hMk;by_cases hlt:k<n
   ·have hlt':(k:Int)<n:=by omega
    have hs0:w.heap.size<wo.heap.size:=by omega
    gi_wp2_with fail
    refine ⟨trivial,(fun h=>by cases h),?_⟩;refine (callsIn_wide.2 (breaths_any _ _ _ _ _ _)).mono ?_;rintro e W4 ⟨rfl,hW4⟩;have hB4:Below wo.heap.size wo W4:=by rw [← hW4];exact (((below1 _ _).alloc (by simp) _).alloc (by simp;omega) _)
    have hs4:W4.heap.size=wo.heap.size+3:=by rw [← hW4];simp
    have k0:W4.cell? ⟨wo.heap.size,0,none⟩=some (.int .i64 k):=by rw [← hW4];clear hW4;go_simp
    have hC4:BrCap W4 n cw pw v1 v2 mv k (wo.heap.size+1+1) (wo.heap.size+1):=by
     refine ⟨?_,?_⟩
     ·rw [← hW4];have:=heap_last ((wo.alloc (Obj.cells #[Value.int IntKind.i64 k] 3)).alloc (Obj.cells #[Value.slice pw n cw,v1,v2,mv] 84)) (Obj.cells #[Value.int IntKind.i64 k] 3);rwa [World.size_alloc,World.size_alloc] at this
     ·rw [← hW4,Below.heap_alloc _ _ _ (by simp)];have:=heap_last (wo.alloc (Obj.cells #[Value.int IntKind.i64 k] 3)) (Obj.cells #[Value.slice pw n cw,v1,v2,mv] 84);rwa [World.size_alloc] at this
    have hM4:MayAt mv may n (fun j=>j≠w.heap.size+1+1∧j<W4.heap.size) W4 :=
     (HMAY.out.hold (.of_below (HA.out.bel.trans (hB4.mono (by omega))) (fun _ h _=>h))).mono (fun j hj _=>⟨by omega,by omega⟩)
    have hA4:=HA.out.below (C:=wo.heap.size) hsz0 (Nat.le_refl _) hB4;clear hW4 f0 f1 f2 f3
    gi_wp2_with fail
    refine range_of (gf:=143) (lb:=#[.pointer (some ⟨wo.heap.size+1+1,0,none⟩),.pointer (some ⟨wo.heap.size+1,0,none⟩)]) rfl (enters_of Tryz.func143 (by kernel_rfl) rfl)
     (breaths_seq (m-1) (fun j=>j≠w.heap.size+1+1) may n cw hn pw v1 v2 mv k _ _ hk W4 ⟨by omega,by omega⟩ hC4 hM4) (Below.refl _ _) (fun x vs W h=>by rw [h];rfl)
     (fun pre W'=>LtC n cw pw v1 v2 mv w W' (pre.foldl (fun m b=>lastB k b m) Mk) W4.heap.size ds∧W'.cell? ⟨wo.heap.size,0,none⟩=some (.int .i64 k)∧W4.heap.size≤W'.heap.size)
     (fun _ _ _=>False) ?lwI ?lwX ⟨⟨hA4.wk,hA4.mks,hA4.res,hA4.bel,hA4.ends.mono (by omega),⟨by omega,Nat.le_refl _⟩,hA4.small⟩,k0,Nat.le_refl _⟩ ?round ?done ?stop
    case lwI =>
     rintro s' X Y ⟨i1,i2,i3⟩ hb;exact ⟨i1.below (by omega) (Nat.le_refl _) hb,(hb.cell (p:=⟨wo.heap.size,0,none⟩) (show wo.heap.size<W4.heap.size by omega)).trans i2,Nat.le_trans i3 hb.size⟩
    case lwX=>rintro c s' X Y h;exact h.elim
    case stop=>rintro D c pre W' hD h;exact h.elim
    case done =>
     rintro D W' hD ⟨i1,i2,i3⟩ hK;have hDl:=(Array.getElem?_eq_some_iff.1 hK).1;have hnext:(List.range (k+1)).foldl (lastRow may n) (lastK n)=(brs may n k).foldl (fun m b=>lastB k b m) Mk:=by
      rw [List.range_succ,List.foldl_append,HMK.out];rfl
     gi_wp2
     refine ⟨⟨k+1,_,_,_,_,_,_,_,_,_,_,_,_,_,_,_,_,_,_,_,_,_,_,_,_,_,_,_,_,_,_,_,_,_,_,_,_,_,_,_,by omega,rfl,by rw [hnext];exact ⟨i1.wk,i1.mks,i1.res,i1.bel,⟨D,rfl,by omega,hDl,hK,i1.ends.mono (Nat.le_of_eq hD.symm)⟩,⟨i1.sz.1,Nat.le_refl _⟩,i1.small⟩⟩,?_⟩;simp [intOf];omega
    case round =>
     rintro lq pre b post vs W5 hl1 hl2-hL rfl ⟨i1,i2,i3⟩;have hb:k<b∧b≤n:=by
      have:b∈brs may n k:=by rw [hL];simp
      unfold brs at this;have:=(List.mem_filter.1 this).1;rw [List.mem_range'_1] at this;omega
     obtain ⟨hb1,hb2⟩:=hb;clear i1 i2 i3 hA4 hC4 hM4
     gi_wp2
     refine ⟨Below.refl _ _,?_⟩;rintro Wb hg hsz ⟨j1,j2,j3⟩;have J1:=Lib.hid j1;have J2:=Lib.hid j2;have hca0:=j2;clear j1 hg j2
     gi_wp2_with fail
     gi_loopw [7] (fun i W'=>∃ c:Nat,k≤c∧c≤b∧i=.int .i64 c∧Hid (Hold (fun j=>j≠w.heap.size+1+1) Wb W')∧Hid (W'.heap[w.heap.size+1+1]?=some (.cells (arrOf ((List.range' k (c-k)).foldl (lastW b) (pre.foldl (fun m b=>lastB k b m) Mk))) 163 (0,0)))) (fun i _=>b-(intOf i).toNat)
     case atStart=>exact ⟨k,Nat.le_refl _,by omega,rfl,Lib.hid (Hold.refl _ _),Lib.hid (by rw [Nat.sub_self];exact J1.out.mks)⟩
     case round =>
      obtain ⟨c,hkc,hcb,rfl,HHc,HMc⟩:=hrel;have hzc:=HHc.out.size;have hz0:=J1.out.sz.1;have hb12:b≤12:=by omega
      have HSMc:=Lib.hid (show Sm12 ((List.range' k (c-k)).foldl (lastW b) (pre.foldl (fun m b=>lastB k b m) Mk)) from sm12_fold J1.out.small b (by omega) _);by_cases hcl:c<b
      ·have hcl':(c:Int)<b:=by omega
       have hc12:(c:Int)<12:=by omega
       obtain ⟨Mb,hMb⟩:∃ Mb,Mb=w.heap.size+1+1:=⟨_,rfl⟩;have HMb:=Lib.hid hMb;have HST:Hid ((List.range' k (c+1-k)).foldl (lastW b) (pre.foldl (fun m b=>lastB k b m) Mk)=lastW b ((List.range' k (c-k)).foldl (lastW b) (pre.foldl (fun m b=>lastB k b m) Mk)) c):=Lib.hid (by
        rw [show c+1-k=(c-k)+1 by omega,List.range'_concat,List.foldl_append,show k+1*(c-k)=c by omega];rfl)
       have hcell:=blk_cells HMc.out c _ (arrOf_get (by rw [HSMc.out.1];omega));obtain ⟨L,hL2⟩:∃ L,L=(List.range' k (c-k)).foldl (lastW b) (pre.foldl (fun m b=>lastB k b m) Mk):=⟨_,rfl⟩;rw [← hL2] at HST HMc hcell HSMc;have hfz:wr.frozen? ⟨Mb,c,none⟩=false:=by simp [World.frozen?,hMb,HMc.out]
       have hblk:=heap_set_same (w:=wr) (g:=Mb) (o:=c) (.int .i64 (max (L.getD c 0) ((b:Int)-1))) (cs:=arrOf L) (t:=163) (by rw [hMb];exact HMc.out);rw [arrOf_set] at hblk;have hH:=Hold.setCell (Kp:=fun j=>j≠Mb) wr ⟨Mb,c,none⟩ (.int .i64 (max (L.getD c 0) ((b:Int)-1))) (fun h=>h rfl);have HBLK:=Lib.hid hblk;have HHN:=Lib.hid hH;rw [← hMb] at hcell;have hsub:IntKind.i64.wrap ((b:Int)-1)=(b:Int)-1:=IntWalk.i64_in _ (by omega);have hMl:Mb<wr.heap.size:=by omega
       obtain ⟨x,hx⟩:∃ x,x=L.getD c 0:=⟨_,rfl⟩;rw [← hx] at hcell HBLK HHN;have HX:=Lib.hid hx;have hmax:(if x<(b:Int)-1 then (b:Int)-1 else x)=max x ((b:Int)-1):=by rw [Int.max_def];split <;> split <;> omega
       clear hblk hH hL2 hx;rw [← hMb];clear hMb
       gi_wp2
       go_roundw
       case rel=>exact ⟨c+1,by omega,by omega,by go_num,Lib.hid (by have h:=HHc.out;rw [← HMb.out] at h;exact h.trans HHN.out),Lib.hid (by rw [HST.out];unfold lastW;rw [← HX.out];exact HBLK.out)⟩
       case measure=>simp [intOf];omega
      ·have hbc:b=c:=by omega
       subst hbc;have hnew:(pre++[b]).foldl (fun m b=>lastB k b m) Mk=(List.range' k (b-k)).foldl (lastW b) (pre.foldl (fun m b=>lastB k b m) Mk):=by rw [List.foldl_append];rfl
       have HNEW:=Lib.hid hnew;clear hnew
       gi_wp2
       refine ⟨HHc.out.mono (fun j hj _=>by rcases hj with h | h <;> omega),⟨(HHc.out.same _ (by omega) (by omega)).trans J1.out.wk,by rw [HNEW.out];exact HMc.out,(HHc.out.same _ (by omega) (by omega)).trans J1.out.res,?_,J1.out.ends.keep (fun j h1 h2=>HHc.out.same j (by omega) (by omega)),⟨by omega,by omega⟩,by rw [HNEW.out];exact HSMc.out⟩,
        (HHc.out.cell (p:=⟨wo.heap.size,0,none⟩) (show wo.heap.size≠w.heap.size+1+1 by omega) (show wo.heap.size<Wb.heap.size by omega)).trans J2.out,by omega⟩
       exact J1.out.bel.trans (hold_bel HHc.out (by omega) (by omega))
   ·have hkn:n=k:=by omega
    subst hkn;have hAsz:(arrOf Mk).size=12:=by rw [arrOf_size];exact HA.out.small.1
    have hi:=size_twelve hAsz;have hone:=arrOf_one Mk;have hthere:wo.there (w.heap.size+1) 0 (arrOf Mk).size:=fun j hj=>by
     have hr:=HA.out.res;rw [Nat.zero_add,blk_cells hr j _ (arrOf_get (by simp;omega))];exact ⟨by simp,by simp [World.frozen?,hr]⟩
    have HROW:=Lib.hid HA.out.mks;have HI:=Lib.hid hi;have HTH:=Lib.hid hthere;have HON:=Lib.hid hone;have HSZ:=Lib.hid hAsz;clear hi hthere hone hAsz f0 f1 f2 f3;generalize hBA:arrOf Mk=BA at HROW HI HTH HON HSZ;have HBA:=Lib.hid hBA;clear hBA;refine wpIn_wide.2 ?_;go_wp2;refine wpIn_wide.2 ?_;go_wp2_with (first | (with_reducible refine wpList_load_row rfl 163 _ rfl (w.heap.size+1+1) rfl 163 BA (0,0) _ HROW.out und_twelve rfl HI.out ?_) | (with_reducible refine wpList_store_mid rfl 163 _ _ rfl (w.heap.size+1) 0 BA rfl rfl HTH.out HI.out HON.out ?_))
    have hz:=HA.out.sz.1;have hH:Hold (fun j=>j≠w.heap.size+1) wo (wo.setCells (w.heap.size+1) 0 BA.toList):=hold_setCells _ _ _ _;have hres2:(wo.setCells (w.heap.size+1) 0 BA.toList).heap[w.heap.size+1]?=some (.cells BA 163 (0,0)):=by
     rw [heap_setCells _ _ _ _ _ _ _ HA.out.res,setFrom_all _ _ (by rw [Array.length_toList,HSZ.out];simp [arrOf_size])]
    refine leaves_ends (B:=w.heap.size+1+1+1) (by simp) _ wo.heap.size _ (HA.out.ends.keep (fun j h1 h2=>hH.same j (by omega) h2)) hH.size (fun w' hh=>?_);have hres:=(hh.same _ (show w.heap.size+1<w.heap.size+1+1+1 by omega) (by have:=hH.size;omega)).trans hres2;refine ⟨.agg BA,results_cell_row rfl _ _ (w.heap.size+1) 163 BA (0,0) _ rfl hres und_twelve rfl HI.out,?_⟩;exact ⟨by rw [← HBA.out,← HMK.out];rfl,(below_setCells' (by omega) _ _ _ HA.out.bel).trans ((hh.to_below (by have:=hH.size;omega)).mono (by omega))⟩
end Go.Proofs.YtadnggecnjdhiaaGreat
namespace Go.Proofs.YtadnggecnjdhiaaGreat
open Go.RowKit Tx
theorem apart_cut (last l:List Int) (i:Nat) (hi:i<l.length-1):apartB last l=true→last.getD (l.getD i 0).toNat 0<l.getD (i+1) 0:=by
 unfold apartB;intro h;rw [List.all_eq_true] at h;exact of_decide_eq_true (h i (List.mem_range.2 hi))
theorem apart_all (last l:List Int) (h:∀ i,i<l.length-1→last.getD (l.getD i 0).toNat 0<l.getD (i+1) 0):apartB last l=true:=by
 unfold apartB;rw [List.all_eq_true];intro i hi;exact decide_eq_true (h i (List.mem_range.1 hi))
set_option maxHeartbeats 2000000 in
set_option maxRecDepth 100000 in
theorem apart_any (last l:List Int) (hlast:last.length=12) (k:Nat) (hk:l.length=k) (hk2:2≤k) (hk12:k≤1000) (hl:∀ x∈l,0≤x∧x<12) (b o:Nat) (w:World) (hb:b<w.heap.size) (hL:∀ i,i<l.length→w.cell? ⟨b,o+i,none⟩=some (.int .i64 (l.getD i 0))) :
  Calls Tryz.prog 132 #[.slice (some ⟨b,o,none⟩) k k,.agg (arrOf last)] w fun e w'=>e=.returned (.bool (apartB last l))∧Below w.heap.size w w':=by
 have HL:=Lib.hid hL;have HLEN:=Lib.hid hk;have HIN:=Lib.hid hl;have HB1:=Lib.hid (below1 w (.cells (arrOf last) 163));have HX:=Lib.hid (heap_last w (.cells (arrOf last) 163));have hz1:(w.alloc (.cells (arrOf last) 163)).heap.size=w.heap.size+1:=by simp
 have h1k:(1:Int)≤(k:Int):=by omega
 have h1k2:1<k:=by omega
 have h1k3:(1:Int)<(k:Int):=by omega
 have hne1:¬ k=1:=by omega
 clear hL hk hl
 go_enter Tryz.func132,Tryz.ntmps132
 go_wp2_with fail
 generalize w.alloc (.cells (arrOf last) 163)=W1 at HB1 HX hz1 ⊢
 go_loopw [10] (fun i wr=>∃ j:Nat,j≤k-1∧i=.int .i64 j∧Hid (∀ q,q<j→last.getD (l.getD q 0).toNat 0<l.getD (q+1) 0)∧Hid (Below W1.heap.size W1 wr)) (fun i _=>k-(intOf i).toNat)
 case atStart=>exact ⟨0,Nat.zero_le _,rfl,Lib.hid (fun q hq=>absurd hq (Nat.not_lt_zero _)),Lib.hid (Below.refl _ _)⟩
 case round =>
  obtain ⟨j,hj,rfl,HQ,HB⟩:=hrel;have hzr:=HB.out.size;have HBw:=Lib.hid (join HB1.out HB.out);by_cases hlt:j<k-1
  ·have hlt':(j:Int)<((k-1:Nat):Int):=by omega
   have hjk:(j:Int)<(k:Int):=by omega
   have hlen:=HLEN.out;have c1:=(HBw.out.cell (p:=⟨b,o+(j+1),none⟩) hb).trans (HL.out (j+1) (by omega));have c0:=(HBw.out.cell (p:=⟨b,o+j,none⟩) hb).trans (HL.out j (by omega));have hx:=HIN.out _ (getD_mem (xs:=l) 0 (show j<l.length by omega));obtain ⟨x,hxe⟩:∃ x:Nat,l.getD j 0=(x:Int):=⟨(l.getD j 0).toNat,by omega⟩;obtain ⟨y,hye⟩:∃ y,y=l.getD (j+1) 0:=⟨_,rfl⟩;rw [hxe] at c0 hx;rw [← hye] at c1;have hx12:x<12:=by omega
   have hx12':(x:Int)<12:=by omega
   have cl:=blk_cells ((HB.out.block w.heap.size (by omega)).trans HX.out) x _ (arrOf_get (M:=last) (by omega));obtain ⟨z,hze⟩:∃ z,z=last.getD x 0:=⟨_,rfl⟩;rw [← hze] at cl;have ho:o+1+j=o+(j+1):=by omega
   rw [← ho] at c1;have HZ:Hid (last.getD (l.getD j 0).toNat 0=z∧l.getD (j+1) 0=y):=Lib.hid ⟨by rw [hxe,hze];rfl,hye.symm⟩;have hsz1:w.heap.size<wr.heap.size:=by omega
   clear hlen hx hxe hye hze ho;by_cases hyz:y≤z
   ·have HF:Hid (apartB last l=false):=Lib.hid (by
     cases h:apartB last l with
     | false=>rfl
     | true =>
      have:=apart_cut last l j (by have:=HLEN.out;omega) h;rw [HZ.out.1,HZ.out.2] at this;omega)
    go_wp2;go_ret;exact ⟨ret_bool (by rw [HF.out]),HBw.out⟩
   ·have HQ2:Hid (∀ q,q<j+1→last.getD (l.getD q 0).toNat 0<l.getD (q+1) 0):=Lib.hid (fun q hq=>by
     by_cases hqj:q=j
     ·rw [hqj,HZ.out.1,HZ.out.2];omega
     ·exact HQ.out q (by omega))
    go_wp2;go_roundw
    case rel=>exact ⟨j+1,by omega,by go_num,HQ2,HB⟩
    case measure=>simp [intOf];omega
  ·have HF:Hid (apartB last l=true):=Lib.hid (apart_all last l (fun q hq=>HQ.out q (by have:=HLEN.out;omega)));go_wp2;go_ret;exact ⟨ret_bool (by rw [HF.out]),HBw.out⟩
end Go.Proofs.YtadnggecnjdhiaaGreat
namespace Go.Proofs.YtadnggecnjdhiaaGreat
open Go.RowKit Tx
attribute [local go_sem] Oper.semAt_some
def downK (k:Nat):List Nat:=(List.range' 2 (k-1)).reverse
theorem downK_succ (k:Nat) (h:2≤k):downK k=k::downK (k-1):=by
 unfold downK;rw [show k-1=(k-1-1)+1 by omega,List.range'_concat,List.reverse_append,show 2+1*(k-1-1)=k by omega];simp
theorem downK_one (k:Nat) (h:k≤1):downK k=[]:=by unfold downK;rw [show k-1=0 by omega];rfl
theorem lone_step {last:List Int} {n k:Nat} (h2:2≤k) (h:∀ L∈Tx.lists n k 0,apartB last L=false):loneGo last n (downK k)=loneGo last n (downK (k-1)):=by
 rw [downK_succ k h2,loneGo,List.find?_eq_none.2 (fun x hx=>by rw [h x hx];simp)]
theorem lone_hit {last:List Int} {n k:Nat} {pre post:List (List Int)} {L:List Int} (h2:2≤k) (hL:Tx.lists n k 0=pre++L::post) (h:∀ x∈pre,apartB last x=false) (hP:apartB last L=true):loneGo last n (downK k)=L:=by
 rw [downK_succ k h2,loneGo,hL,List.find?_append,List.find?_eq_none.2 (fun x hx=>by rw [h x hx];simp),List.find?_cons_of_pos hP];rfl
structure LoC (n cw:Nat) (pw:Option Addr) (v1 v2 mv:Value) (last:List Int) (LB:Nat) (w W:World) (C:Nat) (ds:List Deferred):Prop where
 wk:W.heap[w.heap.size]?=some (.cells #[.slice pw n cw,v1,v2,mv] 84 (0,0))
 r:W.heap[w.heap.size+1]?=some (.cells #[.slice none 0 0] 34 (0,0))
 la:W.heap[LB]?=some (.cells (arrOf last) 163 (0,0))
 bel:Below w.heap.size w W
 ends:Ends (LB+1) W C ds
 sz:w.heap.size+1+1≤LB∧LB+1≤W.heap.size∧C≤W.heap.size
theorem LoC.below {n cw:Nat} {pw:Option Addr} {v1 v2 mv:Value} {last:List Int} {LB:Nat} {w W W':World} {C:Nat} {ds:List Deferred} (h:LoC n cw pw v1 v2 mv last LB w W C ds) {B:Nat} (h3:LB+1≤B) (hC:C≤B) (hB:Below B W W'):LoC n cw pw v1 v2 mv last LB w W' C ds :=
 ⟨(hB.block _ (by have:=h.sz;omega)).trans h.wk,(hB.block _ (by have:=h.sz;omega)).trans h.r,(hB.block _ (by omega)).trans h.la,h.bel.trans (hB.mono (by have:=h.sz;omega)),h.ends.keep (fun k _ hk=>hB.block k (by omega)),
  ⟨h.sz.1,Nat.le_trans h.sz.2.1 hB.size,Nat.le_trans h.sz.2.2 hB.size⟩⟩
def LoHit (last:List Int) (n:Nat) (LB:Nat) (w:World) (B:Nat) (ds:List Deferred) (W:World):Prop :=
 ∃ L v,loneGo last n (downK n)=L∧W.heap[w.heap.size+1]?=some (.cells #[v] 34 (0,0)) ∧
  W.ownsRow (B+2) 3 1 v L.length (L.map (Value.int .i64))∧Below w.heap.size w W∧Ends (LB+1) W B ds∧w.heap.size+1+1≤LB∧LB+1≤B∧B≤W.heap.size
theorem LoHit.hold {last:List Int} {n LB:Nat} {w W W':World} {B:Nat} {ds:List Deferred} (h:LoHit last n LB w B ds W) (hh:Hold (fun k=>k≠B+1) W W'):LoHit last n LB w B ds W':=by
 obtain ⟨L,v,h1,h2,h4,h5,h6,h7,h7',h8⟩:=h;exact ⟨L,v,h1,(hh.same _ (by omega) (by omega)).trans h2,own_hold h4 hh (fun k hk=>by omega),h5.trans ((hh.mono (fun k hk _=>(by omega:k≠B+1)):Hold (fun k=>k<w.heap.size) W W').to_below (by omega)),h6.keep (fun k _ hk=>hh.same k (by omega) (by omega)),h7,h7',Nat.le_trans h8 hh.size⟩
set_option maxHeartbeats 4000000 in
set_option maxRecDepth 100000 in
theorem lone_any (may:Nat→Nat→Bool) (n cw:Nat) (hn1:1≤n) (hn12:n≤12) (pw:Option Addr) (v1 v2 mv:Value) (w:World) (hMay:MayAt mv may n (fun k=>k<w.heap.size) w) :
  Calls Tryz.prog 105 #[.agg #[.slice pw n cw,v1,v2,mv]] w (RowPost (loneR may n) w):=by
 obtain ⟨m,hm9⟩:∃ m:Nat,9≤m:=⟨9,Nat.le_refl _⟩;have HLT:=Lib.hid (fun W (h:Below w.heap.size w W)=>lastTogether_any may n cw hn12 pw v1 v2 mv W ((hMay.hold (.of_below h (fun _ h _=>h))).mono (fun j hj _=>by have:=h.size;omega)));have hl12:=(lastT_inv may n hn12).len;have hLR:loneR may n=loneGo (lastT may n) n (downK n):=rfl;rw [hLR];obtain ⟨last,hlast⟩:∃ last,last=lastT may n:=⟨_,rfl⟩;rw [← hlast] at HLT hl12 ⊢;obtain ⟨a0,a1,a2,a3,a4,a5,a6,a7,a8,a9,a10,a11,hae⟩:∃ a0 a1 a2 a3 a4 a5 a6 a7 a8 a9 a10 a11:Int,arrOf last=#[.int .i64 a0,.int .i64 a1,.int .i64 a2,.int .i64 a3,.int .i64 a4,.int .i64 a5,.int .i64 a6,.int .i64 a7,.int .i64 a8,.int .i64 a9,.int .i64 a10,.int .i64 a11]:=by
  match last,hl12 with
  | [b0,b1,b2,b3,b4,b5,b6,b7,b8,b9,b10,b11],_=>exact ⟨_,_,_,_,_,_,_,_,_,_,_,_,rfl⟩
 have HAE:=Lib.hid hae;clear hMay hLR hlast hae;refine (callsIn_wide (n:=m)).1 ?_;refine callsIn_of_wp_marks Tryz.func105 rfl trivial ?_ rfl;simp only [Tryz.ntmps105,List.size_toArray,List.length_cons,List.length_nil,Nat.reduceAdd,Nat.reduceSub,Array.replicate_succ,Array.replicate_zero,List.push_toArray,List.append_toArray,List.nil_append,List.cons_append]
 gi_wp2_with fail
 refine ⟨trivial,(fun h=>by cases h),?_⟩;refine (callsIn_wide.2 (HLT.out _ ((below1 _ _).alloc (by simp) _))).mono ?_;rintro e W2 ⟨rfl,hB2⟩;have hx2:=(hB2.block w.heap.size (by simp;omega)).trans (show ((w.alloc (.cells #[.slice pw n cw,v1,v2,mv] 84)).alloc (.cells #[.slice none 0 0] 34)).heap[w.heap.size]?=some (.cells #[.slice pw n cw,v1,v2,mv] 84 (0,0)) by rw [Below.heap_alloc _ _ _ (by simp)];exact heap_last _ _);have hr2:=(hB2.block (w.heap.size+1) (by simp)).trans (show ((w.alloc (.cells #[.slice pw n cw,v1,v2,mv] 84)).alloc (.cells #[.slice none 0 0] 34)).heap[w.heap.size+1]?=some (.cells #[.slice none 0 0] 34 (0,0)) by
  have:=heap_last (w.alloc (.cells #[.slice pw n cw,v1,v2,mv] 84)) (.cells #[.slice none 0 0] 34);rwa [World.size_alloc] at this)
 have hz2:w.heap.size+2≤W2.heap.size:=by have:=hB2.size;simp at this;omega
 have HB2:=Lib.hid (((below1 w (.cells #[.slice pw n cw,v1,v2,mv] 84)).alloc (by simp) (.cells #[.slice none 0 0] 34)).trans (hB2.mono (show w.heap.size≤_ by simp;omega)));have HX2:=Lib.hid hx2;have HR2:=Lib.hid hr2;have hsz:(arrOf last).size=12:=by rw [arrOf_size];exact hl12
 have HI:=Lib.hid (size_twelve hsz);have HON:=Lib.hid (arrOf_one last);clear hB2 hx2 hr2;obtain ⟨BA,hBA⟩:∃ BA,BA=arrOf last:=⟨_,rfl⟩;rw [← hBA] at HI HON hsz ⊢;have HBA:=Lib.hid hBA;have HSZ:=Lib.hid hsz;clear hBA hsz;have hst:=run_storeCells_new (P:=Tryz.prog) W2 163 #[.int .i64 0,.int .i64 0,.int .i64 0,.int .i64 0,.int .i64 0,.int .i64 0,.int .i64 0,.int .i64 0,.int .i64 0,.int .i64 0,.int .i64 0,.int .i64 0] BA HI.out (by rw [HSZ.out];rfl) HON.out;obtain ⟨k0,k1,k2,k3⟩:=blk4 HX2.out;have hqw:w.heap.size<W2.heap.size:=by omega
 gi_wp2_with fail
 clear hst k0 k1 k2 k3 hqw;have hA3:LoC n cw pw v1 v2 mv last W2.heap.size w (W2.alloc (.cells BA 163)) (W2.heap.size+1) []:=by
  refine ⟨(Below.heap_alloc _ _ _ (by omega)).trans HX2.out,(Below.heap_alloc _ _ _ (by omega)).trans HR2.out,by rw [heap_last,HBA.out],HB2.out.alloc (by omega) _,trivial,⟨by omega,by simp,by simp⟩⟩
 have hz3:(W2.alloc (.cells BA 163)).heap.size=W2.heap.size+1:=by simp
 generalize W2.alloc (.cells BA 163)=W3 at hA3 hz3 ⊢;obtain ⟨LB,hLB⟩:∃ LB,LB=W2.heap.size:=⟨_,rfl⟩;rw [← hLB] at hA3 hz3;rw [← hLB];have hLB2:w.heap.size+2≤LB:=by omega
 clear hLB HB2 HX2 HR2 hz2;refine wpIn_loop (fun a' w'=>∃ (k C:Nat) (ds:List Deferred) (u5 u6 u7 u8 u9 u10 u11 u12 u13 u14 u15 u16 u17 u18 u19 u20 u21 u22 u23 u24 u25:Value),1≤k∧k≤n∧a'={ tmps:=#[.agg #[.slice pw n cw,v1,v2,mv],.pointer (some ⟨w.heap.size,0,none⟩),.pointer (some ⟨w.heap.size+1,0,none⟩),.pointer (some ⟨LB,0,none⟩),.int .i64 k,u5,u6,u7,u8,u9,u10,u11,u12,u13,u14,u15,u16,u17,u18,u19,u20,u21,u22,u23,u24,u25],defers:=ds }∧loneGo last n (downK k)=loneGo last n (downK n)∧LoC n cw pw v1 v2 mv last LB w w' C ds) (fun a' _=>(intOf (a'.tmps.getD 4 undef)).toNat) ⟨n,_,[],_,_,_,_,_,_,_,_,_,_,_,_,_,_,_,_,_,_,_,_,_,hn1,Nat.le_refl _,rfl,rfl,hA3⟩ ?_;clear hA3;rintro a' wr ⟨k,C,ds,u5,u6,u7,u8,u9,u10,u11,u12,u13,u14,u15,u16,u17,u18,u19,u20,u21,u22,u23,u24,u25,hk1,hk2,rfl,hgo,hA⟩;have HGO:=Lib.hid hgo;have HA:=Lib.hid hA;have hsz0:=hA.sz;obtain ⟨f0,f1,f2,f3⟩:=blk4 hA.wk;have hs0:w.heap.size<wr.heap.size:=by omega
 clear hA hgo;by_cases hlt:1<k
 ·have hlt':(k:Int) > 1:=by omega
  gi_wp2_with fail
  refine ⟨trivial,(fun h=>by cases h),?_⟩;refine (callsIn_wide.2 (lists_any _ _ _ _ _ _)).mono ?_;rintro e W4 ⟨rfl,hW4⟩;have hB4:Below wr.heap.size wr W4:=by rw [← hW4];exact (below1 _ _).alloc (by simp) _
  have hs4:W4.heap.size=wr.heap.size+2:=by rw [← hW4];simp
  have h41:W4.heap[wr.heap.size+1]?=some (.cells #[.int .i64 k] 3 (0,0)):=by
   rw [← hW4];have:=heap_last (wr.alloc (Obj.cells #[.slice pw n cw,v1,v2,mv] 84)) (Obj.cells #[Value.int IntKind.i64 k] 3);rwa [World.size_alloc] at this
  have h42:W4.heap[wr.heap.size]?=some (.cells #[.slice pw n cw,v1,v2,mv] 84 (0,0)):=by
   rw [← hW4,Below.heap_alloc _ _ _ (by simp)];exact heap_last _ _
  have hA4:=HA.out.below (B:=wr.heap.size) hsz0.2.1 hsz0.2.2 hB4;have hC4:=HA.out.sz.2.2;clear hW4 f0 f1 f2 f3
  gi_wp2_with fail
  refine range_of (gf:=141) (lb:=#[.pointer (some ⟨wr.heap.size+1,0,none⟩),.pointer (some ⟨wr.heap.size,0,none⟩)]) rfl (enters_of Tryz.func141 (by kernel_rfl) rfl)
   (lists1_seq (m-1) n cw k hn12 (by omega) pw _ _ mv _ _ W4 (fun j=>j≠w.heap.size+1) ⟨by omega,by omega⟩ h41 h42) (Below.refl _ _) (fun x vs W h=>by obtain ⟨g,h,_⟩:=h;rw [h];rfl)
   (fun pre W'=>LoC n cw pw v1 v2 mv last LB w W' W4.heap.size ds∧(∀ L∈pre,apartB last L=false)∧W4.heap.size≤W'.heap.size)
   (fun c _ W'=>c=.ret∧LoHit last n LB w W4.heap.size ds W') ?leI ?leX ⟨⟨hA4.wk,hA4.r,hA4.la,hA4.bel,hA4.ends.mono (by omega),⟨by omega,by omega,Nat.le_refl _⟩⟩,(fun _ h=>by simp at h),Nat.le_refl _⟩ ?round ?done ?stop
  case leI =>
   rintro s' X Y ⟨i1,i2,i3⟩ hb;exact ⟨i1.below (by omega) (Nat.le_refl _) hb,i2,Nat.le_trans i3 hb.size⟩
  case leX =>
   rintro c s' X r ⟨rfl,h⟩;exact ⟨rfl,h.hold (hold_putObj _ _ _)⟩
  case stop =>
   rintro D c pre W' rfl ⟨rfl,h⟩ hK;obtain ⟨L,v,h1,h2,h4,h5,h6,h7,h7',h8⟩:=h;have hDl:=(Array.getElem?_eq_some_iff.1 hK).1;clear hA4 h41 h42 hB4
   gi_wp2
   refine leaves_ends2 (B:=LB+1) (by simp) _ (W4.heap.size+1) W' ⟨_,rfl,h7',Nat.lt_succ_self _,hK,h6⟩ (by omega) (fun w' hh=>?_);rw [h1];have c0:=blk_cells ((hh.same _ (.inl (by omega)) (by omega)).trans h2) 0 _ rfl;refine ⟨v,by simp [results,Tryz.results105,go_sem,c0],v,rfl,own_base (own_hold (base:=W4.heap.size+2) h4 hh (fun k hk=>.inr (by omega))) (by omega),h5.trans ((hh.mono (fun k hk _=>(.inl (by omega):k<LB+1∨W4.heap.size+1≤k)):Hold (fun k=>k<w.heap.size) W' w').to_below (by omega))⟩
  case done =>
   rintro D W' rfl ⟨i1,i2,i3⟩ hK;have hDl:=(Array.getElem?_eq_some_iff.1 hK).1;have hst:=lone_step (by omega) i2;have hsubk:IntKind.i64.wrap ((k:Int)-1)=((k-1:Nat):Int):=by rw [IntWalk.i64_in _ (by omega)];omega
   clear hA4 h41 h42 hB4
   gi_wp2
   refine ⟨⟨k-1,W'.heap.size,_,_,_,_,_,_,_,_,_,_,_,_,_,_,_,_,_,_,_,_,_,_,by omega,by omega,rfl,by rw [← hst];exact HGO.out,⟨i1.wk,i1.r,i1.la,i1.bel,⟨W4.heap.size,rfl,by omega,hDl,hK,i1.ends⟩,⟨i1.sz.1,i1.sz.2.1,Nat.le_refl _⟩⟩⟩,?_⟩;simp [intOf];omega
  case round =>
   rintro lq pre L post vs W5 hl1 hl2 ho hL ⟨g,rfl,hLm,hLg⟩ ⟨i1,i2,i3⟩;have hin:=lists_in n k 0 L (by rw [hL];simp);clear i1 i3 hA4 h41 h42 hB4
   gi_wp2
   refine ⟨Below.refl _ _,?_⟩;rintro Wb hg hsz ⟨j1,j2,j3⟩;have hLb:=ints_grown hLg hg (fun r e=>by cases e;exact ho);have hz5:LB+1≤Wb.heap.size∧W4.heap.size+2≤Wb.heap.size∧LB+1≤W4.heap.size:=by omega
   have HAP:Hid (∀ W,Below Wb.heap.size Wb W→Calls Tryz.prog 132 #[.slice (some ⟨g,0,none⟩) k k,.agg (arrOf last)] W fun e w'=>e=.returned (.bool (apartB last L))∧Below W.heap.size W w'):=Lib.hid (fun W h=>by
    rcases hLb.below h with h0 | ⟨b,o,hp,hl,hc⟩
    ·rw [h0] at hLm;simp at hLm;omega
    ·cases hp;exact apart_any last L hl12 k hLm (by omega) (by omega) (fun x hx=>by have:=hin.2 x hx;omega) g 0 W hl hc)
   have HHIT:Hid (apartB last L=true→loneGo last n (downK n)=L):=Lib.hid (fun hp=>HGO.out ▸ lone_hit (by omega) hL j2 hp);have HCL:Hid (∀ W,Below Wb.heap.size Wb W→Calls Tryz.prog 121 #[.slice (some ⟨g,0,none⟩) k k] W fun e w'=>∃ g' c',e=.returned (.slice (some ⟨g',0,none⟩) k c')∧w'.ownsRow W.heap.size 3 1 (.slice (some ⟨g',0,none⟩) k c') L.length (L.map (Value.int .i64))∧Below W.heap.size W w'):=Lib.hid (fun W h=>by
    rcases hLb.below h with h0 | ⟨b,o,hp,hl,hc⟩
    ·subst h0;simp at hLm;omega
    ·cases hp;refine (Tryz.slices_Clone_int g 0 k k L W (by omega) (by omega) (fun j hj=>hc j hj)).mono ?_;rintro e w' ⟨v',rfl,hown,-,hb⟩;obtain ⟨g',c',rfl,-⟩:=hown.form (by omega);have ht:L.take k=L:=List.take_of_length_le (by omega);rw [ht] at hown;exact ⟨g',c',rfl,by rw [hLm];exact hown,hb⟩)
   have HLAb:=Lib.hid j1.la;have J1:=Lib.hid j1;have J2:=Lib.hid j2;have HLM:=Lib.hid hLm;clear j1 j2 hLg hLb hin hg i2 hs4;rw [HAE.out] at HAP HLAb;generalize hap:apartB last L=ap at HAP HHIT;have HAPE:=Lib.hid hap;clear hap;have y0:=blk_cells HLAb.out 0 _ rfl;have y1:=blk_cells HLAb.out 1 _ rfl;have y2:=blk_cells HLAb.out 2 _ rfl;have y3:=blk_cells HLAb.out 3 _ rfl;have y4:=blk_cells HLAb.out 4 _ rfl;have y5:=blk_cells HLAb.out 5 _ rfl;have y6:=blk_cells HLAb.out 6 _ rfl;have y7:=blk_cells HLAb.out 7 _ rfl;have y8:=blk_cells HLAb.out 8 _ rfl;have y9:=blk_cells HLAb.out 9 _ rfl;have y10:=blk_cells HLAb.out 10 _ rfl;have y11:=blk_cells HLAb.out 11 _ rfl
   gi_wp2_with fail
   refine ⟨trivial,(fun h=>by cases h),?_⟩;refine (callsIn_wide.2 (HAP.out _ (Below.refl _ _))).mono ?_;rintro e w' ⟨rfl,hG⟩
   ·clear y0 y1 y2 y3 y4 y5 y6 y7 y8 y9 y10 y11;have hz9:=hG.size;have HG9:=Lib.hid hG;clear hG;cases ap with
    | false =>
     gi_wp2
     refine ⟨Hold.below HG9.out,J1.out.below (B:=Wb.heap.size) (by omega) (by omega) HG9.out,fun y hy=>?_,by omega⟩;rcases List.mem_append.1 hy with hy | hy
     ·exact J2.out y hy
     ·rw [List.mem_singleton.1 hy];exact HAPE.out
    | true =>
     have hr4:=(HG9.out.block (w.heap.size+1) (by omega)).trans J1.out.r
     gi_wp2_with fail
     refine ⟨trivial,(fun h=>by cases h),?_⟩;refine (callsIn_wide.2 (HCL.out _ HG9.out)).mono ?_;rintro e w9 ⟨g',c',rfl,hown,hb9⟩;have hs9:=hb9.size;have hr4':=(hb9.block (w.heap.size+1) (by omega)).trans hr4;have y4:=blk_cells hr4' 0 _ rfl;have z4:w9.frozen? ⟨w.heap.size+1,0,none⟩=false:=by simp [World.frozen?,hr4']
     have HR4:=Lib.hid hr4';have HO:=Lib.hid hown;have HB9:=Lib.hid hb9;clear hr4 hr4' hown hb9
     gi_wp2
     have g4:(w9.setCell ⟨w.heap.size+1,0,none⟩ (.slice (some ⟨g',0,none⟩) k c')).heap[w.heap.size+1]?=some (.cells #[.slice (some ⟨g',0,none⟩) k c'] 34 (0,0)):=heap_set_same _ HR4.out;have hH:Hold (fun j=>j≠w.heap.size+1) w9 (w9.setCell ⟨w.heap.size+1,0,none⟩ (.slice (some ⟨g',0,none⟩) k c')):=Hold.setCell _ _ _ (fun h=>h rfl);have hHb:=Hold.trans (Hold.below (join HG9.out HB9.out)) hH;refine ⟨hHb.mono (fun j hj _=>by rcases hj with h | h <;> omega),rfl,L,_,HHIT.out (by first | rfl | trivial),g4,own_hold (own_base HO.out (by omega)) hH (fun j hj=>by omega),?_,J1.out.ends.keep (fun j h1 h2=>hHb.same j (by omega) (by omega)),by omega,by omega,by have:=hHb.size;omega⟩
     exact J1.out.bel.trans ((hHb.mono (fun j hj _=>(by omega:j≠w.heap.size+1)):Hold (fun j=>j<w.heap.size) Wb _).to_below (by omega))
 ·obtain rfl:k=1:=by omega
  have hone:loneGo last n (downK n)=[0]:=by rw [← HGO.out,downK_one 1 (Nat.le_refl _)];rfl
  have HR4:=Lib.hid HA.out.r;have c0:=blk_cells HA.out.r 0 _ rfl;have z4:wr.frozen? ⟨w.heap.size+1,0,none⟩=false:=by simp [World.frozen?,HA.out.r]
  have hsr:w.heap.size+1<wr.heap.size:=by omega
  gi_wp2
  have hC:=HA.out.sz.2.2;have g4:((wr.setCell ⟨w.heap.size+1,0,none⟩ (.slice (some ⟨wr.heap.size,0,none⟩) 1 1)).alloc (.cells #[.int .i64 0] 3)).heap[w.heap.size+1]?=some (.cells #[.slice (some ⟨wr.heap.size,0,none⟩) 1 1] 34 (0,0)) :=
   (Below.heap_alloc _ _ _ (by simpa using hsr)).trans (heap_set_same _ HR4.out)
  have g5:((wr.setCell ⟨w.heap.size+1,0,none⟩ (.slice (some ⟨wr.heap.size,0,none⟩) 1 1)).alloc (.cells #[.int .i64 0] 3)).heap[wr.heap.size]?=some (.cells #[.int .i64 0] 3 (0,0)):=by
   have:=heap_last (wr.setCell ⟨w.heap.size+1,0,none⟩ (.slice (some ⟨wr.heap.size,0,none⟩) 1 1)) (.cells #[.int .i64 0] 3)
   simpa using this
  have hH:Hold (fun j=>j≠w.heap.size+1) wr ((wr.setCell ⟨w.heap.size+1,0,none⟩ (.slice (some ⟨wr.heap.size,0,none⟩) 1 1)).alloc (.cells #[.int .i64 0] 3)):=(Hold.setCell _ _ _ (fun h=>h rfl)).trans (Hold.below (below1 _ _));have hsz9:((wr.setCell ⟨w.heap.size+1,0,none⟩ (.slice (some ⟨wr.heap.size,0,none⟩) 1 1)).alloc (.cells #[.int .i64 0] 3)).heap.size=wr.heap.size+1:=by simp
  refine leaves_ends2 (B:=LB+1) (by simp) _ C _ (HA.out.ends.keep (fun j h1 h2=>hH.same j (by omega) (by omega))) (by omega) (fun w' hh=>?_);have d0:=blk_cells ((hh.same _ (.inl (by omega)) (by omega)).trans g4) 0 _ rfl;have d1:=(hh.same wr.heap.size (.inr (by omega)) (by omega)).trans g5;rw [hone];refine ⟨.slice (some ⟨wr.heap.size,0,none⟩) 1 1,by simp [results,Tryz.results105,go_sem,d0],_,rfl,⟨rfl,.inr ⟨wr.heap.size,1,#[.int .i64 0],rfl,by omega,d1,Nat.le_refl _,by unfold maxLen;omega,rfl,rfl⟩⟩,?_⟩;exact HA.out.bel.trans (((hH.mono (fun j hj _=>(by omega:j≠w.heap.size+1)):Hold (fun j=>j<w.heap.size) wr _).trans (hh.mono (fun j hj _=>(.inl (by omega):j<LB+1∨C≤j)))).to_below (by omega))
def loneL (t:Text):List Int:=if t.err=0 then loneR t.right t.words.length else []
set_option maxHeartbeats 800000 in
theorem Lone_any (t:Text) (hl1:t.words.length≤1000000) (hl2:t.turns.length≤1000000) (pw pt:Option Addr) (cw ct:Nat) (hcw:t.words.length≤cw∧cw≤maxLen) (w:World) (hW:TxAt w t pw pt) :
  Calls Tryz.prog 58 #[.agg #[.slice pw t.words.length cw,.slice pt t.turns.length ct,.int .i64 t.breath]] w (ListPost (loneL t) t.err w):=by
 by_cases he:t.err=0
 ·have ok:=err_ok he;have h1:loneL t=loneR t.right t.words.length:=if_pos he;rw [h1,he];have HS:=Lib.hid (fun W (h:Below w.heap.size w W)=>open_ok t he pw pt cw ct W (hW.below h));have HF:=Lib.hid (fun W (h:Below w.heap.size w W)=>lone_any t.right t.words.length cw ok.n1 ok.n12 pw (.slice pt t.turns.length ct) (.int .i64 t.breath) _ W (right_may t pw pt cw ct .nilFunc W ⟨ok,hW.below h,hcw⟩));clear hW he h1 ok
  go_enter Tryz.func58,Tryz.ntmps58
  go_wp2_with fail
  refine (HS.out _ (below1 _ _)).mono ?_;rintro e w5 ⟨rfl,hB5⟩;have HB5:=Lib.hid (join (below1 _ _) hB5);clear hB5;go_wp2_with fail
  refine (HF.out _ (join HB5.out (below1 _ _))).mono ?_;rintro e w6 ⟨v,rfl,hown,hB6⟩;have HO:=Lib.hid hown;have HB6:=Lib.hid hB6;clear hown hB6;go_wp2;go_ret2;have hz:=HB5.out.size;exact ⟨_,rfl,own_base HO.out (by simp;omega),join (join HB5.out (below1 _ _)) HB6.out⟩
 ·have h1:loneL t=[]:=if_neg he;rw [h1];have HS:=Lib.hid (fun W (h:Below w.heap.size w W)=>open_bad t he hl1 hl2 pw pt cw ct W (hW.below h));have HE:(t.err != 0)=true:=by simpa using he
  clear hW he h1;generalize t.err=er at HE HS ⊢
  go_enter Tryz.func58,Tryz.ntmps58
  go_wp2_with fail
  refine (HS.out _ (below1 _ _)).mono ?_;rintro e w5 ⟨rfl,hB5⟩;have HB5:=Lib.hid (join (below1 _ _) hB5);clear hB5;go_wp2;go_ret2;exact ⟨_,rfl,own_none _ _ _ _,join HB5.out (below1 _ _)⟩
end Go.Proofs.YtadnggecnjdhiaaGreat
namespace Go.Proofs.YtadnggecnjdhiaaGreat
open Go.RowKit Tx
attribute [local go_sem] Oper.semAt_some
def spRh1 (tv:Value) (gl ol n cl a b:Nat) (ki ma mb:Int) (g:Bool):Nat→List Value→Value→World→Prop
 | 0,_,v,_=>v=tv
 | 1,_,v,_=>v=.int .i64 (a:Int)
 | 2,_,v,_=>v=.int .i64 (b:Int)
 | 3,_,v,_=>v=.int .i64 ki
 | 4,_,v,_=>v=.bool true
 | 5,_,v,_=>v=.bool true
 | 6,_,v,_=>v=.slice (some ⟨gl,ol,none⟩) n cl
 | 7,_,v,_=>v=.int .i64 (b:Int)
 | 8,_,v,_=>v=.pointer (some ⟨gl,ol+b,none⟩)
 | 9,_,v,_=>v=.int .i64 mb
 | 10,_,v,_=>v=.slice (some ⟨gl,ol,none⟩) n cl
 | 11,_,v,_=>v=.int .i64 (a:Int)
 | 12,_,v,_=>v=.pointer (some ⟨gl,ol+a,none⟩)
 | 13,_,v,_=>v=.int .i64 ma
 | 14,_,v,_=>v=.int .i64 (ma+1)
 | 15,_,v,_=>v=.bool g
 | 16,_,v,_=>v=.bool g
 | _,_,_,_=>False
theorem spRh1_stable (tv:Value) (gl ol n cl a b:Nat) (ki ma mb:Int) (g:Bool):∀ i L v w w',spRh1 tv gl ol n cl a b ki ma mb g i L v w→Rs.Gr w w'→spRh1 tv gl ol n cl a b ki ma mb g i L v w':=by
 intro i L v w w' h hg
 match i with
 | 0=>exact h
 | 1=>exact h
 | 2=>exact h
 | 3=>exact h
 | 4=>exact h
 | 5=>exact h
 | 6=>exact h
 | 7=>exact h
 | 8=>exact h
 | 9=>exact h
 | 10=>exact h
 | 11=>exact h
 | 12=>exact h
 | 13=>exact h
 | 14=>exact h
 | 15=>exact h
 | 16=>exact h
def spRh0 (tv:Value) (gl ol n cl a b:Nat) (ki ma mb:Int) (g:Bool):Nat→List Value→Value→World→Prop
 | 0,_,v,_=>v=tv
 | 1,_,v,_=>v=.int .i64 (a:Int)
 | 2,_,v,_=>v=.int .i64 (b:Int)
 | 3,_,v,_=>v=.int .i64 ki
 | 4,_,v,_=>v=.bool false
 | 5,_,v,_=>v=.bool false
 | 6,_,v,_=>v=undef
 | 7,_,v,_=>v=undef
 | 8,_,v,_=>v=undef
 | 9,_,v,_=>v=undef
 | 10,_,v,_=>v=undef
 | 11,_,v,_=>v=undef
 | 12,_,v,_=>v=undef
 | 13,_,v,_=>v=undef
 | 14,_,v,_=>v=undef
 | 15,_,v,_=>v=undef
 | 16,_,v,_=>v=.bool false
 | _,_,_,_=>False
theorem spRh0_stable (tv:Value) (gl ol n cl a b:Nat) (ki ma mb:Int) (g:Bool):∀ i L v w w',spRh0 tv gl ol n cl a b ki ma mb g i L v w→Rs.Gr w w'→spRh0 tv gl ol n cl a b ki ma mb g i L v w':=by
 intro i L v w w' h hg
 match i with
 | 0=>exact h
 | 1=>exact h
 | 2=>exact h
 | 3=>exact h
 | 4=>exact h
 | 5=>exact h
 | 6=>exact h
 | 7=>exact h
 | 8=>exact h
 | 9=>exact h
 | 10=>exact h
 | 11=>exact h
 | 12=>exact h
 | 13=>exact h
 | 14=>exact h
 | 15=>exact h
 | 16=>exact h
set_option maxHeartbeats 8000000 in
set_option maxRecDepth 100000 in
theorem rShows_any (t:Text) (l:List Int) (hl1:t.words.length≤1000000) (hl2:t.turns.length≤1000000) (hll:l.length≤100000) (pw pt pl:Option Addr) (cw ct cl:Nat) (w:World) (hW:TxAt w t pw pt) (hL:Ints w pl l) :
  Calls Tryz.prog 57 #[.agg #[.slice pw t.words.length cw,.slice pt t.turns.length ct,.int .i64 t.breath],.slice pl l.length cl] w fun e w' =>
   e=.returned (.tuple #[.int .i64 (shows t l).1,.int .i64 (shows t l).2])∧Below w.heap.size w w':=by
 have HC:=Lib.hid (fun W (h:Below w.heap.size w W)=>rCheck_any t hl1 hl2 pw pt cw ct W (hW.below h));have HB:=Lib.hid (below1 w (.cells #[.slice pw t.words.length cw,.slice pt t.turns.length ct,.int .i64 t.breath] 32));have HX:=Lib.hid (heap_last w (.cells #[.slice pw t.words.length cw,.slice pt t.turns.length ct,.int .i64 t.breath] 32));have HW:=Lib.hid hW;have HLI:=Lib.hid hL;have hz1:(w.alloc (.cells #[.slice pw t.words.length cw,.slice pt t.turns.length ct,.int .i64 t.breath] 32)).heap.size=w.heap.size+1:=by simp
 obtain ⟨k0,k1,k2⟩:=blk3 HX.out;clear hW hL
 go_enter Tryz.func57,Tryz.ntmps57
 go_wp2_with fail
 refine (HC.out _ HB.out).mono ?_;rintro e w5 ⟨rfl,hB5⟩;have HX5:=Lib.hid ((hB5.block w.heap.size (by omega)).trans HX.out);have HB5:=Lib.hid (join HB.out hB5);have hz5:w.heap.size<w5.heap.size:=by have:=hB5.size;omega
 clear hB5 k0 k1 k2 HX HB HC hz1;obtain ⟨k0,k1,k2⟩:=blk3 HX5.out;by_cases he:t.err=0
 ·have ok:=err_ok he;have hn1:=ok.n1;have hn12:=ok.n12;have HE:=Lib.hid he;have HOK:=Lib.hid ok;rw [he];clear he ok;by_cases hlen:l.length=t.words.length+1
  ·have hlen1:((l.length:Int) != (t.words.length:Int)+1)=false:=by rw [hlen];simp
   have HLEN:=Lib.hid hlen;rcases HLI.out with h0 | ⟨gl,ol,rfl,hgl0,hlc⟩
   ·rw [h0] at hlen;simp at hlen
   have HLC:=Lib.hid (show ∀ i,i<l.length→w5.cell? ⟨gl,ol+i,none⟩=some (.int .i64 (l.getD i 0)) from fun i hi=>(HB5.out.cell (p:=⟨gl,ol+i,none⟩) hgl0).trans (hlc i hi));have hgl5:gl<w5.heap.size:=by have:=HB5.out.size;omega
   clear hlc hlen HLI;go_wp2_with fail
   clear hlen1
   go_loopw [7] (fun i wr=>∃ k:Nat,k≤l.length∧i=.int .i64 k∧Hid (∀ j,j<k→btw (l.getD j 0) 0 99=true)∧Hid (w5=wr)) (fun i _=>l.length-(intOf i).toNat)
   case atStart=>exact ⟨0,Nat.zero_le _,rfl,Lib.hid (fun j hj=>absurd hj (Nat.not_lt_zero _)),Lib.hid rfl⟩
   case round=>as_aux_lemma =>
    obtain ⟨k,hk,rfl,HJ,HWR⟩:=hrel;have hwr0:=HWR.out;subst hwr0;by_cases hlt:k<l.length
    ·have hlt':(k:Int)<l.length:=by omega
     have hck:=HLC.out k hlt;obtain ⟨x,hx⟩:∃ x,x=l.getD k 0:=⟨_,rfl⟩;rw [← hx] at hck;have HXE:=Lib.hid hx;clear hx;go_wp2_with fail
     refine (off_any _ _ _ _).mono ?_;rintro e w6 ⟨rfl,rfl⟩;cases hb:btw x 0 99 with
     | false =>
      have HSH:Hid (shows t l=(0,3)):=Lib.hid (by
       unfold shows;rw [if_neg (by simp [HE.out]),if_neg (by have:=HLEN.out;omega),if_pos (List.any_eq_true.2 ⟨l.getD k 0,getD_mem 0 hlt,by rw [← HXE.out,hb];rfl⟩)])
      clear hb;go_wp2;go_ret2;exact ⟨by rw [HSH.out];rfl,HB5.out⟩
     | true =>
      have HJ2:Hid (∀ j,j<k+1→btw (l.getD j 0) 0 99=true):=Lib.hid (fun j hj=>by
       by_cases hjk:j=k
       ·rw [hjk,← HXE.out];exact hb
       ·exact HJ.out j (by omega))
      clear hb;go_wp2;go_roundw
      case rel=>exact ⟨k+1,by omega,by go_num,HJ2,(by first | trivial | exact Lib.hid rfl)⟩
      case measure=>simp [intOf];omega
    ·obtain rfl:k=l.length:=by omega
     have HSH:Hid (shows t l=if ((l.getD 0 0 == 0)&&okTo t l t.words.length)=false then (0,8) else (l.getD t.words.length 0,0)):=Lib.hid (by
      unfold shows;rw [if_neg (by simp [HE.out]),if_neg (by have:=HLEN.out;omega),if_neg (by
       intro h;obtain ⟨x,hx,hb⟩:=List.any_eq_true.1 h;obtain ⟨i,hi,rfl⟩:=List.mem_iff_getElem.1 hx;have:=HJ.out i hi;rw [show l.getD i 0=l[i] by simp [hi]] at this;rw [this] at hb;cases hb),okTo_hold t l hn12 HLEN.out])
     have HBD:=Lib.hid (show ∀ i,i<l.length→0≤l.getD i 0∧l.getD i 0≤99 from fun i hi=>btw_true (HJ.out i hi));have hc0:=HLC.out 0 (by have:=HLEN.out;omega);rw [Nat.add_zero] at hc0;have h0l:(0:Int)<(l.length:Int):=by have:=HLEN.out;omega
     obtain ⟨z,hz⟩:∃ z,z=l.getD 0 0:=⟨_,rfl⟩;rw [← hz] at hc0 HSH;clear hlt hk hz HJ;go_wp2_with fail
     clear hc0 h0l
     go_loopw [8,9] (fun h i wr=>∃ (a:Nat) (hb:Bool),a≤t.words.length∧i=.int .i64 a∧h=.bool hb∧Hid (hb=((z == 0)&&okTo t l a))∧Hid (Below w5.heap.size w5 wr)) (fun _ i _=>t.words.length-(intOf i).toNat)
     case atStart=>exact ⟨0,_,Nat.zero_le _,rfl,rfl,Lib.hid (by rw [okTo_zero,Bool.and_true]),Lib.hid (Below.refl _ _)⟩
     case round=>as_aux_lemma =>
      clear k0 k1 k2;obtain ⟨wb,rfl⟩:∃ wb:World,wb=wr:=⟨_,rfl⟩;obtain ⟨a,hb,ha,rfl,rfl,HHB,HBb⟩:=hrel;have hzb:=HBb.out.size;have HXb:=Lib.hid ((HBb.out.block w.heap.size hz5).trans HX5.out);obtain ⟨k0,k1,k2⟩:=blk3 HXb.out;by_cases han:a<t.words.length
      ·have han':(a:Int)<t.words.length:=by omega
       have HTO:=Lib.hid (okTo_succ t l a han);go_wp2_with fail
       go_loopw [8,10] (fun h i wr=>∃ (b:Nat) (hc:Bool),a+1≤b∧b≤t.words.length+1∧i=.int .i64 b∧h=.bool hc∧Hid (hc=(hb&&okRow t l a b))∧Hid (Below wb.heap.size wb wr)) (fun _ i _=>t.words.length+1-(intOf i).toNat)
       case atStart=>exact ⟨a+1,hb,Nat.le_refl _,by omega,by go_num,rfl,Lib.hid (by rw [okRow_zero,Bool.and_true]),Lib.hid (Below.refl _ _)⟩
       case round=>as_aux_lemma =>
        clear k0 k1 k2;obtain ⟨wc,rfl⟩:∃ wc:World,wc=wr:=⟨_,rfl⟩;obtain ⟨b,hc,hab,hbn,rfl,rfl,HHC,HBc⟩:=hrel;have hzc:=HBc.out.size;have HTX:=Lib.hid ((HBc.out.block w.heap.size (by omega)).trans HXb.out);obtain ⟨k0,k1,k2⟩:=blk3 HTX.out;by_cases hble:b≤t.words.length
        ·have hble':(b:Int)≤t.words.length:=by omega
         have HBw:=Lib.hid (join HBb.out HBc.out);have hTl:w.heap.size<wc.heap.size:=by omega
         have hgl:gl<wc.heap.size:=by omega
         have hlen:=HLEN.out;have HFT:=Lib.hid (fun W (h:Below wc.heap.size wc W)=>Fault_any t HOK.out a b (by omega) hble pw pt cw ct W (HW.out.below (join HB5.out (join HBw.out h))));have HCA:=Lib.hid ((HBw.out.cell (p:=⟨gl,ol+a,none⟩) hgl5).trans (HLC.out a (by omega)));have HCB:=Lib.hid ((HBw.out.cell (p:=⟨gl,ol+b,none⟩) hgl5).trans (HLC.out b (by omega)));have hbd:=HBD.out a (by omega);have hrow:=okRow_succ t l a b hab;have hki0:=kindI_right t a b;unfold gainB at hrow;obtain ⟨ma,hma⟩:∃ ma,ma=l.getD a 0:=⟨_,rfl⟩;obtain ⟨mb,hmb⟩:∃ mb,mb=l.getD b 0:=⟨_,rfl⟩;obtain ⟨ki,hkie⟩:∃ ki,ki=kindI t a b:=⟨_,rfl⟩;rw [← hma] at HCA hbd hrow;rw [← hmb] at HCB hrow;rw [← hkie] at HFT hki0;have HROW:=Lib.hid hrow;have hia:(a:Int)<(l.length:Int):=by omega
         have hib:(b:Int)<(l.length:Int):=by omega
         have hwr:IntKind.i64.wrap (ma+1)=ma+1:=IntWalk.i64_in _ (by omega);have hwr2:wrap64 (ma+1)=ma+1:=by unfold wrap64;omega
         clear hma hmb hkie hrow hlen hbd;cases hrt:t.right a b with
         | true =>
          rw [hrt,decide_eq_true_eq] at hki0;have hki:ki<0:=hki0;have HRW:Hid (okRow t l a (b+1)=(okRow t l a b&&!decide (ma+1<mb))):=Lib.hid (by rw [HROW.out,hrt,Bool.true_and]);clear hki0 hrt HROW;obtain ⟨gt,hgte⟩:∃ gt,gt=decide (ma+1<mb):=⟨_,rfl⟩;rw [← hgte] at HRW;have hgt:decide (mb > ma+1)=gt:=hgte.symm;have hgt2:decide (ma+1<mb)=gt:=hgte.symm;clear hgte;go_wp2_with fail
          refine Rs.region_gen 17 [[],[],[],[0,1,2],[0,1,2,3],[0,1,2,3,4],[0,1,2,3,4,5],[0,1,2,3,4,5],[0,1,2,3,4,5,6,7],[0,1,2,3,4,5,6,7,8],[0,1,2,3,4,5],[0,1,2,3,4,5],[0,1,2,3,4,5,10,11],[0,1,2,3,4,5,10,11,12],[0,1,2,3,4,5,10,11,12,13],[0,1,2,3,4,5,6,7,8,9,10,11,12,13,14],[0,1,2,3,4,5,6,7,8,9,10,11,12,13,14,15]] [some 54,some 55,some 56,some 57,some 58,some 59,some 60,some 61,some 62,some 63,some 64,some 65,some 66,some 67,some 68,some 69,some 70] (spRh1 (.agg #[.slice pw t.words.length cw,.slice pt t.turns.length ct,.int .i64 t.breath]) gl ol l.length cl a b ki ma mb gt) (by kernel_rfl) (by kernel_rfl) rfl (spRh1_stable _ _ _ _ _ _ _ _ _ _ _) ?_ ?_
          ·refine ⟨fun V w' hG hs=>?_,fun V w' hG hs=>?_,fun V w' hG hs=>?_,fun V w' hG hs=>?_,fun V w' hG hs=>?_,fun V w' hG hs=>?_,fun V w' hG hs=>?_,fun V w' hG hs=>?_,fun V w' hG hs=>?_,fun V w' hG hs=>?_,fun V w' hG hs=>?_,fun V w' hG hs=>?_,fun V w' hG hs=>?_,fun V w' hG hs=>?_,fun V w' hG hs=>?_,fun V w' hG hs=>?_,fun V w' hG hs=>?_,trivial⟩
           all_goals
            obtain ⟨k0,k1,k2⟩:=blk3 ((hG.block w.heap.size hTl).trans HTX.out);have hca:=(hG.cell (p:=⟨gl,ol+a,none⟩) hgl).trans HCA.out;have hcb:=(hG.cell (p:=⟨gl,ol+b,none⟩) hgl).trans HCB.out
           ·rw [if_pos (by rfl)];exact Rs.GrowL.value (v:=(.agg #[.slice pw t.words.length cw,.slice pt t.turns.length ct,.int .i64 t.breath])) (w':=w') (by simp [go_sem,Rs.look,k0,k1,k2]) (Rs.Gr.refl _) rfl
           ·rw [if_pos (by rfl)];exact Rs.GrowL.value (v:=.int .i64 (a:Int)) (w':=w') (by simp [go_sem,Rs.look]) (Rs.Gr.refl _) rfl
           ·rw [if_pos (by rfl)];exact Rs.GrowL.value (v:=.int .i64 (b:Int)) (w':=w') (by simp [go_sem,Rs.look]) (Rs.Gr.refl _) rfl
           ·have e0:V 0=_:=hs 0 (by simp);have e1:V 1=_:=hs 1 (by simp);have e2:V 2=_:=hs 2 (by simp);rw [if_pos (by rfl)];refine Rs.GrowL.call (f:=49) (args:=#[.agg #[.slice pw t.words.length cw,.slice pt t.turns.length ct,.int .i64 t.breath],.int .i64 (a:Int),.int .i64 (b:Int)]) (by simp [go_sem,Rs.look,e0,e1,e2]) ?_;refine (HFT.out w' hG).mono ?_;rintro e w2 ⟨rfl,hB2⟩;exact ⟨_,rfl,hB2,rfl⟩
           ·have e0:V 0=_:=hs 0 (by simp);have e1:V 1=_:=hs 1 (by simp);have e2:V 2=_:=hs 2 (by simp);have e3:V 3=_:=hs 3 (by simp);rw [if_pos (by rfl)];exact Rs.GrowL.value (v:=.bool true) (w':=w') (by simp [go_sem,Rs.look,e0,e1,e2,e3,hki]) (Rs.Gr.refl _) rfl
           ·have e0:V 0=_:=hs 0 (by simp);have e1:V 1=_:=hs 1 (by simp);have e2:V 2=_:=hs 2 (by simp);have e3:V 3=_:=hs 3 (by simp);have e4:V 4=_:=hs 4 (by simp);rw [if_pos (by rfl)];exact Rs.GrowL.value (v:=.bool true) (w':=w') (by simp [go_sem,Rs.look,e0,e1,e2,e3,e4]) (Rs.Gr.refl _) rfl
           ·have e0:V 0=_:=hs 0 (by simp);have e1:V 1=_:=hs 1 (by simp);have e2:V 2=_:=hs 2 (by simp);have e3:V 3=_:=hs 3 (by simp);have e4:V 4=_:=hs 4 (by simp);have e5:V 5=_:=hs 5 (by simp);rw [if_pos (by simp [Rs.wantB,e5])];exact Rs.GrowL.value (v:=.slice (some ⟨gl,ol,none⟩) l.length cl) (w':=w') (by simp [go_sem,Rs.look,e0,e1,e2,e3,e4,e5]) (Rs.Gr.refl _) rfl
           ·have e0:V 0=_:=hs 0 (by simp);have e1:V 1=_:=hs 1 (by simp);have e2:V 2=_:=hs 2 (by simp);have e3:V 3=_:=hs 3 (by simp);have e4:V 4=_:=hs 4 (by simp);have e5:V 5=_:=hs 5 (by simp);rw [if_pos (by simp [Rs.wantB,e5])];exact Rs.GrowL.value (v:=.int .i64 (b:Int)) (w':=w') (by simp [go_sem,Rs.look,e0,e1,e2,e3,e4,e5]) (Rs.Gr.refl _) rfl
           ·have e0:V 0=_:=hs 0 (by simp);have e1:V 1=_:=hs 1 (by simp);have e2:V 2=_:=hs 2 (by simp);have e3:V 3=_:=hs 3 (by simp);have e4:V 4=_:=hs 4 (by simp);have e5:V 5=_:=hs 5 (by simp);have e6:V 6=_:=hs 6 (by simp);have e7:V 7=_:=hs 7 (by simp);rw [if_pos (by simp [Rs.wantB,e5])];exact Rs.GrowL.value (v:=.pointer (some ⟨gl,ol+b,none⟩)) (w':=w') (by simp [go_sem,Rs.look,e0,e1,e2,e3,e4,e5,e6,e7,hib]) (Rs.Gr.refl _) rfl
           ·have e0:V 0=_:=hs 0 (by simp);have e1:V 1=_:=hs 1 (by simp);have e2:V 2=_:=hs 2 (by simp);have e3:V 3=_:=hs 3 (by simp);have e4:V 4=_:=hs 4 (by simp);have e5:V 5=_:=hs 5 (by simp);have e6:V 6=_:=hs 6 (by simp);have e7:V 7=_:=hs 7 (by simp);have e8:V 8=_:=hs 8 (by simp);rw [if_pos (by simp [Rs.wantB,e5])];exact Rs.GrowL.value (v:=.int .i64 mb) (w':=w') (by simp [go_sem,Rs.look,e0,e1,e2,e3,e4,e5,e6,e7,e8,hcb]) (Rs.Gr.refl _) rfl
           ·have e0:V 0=_:=hs 0 (by simp);have e1:V 1=_:=hs 1 (by simp);have e2:V 2=_:=hs 2 (by simp);have e3:V 3=_:=hs 3 (by simp);have e4:V 4=_:=hs 4 (by simp);have e5:V 5=_:=hs 5 (by simp);rw [if_pos (by simp [Rs.wantB,e5])];exact Rs.GrowL.value (v:=.slice (some ⟨gl,ol,none⟩) l.length cl) (w':=w') (by simp [go_sem,Rs.look,e0,e1,e2,e3,e4,e5]) (Rs.Gr.refl _) rfl
           ·have e0:V 0=_:=hs 0 (by simp);have e1:V 1=_:=hs 1 (by simp);have e2:V 2=_:=hs 2 (by simp);have e3:V 3=_:=hs 3 (by simp);have e4:V 4=_:=hs 4 (by simp);have e5:V 5=_:=hs 5 (by simp);rw [if_pos (by simp [Rs.wantB,e5])];exact Rs.GrowL.value (v:=.int .i64 (a:Int)) (w':=w') (by simp [go_sem,Rs.look,e0,e1,e2,e3,e4,e5]) (Rs.Gr.refl _) rfl
           ·have e0:V 0=_:=hs 0 (by simp);have e1:V 1=_:=hs 1 (by simp);have e2:V 2=_:=hs 2 (by simp);have e3:V 3=_:=hs 3 (by simp);have e4:V 4=_:=hs 4 (by simp);have e5:V 5=_:=hs 5 (by simp);have e10:V 10=_:=hs 10 (by simp);have e11:V 11=_:=hs 11 (by simp);rw [if_pos (by simp [Rs.wantB,e5])];exact Rs.GrowL.value (v:=.pointer (some ⟨gl,ol+a,none⟩)) (w':=w') (by simp [go_sem,Rs.look,e0,e1,e2,e3,e4,e5,e10,e11,hia]) (Rs.Gr.refl _) rfl
           ·have e0:V 0=_:=hs 0 (by simp);have e1:V 1=_:=hs 1 (by simp);have e2:V 2=_:=hs 2 (by simp);have e3:V 3=_:=hs 3 (by simp);have e4:V 4=_:=hs 4 (by simp);have e5:V 5=_:=hs 5 (by simp);have e10:V 10=_:=hs 10 (by simp);have e11:V 11=_:=hs 11 (by simp);have e12:V 12=_:=hs 12 (by simp);rw [if_pos (by simp [Rs.wantB,e5])];exact Rs.GrowL.value (v:=.int .i64 ma) (w':=w') (by simp [go_sem,Rs.look,e0,e1,e2,e3,e4,e5,e10,e11,e12,hca]) (Rs.Gr.refl _) rfl
           ·have e0:V 0=_:=hs 0 (by simp);have e1:V 1=_:=hs 1 (by simp);have e2:V 2=_:=hs 2 (by simp);have e3:V 3=_:=hs 3 (by simp);have e4:V 4=_:=hs 4 (by simp);have e5:V 5=_:=hs 5 (by simp);have e10:V 10=_:=hs 10 (by simp);have e11:V 11=_:=hs 11 (by simp);have e12:V 12=_:=hs 12 (by simp);have e13:V 13=_:=hs 13 (by simp);rw [if_pos (by simp [Rs.wantB,e5])];exact Rs.GrowL.value (v:=.int .i64 (ma+1)) (w':=w') (by simp [go_sem,Rs.look,e0,e1,e2,e3,e4,e5,e10,e11,e12,e13,hwr]) (Rs.Gr.refl _) rfl
           ·have e0:V 0=_:=hs 0 (by simp);have e1:V 1=_:=hs 1 (by simp);have e2:V 2=_:=hs 2 (by simp);have e3:V 3=_:=hs 3 (by simp);have e4:V 4=_:=hs 4 (by simp);have e5:V 5=_:=hs 5 (by simp);have e6:V 6=_:=hs 6 (by simp);have e7:V 7=_:=hs 7 (by simp);have e8:V 8=_:=hs 8 (by simp);have e9:V 9=_:=hs 9 (by simp);have e10:V 10=_:=hs 10 (by simp);have e11:V 11=_:=hs 11 (by simp);have e12:V 12=_:=hs 12 (by simp);have e13:V 13=_:=hs 13 (by simp);have e14:V 14=_:=hs 14 (by simp);rw [if_pos (by simp [Rs.wantB,e5])];exact Rs.GrowL.value (v:=.bool gt) (w':=w') (by simp [go_sem,Rs.look,e0,e1,e2,e3,e4,e5,e6,e7,e8,e9,e10,e11,e12,e13,e14,hgt]) (Rs.Gr.refl _) rfl
           ·have e0:V 0=_:=hs 0 (by simp);have e1:V 1=_:=hs 1 (by simp);have e2:V 2=_:=hs 2 (by simp);have e3:V 3=_:=hs 3 (by simp);have e4:V 4=_:=hs 4 (by simp);have e5:V 5=_:=hs 5 (by simp);have e6:V 6=_:=hs 6 (by simp);have e7:V 7=_:=hs 7 (by simp);have e8:V 8=_:=hs 8 (by simp);have e9:V 9=_:=hs 9 (by simp);have e10:V 10=_:=hs 10 (by simp);have e11:V 11=_:=hs 11 (by simp);have e12:V 12=_:=hs 12 (by simp);have e13:V 13=_:=hs 13 (by simp);have e14:V 14=_:=hs 14 (by simp);have e15:V 15=_:=hs 15 (by simp);rw [if_pos (by rfl)];exact Rs.GrowL.value (v:=.bool gt) (w':=w') (by simp [go_sem,Rs.look,e0,e1,e2,e3,e4,e5,e6,e7,e8,e9,e10,e11,e12,e13,e14,e15]) (Rs.Gr.refl _) rfl
          ·intro V w' hG hs;have e0:V 0=_:=hs 0 (by omega);have e1:V 1=_:=hs 1 (by omega);have e2:V 2=_:=hs 2 (by omega);have e3:V 3=_:=hs 3 (by omega);have e4:V 4=_:=hs 4 (by omega);have e5:V 5=_:=hs 5 (by omega);have e6:V 6=_:=hs 6 (by omega);have e7:V 7=_:=hs 7 (by omega);have e8:V 8=_:=hs 8 (by omega);have e9:V 9=_:=hs 9 (by omega);have e10:V 10=_:=hs 10 (by omega);have e11:V 11=_:=hs 11 (by omega);have e12:V 12=_:=hs 12 (by omega);have e13:V 13=_:=hs 13 (by omega);have e14:V 14=_:=hs 14 (by omega);have e15:V 15=_:=hs 15 (by omega);have e16:V 16=_:=hs 16 (by omega);simp only [Rs.canon,Rs.dstOf,List.range_succ,List.range_zero,List.nil_append,List.cons_append,List.foldl_cons,List.foldl_nil,List.drop_succ_cons,List.drop_zero,List.drop_nil,List.getElem?_toArray,List.getElem?_cons_succ,List.getElem?_cons_zero,Option.bind_some,List.getD_cons_succ,List.getD_cons_zero];rw [e0,e1,e2,e3,e4,e5,e6,e7,e8,e9,e10,e11,e12,e13,e14,e15,e16];go_frame;clear e0 e1 e2 e3 e4 e5 e6 e7 e8 e9 e10 e11 e12 e13 e14 e15 e16 hs;have HGG:=Lib.hid (join HBc.out hG);clear hG hgt hgt2 hki hwr hwr2 hia hib;cases gt with
           | true =>
            go_wp2;go_roundw
            case rel=>exact ⟨b+1,false,by omega,by omega,by go_num,rfl,Lib.hid (by rw [HRW.out];simp),HGG⟩
            case measure=>simp [intOf];omega
           | false =>
            go_wp2;go_roundw
            case rel=>exact ⟨b+1,hc,by omega,by omega,by go_num,rfl,Lib.hid (by rw [HRW.out,HHC.out];simp),HGG⟩
            case measure=>simp [intOf];omega
         | false =>
          rw [hrt,decide_eq_false_iff_not] at hki0;have hki:¬ ki<0:=hki0;have HRW:Hid (okRow t l a (b+1)=okRow t l a b):=Lib.hid (by rw [HROW.out,hrt];simp);clear hki0 hrt HROW;obtain ⟨gt,hgte⟩:∃ gt:Bool,gt=true:=⟨_,rfl⟩;clear hgte;go_wp2_with fail
          refine Rs.region_gen 17 [[],[],[],[0,1,2],[0,1,2,3],[0,1,2,3,4],[0,1,2,3,4,5],[0,1,2,3,4,5],[0,1,2,3,4,5,6,7],[0,1,2,3,4,5,6,7,8],[0,1,2,3,4,5],[0,1,2,3,4,5],[0,1,2,3,4,5,10,11],[0,1,2,3,4,5,10,11,12],[0,1,2,3,4,5,10,11,12,13],[0,1,2,3,4,5,6,7,8,9,10,11,12,13,14],[0,1,2,3,4,5,6,7,8,9,10,11,12,13,14,15]] [some 54,some 55,some 56,some 57,some 58,some 59,some 60,some 61,some 62,some 63,some 64,some 65,some 66,some 67,some 68,some 69,some 70] (spRh0 (.agg #[.slice pw t.words.length cw,.slice pt t.turns.length ct,.int .i64 t.breath]) gl ol l.length cl a b ki ma mb gt) (by kernel_rfl) (by kernel_rfl) rfl (spRh0_stable _ _ _ _ _ _ _ _ _ _ _) ?_ ?_
          ·refine ⟨fun V w' hG hs=>?_,fun V w' hG hs=>?_,fun V w' hG hs=>?_,fun V w' hG hs=>?_,fun V w' hG hs=>?_,fun V w' hG hs=>?_,fun V w' hG hs=>?_,fun V w' hG hs=>?_,fun V w' hG hs=>?_,fun V w' hG hs=>?_,fun V w' hG hs=>?_,fun V w' hG hs=>?_,fun V w' hG hs=>?_,fun V w' hG hs=>?_,fun V w' hG hs=>?_,fun V w' hG hs=>?_,fun V w' hG hs=>?_,trivial⟩
           all_goals
            obtain ⟨k0,k1,k2⟩:=blk3 ((hG.block w.heap.size hTl).trans HTX.out);have hca:=(hG.cell (p:=⟨gl,ol+a,none⟩) hgl).trans HCA.out;have hcb:=(hG.cell (p:=⟨gl,ol+b,none⟩) hgl).trans HCB.out
           ·rw [if_pos (by rfl)];exact Rs.GrowL.value (v:=(.agg #[.slice pw t.words.length cw,.slice pt t.turns.length ct,.int .i64 t.breath])) (w':=w') (by simp [go_sem,Rs.look,k0,k1,k2]) (Rs.Gr.refl _) rfl
           ·rw [if_pos (by rfl)];exact Rs.GrowL.value (v:=.int .i64 (a:Int)) (w':=w') (by simp [go_sem,Rs.look]) (Rs.Gr.refl _) rfl
           ·rw [if_pos (by rfl)];exact Rs.GrowL.value (v:=.int .i64 (b:Int)) (w':=w') (by simp [go_sem,Rs.look]) (Rs.Gr.refl _) rfl
           ·have e0:V 0=_:=hs 0 (by simp);have e1:V 1=_:=hs 1 (by simp);have e2:V 2=_:=hs 2 (by simp);rw [if_pos (by rfl)];refine Rs.GrowL.call (f:=49) (args:=#[.agg #[.slice pw t.words.length cw,.slice pt t.turns.length ct,.int .i64 t.breath],.int .i64 (a:Int),.int .i64 (b:Int)]) (by simp [go_sem,Rs.look,e0,e1,e2]) ?_;refine (HFT.out w' hG).mono ?_;rintro e w2 ⟨rfl,hB2⟩;exact ⟨_,rfl,hB2,rfl⟩
           ·have e0:V 0=_:=hs 0 (by simp);have e1:V 1=_:=hs 1 (by simp);have e2:V 2=_:=hs 2 (by simp);have e3:V 3=_:=hs 3 (by simp);rw [if_pos (by rfl)];exact Rs.GrowL.value (v:=.bool false) (w':=w') (by simp [go_sem,Rs.look,e0,e1,e2,e3,hki]) (Rs.Gr.refl _) rfl
           ·have e0:V 0=_:=hs 0 (by simp);have e1:V 1=_:=hs 1 (by simp);have e2:V 2=_:=hs 2 (by simp);have e3:V 3=_:=hs 3 (by simp);have e4:V 4=_:=hs 4 (by simp);rw [if_pos (by rfl)];exact Rs.GrowL.value (v:=.bool false) (w':=w') (by simp [go_sem,Rs.look,e0,e1,e2,e3,e4]) (Rs.Gr.refl _) rfl
           ·have e0:V 0=_:=hs 0 (by simp);have e1:V 1=_:=hs 1 (by simp);have e2:V 2=_:=hs 2 (by simp);have e3:V 3=_:=hs 3 (by simp);have e4:V 4=_:=hs 4 (by simp);have e5:V 5=_:=hs 5 (by simp);rw [if_neg (by simp [Rs.wantB,e5])];rfl
           ·have e0:V 0=_:=hs 0 (by simp);have e1:V 1=_:=hs 1 (by simp);have e2:V 2=_:=hs 2 (by simp);have e3:V 3=_:=hs 3 (by simp);have e4:V 4=_:=hs 4 (by simp);have e5:V 5=_:=hs 5 (by simp);rw [if_neg (by simp [Rs.wantB,e5])];rfl
           ·have e0:V 0=_:=hs 0 (by simp);have e1:V 1=_:=hs 1 (by simp);have e2:V 2=_:=hs 2 (by simp);have e3:V 3=_:=hs 3 (by simp);have e4:V 4=_:=hs 4 (by simp);have e5:V 5=_:=hs 5 (by simp);have e6:V 6=_:=hs 6 (by simp);have e7:V 7=_:=hs 7 (by simp);rw [if_neg (by simp [Rs.wantB,e5])];rfl
           ·have e0:V 0=_:=hs 0 (by simp);have e1:V 1=_:=hs 1 (by simp);have e2:V 2=_:=hs 2 (by simp);have e3:V 3=_:=hs 3 (by simp);have e4:V 4=_:=hs 4 (by simp);have e5:V 5=_:=hs 5 (by simp);have e6:V 6=_:=hs 6 (by simp);have e7:V 7=_:=hs 7 (by simp);have e8:V 8=_:=hs 8 (by simp);rw [if_neg (by simp [Rs.wantB,e5])];rfl
           ·have e0:V 0=_:=hs 0 (by simp);have e1:V 1=_:=hs 1 (by simp);have e2:V 2=_:=hs 2 (by simp);have e3:V 3=_:=hs 3 (by simp);have e4:V 4=_:=hs 4 (by simp);have e5:V 5=_:=hs 5 (by simp);rw [if_neg (by simp [Rs.wantB,e5])];rfl
           ·have e0:V 0=_:=hs 0 (by simp);have e1:V 1=_:=hs 1 (by simp);have e2:V 2=_:=hs 2 (by simp);have e3:V 3=_:=hs 3 (by simp);have e4:V 4=_:=hs 4 (by simp);have e5:V 5=_:=hs 5 (by simp);rw [if_neg (by simp [Rs.wantB,e5])];rfl
           ·have e0:V 0=_:=hs 0 (by simp);have e1:V 1=_:=hs 1 (by simp);have e2:V 2=_:=hs 2 (by simp);have e3:V 3=_:=hs 3 (by simp);have e4:V 4=_:=hs 4 (by simp);have e5:V 5=_:=hs 5 (by simp);have e10:V 10=_:=hs 10 (by simp);have e11:V 11=_:=hs 11 (by simp);rw [if_neg (by simp [Rs.wantB,e5])];rfl
           ·have e0:V 0=_:=hs 0 (by simp);have e1:V 1=_:=hs 1 (by simp);have e2:V 2=_:=hs 2 (by simp);have e3:V 3=_:=hs 3 (by simp);have e4:V 4=_:=hs 4 (by simp);have e5:V 5=_:=hs 5 (by simp);have e10:V 10=_:=hs 10 (by simp);have e11:V 11=_:=hs 11 (by simp);have e12:V 12=_:=hs 12 (by simp);rw [if_neg (by simp [Rs.wantB,e5])];rfl
           ·have e0:V 0=_:=hs 0 (by simp);have e1:V 1=_:=hs 1 (by simp);have e2:V 2=_:=hs 2 (by simp);have e3:V 3=_:=hs 3 (by simp);have e4:V 4=_:=hs 4 (by simp);have e5:V 5=_:=hs 5 (by simp);have e10:V 10=_:=hs 10 (by simp);have e11:V 11=_:=hs 11 (by simp);have e12:V 12=_:=hs 12 (by simp);have e13:V 13=_:=hs 13 (by simp);rw [if_neg (by simp [Rs.wantB,e5])];rfl
           ·have e0:V 0=_:=hs 0 (by simp);have e1:V 1=_:=hs 1 (by simp);have e2:V 2=_:=hs 2 (by simp);have e3:V 3=_:=hs 3 (by simp);have e4:V 4=_:=hs 4 (by simp);have e5:V 5=_:=hs 5 (by simp);have e6:V 6=_:=hs 6 (by simp);have e7:V 7=_:=hs 7 (by simp);have e8:V 8=_:=hs 8 (by simp);have e9:V 9=_:=hs 9 (by simp);have e10:V 10=_:=hs 10 (by simp);have e11:V 11=_:=hs 11 (by simp);have e12:V 12=_:=hs 12 (by simp);have e13:V 13=_:=hs 13 (by simp);have e14:V 14=_:=hs 14 (by simp);rw [if_neg (by simp [Rs.wantB,e5])];rfl
           ·have e0:V 0=_:=hs 0 (by simp);have e1:V 1=_:=hs 1 (by simp);have e2:V 2=_:=hs 2 (by simp);have e3:V 3=_:=hs 3 (by simp);have e4:V 4=_:=hs 4 (by simp);have e5:V 5=_:=hs 5 (by simp);have e6:V 6=_:=hs 6 (by simp);have e7:V 7=_:=hs 7 (by simp);have e8:V 8=_:=hs 8 (by simp);have e9:V 9=_:=hs 9 (by simp);have e10:V 10=_:=hs 10 (by simp);have e11:V 11=_:=hs 11 (by simp);have e12:V 12=_:=hs 12 (by simp);have e13:V 13=_:=hs 13 (by simp);have e14:V 14=_:=hs 14 (by simp);have e15:V 15=_:=hs 15 (by simp);rw [if_pos (by rfl)];exact Rs.GrowL.value (v:=.bool false) (w':=w') (by simp [go_sem,Rs.look,e0,e1,e2,e3,e4,e5,e6,e7,e8,e9,e10,e11,e12,e13,e14,e15]) (Rs.Gr.refl _) rfl
          ·intro V w' hG hs;have e0:V 0=_:=hs 0 (by omega);have e1:V 1=_:=hs 1 (by omega);have e2:V 2=_:=hs 2 (by omega);have e3:V 3=_:=hs 3 (by omega);have e4:V 4=_:=hs 4 (by omega);have e5:V 5=_:=hs 5 (by omega);have e6:V 6=_:=hs 6 (by omega);have e7:V 7=_:=hs 7 (by omega);have e8:V 8=_:=hs 8 (by omega);have e9:V 9=_:=hs 9 (by omega);have e10:V 10=_:=hs 10 (by omega);have e11:V 11=_:=hs 11 (by omega);have e12:V 12=_:=hs 12 (by omega);have e13:V 13=_:=hs 13 (by omega);have e14:V 14=_:=hs 14 (by omega);have e15:V 15=_:=hs 15 (by omega);have e16:V 16=_:=hs 16 (by omega);simp only [Rs.canon,Rs.dstOf,List.range_succ,List.range_zero,List.nil_append,List.cons_append,List.foldl_cons,List.foldl_nil,List.drop_succ_cons,List.drop_zero,List.drop_nil,List.getElem?_toArray,List.getElem?_cons_succ,List.getElem?_cons_zero,Option.bind_some,List.getD_cons_succ,List.getD_cons_zero];rw [e0,e1,e2,e3,e4,e5,e6,e7,e8,e9,e10,e11,e12,e13,e14,e15,e16];go_frame;clear e0 e1 e2 e3 e4 e5 e6 e7 e8 e9 e10 e11 e12 e13 e14 e15 e16 hs;have HGG:=Lib.hid (join HBc.out hG);clear hG hki hwr hwr2 hia hib;go_wp2;go_roundw
           case rel=>exact ⟨b+1,hc,by omega,by omega,by go_num,rfl,Lib.hid (by rw [HRW.out];exact HHC.out),HGG⟩
           case measure=>simp [intOf];omega
        ·have hbe:b=t.words.length+1:=by omega
         have HNX:Hid (hc=((z == 0)&&okTo t l (a+1))):=Lib.hid (by rw [HHC.out,HHB.out,HTO.out,hbe,Bool.and_assoc]);clear hbe;go_wp2;go_roundw
         case rel=>exact ⟨a+1,hc,by omega,by go_num,rfl,HNX,Lib.hid (join HBb.out HBc.out)⟩
         case measure=>simp [intOf];omega
      ·have hae:a=t.words.length:=by omega
       have HFN:Hid (shows t l=if hb=false then (0,8) else (l.getD t.words.length 0,0)):=Lib.hid (by rw [HSH.out,HHB.out,hae]);have hlen:=HLEN.out;have hcn:=(HBb.out.cell (p:=⟨gl,ol+t.words.length,none⟩) hgl5).trans (HLC.out t.words.length (by omega));have hln:(t.words.length:Int)<(l.length:Int):=by omega
       obtain ⟨v,hv⟩:∃ v,v=l.getD t.words.length 0:=⟨_,rfl⟩;rw [← hv] at hcn HFN;have HBF:=Lib.hid (join HB5.out HBb.out);clear hae hlen hv HHB;cases hb with
       | false =>
        go_wp2;go_ret2;exact ⟨by rw [HFN.out];rfl,HBF.out⟩
       | true =>
        go_wp2;go_ret2;exact ⟨by rw [HFN.out];rfl,HBF.out⟩
  ·have hlen1:((l.length:Int) != (t.words.length:Int)+1)=true:=by
    rw [bne_iff_ne];omega
   have hlen2:¬ (l.length:Int)=(t.words.length:Int)+1:=by omega
   have HSH:Hid (shows t l=(0,2)):=Lib.hid (by unfold shows;rw [if_neg (by simp [HE.out]),if_pos hlen]);clear hlen;go_wp2;go_ret2;exact ⟨by rw [HSH.out];rfl,HB5.out⟩
 ·have HSH:Hid (shows t l=(0,t.err)):=Lib.hid (by unfold shows;rw [if_pos he]);have hne:(t.err != 0)=true:=by simpa using he
  generalize t.err=er at HSH hne ⊢;clear he;go_wp2;go_ret2;exact ⟨by rw [HSH.out];rfl,HB5.out⟩
end Go.Proofs.YtadnggecnjdhiaaGreat
namespace Go.Proofs.YtadnggecnjdhiaaGreat
open Go.RowKit Tx
set_option maxHeartbeats 2000000 in
set_option maxRecDepth 100000 in
theorem Shows_any (t:Text) (l:List Int) (hl1:t.words.length≤1000000) (hl2:t.turns.length≤1000000) (hll:l.length≤100000) (pw pt pl:Option Addr) (cw ct cl:Nat) (hcw:t.words.length≤cw∧cw≤maxLen) (w:World) (hW:TxAt w t pw pt) (hL:Ints w pl l) :
  Calls Tryz.prog 38 #[.agg #[.slice pw t.words.length cw,.slice pt t.turns.length ct,.int .i64 t.breath],.slice pl l.length cl] w fun e w' =>
   e=.returned (.tuple #[.int .i64 (shows t l).1,.int .i64 (shows t l).2])∧Below w.heap.size w w':=by
 by_cases he:t.err=0
 ·by_cases hlen:l.length=t.words.length+1
  ·by_cases hany:l.any (fun k=>!btw k 0 99)=true
   ·have hsh:shows t l=(0,3):=by
     unfold shows;rw [if_neg (by simp [he]),if_neg (by omega),if_pos hany]
    have HSH:=Lib.hid hsh;have HS:=Lib.hid (fun W (h:Below w.heap.size w W)=>open_ok t he pw pt cw ct W (hW.below h));have h3:errIf (fun k=>!btw k 0 99) l 3=3:=by rw [errIf,if_pos hany]
    have H3:=Lib.hid h3;have HI:=Lib.hid (fun W (h:Below w.heap.size w W)=>errIfI_any 89 entered_shows1 (fun k=>!btw k 0 99) l pl cl 3 W (by omega) (hL.below h) (fun W' _ u=>(shows1_any u W').mono fun e w' ⟨h1,h2⟩=>⟨h1,h2 ▸ Below.refl _ _⟩));have hlq:((l.length:Int) != (t.words.length:Int)+1)=false:=by rw [hlen];simp
    clear hsh h3 hany hW hL he hlen
    go_enter Tryz.func38,Tryz.ntmps38
    go_wp2_with fail
    refine (HS.out _ (below1 _ _)).mono ?_;rintro e w5 ⟨rfl,hB5⟩;have HB5:=Lib.hid (join (below1 _ _) hB5);clear hB5;go_wp2_with fail
    refine (end_any _ _ _ _ _ _ _).mono ?_;rintro e w6 ⟨rfl,hw6⟩;have hB6:Below w.heap.size w w6:=by rw [← hw6];exact join (join HB5.out (below1 _ _)) (below1 _ _)
    have HB6:=Lib.hid hB6;clear hw6 hB6;go_wp2_with fail
    refine (HI.out _ HB6.out).mono ?_;rintro e w7 ⟨rfl,hB7⟩;rw [H3.out];have HB7:=Lib.hid (join HB6.out hB7);clear hB7;go_wp2;go_ret2;exact ⟨by rw [HSH.out];rfl,HB7.out⟩
   ·exact Shows_in t l he hlen hany pw pt pl cw ct cl hcw w hW hL
  ·have hsh:shows t l=(0,2):=by
    unfold shows;rw [if_neg (by simp [he]),if_pos hlen]
   have HSH:=Lib.hid hsh;have HS:=Lib.hid (fun W (h:Below w.heap.size w W)=>open_ok t he pw pt cw ct W (hW.below h));have hlq:((l.length:Int) != (t.words.length:Int)+1)=true:=by rw [bne_iff_ne];omega
   have hlq2:¬ (l.length:Int)=(t.words.length:Int)+1:=by omega
   clear hsh hW hL he hlen
   go_enter Tryz.func38,Tryz.ntmps38
   go_wp2_with fail
   refine (HS.out _ (below1 _ _)).mono ?_;rintro e w5 ⟨rfl,hB5⟩;have HB5:=Lib.hid (join (below1 _ _) hB5);clear hB5;go_wp2_with fail
   refine (end_any _ _ _ _ _ _ _).mono ?_;rintro e w6 ⟨rfl,hw6⟩;have hB6:Below w.heap.size w w6:=by rw [← hw6];exact join (join HB5.out (below1 _ _)) (below1 _ _)
   have HB6:=Lib.hid hB6;clear hw6 hB6;go_wp2;go_ret2;exact ⟨by rw [HSH.out];rfl,HB6.out⟩
 ·have hsh:shows t l=(0,t.err):=by unfold shows;rw [if_pos he]
  have HSH:=Lib.hid hsh;have HS:=Lib.hid (fun W (h:Below w.heap.size w W)=>open_bad t he hl1 hl2 pw pt cw ct W (hW.below h));have HE:(t.err != 0)=true:=by simpa using he
  clear hW hL he hsh;generalize t.err=er at HE HS HSH ⊢
  go_enter Tryz.func38,Tryz.ntmps38
  go_wp2_with fail
  refine (HS.out _ (below1 _ _)).mono ?_;rintro e w5 ⟨rfl,hB5⟩;have HB5:=Lib.hid (join (below1 _ _) hB5);clear hB5;go_wp2;go_ret2;exact ⟨by rw [HSH.out];rfl,join HB5.out (below1 _ _)⟩
end Go.Proofs.YtadnggecnjdhiaaGreat
namespace Go.Proofs.YtadnggecnjdhiaaGreat
open Go.RowKit Tx
attribute [local go_sem] Oper.semAt_some
def spLtm (t:Text) (pw pt:Option Addr) (cw ct B:Nat) (l:List Int) (pl:Option Addr) (cl:Nat):Nat→List Value→Value→World→Prop
 | 0,_,v,_=>v=.agg #[.slice pw t.words.length cw,.slice pt t.turns.length ct,.int .i64 t.breath]
 | 1,L,v,w=>∃ p q c d,v=.agg #[.slice p t.words.length c,.slice q t.turns.length d,.int .i64 t.breath]∧w.ownsRow B 61 3 (.slice p t.words.length c) t.words.length (wcells t.words)∧w.ownsRow B 63 3 (.slice q t.turns.length d) t.turns.length (tcells t.turns)∧t.words.length≤c∧c≤maxLen
 | 2,_,v,_=>v=.agg #[.slice pw t.words.length cw,.slice pt t.turns.length ct,.int .i64 t.breath]
 | 3,L,v,w=>∃ p q c d,v=.agg #[.slice p t.words.length c,.slice q t.turns.length d,.int .i64 t.breath]∧w.ownsRow B 80 3 (.slice p t.words.length c) t.words.length (wcells t.words)∧w.ownsRow B 81 3 (.slice q t.turns.length d) t.turns.length (tcells t.turns)
 | 4,_,v,_=>v=.slice pl l.length cl
 | 5,L,v,w=>∃ p c,v=.slice p l.length c∧w.ownsRow B 3 1 (.slice p l.length c) l.length (l.map (Value.int .i64))
 | 6,L,v,w=>∃ p,v=.pointer (some ⟨p,0,none⟩)∧B≤p∧w.heap[p]?=some (.cells #[.slice none 0 0,.slice none 0 0,.int .i64 0] 25 (0,0))
 | 7,L,v,w=>∃ p,v=.pointer (some ⟨p,0,none⟩)∧B≤p∧w.heap[p]?=some (.cells #[.slice none 0 0,.slice none 0 0,.int .i64 0] 32 (0,0))
 | _,_,_,_=>False
theorem spLtm_stable (t:Text) (pw pt:Option Addr) (cw ct B:Nat) (l:List Int) (pl:Option Addr) (cl:Nat):∀ i L v w w',spLtm t pw pt cw ct B l pl cl i L v w→Rs.Gr w w'→spLtm t pw pt cw ct B l pl cl i L v w':=by
 intro i L v w w' h hg
 match i with
 | 0=>exact h
 | 1=>obtain ⟨p,q,c,d,h1,h2,h3,h4⟩:=h;exact ⟨p,q,c,d,h1,own_below h2 hg,own_below h3 hg,h4⟩
 | 2=>exact h
 | 3=>obtain ⟨p,q,c,d,h1,h2,h3⟩:=h;exact ⟨p,q,c,d,h1,own_below h2 hg,own_below h3 hg⟩
 | 4=>exact h
 | 5=>obtain ⟨p,c,h1,h2⟩:=h;exact ⟨p,c,h1,own_below h2 hg⟩
 | 6=>obtain ⟨p,h1,h2,h3⟩:=h;exact ⟨p,h1,h2,(hg.block p (Array.getElem?_eq_some_iff.1 h3).1).trans h3⟩
 | 7=>obtain ⟨p,h1,h2,h3⟩:=h;exact ⟨p,h1,h2,(hg.block p (Array.getElem?_eq_some_iff.1 h3).1).trans h3⟩
structure MarF (t:Text) (R:List (List Int)) (B:Nat):Prop where
 rr:rightsR t=R
 bb:bestLen R 0=B
 fe:fewE t=if B=0 then 6 else 0
 mz:B=0→markL t=[]
 mn:B≠0→(markL t).length≤100000∧shows t (markL t)=((B:Int),0)
 r12:R.length≤100000
 rp:∀ l∈R,l.length≤1000
 lo:loneL t=loneR t.right t.words.length
 ll:(loneL t).length≤1000000
theorem mar_facts {t:Text} (he:t.err=0):MarF t (rightsR t) (bestLen (rightsR t) 0):=by
 have ok:=err_ok he;have hn12:=ok.n12;have hR:=rightsR_eq ok he;obtain ⟨f1,f2,f3,f4⟩:=fewest_rights (may:=t.right) ok.n1 ok.n12;have hlo:loneL t=loneR t.right t.words.length:=if_pos he;have eE:fewE t=(Tx.fewest t.right t.words.length).2:=by unfold fewE;rw [if_pos he]
 have eL:fewL t=(Tx.fewest t.right t.words.length).1:=by unfold fewL;rw [if_pos he]
 have hfe:fewE t=if bestLen (rightsR t) 0=0 then 6 else 0:=by rw [eE,f2,hR]
 obtain ⟨s1,s2,s3,s4⟩:=loneR_spec t.right t.words.length ok.n1 ok.n12;refine ⟨rfl,rfl,hfe,fun h=>?_,fun h=>?_,?_,fun l hl=>?_,hlo,?_⟩
 ·rw [if_pos h] at hfe;unfold markL;rw [hfe];exact if_neg (by omega)
 ·rw [if_neg h] at hfe;have hm:=markL_len ok hfe;refine ⟨by omega,?_⟩;rw [(marks_show ok he hfe).2,eL,f1,hR]
 ·unfold rightsR;have h1:=List.length_filter_le (okR t) (compF t.words.length t.words.length);have h2:=Nat.le_trans (comp_len t.words.length t.words.length) (Nat.pow_le_pow_right (show 0<2 by omega) ok.n12);omega
 ·rw [hR] at hl;have h1:=(mem_rights.1 hl).1;have:=isum_ge h1.1;have:=h1.2;omega
 ·rw [hlo];rcases Incr.len s1 with h | h
  ·omega
  ·rw [h];simp
set_option maxHeartbeats 8000000 in
set_option maxRecDepth 100000 in
theorem TextMarks_any (t:Text) (l:List Int) (hm1:t.words.length≤9223372036854775807) (hm2:t.turns.length≤9223372036854775807) (hm3:l.length≤9223372036854775807) (pw pt pl:Option Addr) (cw ct cl:Nat) (w:World) (hW:TxAt w t pw pt) (hL:Ints w pl l) :
  Calls Tryz.prog 24 #[.agg #[.slice pw t.words.length cw,.slice pt t.turns.length ct,.int .i64 t.breath],.slice pl l.length cl] w fun e w'=>e=.returned (.bool true)∧Below w.heap.size w w':=by
 have HW:=Lib.hid hW;have HL:=Lib.hid hL;have HB0:=Lib.hid (below1 w (.cells #[.slice pw t.words.length cw,.slice pt t.turns.length ct,.int .i64 t.breath] 25));have HX0:=Lib.hid (heap_last w (.cells #[.slice pw t.words.length cw,.slice pt t.turns.length ct,.int .i64 t.breath] 25));have HG:=Lib.hid (fun W=>great_any t 8 hm1 hm2 pw pt cw ct W);have HN:=Lib.hid (great_no (t:=t) (n:=8));generalize greatB t 8=gb at HG HN;clear hW hL;cases gb with
 | true =>
  obtain ⟨k0,k1,k2⟩:=blk3 HX0.out
  go_enter Tryz.func24,Tryz.ntmps24
  go_wp2_with fail
  refine (HG.out _).mono ?_;rintro e w1 ⟨rfl,hB⟩;have HB1:=Lib.hid (join HB0.out hB);clear hB k0 k1 k2;go_wp2_with fail
  refine (awake_any w1).mono ?_;rintro e w2 ⟨rfl,hB⟩;have HB2:=Lib.hid (join HB1.out hB);clear hB;go_wp2;go_ret;exact ⟨rfl,HB2.out⟩
 | false =>
 have hn:=HN.out rfl;clear HN;by_cases hgt:30<l.length
 ·have hgt':(30:Int)<l.length:=by omega
  obtain ⟨k0,k1,k2⟩:=blk3 HX0.out
  go_enter Tryz.func24,Tryz.ntmps24
  go_wp2_with fail
  refine (HG.out _).mono ?_;rintro e w1 ⟨rfl,hB⟩;have HB1:=Lib.hid (join HB0.out hB);clear hB k0 k1 k2;go_wp2_with fail
  refine (awake_any w1).mono ?_;rintro e w2 ⟨rfl,hB⟩;have HB2:=Lib.hid (join HB1.out hB);clear hB;go_wp2;go_ret;exact ⟨rfl,HB2.out⟩
 ·have hgt':¬ (30:Int)<l.length:=by omega
  have hl1:t.words.length≤1000000:=by omega
  have hl2:t.turns.length≤1000000:=by omega
  have hl3:l.length≤1000000:=by omega
  have CSH:=Lib.hid (fun p q r c d e hc W (h:TxAt W t p q) (hL:Ints W r l)=>Shows_any t l hl1 hl2 (by omega) p q r c d e hc W h hL);have CRS:=Lib.hid (fun p q r c d e W (h:TxAt W t p q) (hL:Ints W r l)=>rShows_any t l hl1 hl2 (by omega) p q r c d e W h hL);have CRS0:=Lib.hid (fun hll p q r c d e W (h:TxAt W t p q) (hL:Ints W r (markL t))=>rShows_any t (markL t) hl1 hl2 hll p q r c d e W h hL);have CMK:=Lib.hid (fun p q c d hc W (h:TxAt W t p q)=>Marks_any t hl1 hl2 p q c d hc W h);have CLO:=Lib.hid (fun p q c d hc W (h:TxAt W t p q)=>Lone_any t hl1 hl2 p q c d hc W h);have CCK:=Lib.hid (fun p q c d W (h:TxAt W t p q)=>rCheck_any t hl1 hl2 p q c d W h);generalize shows t l=sh at CSH CRS;obtain ⟨sn,se⟩:=sh;dsimp only at CSH CRS;obtain ⟨er,her⟩:∃ er,t.err=er:=⟨_,rfl⟩;rw [her] at CLO CCK;obtain ⟨k0,k1,k2⟩:=blk3 HX0.out
  go_enter Tryz.func24,Tryz.ntmps24
  go_wp2_with fail
  refine (HG.out _).mono ?_;rintro e w1 ⟨rfl,hB⟩;have HX1:=Lib.hid ((hB.block w.heap.size (Array.getElem?_eq_some_iff.1 HX0.out).1).trans HX0.out);have HB1:=Lib.hid (join HB0.out hB);have HZ0:w.heap.size<w1.heap.size:=(Array.getElem?_eq_some_iff.1 HX1.out).1;clear hB k0 k1 k2 HX0 HB0 HG;go_wp2_with fail
  refine Rs.region_gen 8 [[],[0],[],[0,1,2],[],[0,1,2,3,4],[],[]] [some 27,some 28,some 29,some 30,some 31,some 32,some 5,some 6] (spLtm t pw pt cw ct w1.heap.size l pl cl) (by kernel_rfl) (by kernel_rfl) rfl (spLtm_stable _ _ _ _ _ _ _ _ _) ?_ ?_
  ·refine ⟨fun V w' hG hs=>?_,fun V w' hG hs=>?_,fun V w' hG hs=>?_,fun V w' hG hs=>?_,fun V w' hG hs=>?_,fun V w' hG hs=>?_,fun V w' hG hs=>?_,fun V w' hG hs=>?_,trivial⟩
   all_goals
    obtain ⟨k0,k1,k2⟩:=blk3 ((hG.block w.heap.size HZ0).trans HX1.out)
   ·rw [if_pos (by rfl)];exact Rs.GrowL.value (v:=.agg #[.slice pw t.words.length cw,.slice pt t.turns.length ct,.int .i64 t.breath]) (w':=w') (by simp [go_sem,Rs.look,k0,k1,k2]) (Rs.Gr.refl _) rfl
   ·have e0:V 0=_:=hs 0 (by simp);rw [if_pos (by rfl)];refine Rs.GrowL.call (f:=7) (args:=#[.agg #[.slice pw t.words.length cw,.slice pt t.turns.length ct,.int .i64 t.breath]]) (by simp [go_sem,Rs.look,e0]) ?_;refine (lCopy_any t hl1 hl2 pw pt cw ct w' (HW.out.below (join HB1.out hG))).mono ?_;rintro e w2 ⟨g,h,rfl,o1,o2,hB2⟩;exact ⟨_,rfl,hB2,_,_,_,_,rfl,own_base o1 hG.size,own_base o2 hG.size,Nat.le_refl _,by unfold maxLen;omega⟩
   ·rw [if_pos (by rfl)];exact Rs.GrowL.value (v:=.agg #[.slice pw t.words.length cw,.slice pt t.turns.length ct,.int .i64 t.breath]) (w':=w') (by simp [go_sem,Rs.look,k0,k1,k2]) (Rs.Gr.refl _) rfl
   ·have e0:V 0=_:=hs 0 (by simp);have r1:=hs 1 (by simp);have e2:V 2=_:=hs 2 (by simp);rw [if_pos (by rfl)];refine Rs.GrowL.call (f:=8) (args:=#[.agg #[.slice pw t.words.length cw,.slice pt t.turns.length ct,.int .i64 t.breath]]) (by simp [go_sem,Rs.look,e2]) ?_;refine (theirs_any t hl1 hl2 pw pt cw ct w' (HW.out.below (join HB1.out hG))).mono ?_;rintro e w2 ⟨p,q,c,d,rfl,o1,o2,hB2⟩;exact ⟨_,rfl,hB2,_,_,_,_,rfl,own_base o1 hG.size,own_base o2 hG.size⟩
   ·rw [if_pos (by rfl)];exact Rs.GrowL.value (v:=.slice pl l.length cl) (w':=w') (by simp [go_sem,Rs.look]) (Rs.Gr.refl _) rfl
   ·have e0:V 0=_:=hs 0 (by simp);have r1:=hs 1 (by simp);have e2:V 2=_:=hs 2 (by simp);have r3:=hs 3 (by simp);have e4:V 4=_:=hs 4 (by simp);rw [if_pos (by rfl)];refine Rs.GrowL.call (f:=54) (args:=#[.slice pl l.length cl]) (by simp [go_sem,Rs.look,e4]) ?_;refine (Copy_ints l hl3 pl cl w' (HL.out.below (join HB1.out hG))).mono ?_;rintro e w2 ⟨v,rfl,ho,hB2⟩;obtain ⟨p,c,rfl⟩:=own_val ho;exact ⟨_,rfl,hB2,p,c,rfl,own_base ho hG.size⟩
   ·rw [if_pos (by rfl)];exact Rs.GrowL.value (v:=.pointer (some ⟨w'.heap.size,0,none⟩)) (w':=w'.alloc (.cells #[.slice none 0 0,.slice none 0 0,.int .i64 0] 25)) (by simp [go_sem,Rs.look]) (below1 _ _) ⟨_,rfl,hG.size,heap_last _ _⟩
   ·rw [if_pos (by rfl)];exact Rs.GrowL.value (v:=.pointer (some ⟨w'.heap.size,0,none⟩)) (w':=w'.alloc (.cells #[.slice none 0 0,.slice none 0 0,.int .i64 0] 32)) (by simp [go_sem,Rs.look]) (below1 _ _) ⟨_,rfl,hG.size,heap_last _ _⟩
  ·intro V w' hG hs;have e0:V 0=_:=hs 0 (by omega);have r1:=hs 1 (by omega);have e2:V 2=_:=hs 2 (by omega);have r3:=hs 3 (by omega);have e4:V 4=_:=hs 4 (by omega);have r5:=hs 5 (by omega);have r6:=hs 6 (by omega);have r7:=hs 7 (by omega);obtain ⟨p7,q7,a7,b7,e1,o1,o2,hcw⟩:=r1;obtain ⟨p8,q8,a8,b8,e3,o3,o4⟩:=r3;obtain ⟨p9,c9,e5,o9⟩:=r5;obtain ⟨c7,e6,hc7,x7⟩:=r6;obtain ⟨c8,e7,hc8,x8⟩:=r7;simp only [Rs.canon,Rs.dstOf,List.range_succ,List.range_zero,List.nil_append,List.cons_append,List.foldl_cons,List.foldl_nil,List.drop_succ_cons,List.drop_zero,List.drop_nil,List.getElem?_toArray,List.getElem?_cons_succ,List.getElem?_cons_zero,Option.bind_some,Act.put,List.getD_cons_succ,List.getD_cons_zero,List.setIfInBounds_toArray,List.set_cons_succ,List.set_cons_zero];rw [e0,e1,e2,e3,e4,e5,e6,e7];clear e0 e1 e2 e3 e4 e5 e6 e7 hs;have hne:c7≠c8:=fun e=>by rw [e,x8] at x7;injection x7 with h;injection h with _ h;cases h
   have hz2:=hG.size;have hz1:=HB1.out.size;have HBx:=Lib.hid (join HB1.out hG);have hAx:=(hG.block w.heap.size HZ0).trans HX1.out;have HLW:=Lib.hid (LwT.start hAx (by omega) (by omega) x7 x8 o1 o2 o3 o4 HW.out HBx.out (by omega) (by omega));have HBW:=Lib.hid (lwSet_bel HBx.out (show w.heap.size≤c7 by omega) (show w.heap.size≤c8 by omega) (.slice p7 t.words.length a7) (.slice q7 t.turns.length b7) (.int .i64 t.breath) (.slice p8 t.words.length a8) (.slice q8 t.turns.length b8) (.int .i64 t.breath));have HI9:=Lib.hid (own_rd (own_lwSet x7 x8 hne (by decide) (by decide) (.slice p7 t.words.length a7) (.slice q7 t.turns.length b7) (.int .i64 t.breath) (.slice p8 t.words.length a8) (.slice q8 t.turns.length b8) (.int .i64 t.breath) o9) rfl);have f7:∀ i,w'.frozen? ⟨c7,i,none⟩=false:=fun i=>by simp [World.frozen?,x7]
   have f8:∀ i,w'.frozen? ⟨c8,i,none⟩=false:=fun i=>by simp [World.frozen?,x8]
   obtain ⟨m0,m1,m2⟩:=blk3 x7;obtain ⟨n0,n1,n2⟩:=blk3 x8;have h7:c7<w'.heap.size:=(Array.getElem?_eq_some_iff.1 x7).1;have h8:c8<w'.heap.size:=(Array.getElem?_eq_some_iff.1 x8).1;clear o1 o2 o3 o4 o9 x7 x8 hAx hz2 hz1 HX1 HB1 HBx;clear hG;go_wp2_with fail
   refine calls_named fun W hW=>?_;have hW2:W=lwSet w' c7 c8 (.slice p7 t.words.length a7) (.slice q7 t.turns.length b7) (.int .i64 t.breath) (.slice p8 t.words.length a8) (.slice q8 t.turns.length b8) (.int .i64 t.breath):=hW;rw [← hW2] at HLW HBW HI9;clear hW hW2 f7 f8 m0 m1 m2 n0 n1 n2 h7 h8;obtain ⟨p9',c9',e9,hI9,-⟩:=HI9.out;injection e9 with e9 _ e9c;subst e9;subst e9c;clear HI9;have HI9:=Lib.hid hI9;clear hI9;rcases (Decidable.em (er=0)).symm with he | he
   ·have HER:(er != 0)=true:=by simpa using he
    rw [show markL t=[] from by unfold markL fewE;rw [her,if_neg he];exact if_neg he,show fewE t=er from by unfold fewE;rw [her];exact if_neg he] at CMK;rw [show loneL t=[] from by unfold loneL;rw [her];exact if_neg he] at CLO;clear her he CRS0;obtain ⟨k0,k1,k2⟩:=blk3 HLW.out.prm;obtain ⟨k3,k4,k5⟩:=blk3 HLW.out.x7;obtain ⟨k6,k7,k8⟩:=blk3 HLW.out.x8;go_wp2_with fail
    refine (CSH.out p7 q7 p9 a7 b7 c9 ⟨hcw.1,hcw.2⟩ _ HLW.out.r7 HI9.out).mono ?_;rintro e w2 ⟨rfl,hB⟩;have HLW:=Lib.hid (HLW.out.below hB);have HI9:=Lib.hid (HI9.out.below hB);have HBW:=Lib.hid (join HBW.out hB);clear k0 k1 k2 k3 k4 k5 k6 k7 k8;clear hB;obtain ⟨k0,k1,k2⟩:=blk3 HLW.out.prm;obtain ⟨k3,k4,k5⟩:=blk3 HLW.out.x7;obtain ⟨k6,k7,k8⟩:=blk3 HLW.out.x8;go_wp2_with fail
    refine (CRS.out p8 q8 pl a8 b8 cl _ HLW.out.r8 (HL.out.below HBW.out)).mono ?_;rintro e w2 ⟨rfl,hB⟩;have HLW:=Lib.hid (HLW.out.below hB);have HI9:=Lib.hid (HI9.out.below hB);have HBW:=Lib.hid (join HBW.out hB);clear k0 k1 k2 k3 k4 k5 k6 k7 k8;clear hB;obtain ⟨k0,k1,k2⟩:=blk3 HLW.out.prm;obtain ⟨k3,k4,k5⟩:=blk3 HLW.out.x7;obtain ⟨k6,k7,k8⟩:=blk3 HLW.out.x8;go_wp2_with fail
    refine (CMK.out p7 q7 a7 b7 ⟨hcw.1,hcw.2⟩ _ HLW.out.r7).mono ?_;rintro e w2 ⟨p18,c18,rfl,H18,hB⟩;have HLW:=Lib.hid (HLW.out.below hB);have HI9:=Lib.hid (HI9.out.below hB);have HBW:=Lib.hid (join HBW.out hB);have H18:=Lib.hid H18;clear k0 k1 k2 k3 k4 k5 k6 k7 k8;clear hB;obtain ⟨k0,k1,k2⟩:=blk3 HLW.out.prm;obtain ⟨k3,k4,k5⟩:=blk3 HLW.out.x7;obtain ⟨k6,k7,k8⟩:=blk3 HLW.out.x8;go_wp2_with fail
    refine (CLO.out p7 q7 a7 b7 ⟨hcw.1,hcw.2⟩ _ HLW.out.r7).mono ?_;rintro e w2 ⟨v19,rfl,ho,hB⟩;have HLW:=Lib.hid (HLW.out.below hB);have HI9:=Lib.hid (HI9.out.below hB);have H18:=Lib.hid (H18.out.below hB);have HBW:=Lib.hid (join HBW.out hB);obtain ⟨p19,c19,rfl,H19,-⟩:=own_rd ho rfl;have H19:=Lib.hid H19;clear k0 k1 k2 k3 k4 k5 k6 k7 k8;clear hB ho;obtain ⟨k0,k1,k2⟩:=blk3 HLW.out.prm;obtain ⟨k3,k4,k5⟩:=blk3 HLW.out.x7;obtain ⟨k6,k7,k8⟩:=blk3 HLW.out.x8;go_wp2_with fail
    refine (CCK.out p8 q8 a8 b8 _ HLW.out.r8).mono ?_;rintro e w2 ⟨rfl,hB⟩;have HLW:=Lib.hid (HLW.out.below hB);have HI9:=Lib.hid (HI9.out.below hB);have H18:=Lib.hid (H18.out.below hB);have H19:=Lib.hid (H19.out.below hB);have HBW:=Lib.hid (join HBW.out hB);clear k0 k1 k2 k3 k4 k5 k6 k7 k8;clear hB;obtain ⟨k0,k1,k2⟩:=blk3 HLW.out.prm;obtain ⟨k3,k4,k5⟩:=blk3 HLW.out.x7;obtain ⟨k6,k7,k8⟩:=blk3 HLW.out.x8;go_wp2_with fail
    refine (same_yes t hl1 hl2 p7 q7 pw pt a7 b7 cw ct _ HLW.out.r7 HLW.out.r0).mono ?_;rintro e w2 ⟨rfl,hB⟩;have HLW:=Lib.hid (HLW.out.below hB);have HI9:=Lib.hid (HI9.out.below hB);have H18:=Lib.hid (H18.out.below hB);have H19:=Lib.hid (H19.out.below hB);have HBW:=Lib.hid (join HBW.out hB);clear k0 k1 k2 k3 k4 k5 k6 k7 k8;clear hB;obtain ⟨k0,k1,k2⟩:=blk3 HLW.out.prm;obtain ⟨k3,k4,k5⟩:=blk3 HLW.out.x7;obtain ⟨k6,k7,k8⟩:=blk3 HLW.out.x8;go_wp2_with fail
    refine (awake_any _).mono ?_;rintro e w10 ⟨rfl,hB10⟩;have HBW:=Lib.hid (join HBW.out hB10);clear hB10;go_wp2;go_ret;exact ⟨rfl,HBW.out⟩
   subst he;have F:=mar_facts her;have hn1:=(err_ok her).n1;have hn12:=(err_ok her).n12;have CRI:=Lib.hid (fun p q c d W (h:TxAt W t p q)=>Right_any t (by omega) hl2 p q c d W h);have CRF:=Lib.hid (fun p c W (h:LLs W p (rightsR t))=>rFewest_any (rightsR t) (by have:=F.r12;omega) F.rp p c W h);have CRL:=Lib.hid (fun p q c d W (h:TxAt W t p q)=>rLone_any t her p q c d W h);have hll:=F.ll;rw [← F.lo] at CRL;rw [F.fe] at CMK;have HF:=Lib.hid F;generalize rightsR t=R at CRI CRF HF CMK F;generalize bestLen R 0=B at CRF HF CMK F;generalize loneL t=ll at CLO CRL hll;rcases Nat.eq_zero_or_pos B with hB0 | hB0
   ·subst hB0;rw [if_pos rfl] at CMK;rw [if_pos rfl] at CRF;rw [HF.out.mz rfl] at CMK;clear HF F CRS0 her;obtain ⟨k0,k1,k2⟩:=blk3 HLW.out.prm;obtain ⟨k3,k4,k5⟩:=blk3 HLW.out.x7;obtain ⟨k6,k7,k8⟩:=blk3 HLW.out.x8;go_wp2_with fail
    refine (CSH.out p7 q7 p9 a7 b7 c9 ⟨hcw.1,hcw.2⟩ _ HLW.out.r7 HI9.out).mono ?_;rintro e w2 ⟨rfl,hB⟩;have HLW:=Lib.hid (HLW.out.below hB);have HI9:=Lib.hid (HI9.out.below hB);have HBW:=Lib.hid (join HBW.out hB);clear k0 k1 k2 k3 k4 k5 k6 k7 k8;clear hB;obtain ⟨k0,k1,k2⟩:=blk3 HLW.out.prm;obtain ⟨k3,k4,k5⟩:=blk3 HLW.out.x7;obtain ⟨k6,k7,k8⟩:=blk3 HLW.out.x8;go_wp2_with fail
    refine (CRS.out p8 q8 pl a8 b8 cl _ HLW.out.r8 (HL.out.below HBW.out)).mono ?_;rintro e w2 ⟨rfl,hB⟩;have HLW:=Lib.hid (HLW.out.below hB);have HI9:=Lib.hid (HI9.out.below hB);have HBW:=Lib.hid (join HBW.out hB);clear k0 k1 k2 k3 k4 k5 k6 k7 k8;clear hB;obtain ⟨k0,k1,k2⟩:=blk3 HLW.out.prm;obtain ⟨k3,k4,k5⟩:=blk3 HLW.out.x7;obtain ⟨k6,k7,k8⟩:=blk3 HLW.out.x8;go_wp2_with fail
    refine (CMK.out p7 q7 a7 b7 ⟨hcw.1,hcw.2⟩ _ HLW.out.r7).mono ?_;rintro e w2 ⟨p18,c18,rfl,H18,hB⟩;have HLW:=Lib.hid (HLW.out.below hB);have HI9:=Lib.hid (HI9.out.below hB);have HBW:=Lib.hid (join HBW.out hB);have H18:=Lib.hid H18;clear k0 k1 k2 k3 k4 k5 k6 k7 k8;clear hB;obtain ⟨k0,k1,k2⟩:=blk3 HLW.out.prm;obtain ⟨k3,k4,k5⟩:=blk3 HLW.out.x7;obtain ⟨k6,k7,k8⟩:=blk3 HLW.out.x8;go_wp2_with fail
    refine (CLO.out p7 q7 a7 b7 ⟨hcw.1,hcw.2⟩ _ HLW.out.r7).mono ?_;rintro e w2 ⟨v19,rfl,ho,hB⟩;have HLW:=Lib.hid (HLW.out.below hB);have HI9:=Lib.hid (HI9.out.below hB);have H18:=Lib.hid (H18.out.below hB);have HBW:=Lib.hid (join HBW.out hB);obtain ⟨p19,c19,rfl,H19,-⟩:=own_rd ho rfl;have H19:=Lib.hid H19;clear k0 k1 k2 k3 k4 k5 k6 k7 k8;clear hB ho;obtain ⟨k0,k1,k2⟩:=blk3 HLW.out.prm;obtain ⟨k3,k4,k5⟩:=blk3 HLW.out.x7;obtain ⟨k6,k7,k8⟩:=blk3 HLW.out.x8;go_wp2_with fail
    refine (CCK.out p8 q8 a8 b8 _ HLW.out.r8).mono ?_;rintro e w2 ⟨rfl,hB⟩;have HLW:=Lib.hid (HLW.out.below hB);have HI9:=Lib.hid (HI9.out.below hB);have H18:=Lib.hid (H18.out.below hB);have H19:=Lib.hid (H19.out.below hB);have HBW:=Lib.hid (join HBW.out hB);clear k0 k1 k2 k3 k4 k5 k6 k7 k8;clear hB;obtain ⟨k0,k1,k2⟩:=blk3 HLW.out.prm;obtain ⟨k3,k4,k5⟩:=blk3 HLW.out.x7;obtain ⟨k6,k7,k8⟩:=blk3 HLW.out.x8;go_wp2_with fail
    refine (CRL.out p8 q8 a8 b8 _ HLW.out.r8).mono ?_;rintro e w2 ⟨p22,c22,rfl,H22,hB⟩;have HLW:=Lib.hid (HLW.out.below hB);have HI9:=Lib.hid (HI9.out.below hB);have H18:=Lib.hid (H18.out.below hB);have H19:=Lib.hid (H19.out.below hB);have HBW:=Lib.hid (join HBW.out hB);have H22:=Lib.hid H22;clear k0 k1 k2 k3 k4 k5 k6 k7 k8;clear hB;obtain ⟨k0,k1,k2⟩:=blk3 HLW.out.prm;obtain ⟨k3,k4,k5⟩:=blk3 HLW.out.x7;obtain ⟨k6,k7,k8⟩:=blk3 HLW.out.x8;go_wp2_with fail
    refine (Like_ints p19 p22 c19 c22 ll ll true (by simp) _ hll hll H19.out H22.out).mono ?_;rintro e w2 ⟨rfl,hB⟩;have HLW:=Lib.hid (HLW.out.below hB);have HI9:=Lib.hid (HI9.out.below hB);have H18:=Lib.hid (H18.out.below hB);have H19:=Lib.hid (H19.out.below hB);have H22:=Lib.hid (H22.out.below hB);have HBW:=Lib.hid (join HBW.out hB);clear k0 k1 k2 k3 k4 k5 k6 k7 k8;clear hB H22;obtain ⟨k0,k1,k2⟩:=blk3 HLW.out.prm;obtain ⟨k3,k4,k5⟩:=blk3 HLW.out.x7;obtain ⟨k6,k7,k8⟩:=blk3 HLW.out.x8;go_wp2_with fail
    refine (CRI.out p8 q8 a8 b8 _ HLW.out.r8).mono ?_;rintro e w2 ⟨v20,xs20,rfl,ho,he20,hB⟩;have HLW:=Lib.hid (HLW.out.below hB);have HI9:=Lib.hid (HI9.out.below hB);have H18:=Lib.hid (H18.out.below hB);have H19:=Lib.hid (H19.out.below hB);have HBW:=Lib.hid (join HBW.out hB);obtain ⟨p20,c20,rfl,H20⟩:=LLs.of_own ho he20;have H20:=Lib.hid H20;clear k0 k1 k2 k3 k4 k5 k6 k7 k8;clear hB ho he20;obtain ⟨k0,k1,k2⟩:=blk3 HLW.out.prm;obtain ⟨k3,k4,k5⟩:=blk3 HLW.out.x7;obtain ⟨k6,k7,k8⟩:=blk3 HLW.out.x8;go_wp2_with fail
    refine (CRF.out p20 c20 _ H20.out).mono ?_;rintro e w3 ⟨rfl,hw3⟩;subst hw3;clear k0 k1 k2 k3 k4 k5 k6 k7 k8;clear H20;obtain ⟨k0,k1,k2⟩:=blk3 HLW.out.prm;obtain ⟨k3,k4,k5⟩:=blk3 HLW.out.x7;obtain ⟨k6,k7,k8⟩:=blk3 HLW.out.x8;go_wp2_with fail
    refine (same_yes t hl1 hl2 p7 q7 pw pt a7 b7 cw ct _ HLW.out.r7 HLW.out.r0).mono ?_;rintro e w2 ⟨rfl,hB⟩;have HLW:=Lib.hid (HLW.out.below hB);have HI9:=Lib.hid (HI9.out.below hB);have H18:=Lib.hid (H18.out.below hB);have H19:=Lib.hid (H19.out.below hB);have HBW:=Lib.hid (join HBW.out hB);clear k0 k1 k2 k3 k4 k5 k6 k7 k8;clear hB;obtain ⟨k0,k1,k2⟩:=blk3 HLW.out.prm;obtain ⟨k3,k4,k5⟩:=blk3 HLW.out.x7;obtain ⟨k6,k7,k8⟩:=blk3 HLW.out.x8;go_wp2_with fail
    refine (Like_ints p9 pl c9 cl l l true (by simp) _ hl3 hl3 HI9.out (HL.out.below HBW.out)).mono ?_;rintro e w2 ⟨rfl,hB⟩;have HLW:=Lib.hid (HLW.out.below hB);have HI9:=Lib.hid (HI9.out.below hB);have H18:=Lib.hid (H18.out.below hB);have H19:=Lib.hid (H19.out.below hB);have HBW:=Lib.hid (join HBW.out hB);clear k0 k1 k2 k3 k4 k5 k6 k7 k8;clear hB;obtain ⟨k0,k1,k2⟩:=blk3 HLW.out.prm;obtain ⟨k3,k4,k5⟩:=blk3 HLW.out.x7;obtain ⟨k6,k7,k8⟩:=blk3 HLW.out.x8;go_wp2_with fail
    refine (awake_any _).mono ?_;rintro e w10 ⟨rfl,hB10⟩;have HBW:=Lib.hid (join HBW.out hB10);clear hB10;go_wp2;go_ret;exact ⟨rfl,HBW.out⟩
   ·have hBn:B≠0:=by omega
    rw [if_neg hBn] at CMK;rw [if_neg hBn] at CRF;obtain ⟨hml,hsh⟩:=HF.out.mn hBn;have CRS1:=Lib.hid (CRS0.out hml);rw [hsh] at CRS1;clear CRS0 HF F her hB0 hBn hsh;have CRS0:=CRS1;clear CRS1;generalize markL t=ml at CMK CRS0 hml;obtain ⟨k0,k1,k2⟩:=blk3 HLW.out.prm;obtain ⟨k3,k4,k5⟩:=blk3 HLW.out.x7;obtain ⟨k6,k7,k8⟩:=blk3 HLW.out.x8;go_wp2_with fail
    refine (CSH.out p7 q7 p9 a7 b7 c9 ⟨hcw.1,hcw.2⟩ _ HLW.out.r7 HI9.out).mono ?_;rintro e w2 ⟨rfl,hB⟩;have HLW:=Lib.hid (HLW.out.below hB);have HI9:=Lib.hid (HI9.out.below hB);have HBW:=Lib.hid (join HBW.out hB);clear k0 k1 k2 k3 k4 k5 k6 k7 k8;clear hB;obtain ⟨k0,k1,k2⟩:=blk3 HLW.out.prm;obtain ⟨k3,k4,k5⟩:=blk3 HLW.out.x7;obtain ⟨k6,k7,k8⟩:=blk3 HLW.out.x8;go_wp2_with fail
    refine (CRS.out p8 q8 pl a8 b8 cl _ HLW.out.r8 (HL.out.below HBW.out)).mono ?_;rintro e w2 ⟨rfl,hB⟩;have HLW:=Lib.hid (HLW.out.below hB);have HI9:=Lib.hid (HI9.out.below hB);have HBW:=Lib.hid (join HBW.out hB);clear k0 k1 k2 k3 k4 k5 k6 k7 k8;clear hB;obtain ⟨k0,k1,k2⟩:=blk3 HLW.out.prm;obtain ⟨k3,k4,k5⟩:=blk3 HLW.out.x7;obtain ⟨k6,k7,k8⟩:=blk3 HLW.out.x8;go_wp2_with fail
    refine (CMK.out p7 q7 a7 b7 ⟨hcw.1,hcw.2⟩ _ HLW.out.r7).mono ?_;rintro e w2 ⟨p18,c18,rfl,H18,hB⟩;have HLW:=Lib.hid (HLW.out.below hB);have HI9:=Lib.hid (HI9.out.below hB);have HBW:=Lib.hid (join HBW.out hB);have H18:=Lib.hid H18;clear k0 k1 k2 k3 k4 k5 k6 k7 k8;clear hB;obtain ⟨k0,k1,k2⟩:=blk3 HLW.out.prm;obtain ⟨k3,k4,k5⟩:=blk3 HLW.out.x7;obtain ⟨k6,k7,k8⟩:=blk3 HLW.out.x8;go_wp2_with fail
    refine (CLO.out p7 q7 a7 b7 ⟨hcw.1,hcw.2⟩ _ HLW.out.r7).mono ?_;rintro e w2 ⟨v19,rfl,ho,hB⟩;have HLW:=Lib.hid (HLW.out.below hB);have HI9:=Lib.hid (HI9.out.below hB);have H18:=Lib.hid (H18.out.below hB);have HBW:=Lib.hid (join HBW.out hB);obtain ⟨p19,c19,rfl,H19,-⟩:=own_rd ho rfl;have H19:=Lib.hid H19;clear k0 k1 k2 k3 k4 k5 k6 k7 k8;clear hB ho;obtain ⟨k0,k1,k2⟩:=blk3 HLW.out.prm;obtain ⟨k3,k4,k5⟩:=blk3 HLW.out.x7;obtain ⟨k6,k7,k8⟩:=blk3 HLW.out.x8;go_wp2_with fail
    refine (CCK.out p8 q8 a8 b8 _ HLW.out.r8).mono ?_;rintro e w2 ⟨rfl,hB⟩;have HLW:=Lib.hid (HLW.out.below hB);have HI9:=Lib.hid (HI9.out.below hB);have H18:=Lib.hid (H18.out.below hB);have H19:=Lib.hid (H19.out.below hB);have HBW:=Lib.hid (join HBW.out hB);clear k0 k1 k2 k3 k4 k5 k6 k7 k8;clear hB;obtain ⟨k0,k1,k2⟩:=blk3 HLW.out.prm;obtain ⟨k3,k4,k5⟩:=blk3 HLW.out.x7;obtain ⟨k6,k7,k8⟩:=blk3 HLW.out.x8;go_wp2_with fail
    refine (CRL.out p8 q8 a8 b8 _ HLW.out.r8).mono ?_;rintro e w2 ⟨p22,c22,rfl,H22,hB⟩;have HLW:=Lib.hid (HLW.out.below hB);have HI9:=Lib.hid (HI9.out.below hB);have H18:=Lib.hid (H18.out.below hB);have H19:=Lib.hid (H19.out.below hB);have HBW:=Lib.hid (join HBW.out hB);have H22:=Lib.hid H22;clear k0 k1 k2 k3 k4 k5 k6 k7 k8;clear hB;obtain ⟨k0,k1,k2⟩:=blk3 HLW.out.prm;obtain ⟨k3,k4,k5⟩:=blk3 HLW.out.x7;obtain ⟨k6,k7,k8⟩:=blk3 HLW.out.x8;go_wp2_with fail
    refine (Like_ints p19 p22 c19 c22 ll ll true (by simp) _ hll hll H19.out H22.out).mono ?_;rintro e w2 ⟨rfl,hB⟩;have HLW:=Lib.hid (HLW.out.below hB);have HI9:=Lib.hid (HI9.out.below hB);have H18:=Lib.hid (H18.out.below hB);have H19:=Lib.hid (H19.out.below hB);have H22:=Lib.hid (H22.out.below hB);have HBW:=Lib.hid (join HBW.out hB);clear k0 k1 k2 k3 k4 k5 k6 k7 k8;clear hB H22;obtain ⟨k0,k1,k2⟩:=blk3 HLW.out.prm;obtain ⟨k3,k4,k5⟩:=blk3 HLW.out.x7;obtain ⟨k6,k7,k8⟩:=blk3 HLW.out.x8;go_wp2_with fail
    refine (CRI.out p8 q8 a8 b8 _ HLW.out.r8).mono ?_;rintro e w2 ⟨v20,xs20,rfl,ho,he20,hB⟩;have HLW:=Lib.hid (HLW.out.below hB);have HI9:=Lib.hid (HI9.out.below hB);have H18:=Lib.hid (H18.out.below hB);have H19:=Lib.hid (H19.out.below hB);have HBW:=Lib.hid (join HBW.out hB);obtain ⟨p20,c20,rfl,H20⟩:=LLs.of_own ho he20;have H20:=Lib.hid H20;clear k0 k1 k2 k3 k4 k5 k6 k7 k8;clear hB ho he20;obtain ⟨k0,k1,k2⟩:=blk3 HLW.out.prm;obtain ⟨k3,k4,k5⟩:=blk3 HLW.out.x7;obtain ⟨k6,k7,k8⟩:=blk3 HLW.out.x8;go_wp2_with fail
    refine (CRF.out p20 c20 _ H20.out).mono ?_;rintro e w3 ⟨rfl,hw3⟩;subst hw3;clear k0 k1 k2 k3 k4 k5 k6 k7 k8;clear H20;obtain ⟨k0,k1,k2⟩:=blk3 HLW.out.prm;obtain ⟨k3,k4,k5⟩:=blk3 HLW.out.x7;obtain ⟨k6,k7,k8⟩:=blk3 HLW.out.x8;go_wp2_with fail
    refine (CRS0.out p8 q8 p18 a8 b8 c18 _ HLW.out.r8 H18.out).mono ?_;rintro e w2 ⟨rfl,hB⟩;have HLW:=Lib.hid (HLW.out.below hB);have HI9:=Lib.hid (HI9.out.below hB);have H18:=Lib.hid (H18.out.below hB);have H19:=Lib.hid (H19.out.below hB);have HBW:=Lib.hid (join HBW.out hB);clear k0 k1 k2 k3 k4 k5 k6 k7 k8;clear hB;obtain ⟨k0,k1,k2⟩:=blk3 HLW.out.prm;obtain ⟨k3,k4,k5⟩:=blk3 HLW.out.x7;obtain ⟨k6,k7,k8⟩:=blk3 HLW.out.x8;go_wp2_with fail
    refine (same_yes t hl1 hl2 p7 q7 pw pt a7 b7 cw ct _ HLW.out.r7 HLW.out.r0).mono ?_;rintro e w2 ⟨rfl,hB⟩;have HLW:=Lib.hid (HLW.out.below hB);have HI9:=Lib.hid (HI9.out.below hB);have H18:=Lib.hid (H18.out.below hB);have H19:=Lib.hid (H19.out.below hB);have HBW:=Lib.hid (join HBW.out hB);clear k0 k1 k2 k3 k4 k5 k6 k7 k8;clear hB;obtain ⟨k0,k1,k2⟩:=blk3 HLW.out.prm;obtain ⟨k3,k4,k5⟩:=blk3 HLW.out.x7;obtain ⟨k6,k7,k8⟩:=blk3 HLW.out.x8;go_wp2_with fail
    refine (Like_ints p9 pl c9 cl l l true (by simp) _ hl3 hl3 HI9.out (HL.out.below HBW.out)).mono ?_;rintro e w2 ⟨rfl,hB⟩;have HLW:=Lib.hid (HLW.out.below hB);have HI9:=Lib.hid (HI9.out.below hB);have H18:=Lib.hid (H18.out.below hB);have H19:=Lib.hid (H19.out.below hB);have HBW:=Lib.hid (join HBW.out hB);clear k0 k1 k2 k3 k4 k5 k6 k7 k8;clear hB;obtain ⟨k0,k1,k2⟩:=blk3 HLW.out.prm;obtain ⟨k3,k4,k5⟩:=blk3 HLW.out.x7;obtain ⟨k6,k7,k8⟩:=blk3 HLW.out.x8;go_wp2_with fail
    refine (awake_any _).mono ?_;rintro e w10 ⟨rfl,hB10⟩;have HBW:=Lib.hid (join HBW.out hB10);clear hB10;go_wp2;go_ret;exact ⟨rfl,HBW.out⟩
end Go.Proofs.YtadnggecnjdhiaaGreat
namespace Go.Proofs.YtadnggecnjdhiaaGreat.Tx
def nextI (l:List Int) (n:Int) (i:Nat):Int:=if i+1<l.length then l.getD (i+1) 0 else n
def stopsB (ws:List Word) (lo hi:Int):Bool:=(slice ws lo.toNat hi.toNat).any (·.stop)
def shortAt (ws:List Word) (l:List Int) (n:Int) (i:Nat):Word:={ ws.getD (l.getD i 0).toNat default with stop:=stopsB ws (l.getD i 0) (nextI l n i) }
def shortW (ws:List Word) (l:List Int) (n:Int):List Word:=(List.range l.length).map (shortAt ws l n)
def nowF (l:List Int) (x:Int):Int:=if l.contains x then (l.idxOf x:Int) else -1
def shortTurn (l:List Int) (u:Turn):Turn:=⟨l.idxOf u.word,l.idxOf u.lo,l.idxOf u.hi⟩
def shortTs (ts:List Turn) (l:List Int):List Turn:=(ts.filter fun u=>coreIn u l&&l.contains u.word).map (shortTurn l)
def Text.shortT (t:Text) (l:List Int):Text:=⟨shortW t.words l t.words.length,shortTs t.turns l,t.breath⟩
theorem shortW_len (ws:List Word) (l:List Int) (n:Int):(shortW ws l n).length=l.length:=by simp [shortW]
theorem shortW_get {ws:List Word} {l:List Int} {n:Int} {i:Nat} (h:i<l.length):(shortW ws l n).getD i default=shortAt ws l n i:=by
 simp [shortW,h]
theorem slice_snoc {α:Type} (d:α) (ws:List α) {a b:Nat} (ha:a≤b) (hb:b<ws.length):slice ws a (b+1)=slice ws a b++[ws.getD b d]:=by
 unfold slice;rw [show b+1-a=(b-a)+1 by omega,List.take_add_one]
 congr 1
 rw [List.getElem?_drop,show a+(b-a)=b by omega];simp [hb]
theorem stopsB_snoc {ws:List Word} {a b:Nat} (ha:a≤b) (hb:b<ws.length):stopsB ws a ((b:Int)+1)=(stopsB ws a b||(ws.getD b default).stop):=by
 unfold stopsB;rw [show ((b:Int)+1).toNat=b+1 by omega,show ((a:Int)).toNat=a by omega,show ((b:Int)).toNat=b by omega,slice_snoc default ws ha hb];simp
structure Upto (l:List Int) (n k w:Nat):Prop where
 asc:l.Pairwise (·<·)
 rng:∀ x∈l,0≤x∧x<(n:Int)
 kl:k≤l.length
 lo:∀ i,i<k→l.getD i 0<(w:Int)
 hi:∀ i,k≤i→i<l.length→(w:Int)≤l.getD i 0
theorem Upto.start {l:List Int} {n:Nat} (h1:l.Pairwise (·<·)) (h2:∀ x∈l,0≤x∧x<(n:Int)):Upto l n 0 0 :=
 ⟨h1,h2,by omega,fun i h=>by omega,fun i _ h=>by
  have:=(h2 (l.getD i 0) (by simp [h])).1;exact this⟩
theorem getD_lt {l:List Int} (h:l.Pairwise (·<·)) {i j:Nat} (hij:i<j) (hj:j<l.length):l.getD i 0<l.getD j 0:=by
 have:=List.pairwise_iff_getElem.1 h i j (by omega) hj hij
 simpa [hj,show i<l.length by omega] using this
theorem getD_memI {l:List Int} {i:Nat} (h:i<l.length):l.getD i 0∈l:=by simp [h]
theorem Upto.hit {l:List Int} {n k w:Nat} (h:Upto l n k w) (hc:l.contains (w:Int)=true):k<l.length∧l.getD k 0=(w:Int):=by
 obtain ⟨i,hi,he⟩:=List.mem_iff_getElem.1 (List.contains_iff_mem.1 hc);have hg:l.getD i 0=(w:Int):=by simp [hi,he]
 have h1:k≤i:=by
  rcases Nat.lt_or_ge i k with g | g
  ·have:=h.lo i g;omega
  ·exact g
 have h2:=h.hi k (Nat.le_refl _) (by omega);rcases Nat.lt_or_ge k i with g | g
 ·have:=getD_lt h.asc g hi;omega
 ·obtain rfl:i=k:=by omega
  exact ⟨hi,hg⟩
theorem Upto.next {l:List Int} {n k w:Nat} (h:Upto l n k w) (hc:l.contains (w:Int)=true):Upto l n (k+1) (w+1):=by
 obtain ⟨h1,h2⟩:=h.hit hc;refine ⟨h.asc,h.rng,h1,fun i hi=>?_,fun i hi hl=>?_⟩
 ·rcases Nat.lt_or_ge i k with g | g
  ·have:=h.lo i g;omega
  ·obtain rfl:i=k:=by omega
   omega
 ·have:=getD_lt h.asc (show k<i by omega) hl;omega
theorem Upto.miss {l:List Int} {n k w:Nat} (h:Upto l n k w) (hc:l.contains (w:Int)=false):Upto l n k (w+1):=by
 refine ⟨h.asc,h.rng,h.kl,fun i hi=>by have:=h.lo i hi;omega,fun i hi hl=>?_⟩;have h1:=h.hi i hi hl;have h2:l.getD i 0≠(w:Int):=fun e=>by
  have:=getD_memI hl;rw [e,← List.contains_iff_mem,hc] at this;exact absurd this (by simp)
 omega
theorem Upto.full {l:List Int} {n k:Nat} (h:Upto l n k n):k=l.length:=by
 rcases Nat.lt_or_ge k l.length with g | g
 ·have h1:=h.hi k (Nat.le_refl _) g;have h2:=(h.rng _ (getD_memI g)).2;omega
 ·have:=h.kl;omega
theorem Upto.idx {l:List Int} {n k w:Nat} (h:Upto l n k w) (hc:l.contains (w:Int)=true):nowF l w=(k:Int):=by
 obtain ⟨h1,h2⟩:=h.hit hc;unfold nowF;rw [if_pos hc];have hm:=List.contains_iff_mem.1 hc;have hi:l.idxOf (w:Int)<l.length:=List.idxOf_lt_length_of_mem hm;have hg:l[l.idxOf (w:Int)]=(w:Int):=List.getElem_idxOf hi;have hg':l.getD (l.idxOf (w:Int)) 0=(w:Int):=by simp [hi,hg]
 rcases Nat.lt_trichotomy (l.idxOf (w:Int)) k with g | g | g
 ·have:=getD_lt h.asc g h1;omega
 ·rw [g]
 ·have:=getD_lt h.asc g hi;omega
theorem nowF_miss {l:List Int} {x:Int} (hc:l.contains x=false):nowF l x=-1:=by unfold nowF;rw [hc];rfl
theorem nowF_pos (l:List Int) (x:Int):decide (0≤nowF l x)=l.contains x:=by
 unfold nowF;cases h:l.contains x <;> simp
theorem getD_takeI {l:List Int} {k i:Nat} (h:i<k):(l.take k).getD i 0=l.getD i 0:=by
 simp [List.getElem?_take,h]
theorem short_hit {ws:List Word} {l:List Int} {k w:Nat} (h:Upto l ws.length k w) (hw:w<ws.length) (hc:l.contains (w:Int)=true) :
  shortW ws (l.take (k+1)) ((w:Int)+1)=shortW ws (l.take k) w++[ws.getD w default]:=by
 obtain ⟨h1,h2⟩:=h.hit hc;have hl1:(l.take (k+1)).length=k+1:=by simp;omega
 have hl2:(l.take k).length=k:=by simp;omega
 unfold shortW;rw [hl1,hl2,List.range_succ,List.map_append]
 congr 1
 ·apply List.map_congr_left;intro i hi;have hi:i<k:=by simpa using hi
  unfold shortAt nextI;rw [getD_takeI (show i<k+1 by omega),getD_takeI hi,hl1,hl2,if_pos (by omega),getD_takeI (show i+1<k+1 by omega)];by_cases hk:i+1<k
  ·rw [if_pos hk,getD_takeI hk]
  ·obtain rfl:k=i+1:=by omega
   rw [if_neg hk,h2]
 ·simp only [List.map_cons,List.map_nil];unfold shortAt nextI;rw [getD_takeI (show k<k+1 by omega),hl1,if_neg (by omega),h2,stopsB_snoc (Nat.le_refl _) hw];have e0:stopsB ws (w:Int) (w:Int)=false:=by unfold stopsB slice;simp
  rw [e0,Bool.false_or,show ((w:Int)).toNat=w by omega]
theorem short_miss {ws:List Word} {l:List Int} {k w:Nat} (h:Upto l ws.length k w) (hw:w<ws.length) :
  shortW ws (l.take k) ((w:Int)+1)=if 0<k∧(ws.getD w default).stop=true then (shortW ws (l.take k) w).set (k-1) { (shortW ws (l.take k) w).getD (k-1) default with stop:=true } else shortW ws (l.take k) w:=by
 have hkl:=h.kl;have hl2:(l.take k).length=k:=by simp;omega
 apply List.ext_getElem?;intro i;by_cases hi:i<k
 ·have e1:∀ n,(shortW ws (l.take k) n)[i]?=some (shortAt ws (l.take k) n i):=fun n=>by
   unfold shortW;rw [hl2];simp [hi]
  rw [e1];have hlo:=h.lo i hi;have h0:=(h.rng (l.getD i 0) (getD_memI (by omega))).1;obtain ⟨a,ha⟩:=Int.eq_ofNat_of_zero_le h0;have hnx:i+1<k→shortAt ws (l.take k) ((w:Int)+1) i=shortAt ws (l.take k) w i:=fun g=>by
   unfold shortAt nextI;rw [hl2,if_pos g,if_pos g]
  have hla:¬ i+1<k→shortAt ws (l.take k) ((w:Int)+1) i={ shortAt ws (l.take k) w i with stop:=(shortAt ws (l.take k) w i).stop||(ws.getD w default).stop }:=fun g=>by
   unfold shortAt nextI;rw [hl2,if_neg g,if_neg g,getD_takeI hi,ha];simp only;rw [stopsB_snoc (by omega) hw]
  by_cases g:i+1<k
  ·rw [hnx g];split
   ·rw [List.getElem?_set,if_neg (by omega),e1]
   ·rw [e1]
  ·rw [hla g];obtain rfl:k=i+1:=by omega
   split
   ·rename_i hh
    rw [List.getElem?_set,if_pos (by omega),if_pos (by rw [shortW_len,hl2];omega),show i+1-1=i by omega,shortW_get (by rw [hl2];omega),hh.2,Bool.or_true]
   ·rename_i hh
    have:(ws.getD w default).stop=false:=by
     cases hs:(ws.getD w default).stop
     ·rfl
     ·exact absurd ⟨by omega,hs⟩ hh
    rw [e1,this,Bool.or_false]
 ·have e0:∀ n,(shortW ws (l.take k) n)[i]?=none:=fun n=>by
   rw [List.getElem?_eq_none];rw [shortW_len,hl2];omega
  rw [e0];split
  ·rw [List.getElem?_set,if_neg (by omega),e0]
  ·rw [e0]
def notUp:Int→List Int→Bool
 | _,[]=>false
 | a,x::l=>decide (x≤a)||notUp x l
theorem notUp_snoc (x:Int):∀ (l:List Int) (a:Int),notUp a (l++[x])=(notUp a l||decide (x≤(l.getLast?.getD a)))
 | [],a=>by show (decide (x≤a)||false)=(false||decide (x≤a));rw [Bool.or_false,Bool.false_or]
 | y::l,a=>by
  have e:(y::l).getLast?.getD a=l.getLast?.getD y:=by
   cases l with
   | nil=>simp
   | cons z l=>rw [List.getLast?_cons_cons,List.getLast?_eq_some_getLast (by simp)];rfl
  rw [List.cons_append,notUp,notUp,notUp_snoc x l y,Bool.or_assoc,e]
theorem notUp_iff:∀ (l:List Int) (a:Int),notUp a l=false↔(a::l).Pairwise (·<·)
 | [],a=>by simp [notUp]
 | x::l,a=>by
  rw [notUp,Bool.or_eq_false_iff,notUp_iff l x];constructor
  ·rintro ⟨h1,h2⟩;have h1:a<x:=by simpa using h1
   refine List.pairwise_cons.2 ⟨fun y hy=>?_,h2⟩;rcases List.mem_cons.1 hy with rfl | hy
   ·exact h1
   ·have:=(List.pairwise_cons.1 h2).1 y hy;omega
  ·intro h;have:=List.pairwise_cons.1 h;exact ⟨by simpa using this.1 x (by simp),this.2⟩
theorem notUp_adj:∀ (l:List Int) (a:Int),(∀ x∈l,a<x)→(notUp a l=(List.range (l.length-1)).any fun i=>decide (l.getD (i+1) 0≤l.getD i 0))
 | [],a,_=>by simp [notUp]
 | [x],a,h=>by
  have:=h x (by simp);simp [notUp];omega
 | x::y::l,a,h=>by
  have hx:=h x (by simp);have e0:decide (x≤a)=false:=by simp;omega
  have e1:(List.range ((x::y::l).length-1))=0::(List.range ((y::l).length-1)).map (·+1):=by
   rw [show (x::y::l).length-1=((y::l).length-1)+1 by simp,List.range_succ_eq_map]
  rw [e1,List.any_cons,List.any_map,notUp,e0,Bool.false_or];by_cases hyx:y≤x
  ·rw [notUp];simp [hyx]
  ·have e2:decide (y≤x)=false:=by simpa using hyx
   have h3:notUp x (y::l)=notUp (y-1) (y::l):=by
    rw [notUp,notUp,e2];have:decide (y≤y-1)=false:=by simp;omega
    rw [this]
   by_cases hall:∀ z∈l,y-1<z
   ·rw [h3,notUp_adj (y::l) (y-1) (fun z hz=>by
     rcases List.mem_cons.1 hz with rfl | hz
     ·omega
     ·exact hall z hz)]
    have e3:decide ((x::y::l).getD (0+1) 0≤(x::y::l).getD 0 0)=false:=by simpa using e2
    rw [e3,Bool.false_or];rfl
   ·have h4:notUp x (y::l)=true:=by
     cases h5:notUp x (y::l) with
     | true=>rfl
     | false =>
      exfalso;have:=(notUp_iff _ _).1 h5;have:=(List.pairwise_cons.1 (List.pairwise_cons.1 this).2).1;exact hall fun z hz=>by have:=this z hz;omega
    rw [h4];have h5:¬ (∀ i,i<(y::l).length-1→(y::l).getD i 0<(y::l).getD (i+1) 0):=fun hh=>by
     apply hall;have:∀ i,i<(y::l).length→y≤(y::l).getD i 0:=fun i=>by
      induction i with
      | zero=>intro _;simp
      | succ i ih=>intro hi;have:=ih (by omega);have:=hh i (by omega);omega
     intro z hz;obtain ⟨i,hi,he⟩:=List.mem_iff_getElem.1 (List.mem_cons_of_mem y hz);have:=this i hi;simp only [List.getD_eq_getElem?_getD,List.getElem?_eq_getElem hi,Option.getD_some,he] at this;omega
    symm
    rw [Bool.or_eq_true];right;apply Classical.byContradiction;intro h6;apply h5;intro i hi;have h7:¬ (decide ((x::y::l).getD (i+1+1) 0≤(x::y::l).getD (i+1) 0))=true:=fun e=>h6 (List.any_eq_true.2 ⟨i,by simpa using hi,e⟩);simp only [List.getD_cons_succ] at h7;have:¬ ((y::l).getD (i+1) 0≤(y::l).getD i 0):=by simpa using h7
    omega
def Text.keptE (t:Text) (l:List Int):Int :=
 if t.err≠0 then t.err else if l.length=0 then 2 else if l.any (absent t.len) then 1 else if notUp (-1) l then 4 else 0
theorem keptE_zero {t:Text} {l:List Int} (h:t.keptE l=0):t.err=0∧l.length≠0∧(∀ x∈l,0≤x∧x<(t.len:Int))∧l.Pairwise (·<·):=by
 unfold Text.keptE at h;split at h
 ·rename_i h1;exact absurd h h1
 ·rename_i h1
  split at h
  ·exact absurd h (by decide)
  ·rename_i h2
   split at h
   ·exact absurd h (by decide)
   ·rename_i h3
    split at h
    ·exact absurd h (by decide)
    ·rename_i h4
     refine ⟨by simpa using h1,h2,fun x hx=>?_,?_⟩
     ·have h5:absent t.len x=false:=by
       cases h6:absent t.len x
       ·rfl
       ·exact absurd (List.any_eq_true.2 ⟨x,hx,h6⟩) h3
      simp [absent,btw] at h5;omega
     ·have:=(notUp_iff l (-1)).1 (by simpa using h4);exact (List.pairwise_cons.1 this).2
def paidN (ws:List Word):Int:=isum (ws.map fun x=>if 3<x.syl then 2 else 1)
theorem paidN_snoc (ws:List Word) (x:Word):paidN (ws++[x])=paidN ws+(if 3<x.syl then 2 else 1):=by
 unfold paidN;rw [List.map_append,List.map_cons,List.map_nil,isum_snoc]
theorem paidN_bd (ws:List Word):(ws.length:Int)≤paidN ws∧paidN ws≤(ws.length:Int)*2:=by
 have:=isum_bd (ws.map fun x=>if 3<x.syl then (2:Int) else 1) 1 2 (fun x hx=>by
  obtain ⟨y,_,rfl⟩:=List.mem_map.1 hx;split <;> omega)
 rw [List.length_map] at this;unfold paidN;omega
def Text.priceE (t:Text) (p:Int):Int:=if t.err≠0 then t.err else if btw p 1 100 then 0 else 3
def Text.priceV (t:Text) (p:Int):Int:=if t.priceE p=0 then paidN t.words*p else 0
end Go.Proofs.YtadnggecnjdhiaaGreat.Tx
namespace Go.Proofs.YtadnggecnjdhiaaGreat
open Go.RowKit Tx
attribute [local go_sem] Oper.semAt_some
set_option maxHeartbeats 400000 in
set_option maxRecDepth 100000 in
theorem errIfE_any (F:FuncId) (hF:Entered F) (E:Value) (q:Int→Bool) (xs:List Int) (p:Option Addr) (c:Nat) (n:Int) (w:World) (hl:xs.length≤1000000) (hi:Ints w p xs) (hq:∀ W,Below w.heap.size w W→∀ u:Int,Calls Tryz.prog F #[E,.int .i64 u] W fun e w'=>e=.returned (.bool (q u))∧Below W.heap.size W w') :
  Calls Tryz.prog 88 #[.slice p xs.length c,.func (.func F) #[E] #[],.int .i64 n] w fun e w'=>e=.returned (.int .i64 (errIf q xs n))∧Below w.heap.size w w':=by
 have HI:=Lib.hid hi;have HQ:=Lib.hid hq;have HF:=Lib.hid hF;clear hi hq hF
 go_enter Tryz.func88,Tryz.ntmps88
 go_wp2
 go_loopw [11] (fun i wr=>∃ k:Nat,k≤xs.length∧i=.int .i64 k∧(xs.take k).any q=false∧Below w.heap.size w wr) (fun i _=>xs.length-(intOf i).toNat)
 case atStart=>exact ⟨0,Nat.zero_le _,rfl,rfl,Below.refl _ _⟩
 case round =>
  obtain ⟨k,hk,rfl,hA,hB⟩:=hrel;have HA:=Lib.hid hA;clear hA;by_cases hlt:k<xs.length
  ·obtain ⟨b,o,x,rfl,hb,hxx,c1⟩:=(HI.out.below hB).at hlt;have HX:=Lib.hid hxx;have HB:=Lib.hid hB;have HASK:=Lib.hid (HQ.out _ hB x);clear hxx hB;go_wp2_with fail
   rw [HF.out,Oper.upon_enter];refine HASK.out.mono ?_;rintro e w5 ⟨rfl,hB5⟩;clear HASK;cases hbad:q x with
   | true =>
    have HBAD:=Lib.hid hbad;clear hbad;go_wp2;go_ret;exact ⟨by rw [errIf,if_pos (any_hit 0 hlt _ (by rw [← HX.out];exact HBAD.out))];rfl,join HB.out hB5⟩
   | false =>
    have HBAD:=Lib.hid hbad;clear hbad;go_wp2;go_roundw
    case rel=>exact ⟨k+1,by omega,by go_num,any_snoc 0 hlt _ HA.out (by rw [← HX.out];exact HBAD.out),join HB.out hB5⟩
    case measure=>simp [intOf];omega
  ·obtain rfl:k=xs.length:=by omega
   go_wp2;go_ret;exact ⟨by have:=HA.out;rw [List.take_length] at this;rw [errIf,this];rfl,hB⟩
theorem notBeh1_any (x a:Int) (A:Nat) (w:World) (hA:w.heap[A]?=some (.cells #[.int .i64 a] 3 (0,0))) :
  Calls Tryz.prog 146 #[.int .i64 x,.pointer (some ⟨A,0,none⟩)] w fun e w'=>e=.returned (.bool (decide (x≤a)))∧w.setCell ⟨A,0,none⟩ (.int .i64 x)=w':=by
 have hAl:=(Array.getElem?_eq_some_iff.1 hA).1;have c0:=blk_cells hA 0 _ rfl;have f0:w.frozen? ⟨A,0,none⟩=false:=by simp [World.frozen?,hA]
 clear hA;by_cases h:x≤a
 ·have h':¬ a<x:=by omega
  have e0:decide (x≤a)=true:=by simpa using h
  rw [e0];clear e0 h
  go_enter Tryz.func146,Tryz.ntmps146
  go_wp2;go_ret;exact ⟨rfl,rfl⟩
 ·have h':a<x:=by omega
  have e0:decide (x≤a)=false:=by simpa using h
  rw [e0];clear e0 h
  go_enter Tryz.func146,Tryz.ntmps146
  go_wp2;go_ret;exact ⟨rfl,rfl⟩
theorem entered_notBeh1:Entered 146:=fun args W=>by kernel_rfl
theorem notBeh_any (w:World) :
  Calls Tryz.prog 133 #[] w fun e w'=>e=.returned (.func (.func 146) #[] #[.pointer (some ⟨w.heap.size,0,none⟩)])∧w.alloc (.cells #[.int .i64 (-1)] 3)=w':=by
 have hmf:=mf
 go_enter Tryz.func133,Tryz.ntmps133
 go_wp2;go_ret;exact ⟨rfl,rfl⟩
def lastI (xs:List Int) (k:Nat):Int:=(xs.take k).getLast?.getD (-1)
theorem lastI_succ {xs:List Int} {k:Nat} (h:k<xs.length):lastI xs (k+1)=xs.getD k 0:=by
 unfold lastI;rw [take_snocD 0 h];simp
theorem notUp_take {xs:List Int} {k:Nat} (h:k<xs.length) (h0:notUp (-1) (xs.take k)=false):notUp (-1) (xs.take (k+1))=decide (xs.getD k 0≤lastI xs k):=by
 rw [take_snocD 0 h,notUp_snoc,h0,Bool.false_or];rfl
theorem notUp_more:∀ (xs ys:List Int) (a:Int),notUp a xs=true→notUp a (xs++ys)=true
 | [],_,_,h=>by simp [notUp] at h
 | x::xs,ys,a,h=>by
  rw [notUp,Bool.or_eq_true] at h;rw [List.cons_append,notUp,Bool.or_eq_true];exact h.imp id (notUp_more xs ys x)
def upErr (xs:List Int) (n:Int):Int:=if notUp (-1) xs then n else 0
set_option maxHeartbeats 400000 in
set_option maxRecDepth 100000 in
theorem errUp_any (xs:List Int) (p:Option Addr) (c:Nat) (n:Int) (A:Nat) (w0 w:World) (hl:xs.length≤1000000) (hi:Ints w0 p xs) (hb:Below w0.heap.size w0 w) (hz:w0.heap.size≤A) (hA:w.heap[A]?=some (.cells #[.int .i64 (-1)] 3 (0,0))) :
  Calls Tryz.prog 88 #[.slice p xs.length c,.func (.func 146) #[] #[.pointer (some ⟨A,0,none⟩)],.int .i64 n] w fun e w'=>e=.returned (.int .i64 (upErr xs n))∧Below w0.heap.size w0 w':=by
 have HI:=Lib.hid hi;have hF:=entered_notBeh1;have HF:=Lib.hid hF;have HB:=Lib.hid hb;have HA:=Lib.hid hA;clear hi hF hb hA
 go_enter Tryz.func88,Tryz.ntmps88
 go_wp2
 go_loopw [11] (fun i wr=>∃ k:Nat,k≤xs.length∧i=.int .i64 k∧Hid (notUp (-1) (xs.take k)=false)∧Hid (wr.heap[A]?=some (.cells #[.int .i64 (lastI xs k)] 3 (0,0)))∧Hid (Below w0.heap.size w0 wr)) (fun i _=>xs.length-(intOf i).toNat)
 case atStart=>exact ⟨0,Nat.zero_le _,rfl,Lib.hid rfl,HA,HB⟩
 case round =>
  clear HA HB;obtain ⟨k,hk,rfl,HU,HA,HB⟩:=hrel;by_cases hlt:k<xs.length
  ·obtain ⟨b,o,x,rfl,hb,hxx,c1⟩:=(HI.out.below HB.out).at hlt;have HX:=Lib.hid hxx;have HASK:=Lib.hid (notBeh1_any x (lastI xs k) A wr HA.out);clear hxx;go_wp2_with fail
   refine HASK.out.mono ?_;rintro e w5 ⟨rfl,rfl⟩;have HB5:=Lib.hid (HB.out.setCell (p:=⟨A,0,none⟩) hz (.int .i64 x));have HA5:=Lib.hid (show (wr.setCell ⟨A,0,none⟩ (.int .i64 x)).heap[A]?=some (.cells #[.int .i64 x] 3 (0,0)) from heap_set_same _ HA.out);clear HASK;cases hbad:decide (x≤lastI xs k) with
   | true =>
    have HBAD:=Lib.hid hbad;clear hbad;go_wp2;go_ret;refine ⟨?_,HB5.out⟩;have h1:=notUp_take hlt HU.out;rw [← HX.out,HBAD.out] at h1;have h2:=notUp_more _ (xs.drop (k+1)) _ h1;rw [List.take_append_drop] at h2;rw [upErr,if_pos h2];rfl
   | false =>
    have HBAD:=Lib.hid hbad;clear hbad;go_wp2;go_roundw
    case rel=>exact ⟨k+1,by omega,by go_num,Lib.hid (by rw [notUp_take hlt HU.out,← HX.out];exact HBAD.out),Lib.hid (by rw [lastI_succ hlt,← HX.out];exact HA5.out),HB5⟩
    case measure=>simp [intOf];omega
  ·obtain rfl:k=xs.length:=by omega
   go_wp2;go_ret;refine ⟨?_,HB.out⟩;have:=HU.out;rw [List.take_length] at this;rw [upErr,this];rfl
theorem absE_any (n c:Nat) (pw:Option Addr) (v1 v2 v3:Value) (xs:List Int) (p:Option Addr) (cl:Nat) (w:World) (hn:n≤1000000) (hl:xs.length≤1000000) (hi:Ints w p xs) :
  Calls Tryz.prog 88 #[.slice p xs.length cl,.func (.func 103) #[.agg #[.slice pw n c,v1,v2,v3]] #[],.int .i64 1] w fun e w'=>e=.returned (.int .i64 (errIf (absent n) xs 1))∧Below w.heap.size w w' :=
 errIfE_any 103 entered_absent _ (absent n) xs p cl 1 w hl hi (fun W _ u=>absent_b n c pw v1 v2 v3 u W (by omega))
theorem firstErr2 (a b:Int):firstErr [a,b]=if a=0 then b else a:=by
 unfold firstErr;by_cases h:a=0
 ·subst h;by_cases h2:b=0
  ·subst h2;rfl
  ·rw [if_pos rfl,List.find?_cons_of_neg (by simp),List.find?_cons_of_pos (by simpa using h2)];rfl
 ·rw [if_neg h,List.find?_cons_of_pos (by simpa using h)];rfl
theorem ints_two (w:World) (a b:Int) (T:TypeId):Ints (w.alloc (.cells #[.int .i64 a,.int .i64 b] T)) (some ⟨w.heap.size,0,none⟩) [a,b]:=by
 refine .inr ⟨_,_,rfl,by simp,fun i hi=>?_⟩;have hl:=heap_last w (.cells #[.int .i64 a,.int .i64 b] T);have hi:i<2:=hi
 match i,hi with
 | 0,_=>exact blk_cells hl 0 _ rfl
 | 1,_=>exact blk_cells hl 1 _ rfl
def keptB (n:Nat) (l:List Int):Int:=if errIf (absent n) l 1=0 then upErr l 4 else errIf (absent n) l 1
def wkOf (t:Text) (pw pt:Option Addr) (cw ct:Nat):Value:=.agg #[.slice pw t.words.length cw,.slice pt t.turns.length ct,.int .i64 t.breath,.func (.func 91) #[.agg #[.slice pw t.words.length cw,.slice pt t.turns.length ct,.int .i64 t.breath,.nilFunc]] #[]]
def wkNo:Value:=.agg #[.slice none 0 0,.slice none 0 0,.int .i64 0,.nilFunc]
theorem keptE_eq (t:Text) (l:List Int):t.keptE l=if t.err≠0 then t.err else if l.length=0 then 2 else keptB t.words.length l:=by
 unfold Text.keptE keptB errIf upErr Text.len;by_cases h:l.any (absent t.words.length)=true
 ·simp [h]
 ·simp [h]
set_option maxHeartbeats 1600000 in
theorem openKept_bad0 (t:Text) (l:List Int) (he:t.err≠0) (hl1:t.words.length≤1000000) (hl2:t.turns.length≤1000000) (pw pt pl:Option Addr) (cw ct cl:Nat) (w:World) (hW:TxAt w t pw pt) :
  Calls Tryz.prog 109 #[.agg #[.slice pw t.words.length cw,.slice pt t.turns.length ct,.int .i64 t.breath],.slice pl l.length cl] w fun e w' =>
   e=.returned (.tuple #[wkNo,.int .i64 t.err])∧Below w.heap.size w w':=by
 have HS:=Lib.hid (fun W (h:Below w.heap.size w W)=>open_bad t he hl1 hl2 pw pt cw ct W (hW.below h));have HE:(t.err != 0)=true:=by simpa using he
 clear hW he;generalize t.err=er at HE HS ⊢
 go_enter Tryz.func109,Tryz.ntmps109
 go_wp2_with fail
 refine (HS.out _ ((below1 _ _).alloc (by simp) _)).mono ?_;rintro e w5 ⟨rfl,hB5⟩;have hz5:w.heap.size+1<w5.heap.size:=by have:=hB5.size;simp at this;omega
 have hy5:w.heap.size<w5.heap.size:=by omega
 have hblk:w5.heap[w.heap.size+1]?=some (.cells #[.slice none 0 0,.slice none 0 0,.int .i64 0,.nilFunc] 84 (0,0)):=by
  rw [hB5.block _ (by simp)];have:=heap_last (w.alloc (.cells #[.slice pw t.words.length cw,.slice pt t.turns.length ct,.int .i64 t.breath] 25)) (.cells #[.slice none 0 0,.slice none 0 0,.int .i64 0,.nilFunc] 84);rwa [World.size_alloc] at this
 have HB5:=Lib.hid (join ((below1 _ _).alloc (by simp) _) hB5);clear hB5;have r0:=blk_cells hblk 0 _ rfl;have r1:=blk_cells hblk 1 _ rfl;have r2:=blk_cells hblk 2 _ rfl;have r3:=blk_cells hblk 3 _ rfl;have z:∀ i,w5.frozen? ⟨w.heap.size+1,i,none⟩=false:=fun i=>by simp [World.frozen?,hblk]
 clear hblk;go_wp2;refine bodyPost_ret (v:=.tuple #[wkNo,.int .i64 er]) (by simp [results,Tryz.results109,wkNo,go_sem,hz5,hy5,r0,r1,r2,r3]) rfl ⟨rfl,?_⟩;have hz9:=HB5.out.size
 repeat' (first | exact HB5.out | apply belS | apply belA | apply belD)
 all_goals first | omega | (simp;done) | (simp;omega)
set_option maxHeartbeats 1600000 in
theorem openKept_bad1 (t:Text) (l:List Int) (he:t.err=0) (hll:l.length=0) (pw pt pl:Option Addr) (cw ct cl:Nat) (w:World) (hW:TxAt w t pw pt) :
  Calls Tryz.prog 109 #[.agg #[.slice pw t.words.length cw,.slice pt t.turns.length ct,.int .i64 t.breath],.slice pl l.length cl] w fun e w' =>
   e=.returned (.tuple #[wkNo,.int .i64 2])∧Below w.heap.size w w':=by
 have HS:=Lib.hid (fun W (h:Below w.heap.size w W)=>open_ok t he pw pt cw ct W (hW.below h));clear hW he;rw [hll]
 go_enter Tryz.func109,Tryz.ntmps109
 go_wp2_with fail
 refine (HS.out _ ((below1 _ _).alloc (by simp) _)).mono ?_;rintro e w5 ⟨rfl,hB5⟩;have hz5:w.heap.size+1<w5.heap.size:=by have:=hB5.size;simp at this;omega
 have hy5:w.heap.size<w5.heap.size:=by omega
 have hblk:w5.heap[w.heap.size+1]?=some (.cells #[.slice none 0 0,.slice none 0 0,.int .i64 0,.nilFunc] 84 (0,0)):=by
  rw [hB5.block _ (by simp)];have:=heap_last (w.alloc (.cells #[.slice pw t.words.length cw,.slice pt t.turns.length ct,.int .i64 t.breath] 25)) (.cells #[.slice none 0 0,.slice none 0 0,.int .i64 0,.nilFunc] 84);rwa [World.size_alloc] at this
 have HB5:=Lib.hid (join ((below1 _ _).alloc (by simp) _) hB5);clear hB5;have r0:=blk_cells hblk 0 _ rfl;have r1:=blk_cells hblk 1 _ rfl;have r2:=blk_cells hblk 2 _ rfl;have r3:=blk_cells hblk 3 _ rfl;have z:∀ i,w5.frozen? ⟨w.heap.size+1,i,none⟩=false:=fun i=>by simp [World.frozen?,hblk]
 clear hblk;go_wp2;refine bodyPost_ret (v:=.tuple #[wkNo,.int .i64 2]) (by simp [results,Tryz.results109,wkNo,go_sem,hz5,hy5,r0,r1,r2,r3]) rfl ⟨rfl,?_⟩;have hz9:=HB5.out.size
 repeat' (first | exact HB5.out | apply belS | apply belA | apply belD)
 all_goals first | omega | (simp;done) | (simp;omega)
set_option maxHeartbeats 1600000 in
theorem openKept_two (t:Text) (l:List Int) (he:t.err=0) (h0:l.length≠0) (hll:l.length≤1000000) (pw pt pl:Option Addr) (cw ct cl:Nat) (w:World) (hW:TxAt w t pw pt) (hL:Ints w pl l) :
  Calls Tryz.prog 109 #[.agg #[.slice pw t.words.length cw,.slice pt t.turns.length ct,.int .i64 t.breath],.slice pl l.length cl] w fun e w' =>
   e=.returned (.tuple #[if keptB t.words.length l=0 then wkOf t pw pt cw ct else wkNo,.int .i64 (keptB t.words.length l)])∧Below w.heap.size w w':=by
 have hn:=(err_ok he).n12;have HS:=Lib.hid (fun W (h:Below w.heap.size w W)=>open_ok t he pw pt cw ct W (hW.below h));have HA:=Lib.hid (fun W (h:Below w.heap.size w W)=>absE_any t.words.length cw pw (.slice pt t.turns.length ct) (.int .i64 t.breath) (.func (.func 91) #[.agg #[.slice pw t.words.length cw,.slice pt t.turns.length ct,.int .i64 t.breath,.nilFunc]] #[]) l pl cl W (by omega) hll (hL.below h));have HU:=Lib.hid (fun W (h:Below w.heap.size w W)=>errUp_any l pl cl 4 W.heap.size W (W.alloc (.cells #[.int .i64 (-1)] 3)) hll (hL.below h) (below1 _ _) (Nat.le_refl _) (heap_last _ _));have HF2:=Lib.hid (show keptB t.words.length l=firstErr [errIf (absent t.words.length) l 1,upErr l 4] by rw [firstErr2];rfl);generalize keptB t.words.length l=kb at HF2 ⊢;have HV:Hid ((kb=0∧(if kb=0 then wkOf t pw pt cw ct else wkNo)=wkOf t pw pt cw ct)∨(kb≠0∧(if kb=0 then wkOf t pw pt cw ct else wkNo)=wkNo)):=by
  by_cases h:kb=0
  ·exact Lib.hid (.inl ⟨h,if_pos h⟩)
  ·exact Lib.hid (.inr ⟨h,if_neg h⟩)
 generalize (if kb=0 then wkOf t pw pt cw ct else wkNo)=vv at HV ⊢;generalize errIf (absent t.words.length) l 1=e1 at HA HF2;generalize upErr l 4=e2 at HU HF2;have h0':((l.length:Int) == 0)=false:=by rw [beq_eq_false_iff_ne];omega
 have hmf:=mf;clear hW he hL
 go_enter Tryz.func109,Tryz.ntmps109
 go_wp2_with fail
 refine (HS.out _ ((below1 _ _).alloc (by simp) _)).mono ?_;rintro e w5 ⟨rfl,hB5⟩;have hz5:w.heap.size+1<w5.heap.size:=by have:=hB5.size;simp at this;omega
 have hy5:w.heap.size<w5.heap.size:=by omega
 have hblk:w5.heap[w.heap.size+1]?=some (.cells #[.slice none 0 0,.slice none 0 0,.int .i64 0,.nilFunc] 84 (0,0)):=by
  rw [hB5.block _ (by simp)];have:=heap_last (w.alloc (.cells #[.slice pw t.words.length cw,.slice pt t.turns.length ct,.int .i64 t.breath] 25)) (.cells #[.slice none 0 0,.slice none 0 0,.int .i64 0,.nilFunc] 84);rwa [World.size_alloc] at this
 have HB5:=Lib.hid (join ((below1 _ _).alloc (by simp) _) hB5);have HBLK:=Lib.hid hblk;clear hB5 hblk;go_wp2_with fail
 refine (HA.out _ (join HB5.out (below1 _ _))).mono ?_;rintro e w6 ⟨rfl,hB6⟩;have hX6:=hB6.block w5.heap.size (by simp);rw [heap_last] at hX6;have HX6:=Lib.hid hX6;have hblk6:=(hB6.block (w.heap.size+1) (by simp;omega)).trans ((Below.heap_alloc _ _ _ hz5).trans HBLK.out);have HBLK:=Lib.hid hblk6;have HB6:=Lib.hid (join (join HB5.out (below1 _ _)) hB6);have hz6:w5.heap.size<w6.heap.size:=by have:=hB6.size;simp at this;omega
 clear hB6 hX6 hblk6;go_wp2_with fail
 refine (notBeh_any w6).mono ?_;rintro e w7 ⟨rfl,rfl⟩;go_wp2_with fail
 refine (HU.out w6 HB6.out).mono ?_;rintro e w8 ⟨rfl,hB8⟩;have HX8:=(hB8.block w5.heap.size hz6).trans HX6.out;have hs8:=hB8.size;have hb8:=(hB8.block (w.heap.size+1) (by omega)).trans HBLK.out;have HBLK:=Lib.hid hb8;have HX8:=Lib.hid HX8;have HB8:=Lib.hid (join HB6.out hB8);have hz8:w5.heap.size<w8.heap.size:=by omega
 clear hB8 hb8 hs8 HX6 HB6;go_wp2_with fail
 refine (firstError_any [e1,e2] _ _ _ (by simp) (ints_two w8 e1 e2 _)).mono ?_;rintro e w9 ⟨rfl,rfl⟩;rw [← HF2.out];clear HF2;have q1:w.heap.size+1<w8.heap.size:=by omega
 have q2:w.heap.size<w8.heap.size:=by omega
 have hne:¬ w.heap.size+1=w5.heap.size:=by omega
 have hne2:¬ w5.heap.size=w.heap.size+1:=by omega
 have r0:=blk_cells HBLK.out 0 _ rfl;have r1:=blk_cells HBLK.out 1 _ rfl;have r2:=blk_cells HBLK.out 2 _ rfl;have r3:=blk_cells HBLK.out 3 _ rfl;have s0:=blk_cells HX8.out 0 _ rfl;have s1:=blk_cells HX8.out 1 _ rfl;have s2:=blk_cells HX8.out 2 _ rfl;have s3:=blk_cells HX8.out 3 _ rfl;have z:∀ i,w8.frozen? ⟨w.heap.size+1,i,none⟩=false:=fun i=>by simp [World.frozen?,HBLK.out]
 rcases HV.out with ⟨hkb,hvv⟩ | ⟨hkb,hvv⟩
 ·subst hkb;subst hvv;go_wp2;refine bodyPost_ret (v:=.tuple #[wkOf t pw pt cw ct,.int .i64 0]) (by simp [results,Tryz.results109,wkOf,go_sem,q1,q2,hz8,hne,hne2,r0,r1,r2,r3,s0,s1,s2,s3]) rfl ⟨rfl,?_⟩;have hz9:=HB8.out.size
  repeat' (first | exact HB8.out | apply belS | apply belA | apply belD)
  all_goals first | omega | (simp;done) | (simp;omega)
 ·have hkb':(kb != 0)=true:=by simpa using hkb
  subst hvv;clear hkb;go_wp2;refine bodyPost_ret (v:=.tuple #[wkNo,.int .i64 kb]) (by simp [results,Tryz.results109,wkNo,go_sem,q1,q2,hz8,hne,hne2,r0,r1,r2,r3,s0,s1,s2,s3]) rfl ⟨rfl,?_⟩;have hz9:=HB8.out.size
  repeat' (first | exact HB8.out | apply belS | apply belA | apply belD)
  all_goals first | omega | (simp;done) | (simp;omega)
theorem openKept_any (t:Text) (l:List Int) (hl1:t.words.length≤1000000) (hl2:t.turns.length≤1000000) (hll:l.length≤1000000) (pw pt pl:Option Addr) (cw ct cl:Nat) (w:World) (hW:TxAt w t pw pt) (hL:Ints w pl l) :
  Calls Tryz.prog 109 #[.agg #[.slice pw t.words.length cw,.slice pt t.turns.length ct,.int .i64 t.breath],.slice pl l.length cl] w fun e w' =>
   e=.returned (.tuple #[if t.keptE l=0 then wkOf t pw pt cw ct else wkNo,.int .i64 (t.keptE l)])∧Below w.heap.size w w':=by
 by_cases he:t.err=0
 ·by_cases h0:l.length=0
  ·have h:t.keptE l=2:=by rw [keptE_eq,if_neg (by simpa using he),if_pos h0]
   rw [h];exact openKept_bad1 t l he h0 pw pt pl cw ct cl w hW
  ·have h:t.keptE l=keptB t.words.length l:=by rw [keptE_eq,if_neg (by simpa using he),if_neg h0]
   rw [h];exact openKept_two t l he h0 hll pw pt pl cw ct cl w hW hL
 ·have h:t.keptE l=t.err:=by rw [keptE_eq,if_pos he]
  rw [h,if_neg he];exact openKept_bad0 t l he hl1 hl2 pw pt pl cw ct cl w hW
end Go.Proofs.YtadnggecnjdhiaaGreat
namespace Go.Proofs.YtadnggecnjdhiaaGreat
open Go.RowKit Tx
attribute [local go_sem] Oper.semAt_some
theorem keptWords1_any (x:Word) (w:World) :
  Calls Tryz.prog 138 #[.agg #[.int .i64 x.syl,.int .i64 x.wt,.bool x.stop]] w fun e w'=>e=.returned (.bool x.stop)∧Below w.heap.size w w':=by
 obtain ⟨a,b,c⟩:=x;dsimp only
 go_enter Tryz.func138,Tryz.ntmps138
 go_wp2;go_ret;exact ⟨rfl,below1 _ _⟩
theorem entered_keptWords1:Entered 138:=fun args W=>by kernel_rfl
def idxW (p:Word→Bool) (ts:List Word) (z:Int):Prop:=(z=-1∧ts.any p=false)∨(0≤z∧ts.any p=true)
set_option maxHeartbeats 1000000 in
set_option maxRecDepth 100000 in
theorem indexFuncW (F:FuncId) (hF:Entered F) (q:Word→Bool) (ts:List Word) (p:Option Addr) (c:Nat) (w:World) (hl:ts.length≤1000000) (hi:Wds w p ts) (hq:∀ W,Below w.heap.size w W→∀ u∈ts,Calls Tryz.prog F #[.agg #[.int .i64 u.syl,.int .i64 u.wt,.bool u.stop]] W fun e w'=>e=.returned (.bool (q u))∧Below W.heap.size W w') :
  Calls Tryz.prog 147 #[.slice p ts.length c,.func (.func F) #[] #[]] w fun e w'=>∃ z:Int,e=.returned (.int .i64 z)∧idxW q ts z∧Below w.heap.size w w':=by
 have HI:=Lib.hid hi;have HQ:=Lib.hid hq;have HF:=Lib.hid hF;clear hi hq hF
 go_enter Tryz.func147,Tryz.ntmps147
 go_wp2_with fail
 go_loopw [5,8] (fun u5 i wr=>∃ k:Nat,k≤ts.length∧i=.int .i64 k∧(ts.take k).any q=false∧Below w.heap.size w wr) (fun _ i _=>ts.length-(intOf i).toNat)
 case atStart=>exact ⟨0,Nat.zero_le _,rfl,rfl,Below.refl _ _⟩
 case round =>
  obtain ⟨k,hk,rfl,hA,hB⟩:=hrel;have HA:=Lib.hid hA;clear hA;by_cases hlt:k<ts.length
  ·have hlt':(k:Int)<ts.length:=by omega
   obtain ⟨b,o,x,rfl,hb,hxx,c1,c2,c3⟩:=(HI.out.below hB).at hlt;have HX:=Lib.hid hxx;have HB:=Lib.hid hB;have HASK:=Lib.hid (HQ.out _ hB x (by rw [hxx];exact getD_mem default hlt));clear hxx hB;go_wp2_with fail
   rw [HF.out,Oper.upon_enter];refine HASK.out.mono ?_;rintro e w5 ⟨rfl,hB5⟩;have HB5:=Lib.hid (join HB.out hB5);clear HASK hB5;cases hbad:q x with
   | true =>
    have HBAD:=Lib.hid hbad;clear hbad;go_wp2;go_ret;exact ⟨_,rfl,.inr ⟨by omega,any_hit default hlt _ (by rw [← HX.out];exact HBAD.out)⟩,HB5.out⟩
   | false =>
    have HBAD:=Lib.hid hbad;clear hbad;go_wp2;go_roundw
    case rel=>exact ⟨k+1,by omega,by go_num,any_snoc default hlt _ HA.out (by rw [← HX.out];exact HBAD.out),HB5.out⟩
    case measure=>simp [intOf];omega
  ·obtain rfl:k=ts.length:=by omega
   have HB:=Lib.hid hB;clear hB;go_wp2;go_ret;exact ⟨_,rfl,.inl ⟨rfl,by have:=HA.out;rwa [List.take_length] at this⟩,HB.out⟩
set_option maxHeartbeats 1000000 in
set_option maxRecDepth 100000 in
theorem containsFuncW (F:FuncId) (hF:Entered F) (q:Word→Bool) (ts:List Word) (p:Option Addr) (c:Nat) (w:World) (hl:ts.length≤1000000) (hi:Wds w p ts) (hq:∀ W,Below w.heap.size w W→∀ u∈ts,Calls Tryz.prog F #[.agg #[.int .i64 u.syl,.int .i64 u.wt,.bool u.stop]] W fun e w'=>e=.returned (.bool (q u))∧Below W.heap.size W w') :
  Calls Tryz.prog 137 #[.slice p ts.length c,.func (.func F) #[] #[]] w fun e w'=>e=.returned (.bool (ts.any q))∧Below w.heap.size w w':=by
 have HI:=Lib.hid (indexFuncW F hF q ts p c w hl hi hq);clear hi hq
 go_enter Tryz.func137,Tryz.ntmps137
 go_wp2_with fail
 refine HI.out.mono ?_;rintro e w5 ⟨z,rfl,hz,hB5⟩;rcases hz with ⟨rfl,ha⟩ | ⟨h0,ha⟩
 ·have HA:=Lib.hid ha;clear ha;go_wp2;go_ret;exact ⟨by rw [HA.out];rfl,hB5⟩
 ·have HA:=Lib.hid ha;have hz0:decide (0≤z)=true:=by simpa using h0
  clear ha;go_wp2;go_ret;exact ⟨by rw [HA.out];rfl,hB5⟩
def kwTo (ws:List Word) (l:List Int) (n:Int) (k:Nat):List Word:=(List.range l.length).map fun i=>if i<k then shortAt ws l n i else ⟨0,0,false⟩
theorem kwTo_len (ws:List Word) (l:List Int) (n:Int) (k:Nat):(kwTo ws l n k).length=l.length:=by simp [kwTo]
theorem kwTo_succ (ws:List Word) (l:List Int) (n:Int) {k:Nat} (hk:k<l.length):(kwTo ws l n k).set k (shortAt ws l n k)=kwTo ws l n (k+1):=by
 apply List.ext_getElem?;intro i;rw [List.getElem?_set,kwTo_len];unfold kwTo;rw [List.getElem?_map,List.getElem?_map];by_cases h:k=i
 ·subst h;rw [if_pos rfl,if_pos hk];simp [hk]
 ·rw [if_neg h];by_cases hi:i<l.length
  ·rw [List.getElem?_range hi];simp only [Option.map_some];by_cases g:i<k
   ·rw [if_pos g,if_pos (by omega)]
   ·rw [if_neg g,if_neg (by omega)]
  ·rw [List.getElem?_eq_none (by simpa using hi)];rfl
theorem kwTo_full (ws:List Word) (l:List Int) (n:Int):kwTo ws l n l.length=shortW ws l n:=by
 unfold kwTo shortW;apply List.map_congr_left;intro i hi;rw [if_pos (by simpa using hi)]
theorem kwTo_zero (ws:List Word) (l:List Int) (n:Int):kwTo ws l n 0=List.replicate l.length ⟨0,0,false⟩:=by
 apply List.ext_getElem?;intro i;unfold kwTo;by_cases hi:i<l.length
 ·simp [hi]
 ·rw [List.getElem?_eq_none (by simpa using hi),List.getElem?_eq_none (by simpa using hi)]
theorem made_words (n:Nat):madeCells #[.int .i64 0,.int .i64 0,.bool false] (n*3)=(wcells (List.replicate n ⟨0,0,false⟩)).toArray:=by
 apply Array.ext_getElem?;intro i;unfold madeCells;have e:(wcells (List.replicate n ⟨0,0,false⟩)).toArray[i]?=(wcells (List.replicate n ⟨0,0,false⟩))[i]?:=List.getElem?_toArray;rw [Array.getElem?_map,e];by_cases hi:i<n*3
 ·have hq:i / 3<(List.replicate n (⟨0,0,false⟩:Word)).length:=by rw [List.length_replicate];omega
  have hdm:i=i / 3*3+i % 3:=by omega
  have h1:=flat3_get default wcell (fun _=>rfl) (List.replicate n (⟨0,0,false⟩:Word)) (i / 3) (i % 3) hq (by omega);rw [← hdm] at h1;unfold wcells;rw [h1];have e0:(List.replicate n (⟨0,0,false⟩:Word)).getD (i / 3) default=⟨0,0,false⟩:=by
   rw [List.length_replicate] at hq;simp [hq]
  rw [e0];have hr:i % 3=0∨i % 3=1∨i % 3=2:=by omega
  simp only [Array.getElem?_range,hi];rcases hr with h | h | h <;> simp [h,wcell]
 ·rw [List.getElem?_eq_none (by rw [wcells_len,List.length_replicate];omega)];simp [hi]
theorem make_words (n:Nat) (hn:n≤1000000) (W:World):(Instr.makeSlice 22 (.int .i64 (n:Int)) (.int .i64 (n:Int))).run Tryz.prog W=.ok (.slice (some ⟨W.heap.size,0,none⟩) n n) (W.alloc (.cells (wcells (List.replicate n ⟨0,0,false⟩)).toArray 61)):=by
 obtain ⟨i0,hi0,hz0,hz1,hz2⟩:=info_parts A_infoWd;have h:=run_make (P:=Tryz.prog) W 22 61 i0 (.agg #[.int .i64 0,.int .i64 0,.bool false]) A_undWs hi0 hz0 .i64 .i64 n n (by omega) (by omega) (by rw [hz2];omega) (by omega);rw [hz1] at h;rw [h,Int.toNat_natCast]
 show Result.ok _ (W.alloc (.cells (madeCells #[.int .i64 0,.int .i64 0,.bool false] (n*3)) _))=_
 rw [made_words]
theorem wset (ws:List Word) (k:Nat) (hk:k<ws.length) (a b:Int) (c d:Bool) :
  ((((wcells ws).toArray.setIfInBounds (k*3) (.int .i64 a)).setIfInBounds (k*3+1) (.int .i64 b)).setIfInBounds (k*3+2) (.bool c)).setIfInBounds (k*3+2) (.bool d)=(wcells (ws.set k ⟨a,b,d⟩)).toArray:=by
 apply Array.ext_getElem?;intro j;have hL:=wcells_len ws;simp only [Array.getElem?_setIfInBounds,Array.size_setIfInBounds,List.size_toArray,List.getElem?_toArray];rw [hL];by_cases hj:j<ws.length*3
 ·have hdm:j=j / 3*3+j % 3:=by omega
  have hq:j / 3<ws.length:=by omega
  have f1:=flat3_get default wcell (fun _=>rfl) ws (j / 3) (j % 3) hq (by omega);have f2:=flat3_get default wcell (fun _=>rfl) (ws.set k ⟨a,b,d⟩) (j / 3) (j % 3) (by rw [List.length_set];exact hq) (by omega);rw [← hdm] at f1 f2;unfold wcells;rw [f1,f2];by_cases hqk:j / 3=k
  ·subst hqk;have e0:(ws.set (j / 3) ⟨a,b,d⟩).getD (j / 3) default=⟨a,b,d⟩:=by simp [hk]
   rw [e0];have hr:j % 3=0∨j % 3=1∨j % 3=2:=by omega
   rcases hr with h | h | h
   ·rw [if_neg (by omega),if_neg (by omega),if_neg (by omega),if_pos (by omega),if_pos (by omega),h];rfl
   ·rw [if_neg (by omega),if_neg (by omega),if_pos (by omega),if_pos (by omega),h];rfl
   ·rw [if_pos (by omega),if_pos (by omega),h];rfl
  ·have e0:(ws.set k ⟨a,b,d⟩).getD (j / 3) default=ws.getD (j / 3) default:=by
    simp [List.getElem?_set,Ne.symm hqk]
   rw [e0,if_neg (by omega),if_neg (by omega),if_neg (by omega),if_neg (by omega)]
 ·rw [if_neg (by omega),if_neg (by omega),if_neg (by omega),if_neg (by omega)];rw [List.getElem?_eq_none (by rw [wcells_len];omega),List.getElem?_eq_none (by rw [wcells_len,List.length_set];omega)]
theorem own_words {w:World} {base A:Nat} {ws:List Word} {n:Nat} (hn:n=ws.length) (hb:base≤A) (hm:n≤maxLen) (h:w.heap[A]?=some (.cells (wcells ws).toArray 61 (0,0))) :
  w.ownsRow base 61 3 (.slice (some ⟨A,0,none⟩) n n) n (wcells ws):=by
 subst hn;refine ⟨wcells_len ws,.inr ⟨A,ws.length,(wcells ws).toArray,rfl,hb,h,Nat.le_refl _,hm,?_,?_⟩⟩
 ·rw [List.size_toArray,wcells_len]
 ·rw [← wcells_len,List.take_length]
theorem wds_slice {w:World} {b o:Nat} {ws:List Word} (x y:Nat) (hxy:x≤y) (hy:y≤ws.length) (h:Wds w (some ⟨b,o,none⟩) ws):Wds w (some ⟨b,o+x*3,none⟩) (slice ws x y):=by
 have hlen:(slice ws x y).length=y-x:=slice_len ws (a:=x) hy;rcases h with rfl | ⟨b',o',hp,hb,hc⟩
 ·exact .inl (by simp [slice])
 ·injection hp with hp;injection hp with h1 h2 _;subst h1;subst h2;refine .inr ⟨b,o+x*3,rfl,hb,fun i hi=>?_⟩;rw [hlen] at hi;have e:(slice ws x y).getD i default=ws.getD (x+i) default:=slice_getD _ _ hi hy;rw [e];have:=hc (x+i) (by omega);rw [show o+x*3+i*3=o+(x+i)*3 by omega];exact this
set_option maxHeartbeats 4000000 in
set_option maxRecDepth 100000 in
theorem keptWords_any (t:Text) (ok:Text.Ok t) (l:List Int) (hll:l.length≤100000) (hx:∀ x∈l,0≤x∧x<(t.words.length:Int)) (ha:l.Pairwise (·<·)) (pw pl:Option Addr) (cw cl:Nat) (hcw:t.words.length≤cw∧cw≤maxLen) (v1 v2 v3:Value) (w:World) (hW:Wds w pw t.words) (hL:Ints w pl l) :
  Calls Tryz.prog 114 #[.agg #[.slice pw t.words.length cw,v1,v2,v3],.slice pl l.length cl] w fun e w'=>∃ A,e=.returned (.slice (some ⟨A,0,none⟩) l.length l.length)∧w'.ownsRow w.heap.size 61 3 (.slice (some ⟨A,0,none⟩) l.length l.length) l.length (wcells (shortW t.words l t.words.length))∧Below w.heap.size w w':=by
 have hmk:=make_words l.length (by omega);have hne:=ok.n1;obtain ⟨bb,o,x0,rfl,hbb,_⟩:=hW.at (i:=0) (by omega);have HW:=Lib.hid hW;have HL:=Lib.hid hL;have HX:=Lib.hid hx;have HA:=Lib.hid ha;have HOK:=Lib.hid ok;have hn12:=ok.n12;obtain ⟨hcw1,hcw2⟩:=hcw;unfold maxLen at hcw2;have HX0:=Lib.hid (heap_last w (.cells #[.slice (some ⟨bb,o,none⟩) t.words.length cw,v1,v2,v3] 84));have HB1:=Lib.hid (below1 w (.cells #[.slice (some ⟨bb,o,none⟩) t.words.length cw,v1,v2,v3] 84));have hz1:(w.alloc (.cells #[.slice (some ⟨bb,o,none⟩) t.words.length cw,v1,v2,v3] 84)).heap.size=w.heap.size+1:=by simp
 clear hW hL hx ok ha
 go_enter Tryz.func114,Tryz.ntmps114
 go_wp2_with fail
 have hblk:=heap_last (w.alloc (.cells #[.slice (some ⟨bb,o,none⟩) t.words.length cw,v1,v2,v3] 84)) (.cells (wcells (List.replicate l.length ⟨0,0,false⟩)).toArray 61);rw [World.size_alloc] at hblk;have hx2:=(Below.heap_alloc (w.alloc (.cells #[.slice (some ⟨bb,o,none⟩) t.words.length cw,v1,v2,v3] 84)) (.cells (wcells (List.replicate l.length ⟨0,0,false⟩)).toArray 61) w.heap.size (by simp)).trans HX0.out;have hB2:=join HB1.out (below1 (w.alloc (.cells #[.slice (some ⟨bb,o,none⟩) t.words.length cw,v1,v2,v3] 84)) (.cells (wcells (List.replicate l.length ⟨0,0,false⟩)).toArray 61))
 go_loopw [14] (fun i wr=>∃ k:Nat,k≤l.length∧i=.int .i64 k∧Hid (wr.heap[w.heap.size]?=some (.cells #[.slice (some ⟨bb,o,none⟩) t.words.length cw,v1,v2,v3] 84 (0,0)))∧Hid (wr.heap[w.heap.size+1]?=some (.cells (wcells (kwTo t.words l t.words.length k)).toArray 61 (0,0)))∧Hid (Below w.heap.size w wr)) (fun i _=>l.length-(intOf i).toNat)
 case atStart=>exact ⟨0,Nat.zero_le _,rfl,Lib.hid hx2,Lib.hid (by rw [kwTo_zero];exact hblk),Lib.hid hB2⟩
 case round =>
  obtain ⟨k,hk,rfl,H0,H1,HB⟩:=hrel;have hs1:=(Array.getElem?_eq_some_iff.1 H1.out).1;have hs0:w.heap.size<wr.heap.size:=by omega
  clear hblk hx2 hB2 hmk;by_cases hlt:k<l.length
  ·have hlt':(k:Int)<l.length:=by omega
   have k0:=blk_cells H0.out 0 _ rfl;obtain ⟨lb,lo,x,rfl,hlb,hxx,c1⟩:=(HL.out.below HB.out).at hlt;have hxb:=HX.out x (by rw [hxx];exact getD_mem 0 hlt);have HXX:=Lib.hid hxx;obtain ⟨y,rfl⟩:=Int.eq_ofNat_of_zero_le hxb.1;have hyn:y<t.words.length:=by omega
   have hyn':(y:Int)<t.words.length:=by omega
   obtain ⟨bb',bo',z,hp,hbbr,hzz,d1,d2,d3⟩:=(HW.out.below HB.out).at hyn;injection hp with hp;injection hp with hp1 hp2 _;subst hp1;subst hp2;have HZZ:=Lib.hid hzz;have hkl:(wcells (kwTo t.words l t.words.length k)).toArray.size=l.length*3:=by rw [List.size_toArray,wcells_len,kwTo_len]
   have hcell:∀ j,j<3→∃ v,wr.cell? ⟨w.heap.size+1,k*3+j,none⟩=some v:=fun j hj=>by
    refine ⟨(wcells (kwTo t.words l t.words.length k)).toArray[k*3+j]'(by rw [hkl];omega),?_⟩;exact blk_cells H1.out _ _ (Array.getElem?_eq_getElem _)
   obtain ⟨u0,hu0⟩:=hcell 0 (by omega);obtain ⟨u1,hu1⟩:=hcell 1 (by omega);obtain ⟨u2,hu2⟩:=hcell 2 (by omega);have hu0:wr.cell? ⟨w.heap.size+1,k*3,none⟩=some u0:=hu0;have hfz:∀ i,wr.frozen? ⟨w.heap.size+1,i,none⟩=false:=fun i=>by simp [World.frozen?,H1.out]
   have hq1:¬ w.heap.size+1=w.heap.size:=by omega
   have hq2:¬ w.heap.size=w.heap.size+1:=by omega
   have hbq:¬ w.heap.size+1=bb:=by omega
   have hlq:∀ _:lb<w.heap.size,¬ w.heap.size+1=lb:=fun h=>by omega
   clear hxx hzz hkl hcell hlb;by_cases hla:k+1<l.length
   ·have hla':(k:Int)+1<l.length:=by omega
    obtain ⟨lb',lo',x',hp,_,hxx',c2⟩:=(HL.out.below HB.out).at hla;injection hp with hp;injection hp with hp1 hp2 _;subst hp1;subst hp2;have hxb':=HX.out x' (by rw [hxx'];exact getD_mem 0 hla);obtain ⟨m,rfl⟩:=Int.eq_ofNat_of_zero_le hxb'.1;have hlt2:=getD_lt HA.out (Nat.lt_succ_self k) hla;rw [← hxx',← HXX.out] at hlt2;have hnx:nextI l t.words.length k=(m:Int):=by unfold nextI;rw [if_pos hla];exact hxx'.symm
    clear hxx';have hym:y≤m:=by omega
    have hml:m≤t.words.length:=by omega
    have HNX:=Lib.hid hnx;have hslw:=slice_len t.words (a:=y) hml;have HCF:=Lib.hid (fun W (h:Below w.heap.size w W)=>containsFuncW 138 entered_keptWords1 (·.stop) (slice t.words y m) (some ⟨bb,o+y*3,none⟩) (cw-y) W (by omega) (wds_slice y m hym hml (HW.out.below h)) (fun W' _ u _=>keptWords1_any u W'));rw [hslw] at HCF;clear hnx hslw;go_wp2_with fail
    obtain ⟨WS,hWS⟩:∃ WS,WS=((wr.setCell ⟨w.heap.size+1,k*3,none⟩ (.int .i64 z.syl)).setCell ⟨w.heap.size+1,k*3+1,none⟩ (.int .i64 z.wt)).setCell ⟨w.heap.size+1,k*3+2,none⟩ (.bool z.stop):=⟨_,rfl⟩;rw [← hWS];have HBS:=Lib.hid (show Below w.heap.size w WS by
     rw [hWS];exact ((HB.out.setCell (p:=⟨w.heap.size+1,k*3,none⟩) (by show w.heap.size≤w.heap.size+1;omega) _).setCell (p:=⟨w.heap.size+1,k*3+1,none⟩) (by show w.heap.size≤w.heap.size+1;omega) _).setCell (p:=⟨w.heap.size+1,k*3+2,none⟩) (by show w.heap.size≤w.heap.size+1;omega) _)
    have h0S:WS.heap[w.heap.size]?=some (.cells #[.slice (some ⟨bb,o,none⟩) t.words.length cw,v1,v2,v3] 84 (0,0)):=by
     rw [hWS];exact (Below.heap_setCell _ _ _ _ (by show w.heap.size≠w.heap.size+1;omega)).trans ((Below.heap_setCell _ _ _ _ (by show w.heap.size≠w.heap.size+1;omega)).trans ((Below.heap_setCell _ _ _ _ (by show w.heap.size≠w.heap.size+1;omega)).trans H0.out))
    have h1S:WS.heap[w.heap.size+1]?=some (.cells ((((wcells (kwTo t.words l t.words.length k)).toArray.setIfInBounds (k*3) (.int .i64 z.syl)).setIfInBounds (k*3+1) (.int .i64 z.wt)).setIfInBounds (k*3+2) (.bool z.stop)) 61 (0,0)):=by
     rw [hWS];exact heap_set_same _ (heap_set_same _ (heap_set_same _ H1.out))
    have HSUC:=Lib.hid (show (((((wcells (kwTo t.words l t.words.length k)).toArray.setIfInBounds (k*3) (.int .i64 z.syl)).setIfInBounds (k*3+1) (.int .i64 z.wt)).setIfInBounds (k*3+2) (.bool z.stop)).setIfInBounds (k*3+2) (.bool ((slice t.words y m).any (·.stop))))=(wcells (kwTo t.words l t.words.length (k+1))).toArray by
     rw [wset _ k (by rw [kwTo_len];exact hlt),← kwTo_succ t.words l t.words.length hlt]
     congr 3
     unfold shortAt stopsB;rw [HNX.out,← HXX.out,HZZ.out];simp)
    have hu2':∃ v,WS.cell? ⟨w.heap.size+1,k*3+2,none⟩=some v:=by
     refine ⟨((((wcells (kwTo t.words l t.words.length k)).toArray.setIfInBounds (k*3) (.int .i64 z.syl)).setIfInBounds (k*3+1) (.int .i64 z.wt)).setIfInBounds (k*3+2) (.bool z.stop))[k*3+2]'(by simp only [Array.size_setIfInBounds,List.size_toArray];rw [wcells_len,kwTo_len];omega),?_⟩;exact blk_cells h1S _ _ (Array.getElem?_eq_getElem _)
    generalize (((wcells (kwTo t.words l t.words.length k)).toArray.setIfInBounds (k*3) (.int .i64 z.syl)).setIfInBounds (k*3+1) (.int .i64 z.wt)).setIfInBounds (k*3+2) (.bool z.stop)=C3 at h1S HSUC;obtain ⟨u2',hu2'⟩:=hu2';have hsS:w.heap.size+1<WS.heap.size:=(Array.getElem?_eq_some_iff.1 h1S).1;have HSS:=Lib.hid hsS;have H0S:=Lib.hid h0S;have H1S:=Lib.hid h1S;have HU2:=Lib.hid hu2';clear hWS h0S h1S hu2' hsS hu0 hu1 hu2 hfz d1 d2 d3 c1 k0 c2;refine (HCF.out WS HBS.out).mono ?_;rintro e w5 ⟨rfl,hB5⟩;have hu5:=(hB5.cell (p:=⟨w.heap.size+1,k*3+2,none⟩) HSS.out).trans HU2.out;have h15:=(hB5.block _ HSS.out).trans H1S.out;have H05:=Lib.hid ((hB5.block w.heap.size (by have:=HSS.out;omega)).trans H0S.out);have hf5:∀ i,w5.frozen? ⟨w.heap.size+1,i,none⟩=false:=fun i=>by simp [World.frozen?,h15]
    have H15:=Lib.hid h15;have HB5:=Lib.hid (join HBS.out hB5);clear hB5 h15;generalize (slice t.words y m).any (·.stop)=sb at HSUC ⊢;go_wp2;go_roundw
    case rel =>
     exact ⟨k+1,by omega,by go_num,Lib.hid ((Below.heap_setCell _ _ _ _ (by show w.heap.size≠w.heap.size+1;omega)).trans H05.out),Lib.hid (by rw [← HSUC.out];exact heap_set_same _ H15.out),Lib.hid (HB5.out.setCell (p:=⟨w.heap.size+1,k*3+2,none⟩) (by show w.heap.size≤w.heap.size+1;omega) _)⟩
    case measure=>simp [intOf];omega
   ·have hnx:nextI l t.words.length k=(t.words.length:Int):=by unfold nextI;rw [if_neg hla]
    have hym:y≤t.words.length:=by omega
    have hml:t.words.length≤t.words.length:=by omega
    have HNX:=Lib.hid hnx;have hslw:=slice_len t.words (a:=y) hml;have HCF:=Lib.hid (fun W (h:Below w.heap.size w W)=>containsFuncW 138 entered_keptWords1 (·.stop) (slice t.words y t.words.length) (some ⟨bb,o+y*3,none⟩) (cw-y) W (by omega) (wds_slice y t.words.length hym hml (HW.out.below h)) (fun W' _ u _=>keptWords1_any u W'));rw [hslw] at HCF;clear hnx hslw;go_wp2_with fail
    obtain ⟨WS,hWS⟩:∃ WS,WS=((wr.setCell ⟨w.heap.size+1,k*3,none⟩ (.int .i64 z.syl)).setCell ⟨w.heap.size+1,k*3+1,none⟩ (.int .i64 z.wt)).setCell ⟨w.heap.size+1,k*3+2,none⟩ (.bool z.stop):=⟨_,rfl⟩;rw [← hWS];have HBS:=Lib.hid (show Below w.heap.size w WS by
     rw [hWS];exact ((HB.out.setCell (p:=⟨w.heap.size+1,k*3,none⟩) (by show w.heap.size≤w.heap.size+1;omega) _).setCell (p:=⟨w.heap.size+1,k*3+1,none⟩) (by show w.heap.size≤w.heap.size+1;omega) _).setCell (p:=⟨w.heap.size+1,k*3+2,none⟩) (by show w.heap.size≤w.heap.size+1;omega) _)
    have h0S:WS.heap[w.heap.size]?=some (.cells #[.slice (some ⟨bb,o,none⟩) t.words.length cw,v1,v2,v3] 84 (0,0)):=by
     rw [hWS];exact (Below.heap_setCell _ _ _ _ (by show w.heap.size≠w.heap.size+1;omega)).trans ((Below.heap_setCell _ _ _ _ (by show w.heap.size≠w.heap.size+1;omega)).trans ((Below.heap_setCell _ _ _ _ (by show w.heap.size≠w.heap.size+1;omega)).trans H0.out))
    have h1S:WS.heap[w.heap.size+1]?=some (.cells ((((wcells (kwTo t.words l t.words.length k)).toArray.setIfInBounds (k*3) (.int .i64 z.syl)).setIfInBounds (k*3+1) (.int .i64 z.wt)).setIfInBounds (k*3+2) (.bool z.stop)) 61 (0,0)):=by
     rw [hWS];exact heap_set_same _ (heap_set_same _ (heap_set_same _ H1.out))
    have HSUC:=Lib.hid (show (((((wcells (kwTo t.words l t.words.length k)).toArray.setIfInBounds (k*3) (.int .i64 z.syl)).setIfInBounds (k*3+1) (.int .i64 z.wt)).setIfInBounds (k*3+2) (.bool z.stop)).setIfInBounds (k*3+2) (.bool ((slice t.words y t.words.length).any (·.stop))))=(wcells (kwTo t.words l t.words.length (k+1))).toArray by
     rw [wset _ k (by rw [kwTo_len];exact hlt),← kwTo_succ t.words l t.words.length hlt]
     congr 3
     unfold shortAt stopsB;rw [HNX.out,← HXX.out,HZZ.out];simp)
    have hu2':∃ v,WS.cell? ⟨w.heap.size+1,k*3+2,none⟩=some v:=by
     refine ⟨((((wcells (kwTo t.words l t.words.length k)).toArray.setIfInBounds (k*3) (.int .i64 z.syl)).setIfInBounds (k*3+1) (.int .i64 z.wt)).setIfInBounds (k*3+2) (.bool z.stop))[k*3+2]'(by simp only [Array.size_setIfInBounds,List.size_toArray];rw [wcells_len,kwTo_len];omega),?_⟩;exact blk_cells h1S _ _ (Array.getElem?_eq_getElem _)
    generalize (((wcells (kwTo t.words l t.words.length k)).toArray.setIfInBounds (k*3) (.int .i64 z.syl)).setIfInBounds (k*3+1) (.int .i64 z.wt)).setIfInBounds (k*3+2) (.bool z.stop)=C3 at h1S HSUC;obtain ⟨u2',hu2'⟩:=hu2';have hsS:w.heap.size+1<WS.heap.size:=(Array.getElem?_eq_some_iff.1 h1S).1;have HSS:=Lib.hid hsS;have H0S:=Lib.hid h0S;have H1S:=Lib.hid h1S;have HU2:=Lib.hid hu2';clear hWS h0S h1S hu2' hsS hu0 hu1 hu2 hfz d1 d2 d3 c1 k0;refine (HCF.out WS HBS.out).mono ?_;rintro e w5 ⟨rfl,hB5⟩;have hu5:=(hB5.cell (p:=⟨w.heap.size+1,k*3+2,none⟩) HSS.out).trans HU2.out;have h15:=(hB5.block _ HSS.out).trans H1S.out;have H05:=Lib.hid ((hB5.block w.heap.size (by have:=HSS.out;omega)).trans H0S.out);have hf5:∀ i,w5.frozen? ⟨w.heap.size+1,i,none⟩=false:=fun i=>by simp [World.frozen?,h15]
    have H15:=Lib.hid h15;have HB5:=Lib.hid (join HBS.out hB5);clear hB5 h15;generalize (slice t.words y t.words.length).any (·.stop)=sb at HSUC ⊢;go_wp2;go_roundw
    case rel =>
     exact ⟨k+1,by omega,by go_num,Lib.hid ((Below.heap_setCell _ _ _ _ (by show w.heap.size≠w.heap.size+1;omega)).trans H05.out),Lib.hid (by rw [← HSUC.out];exact heap_set_same _ H15.out),Lib.hid (HB5.out.setCell (p:=⟨w.heap.size+1,k*3+2,none⟩) (by show w.heap.size≤w.heap.size+1;omega) _)⟩
    case measure=>simp [intOf];omega
  ·obtain rfl:k=l.length:=by omega
   have hfull:=kwTo_full t.words l t.words.length;have HF:=Lib.hid hfull;clear hfull;go_wp2;go_ret;exact ⟨_,rfl,by have h:=H1.out;rw [HF.out] at h;exact own_words (by rw [shortW_len]) (by omega) (by unfold maxLen;omega) h,HB.out⟩
end Go.Proofs.YtadnggecnjdhiaaGreat
namespace Go.Proofs.YtadnggecnjdhiaaGreat
open Go.RowKit Tx
attribute [local go_sem] Oper.semAt_some
theorem blk2 {w:World} {A:Nat} {a b:Value} {T:TypeId} {tg:Nat × Nat} (h:w.heap[A]?=some (.cells #[a,b] T tg)):w.cell? ⟨A,0,none⟩=some a∧w.cell? ⟨A,1,none⟩=some b:=by
 simp [World.cell?,h]
theorem libFrom (x:Int):∀ (l:List Int) (i:Nat),l.contains x=true→Lib.idxFrom l x i=((i+l.idxOf x:Nat):Int)
 | [],i,h=>by simp at h
 | z::l,i,h=>by
  unfold Lib.idxFrom;by_cases hz:z=x
  ·subst hz;rw [if_pos rfl,List.idxOf_cons_self];rfl
  ·have h':l.contains x=true:=by
    rw [List.contains_cons,Bool.or_eq_true,beq_iff_eq] at h;exact h.resolve_left (fun e=>hz e.symm)
   have e:(z::l).idxOf x=l.idxOf x+1:=by rw [List.idxOf_cons,show (z == x)=false by simpa using hz];rfl
   rw [if_neg hz,libFrom x l (i+1) h',e]
   congr 1
   omega
theorem libIdx {x:Int} {l:List Int} (h:l.contains x=true):Lib.idxOf l x=(l.idxOf x:Int):=by
 unfold Lib.idxOf;rw [libFrom x l 0 h,Nat.zero_add]
theorem index_any (l:List Int) (hll:l.length≤1000000) (p:Option Addr) (c:Nat) (x:Int) (w:World) (hL:Ints w p l) :
  Calls Tryz.prog 139 #[.slice p l.length c,.int .i64 x] w fun e w'=>e=.returned (.int .i64 (Lib.idxOf l x))∧w'=w:=by
 rcases hL with rfl | ⟨b,o,rfl,hb,hc⟩
 ·exact Tryz.slices_Index_int_empty p c x w
 ·have h:=Tryz.slices_Index_int b o l.length c l x w (Nat.le_refl _) (by omega) hc;rw [List.take_length] at h;exact h
theorem core_ends {u:Turn} {l:List Int} (h:u.lo≤u.hi) (hc:coreIn u l=true):l.contains u.lo=true∧l.contains u.hi=true:=by
 unfold coreIn at hc;rw [List.all_eq_true] at hc;have h1:=hc 0 (by rw [List.mem_range];omega);have h2:=hc (u.hi-u.lo).toNat (by rw [List.mem_range];omega);rw [show u.lo+((0:Nat):Int)=u.lo by simp] at h1;rw [show u.lo+(((u.hi-u.lo).toNat:Nat):Int)=u.hi by omega] at h2;exact ⟨h1,h2⟩
theorem shortTs_snoc (ts:List Turn) (u:Turn) (l:List Int):shortTs (ts++[u]) l=shortTs ts l++(if coreIn u l&&l.contains u.word then [shortTurn l u] else []):=by
 unfold shortTs;rw [List.filter_append,List.map_append];rw [List.filter_cons,List.filter_nil];cases h:(coreIn u l&&l.contains u.word)
 ·simp only [Bool.false_eq_true,if_false,List.map_nil]
 ·simp only [if_true,List.map_cons,List.map_nil]
theorem shortTs_len (ts:List Turn) (l:List Int):(shortTs ts l).length≤ts.length:=by
 unfold shortTs;rw [List.length_map];exact List.length_filter_le _ _
theorem own_setT {w:World} {base R o:Nat} {e T:TypeId} {size:Nat} {v u:Value} {n:Nat} {xs:List Value} {cs:Array Value} {tg:Nat × Nat} (h:w.ownsRow base e size v n xs) (hb:w.heap[R]?=some (.cells cs T tg)) (hT:T≠e):(w.setCell ⟨R,o,none⟩ u).ownsRow base e size v n xs:=by
 refine h.kept (grown_set w R o u) ?_;rcases h.2 with ⟨h1,_⟩ | ⟨g,cap,cur,h1,_,hg,_⟩
 ·exact .inl (by rw [h1];rfl)
 ·right;rw [h1]
  show some g≠some R
  intro e;injection e with e;subst e;rw [hg] at hb;injection hb with hb;injection hb with _ hb;exact hT hb.symm
theorem cell3_at {w:World} {p:Nat} {a b c:Value} {T:TypeId} {tg:Nat × Nat} (h:w.heap[p]?=some (.cells #[a,b,c] T tg)):∀ (j:Nat) (u:Value),[a,b,c][j]?=some u→w.cell? ((⟨p,0,none⟩:Addr).add j)=some u:=by
 intro j u hj;have hadd:(⟨p,0,none⟩:Addr).add j=⟨p,j,none⟩:=by unfold Addr.add;split <;> simp_all
 rw [hadd];exact blk_cells h j u (by simpa using hj)
theorem below_trans2 {a b c:World} (h:Below a.heap.size a b) (g:Rs.Gr b c):Below a.heap.size a c:=h.trans (show Below a.heap.size b c from Below.mono (B:=b.heap.size) g h.size)
def spKt6 (pl:Option Addr) (cl b7:Nat) (l:List Int) (ul uh:Int):Nat→List Value→Value→World→Prop
 | 0,_,v,_=>v=.slice pl l.length cl
 | 1,_,v,_=>v=.pointer (some ⟨b7,1,none⟩)
 | 2,_,v,_=>v=.pointer (some ⟨b7,1,none⟩)
 | 3,_,v,_=>v=.int .i64 ul
 | 4,_,v,_=>v=.int .i64 (Lib.idxOf l ul)
 | 5,_,v,_=>v=.slice pl l.length cl
 | 6,_,v,_=>v=.pointer (some ⟨b7,1,none⟩)
 | 7,_,v,_=>v=.pointer (some ⟨b7,2,none⟩)
 | 8,_,v,_=>v=.int .i64 uh
 | 9,_,v,_=>v=.int .i64 (Lib.idxOf l uh)
 | 10,_,v,_=>v=.agg #[.int .i64 (Lib.idxOf l ul),.int .i64 (Lib.idxOf l uh)]
 | 11,L,v,w=>∃ p,v=.pointer (some ⟨p,0,none⟩)∧b7<p∧w.heap[p]?=some (.cells #[.int .i64 0,.int .i64 0] 58 (0,0))
 | _,_,_,_=>False
theorem spKt6_stable (pl:Option Addr) (cl b7:Nat) (l:List Int) (ul uh:Int):∀ i L v w w',spKt6 pl cl b7 l ul uh i L v w→Rs.Gr w w'→spKt6 pl cl b7 l ul uh i L v w':=by
 intro i L v w w' h hg
 match i with
 | 0=>exact h
 | 1=>exact h
 | 2=>exact h
 | 3=>exact h
 | 4=>exact h
 | 5=>exact h
 | 6=>exact h
 | 7=>exact h
 | 8=>exact h
 | 9=>exact h
 | 10=>exact h
 | 11=>obtain ⟨p,h1,h2,h3⟩:=h;exact ⟨p,h1,h2,(hg.block p (Array.getElem?_eq_some_iff.1 h3).1).trans h3⟩
def spKt7 (pl:Option Addr) (cl b7 b8:Nat) (l:List Int) (uw a b:Int) (v5:Value):Nat→List Value→Value→World→Prop
 | 0,_,v,_=>v=v5
 | 1,_,v,_=>v=.slice pl l.length cl
 | 2,_,v,_=>v=.pointer (some ⟨b7,0,none⟩)
 | 3,_,v,_=>v=.int .i64 uw
 | 4,_,v,_=>v=.int .i64 (Lib.idxOf l uw)
 | 5,_,v,_=>v=.agg #[.int .i64 a,.int .i64 b]
 | 6,_,v,_=>v=.agg #[.int .i64 (Lib.idxOf l uw),.int .i64 a,.int .i64 b]
 | 7,L,v,w=>∃ p,v=.slice (some ⟨p,0,none⟩) 1 1∧b8<p∧w.heap[p]?=some (.cells #[.int .i64 (Lib.idxOf l uw),.int .i64 a,.int .i64 b] 63 (0,0))
 | _,_,_,_=>False
theorem spKt7_stable (pl:Option Addr) (cl b7 b8:Nat) (l:List Int) (uw a b:Int) (v5:Value):∀ i L v w w',spKt7 pl cl b7 b8 l uw a b v5 i L v w→Rs.Gr w w'→spKt7 pl cl b7 b8 l uw a b v5 i L v w':=by
 intro i L v w w' h hg
 match i with
 | 0=>exact h
 | 1=>exact h
 | 2=>exact h
 | 3=>exact h
 | 4=>exact h
 | 5=>exact h
 | 6=>exact h
 | 7=>obtain ⟨p,h1,h2,h3⟩:=h;exact ⟨p,h1,h2,(hg.block p (Array.getElem?_eq_some_iff.1 h3).1).trans h3⟩
set_option maxHeartbeats 8000000 in
set_option maxRecDepth 100000 in
theorem keptTurns_any (t:Text) (ok:Text.Ok t) (l:List Int) (hll:l.length≤100000) (pt pl:Option Addr) (ct cl:Nat) (v0 v2 v3:Value) (w:World) (hT:Tns w pt t.turns) (hL:Ints w pl l) :
  Calls Tryz.prog 115 #[.agg #[v0,.slice pt t.turns.length ct,v2,v3],.slice pl l.length cl] w fun e w'=>∃ v,e=.returned v∧w'.ownsRow w.heap.size 63 3 v (shortTs t.turns l).length (tcells (shortTs t.turns l))∧Below w.heap.size w w':=by
 obtain ⟨j0,hj0,hy0,hy1,hy2⟩:=info_parts A_infoTn;have hm6:=ok.m6;have HT:=Lib.hid hT;have HIX:=Lib.hid (fun x W (h:Below w.heap.size w W)=>index_any l (by omega) pl cl x W (hL.below h));have HCK:=Lib.hid (fun (u:Turn) (hu:u∈t.turns) W (h:Below w.heap.size w W)=>coreKept_any u ⟨by have:=(ok.turn u hu);omega,by have:=(ok.turn u hu);omega,by have:=(ok.turn u hu);have:=ok.n12;omega⟩ l (by omega) pl cl W (hL.below h));have HCO:=Lib.hid (fun x W (h:Below w.heap.size w W)=>contains_any l (by omega) pl cl x W (hL.below h));have HOK:=Lib.hid ok;have HB:=Lib.hid (below1 w (.cells #[v0,.slice pt t.turns.length ct,v2,v3] 84));have HX:=Lib.hid (heap_last w (.cells #[v0,.slice pt t.turns.length ct,v2,v3] 84));have hsz:(w.alloc (.cells #[v0,.slice pt t.turns.length ct,v2,v3] 84)).heap.size=w.heap.size+1:=by simp
 have k1:=blk_cells HX.out 1 _ rfl;clear hT hL ok
 go_enter Tryz.func115,Tryz.ntmps115
 go_wp2_with fail
 generalize w.alloc (.cells #[v0,.slice pt t.turns.length ct,v2,v3] 84)=W1 at HB HX hsz k1 ⊢;have hsz1:w.heap.size+1≤W1.heap.size:=by omega
 clear k1
 go_loopw [5,13] (fun v i wr=>∃ k:Nat,k≤t.turns.length∧i=.int .i64 k∧Hid (wr.ownsRow W1.heap.size 63 3 v (shortTs (t.turns.take k) l).length (tcells (shortTs (t.turns.take k) l)))∧Hid (Below W1.heap.size W1 wr)) (fun _ i _=>t.turns.length-(intOf i).toNat)
 case atStart=>exact ⟨0,Nat.zero_le _,rfl,Lib.hid (own_none _ _ _ _),Lib.hid (Below.refl _ _)⟩
 case round =>
  obtain ⟨k,hk,rfl,HO,HBr0⟩:=hrel;have HBr:=Lib.hid (join HB.out HBr0.out);obtain ⟨p5,c5,rfl⟩:=own_val HO.out;have hsl:(shortTs (t.turns.take k) l).length≤t.turns.length:=Nat.le_trans (shortTs_len _ _) (by simp;omega);generalize hS:shortTs (t.turns.take k) l=S at HO hsl;have HS:=Lib.hid hS;clear hS;by_cases hlt:k<t.turns.length
  ·have hlt':(k:Int)<t.turns.length:=by omega
   obtain ⟨b,o,u,rfl,hb,hxx,d0,d1,d2⟩:=(HT.out.below HBr.out).at hlt;have hum:u∈t.turns:=by rw [hxx];exact getD_mem default hlt
   have hur:=HOK.out.turn u hum;have HUR:=Lib.hid (show u.lo≤u.hi by omega);have HCU:=Lib.hid (HCK.out u hum);have HSN:=Lib.hid (show shortTs (t.turns.take (k+1)) l=S++(if coreIn u l&&l.contains u.word then [shortTurn l u] else []) by rw [take_snocD default hlt,← hxx,← HS.out];exact shortTs_snoc (t.turns.take k) u l);have hbz:=HBr0.out.size;clear hxx hum hur HCK;obtain ⟨uw,ul,uh⟩:=u;dsimp only at d0 d1 d2 HUR HCU HSN;have HX7:=Lib.hid (heap_last wr (.cells #[.int .i64 uw,.int .i64 ul,.int .i64 uh] 63));have HZ7:=Lib.hid (show wr.heap.size<(wr.alloc (.cells #[.int .i64 uw,.int .i64 ul,.int .i64 uh] 63)).heap.size by rw [World.size_alloc];omega);have HO7:=Lib.hid (own_below HO.out (below1 wr (.cells #[.int .i64 uw,.int .i64 ul,.int .i64 uh] 63)));have HBr7:=Lib.hid (HBr.out.trans ((below1 wr (.cells #[.int .i64 uw,.int .i64 ul,.int .i64 uh] 63)).mono HBr.out.size));have HB07:=Lib.hid (HBr0.out.trans ((below1 wr (.cells #[.int .i64 uw,.int .i64 ul,.int .i64 uh] 63)).mono hbz));clear HO HBr HBr0;go_wp2_with fail
   clear d0 d1 d2;refine (HCU.out _ HBr7.out).mono ?_;rintro e w5 ⟨rfl,hB⟩;have HX7:=Lib.hid ((hB.block _ HZ7.out).trans HX7.out);have HZ7:=Lib.hid (Nat.lt_of_lt_of_le HZ7.out hB.size);have HO7:=Lib.hid (own_below HO7.out hB);have HBr:=Lib.hid (HBr7.out.trans (hB.mono HBr7.out.size));have HBr0:=Lib.hid (HB07.out.trans (hB.mono HB07.out.size));clear hB HBr7 HB07 HCU;cases hc:coreIn ⟨uw,ul,uh⟩ l with
   | false =>
    rw [hc,Bool.false_and] at HSN;clear hc;go_wp2;go_roundw
    case rel=>exact ⟨k+1,by omega,by go_num,by have h:=HO7.out;have e:=HSN.out;simp only [Bool.false_eq_true,if_false,List.append_nil] at e;exact Lib.hid (by rw [e];exact h),HBr0⟩
    case measure=>simp [intOf];omega
   | true =>
    have HE:=Lib.hid (core_ends HUR.out hc);rw [hc,Bool.true_and] at HSN;clear hc;obtain ⟨k0,k1,k2⟩:=blk3 HX7.out;go_wp2_with fail
    refine (HCO.out _ _ HBr.out).mono ?_;rintro e w6 ⟨rfl,rfl⟩;clear k0 k1 k2;cases hc2:l.contains uw with
    | false =>
     rw [hc2] at HSN;clear hc2;go_wp2;go_roundw
     case rel=>exact ⟨k+1,by omega,by go_num,by have h:=HO7.out;have e:=HSN.out;simp only [Bool.false_eq_true,if_false,List.append_nil] at e;exact Lib.hid (by rw [e];exact h),HBr0⟩
     case measure=>simp [intOf];omega
    | true =>
     have HW2:=Lib.hid (libIdx hc2);rw [hc2] at HSN;clear hc2;go_wp2_with fail
     refine Rs.region_gen 12 [[],[],[1],[1,2],[0,1,2,3],[],[],[6],[6,7],[0,1,2,3,4,5,6,7,8],[0,1,2,3,4,5,6,7,8,9],[]] [some 26,some 27,some 28,some 29,some 30,some 31,some 32,some 33,some 34,some 35,some 36,some 8] (spKt6 pl cl wr.heap.size l ul uh) (by kernel_rfl) (by kernel_rfl) rfl (spKt6_stable _ _ _ _ _ _) ?_ ?_
     ·refine ⟨fun V w' hG hs=>?_,fun V w' hG hs=>?_,fun V w' hG hs=>?_,fun V w' hG hs=>?_,fun V w' hG hs=>?_,fun V w' hG hs=>?_,fun V w' hG hs=>?_,fun V w' hG hs=>?_,fun V w' hG hs=>?_,fun V w' hG hs=>?_,fun V w' hG hs=>?_,fun V w' hG hs=>?_,trivial⟩
      all_goals
       obtain ⟨k0,k1,k2⟩:=blk3 ((hG.block _ HZ7.out).trans HX7.out)
      ·rw [if_pos (by rfl)];exact Rs.GrowL.value (v:=.slice pl l.length cl) (w':=w') (by simp [go_sem,Rs.look]) (Rs.Gr.refl _) rfl
      ·rw [if_pos (by rfl)];exact Rs.GrowL.value (v:=.pointer (some ⟨wr.heap.size,1,none⟩)) (w':=w') (by simp [go_sem,Rs.look]) (Rs.Gr.refl _) rfl
      ·have e1:V 1=_:=hs 1 (by simp);rw [if_pos (by rfl)];exact Rs.GrowL.value (v:=.pointer (some ⟨wr.heap.size,1,none⟩)) (w':=w') (by simp [go_sem,Rs.look,e1]) (Rs.Gr.refl _) rfl
      ·have e1:V 1=_:=hs 1 (by simp);have e2:V 2=_:=hs 2 (by simp);rw [if_pos (by rfl)];exact Rs.GrowL.value (v:=.int .i64 ul) (w':=w') (by simp [go_sem,Rs.look,e1,e2,k1]) (Rs.Gr.refl _) rfl
      ·have e0:V 0=_:=hs 0 (by simp);have e1:V 1=_:=hs 1 (by simp);have e2:V 2=_:=hs 2 (by simp);have e3:V 3=_:=hs 3 (by simp);rw [if_pos (by rfl)];refine Rs.GrowL.call (f:=139) (args:=#[.slice pl l.length cl,.int .i64 ul]) (by simp [go_sem,Rs.look,e0,e3]) ?_;refine (HIX.out _ w' (below_trans2 HBr.out hG)).mono ?_;rintro e w2 ⟨rfl,rfl⟩;exact ⟨_,rfl,Rs.Gr.refl _,rfl⟩
      ·rw [if_pos (by rfl)];exact Rs.GrowL.value (v:=.slice pl l.length cl) (w':=w') (by simp [go_sem,Rs.look]) (Rs.Gr.refl _) rfl
      ·rw [if_pos (by rfl)];exact Rs.GrowL.value (v:=.pointer (some ⟨wr.heap.size,1,none⟩)) (w':=w') (by simp [go_sem,Rs.look]) (Rs.Gr.refl _) rfl
      ·have e6:V 6=_:=hs 6 (by simp);rw [if_pos (by rfl)];exact Rs.GrowL.value (v:=.pointer (some ⟨wr.heap.size,2,none⟩)) (w':=w') (by simp [go_sem,Rs.look,e6]) (Rs.Gr.refl _) rfl
      ·have e6:V 6=_:=hs 6 (by simp);have e7:V 7=_:=hs 7 (by simp);rw [if_pos (by rfl)];exact Rs.GrowL.value (v:=.int .i64 uh) (w':=w') (by simp [go_sem,Rs.look,e6,e7,k2]) (Rs.Gr.refl _) rfl
      ·have e0:V 0=_:=hs 0 (by simp);have e1:V 1=_:=hs 1 (by simp);have e2:V 2=_:=hs 2 (by simp);have e3:V 3=_:=hs 3 (by simp);have e4:V 4=_:=hs 4 (by simp);have e5:V 5=_:=hs 5 (by simp);have e6:V 6=_:=hs 6 (by simp);have e7:V 7=_:=hs 7 (by simp);have e8:V 8=_:=hs 8 (by simp);rw [if_pos (by rfl)];refine Rs.GrowL.call (f:=139) (args:=#[.slice pl l.length cl,.int .i64 uh]) (by simp [go_sem,Rs.look,e5,e8]) ?_;refine (HIX.out _ w' (below_trans2 HBr.out hG)).mono ?_;rintro e w2 ⟨rfl,rfl⟩;exact ⟨_,rfl,Rs.Gr.refl _,rfl⟩
      ·have e0:V 0=_:=hs 0 (by simp);have e1:V 1=_:=hs 1 (by simp);have e2:V 2=_:=hs 2 (by simp);have e3:V 3=_:=hs 3 (by simp);have e4:V 4=_:=hs 4 (by simp);have e5:V 5=_:=hs 5 (by simp);have e6:V 6=_:=hs 6 (by simp);have e7:V 7=_:=hs 7 (by simp);have e8:V 8=_:=hs 8 (by simp);have e9:V 9=_:=hs 9 (by simp);rw [if_pos (by rfl)];exact Rs.GrowL.value (v:=.agg #[.int .i64 (Lib.idxOf l ul),.int .i64 (Lib.idxOf l uh)]) (w':=w') (by simp [go_sem,Rs.look,e0,e1,e2,e3,e4,e5,e6,e7,e8,e9]) (Rs.Gr.refl _) rfl
      ·rw [if_pos (by rfl)];exact Rs.GrowL.value (v:=.pointer (some ⟨w'.heap.size,0,none⟩)) (w':=w'.alloc (.cells #[.int .i64 0,.int .i64 0] 58)) (by simp [go_sem,Rs.look]) (below1 _ _) ⟨_,rfl,by have:=hG.size;have:=HZ7.out;omega,heap_last _ _⟩
     ·intro V w' hG hs;have e0:V 0=_:=hs 0 (by omega);have e1:V 1=_:=hs 1 (by omega);have e2:V 2=_:=hs 2 (by omega);have e3:V 3=_:=hs 3 (by omega);have e4:V 4=_:=hs 4 (by omega);have e5:V 5=_:=hs 5 (by omega);have e6:V 6=_:=hs 6 (by omega);have e7:V 7=_:=hs 7 (by omega);have e8:V 8=_:=hs 8 (by omega);have e9:V 9=_:=hs 9 (by omega);have e10:V 10=_:=hs 10 (by omega);have r11:=hs 11 (by omega);obtain ⟨b8,e11,hb8,hx8⟩:=r11;simp only [Rs.canon,Rs.dstOf,List.range_succ,List.range_zero,List.nil_append,List.cons_append,List.foldl_cons,List.foldl_nil,List.drop_succ_cons,List.drop_zero,List.drop_nil,List.getElem?_toArray,List.getElem?_cons_succ,List.getElem?_cons_zero,Option.bind_some,Act.put,List.getD_cons_succ,List.getD_cons_zero,List.setIfInBounds_toArray,List.set_cons_succ,List.set_cons_zero];rw [e0,e1,e2,e3,e4,e5,e6,e7,e8,e9,e10,e11];clear e0 e1 e2 e3 e4 e5 e6 e7 e8 e9 e10 e11 hs;have HX7b:=Lib.hid ((hG.block _ HZ7.out).trans HX7.out);have HBr:=Lib.hid (below_trans2 HBr.out hG);have HBr0:=Lib.hid (below_trans2 HBr0.out hG);have HO7:=Lib.hid (own_below HO7.out hG);have HHX8:=Lib.hid hx8;have hz8:=(Array.getElem?_eq_some_iff.1 hx8).1;have fz:∀ i,w'.frozen? ⟨b8,i,none⟩=false:=fun i=>by simp [World.frozen?,hx8]
      obtain ⟨m0,m1⟩:=blk2 hx8;clear hx8 hG HX7 HZ7;go_wp2_with fail
      clear m0 m1 fz;obtain ⟨WS,hWS⟩:∃ WS,WS=(w'.setCell ⟨b8,0,none⟩ (.int .i64 (Lib.idxOf l ul))).setCell ⟨b8,1,none⟩ (.int .i64 (Lib.idxOf l uh)):=⟨_,rfl⟩;rw [← hWS];have hb8':W1.heap.size≤b8:=by omega
      have HX78:=Lib.hid (show WS.heap[wr.heap.size]?=some (.cells #[.int .i64 uw,.int .i64 ul,.int .i64 uh] 63 (0,0)) by
       rw [hWS];exact (Below.heap_setCell _ _ _ _ (by show wr.heap.size≠b8;omega)).trans ((Below.heap_setCell _ _ _ _ (by show wr.heap.size≠b8;omega)).trans HX7b.out))
      have HX8:=Lib.hid (show WS.heap[b8]?=some (.cells #[.int .i64 (Lib.idxOf l ul),.int .i64 (Lib.idxOf l uh)] 58 (0,0)) by
       rw [hWS];exact heap_set_same _ (heap_set_same _ HHX8.out))
      have HBr:=Lib.hid (show Below w.heap.size w WS by
       rw [hWS];exact (HBr.out.setCell (p:=⟨b8,0,none⟩) (by show w.heap.size≤b8;omega) _).setCell (p:=⟨b8,1,none⟩) (by show w.heap.size≤b8;omega) _)
      have HBr0:=Lib.hid (show Below W1.heap.size W1 WS by
       rw [hWS];exact (HBr0.out.setCell (p:=⟨b8,0,none⟩) hb8' _).setCell (p:=⟨b8,1,none⟩) hb8' _)
      have HZ78:=Lib.hid (Array.getElem?_eq_some_iff.1 HX78.out).1;have HZ8:=Lib.hid (Array.getElem?_eq_some_iff.1 HX8.out).1;have HOS:=Lib.hid (show WS.ownsRow W1.heap.size 63 3 (.slice p5 S.length c5) S.length (tcells S) by
       rw [hWS];exact own_setT (own_setT HO7.out HHX8.out (by decide)) (heap_set_same _ HHX8.out) (by decide))
      clear hWS HHX8 HX7b HO7;refine Rs.region_gen 8 [[],[],[],[2],[1,2,3],[],[1,2,3,4,5],[1,2,3,4,5,6]] [some 37,some 38,some 39,some 40,some 41,some 42,some 43,some 44] (spKt7 pl cl wr.heap.size b8 l uw (Lib.idxOf l ul) (Lib.idxOf l uh) (.slice p5 S.length c5)) (by kernel_rfl) (by kernel_rfl) rfl (spKt7_stable _ _ _ _ _ _ _ _ _) ?_ ?_
      ·refine ⟨fun V w' hG hs=>?_,fun V w' hG hs=>?_,fun V w' hG hs=>?_,fun V w' hG hs=>?_,fun V w' hG hs=>?_,fun V w' hG hs=>?_,fun V w' hG hs=>?_,fun V w' hG hs=>?_,trivial⟩
       all_goals
        obtain ⟨k0,k1,k2⟩:=blk3 ((hG.block _ HZ78.out).trans HX78.out);obtain ⟨m0,m1⟩:=blk2 ((hG.block _ HZ8.out).trans HX8.out)
       ·rw [if_pos (by rfl)];exact Rs.GrowL.value (v:=(.slice p5 S.length c5)) (w':=w') (by simp [go_sem,Rs.look]) (Rs.Gr.refl _) rfl
       ·rw [if_pos (by rfl)];exact Rs.GrowL.value (v:=.slice pl l.length cl) (w':=w') (by simp [go_sem,Rs.look]) (Rs.Gr.refl _) rfl
       ·rw [if_pos (by rfl)];exact Rs.GrowL.value (v:=.pointer (some ⟨wr.heap.size,0,none⟩)) (w':=w') (by simp [go_sem,Rs.look]) (Rs.Gr.refl _) rfl
       ·have e2:V 2=_:=hs 2 (by simp);rw [if_pos (by rfl)];exact Rs.GrowL.value (v:=.int .i64 uw) (w':=w') (by simp [go_sem,Rs.look,e2,k0]) (Rs.Gr.refl _) rfl
       ·have e1:V 1=_:=hs 1 (by simp);have e2:V 2=_:=hs 2 (by simp);have e3:V 3=_:=hs 3 (by simp);rw [if_pos (by rfl)];refine Rs.GrowL.call (f:=139) (args:=#[.slice pl l.length cl,.int .i64 uw]) (by simp [go_sem,Rs.look,e1,e3]) ?_;refine (HIX.out _ w' (below_trans2 HBr.out hG)).mono ?_;rintro e w2 ⟨rfl,rfl⟩;exact ⟨_,rfl,Rs.Gr.refl _,rfl⟩
       ·rw [if_pos (by rfl)];exact Rs.GrowL.value (v:=.agg #[.int .i64 (Lib.idxOf l ul),.int .i64 (Lib.idxOf l uh)]) (w':=w') (by simp [go_sem,Rs.look,m0,m1]) (Rs.Gr.refl _) rfl
       ·have e1:V 1=_:=hs 1 (by simp);have e2:V 2=_:=hs 2 (by simp);have e3:V 3=_:=hs 3 (by simp);have e4:V 4=_:=hs 4 (by simp);have e5:V 5=_:=hs 5 (by simp);rw [if_pos (by rfl)];exact Rs.GrowL.value (v:=.agg #[.int .i64 (Lib.idxOf l uw),.int .i64 (Lib.idxOf l ul),.int .i64 (Lib.idxOf l uh)]) (w':=w') (by simp [go_sem,Rs.look,e1,e2,e3,e4,e5]) (Rs.Gr.refl _) rfl
       ·have e1:V 1=_:=hs 1 (by simp);have e2:V 2=_:=hs 2 (by simp);have e3:V 3=_:=hs 3 (by simp);have e4:V 4=_:=hs 4 (by simp);have e5:V 5=_:=hs 5 (by simp);have e6:V 6=_:=hs 6 (by simp);rw [if_pos (by rfl)];exact Rs.GrowL.value (v:=.slice (some ⟨w'.heap.size,0,none⟩) 1 1) (w':=w'.alloc (.cells #[.int .i64 (Lib.idxOf l uw),.int .i64 (Lib.idxOf l ul),.int .i64 (Lib.idxOf l uh)] 63)) (by simp [go_sem,Rs.look,e6]) (below1 _ _) ⟨_,rfl,by have:=hG.size;have:=HZ8.out;omega,heap_last _ _⟩
      ·intro V w' hG hs;have e0:V 0=_:=hs 0 (by omega);have e1:V 1=_:=hs 1 (by omega);have e2:V 2=_:=hs 2 (by omega);have e3:V 3=_:=hs 3 (by omega);have e4:V 4=_:=hs 4 (by omega);have e5:V 5=_:=hs 5 (by omega);have e6:V 6=_:=hs 6 (by omega);have r7:=hs 7 (by omega);obtain ⟨p9,e7,hp9,hx9⟩:=r7;simp only [Rs.canon,Rs.dstOf,List.range_succ,List.range_zero,List.nil_append,List.cons_append,List.foldl_cons,List.foldl_nil,List.drop_succ_cons,List.drop_zero,List.drop_nil,List.getElem?_toArray,List.getElem?_cons_succ,List.getElem?_cons_zero,Option.bind_some,Act.put,List.getD_cons_succ,List.getD_cons_zero,List.setIfInBounds_toArray,List.set_cons_succ,List.set_cons_zero];rw [e0,e1,e2,e3,e4,e5,e6,e7];clear e0 e1 e2 e3 e4 e5 e6 e7 hs;have HOS:=Lib.hid (own_below HOS.out hG);have HBr:=Lib.hid (below_trans2 HBr.out hG);have HBr0:=Lib.hid (below_trans2 HBr0.out hG);have HX9:=Lib.hid hx9;clear hG hx9;go_wp2_with (at_builtin;refine wpList_append_own _ rfl _ _ 23 rfl W1.heap.size 63 j0 (.agg #[.int .i64 0,.int .i64 0,.int .i64 0]) 3 24 A_undTs hj0 hy0 hy1 hy2 rfl (by decide) _ _ _ rfl HOS.out ⟨p9,0,none⟩ 1 1 [.int .i64 (Lib.idxOf l uw),.int .i64 (Lib.idxOf l ul),.int .i64 (Lib.idxOf l uh)] rfl rfl ?e1 ?e2 ?e3 ?e4 ?e5 ?_)
       case e1=>exact cell3_at HX9.out
       case e2=>intro u hu;simp at hu;rcases hu with rfl | rfl | rfl <;> rfl
       case e3=>unfold maxLen;omega
       case e4=>omega
       case e5=>have:=HBr0.out.size;omega
       intro v' w8 hown8 hgrow _;have HO8:=Lib.hid hown8;have HB8:=Lib.hid (below_grown HBr0.out HOS.out (Nat.le_refl _) (by have:=HBr0.out.size;omega) hgrow);clear hown8 hgrow;go_wp2;go_roundw
       case rel =>
        refine ⟨k+1,by omega,by go_num,Lib.hid ?_,HB8⟩;have e:=HSN.out;simp only [if_true] at e;rw [e,List.length_append,tcells_snoc];have h8:=HO8.out;rw [libIdx HE.out.1,libIdx HE.out.2,HW2.out] at h8
        first | exact h8 | (rw [hsz];exact h8)
       case measure=>simp [intOf];omega
  ·obtain rfl:k=t.turns.length:=by omega
   go_wp2;go_ret;exact ⟨_,rfl,by have h:=HO.out;have e:=HS.out;rw [List.take_length] at e;rw [e];exact own_base h (by omega),HBr.out⟩
end Go.Proofs.YtadnggecnjdhiaaGreat
namespace Go.Proofs.YtadnggecnjdhiaaGreat
open Go.RowKit Tx
attribute [local go_sem] Oper.semAt_some
def keeB (t:Text) (l:List Int):Bool:=if t.keptE l=0 then t.keeps l else false
def keeN (t:Text) (l:List Int):Int:=if t.keptE l=0 then t.wtOf l else 0
theorem kept_len {t:Text} {l:List Int} (h:t.keptE l=0):l.length≤t.words.length:=by
 obtain ⟨_,_,h2,h3⟩:=keptE_zero h;have key:∀ (l:List Int) (a:Int) (n:Nat),(∀ x∈l,a≤x∧x<a+(n:Int))→l.Pairwise (·<·)→l.length≤n:=by
  intro l
  induction l with
  | nil=>intro a n _ _;simp
  | cons x l ih =>
   intro a n hx hp;have hp:=List.pairwise_cons.1 hp;have h0:=hx x (by simp);have:=ih (x+1) (a+n-(x+1)).toNat (fun y hy=>by
    have h1:=hp.1 y hy;have h2:=hx y (by simp [hy]);omega) hp.2
   rw [List.length_cons];omega
 exact key l 0 t.words.length (fun x hx=>by have:=h2 x hx;unfold Text.len at this;omega) h3
def spKe4 (pw pt pl:Option Addr) (n m ln cw ct cl:Nat) (br:Int) (fv:Value) (kb:Bool) (wt:Int):Nat→List Value→Value→World→Prop
 | 0,_,v,_=>v=.agg #[.slice pw n cw,.slice pt m ct,.int .i64 br,fv]
 | 1,_,v,_=>v=.slice pl ln cl
 | 2,_,v,_=>v=.bool kb
 | 3,_,v,_=>v=.agg #[.slice pw n cw,.slice pt m ct,.int .i64 br,fv]
 | 4,_,v,_=>v=.slice pl ln cl
 | 5,_,v,_=>v=.int .i64 wt
 | _,_,_,_=>False
theorem spKe4_stable (pw pt pl:Option Addr) (n m ln cw ct cl:Nat) (br:Int) (fv:Value) (kb:Bool) (wt:Int):∀ i L v w w',spKe4 pw pt pl n m ln cw ct cl br fv kb wt i L v w→Rs.Gr w w'→spKe4 pw pt pl n m ln cw ct cl br fv kb wt i L v w':=by
 intro i L v w w' h hg
 match i with
 | 0=>exact h
 | 1=>exact h
 | 2=>exact h
 | 3=>exact h
 | 4=>exact h
 | 5=>exact h
def spSr6 (pw pt pl:Option Addr) (n m ln cw ct cl A B:Nat) (br:Int) (fv:Value) (ws:List Word) (ts:List Turn):Nat→List Value→Value→World→Prop
 | 0,_,v,_=>v=.agg #[.slice pw n cw,.slice pt m ct,.int .i64 br,fv]
 | 1,_,v,_=>v=.slice pl ln cl
 | 2,L,v,w=>∃ g,v=.slice (some ⟨g,0,none⟩) ln ln∧w.ownsRow B 61 3 (.slice (some ⟨g,0,none⟩) ln ln) ln (wcells ws)
 | 3,_,v,_=>v=.agg #[.slice pw n cw,.slice pt m ct,.int .i64 br,fv]
 | 4,_,v,_=>v=.slice pl ln cl
 | 5,L,v,w=>∃ p c,v=.slice p ts.length c∧w.ownsRow B 63 3 (.slice p ts.length c) ts.length (tcells ts)
 | 6,_,v,_=>v=.pointer (some ⟨A,2,none⟩)
 | 7,_,v,_=>v=.int .i64 br
 | 8,L,v,w=>∃ g p c,v=.agg #[.slice (some ⟨g,0,none⟩) ln ln,.slice p ts.length c,.int .i64 br]∧w.ownsRow B 61 3 (.slice (some ⟨g,0,none⟩) ln ln) ln (wcells ws)∧w.ownsRow B 63 3 (.slice p ts.length c) ts.length (tcells ts)
 | _,_,_,_=>False
theorem spSr6_stable (pw pt pl:Option Addr) (n m ln cw ct cl A B:Nat) (br:Int) (fv:Value) (ws:List Word) (ts:List Turn):∀ i L v w w',spSr6 pw pt pl n m ln cw ct cl A B br fv ws ts i L v w→Rs.Gr w w'→spSr6 pw pt pl n m ln cw ct cl A B br fv ws ts i L v w':=by
 intro i L v w w' h hg
 match i with
 | 0=>exact h
 | 1=>exact h
 | 2=>obtain ⟨g,h1,h2⟩:=h;exact ⟨g,h1,own_below h2 hg⟩
 | 3=>exact h
 | 4=>exact h
 | 5=>obtain ⟨p,c,h1,h2⟩:=h;exact ⟨p,c,h1,own_below h2 hg⟩
 | 6=>exact h
 | 7=>exact h
 | 8=>obtain ⟨g,p,c,h1,h2,h3⟩:=h;exact ⟨g,p,c,h1,own_below h2 hg,own_below h3 hg⟩
set_option maxHeartbeats 1600000 in
theorem paidWords_any (t:Text) (ok:Text.Ok t) (pw:Option Addr) (cw:Nat) (v1 v2 v3:Value) (w:World) (hW:Wds w pw t.words) :
  Calls Tryz.prog 117 #[.agg #[.slice pw t.words.length cw,v1,v2,v3]] w fun e w'=>e=.returned (.int .i64 (paidN t.words))∧Below w.heap.size w w':=by
 have hn12:=ok.n12;have HW:=Lib.hid hW;have HB:=Lib.hid (below1 w (.cells #[.slice pw t.words.length cw,v1,v2,v3] 84));have HX:=Lib.hid (heap_last w (.cells #[.slice pw t.words.length cw,v1,v2,v3] 84));have k0:=blk_cells HX.out 0 _ rfl;clear hW ok
 go_enter Tryz.func117,Tryz.ntmps117
 go_wp2_with fail
 generalize w.alloc (.cells #[.slice pw t.words.length cw,v1,v2,v3] 84)=W1 at HB HX k0 ⊢;clear k0
 go_loopw [3,10] (fun s i wr=>∃ k:Nat,k≤t.words.length∧i=.int .i64 k∧s=.int .i64 (paidN (t.words.take k))∧Hid (Below w.heap.size w wr)) (fun _ i _=>t.words.length-(intOf i).toNat)
 case atStart=>exact ⟨0,Nat.zero_le _,rfl,rfl,HB⟩
 case round =>
  obtain ⟨k,hk,rfl,rfl,HBr⟩:=hrel;have hbd:=paidN_bd (t.words.take k);have htl:((t.words.take k).length:Int)≤k:=by rw [List.length_take];omega
  by_cases hlt:k<t.words.length
  ·have hlt':(k:Int)<t.words.length:=by omega
   obtain ⟨b,o,x,rfl,hb,hxx,d0,d1,d2⟩:=(HW.out.below HBr.out).at hlt;have HS:=Lib.hid (show paidN (t.words.take (k+1))=paidN (t.words.take k)+(if 3<x.syl then 2 else 1) by rw [take_snocD default hlt,← hxx,paidN_snoc]);generalize paidN (t.words.take k)=s at hbd HS ⊢;clear hxx;by_cases h3:3<x.syl
   ·have e:=HS.out;rw [if_pos h3] at e;have HE:=Lib.hid e;clear HS e;go_wp2;go_roundw
    case rel=>exact ⟨k+1,by omega,by go_num,by rw [HE.out];go_num,Lib.hid (HBr.out.trans ((below1 _ _).mono HBr.out.size))⟩
    case measure=>simp [intOf];omega
   ·have e:=HS.out;rw [if_neg h3] at e;have HE:=Lib.hid e;clear HS e;go_wp2;go_roundw
    case rel=>exact ⟨k+1,by omega,by go_num,by rw [HE.out],Lib.hid (HBr.out.trans ((below1 _ _).mono HBr.out.size))⟩
    case measure=>simp [intOf];omega
  ·obtain rfl:k=t.words.length:=by omega
   have HF:=Lib.hid (List.take_length (l:=t.words));go_wp2;go_ret;exact ⟨by rw [HF.out];rfl,HBr.out⟩
set_option maxHeartbeats 1600000 in
theorem Price_any (t:Text) (pc:Int) (hl1:t.words.length≤1000000) (hl2:t.turns.length≤1000000) (pw pt:Option Addr) (cw ct:Nat) (w:World) (hW:TxAt w t pw pt) :
  Calls Tryz.prog 64 #[.agg #[.slice pw t.words.length cw,.slice pt t.turns.length ct,.int .i64 t.breath],.int .i64 pc] w fun e w'=>e=.returned (.tuple #[.int .i64 (t.priceV pc),.int .i64 (t.priceE pc)])∧Below w.heap.size w w':=by
 by_cases he:t.err=0
 ·have ok:=err_ok he;have HS:=Lib.hid (fun W (h:Below w.heap.size w W)=>open_ok t he pw pt cw ct W (hW.below h));have HP:=Lib.hid (fun W (h:Below w.heap.size w W)=>paidWords_any t ok pw cw (.slice pt t.turns.length ct) (.int .i64 t.breath) (.func (.func 91) #[.agg #[.slice pw t.words.length cw,.slice pt t.turns.length ct,.int .i64 t.breath,.nilFunc]] #[]) W (hW.words.below h));have hbd:=paidN_bd t.words;have hn12:=ok.n12;cases hb:btw pc 1 100 with
  | true =>
   have h2:t.priceE pc=0:=by unfold Text.priceE;rw [if_neg (by simpa using he),hb];rfl
   have h1:t.priceV pc=paidN t.words*pc:=by unfold Text.priceV;rw [if_pos h2]
   have hbt:=btw_true hb;have HBT:=Lib.hid hb;rw [h1,h2];clear hW he h1 h2 ok hb;generalize paidN t.words=s at HP hbd ⊢;have hm:IntKind.wrap .i64 (s*pc)=s*pc:=by
    have h1:0≤s*pc:=Int.mul_nonneg (by omega) (by omega);have h2:s*pc≤24*100:=Int.mul_le_mul (by omega) (by omega) (by omega) (by omega);exact IntWalk.i64_in _ (by omega)
   go_enter Tryz.func64,Tryz.ntmps64
   go_wp2_with fail
   refine (HS.out _ (below1 _ _)).mono ?_;rintro e w5 ⟨rfl,hB5⟩;have HB5:=Lib.hid (join (below1 _ _) hB5);clear hB5;go_wp2_with fail
   refine (between_any pc 1 100 _).mono ?_;rintro e w6 ⟨rfl,rfl⟩;rw [HBT.out];go_wp2_with fail
   refine (HP.out _ (join HB5.out (below1 _ _))).mono ?_;rintro e w7 ⟨rfl,hB7⟩;go_wp2;go_ret2;exact ⟨rfl,join (join HB5.out (below1 _ _)) hB7⟩
  | false =>
   have h2:t.priceE pc=3:=by unfold Text.priceE;rw [if_neg (by simpa using he),hb];rfl
   have h1:t.priceV pc=0:=by unfold Text.priceV;rw [h2];rfl
   have HBT:=Lib.hid hb;rw [h1,h2];clear hW he h1 h2 ok hb hbd
   go_enter Tryz.func64,Tryz.ntmps64
   go_wp2_with fail
   refine (HS.out _ (below1 _ _)).mono ?_;rintro e w5 ⟨rfl,hB5⟩;have HB5:=Lib.hid (join (below1 _ _) hB5);clear hB5;go_wp2_with fail
   refine (between_any pc 1 100 _).mono ?_;rintro e w6 ⟨rfl,rfl⟩;rw [HBT.out];go_wp2;go_ret2;exact ⟨rfl,join HB5.out (below1 _ _)⟩
 ·have h2:t.priceE pc=t.err:=by unfold Text.priceE;rw [if_pos he]
  have h1:t.priceV pc=0:=by unfold Text.priceV;rw [h2,if_neg he]
  rw [h1,h2];have HS:=Lib.hid (fun W (h:Below w.heap.size w W)=>open_bad t he hl1 hl2 pw pt cw ct W (hW.below h));have HE:(t.err != 0)=true:=by simpa using he
  clear hW he h1 h2;generalize t.err=er at HE HS ⊢
  go_enter Tryz.func64,Tryz.ntmps64
  go_wp2_with fail
  refine (HS.out _ (below1 _ _)).mono ?_;rintro e w5 ⟨rfl,hB5⟩;have HB5:=Lib.hid (join (below1 _ _) hB5);clear hB5;go_wp2;go_ret2;exact ⟨rfl,join HB5.out (below1 _ _)⟩
set_option maxHeartbeats 4000000 in
set_option maxRecDepth 100000 in
theorem Keeps_any (t:Text) (l:List Int) (hl1:t.words.length≤1000000) (hl2:t.turns.length≤1000000) (hll:l.length≤1000000) (pw pt pl:Option Addr) (cw ct cl:Nat) (w:World) (hW:TxAt w t pw pt) (hL:Ints w pl l) :
  Calls Tryz.prog 60 #[.agg #[.slice pw t.words.length cw,.slice pt t.turns.length ct,.int .i64 t.breath],.slice pl l.length cl] w fun e w'=>e=.returned (.tuple #[.bool (keeB t l),.int .i64 (keeN t l),.int .i64 (t.keptE l)])∧Below w.heap.size w w':=by
 have HS:=Lib.hid (fun W (h:Below w.heap.size w W)=>openKept_any t l hl1 hl2 hll pw pt pl cw ct cl W (hW.below h) (hL.below h));by_cases he:t.keptE l=0
 ·have hk:=keptE_zero he;have ok:=err_ok hk.1;have h1:keeB t l=t.keeps l:=if_pos he;have h2:keeN t l=t.wtOf l:=if_pos he;have hlen:=kept_len he;have hn12:=ok.n12;have HKS:=Lib.hid (fun W (h:Below w.heap.size w W)=>keepSense_any t ok l hll pt pl ct cl (.slice pw t.words.length cw) (.int .i64 t.breath) (.func (.func 91) #[.agg #[.slice pw t.words.length cw,.slice pt t.turns.length ct,.int .i64 t.breath,.nilFunc]] #[]) W (hW.turns.below h) (hL.below h));have HWT:=Lib.hid (fun W (h:Below w.heap.size w W)=>weight_any t ok l (by omega) hk.2.2.1 pw pl cw cl (.slice pt t.turns.length ct) (.int .i64 t.breath) (.func (.func 91) #[.agg #[.slice pw t.words.length cw,.slice pt t.turns.length ct,.int .i64 t.breath,.nilFunc]] #[]) W (hW.words.below h) (hL.below h));rw [h1,h2,he];have HE:=Lib.hid he;clear hW hL he h1 h2 ok hk;generalize t.keeps l=kb at HKS ⊢;generalize t.wtOf l=wt at HWT ⊢
  go_enter Tryz.func60,Tryz.ntmps60
  go_wp2_with fail
  refine (HS.out _ (below1 _ _)).mono ?_;rintro e w5 ⟨rfl,hB5⟩;rw [if_pos HE.out,HE.out];unfold wkOf;have HB5:=Lib.hid (join (join (below1 _ _) hB5) (below1 w5 (.cells #[.slice pw t.words.length cw,.slice pt t.turns.length ct,.int .i64 t.breath,(.func (.func 91) #[.agg #[.slice pw t.words.length cw,.slice pt t.turns.length ct,.int .i64 t.breath,.nilFunc]] #[])] 84)));have HX5:=Lib.hid (heap_last w5 (.cells #[.slice pw t.words.length cw,.slice pt t.turns.length ct,.int .i64 t.breath,(.func (.func 91) #[.agg #[.slice pw t.words.length cw,.slice pt t.turns.length ct,.int .i64 t.breath,.nilFunc]] #[])] 84));clear hB5;go_wp2_with fail
  refine Rs.region_gen 6 [[],[],[0,1],[],[],[0,1,2,3,4]] [some 18,some 19,some 20,some 21,some 22,some 23] (spKe4 pw pt pl t.words.length t.turns.length l.length cw ct cl t.breath (.func (.func 91) #[.agg #[.slice pw t.words.length cw,.slice pt t.turns.length ct,.int .i64 t.breath,.nilFunc]] #[]) kb wt) (by kernel_rfl) (by kernel_rfl) rfl (spKe4_stable _ _ _ _ _ _ _ _ _ _ _ _ _) ?_ ?_
  ·refine ⟨fun V w' hG hs=>?_,fun V w' hG hs=>?_,fun V w' hG hs=>?_,fun V w' hG hs=>?_,fun V w' hG hs=>?_,fun V w' hG hs=>?_,trivial⟩
   all_goals
    have hq:=(hG.block _ (Array.getElem?_eq_some_iff.1 HX5.out).1).trans HX5.out;have k0:=blk_cells hq 0 _ rfl;have k1:=blk_cells hq 1 _ rfl;have k2:=blk_cells hq 2 _ rfl;have k3:=blk_cells hq 3 _ rfl
   ·rw [if_pos (by rfl)];exact Rs.GrowL.value (v:=.agg #[.slice pw t.words.length cw,.slice pt t.turns.length ct,.int .i64 t.breath,(.func (.func 91) #[.agg #[.slice pw t.words.length cw,.slice pt t.turns.length ct,.int .i64 t.breath,.nilFunc]] #[])]) (w':=w') (by simp [go_sem,Rs.look,k0,k1,k2,k3]) (Rs.Gr.refl _) rfl
   ·rw [if_pos (by rfl)];exact Rs.GrowL.value (v:=.slice pl l.length cl) (w':=w') (by simp [go_sem,Rs.look]) (Rs.Gr.refl _) rfl
   ·have e0:V 0=_:=hs 0 (by simp);have e1:V 1=_:=hs 1 (by simp);rw [if_pos (by rfl)];refine Rs.GrowL.call (f:=110) (args:=#[.agg #[.slice pw t.words.length cw,.slice pt t.turns.length ct,.int .i64 t.breath,.func (.func 91) #[.agg #[.slice pw t.words.length cw,.slice pt t.turns.length ct,.int .i64 t.breath,.nilFunc]] #[]],.slice pl l.length cl]) (by simp [go_sem,Rs.look,e0,e1]) ?_;refine (HKS.out w' (below_trans2 HB5.out hG)).mono ?_;rintro e w2 ⟨rfl,hB2⟩;exact ⟨_,rfl,hB2,rfl⟩
   ·rw [if_pos (by rfl)];exact Rs.GrowL.value (v:=.agg #[.slice pw t.words.length cw,.slice pt t.turns.length ct,.int .i64 t.breath,(.func (.func 91) #[.agg #[.slice pw t.words.length cw,.slice pt t.turns.length ct,.int .i64 t.breath,.nilFunc]] #[])]) (w':=w') (by simp [go_sem,Rs.look,k0,k1,k2,k3]) (Rs.Gr.refl _) rfl
   ·rw [if_pos (by rfl)];exact Rs.GrowL.value (v:=.slice pl l.length cl) (w':=w') (by simp [go_sem,Rs.look]) (Rs.Gr.refl _) rfl
   ·have e0:V 0=_:=hs 0 (by simp);have e1:V 1=_:=hs 1 (by simp);have e2:V 2=_:=hs 2 (by simp);have e3:V 3=_:=hs 3 (by simp);have e4:V 4=_:=hs 4 (by simp);rw [if_pos (by rfl)];refine Rs.GrowL.call (f:=111) (args:=#[.agg #[.slice pw t.words.length cw,.slice pt t.turns.length ct,.int .i64 t.breath,.func (.func 91) #[.agg #[.slice pw t.words.length cw,.slice pt t.turns.length ct,.int .i64 t.breath,.nilFunc]] #[]],.slice pl l.length cl]) (by simp [go_sem,Rs.look,e3,e4]) ?_;refine (HWT.out w' (below_trans2 HB5.out hG)).mono ?_;rintro e w2 ⟨rfl,hB2⟩;exact ⟨_,rfl,hB2,rfl⟩
  ·intro V w' hG hs;have e0:V 0=_:=hs 0 (by omega);have e1:V 1=_:=hs 1 (by omega);have e2:V 2=_:=hs 2 (by omega);have e3:V 3=_:=hs 3 (by omega);have e4:V 4=_:=hs 4 (by omega);have e5:V 5=_:=hs 5 (by omega);simp only [Rs.canon,Rs.dstOf,List.range_succ,List.range_zero,List.nil_append,List.cons_append,List.foldl_cons,List.foldl_nil,List.drop_succ_cons,List.drop_zero,List.drop_nil,List.getElem?_toArray,List.getElem?_cons_succ,List.getElem?_cons_zero,Option.bind_some,Act.put,List.getD_cons_succ,List.getD_cons_zero,List.setIfInBounds_toArray,List.set_cons_succ,List.set_cons_zero];rw [e0,e1,e2,e3,e4,e5];clear e0 e1 e2 e3 e4 e5 hs;have hB:=below_trans2 HB5.out hG;clear hG;go_wp2;go_ret3;exact ⟨rfl,hB⟩
 ·have h1:keeB t l=false:=if_neg he;have h2:keeN t l=0:=if_neg he;have HE:=Lib.hid he;have hne:(t.keptE l != 0)=true:=by simpa using he
  rw [h1,h2];clear hW hL he h1 h2
  go_enter Tryz.func60,Tryz.ntmps60
  go_wp2_with fail
  refine (HS.out _ (below1 _ _)).mono ?_;rintro e w5 ⟨rfl,hB5⟩;rw [if_neg HE.out];unfold wkNo;have HB5:=Lib.hid (join (below1 _ _) hB5);clear hB5;go_wp2;go_ret3;exact ⟨rfl,join HB5.out (below1 _ _)⟩
def shoT (t:Text) (l:List Int):Text:=if t.keptE l=0∧t.keeps l=true then t.shortT l else ⟨[],[],0⟩
def shoE (t:Text) (l:List Int):Int:=if t.keptE l=0 then (if t.keeps l then 0 else 8) else t.keptE l
def TextPost (E1 E2:TypeId) (x:Text) (er:Int) (w:World) (e:Ending) (w':World):Prop:=∃ p q c d,e=.returned (.tuple #[.agg #[.slice p x.words.length c,.slice q x.turns.length d,.int .i64 x.breath],.int .i64 er])∧w'.ownsRow w.heap.size E1 3 (.slice p x.words.length c) x.words.length (wcells x.words)∧w'.ownsRow w.heap.size E2 3 (.slice q x.turns.length d) x.turns.length (tcells x.turns)∧Below w.heap.size w w'
set_option maxHeartbeats 4000000 in
set_option maxRecDepth 100000 in
theorem Shorter_any (t:Text) (l:List Int) (hl1:t.words.length≤1000000) (hl2:t.turns.length≤1000000) (hll:l.length≤1000000) (pw pt pl:Option Addr) (cw ct cl:Nat) (hcw:t.words.length≤cw∧cw≤maxLen) (w:World) (hW:TxAt w t pw pt) (hL:Ints w pl l) :
  Calls Tryz.prog 62 #[.agg #[.slice pw t.words.length cw,.slice pt t.turns.length ct,.int .i64 t.breath],.slice pl l.length cl] w (TextPost 61 63 (shoT t l) (shoE t l) w):=by
 have HS:=Lib.hid (fun W (h:Below w.heap.size w W)=>openKept_any t l hl1 hl2 hll pw pt pl cw ct cl W (hW.below h) (hL.below h));by_cases he:t.keptE l=0
 ·have hk:=keptE_zero he;have ok:=err_ok hk.1;have hlen:=kept_len he;have hn12:=ok.n12;have HKS:=Lib.hid (fun W (h:Below w.heap.size w W)=>keepSense_any t ok l hll pt pl ct cl (.slice pw t.words.length cw) (.int .i64 t.breath) (.func (.func 91) #[.agg #[.slice pw t.words.length cw,.slice pt t.turns.length ct,.int .i64 t.breath,.nilFunc]] #[]) W (hW.turns.below h) (hL.below h));have HKW:=Lib.hid (fun W (h:Below w.heap.size w W)=>keptWords_any t ok l (by omega) hk.2.2.1 hk.2.2.2 pw pl cw cl hcw (.slice pt t.turns.length ct) (.int .i64 t.breath) (.func (.func 91) #[.agg #[.slice pw t.words.length cw,.slice pt t.turns.length ct,.int .i64 t.breath,.nilFunc]] #[]) W (hW.words.below h) (hL.below h));have HKT:=Lib.hid (fun W (h:Below w.heap.size w W)=>keptTurns_any t ok l (by omega) pt pl ct cl (.slice pw t.words.length cw) (.int .i64 t.breath) (.func (.func 91) #[.agg #[.slice pw t.words.length cw,.slice pt t.turns.length ct,.int .i64 t.breath,.nilFunc]] #[]) W (hW.turns.below h) (hL.below h));have HE:=Lib.hid he;cases hks:t.keeps l with
  | false =>
   have h1:shoT t l=⟨[],[],0⟩:=by unfold shoT;rw [if_neg (by rw [hks];simp)]
   have h2:shoE t l=8:=by unfold shoE;rw [if_pos he,hks];rfl
   rw [h1,h2];have HK:=Lib.hid hks;clear hW hL he h1 h2 ok hk hks HKW HKT
   go_enter Tryz.func62,Tryz.ntmps62
   go_wp2_with fail
   refine (HS.out _ ((below1 _ _).alloc (by simp) _)).mono ?_;rintro e w5 ⟨rfl,hB5⟩;rw [if_pos HE.out,HE.out];unfold wkOf;have hz5:w.heap.size+1<w5.heap.size:=by have:=hB5.size;simp at this;omega
   have HRES:=Lib.hid (show w5.heap[w.heap.size+1]?=some (.cells #[.slice none 0 0,.slice none 0 0,.int .i64 0] 25 (0,0)) by
    rw [hB5.block _ (by simp)];have:=heap_last (w.alloc (.cells #[.slice pw t.words.length cw,.slice pt t.turns.length ct,.int .i64 t.breath] 25)) (.cells #[.slice none 0 0,.slice none 0 0,.int .i64 0] 25);rwa [World.size_alloc] at this)
   have HT5:=Lib.hid (show w5.heap[w.heap.size]?=some (.cells #[.slice pw t.words.length cw,.slice pt t.turns.length ct,.int .i64 t.breath] 25 (0,0)) by
    rw [hB5.block _ (by simp;omega),Below.heap_alloc _ _ _ (by simp)];exact heap_last _ _)
   have hbn:=below1 w5 (.cells #[.slice pw t.words.length cw,.slice pt t.turns.length ct,.int .i64 t.breath,(.func (.func 91) #[.agg #[.slice pw t.words.length cw,.slice pt t.turns.length ct,.int .i64 t.breath,.nilFunc]] #[])] 84);have HB6:=Lib.hid (join (join ((below1 _ _).alloc (by simp) _) hB5) hbn);have HX6:=Lib.hid (heap_last w5 (.cells #[.slice pw t.words.length cw,.slice pt t.turns.length ct,.int .i64 t.breath,(.func (.func 91) #[.agg #[.slice pw t.words.length cw,.slice pt t.turns.length ct,.int .i64 t.breath,.nilFunc]] #[])] 84));have HRES:=Lib.hid ((hbn.block _ hz5).trans HRES.out);have HT6:=Lib.hid ((hbn.block w.heap.size (by omega)).trans HT5.out);have HZ6:=Lib.hid (show w.heap.size+1<(w5.alloc (.cells #[.slice pw t.words.length cw,.slice pt t.turns.length ct,.int .i64 t.breath,(.func (.func 91) #[.agg #[.slice pw t.words.length cw,.slice pt t.turns.length ct,.int .i64 t.breath,.nilFunc]] #[])] 84)).heap.size by rw [World.size_alloc];omega);have k0:=blk_cells HX6.out 0 _ rfl;have k1:=blk_cells HX6.out 1 _ rfl;have k2:=blk_cells HX6.out 2 _ rfl;have k3:=blk_cells HX6.out 3 _ rfl;clear hB5 hbn HT5;go_wp2_with fail
   refine (HKS.out _ HB6.out).mono ?_;rintro e w7 ⟨rfl,hB7⟩;rw [HK.out];have HRES:=Lib.hid ((hB7.block _ (by have:=HZ6.out;omega)).trans HRES.out);have hz7:w.heap.size+1<w7.heap.size:=by have:=hB7.size;have:=HZ6.out;omega
   have HB6:=Lib.hid (HB6.out.trans (hB7.mono HB6.out.size));have z:∀ i,w7.frozen? ⟨w.heap.size+1,i,none⟩=false:=fun i=>by simp [World.frozen?,HRES.out]
   obtain ⟨r0,r1,r2⟩:=blk3 HRES.out;clear hB7;go_wp2;refine bodyPost_ret (v:=.tuple #[.agg #[.slice none 0 0,.slice none 0 0,.int .i64 0],.int .i64 8]) (by simp [results,Tryz.results62,go_sem,hz7,r0,r1,r2]) rfl ⟨none,none,0,0,rfl,own_none _ _ _ _,own_none _ _ _ _,?_⟩;have hz9:=HB6.out.size
   repeat' (first | exact HB6.out | apply belS | apply belA | apply belD)
   all_goals first | omega | (simp;done) | (simp;omega)
  | true =>
   have h1:shoT t l=t.shortT l:=by unfold shoT;rw [if_pos ⟨he,hks⟩]
   have h2:shoE t l=0:=by unfold shoE;rw [if_pos he,hks];rfl
   rw [h1,h2];have HK:=Lib.hid hks;have HWL:=Lib.hid (shortW_len t.words l t.words.length);clear hW hL he h1 h2 ok hk hks
   go_enter Tryz.func62,Tryz.ntmps62
   go_wp2_with fail
   refine (HS.out _ ((below1 _ _).alloc (by simp) _)).mono ?_;rintro e w5 ⟨rfl,hB5⟩;rw [if_pos HE.out,HE.out];unfold wkOf;have hz5:w.heap.size+1<w5.heap.size:=by have:=hB5.size;simp at this;omega
   have HRES:=Lib.hid (show w5.heap[w.heap.size+1]?=some (.cells #[.slice none 0 0,.slice none 0 0,.int .i64 0] 25 (0,0)) by
    rw [hB5.block _ (by simp)];have:=heap_last (w.alloc (.cells #[.slice pw t.words.length cw,.slice pt t.turns.length ct,.int .i64 t.breath] 25)) (.cells #[.slice none 0 0,.slice none 0 0,.int .i64 0] 25);rwa [World.size_alloc] at this)
   have HT5:=Lib.hid (show w5.heap[w.heap.size]?=some (.cells #[.slice pw t.words.length cw,.slice pt t.turns.length ct,.int .i64 t.breath] 25 (0,0)) by
    rw [hB5.block _ (by simp;omega),Below.heap_alloc _ _ _ (by simp)];exact heap_last _ _)
   have hbn:=below1 w5 (.cells #[.slice pw t.words.length cw,.slice pt t.turns.length ct,.int .i64 t.breath,(.func (.func 91) #[.agg #[.slice pw t.words.length cw,.slice pt t.turns.length ct,.int .i64 t.breath,.nilFunc]] #[])] 84);have HB6:=Lib.hid (join (join ((below1 _ _).alloc (by simp) _) hB5) hbn);have HX6:=Lib.hid (heap_last w5 (.cells #[.slice pw t.words.length cw,.slice pt t.turns.length ct,.int .i64 t.breath,(.func (.func 91) #[.agg #[.slice pw t.words.length cw,.slice pt t.turns.length ct,.int .i64 t.breath,.nilFunc]] #[])] 84));have HRES:=Lib.hid ((hbn.block _ hz5).trans HRES.out);have HT6:=Lib.hid ((hbn.block w.heap.size (by omega)).trans HT5.out);have HZ6:=Lib.hid (show w.heap.size+1<(w5.alloc (.cells #[.slice pw t.words.length cw,.slice pt t.turns.length ct,.int .i64 t.breath,(.func (.func 91) #[.agg #[.slice pw t.words.length cw,.slice pt t.turns.length ct,.int .i64 t.breath,.nilFunc]] #[])] 84)).heap.size by rw [World.size_alloc];omega);have k0:=blk_cells HX6.out 0 _ rfl;have k1:=blk_cells HX6.out 1 _ rfl;have k2:=blk_cells HX6.out 2 _ rfl;have k3:=blk_cells HX6.out 3 _ rfl;clear hB5 hbn HT5;go_wp2_with fail
   refine (HKS.out _ HB6.out).mono ?_;rintro e w7 ⟨rfl,hB7⟩;rw [HK.out];have HRES:=Lib.hid ((hB7.block _ (by have:=HZ6.out;omega)).trans HRES.out);have HT6:=Lib.hid ((hB7.block _ (by have:=HZ6.out;omega)).trans HT6.out);have HX6:=Lib.hid ((hB7.block _ (Array.getElem?_eq_some_iff.1 HX6.out).1).trans HX6.out);have HZ6:=Lib.hid (Nat.lt_of_lt_of_le HZ6.out hB7.size);have HB6:=Lib.hid (HB6.out.trans (hB7.mono HB6.out.size));clear hB7 k0 k1 k2 k3;go_wp2_with fail
   refine Rs.region_gen 9 [[],[],[0,1],[],[],[0,1,2,3,4],[],[6],[0,1,2,3,4,5,6,7]] [some 23,some 24,some 25,some 26,some 27,some 28,some 29,some 30,some 31] (spSr6 pw pt pl t.words.length t.turns.length l.length cw ct cl w.heap.size w.heap.size t.breath (.func (.func 91) #[.agg #[.slice pw t.words.length cw,.slice pt t.turns.length ct,.int .i64 t.breath,.nilFunc]] #[]) (shortW t.words l t.words.length) (shortTs t.turns l)) (by kernel_rfl) (by kernel_rfl) rfl (spSr6_stable _ _ _ _ _ _ _ _ _ _ _ _ _ _ _) ?_ ?_
   ·refine ⟨fun V w' hG hs=>?_,fun V w' hG hs=>?_,fun V w' hG hs=>?_,fun V w' hG hs=>?_,fun V w' hG hs=>?_,fun V w' hG hs=>?_,fun V w' hG hs=>?_,fun V w' hG hs=>?_,fun V w' hG hs=>?_,trivial⟩
    all_goals
     have hq:=(hG.block _ (Array.getElem?_eq_some_iff.1 HX6.out).1).trans HX6.out;have k0:=blk_cells hq 0 _ rfl;have k1:=blk_cells hq 1 _ rfl;have k2:=blk_cells hq 2 _ rfl;have k3:=blk_cells hq 3 _ rfl;have hqt:=(hG.block _ (Array.getElem?_eq_some_iff.1 HT6.out).1).trans HT6.out;obtain ⟨j0,j1,j2⟩:=blk3 hqt
    ·rw [if_pos (by rfl)];exact Rs.GrowL.value (v:=.agg #[.slice pw t.words.length cw,.slice pt t.turns.length ct,.int .i64 t.breath,(.func (.func 91) #[.agg #[.slice pw t.words.length cw,.slice pt t.turns.length ct,.int .i64 t.breath,.nilFunc]] #[])]) (w':=w') (by simp [go_sem,Rs.look,k0,k1,k2,k3]) (Rs.Gr.refl _) rfl
    ·rw [if_pos (by rfl)];exact Rs.GrowL.value (v:=.slice pl l.length cl) (w':=w') (by simp [go_sem,Rs.look]) (Rs.Gr.refl _) rfl
    ·have e0:V 0=_:=hs 0 (by simp);have e1:V 1=_:=hs 1 (by simp);rw [if_pos (by rfl)];refine Rs.GrowL.call (f:=114) (args:=#[.agg #[.slice pw t.words.length cw,.slice pt t.turns.length ct,.int .i64 t.breath,.func (.func 91) #[.agg #[.slice pw t.words.length cw,.slice pt t.turns.length ct,.int .i64 t.breath,.nilFunc]] #[]],.slice pl l.length cl]) (by simp [go_sem,Rs.look,e0,e1]) ?_;refine (HKW.out w' (below_trans2 HB6.out hG)).mono ?_;rintro e w2 ⟨g,rfl,ho,hB2⟩;exact ⟨_,rfl,hB2,g,rfl,own_base ho (by have:=hG.size;have:=HZ6.out;omega)⟩
    ·rw [if_pos (by rfl)];exact Rs.GrowL.value (v:=.agg #[.slice pw t.words.length cw,.slice pt t.turns.length ct,.int .i64 t.breath,(.func (.func 91) #[.agg #[.slice pw t.words.length cw,.slice pt t.turns.length ct,.int .i64 t.breath,.nilFunc]] #[])]) (w':=w') (by simp [go_sem,Rs.look,k0,k1,k2,k3]) (Rs.Gr.refl _) rfl
    ·rw [if_pos (by rfl)];exact Rs.GrowL.value (v:=.slice pl l.length cl) (w':=w') (by simp [go_sem,Rs.look]) (Rs.Gr.refl _) rfl
    ·have e0:V 0=_:=hs 0 (by simp);have e1:V 1=_:=hs 1 (by simp);have r2:=hs 2 (by simp);have e3:V 3=_:=hs 3 (by simp);have e4:V 4=_:=hs 4 (by simp);rw [if_pos (by rfl)];refine Rs.GrowL.call (f:=115) (args:=#[.agg #[.slice pw t.words.length cw,.slice pt t.turns.length ct,.int .i64 t.breath,.func (.func 91) #[.agg #[.slice pw t.words.length cw,.slice pt t.turns.length ct,.int .i64 t.breath,.nilFunc]] #[]],.slice pl l.length cl]) (by simp [go_sem,Rs.look,e3,e4]) ?_;refine (HKT.out w' (below_trans2 HB6.out hG)).mono ?_;rintro e w2 ⟨v,rfl,ho,hB2⟩;obtain ⟨p,c,rfl⟩:=own_val ho;exact ⟨_,rfl,hB2,p,c,rfl,own_base ho (by have:=hG.size;have:=HZ6.out;omega)⟩
    ·rw [if_pos (by rfl)];exact Rs.GrowL.value (v:=.pointer (some ⟨w.heap.size,2,none⟩)) (w':=w') (by simp [go_sem,Rs.look]) (Rs.Gr.refl _) rfl
    ·have e6:V 6=_:=hs 6 (by simp);rw [if_pos (by rfl)];exact Rs.GrowL.value (v:=.int .i64 t.breath) (w':=w') (by simp [go_sem,Rs.look,e6,j2]) (Rs.Gr.refl _) rfl
    ·have e0:V 0=_:=hs 0 (by simp);have e1:V 1=_:=hs 1 (by simp);have r2:=hs 2 (by simp);have e3:V 3=_:=hs 3 (by simp);have e4:V 4=_:=hs 4 (by simp);have r5:=hs 5 (by simp);have e6:V 6=_:=hs 6 (by simp);have e7:V 7=_:=hs 7 (by simp);rw [if_pos (by rfl)];obtain ⟨g,e2,o2⟩:=r2;obtain ⟨p,c,e5,o5⟩:=r5;exact Rs.GrowL.value (v:=.agg #[.slice (some ⟨g,0,none⟩) l.length l.length,.slice p (shortTs t.turns l).length c,.int .i64 t.breath]) (w':=w') (by simp [go_sem,Rs.look,e2,e5,e7]) (Rs.Gr.refl _) ⟨g,p,c,rfl,o2,o5⟩
   ·intro V w' hG hs;have e0:V 0=_:=hs 0 (by omega);have e1:V 1=_:=hs 1 (by omega);have r2:=hs 2 (by omega);have e3:V 3=_:=hs 3 (by omega);have e4:V 4=_:=hs 4 (by omega);have r5:=hs 5 (by omega);have e6:V 6=_:=hs 6 (by omega);have e7:V 7=_:=hs 7 (by omega);have r8:=hs 8 (by omega);obtain ⟨g2,e2,-⟩:=r2;obtain ⟨p5,c5,e5,-⟩:=r5;obtain ⟨g8,p8,c8,e8,o8,q8⟩:=r8;simp only [Rs.canon,Rs.dstOf,List.range_succ,List.range_zero,List.nil_append,List.cons_append,List.foldl_cons,List.foldl_nil,List.drop_succ_cons,List.drop_zero,List.drop_nil,List.getElem?_toArray,List.getElem?_cons_succ,List.getElem?_cons_zero,Option.bind_some,Act.put,List.getD_cons_succ,List.getD_cons_zero,List.setIfInBounds_toArray,List.set_cons_succ,List.set_cons_zero];rw [e0,e1,e3,e4,e6,e7,e2,e5,e8];clear e0 e1 e3 e4 e6 e7 e2 e5 e8 hs;have HRES:=Lib.hid ((hG.block _ HZ6.out).trans HRES.out);have hz8:w.heap.size+1<w'.heap.size:=by have:=hG.size;have:=HZ6.out;omega
    have HB6:=Lib.hid (below_trans2 HB6.out hG);have z:∀ i,w'.frozen? ⟨w.heap.size+1,i,none⟩=false:=fun i=>by simp [World.frozen?,HRES.out]
    obtain ⟨r0,r1,r2⟩:=blk3 HRES.out;have O8:=Lib.hid o8;have Q8:=Lib.hid q8;clear hG o8 q8;go_wp2;obtain ⟨W3,hW3⟩:∃ W3,W3=((w'.setCell ⟨w.heap.size+1,0,none⟩ (.slice (some ⟨g8,0,none⟩) l.length l.length)).setCell ⟨w.heap.size+1,1,none⟩ (.slice p8 (shortTs t.turns l).length c8)).setCell ⟨w.heap.size+1,2,none⟩ (.int .i64 t.breath):=⟨_,rfl⟩;rw [← hW3];have hx1:W3.heap[w.heap.size+1]?=some (.cells #[.slice (some ⟨g8,0,none⟩) l.length l.length,.slice p8 (shortTs t.turns l).length c8,.int .i64 t.breath] 25 (0,0)):=by
     rw [hW3];exact heap_set_same _ (heap_set_same _ (heap_set_same _ HRES.out))
    have hhh:=HRES.out;have e0:=heap_set_same (o:=0) (.slice (some ⟨g8,0,none⟩) l.length l.length) hhh;have e1:=heap_set_same (o:=1) (.slice p8 (shortTs t.turns l).length c8) e0;have hO:W3.ownsRow w.heap.size 61 3 (.slice (some ⟨g8,0,none⟩) l.length l.length) l.length (wcells (shortW t.words l t.words.length)):=by
     rw [hW3];exact own_setT (own_setT (own_setT (own_base O8.out (by have:=HB6.out.size;omega)) hhh (by decide)) e0 (by decide)) e1 (by decide)
    have hQ:W3.ownsRow w.heap.size 63 3 (.slice p8 (shortTs t.turns l).length c8) (shortTs t.turns l).length (tcells (shortTs t.turns l)):=by
     rw [hW3];exact own_setT (own_setT (own_setT (own_base Q8.out (by have:=HB6.out.size;omega)) hhh (by decide)) e0 (by decide)) e1 (by decide)
    have hBW:Below w.heap.size w W3:=by
     rw [hW3];exact ((HB6.out.setCell (p:=⟨w.heap.size+1,0,none⟩) (by show w.heap.size≤w.heap.size+1;omega) _).setCell (p:=⟨w.heap.size+1,1,none⟩) (by show w.heap.size≤w.heap.size+1;omega) _).setCell (p:=⟨w.heap.size+1,2,none⟩) (by show w.heap.size≤w.heap.size+1;omega) _
    have c0:=blk_cells hx1 0 _ rfl;have c1:=blk_cells hx1 1 _ rfl;have c2:=blk_cells hx1 2 _ rfl;refine bodyPost_ret (v:=.tuple #[.agg #[.slice (some ⟨g8,0,none⟩) l.length l.length,.slice p8 (shortTs t.turns l).length c8,.int .i64 t.breath],.int .i64 0]) (by simp [results,Tryz.results62,go_sem,c0,c1,c2]) rfl ⟨some ⟨g8,0,none⟩,p8,l.length,c8,?_,?_,hQ,hBW⟩
    ·rw [show (t.shortT l).words.length=l.length from HWL.out];rfl
    ·have e:(t.shortT l).words.length=l.length:=HWL.out;rw [e];exact hO
 ·have h1:shoT t l=⟨[],[],0⟩:=by unfold shoT;rw [if_neg (fun h=>he h.1)]
  have h2:shoE t l=t.keptE l:=if_neg he;have HE:=Lib.hid he;have hne:(t.keptE l != 0)=true:=by simpa using he
  rw [h1,h2];clear hW hL he h1 h2
  go_enter Tryz.func62,Tryz.ntmps62
  go_wp2_with fail
  refine (HS.out _ ((below1 _ _).alloc (by simp) _)).mono ?_;rintro e w5 ⟨rfl,hB5⟩;rw [if_neg HE.out];unfold wkNo;have hz7:w.heap.size+1<w5.heap.size:=by have:=hB5.size;simp at this;omega
  have HRES:=Lib.hid (show w5.heap[w.heap.size+1]?=some (.cells #[.slice none 0 0,.slice none 0 0,.int .i64 0] 25 (0,0)) by
   rw [hB5.block _ (by simp)];have:=heap_last (w.alloc (.cells #[.slice pw t.words.length cw,.slice pt t.turns.length ct,.int .i64 t.breath] 25)) (.cells #[.slice none 0 0,.slice none 0 0,.int .i64 0] 25);rwa [World.size_alloc] at this)
  have HB6:=Lib.hid (join ((below1 _ _).alloc (by simp) _) hB5);have z:∀ i,w5.frozen? ⟨w.heap.size+1,i,none⟩=false:=fun i=>by simp [World.frozen?,HRES.out]
  obtain ⟨r0,r1,r2⟩:=blk3 HRES.out;clear hB5;go_wp2;refine bodyPost_ret (v:=.tuple #[.agg #[.slice none 0 0,.slice none 0 0,.int .i64 0],.int .i64 (t.keptE l)]) (by simp [results,Tryz.results62,go_sem,hz7,r0,r1,r2]) rfl ⟨none,none,0,0,rfl,own_none _ _ _ _,own_none _ _ _ _,?_⟩;have hz9:=HB6.out.size
  repeat' (first | exact HB6.out | apply belS | apply belA | apply belD)
  all_goals first | omega | (simp;done) | (simp;omega)
end Go.Proofs.YtadnggecnjdhiaaGreat
namespace Go.Proofs.YtadnggecnjdhiaaGreat
open Go.RowKit Tx
attribute [local go_sem] Oper.semAt_some
def adjB (l:List Int) (k:Nat):Bool:=(List.range k).any fun i=>decide (l.getD (i+1) 0≤l.getD i 0)
theorem adj_succ (l:List Int) (k:Nat):adjB l (k+1)=(adjB l k||decide (l.getD (k+1) 0≤l.getD k 0)):=by
 unfold adjB;rw [List.range_succ,List.any_append];simp
theorem adj_more (l:List Int) (k:Nat) (h:adjB l k=true):∀ n,k≤n→adjB l n=true:=by
 intro n
 induction n with
 | zero =>
  intro hk;obtain rfl:k=0:=by omega
  exact h
 | succ n ih =>
  intro hk;rcases Nat.lt_or_ge n k with g | g
  ·obtain rfl:k=n+1:=by omega
   exact h
  ·rw [adj_succ,ih g];rfl
theorem keptE_1 {t:Text} {l:List Int} (h:t.err=0) (h0:l.length≠0) (ha:l.any (absent t.words.length)=true):t.keptE l=1:=by
 unfold Text.keptE Text.len;rw [if_neg (by simpa using h),if_neg h0,if_pos ha]
theorem not_abs {n:Nat} {l:List Int} (ha:l.any (absent n)=false):∀ x∈l,0≤x∧x<(n:Int):=fun x hx=>by
 have h5:absent n x=false:=by
  cases h6:absent n x
  ·rfl
  ·rw [List.any_eq_true.2 ⟨x,hx,h6⟩] at ha;cases ha
 simp [absent,btw] at h5;omega
theorem keptE_4 {t:Text} {l:List Int} (h:t.err=0) (h0:l.length≠0) (ha:l.any (absent t.words.length)=false) {k:Nat} (hk:k≤l.length-1) (hu:adjB l k=true):t.keptE l=4:=by
 unfold Text.keptE Text.len;rw [if_neg (by simpa using h),if_neg h0,if_neg (by rw [ha];simp),if_pos];rw [notUp_adj l (-1) (fun x hx=>by have:=not_abs ha x hx;omega)];exact adj_more l k hu _ hk
theorem keptE_0 {t:Text} {l:List Int} (h:t.err=0) (h0:l.length≠0) (ha:l.any (absent t.words.length)=false) (hu:adjB l (l.length-1)=false):t.keptE l=0:=by
 unfold Text.keptE Text.len;rw [if_neg (by simpa using h),if_neg h0,if_neg (by rw [ha];simp),if_neg];rw [notUp_adj l (-1) (fun x hx=>by have:=not_abs ha x hx;omega)];intro hh;have:adjB l (l.length-1)=true:=hh;rw [hu] at this;cases this
theorem rsaid_keeps (t:Text) (l:List Int):decide ((rsaid t l).length=0)=t.keeps l:=by
 unfold rsaid Text.keeps;rw [← idx_any (fun u=>coreIn u l&&!l.contains u.word) t.turns 0];cases h:(idx (fun u=>coreIn u l&&!l.contains u.word) 0 t.turns).length <;> simp
def spRke4 (pw pt pl:Option Addr) (n m ln cw ct cl B:Nat) (br:Int) (sl:List Int) (wt:Int):Nat→List Value→Value→World→Prop
 | 0,_,v,_=>v=.agg #[.slice pw n cw,.slice pt m ct,.int .i64 br]
 | 1,_,v,_=>v=.slice pl ln cl
 | 2,L,v,w=>∃ p c,v=.slice p sl.length c
 | 3,_,v,_=>v=.int .i64 (sl.length:Int)
 | 4,_,v,_=>v=.bool (decide (sl.length=0))
 | 5,_,v,_=>v=.agg #[.slice pw n cw,.slice pt m ct,.int .i64 br]
 | 6,_,v,_=>v=.slice pl ln cl
 | 7,_,v,_=>v=.int .i64 wt
 | _,_,_,_=>False
theorem spRke4_stable (pw pt pl:Option Addr) (n m ln cw ct cl B:Nat) (br:Int) (sl:List Int) (wt:Int):∀ i L v w w',spRke4 pw pt pl n m ln cw ct cl B br sl wt i L v w→Rs.Gr w w'→spRke4 pw pt pl n m ln cw ct cl B br sl wt i L v w':=by
 intro i L v w w' h hg
 match i with
 | 0=>exact h
 | 1=>exact h
 | 2=>exact h
 | 3=>exact h
 | 4=>exact h
 | 5=>exact h
 | 6=>exact h
 | 7=>exact h
set_option maxHeartbeats 4000000 in
set_option maxRecDepth 100000 in
theorem rKept_any (t:Text) (l:List Int) (hl1:t.words.length≤1000000) (hl2:t.turns.length≤1000000) (hll:l.length≤1000000) (pw pt pl:Option Addr) (cw ct cl:Nat) (w:World) (hW:TxAt w t pw pt) (hL:Ints w pl l) :
  Calls Tryz.prog 112 #[.agg #[.slice pw t.words.length cw,.slice pt t.turns.length ct,.int .i64 t.breath],.slice pl l.length cl] w fun e w'=>e=.returned (.int .i64 (t.keptE l))∧Below w.heap.size w w':=by
 have HX:=Lib.hid (heap_last w (.cells #[.slice pw t.words.length cw,.slice pt t.turns.length ct,.int .i64 t.breath] 32));have HL:=Lib.hid hL;have HC:=Lib.hid (fun W (h:Below w.heap.size w W)=>rCheck_any t hl1 hl2 pw pt cw ct W (hW.below h));obtain ⟨k0,k1,k2⟩:=blk3 HX.out;by_cases he:t.err=0
 ·by_cases h0:l.length=0
  ·have hk:t.keptE l=2:=by rw [keptE_eq,if_neg (by simpa using he),if_pos h0]
   rw [hk,h0];have HE:=Lib.hid he;clear hW hL he hk
   go_enter Tryz.func112,Tryz.ntmps112
   go_wp2_with fail
   refine (HC.out _ (below1 _ _)).mono ?_;rintro e w5 ⟨rfl,hB5⟩;rw [HE.out];go_wp2;go_ret;exact ⟨rfl,join (below1 _ _) hB5⟩
  ·have HK1:=Lib.hid (fun h=>keptE_1 he h0 h);have HK4:=Lib.hid (fun h k hk hu=>keptE_4 (k:=k) he h0 h hk hu);have HK0:=Lib.hid (fun h hu=>keptE_0 he h0 h hu);have HE:=Lib.hid he;have h0':((l.length:Int) == 0)=false:=by rw [beq_eq_false_iff_ne];omega
   have hnn:((t.words.length:Int)-1)=((t.words.length:Int)-1):=rfl;have hsub:IntKind.wrap .i64 ((t.words.length:Int)-1)=(t.words.length:Int)-1:=IntWalk.i64_in _ (by omega);generalize t.keptE l=ke at HK1 HK4 HK0 ⊢;clear hW hL he hnn
   go_enter Tryz.func112,Tryz.ntmps112
   go_wp2_with fail
   refine (HC.out _ (below1 _ _)).mono ?_;rintro e w5 ⟨rfl,hB5⟩;rw [HE.out];have HX:=Lib.hid ((hB5.block _ (Array.getElem?_eq_some_iff.1 HX.out).1).trans HX.out);have HB:=Lib.hid (join (below1 _ _) hB5);clear hB5 k0 k1 k2;go_wp2_with fail
   go_loopw [6] (fun i wr=>∃ k:Nat,k≤l.length∧i=.int .i64 k∧Hid ((l.take k).any (absent t.words.length)=false)∧Hid (Below w5.heap.size w5 wr)) (fun i _=>l.length-(intOf i).toNat)
   case atStart=>exact ⟨0,Nat.zero_le _,rfl,Lib.hid rfl,Lib.hid (Below.refl _ _)⟩
   case round =>
    obtain ⟨k,hk,rfl,HA,HBr⟩:=hrel;have HBr1:=Lib.hid (HB.out.trans (HBr.out.mono HB.out.size));by_cases hlt:k<l.length
    ·have hlt':(k:Int)<l.length:=by omega
     obtain ⟨lb,lo,x,rfl,hlb,hxx,c1⟩:=(HL.out.below HBr1.out).at hlt;have HXX:=Lib.hid hxx;obtain ⟨k0,k1,k2⟩:=blk3 ((HBr.out.block _ (Array.getElem?_eq_some_iff.1 HX.out).1).trans HX.out);have hAB:∀ (W:World),Calls Tryz.prog 45 #[.int .i64 x,.int .i64 0,.int .i64 ((t.words.length:Int)-1)] W fun e w'=>e=.returned (.bool (absent t.words.length x))∧w'=W:=fun W=>off_q x 0 _ _ rfl W;have HAB:=Lib.hid hAB;clear hxx hAB;go_wp2_with fail
     go_quiet ((go_at_call 45;exact Calls.quiet_of_same (HAB.out _)))
     have HG:=Lib.hid (show Below w5.heap.size w5 (wr.drewN nq) from below_drewN' HBr.out nq);have HG1:=Lib.hid (show Below w.heap.size w (wr.drewN nq) from below_drewN' HBr1.out nq);clear c1 k0 k1 k2 HAB;cases hbad:absent t.words.length x with
     | true =>
      have HBAD:=Lib.hid hbad;clear hbad;go_wp2;go_ret;exact ⟨by rw [HK1.out (any_hit 0 hlt _ (by rw [← HXX.out];exact HBAD.out))];rfl,HG1.out⟩
     | false =>
      have HBAD:=Lib.hid hbad;clear hbad;go_wp2;go_roundw
      case rel=>exact ⟨k+1,by omega,by go_num,Lib.hid (any_snoc 0 hlt _ HA.out (by rw [← HXX.out];exact HBAD.out)),HG⟩
      case measure=>simp [intOf];omega
    ·obtain rfl:k=l.length:=by omega
     have HAA:=Lib.hid (show l.any (absent t.words.length)=false by have:=HA.out;rwa [List.take_length] at this);have HB1:=Lib.hid (HB.out.trans (HBr.out.mono HB.out.size));clear HA HBr HBr1 hk hlt;go_wp2_with fail
     go_loopw [7] (fun i wq=>∃ k:Nat,k≤l.length-1∧i=.int .i64 ((k+1:Nat):Int)∧Hid (adjB l k=false)∧Hid (Below w.heap.size w wq)) (fun i _=>l.length-(intOf i).toNat)
     case atStart=>exact ⟨0,Nat.zero_le _,rfl,Lib.hid rfl,HB1⟩
     case round =>
      obtain ⟨k,hk,rfl,HA,HBr⟩:=hrel;by_cases hlt:k+1<l.length
      ·have hlt':((k+1:Nat):Int)<l.length:=by omega
       obtain ⟨lb,lo,x,rfl,hlb,hxx,c1⟩:=(HL.out.below HBr.out).at (i:=k) (by omega);obtain ⟨lb',lo',y,hp,_,hyy,c2⟩:=(HL.out.below HBr.out).at hlt;injection hp with hp;injection hp with hp1 hp2 _;subst hp1;subst hp2;have HS:=Lib.hid (adj_succ l k);rw [← hxx,← hyy,HA.out,Bool.false_or] at HS;have hs1:IntKind.wrap .i64 (((k+1:Nat):Int)-1)=(k:Int):=by rw [show ((k+1:Nat):Int)-1=(k:Int) by omega];exact IntWalk.i64_in _ (by omega)
       have hk0:(0:Int)≤(k:Int):=by omega
       have hk1:(k:Int)<(l.length:Int):=by omega
       have hk2:k<l.length:=by omega
       clear hxx hyy;by_cases hyx:y≤x
       ·have HT:=Lib.hid (show adjB l (k+1)=true by rw [HS.out];simpa using hyx);clear HS;go_wp2_with fail
        go_quiet (fail)
        have HG1:=Lib.hid (show Below w.heap.size w (wr.drewN nq) from below_drewN' HBr.out nq);clear c1 c2;go_wp2;go_ret;exact ⟨by rw [HK4.out HAA.out (k+1) (by omega) HT.out];rfl,HG1.out⟩
       ·have HT:=Lib.hid (show adjB l (k+1)=false by rw [HS.out];simpa using hyx);clear HS;go_wp2_with fail
        go_quiet (fail)
        have HG1:=Lib.hid (show Below w.heap.size w (wr.drewN nq) from below_drewN' HBr.out nq);clear c1 c2;go_wp2;go_roundw
        case rel=>exact ⟨k+1,by omega,by go_num,HT,HG1⟩
        case measure=>simp [intOf];omega
      ·have hk3:k=l.length-1:=by omega
       have hlt':¬ ((k+1:Nat):Int)<l.length:=by omega
       have HA0:=HA.out;rw [hk3] at HA0;have HZ:=Lib.hid (HK0.out HAA.out HA0);clear HA0;go_wp2;go_ret;exact ⟨by rw [HZ.out];rfl,HBr.out⟩
 ·have hk:t.keptE l=t.err:=by rw [keptE_eq,if_pos he]
  have hne:(t.err != 0)=true:=by simpa using he
  rw [hk];clear hW hL he hk;generalize t.err=er at HC hne ⊢
  go_enter Tryz.func112,Tryz.ntmps112
  go_wp2_with fail
  refine (HC.out _ (below1 _ _)).mono ?_;rintro e w5 ⟨rfl,hB5⟩;go_wp2;go_ret;exact ⟨rfl,join (below1 _ _) hB5⟩
set_option maxHeartbeats 4000000 in
set_option maxRecDepth 100000 in
theorem rKeeps_any (t:Text) (l:List Int) (hl1:t.words.length≤1000000) (hl2:t.turns.length≤1000000) (hll:l.length≤1000000) (pw pt pl:Option Addr) (cw ct cl:Nat) (w:World) (hW:TxAt w t pw pt) (hL:Ints w pl l) :
  Calls Tryz.prog 61 #[.agg #[.slice pw t.words.length cw,.slice pt t.turns.length ct,.int .i64 t.breath],.slice pl l.length cl] w fun e w'=>e=.returned (.tuple #[.bool (keeB t l),.int .i64 (keeN t l),.int .i64 (t.keptE l)])∧Below w.heap.size w w':=by
 have HS:=Lib.hid (fun W (h:Below w.heap.size w W)=>rKept_any t l hl1 hl2 hll pw pt pl cw ct cl W (hW.below h) (hL.below h));have HX:=Lib.hid (heap_last w (.cells #[.slice pw t.words.length cw,.slice pt t.turns.length ct,.int .i64 t.breath] 32));obtain ⟨k0,k1,k2⟩:=blk3 HX.out;by_cases he:t.keptE l=0
 ·have hk:=keptE_zero he;have ok:=err_ok hk.1;have h1:keeB t l=decide ((rsaid t l).length=0):=by rw [rsaid_keeps];exact if_pos he
  have h2:keeN t l=t.wtOf l:=if_pos he;have hlen:=kept_len he;have hn12:=ok.n12;have HSD:=Lib.hid (fun W (h:Below w.heap.size w W)=>Said_any t hl2 (fun u hu=>⟨by have:=ok.turn u hu;omega,by have:=ok.turn u hu;omega,by have:=ok.turn u hu;omega⟩) l hll pt pl ct cl (.slice pw t.words.length cw) (.int .i64 t.breath) W (hW.turns.below h) (hL.below h));have HWT:=Lib.hid (fun W (h:Below w.heap.size w W)=>rWeight_any t ok l (by omega) hk.2.2.1 pw pl cw cl (.slice pt t.turns.length ct) (.int .i64 t.breath) W (hW.words.below h) (hL.below h));have hsl0:(((rsaid t l).length:Int) == 0)=decide ((rsaid t l).length=0):=by
   cases h:decide ((rsaid t l).length=0)
   ·rw [beq_eq_false_iff_ne];simp at h;simpa using h
   ·rw [beq_iff_eq];simp at h;simp [h]
  rw [h1,h2,he];have HE:=Lib.hid he;clear hW hL he h1 h2 ok hk;generalize t.wtOf l=wt at HWT ⊢
  go_enter Tryz.func61,Tryz.ntmps61
  go_wp2_with fail
  refine (HS.out _ (below1 _ _)).mono ?_;rintro e w5 ⟨rfl,hB5⟩;rw [HE.out];have HX5:=Lib.hid ((hB5.block _ (Array.getElem?_eq_some_iff.1 HX.out).1).trans HX.out);have HB5:=Lib.hid (join (below1 _ _) hB5);clear hB5 k0 k1 k2 HX;go_wp2_with fail
  refine Rs.region_gen 8 [[],[],[0,1],[0,1,2],[0,1,2,3],[],[],[0,1,2,5,6]] [some 14,some 15,some 16,some 17,some 18,some 19,some 20,some 21] (spRke4 pw pt pl t.words.length t.turns.length l.length cw ct cl w.heap.size t.breath (rsaid t l) wt) (by kernel_rfl) (by kernel_rfl) rfl (spRke4_stable _ _ _ _ _ _ _ _ _ _ _ _ _) ?_ ?_
  ·refine ⟨fun V w' hG hs=>?_,fun V w' hG hs=>?_,fun V w' hG hs=>?_,fun V w' hG hs=>?_,fun V w' hG hs=>?_,fun V w' hG hs=>?_,fun V w' hG hs=>?_,fun V w' hG hs=>?_,trivial⟩
   all_goals
    have hq:=(hG.block _ (Array.getElem?_eq_some_iff.1 HX5.out).1).trans HX5.out;obtain ⟨k0,k1,k2⟩:=blk3 hq
   ·rw [if_pos (by rfl)];exact Rs.GrowL.value (v:=.agg #[.slice pw t.words.length cw,.slice pt t.turns.length ct,.int .i64 t.breath]) (w':=w') (by simp [go_sem,Rs.look,k0,k1,k2]) (Rs.Gr.refl _) rfl
   ·rw [if_pos (by rfl)];exact Rs.GrowL.value (v:=.slice pl l.length cl) (w':=w') (by simp [go_sem,Rs.look]) (Rs.Gr.refl _) rfl
   ·have e0:V 0=_:=hs 0 (by simp);have e1:V 1=_:=hs 1 (by simp);rw [if_pos (by rfl)];refine Rs.GrowL.call (f:=100) (args:=#[.agg #[.slice pw t.words.length cw,.slice pt t.turns.length ct,.int .i64 t.breath],.slice pl l.length cl]) (by simp [go_sem,Rs.look,e0,e1]) ?_;refine (HSD.out w' (below_trans2 HB5.out hG)).mono ?_;rintro e w2 ⟨v,rfl,ho,hB2⟩;obtain ⟨p,c,rfl,-⟩:=own_rd ho rfl;exact ⟨_,rfl,hB2,p,c,rfl⟩
   ·have e0:V 0=_:=hs 0 (by simp);have e1:V 1=_:=hs 1 (by simp);have r2:=hs 2 (by simp);rw [if_pos (by rfl)];obtain ⟨p,c,e2⟩:=r2;exact Rs.GrowL.value (v:=.int .i64 ((rsaid t l).length:Int)) (w':=w') (by simp [go_sem,Rs.look,e2]) (Rs.Gr.refl _) rfl
   ·have e0:V 0=_:=hs 0 (by simp);have e1:V 1=_:=hs 1 (by simp);have r2:=hs 2 (by simp);have e3:V 3=_:=hs 3 (by simp);rw [if_pos (by rfl)];exact Rs.GrowL.value (v:=.bool (decide ((rsaid t l).length=0))) (w':=w') (by simp [go_sem,Rs.look,e3,hsl0]) (Rs.Gr.refl _) rfl
   ·rw [if_pos (by rfl)];exact Rs.GrowL.value (v:=.agg #[.slice pw t.words.length cw,.slice pt t.turns.length ct,.int .i64 t.breath]) (w':=w') (by simp [go_sem,Rs.look,k0,k1,k2]) (Rs.Gr.refl _) rfl
   ·rw [if_pos (by rfl)];exact Rs.GrowL.value (v:=.slice pl l.length cl) (w':=w') (by simp [go_sem,Rs.look]) (Rs.Gr.refl _) rfl
   ·have e0:V 0=_:=hs 0 (by simp);have e1:V 1=_:=hs 1 (by simp);have r2:=hs 2 (by simp);have e5:V 5=_:=hs 5 (by simp);have e6:V 6=_:=hs 6 (by simp);rw [if_pos (by rfl)];refine Rs.GrowL.call (f:=113) (args:=#[.agg #[.slice pw t.words.length cw,.slice pt t.turns.length ct,.int .i64 t.breath],.slice pl l.length cl]) (by simp [go_sem,Rs.look,e5,e6]) ?_;refine (HWT.out w' (below_trans2 HB5.out hG)).mono ?_;rintro e w2 ⟨rfl,hB2⟩;exact ⟨_,rfl,hB2,rfl⟩
  ·intro V w' hG hs;have e0:V 0=_:=hs 0 (by omega);have e1:V 1=_:=hs 1 (by omega);have r2:=hs 2 (by omega);have e3:V 3=_:=hs 3 (by omega);have e4:V 4=_:=hs 4 (by omega);have e5:V 5=_:=hs 5 (by omega);have e6:V 6=_:=hs 6 (by omega);have e7:V 7=_:=hs 7 (by omega);obtain ⟨p2,c2,e2⟩:=r2;simp only [Rs.canon,Rs.dstOf,List.range_succ,List.range_zero,List.nil_append,List.cons_append,List.foldl_cons,List.foldl_nil,List.drop_succ_cons,List.drop_zero,List.drop_nil,List.getElem?_toArray,List.getElem?_cons_succ,List.getElem?_cons_zero,Option.bind_some,Act.put,List.getD_cons_succ,List.getD_cons_zero,List.setIfInBounds_toArray,List.set_cons_succ,List.set_cons_zero];rw [e0,e1,e3,e4,e5,e6,e7,e2];clear e0 e1 e3 e4 e5 e6 e7 e2 hs;have hB:=below_trans2 HB5.out hG;clear hG;go_wp2;go_ret3;exact ⟨rfl,hB⟩
 ·have h1:keeB t l=false:=if_neg he;have h2:keeN t l=0:=if_neg he;have HE:=Lib.hid he;have hne:(t.keptE l != 0)=true:=by simpa using he
  rw [h1,h2];clear hW hL he h1 h2
  go_enter Tryz.func61,Tryz.ntmps61
  go_wp2_with fail
  refine (HS.out _ (below1 _ _)).mono ?_;rintro e w5 ⟨rfl,hB5⟩;go_wp2;go_ret3;exact ⟨rfl,join (below1 _ _) hB5⟩
set_option maxHeartbeats 1600000 in
theorem rPrice_any (t:Text) (pc:Int) (hl1:t.words.length≤1000000) (hl2:t.turns.length≤1000000) (pw pt:Option Addr) (cw ct:Nat) (w:World) (hW:TxAt w t pw pt) :
  Calls Tryz.prog 65 #[.agg #[.slice pw t.words.length cw,.slice pt t.turns.length ct,.int .i64 t.breath],.int .i64 pc] w fun e w'=>e=.returned (.tuple #[.int .i64 (t.priceV pc),.int .i64 (t.priceE pc)])∧Below w.heap.size w w':=by
 have HC:=Lib.hid (fun W (h:Below w.heap.size w W)=>rCheck_any t hl1 hl2 pw pt cw ct W (hW.below h));have HX:=Lib.hid (heap_last w (.cells #[.slice pw t.words.length cw,.slice pt t.turns.length ct,.int .i64 t.breath] 32));have HW:=Lib.hid hW.words;obtain ⟨k0,k1,k2⟩:=blk3 HX.out;by_cases he:t.err=0
 ·have ok:=err_ok he;have hbd:=paidN_bd t.words;have hn12:=ok.n12;have HE:=Lib.hid he;cases hb:btw pc 1 100 with
  | true =>
   have h2:t.priceE pc=0:=by unfold Text.priceE;rw [if_neg (by simpa using he),hb];rfl
   have h1:t.priceV pc=paidN t.words*pc:=by unfold Text.priceV;rw [if_pos h2]
   have hbt:=btw_true hb;have HBT:=Lib.hid (not_btw hb);rw [h1,h2];clear hW he h1 h2 ok hb;have hm:IntKind.wrap .i64 (paidN t.words*pc)=paidN t.words*pc:=by
    have h1:0≤paidN t.words*pc:=Int.mul_nonneg (by omega) (by omega);have h2:paidN t.words*pc≤24*100:=Int.mul_le_mul (by omega) (by omega) (by omega) (by omega);exact IntWalk.i64_in _ (by omega)
   have HM:=Lib.hid hm;clear hm hbd
   go_enter Tryz.func65,Tryz.ntmps65
   go_wp2_with fail
   refine (HC.out _ (below1 _ _)).mono ?_;rintro e w5 ⟨rfl,hB5⟩;rw [HE.out];have HX:=Lib.hid ((hB5.block _ (Array.getElem?_eq_some_iff.1 HX.out).1).trans HX.out);have HB:=Lib.hid (join (below1 _ _) hB5);clear hB5 k0 k1 k2;go_wp2_with fail
   refine (off_b _ _ _ _ HBT.out _).mono ?_;rintro e w' ⟨rfl,rfl⟩;go_wp2_with fail
   go_loopw [7,8] (fun s i wr=>∃ k:Nat,k≤t.words.length∧i=.int .i64 k∧s=.int .i64 (paidN (t.words.take k))∧Hid (Below w5.heap.size w5 wr)) (fun _ i _=>t.words.length-(intOf i).toNat)
   case atStart=>exact ⟨0,Nat.zero_le _,rfl,rfl,Lib.hid (Below.refl _ _)⟩
   case round =>
    obtain ⟨k,hk,rfl,rfl,HBr⟩:=hrel;have HBr1:=Lib.hid (HB.out.trans (HBr.out.mono HB.out.size));have hbd:=paidN_bd (t.words.take k);have htl:((t.words.take k).length:Int)≤k:=by rw [List.length_take];omega
    obtain ⟨k0,k1,k2⟩:=blk3 ((HBr.out.block _ (Array.getElem?_eq_some_iff.1 HX.out).1).trans HX.out);by_cases hlt:k<t.words.length
    ·have hlt':(k:Int)<t.words.length:=by omega
     obtain ⟨b,o,x,rfl,hbl,hxx,d0,d1,d2⟩:=(HW.out.below HBr1.out).at hlt;have HS:=Lib.hid (show paidN (t.words.take (k+1))=paidN (t.words.take k)+(if 3<x.syl then 2 else 1) by rw [take_snocD default hlt,← hxx,paidN_snoc]);generalize paidN (t.words.take k)=s at hbd HS ⊢;clear hxx;by_cases h3:3<x.syl
     ·have e:=HS.out;rw [if_pos h3] at e;have HE:=Lib.hid e;clear HS e;go_wp2;go_roundw
      case rel=>exact ⟨k+1,by omega,by go_num,by rw [HE.out];go_num,HBr⟩
      case measure=>simp [intOf];omega
     ·have e:=HS.out;rw [if_neg h3] at e;have HE:=Lib.hid e;clear HS e;go_wp2;go_roundw
      case rel=>exact ⟨k+1,by omega,by go_num,by rw [HE.out],HBr⟩
      case measure=>simp [intOf];omega
    ·obtain rfl:k=t.words.length:=by omega
     have HF:=Lib.hid (List.take_length (l:=t.words));rw [HF.out];have hm:=HM.out;go_wp2;go_ret2;exact ⟨rfl,HBr1.out⟩
  | false =>
   have h2:t.priceE pc=3:=by unfold Text.priceE;rw [if_neg (by simpa using he),hb];rfl
   have h1:t.priceV pc=0:=by unfold Text.priceV;rw [h2];rfl
   have HBT:=Lib.hid (not_btw hb);rw [h1,h2];clear hW he h1 h2 ok hb hbd
   go_enter Tryz.func65,Tryz.ntmps65
   go_wp2_with fail
   refine (HC.out _ (below1 _ _)).mono ?_;rintro e w5 ⟨rfl,hB5⟩;rw [HE.out];have HB:=Lib.hid (join (below1 _ _) hB5);clear hB5 k0 k1 k2;go_wp2_with fail
   refine (off_b _ _ _ _ HBT.out _).mono ?_;rintro e w' ⟨rfl,rfl⟩;go_wp2;go_ret2;exact ⟨rfl,HB.out⟩
 ·have h2:t.priceE pc=t.err:=by unfold Text.priceE;rw [if_pos he]
  have h1:t.priceV pc=0:=by unfold Text.priceV;rw [h2,if_neg he]
  rw [h1,h2];have HE:(t.err != 0)=true:=by simpa using he
  clear hW he h1 h2;generalize t.err=er at HE HC ⊢
  go_enter Tryz.func65,Tryz.ntmps65
  go_wp2_with fail
  refine (HC.out _ (below1 _ _)).mono ?_;rintro e w5 ⟨rfl,hB5⟩;go_wp2;go_ret2;exact ⟨rfl,join (below1 _ _) hB5⟩
end Go.Proofs.YtadnggecnjdhiaaGreat
namespace Go.Proofs.YtadnggecnjdhiaaGreat
open Go.RowKit Tx
theorem below_hold {B:Nat} {Kp:Nat→Prop} {a b c:World} (h:Below B a b) (hB:B≤b.heap.size) (g:Hold Kp b c) (hk:∀ k,k<B→Kp k):Below B a c :=
 h.trans ⟨g.os,g.tape,g.output,g.size,fun k hl=>g.same k (hk k hl) (by omega)⟩
theorem own_blockI {w:World} {base:Nat} {e:TypeId} {s:Nat} {v:Value} {n:Nat} {xs:List Value} (h:w.ownsRow base e s v n xs):∀ k,v.ownBlock=some k→base≤k∧k<w.heap.size:=by
 intro k hk;rcases h.2 with ⟨h1,_⟩ | ⟨g,cap,cur,h1,hb,hg,_⟩
 ·rw [h1] at hk;cases hk
 ·rw [h1] at hk;injection hk with hk;subst hk;exact ⟨hb,(Array.getElem?_eq_some_iff.1 hg).1⟩
theorem grow_hold {w w':World} {base M:Nat} {e:TypeId} {s:Nat} {v:Value} {n:Nat} {xs:List Value} (h:w.ownsRow base e s v n xs) (hM:M<base) (hg:w.grownBy w' v.ownBlock):Hold (fun k=>k≤M) w w' :=
 ⟨hg.os,hg.tape,hg.output,hg.size,fun k hk hl=>hg.block k hl (fun e=>by have:=(own_blockI h k e.symm).1;omega)⟩
theorem own_stopE {w:World} {base g c:Nat} {E:TypeId} {ws:List Word} (k:Nat) (hk:k<ws.length) (h:w.ownsRow base E 3 (.slice (some ⟨g,0,none⟩) ws.length c) ws.length (wcells ws)) :
  (w.setCell ⟨g,k*3+2,none⟩ (.bool true)).ownsRow base E 3 (.slice (some ⟨g,0,none⟩) ws.length c) ws.length (wcells (ws.set k { ws.getD k default with stop:=true })):=by
 refine ⟨by rw [wcells_len,List.length_set],?_⟩;rcases h.2 with ⟨h1,_⟩ | ⟨g',cap,cur,hv,hb,hg,h1,h2,h3,h4⟩
 ·cases h1
 ·injection hv with e1 e2 e3;injection e1 with e1;injection e1 with e1;subst e1;subst e3;refine .inr ⟨g,c,_,rfl,hb,heap_set_same _ hg,h1,h2,by rw [Array.size_setIfInBounds,h3],?_⟩;apply List.ext_getElem?;intro j;rw [List.getElem?_take,Array.getElem?_toList,Array.getElem?_setIfInBounds];by_cases hj:j<ws.length*3
  ·have hc:cur[j]?=(wcells ws)[j]?:=by rw [← h4,List.getElem?_take,if_pos hj,Array.getElem?_toList]
   have hdm:j=j / 3*3+j % 3:=by omega
   have hq:j / 3<ws.length:=by omega
   have hr:j % 3<3:=by omega
   have f1:=flat3_get default wcell (fun _=>rfl) ws (j / 3) (j % 3) hq hr;have f2:=flat3_get default wcell (fun _=>rfl) (ws.set k { ws.getD k default with stop:=true }) (j / 3) (j % 3) (by rw [List.length_set];exact hq) hr;rw [← hdm] at f1 f2;rw [if_pos hj,hc];unfold wcells;rw [f1,f2];by_cases hqk:j / 3=k
   ·subst hqk;have e0:(ws.set (j / 3) { ws.getD (j / 3) default with stop:=true }).getD (j / 3) default={ ws.getD (j / 3) default with stop:=true }:=by simp [hk]
    rw [e0];by_cases hr2:j % 3=2
    ·rw [if_pos (by omega),if_pos (by omega),hr2];rfl
    ·rw [if_neg (by omega)];have:j % 3=0∨j % 3=1:=by omega
     rcases this with h | h <;> rw [h] <;> rfl
   ·have e0:(ws.set k { ws.getD k default with stop:=true }).getD (j / 3) default=ws.getD (j / 3) default:=by
     simp [List.getElem?_set,Ne.symm hqk]
    rw [e0,if_neg (by omega)]
  ·rw [if_neg hj,List.getElem?_eq_none (by rw [wcells_len,List.length_set];omega)]
structure SrT (w:World) (t:Text) (pw pt:Option Addr) (cw ct R M:Nat) (nw:List Int) (v u:Value) (ws:List Word) (ts:List Turn) (W:World):Prop where
 txt:W.heap[w.heap.size]?=some (.cells #[.slice pw t.words.length cw,.slice pt t.turns.length ct,.int .i64 t.breath] 32 (0,0))
 res:W.heap[w.heap.size+1]?=some (.cells #[.slice none 0 0,.slice none 0 0,.int .i64 0] 32 (0,0))
 box:W.heap[R]?=some (.cells #[v,u,.int .i64 t.breath] 32 (0,0))
 now:W.heap[M]?=some (.cells (arrOf nw) 3 (0,0))
 ow:W.ownsRow (M+1) 80 3 v ws.length (wcells ws)
 ou:W.ownsRow (M+1) 81 3 u ts.length (tcells ts)
 bel:Below w.heap.size w W
 lt1:w.heap.size+1<R
 lt2:R<M
variable {w:World} {t:Text} {pw pt:Option Addr} {cw ct R M:Nat} {nw:List Int} {v u:Value} {ws:List Word} {ts:List Turn} {W W':World}
theorem SrT.siz (h:SrT w t pw pt cw ct R M nw v u ws ts W):M<W.heap.size:=(Array.getElem?_eq_some_iff.1 h.now).1
theorem SrT.low (h:SrT w t pw pt cw ct R M nw v u ws ts W) (hB:Below W.heap.size W W'):SrT w t pw pt cw ct R M nw v u ws ts W':=by
 have hs:=h.siz;have l1:=h.lt1;have l2:=h.lt2;exact ⟨(hB.block _ (by omega)).trans h.txt,(hB.block _ (by omega)).trans h.res,(hB.block _ (by omega)).trans h.box,(hB.block _ hs).trans h.now,own_below h.ow hB,own_below h.ou hB,h.bel.trans (hB.mono h.bel.size),l1,l2⟩
theorem SrT.setNow (h:SrT w t pw pt cw ct R M nw v u ws ts W) (i:Nat) (x:Int):SrT w t pw pt cw ct R M (nw.set i x) v u ws ts (W.setCell ⟨M,i,none⟩ (.int .i64 x)):=by
 have l1:=h.lt1;have l2:=h.lt2;have ne:∀ k,k<M→(W.setCell ⟨M,i,none⟩ (.int .i64 x)).heap[k]?=W.heap[k]?:=fun k hk=>Below.heap_setCell _ _ _ _ (by show k≠M;omega);refine ⟨(ne _ (by omega)).trans h.txt,(ne _ (by omega)).trans h.res,(ne _ (by omega)).trans h.box,?_,own_setC h.ow (by omega),own_setC h.ou (by omega),h.bel.setCell (p:=⟨M,i,none⟩) (by show w.heap.size≤M;omega) _,l1,l2⟩;rw [← arrOf_set];exact heap_set_same _ h.now
theorem SrT.wapp {Kp:Nat→Prop} {v':Value} {x:Word} (h:SrT w t pw pt cw ct R M nw v u ws ts W) (hh:Hold Kp W W') (hk:∀ k,k≤M→Kp k) (hu:W'.ownsRow (M+1) 81 3 u ts.length (tcells ts)) (ho:W'.ownsRow (M+1) 80 3 v' (ws.length+1) (wcells ws++wcell x)) :
  SrT w t pw pt cw ct R M nw v' u (ws++[x]) ts (W'.setCell ⟨R,0,none⟩ v'):=by
 have hs:=h.siz;have l1:=h.lt1;have l2:=h.lt2;have ne:∀ k,k≠R→k≤M→(W'.setCell ⟨R,0,none⟩ v').heap[k]?=W.heap[k]?:=fun k hk1 hk2=>(Below.heap_setCell _ _ _ _ (by show k≠R;omega)).trans (hh.same k (hk k hk2) (by omega));refine ⟨(ne _ (by omega) (by omega)).trans h.txt,(ne _ (by omega) (by omega)).trans h.res,heap_set_same _ ((hh.same R (hk R (by omega)) (by omega)).trans h.box),(ne _ (by omega) (by omega)).trans h.now,?_,own_setC hu (by omega),(below_hold h.bel h.bel.size hh (fun k hl=>hk k (by omega))).setCell (p:=⟨R,0,none⟩) (by show w.heap.size≤R;omega) _,l1,l2⟩;have:=own_setC (R:=R) (o:=0) (u:=v') ho (by omega);rw [← wcells_snoc] at this;rw [List.length_append];exact this
theorem SrT.tapp {Kp:Nat→Prop} {u':Value} {x:Turn} (h:SrT w t pw pt cw ct R M nw v u ws ts W) (hh:Hold Kp W W') (hk:∀ k,k≤M→Kp k) (hu:W'.ownsRow (M+1) 80 3 v ws.length (wcells ws)) (ho:W'.ownsRow (M+1) 81 3 u' (ts.length+1) (tcells ts++tcell x)) :
  SrT w t pw pt cw ct R M nw v u' ws (ts++[x]) (W'.setCell ⟨R,1,none⟩ u'):=by
 have hs:=h.siz;have l1:=h.lt1;have l2:=h.lt2;have ne:∀ k,k≠R→k≤M→(W'.setCell ⟨R,1,none⟩ u').heap[k]?=W.heap[k]?:=fun k hk1 hk2=>(Below.heap_setCell _ _ _ _ (by show k≠R;omega)).trans (hh.same k (hk k hk2) (by omega));refine ⟨(ne _ (by omega) (by omega)).trans h.txt,(ne _ (by omega) (by omega)).trans h.res,heap_set_same _ ((hh.same R (hk R (by omega)) (by omega)).trans h.box),(ne _ (by omega) (by omega)).trans h.now,own_setC hu (by omega),?_,(below_hold h.bel h.bel.size hh (fun k hl=>hk k (by omega))).setCell (p:=⟨R,1,none⟩) (by show w.heap.size≤R;omega) _,l1,l2⟩;have:=own_setC (R:=R) (o:=1) (u:=u') ho (by omega);rw [← tcells_snoc] at this;rw [List.length_append];exact this
theorem SrT.stop {g c:Nat} (h:SrT w t pw pt cw ct R M nw (.slice (some ⟨g,0,none⟩) ws.length c) u ws ts W) (k:Nat) (hk:k<ws.length) :
  SrT w t pw pt cw ct R M nw (.slice (some ⟨g,0,none⟩) ws.length c) u (ws.set k { ws.getD k default with stop:=true }) ts (W.setCell ⟨g,k*3+2,none⟩ (.bool true)):=by
 have hs:=h.siz;have l1:=h.lt1;have l2:=h.lt2;have hg:=(own_blockI h.ow g rfl).1;have ne:∀ k',k'≤M→(W.setCell ⟨g,k*3+2,none⟩ (.bool true)).heap[k']?=W.heap[k']?:=fun k' hk'=>Below.heap_setCell _ _ _ _ (by show k'≠g;omega);refine ⟨(ne _ (by omega)).trans h.txt,(ne _ (by omega)).trans h.res,(ne _ (by omega)).trans h.box,(ne _ (by omega)).trans h.now,?_,own_other h.ou h.ow (by decide) (grown_set _ _ _ _),h.bel.setCell (p:=⟨g,k*3+2,none⟩) (by show w.heap.size≤g;omega) _,l1,l2⟩;rw [List.length_set];exact own_stopE k hk h.ow
theorem Ints.hold {Kp:Nat→Prop} {xs:List Int} {p:Option Addr} (h:Ints w p xs) (hB:Below w.heap.size w W):Ints W p xs:=h.below hB
end Go.Proofs.YtadnggecnjdhiaaGreat
