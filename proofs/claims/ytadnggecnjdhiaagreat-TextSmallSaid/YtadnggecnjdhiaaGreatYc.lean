/- Contracts of the code and of the reference, part 3. -/
import Derived.Test.YtadnggecnjdhiaaGreatYb
import Derived.RangeFuncOwn
import Derived.Deep.AppendLies
import Derived.Maps.OwnOps
import Derived.Maps.Views
set_option linter.unusedSimpArgs false
set_option linter.unusedVariables false
namespace Go.Proofs.YtadnggecnjdhiaaGreat
open Go.RowKit Tx
attribute [local go_sem] Oper.semAt_some
theorem grR:Rg.IsGr Rs.Gr:=⟨fun w=>Below.refl _ _,fun h k=>join h k,fun w=>⟨rfl,rfl,rfl,Nat.le_refl _,fun _ _=>rfl⟩⟩
theorem lists_in (n:Nat):∀ (r a:Nat) (L:List Int),L∈Tx.lists n r a→L.length=r∧∀ x∈L,0≤x∧x<n
 | 0,a,L,h=>by simp [Tx.lists] at h;subst h;simp
 | r+1,a,L,h=>by
  obtain ⟨x,hx,h⟩:=List.mem_flatMap.1 h;obtain ⟨l,hl,rfl⟩:=List.mem_map.1 h;have:=lists_in n r (x+1) l hl;rw [List.mem_range'_1] at hx;refine ⟨by simp [this.1],fun y hy=>?_⟩;rcases List.mem_cons.1 hy with rfl | hy
  ·omega
  ·exact this.2 y hy
theorem ints_grown {w w':World} {p:Option Addr} {xs:List Int} {row:Option Nat} (h:Ints w p xs) (hg:w.grownBy w' row) (hrow:∀ r,row=some r→∃ o:Obj,w.heap[r]?=some o∧o.isCells=false):Ints w' p xs:=by
 rcases h with h | ⟨b,o,hp,hl,h⟩
 ·exact .inl h
 ·exact .inr ⟨b,o,hp,Nat.lt_of_lt_of_le hl hg.size,fun i hi=>cell_kept (h i hi) hg hrow⟩
theorem own_hold {w w':World} {base:Nat} {e:TypeId} {size:Nat} {v:Value} {n:Nat} {xs:List Value} {Kp:Nat→Prop} (h:w.ownsRow base e size v n xs) (hh:Hold Kp w w') (hk:∀ k,base≤k→Kp k):w'.ownsRow base e size v n xs:=by
 refine ⟨h.1,h.2.imp id ?_⟩;rintro ⟨g,cap,cur,h1,h2,h3,h4⟩;exact ⟨g,cap,cur,h1,h2,(hh.same g (hk g h2) (Array.getElem?_eq_some_iff.1 h3).1).trans h3,h4⟩
theorem hold_putObj (w:World) (l:Nat) (o:Obj):Hold (fun k=>k≠l) w (w.putObj l o):=⟨rfl,rfl,rfl,by simp,fun k hk _=>World.putObj_heap_other hk⟩
theorem leaves_ends2 {F:Fence} {n:Nat} {P:Program} {fn:Func} {tmps:Array Value} {R:Ending→World→Prop} {B:Nat} {u:FrameMode} (hu:u≠.run):∀ (ds:List Deferred) (C:Nat) (w:World),Ends B w C ds→C≤w.heap.size →
  (∀ w',Hold (fun k=>k<B∨C≤k) w w'→LeavesIn F n P fn tmps R [] u w')→LeavesInM F n P fn tmps R ds u w
 | [],_,w,_,_,hR=>hR w (Hold.refl _ _)
 | d::ds,C,w,⟨D,h1,h2,h3,h4,h5⟩,hC,hR=>by
  subst h1;refine ⟨hu,.inl ⟨D,_,rfl,run_takeDeferred h4,leaves_ends2 hu ds D _ (h5.keep (fun k _ hk=>World.putObj_heap_other (by omega))) (by simp;omega) (fun w' hh=>hR w' (Hold.trans ((hold_putObj _ _ _).mono (fun k hk _=>by omega)) (hh.mono (fun k hk _=>by omega))))⟩⟩
theorem least_step {t:Text} {wt:Int} {k:Nat} (hk:k≤t.words.length) (h:∀ L∈Tx.lists t.words.length k 0,t.leastP wt L=false) :
  t.leastGo wt (List.range' k (t.words.length+1-k))=t.leastGo wt (List.range' (k+1) (t.words.length+1-(k+1))):=by
 have e:t.words.length+1-k=(t.words.length+1-(k+1))+1:=by omega
 rw [e,List.range'_succ]
 show (match (Tx.lists t.words.length k 0).find? (t.leastP wt) with | some l=>some l | none=>t.leastGo wt (List.range' (k+1) (t.words.length+1-(k+1))))=_
 rw [List.find?_eq_none.2 (fun x hx=>by rw [h x hx];simp)]
theorem least_hit {t:Text} {wt:Int} {k:Nat} {pre post:List (List Int)} {L:List Int} (hk:k≤t.words.length) (hL:Tx.lists t.words.length k 0=pre++L::post) (h:∀ x∈pre,t.leastP wt x=false) (hP:t.leastP wt L=true) :
  t.leastGo wt (List.range' k (t.words.length+1-k))=some L:=by
 have e:t.words.length+1-k=(t.words.length+1-(k+1))+1:=by omega
 rw [e,List.range'_succ]
 show (match (Tx.lists t.words.length k 0).find? (t.leastP wt) with | some l=>some l | none=>t.leastGo wt (List.range' (k+1) (t.words.length+1-(k+1))))=_
 rw [hL,List.find?_append,List.find?_eq_none.2 (fun x hx=>by rw [h x hx];simp),List.find?_cons_of_pos hP];rfl
theorem least_none {t:Text} {wt:Int} (h:t.leastGo wt (List.range' 1 t.words.length)=none):t.least wt=([],6):=by
 show (match t.leastGo wt (List.range' 1 t.words.length) with | some l=>(l,(0:Int)) | none=>([],6))=_
 rw [h]
theorem least_some {t:Text} {wt:Int} {L:List Int} (h:t.leastGo wt (List.range' 1 t.words.length)=some L):t.least wt=(L,0):=by
 show (match t.leastGo wt (List.range' 1 t.words.length) with | some l=>(l,(0:Int)) | none=>([],6))=_
 rw [h]
structure LeC (t:Text) (pw pt:Option Addr) (cw ct:Nat) (mv:Value) (wt:Int) (w W:World) (C:Nat) (ds:List Deferred):Prop where
 wk:W.heap[w.heap.size]?=some (.cells #[.slice pw t.words.length cw,.slice pt t.turns.length ct,.int .i64 t.breath,mv] 84 (0,0))
 wb:W.heap[w.heap.size+1]?=some (.cells #[.int .i64 wt] 3 (0,0))
 r4:W.heap[w.heap.size+1+1]?=some (.cells #[.slice none 0 0] 34 (0,0))
 r5:W.heap[w.heap.size+1+1+1]?=some (.cells #[.int .i64 0] 35 (0,0))
 bel:Below w.heap.size w W
 ends:Ends (w.heap.size+1+1+1+1) W C ds
 sz:w.heap.size+1+1+1+1≤W.heap.size∧C≤W.heap.size
theorem LeC.below {t:Text} {pw pt:Option Addr} {cw ct:Nat} {mv:Value} {wt:Int} {w W W':World} {C:Nat} {ds:List Deferred} (h:LeC t pw pt cw ct mv wt w W C ds) {B:Nat} (h3:w.heap.size+1+1+1+1≤B) (hC:C≤B) (hB:Below B W W'):LeC t pw pt cw ct mv wt w W' C ds :=
 ⟨(hB.block _ (by omega)).trans h.wk,(hB.block _ (by omega)).trans h.wb,(hB.block _ (by omega)).trans h.r4,(hB.block _ (by omega)).trans h.r5,h.bel.trans (hB.mono (by omega)),h.ends.keep (fun k _ hk=>hB.block k (by omega)),
  ⟨Nat.le_trans h.sz.1 hB.size,Nat.le_trans h.sz.2 hB.size⟩⟩
def LeHit (t:Text) (wt:Int) (w:World) (B:Nat) (ds:List Deferred) (W:World):Prop :=
 ∃ L v,t.leastGo wt (List.range' 1 t.words.length)=some L∧W.heap[w.heap.size+1+1]?=some (.cells #[v] 34 (0,0))∧W.heap[w.heap.size+1+1+1]?=some (.cells #[.int .i64 0] 35 (0,0)) ∧
  W.ownsRow (B+2) 3 1 v L.length (L.map (Value.int .i64))∧Below w.heap.size w W∧Ends (w.heap.size+1+1+1+1) W B ds∧w.heap.size+1+1+1+1≤B∧B≤W.heap.size
theorem LeHit.hold {t:Text} {wt:Int} {w W W':World} {B:Nat} {ds:List Deferred} (h:LeHit t wt w B ds W) (hh:Hold (fun k=>k≠B+1) W W'):LeHit t wt w B ds W':=by
 obtain ⟨L,v,h1,h2,h3,h4,h5,h6,h7,h8⟩:=h;exact ⟨L,v,h1,(hh.same _ (by omega) (by omega)).trans h2,(hh.same _ (by omega) (by omega)).trans h3,own_hold h4 hh (fun k hk=>by omega),h5.trans ((hh.mono (fun k hk _=>(by omega:k≠B+1)):Hold (fun k=>k<w.heap.size) W W').to_below (by omega)),h6.keep (fun k _ hk=>hh.same k (by omega) (by omega)),h7,Nat.le_trans h8 hh.size⟩
def spLe1 (t:Text) (pw pt:Option Addr) (cw ct:Nat) (mv:Value) (wt:Int) (g many:Nat) (x:Int) (kp:Bool):Nat→List Value→Value→World→Prop
 | 0,_,v,_=>v=.agg #[.slice pw t.words.length cw,.slice pt t.turns.length ct,.int .i64 t.breath,mv]
 | 1,_,v,_=>v=.slice (some ⟨g,0,none⟩) many many
 | 2,_,v,_=>v=.int .i64 x
 | 3,_,v,_=>v=.int .i64 wt
 | 4,_,v,_=>v=.bool true
 | 5,_,v,_=>v=.bool true
 | 6,_,v,_=>v=.agg #[.slice pw t.words.length cw,.slice pt t.turns.length ct,.int .i64 t.breath,mv]
 | 7,_,v,_=>v=.slice (some ⟨g,0,none⟩) many many
 | 8,_,v,_=>v=.bool kp
 | 9,_,v,_=>v=.bool kp
 | _,_,_,_=>False
theorem spLe1_stable (t:Text) (pw pt:Option Addr) (cw ct:Nat) (mv:Value) (wt:Int) (g many:Nat) (x:Int) (kp:Bool):∀ i L v w w',spLe1 t pw pt cw ct mv wt g many x kp i L v w→Rs.Gr w w'→spLe1 t pw pt cw ct mv wt g many x kp i L v w':=by
 intro i L v w w' h hg
 match i with
 | 0=>exact h
 | 1=>exact h
 | 2=>exact h
 | 3=>exact h
 | 4=>exact h
 | 5=>exact h
 | 6=>exact h
 | 7=>exact h
 | 8=>exact h
 | 9=>exact h
def spLe0 (t:Text) (pw pt:Option Addr) (cw ct:Nat) (mv:Value) (wt:Int) (g many:Nat) (x:Int) (kp:Bool):Nat→List Value→Value→World→Prop
 | 0,_,v,_=>v=.agg #[.slice pw t.words.length cw,.slice pt t.turns.length ct,.int .i64 t.breath,mv]
 | 1,_,v,_=>v=.slice (some ⟨g,0,none⟩) many many
 | 2,_,v,_=>v=.int .i64 x
 | 3,_,v,_=>v=.int .i64 wt
 | 4,_,v,_=>v=.bool false
 | 5,_,v,_=>v=.bool false
 | 6,_,v,_=>v=undef
 | 7,_,v,_=>v=undef
 | 8,_,v,_=>v=undef
 | 9,_,v,_=>v=.bool false
 | _,_,_,_=>False
theorem spLe0_stable (t:Text) (pw pt:Option Addr) (cw ct:Nat) (mv:Value) (wt:Int) (g many:Nat) (x:Int) (kp:Bool):∀ i L v w w',spLe0 t pw pt cw ct mv wt g many x kp i L v w→Rs.Gr w w'→spLe0 t pw pt cw ct mv wt g many x kp i L v w':=by
 intro i L v w w' h hg
 match i with
 | 0=>exact h
 | 1=>exact h
 | 2=>exact h
 | 3=>exact h
 | 4=>exact h
 | 5=>exact h
 | 6=>exact h
 | 7=>exact h
 | 8=>exact h
 | 9=>exact h
set_option maxHeartbeats 2000000 in
set_option maxRecDepth 100000 in
theorem least_any (t:Text) (pw pt:Option Addr) (cw ct:Nat) (mv:Value) (wt:Int) (w:World) (hW:WkAt w t pw pt cw) :
  Calls Tryz.prog 73 #[.agg #[.slice pw t.words.length cw,.slice pt t.turns.length ct,.int .i64 t.breath,mv],.int .i64 wt] w (ListPost (t.least wt).1 (t.least wt).2 w):=by
 have ok:=hW.ok;have hn1:=ok.n1;have hn12:=ok.n12;have HW:=Lib.hid hW;clear hW;obtain ⟨m,hm9⟩:∃ m:Nat,9≤m:=⟨9,Nat.le_refl _⟩;refine (callsIn_wide (n:=m)).1 ?_;refine callsIn_of_wp_marks Tryz.func73 rfl trivial ?_ rfl;simp only [Tryz.ntmps73,List.size_toArray,List.length_cons,List.length_nil,Nat.reduceAdd,Nat.reduceSub,Array.replicate_succ,Array.replicate_zero,List.push_toArray,List.append_toArray,List.nil_append,List.cons_append]
 gi_wp2_with fail
 have hA3:LeC t pw pt cw ct mv wt w ((((w.alloc (.cells #[.slice pw t.words.length cw,.slice pt t.turns.length ct,.int .i64 t.breath,mv] 84)).alloc (.cells #[.int .i64 wt] 3)).alloc (.cells #[.slice none 0 0] 34)).alloc (.cells #[.int .i64 0] 35)) (w.heap.size+4) []:=by
  refine ⟨?_,?_,?_,?_,(((below1 _ _).alloc (by simp) _).alloc (by simp;omega) _).alloc (by simp;omega) _,trivial,⟨by simp,by simp⟩⟩
  ·rw [Below.heap_alloc _ _ _ (by first | (simp;done) | (simp;omega)),Below.heap_alloc _ _ _ (by first | (simp;done) | (simp;omega)),Below.heap_alloc _ _ _ (by simp)];exact heap_last _ _
  ·rw [Below.heap_alloc _ _ _ (by first | (simp;done) | (simp;omega)),Below.heap_alloc _ _ _ (by simp)];have:=heap_last (w.alloc (.cells #[.slice pw t.words.length cw,.slice pt t.turns.length ct,.int .i64 t.breath,mv] 84)) (.cells #[.int .i64 wt] 3);rwa [World.size_alloc] at this
  ·rw [Below.heap_alloc _ _ _ (by simp)];have:=heap_last ((w.alloc (.cells #[.slice pw t.words.length cw,.slice pt t.turns.length ct,.int .i64 t.breath,mv] 84)).alloc (.cells #[.int .i64 wt] 3)) (.cells #[.slice none 0 0] 34);rwa [World.size_alloc,World.size_alloc] at this
  ·have:=heap_last (((w.alloc (.cells #[.slice pw t.words.length cw,.slice pt t.turns.length ct,.int .i64 t.breath,mv] 84)).alloc (.cells #[.int .i64 wt] 3)).alloc (.cells #[.slice none 0 0] 34)) (.cells #[.int .i64 0] 35);rwa [World.size_alloc,World.size_alloc,World.size_alloc] at this
 generalize (((w.alloc (.cells #[.slice pw t.words.length cw,.slice pt t.turns.length ct,.int .i64 t.breath,mv] 84)).alloc (.cells #[.int .i64 wt] 3)).alloc (.cells #[.slice none 0 0] 34)).alloc (.cells #[.int .i64 0] 35)=W3 at hA3 ⊢;refine wpIn_loop (fun a' w'=>∃ (k C:Nat) (ds:List Deferred) (u7 u8 u9 u10 u11 u12 u13 u14 u15 u16 u17 u18 u19 u20 u21 u22 u23 u24 u25 u26 u27 u28 u29 u30 u31:Value),1≤k∧k≤t.words.length+1∧a'={ tmps:=#[.agg #[.slice pw t.words.length cw,.slice pt t.turns.length ct,.int .i64 t.breath,mv],.int .i64 wt,.pointer (some ⟨w.heap.size,0,none⟩),.pointer (some ⟨w.heap.size+1,0,none⟩),.pointer (some ⟨w.heap.size+1+1,0,none⟩),.pointer (some ⟨w.heap.size+1+1+1,0,none⟩),.int .i64 k,u7,u8,u9,u10,u11,u12,u13,u14,u15,u16,u17,u18,u19,u20,u21,u22,u23,u24,u25,u26,u27,u28,u29,u30,u31],defers:=ds }∧t.leastGo wt (List.range' k (t.words.length+1-k))=t.leastGo wt (List.range' 1 t.words.length)∧LeC t pw pt cw ct mv wt w w' C ds) (fun a' _=>t.words.length+1-(intOf (a'.tmps.getD 6 undef)).toNat) ⟨1,_,[],_,_,_,_,_,_,_,_,_,_,_,_,_,_,_,_,_,_,_,_,_,_,_,_,_,Nat.le_refl _,by omega,rfl,by rw [Nat.add_sub_cancel],hA3⟩ ?_;clear hA3;rintro a' wr ⟨k,C,ds,u7,u8,u9,u10,u11,u12,u13,u14,u15,u16,u17,u18,u19,u20,u21,u22,u23,u24,u25,u26,u27,u28,u29,u30,u31,hk1,hk2,rfl,hgo,hA⟩;have HGO:=Lib.hid hgo;have HA:=Lib.hid hA;have hsz0:=hA.sz.1;have f0:=blk_cells hA.wk 0 _ rfl;have f1:=blk_cells hA.wk 1 _ rfl;have f2:=blk_cells hA.wk 2 _ rfl;have f3:=blk_cells hA.wk 3 _ rfl;have hs0:w.heap.size<wr.heap.size:=by omega
 clear hA hgo;by_cases hlt:k≤t.words.length
 ·have hlt':(k:Int)≤t.words.length:=by omega
  gi_wp2_with fail
  refine ⟨trivial,(fun h=>by cases h),?_⟩;refine (callsIn_wide.2 (lists_any _ _ _ _ _ _)).mono ?_;rintro e W4 ⟨rfl,hW4⟩;have hB4:Below wr.heap.size wr W4:=by rw [← hW4];exact (below1 _ _).alloc (by simp) _
  have hs4:W4.heap.size=wr.heap.size+2:=by rw [← hW4];simp
  have h41:W4.heap[wr.heap.size+1]?=some (.cells #[.int .i64 k] 3 (0,0)):=by
   rw [← hW4];have:=heap_last (wr.alloc (Obj.cells #[.slice pw t.words.length cw,.slice pt t.turns.length ct,.int .i64 t.breath,mv] 84)) (Obj.cells #[Value.int IntKind.i64 k] 3);rwa [World.size_alloc] at this
  have h42:W4.heap[wr.heap.size]?=some (.cells #[.slice pw t.words.length cw,.slice pt t.turns.length ct,.int .i64 t.breath,mv] 84 (0,0)):=by
   rw [← hW4,Below.heap_alloc _ _ _ (by simp)];exact heap_last _ _
  have hA4:=HA.out.below (B:=wr.heap.size) hsz0 HA.out.sz.2 hB4;have hC4:=HA.out.sz.2;clear hW4 f0 f1 f2 f3
  gi_wp2_with fail
  refine range_of (gf:=141) (lb:=#[.pointer (some ⟨wr.heap.size+1,0,none⟩),.pointer (some ⟨wr.heap.size,0,none⟩)]) rfl (enters_of Tryz.func141 (by kernel_rfl) rfl)
   (lists1_seq (m-1) t.words.length cw k hn12 (by omega) pw _ _ mv _ _ W4 (fun j=>j≠w.heap.size+1+1∧j≠w.heap.size+1+1+1) ⟨⟨by omega,by omega⟩,⟨by omega,by omega⟩⟩ h41 h42) (Below.refl _ _) (fun x vs W h=>by obtain ⟨g,h,_⟩:=h;rw [h];rfl)
   (fun pre W'=>LeC t pw pt cw ct mv wt w W' W4.heap.size ds∧(∀ L∈pre,t.leastP wt L=false)∧W4.heap.size≤W'.heap.size)
   (fun c _ W'=>c=.ret∧LeHit t wt w W4.heap.size ds W') ?leI ?leX ⟨⟨hA4.wk,hA4.wb,hA4.r4,hA4.r5,hA4.bel,hA4.ends.mono (by omega),⟨by omega,Nat.le_refl _⟩⟩,(fun _ h=>by simp at h),Nat.le_refl _⟩ ?round ?done ?stop
  case leI =>
   rintro s' X Y ⟨i1,i2,i3⟩ hb;exact ⟨i1.below (by omega) (Nat.le_refl _) hb,i2,Nat.le_trans i3 hb.size⟩
  case leX =>
   rintro c s' X r ⟨rfl,h⟩;exact ⟨rfl,h.hold (hold_putObj _ _ _)⟩
  case stop =>
   rintro D c pre W' rfl ⟨rfl,h⟩ hK;obtain ⟨L,v,h1,h2,h3,h4,h5,h6,h7,h8⟩:=h;have hDl:=(Array.getElem?_eq_some_iff.1 hK).1;clear hA4 h41 h42 hB4
   gi_wp2
   refine leaves_ends2 (B:=w.heap.size+1+1+1+1) (by simp) _ (W4.heap.size+1) W' ⟨_,rfl,h7,Nat.lt_succ_self _,hK,h6⟩ (by omega) (fun w' hh=>?_);rw [least_some h1];have c0:=blk_cells ((hh.same _ (.inl (by omega)) (by omega)).trans h2) 0 _ rfl;have c1:=blk_cells ((hh.same _ (.inl (by omega)) (by omega)).trans h3) 0 _ rfl;refine ⟨.tuple #[v,.int .i64 0],by simp [results,Tryz.results73,go_sem,c0,c1],v,rfl,own_base (own_hold (base:=W4.heap.size+2) h4 hh (fun k hk=>.inr (by omega))) (by omega),h5.trans ((hh.mono (fun k hk _=>(.inl (by omega):k<w.heap.size+1+1+1+1∨W4.heap.size+1≤k)):Hold (fun k=>k<w.heap.size) W' w').to_below (by omega))⟩
  case done =>
   rintro D W' rfl ⟨i1,i2,i3⟩ hK;have hDl:=(Array.getElem?_eq_some_iff.1 hK).1;have hst:=least_step (by omega) i2;clear hA4 h41 h42 hB4
   gi_wp2
   refine ⟨⟨k+1,W'.heap.size,_,_,_,_,_,_,_,_,_,_,_,_,_,_,_,_,_,_,_,_,_,_,_,_,_,_,by omega,by omega,rfl,by rw [← hst];exact HGO.out,⟨i1.wk,i1.wb,i1.r4,i1.r5,i1.bel,⟨W4.heap.size,rfl,by omega,hDl,hK,i1.ends⟩,⟨i1.sz.1,Nat.le_refl _⟩⟩⟩,?_⟩;simp [intOf];omega
  case round =>
   rintro lq pre L post vs W5 hl1 hl2 ho hL ⟨g,rfl,hLm,hLg⟩ ⟨i1,i2,i3⟩;have hin:=lists_in t.words.length k 0 L (by rw [hL];simp);clear i1 i3 hA4 h41 h42 hB4
   gi_wp2
   refine ⟨Below.refl _ _,?_⟩;rintro Wb hg hsz ⟨j1,j2,j3⟩;have hLb:=ints_grown hLg hg (fun r e=>by cases e;exact ho);have hz5:w.heap.size+1+1+1+1≤Wb.heap.size∧W4.heap.size+2≤Wb.heap.size∧w.heap.size+1+1+1+1≤W4.heap.size:=by omega
   have HWT:Hid (∀ W,Below Wb.heap.size Wb W→Calls Tryz.prog 111 #[.agg #[.slice pw t.words.length cw,.slice pt t.turns.length ct,.int .i64 t.breath,mv],.slice (some ⟨g,0,none⟩) k k] W fun e w'=>e=.returned (.int .i64 (t.wtOf L))∧Below W.heap.size W w'):=Lib.hid (fun W h=>by
    have:=weight_any t ok L (by omega) hin.2 pw (some ⟨g,0,none⟩) cw k (.slice pt t.turns.length ct) (.int .i64 t.breath) mv W (HW.out.at_.words.below (j1.bel.trans (h.mono (by omega)))) (hLb.below h);rw [hLm] at this;exact this)
   have HKS:Hid (∀ W,Below Wb.heap.size Wb W→Calls Tryz.prog 110 #[.agg #[.slice pw t.words.length cw,.slice pt t.turns.length ct,.int .i64 t.breath,mv],.slice (some ⟨g,0,none⟩) k k] W fun e w'=>e=.returned (.bool (t.keeps L))∧Below W.heap.size W w'):=Lib.hid (fun W h=>by
    have:=keepSense_any t ok L (by omega) pt (some ⟨g,0,none⟩) ct k (.slice pw t.words.length cw) (.int .i64 t.breath) mv W (HW.out.at_.turns.below (j1.bel.trans (h.mono (by omega)))) (hLb.below h);rw [hLm] at this;exact this)
   have HP:Hid (t.leastP wt L=(decide (wt≤t.wtOf L)&&t.keeps L)):=Lib.hid rfl;have HHIT:Hid (t.leastP wt L=true→t.leastGo wt (List.range' 1 t.words.length)=some L):=Lib.hid (fun hp=>HGO.out ▸ least_hit (by omega) hL j2 hp);have HCL:Hid (∀ W,Below Wb.heap.size Wb W→Calls Tryz.prog 121 #[.slice (some ⟨g,0,none⟩) k k] W fun e w'=>∃ g' c',e=.returned (.slice (some ⟨g',0,none⟩) k c')∧w'.ownsRow W.heap.size 3 1 (.slice (some ⟨g',0,none⟩) k c') L.length (L.map (Value.int .i64))∧Below W.heap.size W w'):=Lib.hid (fun W h=>by
    rcases hLb.below h with h0 | ⟨b,o,hp,hl,hc⟩
    ·subst h0;simp at hLm;omega
    ·cases hp;refine (Tryz.slices_Clone_int g 0 k k L W (by omega) (by omega) (fun j hj=>hc j hj)).mono ?_;rintro e w' ⟨v',rfl,hown,-,hb⟩;obtain ⟨g',c',rfl,-⟩:=hown.form (by omega);have ht:L.take k=L:=List.take_of_length_le (by omega);rw [ht] at hown;exact ⟨g',c',rfl,by rw [hLm];exact hown,hb⟩)
   have HWKb:=Lib.hid j1.wk;have HWTb:=Lib.hid j1.wb;have J1:=Lib.hid j1;have J2:=Lib.hid j2;have HLM:=Lib.hid hLm;clear j1 j2 hLg hLb hin hg i2 hs4;generalize t.wtOf L=x at HWT HP;generalize t.keeps L=kp at HKS HP
   gi_wp2_with fail
   by_cases hgt:wt≤x
   ·have HP1:Hid (t.leastP wt L=kp):=Lib.hid (by rw [HP.out,decide_eq_true hgt,Bool.true_and]);refine Rg.region_genI lq (by kernel_rfl) grR 10 [[],[],[0,1],[],[0,1,2,3],[0,1,2,3,4],[0,1,2,3,4,5],[0,1,2,3,4,5],[0,1,2,3,4,5,6,7],[0,1,2,3,4,5,6,7,8]] [some 20,some 21,some 22,some 23,some 24,some 25,some 26,some 27,some 28,some 29] (spLe1 t pw pt cw ct mv wt g k x kp) (by kernel_rfl) (by kernel_rfl) rfl (spLe1_stable _ _ _ _ _ _ _ _ _ _ _) ?_ ?_
    ·refine ⟨fun V w' hG hs=>?_,fun V w' hG hs=>?_,fun V w' hG hs=>?_,fun V w' hG hs=>?_,fun V w' hG hs=>?_,fun V w' hG hs=>?_,fun V w' hG hs=>?_,fun V w' hG hs=>?_,fun V w' hG hs=>?_,fun V w' hG hs=>?_,trivial⟩
     all_goals
      have hxk:=(hG.block w.heap.size (by omega)).trans HWKb.out;have k0:=blk_cells hxk 0 _ rfl;have k1:=blk_cells hxk 1 _ rfl;have k2:=blk_cells hxk 2 _ rfl;have k3:=blk_cells hxk 3 _ rfl;have kw:=blk_cells ((hG.block (w.heap.size+1) (by omega)).trans HWTb.out) 0 _ rfl
     ·rw [if_pos (by rfl)];exact Rg.GrowL.value (v:=.agg #[.slice pw t.words.length cw,.slice pt t.turns.length ct,.int .i64 t.breath,mv]) (w':=w') (by simp [go_sem,Rs.look,k0,k1,k2,k3]) (Rs.Gr.refl _) rfl
     ·rw [if_pos (by rfl)];exact Rg.GrowL.value (v:=.slice (some ⟨g,0,none⟩) k k) (w':=w') (by simp [go_sem,Rs.look]) (Rs.Gr.refl _) rfl
     ·have e0:V 0=_:=hs 0 (by simp);have e1:V 1=_:=hs 1 (by simp);rw [if_pos (by rfl)];refine Rg.GrowL.call grR (f:=111) (args:=#[.agg #[.slice pw t.words.length cw,.slice pt t.turns.length ct,.int .i64 t.breath,mv],.slice (some ⟨g,0,none⟩) k k]) (by simp [go_sem,Rs.look,e0,e1]) ?_;refine (HWT.out w' hG).mono ?_;rintro e w2 ⟨rfl,hB2⟩;exact ⟨_,rfl,hB2,rfl⟩
     ·rw [if_pos (by rfl)];exact Rg.GrowL.value (v:=.int .i64 wt) (w':=w') (by simp [go_sem,Rs.look,kw]) (Rs.Gr.refl _) rfl
     ·have e0:V 0=_:=hs 0 (by simp);have e1:V 1=_:=hs 1 (by simp);have e2:V 2=_:=hs 2 (by simp);have e3:V 3=_:=hs 3 (by simp);rw [if_pos (by rfl)];exact Rg.GrowL.value (v:=.bool true) (w':=w') (by simp [go_sem,Rs.look,e0,e1,e2,e3,hgt]) (Rs.Gr.refl _) rfl
     ·have e0:V 0=_:=hs 0 (by simp);have e1:V 1=_:=hs 1 (by simp);have e2:V 2=_:=hs 2 (by simp);have e3:V 3=_:=hs 3 (by simp);have e4:V 4=_:=hs 4 (by simp);rw [if_pos (by rfl)];exact Rg.GrowL.value (v:=.bool true) (w':=w') (by simp [go_sem,Rs.look,e0,e1,e2,e3,e4]) (Rs.Gr.refl _) rfl
     ·have e0:V 0=_:=hs 0 (by simp);have e1:V 1=_:=hs 1 (by simp);have e2:V 2=_:=hs 2 (by simp);have e3:V 3=_:=hs 3 (by simp);have e4:V 4=_:=hs 4 (by simp);have e5:V 5=_:=hs 5 (by simp);rw [if_pos (by simp [Rs.wantB,e5])];exact Rg.GrowL.value (v:=.agg #[.slice pw t.words.length cw,.slice pt t.turns.length ct,.int .i64 t.breath,mv]) (w':=w') (by simp [go_sem,Rs.look,e0,e1,e2,e3,e4,e5,k0,k1,k2,k3]) (Rs.Gr.refl _) rfl
     ·have e0:V 0=_:=hs 0 (by simp);have e1:V 1=_:=hs 1 (by simp);have e2:V 2=_:=hs 2 (by simp);have e3:V 3=_:=hs 3 (by simp);have e4:V 4=_:=hs 4 (by simp);have e5:V 5=_:=hs 5 (by simp);rw [if_pos (by simp [Rs.wantB,e5])];exact Rg.GrowL.value (v:=.slice (some ⟨g,0,none⟩) k k) (w':=w') (by simp [go_sem,Rs.look,e0,e1,e2,e3,e4,e5]) (Rs.Gr.refl _) rfl
     ·have e0:V 0=_:=hs 0 (by simp);have e1:V 1=_:=hs 1 (by simp);have e2:V 2=_:=hs 2 (by simp);have e3:V 3=_:=hs 3 (by simp);have e4:V 4=_:=hs 4 (by simp);have e5:V 5=_:=hs 5 (by simp);have e6:V 6=_:=hs 6 (by simp);have e7:V 7=_:=hs 7 (by simp);rw [if_pos (by simp [Rs.wantB,e5])];refine Rg.GrowL.call grR (f:=110) (args:=#[.agg #[.slice pw t.words.length cw,.slice pt t.turns.length ct,.int .i64 t.breath,mv],.slice (some ⟨g,0,none⟩) k k]) (by simp [go_sem,Rs.look,e6,e7]) ?_;refine (HKS.out w' hG).mono ?_;rintro e w2 ⟨rfl,hB2⟩;exact ⟨_,rfl,hB2,rfl⟩
     ·have e0:V 0=_:=hs 0 (by simp);have e1:V 1=_:=hs 1 (by simp);have e2:V 2=_:=hs 2 (by simp);have e3:V 3=_:=hs 3 (by simp);have e4:V 4=_:=hs 4 (by simp);have e5:V 5=_:=hs 5 (by simp);have e6:V 6=_:=hs 6 (by simp);have e7:V 7=_:=hs 7 (by simp);have e8:V 8=_:=hs 8 (by simp);rw [if_pos (by rfl)];exact Rg.GrowL.value (v:=.bool kp) (w':=w') (by simp [go_sem,Rs.look,e0,e1,e2,e3,e4,e5,e6,e7,e8]) (Rs.Gr.refl _) rfl
    ·intro V w' hG hs;have e0:V 0=_:=hs 0 (by omega);have e1:V 1=_:=hs 1 (by omega);have e2:V 2=_:=hs 2 (by omega);have e3:V 3=_:=hs 3 (by omega);have e4:V 4=_:=hs 4 (by omega);have e5:V 5=_:=hs 5 (by omega);have e6:V 6=_:=hs 6 (by omega);have e7:V 7=_:=hs 7 (by omega);have e8:V 8=_:=hs 8 (by omega);have e9:V 9=_:=hs 9 (by omega);simp only [Rs.canon,Rs.dstOf,List.range_succ,List.range_zero,List.nil_append,List.cons_append,List.foldl_cons,List.foldl_nil,List.drop_succ_cons,List.drop_zero,List.drop_nil,List.getElem?_toArray,List.getElem?_cons_succ,List.getElem?_cons_zero,Option.bind_some,Act.put,List.getD_cons_succ,List.getD_cons_zero,List.setIfInBounds_toArray,List.set_cons_succ,List.set_cons_zero];rw [e0,e1,e2,e3,e4,e5,e6,e7,e8,e9];clear e0 e1 e2 e3 e4 e5 e6 e7 e8 e9 hs;have hz9:=hG.size;have HG9:=Lib.hid hG;clear hG;cases kp with
     | false =>
      gi_wp2
      refine ⟨Hold.below HG9.out,J1.out.below (B:=Wb.heap.size) (by omega) (by omega) HG9.out,fun y hy=>?_,by omega⟩;rcases List.mem_append.1 hy with hy | hy
      ·exact J2.out y hy
      ·rw [List.mem_singleton.1 hy];exact HP1.out
     | true =>
      have hr4:=(HG9.out.block (w.heap.size+1+1) (by omega)).trans J1.out.r4;have hr5:=(HG9.out.block (w.heap.size+1+1+1) (by omega)).trans J1.out.r5
      gi_wp2_with fail
      refine ⟨trivial,(fun h=>by cases h),?_⟩;refine (callsIn_wide.2 (HCL.out _ HG9.out)).mono ?_;rintro e w9 ⟨g',c',rfl,hown,hb9⟩;have hs9:=hb9.size;have hr4':=(hb9.block (w.heap.size+1+1) (by omega)).trans hr4;have hr5':=(hb9.block (w.heap.size+1+1+1) (by omega)).trans hr5;have y4:=blk_cells hr4' 0 _ rfl;have y5:=blk_cells hr5' 0 _ rfl;have z4:w9.frozen? ⟨w.heap.size+1+1,0,none⟩=false:=by simp [World.frozen?,hr4']
      have z5:w9.frozen? ⟨w.heap.size+1+1+1,0,none⟩=false:=by simp [World.frozen?,hr5']
      have HR4:=Lib.hid hr4';have HR5:=Lib.hid hr5';have HO:=Lib.hid hown;have HB9:=Lib.hid hb9;clear hr4 hr5 hr4' hr5' hown hb9
      gi_wp2
      have g4:((w9.setCell ⟨w.heap.size+1+1,0,none⟩ (.slice (some ⟨g',0,none⟩) k c')).setCell ⟨w.heap.size+1+1+1,0,none⟩ (.int .i64 0)).heap[w.heap.size+1+1]?=some (.cells #[.slice (some ⟨g',0,none⟩) k c'] 34 (0,0)) :=
       (Below.heap_setCell _ _ _ _ (by simp)).trans (heap_set_same _ HR4.out)
      have g5:((w9.setCell ⟨w.heap.size+1+1,0,none⟩ (.slice (some ⟨g',0,none⟩) k c')).setCell ⟨w.heap.size+1+1+1,0,none⟩ (.int .i64 0)).heap[w.heap.size+1+1+1]?=some (.cells #[.int .i64 0] 35 (0,0)) :=
       heap_set_same _ ((Below.heap_setCell _ _ _ _ (by simp)).trans HR5.out)
      have hH:Hold (fun j=>j≠w.heap.size+1+1∧j≠w.heap.size+1+1+1) w9 ((w9.setCell ⟨w.heap.size+1+1,0,none⟩ (.slice (some ⟨g',0,none⟩) k c')).setCell ⟨w.heap.size+1+1+1,0,none⟩ (.int .i64 0)) :=
       Hold.trans (Hold.setCell _ _ _ (fun h=>h.1 rfl)) (Hold.setCell _ _ _ (fun h=>h.2 rfl))
      have hHb:=Hold.trans (Hold.below (join HG9.out HB9.out)) hH;refine ⟨hHb.mono (fun j hj _=>by rcases hj with h | h <;> omega),rfl,L,_,HHIT.out HP1.out,g4,g5,own_hold (own_base HO.out (by omega)) hH (fun j hj=>by omega),?_,J1.out.ends.keep (fun j h1 h2=>hHb.same j (by omega) (by omega)),by omega,by have:=hHb.size;omega⟩
      exact J1.out.bel.trans ((hHb.mono (fun j hj _=>(by omega:j≠w.heap.size+1+1∧j≠w.heap.size+1+1+1)):Hold (fun j=>j<w.heap.size) Wb _).to_below (by omega))
   ·have HP0:Hid (t.leastP wt L=false):=Lib.hid (by rw [HP.out,decide_eq_false hgt];rfl);refine Rg.region_genI lq (by kernel_rfl) grR 10 [[],[],[0,1],[],[0,1,2,3],[0,1,2,3,4],[0,1,2,3,4,5],[0,1,2,3,4,5],[0,1,2,3,4,5,6,7],[0,1,2,3,4,5,6,7,8]] [some 20,some 21,some 22,some 23,some 24,some 25,some 26,some 27,some 28,some 29] (spLe0 t pw pt cw ct mv wt g k x kp) (by kernel_rfl) (by kernel_rfl) rfl (spLe0_stable _ _ _ _ _ _ _ _ _ _ _) ?_ ?_
    ·refine ⟨fun V w' hG hs=>?_,fun V w' hG hs=>?_,fun V w' hG hs=>?_,fun V w' hG hs=>?_,fun V w' hG hs=>?_,fun V w' hG hs=>?_,fun V w' hG hs=>?_,fun V w' hG hs=>?_,fun V w' hG hs=>?_,fun V w' hG hs=>?_,trivial⟩
     all_goals
      have hxk:=(hG.block w.heap.size (by omega)).trans HWKb.out;have k0:=blk_cells hxk 0 _ rfl;have k1:=blk_cells hxk 1 _ rfl;have k2:=blk_cells hxk 2 _ rfl;have k3:=blk_cells hxk 3 _ rfl;have kw:=blk_cells ((hG.block (w.heap.size+1) (by omega)).trans HWTb.out) 0 _ rfl
     ·rw [if_pos (by rfl)];exact Rg.GrowL.value (v:=.agg #[.slice pw t.words.length cw,.slice pt t.turns.length ct,.int .i64 t.breath,mv]) (w':=w') (by simp [go_sem,Rs.look,k0,k1,k2,k3]) (Rs.Gr.refl _) rfl
     ·rw [if_pos (by rfl)];exact Rg.GrowL.value (v:=.slice (some ⟨g,0,none⟩) k k) (w':=w') (by simp [go_sem,Rs.look]) (Rs.Gr.refl _) rfl
     ·have e0:V 0=_:=hs 0 (by simp);have e1:V 1=_:=hs 1 (by simp);rw [if_pos (by rfl)];refine Rg.GrowL.call grR (f:=111) (args:=#[.agg #[.slice pw t.words.length cw,.slice pt t.turns.length ct,.int .i64 t.breath,mv],.slice (some ⟨g,0,none⟩) k k]) (by simp [go_sem,Rs.look,e0,e1]) ?_;refine (HWT.out w' hG).mono ?_;rintro e w2 ⟨rfl,hB2⟩;exact ⟨_,rfl,hB2,rfl⟩
     ·rw [if_pos (by rfl)];exact Rg.GrowL.value (v:=.int .i64 wt) (w':=w') (by simp [go_sem,Rs.look,kw]) (Rs.Gr.refl _) rfl
     ·have e0:V 0=_:=hs 0 (by simp);have e1:V 1=_:=hs 1 (by simp);have e2:V 2=_:=hs 2 (by simp);have e3:V 3=_:=hs 3 (by simp);rw [if_pos (by rfl)];exact Rg.GrowL.value (v:=.bool false) (w':=w') (by simp [go_sem,Rs.look,e0,e1,e2,e3,hgt]) (Rs.Gr.refl _) rfl
     ·have e0:V 0=_:=hs 0 (by simp);have e1:V 1=_:=hs 1 (by simp);have e2:V 2=_:=hs 2 (by simp);have e3:V 3=_:=hs 3 (by simp);have e4:V 4=_:=hs 4 (by simp);rw [if_pos (by rfl)];exact Rg.GrowL.value (v:=.bool false) (w':=w') (by simp [go_sem,Rs.look,e0,e1,e2,e3,e4]) (Rs.Gr.refl _) rfl
     ·have e0:V 0=_:=hs 0 (by simp);have e1:V 1=_:=hs 1 (by simp);have e2:V 2=_:=hs 2 (by simp);have e3:V 3=_:=hs 3 (by simp);have e4:V 4=_:=hs 4 (by simp);have e5:V 5=_:=hs 5 (by simp);rw [if_neg (by simp [Rs.wantB,e5])];rfl
     ·have e0:V 0=_:=hs 0 (by simp);have e1:V 1=_:=hs 1 (by simp);have e2:V 2=_:=hs 2 (by simp);have e3:V 3=_:=hs 3 (by simp);have e4:V 4=_:=hs 4 (by simp);have e5:V 5=_:=hs 5 (by simp);rw [if_neg (by simp [Rs.wantB,e5])];rfl
     ·have e0:V 0=_:=hs 0 (by simp);have e1:V 1=_:=hs 1 (by simp);have e2:V 2=_:=hs 2 (by simp);have e3:V 3=_:=hs 3 (by simp);have e4:V 4=_:=hs 4 (by simp);have e5:V 5=_:=hs 5 (by simp);have e6:V 6=_:=hs 6 (by simp);have e7:V 7=_:=hs 7 (by simp);rw [if_neg (by simp [Rs.wantB,e5])];rfl
     ·have e0:V 0=_:=hs 0 (by simp);have e1:V 1=_:=hs 1 (by simp);have e2:V 2=_:=hs 2 (by simp);have e3:V 3=_:=hs 3 (by simp);have e4:V 4=_:=hs 4 (by simp);have e5:V 5=_:=hs 5 (by simp);have e6:V 6=_:=hs 6 (by simp);have e7:V 7=_:=hs 7 (by simp);have e8:V 8=_:=hs 8 (by simp);rw [if_pos (by rfl)];exact Rg.GrowL.value (v:=.bool false) (w':=w') (by simp [go_sem,Rs.look,e0,e1,e2,e3,e4,e5,e6,e7,e8]) (Rs.Gr.refl _) rfl
    ·intro V w' hG hs;have e0:V 0=_:=hs 0 (by omega);have e1:V 1=_:=hs 1 (by omega);have e2:V 2=_:=hs 2 (by omega);have e3:V 3=_:=hs 3 (by omega);have e4:V 4=_:=hs 4 (by omega);have e5:V 5=_:=hs 5 (by omega);have e6:V 6=_:=hs 6 (by omega);have e7:V 7=_:=hs 7 (by omega);have e8:V 8=_:=hs 8 (by omega);have e9:V 9=_:=hs 9 (by omega);simp only [Rs.canon,Rs.dstOf,List.range_succ,List.range_zero,List.nil_append,List.cons_append,List.foldl_cons,List.foldl_nil,List.drop_succ_cons,List.drop_zero,List.drop_nil,List.getElem?_toArray,List.getElem?_cons_succ,List.getElem?_cons_zero,Option.bind_some,Act.put,List.getD_cons_succ,List.getD_cons_zero,List.setIfInBounds_toArray,List.set_cons_succ,List.set_cons_zero];rw [e0,e1,e2,e3,e4,e5,e6,e7,e8,e9];clear e0 e1 e2 e3 e4 e5 e6 e7 e8 e9 hs;have hz9:=hG.size;have HG9:=Lib.hid hG;clear hG
     gi_wp2
     refine ⟨Hold.below HG9.out,J1.out.below (B:=Wb.heap.size) (by omega) (by omega) HG9.out,fun y hy=>?_,by omega⟩;rcases List.mem_append.1 hy with hy | hy
     ·exact J2.out y hy
     ·rw [List.mem_singleton.1 hy];exact HP0.out
 ·obtain rfl:k=t.words.length+1:=by omega
  have hnone:t.leastGo wt (List.range' 1 t.words.length)=none:=by rw [← HGO.out,Nat.sub_self];rfl
  have HR4:=Lib.hid HA.out.r4;have HR5:=Lib.hid HA.out.r5;have c0:=blk_cells HA.out.r4 0 _ rfl;have c1:=blk_cells HA.out.r5 0 _ rfl;have z4:wr.frozen? ⟨w.heap.size+1+1,0,none⟩=false:=by simp [World.frozen?,HA.out.r4]
  have z5:wr.frozen? ⟨w.heap.size+1+1+1,0,none⟩=false:=by simp [World.frozen?,HA.out.r5]
  gi_wp2
  have g4:((wr.setCell ⟨w.heap.size+1+1,0,none⟩ (.slice none 0 0)).setCell ⟨w.heap.size+1+1+1,0,none⟩ (.int .i64 6)).heap[w.heap.size+1+1]?=some (.cells #[.slice none 0 0] 34 (0,0)) :=
   (Below.heap_setCell _ _ _ _ (by simp)).trans (heap_set_same _ HR4.out)
  have g5:((wr.setCell ⟨w.heap.size+1+1,0,none⟩ (.slice none 0 0)).setCell ⟨w.heap.size+1+1+1,0,none⟩ (.int .i64 6)).heap[w.heap.size+1+1+1]?=some (.cells #[.int .i64 6] 35 (0,0)) :=
   heap_set_same _ ((Below.heap_setCell _ _ _ _ (by simp)).trans HR5.out)
  have hH:Hold (fun j=>j≠w.heap.size+1+1∧j≠w.heap.size+1+1+1) wr ((wr.setCell ⟨w.heap.size+1+1,0,none⟩ (.slice none 0 0)).setCell ⟨w.heap.size+1+1+1,0,none⟩ (.int .i64 6)) :=
   Hold.trans (Hold.setCell _ _ _ (fun h=>h.1 rfl)) (Hold.setCell _ _ _ (fun h=>h.2 rfl))
  have hC:=HA.out.sz.2;refine leaves_ends (B:=w.heap.size+1+1+1+1) (by simp) _ C _ (HA.out.ends.keep (fun j h1 h2=>hH.same j (by omega) (by omega))) (by have:=hH.size;omega) (fun w' hh=>?_);have hsz:=hH.size;have d0:=blk_cells ((hh.same _ (by omega) (by omega)).trans g4) 0 _ rfl;have d1:=blk_cells ((hh.same _ (by omega) (by omega)).trans g5) 0 _ rfl;rw [least_none hnone];refine ⟨.tuple #[.slice none 0 0,.int .i64 6],by simp [results,Tryz.results73,go_sem,d0,d1],_,rfl,own_none _ _ _ _,?_⟩;exact HA.out.bel.trans (((hH.mono (fun j hj _=>(by omega:j≠w.heap.size+1+1∧j≠w.heap.size+1+1+1)):Hold (fun j=>j<w.heap.size) wr _).trans (hh.mono (fun j hj _=>(by omega:j<w.heap.size+1+1+1+1)))).to_below (by omega))
end Go.Proofs.YtadnggecnjdhiaaGreat
namespace Go.Proofs.YtadnggecnjdhiaaGreat
open Go.RowKit Tx
attribute [local go_sem] Oper.semAt_some
def leaL (t:Text) (wt:Int):List Int:=if t.err=0 then (if wt<0 then [] else (t.least wt).1) else []
def leaE (t:Text) (wt:Int):Int:=if t.err=0 then (if wt<0 then 3 else (t.least wt).2) else t.err
set_option maxHeartbeats 800000 in
set_option maxRecDepth 100000 in
theorem Least_any (t:Text) (wt:Int) (hl1:t.words.length≤1000000) (hl2:t.turns.length≤1000000) (pw pt:Option Addr) (cw ct:Nat) (hcw:t.words.length≤cw∧cw≤maxLen) (w:World) (hW:TxAt w t pw pt) :
  Calls Tryz.prog 31 #[.agg #[.slice pw t.words.length cw,.slice pt t.turns.length ct,.int .i64 t.breath],.int .i64 wt] w (ListPost (leaL t wt) (leaE t wt) w):=by
 by_cases he:t.err=0
 ·have ok:=err_ok he;have HS:=Lib.hid (fun W (h:Below w.heap.size w W)=>open_ok t he pw pt cw ct W (hW.below h));by_cases hneg:wt<0
  ·have h1:leaL t wt=[]:=by unfold leaL;rw [if_pos he,if_pos hneg]
   have h2:leaE t wt=3:=by unfold leaE;rw [if_pos he,if_pos hneg]
   rw [h1,h2];clear hW he h1 h2 ok
   go_enter Tryz.func31,Tryz.ntmps31
   go_wp2_with fail
   refine (HS.out _ (below1 _ _)).mono ?_;rintro e w5 ⟨rfl,hB5⟩;have HB5:=Lib.hid (join (below1 _ _) hB5);clear hB5;go_wp2;go_ret2;exact ⟨_,rfl,own_none _ _ _ _,join HB5.out (below1 _ _)⟩
  ·have h1:leaL t wt=(t.least wt).1:=by unfold leaL;rw [if_pos he,if_neg hneg]
   have h2:leaE t wt=(t.least wt).2:=by unfold leaE;rw [if_pos he,if_neg hneg]
   rw [h1,h2];have HF:=Lib.hid (fun W (h:Below w.heap.size w W)=>least_any t pw pt cw ct (.func (.func 91) #[.agg #[.slice pw t.words.length cw,.slice pt t.turns.length ct,.int .i64 t.breath,.nilFunc]] #[]) wt W ⟨ok,hW.below h,hcw⟩);clear hW he h1 h2 ok
   go_enter Tryz.func31,Tryz.ntmps31
   go_wp2_with fail
   refine (HS.out _ (below1 _ _)).mono ?_;rintro e w5 ⟨rfl,hB5⟩;have HB5:=Lib.hid (join (below1 _ _) hB5);clear hB5;go_wp2_with fail
   refine (HF.out _ (join HB5.out (below1 _ _))).mono ?_;rintro e w6 ⟨v,rfl,hown,hB6⟩;have HO:=Lib.hid hown;have HB6:=Lib.hid hB6;clear hown hB6;go_wp2;go_ret2;have hz:=HB5.out.size;exact ⟨_,rfl,own_base HO.out (by simp;omega),join (join HB5.out (below1 _ _)) HB6.out⟩
 ·have h1:leaL t wt=[]:=if_neg he;have h2:leaE t wt=t.err:=if_neg he;rw [h1,h2];have HS:=Lib.hid (fun W (h:Below w.heap.size w W)=>open_bad t he hl1 hl2 pw pt cw ct W (hW.below h));have HE:(t.err != 0)=true:=by simpa using he
  clear hW he h1 h2;generalize t.err=er at HE HS ⊢
  go_enter Tryz.func31,Tryz.ntmps31
  go_wp2_with fail
  refine (HS.out _ (below1 _ _)).mono ?_;rintro e w5 ⟨rfl,hB5⟩;have HB5:=Lib.hid (join (below1 _ _) hB5);clear hB5;go_wp2;go_ret2;exact ⟨_,rfl,own_none _ _ _ _,join HB5.out (below1 _ _)⟩
end Go.Proofs.YtadnggecnjdhiaaGreat
namespace Go.Proofs.YtadnggecnjdhiaaGreat
open Go.RowKit Tx Go.Maps
theorem und_intM:Tryz.prog.underlying 3=some (.int .i64):=by kernel_rfl
theorem keyed_int:Keyed Tryz.prog 3:=int_keyed und_intM
def MapIs (w:World) (b N:Nat) (C:Int→Int):Prop :=
 ∃ (cnt:Nat) (D:DataW Unit),cnt≤N∧w.ownsMap Tryz.prog 3 (plainElem Tryz.prog 3) b cnt D∧IsMap D∧∀ k,D.atKey (.int .i64 k) (.lit (.int .i64 0))=.lit (.int .i64 (C k))
theorem und_map:Tryz.prog.underlying 127=some (.map 3 3):=by kernel_rfl
theorem zero_int (w:World):(zeroValue 3).run Tryz.prog w=.ok (.int .i64 0) w:=by kernel_rfl
theorem wf_i64 {a:Int} (h:-9223372036854775808≤a∧a≤9223372036854775807):(Lit.int .i64 a).wf=true:=by
 simp only [Lit.wf,Bool.and_eq_true,decide_eq_true_eq];have h1:IntKind.i64.min=-9223372036854775808:=by rfl
 have h2:IntKind.i64.max=9223372036854775807:=by rfl
 omega
theorem MapIs.new (w:World):MapIs (w.alloc (.map #[] 0)) w.heap.size 0 (fun _=>0) :=
 ⟨0,.map [],Nat.le_refl _,World.ownsMap_made _ _ _ _,isMap_empty,fun k=>rfl⟩
set_option maxRecDepth 100000 in
theorem MapIs.look {w:World} {b N:Nat} {C:Int→Int} (h:MapIs w b N C) {k:Int} (hk:-9223372036854775808≤k∧k≤9223372036854775807):(Instr.lookup 127 (.map (some b)) (.int .i64 k) false).run Tryz.prog w=.ok (.int .i64 (C k)) w:=by
 obtain ⟨cnt,D,_,hown,_,hC⟩:=h;obtain ⟨c,hrun,hat,_⟩:=hown.lookup_int keyed_int und_map und_intM (zero_int w) (keyOf_int_mk und_intM (wf_i64 hk));have he:=(hC k).symm.trans hat;injection he with he;injection he with _ he;rw [hrun,he]
theorem MapIs.upd {w:World} {b N:Nat} {C:Int→Int} (h:MapIs w b N C) (hN:N≤1000000) {k v:Int} (hk:-9223372036854775808≤k∧k≤9223372036854775807) (hv:-9223372036854775808≤v∧v≤9223372036854775807) :
  ∃ w',(Instr.mapUpdate 127 (.map (some b)) (.int .i64 k) (.int .i64 v)).run Tryz.prog w=.ok () w'∧MapIs w' b (N+1) (fun q=>if q=k then v else C q)∧w.grownBy w' (some b):=by
 obtain ⟨cnt,D,hcn,hown,hm,hC⟩:=h;obtain ⟨w',hrun,hown',hg⟩:=hown.update keyed_int und_map (by unfold maxLen;omega) (keyOf_int_mk und_intM (wf_i64 hk)) (plainElem_int und_intM (wf_i64 hv));refine ⟨w',hrun,⟨cnt+1,_,by omega,hown',?_,fun q=>?_⟩,hg⟩
 ·obtain ⟨es,rfl⟩:=hm;exact ⟨_,rfl⟩
 ·by_cases hq:q=k
  ·subst hq;rw [atKey_put_same hm (by trivial)];simp
  ·rw [atKey_put_other (by intro e;injection e with _ e;exact hq e),hC];simp [hq]
theorem MapIs.hold {Kp:Nat→Prop} {w w':World} {b N:Nat} {C:Int→Int} (h:MapIs w b N C) (hh:Hold Kp w w') (hb:Kp b):MapIs w' b N C:=by
 obtain ⟨cnt,D,hcn,⟨es,clock,h1,h2⟩,hm,hC⟩:=h;exact ⟨cnt,D,hcn,⟨es,clock,(hh.same b hb (Array.getElem?_eq_some_iff.1 h1).1).trans h1,h2⟩,hm,hC⟩
theorem MapIs.lt {w:World} {b N:Nat} {C:Int→Int} (h:MapIs w b N C):b<w.heap.size:=by
 obtain ⟨cnt,D,hcn,⟨es,clock,h1,h2⟩,hm,hC⟩:=h;exact (Array.getElem?_eq_some_iff.1 h1).1
theorem MapIs.congr {w:World} {b N:Nat} {C C':Int→Int} (h:MapIs w b N C) (e:∀ k,C k=C' k):MapIs w b N C':=by
 rw [show C'=C from funext fun k=>(e k).symm];exact h
theorem hold_grown {w w':World} {b:Nat} (h:w.grownBy w' (some b)):Hold (fun k=>k≠b) w w':=⟨h.os,h.tape,h.output,h.size,fun k hk hl=>h.block k hl (fun e=>hk (by cases e;rfl))⟩
theorem many_fuel (may:Nat→Nat→Bool) (n:Nat):∀ (f g a:Nat),a≤n→n+1-a≤f→n+1-a≤g→many may n f a=many may n g a
 | 0,_,a,h,h1,_=>by omega
 | _+1,0,a,h,_,h2=>by omega
 | f+1,g+1,a,h,h1,h2=>by
  rw [many,many];by_cases ha:a=n
  ·rw [if_pos ha,if_pos ha]
  ·rw [if_neg ha,if_neg ha]
   congr 1
   apply List.map_congr_left;intro b hb;unfold brs at hb;have:=(List.mem_filter.1 hb).1;rw [List.mem_range'_1] at this;exact many_fuel may n f g b (by omega) (by omega) (by omega)
theorem count_end (may:Nat→Nat→Bool) (n:Nat):count may n n=1:=by
 unfold count;rw [show n+1-n=0+1 by omega,many,if_pos rfl]
theorem count_row (may:Nat→Nat→Bool) {n a:Nat} (h:a<n):count may n a=((brs may n a).map (count may n)).sum:=by
 unfold count;rw [show n+1-a=(n-a)+1 by omega,many,if_neg (by omega)]
 congr 1
 apply List.map_congr_left;intro b hb;unfold brs at hb;have:=(List.mem_filter.1 hb).1;rw [List.mem_range'_1] at this;exact many_fuel may n _ _ b (by omega) (by omega) (by omega)
theorem sum_le (l:List Nat) (M:Nat) (h:∀ x∈l,x≤M):l.sum≤l.length*M:=by
 induction l with
 | nil=>simp
 | cons x l ih =>
  have:=h x (by simp);have:=ih (fun y hy=>h y (by simp [hy]));rw [List.sum_cons,List.length_cons,Nat.succ_mul];omega
theorem many_le (may:Nat→Nat→Bool) {n:Nat} (hn:n≤12):∀ f a,many may n f a≤13 ^ f
 | 0,_=>by simp [many]
 | f+1,a=>by
  rw [many];split
  ·exact Nat.one_le_pow _ _ (by omega)
  ·have h1:=sum_le ((brs may n a).map (many may n f)) (13 ^ f) (fun x hx=>by
    obtain ⟨b,_,rfl⟩:=List.mem_map.1 hx;exact many_le may hn f b)
   have h2:((brs may n a).map (many may n f)).length≤12:=by
    rw [List.length_map];unfold brs;exact Nat.le_trans (List.length_filter_le _ _) (by simp;omega)
   rw [Nat.pow_succ];have h3:((brs may n a).map (many may n f)).length*13 ^ f≤12*13 ^ f:=Nat.mul_le_mul_right _ h2;omega
theorem count_le (may:Nat→Nat→Bool) {n:Nat} (hn:n≤12) (a:Nat):count may n a≤302875106592253:=by
 unfold count;refine Nat.le_trans (many_le may hn _ a) ?_;exact Nat.le_trans (Nat.pow_le_pow_right (by omega) (show n+1-a≤13 by omega)) (by decide)
end Go.Proofs.YtadnggecnjdhiaaGreat
namespace Go.Proofs.YtadnggecnjdhiaaGreat
open Go.RowKit Tx
attribute [local go_sem] Oper.semAt_some
def cntTo (may:Nat→Nat→Bool) (n k:Nat) (q:Int):Int:=if (k:Int)≤q∧q≤n then (count may n q.toNat:Int) else 0
def cntMid (may:Nat→Nat→Bool) (n k:Nat) (pre:List Nat) (q:Int):Int:=if q=k then (((pre.map (count may n)).sum:Nat):Int) else cntTo may n (k+1) q
structure RdC (n cw:Nat) (pw:Option Addr) (v1 v2 mv:Value) (w W:World) (Mv N:Nat) (Cf:Int→Int) (C:Nat) (ds:List Deferred):Prop where
 wk:W.heap[w.heap.size]?=some (.cells #[.slice pw n cw,v1,v2,mv] 84 (0,0))
 mp:MapIs W (w.heap.size+1) N Cf
 mb:W.heap[Mv]?=some (.cells #[.map (some (w.heap.size+1))] 127 (0,0))
 bel:Below w.heap.size w W
 ends:Ends (Mv+1) W C ds
 sz:w.heap.size+1<Mv∧Mv+1≤W.heap.size∧C≤W.heap.size
theorem RdC.below {n cw:Nat} {pw:Option Addr} {v1 v2 mv:Value} {w W W':World} {Mv N:Nat} {Cf:Int→Int} {C:Nat} {ds:List Deferred} (h:RdC n cw pw v1 v2 mv w W Mv N Cf C ds) {B:Nat} (h3:Mv+1≤B) (hC:C≤B) (hB:Below B W W'):RdC n cw pw v1 v2 mv w W' Mv N Cf C ds :=
 have hs:=h.sz
 ⟨(hB.block _ (by omega)).trans h.wk,h.mp.hold (Kp:=fun k=>k<B) (.of_below hB (fun _ h _=>h)) (by omega),(hB.block _ (by omega)).trans h.mb,h.bel.trans (hB.mono (by omega)),h.ends.keep (fun k _ hk=>hB.block k (by omega)),
  ⟨hs.1,Nat.le_trans hs.2.1 hB.size,Nat.le_trans hs.2.2 hB.size⟩⟩
theorem RdC.hold {n cw:Nat} {pw:Option Addr} {v1 v2 mv:Value} {w W W':World} {Mv N N':Nat} {Cf Cf':Int→Int} {C:Nat} {ds:List Deferred} (h:RdC n cw pw v1 v2 mv w W Mv N Cf C ds) {b:Nat} (hb:w.heap.size+1≤b) (hbM:b≠Mv) (hbC:b≤Mv∨C≤b) (hH:Hold (fun k=>k≠b) W W') (hm:MapIs W' (w.heap.size+1) N' Cf'):RdC n cw pw v1 v2 mv w W' Mv N' Cf' C ds :=
 have hs:=h.sz
 ⟨(hH.same _ (by omega) (by omega)).trans h.wk,hm,(hH.same _ (by omega) (by omega)).trans h.mb,h.bel.trans ((hH.mono (fun k hk _=>by omega):Hold (fun k=>k<w.heap.size) W W').to_below (by omega)),h.ends.keep (fun k h1 hk=>hH.same k (by omega) (by omega)),
  ⟨hs.1,Nat.le_trans hs.2.1 hH.size,Nat.le_trans hs.2.2 hH.size⟩⟩
def rdMeas (a:Act) (w:World):Nat:=match w.cell? (match a.tmps.getD 4 undef with | .pointer (some p)=>p | _=>⟨0,0,none⟩) with | some v=>(intOf v+1).toNat | none=>0
theorem rdMeas_eq {a:Act} {w:World} {fb:Nat} {i:Int} (h1:a.tmps.getD 4 undef=.pointer (some ⟨fb,0,none⟩)) (h2:w.cell? ⟨fb,0,none⟩=some (.int .i64 i)):rdMeas a w=(i+1).toNat:=by
 unfold rdMeas;rw [h1];simp only;rw [h2];rfl
set_option maxHeartbeats 2000000 in
set_option maxRecDepth 100000 in
theorem readings_any (may:Nat→Nat→Bool) (n cw:Nat) (hn1:1≤n) (hn:n≤12) (pw:Option Addr) (v1 v2 mv:Value) (w:World) (hMay:MayAt mv may n (fun k=>k<w.heap.size) w) :
  Calls Tryz.prog 82 #[.agg #[.slice pw n cw,v1,v2,mv]] w fun e w'=>e=.returned (.map (some (w.heap.size+1)))∧(∃ N,N≤1000000∧MapIs w' (w.heap.size+1) N (cntTo may n 0))∧Below w.heap.size w w':=by
 have HMAY:=Lib.hid hMay;have hmm:=@run_makeMap Tryz.prog;clear hMay;obtain ⟨m,hm9⟩:∃ m:Nat,9≤m:=⟨9,Nat.le_refl _⟩;refine (callsIn_wide (n:=m)).1 ?_;refine callsIn_of_wp_marks Tryz.func82 rfl trivial ?_ rfl;simp only [Tryz.ntmps82,List.size_toArray,List.length_cons,List.length_nil,Nat.reduceAdd,Nat.reduceSub,Array.replicate_succ,Array.replicate_zero,List.push_toArray,List.append_toArray,List.nil_append,List.cons_append]
 gi_wp2_with fail
 refine ⟨trivial,(fun h=>by cases h),?_⟩;refine (callsIn_wide.2 (end_any _ _ _ _ _ _ _)).mono ?_;rintro e w' ⟨rfl,hw1⟩;have hB1:Below w.heap.size w w':=by rw [← hw1];exact ((below1 _ _).alloc (by simp) _).alloc (by simp;omega) _
 have hz1:w'.heap.size=w.heap.size+3:=by rw [← hw1];simp
 have hx1:w'.heap[w.heap.size]?=some (.cells #[.slice pw n cw,v1,v2,mv] 84 (0,0)):=by
  rw [← hw1,Below.heap_alloc _ _ _ (by first | (simp;done) | (simp;omega)),Below.heap_alloc _ _ _ (by simp)];exact heap_last _ _
 have hm1:MapIs w' (w.heap.size+1) 0 (fun _=>0):=by
  have h0:=MapIs.new (w.alloc (.cells #[.slice pw n cw,v1,v2,mv] 84));rw [World.size_alloc] at h0;rw [← hw1];exact h0.hold (Kp:=fun _=>True) (.below (below1 _ _)) trivial
 clear hw1;obtain ⟨w2,hup,hm2,hg2⟩:=hm1.upd (k:=(n:Int)) (v:=1) (by omega) (by omega) (by omega);have hG2:=hold_grown hg2;have hB2:Below w.heap.size w w2:=hB1.grown hg2 hB1.size (fun k hk=>by cases hk;omega);have hx2:=(hG2.same w.heap.size (by omega) (by omega)).trans hx1;have hz2:w.heap.size+3≤w2.heap.size:=by have:=hG2.size;omega
 have k0:=blk_cells hx2 0 _ rfl;have k1:=blk_cells hx2 1 _ rfl;have k2:=blk_cells hx2 2 _ rfl;have k3:=blk_cells hx2 3 _ rfl;have hs2:w.heap.size<w2.heap.size:=by omega
 have HX2:=Lib.hid hx2;have HB2:=Lib.hid hB2;have HM2:=Lib.hid hm2;clear hz1 hx1 hx2 hB1 hm1 hg2 hG2 hB2 hm2
 gi_wp2_with fail
 refine ⟨trivial,(fun h=>by cases h),?_⟩;refine (callsIn_wide.2 (end_any _ _ _ _ _ _ _)).mono ?_;rintro e w3 ⟨rfl,hw3⟩;obtain ⟨Mv,hMv⟩:∃ Mv,Mv=w2.heap.size:=⟨_,rfl⟩;have hB3:Below w2.heap.size w2 w3:=by rw [← hw3];exact (below1 _ _).alloc (by simp) _
 have hz3:w3.heap.size=Mv+2:=by rw [← hw3,hMv];simp
 have hmb3:w3.heap[Mv]?=some (.cells #[.map (some (w.heap.size+1))] 127 (0,0)):=by
  rw [← hw3,hMv,Below.heap_alloc _ _ _ (by simp)];exact heap_last _ _
 have hR3:RdC n cw pw v1 v2 mv w w3 Mv 1 (cntTo may n n) w3.heap.size []:=by
  refine ⟨(hB3.block _ (by omega)).trans HX2.out,?_,hmb3,HB2.out.trans (hB3.mono (by omega)),trivial,⟨by omega,by omega,Nat.le_refl _⟩⟩;refine (HM2.out.hold (Kp:=fun _=>True) (.below hB3) trivial).congr (fun q=>?_)
  show (if q=(n:Int) then (1:Int) else 0)=cntTo may n n q
  unfold cntTo;by_cases hq:q=(n:Int)
  ·subst hq;rw [if_pos rfl,if_pos ⟨Int.le_refl _,Int.le_refl _⟩];simp [count_end]
  ·rw [if_neg hq,if_neg (by omega)]
 rw [← hMv];have HMV:=Lib.hid hMv;have HZ3:=Lib.hid hz3;have HR3:=Lib.hid hR3;have hzM:w.heap.size+3≤Mv:=by omega
 obtain ⟨fb,hfb⟩:∃ fb,fb=w3.heap.size:=⟨_,rfl⟩;have hR4:=hR3.below (C:=w3.heap.size) (by omega) (Nat.le_refl _) (below1 w3 (.cells #[.int .i64 ((n:Int)-1)] 3));have hf4:=heap_last w3 (.cells #[.int .i64 ((n:Int)-1)] 3);clear hw3 hB3 hmb3 k0 k1 k2 k3 hMv hz3 hR3
 gi_wp2_with fail
 rw [← hfb] at hf4 ⊢;have hfbM:Mv<fb:=by have:=HZ3.out;omega
 have hCfb:w3.heap.size≤fb:=by omega
 clear hfb;refine wpIn_loop (fun a' w'=>∃ (k fb N:Nat) (ds:List Deferred) (u5 u13 u14 u15 u16 u17 u18 u19 u20 u21 u22 u23 u24 u25 u26 u27 u28 u29:Value),k≤n∧N≤1+12*(n-k)∧a'={ tmps:=#[.agg #[.slice pw n cw,v1,v2,mv],.pointer (some ⟨w.heap.size,0,none⟩),.map none,.pointer (some ⟨Mv,0,none⟩),.pointer (some ⟨fb,0,none⟩),u5,.map (some (w.heap.size+1)),.agg #[.slice pw n cw,v1,v2,mv],.int .i64 n,.map (some (w.heap.size+1)),.agg #[.slice pw n cw,v1,v2,mv],.int .i64 n,.int .i64 ((n:Int)-1),u13,u14,u15,u16,u17,u18,u19,u20,u21,u22,u23,u24,u25,u26,u27,u28,u29],defers:=ds }∧w'.heap[fb]?=some (.cells #[.int .i64 ((k:Int)-1)] 3 (0,0))∧Mv<fb∧∃ C,C≤fb∧RdC n cw pw v1 v2 mv w w' Mv N (cntTo may n k) C ds) rdMeas ⟨n,fb,1,[],_,_,_,_,_,_,_,_,_,_,_,_,_,_,_,_,_,_,Nat.le_refl _,by omega,rfl,hf4,hfbM,_,hCfb,hR4⟩ ?_;clear hR4 hf4;rintro a' wr ⟨k,fb,N,ds,u5,u13,u14,u15,u16,u17,u18,u19,u20,u21,u22,u23,u24,u25,u26,u27,u28,u29,hk,hN,rfl,hfc,hfM,C,hCf,hR⟩;have HR:=Lib.hid hR;have HM:=Lib.hid hmm;obtain ⟨hs1,hs2,hs3⟩:=hR.sz;have hfl:=(Array.getElem?_eq_some_iff.1 hfc).1;have c0:=blk_cells hR.wk 0 _ rfl;have c1:=blk_cells hR.wk 1 _ rfl;have c2:=blk_cells hR.wk 2 _ rfl;have c3:=blk_cells hR.wk 3 _ rfl;have hs0:w.heap.size<wr.heap.size:=by omega
 clear hR hmm;by_cases hk0:1≤k
 ·obtain ⟨a,rfl⟩:∃ a,k=a+1:=⟨k-1,by omega⟩;rw [show ((a+1:Nat):Int)-1=(a:Int) from by omega] at hfc;have d0:=blk_cells hfc 0 _ rfl;have HFC:=Lib.hid hfc;clear hfc
  gi_wp2_with fail
  refine ⟨trivial,(fun h=>by cases h),?_⟩;refine (callsIn_wide.2 (breaths_any _ _ _ _ _ _)).mono ?_;rintro e W4 ⟨rfl,hW4⟩;have hB4:Below wr.heap.size wr W4:=by rw [← hW4];exact (below1 _ _).alloc (by simp) _
  have hs4:W4.heap.size=wr.heap.size+2:=by rw [← hW4];simp
  have hC4:BrCap W4 n cw pw v1 v2 mv a (wr.heap.size+1) wr.heap.size:=by
   refine ⟨?_,?_⟩
   ·rw [← hW4];have:=heap_last (wr.alloc (Obj.cells #[Value.slice pw n cw,v1,v2,mv] 84)) (Obj.cells #[Value.int IntKind.i64 a] 3);rwa [World.size_alloc] at this
   ·rw [← hW4,Below.heap_alloc _ _ _ (by simp)];exact heap_last _ _
  have hM4:MayAt mv may n (fun j=>j≠w.heap.size+1∧j<W4.heap.size) W4 :=
   (HMAY.out.hold (.of_below (HR.out.bel.trans (hB4.mono (by omega))) (fun _ h _=>h))).mono (fun j hj _=>⟨by omega,by omega⟩)
  have hA4:=HR.out.below (B:=wr.heap.size) (by omega) (by omega) hB4;have hF4:W4.heap[fb]?=some (.cells #[.int .i64 a] 3 (0,0)):=(hB4.block fb hfl).trans HFC.out;have hst:cntTo may n (a+1)=cntMid may n a []:=by
   funext q
   unfold cntMid cntTo;by_cases hq:q=(a:Int)
   ·subst hq;rw [if_pos rfl,if_neg (by omega)];rfl
   ·rw [if_neg hq]
  rw [hst] at hA4;clear hW4 c0 c1 c2 c3 d0 hst
  gi_wp2_with fail
  refine range_of (gf:=143) (lb:=#[.pointer (some ⟨wr.heap.size+1,0,none⟩),.pointer (some ⟨wr.heap.size,0,none⟩)]) rfl (enters_of Tryz.func143 (by kernel_rfl) rfl)
   (breaths_seq (m-1) (fun j=>j≠w.heap.size+1) may n cw hn pw v1 v2 mv a _ _ (by omega) W4 ⟨by omega,by omega⟩ hC4 hM4) (Below.refl _ _) (fun x vs W h=>by rw [h];rfl)
   (fun pre W'=>(∃ N',N'≤N+pre.length∧RdC n cw pw v1 v2 mv w W' Mv N' (cntMid may n a pre) W4.heap.size ds)∧W'.heap[fb]?=some (.cells #[.int .i64 a] 3 (0,0))∧W4.heap.size≤W'.heap.size)
   (fun _ _ _=>False) ?rdI ?rdX ⟨⟨N,by simp,⟨hA4.wk,hA4.mp,hA4.mb,hA4.bel,hA4.ends.mono (by omega),⟨hA4.sz.1,hA4.sz.2.1,Nat.le_refl _⟩⟩⟩,hF4,Nat.le_refl _⟩ ?round ?done ?stop
  case rdI =>
   rintro s' X Y ⟨⟨N',hN',i1⟩,i2,i3⟩ hb;exact ⟨⟨N',hN',i1.below (by omega) (Nat.le_refl _) hb⟩,(hb.block fb (by omega)).trans i2,Nat.le_trans i3 hb.size⟩
  case rdX=>rintro c s' X Y h;exact h.elim
  case stop=>rintro D c pre W' hD h;exact h.elim
  case done =>
   rintro D W' hD ⟨⟨N',hN',i1⟩,i2,i3⟩ hK;have hDl:=(Array.getElem?_eq_some_iff.1 hK).1;have d0:=blk_cells i2 0 _ rfl;have hfW:fb<W'.heap.size:=by omega
   have hbl:(brs may n a).length≤12:=by unfold brs;exact Nat.le_trans (List.length_filter_le _ _) (by simp;omega)
   have hnext:cntMid may n a (brs may n a)=cntTo may n a:=by
    funext q
    unfold cntMid cntTo;by_cases hq:q=(a:Int)
    ·subst hq;rw [if_pos rfl,if_pos ⟨Int.le_refl _,by omega⟩,Int.toNat_natCast,count_row may (by omega)]
    ·rw [if_neg hq];by_cases h2:(a:Int)≤q∧q≤n
     ·rw [if_pos h2,if_pos (by omega)]
     ·rw [if_neg h2,if_neg (by omega)]
   rw [hnext] at i1;have I1:=Lib.hid i1;clear i1 hnext hA4 hC4 hM4 hF4
   gi_wp2
   have hz4:=HR.out.sz;have hW4:=I1.out.below (B:=W'.heap.size) (by omega) (by omega) (below1 W' (.cells #[.int .i64 ((a:Int)-1)] 3));have hlast:=heap_last W' (.cells #[.int .i64 ((a:Int)-1)] 3);refine ⟨⟨a,W'.heap.size,N',_,_,_,_,_,_,_,_,_,_,_,_,_,_,_,_,_,_,_,by omega,by omega,rfl,hlast,by omega,W'.heap.size,Nat.le_refl _,
    ⟨hW4.wk,hW4.mp,hW4.mb,hW4.bel,⟨D,rfl,by omega,hDl,(Below.heap_alloc _ _ _ hDl).trans hK,hW4.ends.mono (Nat.le_of_eq hD.symm)⟩,⟨hW4.sz.1,hW4.sz.2.1,by simp⟩⟩⟩,?_⟩
   rw [rdMeas_eq (fb:=W'.heap.size) (i:=(a:Int)-1) rfl (blk_cells hlast 0 _ rfl),rdMeas_eq (fb:=fb) (i:=(a:Int)) rfl (blk_cells HFC.out 0 _ rfl)];omega
  case round =>
   rintro lq pre b post vs W5 hl1 hl2-hL rfl ⟨i1,i2,i3⟩;have hb:a<b∧b≤n:=by
    have:b∈brs may n a:=by rw [hL];simp
    unfold brs at this;have:=(List.mem_filter.1 this).1;rw [List.mem_range'_1] at this;omega
   have hpl:pre.length≤12:=by
    have h1:(brs may n a).length≤12:=by unfold brs;exact Nat.le_trans (List.length_filter_le _ _) (by simp;omega)
    rw [hL] at h1;simp at h1;omega
   obtain ⟨hb1,hb2⟩:=hb;clear i1 i2 i3 hA4 hC4 hM4 hF4
   gi_wp2
   refine ⟨Below.refl _ _,?_⟩;rintro Wb hg hsz ⟨⟨N',hN',j1⟩,j2,j3⟩;obtain ⟨hsum1,hsum2⟩:0≤(((pre.map (count may n)).sum:Nat):Int)∧(((pre.map (count may n)).sum:Nat):Int)≤3634501279107036:=by
    have:=sum_le (pre.map (count may n)) 302875106592253 (fun x hx=>by obtain ⟨y,_,rfl⟩:=List.mem_map.1 hx;exact count_le may hn y);rw [List.length_map] at this;have h2:=Nat.mul_le_mul_right 302875106592253 hpl;omega
   have hcb:=count_le may hn b;have L1:=j1.mp.look (k:=(a:Int)) (by omega);have L2:=j1.mp.look (k:=(b:Int)) (by omega);have e1:cntMid may n a pre (a:Int)=(((pre.map (count may n)).sum:Nat):Int):=by unfold cntMid;rw [if_pos rfl]
   have e2:cntMid may n a pre (b:Int)=(count may n b:Int):=by unfold cntMid cntTo;rw [if_neg (by omega),if_pos (by omega)];simp
   rw [e1] at L1;rw [e2] at L2;have HNEW:=Lib.hid (show ∀ q:Int,(if q=(a:Int) then (((pre.map (count may n)).sum:Nat):Int)+(count may n b:Int) else cntMid may n a pre q)=cntMid may n a (pre++[b]) q from fun q=>by
    unfold cntMid;by_cases hq:q=(a:Int)
    ·rw [if_pos hq,if_pos hq,List.map_append,List.sum_append];simp
    ·rw [if_neg hq,if_neg hq,if_neg hq])
   generalize hS:(((pre.map (count may n)).sum:Nat):Int)=S at L1 hsum1 hsum2 HNEW;generalize hCb:count may n b=cb at L2 hcb HNEW;obtain ⟨w',hup,hm',hg'⟩:=j1.mp.upd (by omega) (k:=(a:Int)) (v:=S+(cb:Int)) (by omega) (by omega);have g0:=blk_cells j1.mb 0 _ rfl;have g1:=blk_cells j2 0 _ rfl;have hadd:IntKind.i64.wrap (S+(cb:Int))=S+(cb:Int):=IntWalk.i64_in _ (by omega);have J1:=Lib.hid j1;have J2:=Lib.hid j2;have HM':=Lib.hid hm';have HG':=Lib.hid hg';clear j1 j2 hg hm' hg' hS hCb e1 e2
   gi_wp2
   have hH:=hold_grown HG'.out;refine ⟨hH.mono (fun j hj _=>by rcases hj with h | h <;> omega),⟨N'+1,by simp;omega,J1.out.hold (b:=w.heap.size+1) (Nat.le_refl _) (by omega) (.inl (by omega)) hH (HM'.out.congr HNEW.out)⟩,(hH.same fb (by omega) (by omega)).trans J2.out,by have:=hH.size;omega⟩
 ·obtain rfl:k=0:=by omega
  have d0:=blk_cells hfc 0 _ rfl;have d1:=blk_cells HR.out.mb 0 _ rfl;clear c0 c1 c2 c3 hfc
  gi_wp2
  refine leaves_ends (B:=Mv+1) (by simp) _ C wr HR.out.ends (by omega) (fun w' hh=>?_);refine ⟨.map (some (w.heap.size+1)),by simp [results,Tryz.results82,go_sem],rfl,⟨N,by omega,HR.out.mp.hold hh (by omega)⟩,HR.out.bel.trans ((hh.to_below (by omega)).mono (by omega))⟩
end Go.Proofs.YtadnggecnjdhiaaGreat
namespace Go.Proofs.YtadnggecnjdhiaaGreat
open Go.RowKit Tx
def unbrTo (may:Nat→Nat→Bool) (n k:Nat):List Int:=((List.range' 1 (k-1)).filter (unbrP may n)).map Int.ofNat
theorem unbrTo_succ (may:Nat→Nat→Bool) (n:Nat) {k:Nat} (h:1≤k):unbrTo may n (k+1)=unbrTo may n k++(if unbrP may n k then [(k:Int)] else []):=by
 unfold unbrTo;rw [show k+1-1=(k-1)+1 by omega,List.range'_concat,List.filter_append,List.map_append,show 1+1*(k-1)=k by omega];cases hp:unbrP may n k <;> simp [hp]
theorem unbrTo_len (may:Nat→Nat→Bool) (n k:Nat):(unbrTo may n k).length≤k:=by
 unfold unbrTo;rw [List.length_map];exact Nat.le_trans (List.length_filter_le _ _) (by simp)
def spUb (pw:Option Addr) (n cw:Nat) (v1 v2 mv:Value) (BA:Array Value) (may:Nat→Nat→Bool) (B:Nat):Nat→List Value→Value→World→Prop
 | 0,_,v,_=>v=.agg #[.slice pw n cw,v1,v2,mv]
 | 1,_,v,_=>v=.agg BA
 | 2,_,v,_=>v=.agg #[.slice pw n cw,v1,v2,mv]
 | 3,L,v,w=>∃ Mb N,v=.map (some Mb)∧B<Mb∧MapIs w Mb N (cntTo may n 0)
 | 4,L,v,w=>∃ p,v=.pointer (some ⟨p,0,none⟩)∧B<p∧w.heap[p]?=some (.cells (arrOf (List.replicate 13 0)) 116 (0,0))
 | _,_,_,_=>False
theorem spUb_stable (pw:Option Addr) (n cw:Nat) (v1 v2 mv:Value) (BA:Array Value) (may:Nat→Nat→Bool) (B:Nat):∀ i L v w w',spUb pw n cw v1 v2 mv BA may B i L v w→Rs.Gr w w'→spUb pw n cw v1 v2 mv BA may B i L v w':=by
 intro i L v w w' h hg
 match i with
 | 0=>exact h
 | 1=>exact h
 | 2=>exact h
 | 3=>obtain ⟨Mb,N,h1,h2,h3⟩:=h;exact ⟨Mb,N,h1,h2,h3.hold (Kp:=fun _=>True) (.below hg) trivial⟩
 | 4=>obtain ⟨p,h1,h2,h3⟩:=h;exact ⟨p,h1,h2,(hg.block p (Array.getElem?_eq_some_iff.1 h3).1).trans h3⟩
set_option maxHeartbeats 2000000 in
set_option maxRecDepth 100000 in
theorem unbroken_any (may:Nat→Nat→Bool) (n cw:Nat) (hn1:1≤n) (hn:n≤12) (pw:Option Addr) (v1 v2 mv:Value) (w:World) (hMay:MayAt mv may n (fun k=>k<w.heap.size) w) :
  Calls Tryz.prog 83 #[.agg #[.slice pw n cw,v1,v2,mv]] w fun e w'=>∃ v,e=.returned (.tuple #[v,.int .i64 (Tx.unbroken may n).2])∧w'.ownsRow w.heap.size 3 1 v (Tx.unbroken may n).1.length ((Tx.unbroken may n).1.map (Value.int .i64))∧Below w.heap.size w w':=by
 obtain ⟨i0,hi0,hz0,hz1,hz2⟩:=info_parts A_infoI;have HMAY:=Lib.hid hMay;have HSM:=Lib.hid (greatest_small (may:=may) hn);clear hMay;have HX:=Lib.hid (heap_last w (.cells #[.slice pw n cw,v1,v2,mv] 84));have HB1:=Lib.hid (below1 w (.cells #[.slice pw n cw,v1,v2,mv] 84));have hzA:(w.alloc (.cells #[.slice pw n cw,v1,v2,mv] 84)).heap.size=w.heap.size+1:=by simp
 have hsz:(arrOf (greatest may n)).size=13:=by rw [arrOf_size];exact HSM.out.1
 have HI:=Lib.hid (size_marks hsz);have HON:=Lib.hid (arrOf_one (greatest may n));have HRE:=Lib.hid (fun W p (hp:p<13)=>reached_any (.slice pw n cw) v1 v2 mv (greatest may n) HSM.out.1 p hp W);obtain ⟨BA,hBA⟩:∃ BA,BA=arrOf (greatest may n):=⟨_,rfl⟩;rw [← hBA] at HI HON HRE hsz;have HBA:=Lib.hid hBA;have HSZ:=Lib.hid hsz;clear hsz
 go_enter Tryz.func83,Tryz.ntmps83
 go_wp2_with fail
 generalize hW1:w.alloc (.cells #[.slice pw n cw,v1,v2,mv] 84)=W1 at HX HB1 hzA ⊢;clear hW1;have HGR:=Lib.hid (fun W (h:Below W1.heap.size W1 W)=>greatest_any may n cw hn pw v1 v2 mv W ((HMAY.out.hold (.of_below (HB1.out.trans (h.mono (by omega))) (fun _ h _=>h))).mono (fun j hj _=>by have:=h.size;omega)));rw [← hBA] at HGR;have HRD:=Lib.hid (fun W (h:Below W1.heap.size W1 W)=>readings_any may n cw hn1 hn pw v1 v2 mv W ((HMAY.out.hold (.of_below (HB1.out.trans (h.mono (by omega))) (fun _ h _=>h))).mono (fun j hj _=>by have:=h.size;omega)));clear hBA;refine Rs.region_gen 5 [[],[0],[],[0,1,2],[]] [some 8,some 9,some 10,some 11,some 4] (spUb pw n cw v1 v2 mv BA may w.heap.size) (by kernel_rfl) (by kernel_rfl) rfl (spUb_stable _ _ _ _ _ _ _ _ _) ?_ ?_
 ·refine ⟨fun V w' hG hs=>?_,fun V w' hG hs=>?_,fun V w' hG hs=>?_,fun V w' hG hs=>?_,fun V w' hG hs=>?_,trivial⟩
  all_goals
   have hx:=(hG.block w.heap.size (by omega)).trans HX.out;have k0:=blk_cells hx 0 _ rfl;have k1:=blk_cells hx 1 _ rfl;have k2:=blk_cells hx 2 _ rfl;have k3:=blk_cells hx 3 _ rfl
  ·rw [if_pos (by rfl)];exact Rs.GrowL.value (v:=.agg #[.slice pw n cw,v1,v2,mv]) (w':=w') (by simp [go_sem,Rs.look,k0,k1,k2,k3]) (Rs.Gr.refl _) rfl
  ·have e0:V 0=_:=hs 0 (by simp);rw [if_pos (by rfl)];refine Rs.GrowL.call (f:=70) (args:=#[.agg #[.slice pw n cw,v1,v2,mv]]) (by simp [go_sem,Rs.look,e0]) ?_;refine (HGR.out w' hG).mono ?_;rintro e w2 ⟨rfl,hB2⟩;exact ⟨_,rfl,hB2,rfl⟩
  ·rw [if_pos (by rfl)];exact Rs.GrowL.value (v:=.agg #[.slice pw n cw,v1,v2,mv]) (w':=w') (by simp [go_sem,Rs.look,k0,k1,k2,k3]) (Rs.Gr.refl _) rfl
  ·have e0:V 0=_:=hs 0 (by simp);have e1:V 1=_:=hs 1 (by simp);have e2:V 2=_:=hs 2 (by simp);rw [if_pos (by rfl)];refine Rs.GrowL.call (f:=82) (args:=#[.agg #[.slice pw n cw,v1,v2,mv]]) (by simp [go_sem,Rs.look,e2]) ?_;refine (HRD.out w' hG).mono ?_;rintro e w2 ⟨rfl,⟨N,_,hm⟩,hB2⟩;exact ⟨_,rfl,hB2,_,N,rfl,by have:=hG.size;omega,hm⟩
  ·rw [if_pos (by rfl)];exact Rs.GrowL.value (v:=.pointer (some ⟨w'.heap.size,0,none⟩)) (w':=w'.alloc (.cells (arrOf (List.replicate 13 0)) 116)) (by simp [go_sem,Rs.look,arrOf]) (below1 _ _) ⟨_,rfl,by have:=hG.size;omega,heap_last _ _⟩
 ·intro V w' hG hs;have e0:V 0=_:=hs 0 (by omega);have e1:V 1=_:=hs 1 (by omega);have e2:V 2=_:=hs 2 (by omega);have r3:=hs 3 (by omega);have r4:=hs 4 (by omega);obtain ⟨Mb,N,e3,hMb,hmp⟩:=r3;obtain ⟨p,e4,hpB,hpz⟩:=r4;simp only [Rs.canon,Rs.dstOf,List.range_succ,List.range_zero,List.nil_append,List.cons_append,List.foldl_cons,List.foldl_nil,List.drop_succ_cons,List.drop_zero,List.drop_nil,List.getElem?_toArray,List.getElem?_cons_succ,List.getElem?_cons_zero,Option.bind_some,Act.put,List.getD_cons_succ,List.getD_cons_zero,List.setIfInBounds_toArray,List.set_cons_succ,List.set_cons_zero];rw [e0,e1,e2,e3,e4];clear e0 e1 e2 e3 e4 hs;have hthere:w'.there p 0 BA.size:=fun j hj=>by
   rw [HSZ.out] at hj;rw [Nat.zero_add,blk_cells hpz j _ (arrOf_get (by simp;omega))];exact ⟨by simp,by simp [World.frozen?,hpz]⟩
  have HTH:=Lib.hid hthere;have hpl:=(Array.getElem?_eq_some_iff.1 hpz).1;have hH5:Hold (fun j=>j≠p) w' (w'.setCells p 0 BA.toList):=hold_setCells _ _ _ _;have hm5:(w'.setCells p 0 BA.toList).heap[p]?=some (.cells BA 116 (0,0)):=by
   rw [heap_setCells _ _ _ _ _ _ _ hpz,setFrom_all _ _ (by rw [Array.length_toList,HSZ.out];simp [arrOf_size])]
  have hx5:=(hH5.same w.heap.size (by omega) (by have:=hG.size;omega)).trans ((hG.block w.heap.size (by omega)).trans HX.out);have hmpne:Mb≠p:=fun e=>by
   obtain ⟨cnt,D,_,⟨es,clock,h1,_⟩,_⟩:=hmp;rw [e,hpz] at h1;cases h1
  have hmp5:=hmp.hold hH5 hmpne;have hB5:Below w.heap.size w (w'.setCells p 0 BA.toList):=below_setCells' (by omega) _ _ _ (HB1.out.trans (hG.mono (by omega)));have hz5:w'.heap.size≤(w'.setCells p 0 BA.toList).heap.size:=hH5.size;have hgz:=hG.size;have hl0:=hmp5.look (k:=0) (by omega);have HM5:=Lib.hid hm5;have HX5:=Lib.hid hx5;have HMP5:=Lib.hid hmp5;have HB5:=Lib.hid hB5;have e0:cntTo may n 0 0=(count may n 0:Int):=by unfold cntTo;rw [if_pos ⟨by omega,by omega⟩];rfl
  rw [e0] at hl0;clear hthere hpz hH5 hm5 hx5 hmp hmp5 hB5 hG e0;have hUB:=show Tx.unbroken may n=if count may n 0=0 then ([],6) else (unbrTo may n n,0) from rfl;have HUB:=Lib.hid hUB;clear hUB;by_cases hc0:count may n 0=0
  ·have HC:=Lib.hid hc0;rw [hc0] at hl0;clear hc0;go_wp2_with (with_reducible refine wpList_store_mid rfl 116 _ _ rfl p 0 BA rfl rfl HTH.out HI.out HON.out ?_)
   go_ret2;exact ⟨_,by rw [HUB.out,if_pos HC.out];rfl,by rw [HUB.out,if_pos HC.out];exact own_none _ _ _ _,HB5.out⟩
  ·have HC:=Lib.hid hc0;have hc1:((count may n 0:Int) == 0)=false:=by rw [beq_eq_false_iff_ne];omega
   generalize count may n 0=cn at hl0 hc1;clear hc0;go_wp2_with (with_reducible refine wpList_store_mid rfl 116 _ _ rfl p 0 BA rfl rfl HTH.out HI.out HON.out ?_)
   generalize hW5:w'.setCells p 0 BA.toList=W5 at hl0 HM5 HX5 HMP5 HB5 hz5 ⊢;clear hW5 hl0
   go_loopw [6,7] (fun v u wr=>∃ k:Nat,1≤k∧k≤n∧u=.int .i64 k∧wr.ownsRow W5.heap.size 3 1 v (unbrTo may n k).length ((unbrTo may n k).map (Value.int .i64))∧Below W5.heap.size W5 wr) (fun _ u _=>n-(intOf u).toNat)
   case atStart=>exact ⟨1,Nat.le_refl _,hn1,rfl,own_none _ _ _ _,Below.refl _ _⟩
   case round =>
    obtain ⟨k,hk1,hkn,rfl,hown,hBr⟩:=hrel;have HO:=Lib.hid hown;have HBr:=Lib.hid hBr;have hzr:=hBr.size;have hMbl:=HMP5.out.lt;have hxr:=(hBr.block w.heap.size (by omega)).trans HX5.out;have HMr:=Lib.hid ((hBr.block p (by omega)).trans HM5.out);have HMPr:=Lib.hid (HMP5.out.hold (Kp:=fun _=>True) (.below hBr) trivial);have k0:=blk_cells hxr 0 _ rfl;have k1:=blk_cells hxr 1 _ rfl;have k2:=blk_cells hxr 2 _ rfl;have k3:=blk_cells hxr 3 _ rfl;have hs0:w.heap.size<wr.heap.size:=by omega
    have hlen:=unbrTo_len may n k;clear hown hBr;go_wp2_with fail
    refine (end_any _ _ _ _ _ _ _).mono ?_;rintro e w6 ⟨rfl,hw6⟩;have hB6:Below wr.heap.size wr w6:=by rw [← hw6];exact below1 _ _
    have hxr6:=(hB6.block w.heap.size hs0).trans hxr;have HMr6:=Lib.hid ((hB6.block p (by omega)).trans HMr.out);have HMP6:=Lib.hid (HMPr.out.hold (Kp:=fun _=>True) (.below hB6) trivial);have HO6:=Lib.hid (own_below HO.out hB6);have hz6:=hB6.size;have HB6:=Lib.hid (join HBr.out hB6);clear hw6 hB6 k0 k1 k2 k3;have k0:=blk_cells hxr6 0 _ rfl;have k1:=blk_cells hxr6 1 _ rfl;have k2:=blk_cells hxr6 2 _ rfl;have k3:=blk_cells hxr6 3 _ rfl;have hs6:w.heap.size<w6.heap.size:=by omega
    by_cases hlt:k<n
    ·have hlt':(k:Int)<n:=by omega
     have hre:=HRE.out w6 k (by omega);have HSUC:=Lib.hid (unbrTo_succ may n hk1);have HP:=Lib.hid (show unbrP may n k=(decide (99≤(greatest may n).getD k 0)||count may n k == 0) from rfl);have hcv:cntTo may n 0 (k:Int)=(count may n k:Int):=by unfold cntTo;rw [if_pos ⟨by omega,by omega⟩];simp
     have HCV:=Lib.hid hcv;generalize (greatest may n).getD k 0=gk at hre HP;have HREk:=Lib.hid hre;clear hre hcv;go_wp2_with (with_reducible refine wpList_load_row rfl 116 _ rfl p rfl 116 BA (0,0) _ HMr6.out und_marks rfl HI.out ?_)
     refine HREk.out.mono ?_;rintro e w7 ⟨rfl,hB7⟩;have HO7:=Lib.hid (own_below HO6.out hB7);have HMP7:=Lib.hid (HMP6.out.hold (Kp:=fun _=>True) (.below hB7) trivial);have hz7:=hB7.size;have HB7:=Lib.hid (join HB6.out hB7);have hlk:=HMP7.out.look (k:=(k:Int)) (by omega);rw [HCV.out] at hlk;clear hB7 k0 k1 k2 k3 hxr hxr6 HREk;by_cases hyes:(decide (99≤gk)||count may n k == 0)=true
     ·have hun:unbrTo may n (k+1)=unbrTo may n k++[(k:Int)]:=by rw [HSUC.out,HP.out,hyes];rfl
      have HUN:=Lib.hid hun;have hlen2:(unbrTo may n k).length≤12:=by omega
      generalize hUL:unbrTo may n k=UL at *;clear hun hUL;by_cases hg:gk<99
      ·have hgd:decide (gk<99)=true:=by simpa using hg
       have hcz:((count may n k:Int) == 0)=true:=by
        have:decide (99≤gk)=false:=by simp;omega
        rw [this] at hyes;simp at hyes;simp [hyes]
       rw [hgd];generalize (count may n k:Int)=ck at hlk hcz;clear hgd hyes;go_wp2_with (at_builtin;refine wpList_append_own _ rfl _ _ 34 rfl W5.heap.size 3 i0 (.int .i64 0) 1 8 A_undI hi0 hz0 hz1 hz2 rfl (by decide) _ _ _ rfl (HO7.out.alloc _) ⟨w7.heap.size,0,none⟩ 1 1 [.int .i64 (k:Int)] rfl rfl ?d1 ?d2 ?d3 ?d4 ?d5 ?_)
       case d1=>exact cell_one_new _ _ _
       case d2=>first | rfl | (intro u hu;simp at hu;subst hu;rfl)
       case d3=>unfold maxLen;omega
       case d4=>omega
       case d5=>first | omega | (simp;omega)
       intro v' w8 hown8 hgrow _;have hB8:=below_grown (al2 HB7.out (by omega) _) (HO7.out.alloc _) (Nat.le_refl _) (by simp;omega) hgrow;have HO8:=Lib.hid hown8;have HB8:=Lib.hid hB8;clear hgrow hown8 hB8 hlk;go_wp2;go_roundw
       case rel=>exact ⟨k+1,by omega,by omega,by go_num,by rw [HUN.out];simpa using HO8.out,HB8.out⟩
       case measure=>simp [intOf];omega
      ·have hgd:decide (gk<99)=false:=by simpa using hg
       rw [hgd];clear hgd hyes hlk;go_wp2_with (at_builtin;refine wpList_append_own _ rfl _ _ 34 rfl W5.heap.size 3 i0 (.int .i64 0) 1 8 A_undI hi0 hz0 hz1 hz2 rfl (by decide) _ _ _ rfl (HO7.out.alloc _) ⟨w7.heap.size,0,none⟩ 1 1 [.int .i64 (k:Int)] rfl rfl ?f1 ?f2 ?f3 ?f4 ?f5 ?_)
       case f1=>exact cell_one_new _ _ _
       case f2=>first | rfl | (intro u hu;simp at hu;subst hu;rfl)
       case f3=>unfold maxLen;omega
       case f4=>omega
       case f5=>first | omega | (simp;omega)
       intro v' w8 hown8 hgrow _;have hB8:=below_grown (al2 HB7.out (by omega) _) (HO7.out.alloc _) (Nat.le_refl _) (by simp;omega) hgrow;have HO8:=Lib.hid hown8;have HB8:=Lib.hid hB8;clear hgrow hown8 hB8;go_wp2;go_roundw
       case rel=>exact ⟨k+1,by omega,by omega,by go_num,by rw [HUN.out];simpa using HO8.out,HB8.out⟩
       case measure=>simp [intOf];omega
     ·have hno:(decide (99≤gk)||count may n k == 0)=false:=by simpa using hyes
      have hun:unbrTo may n (k+1)=unbrTo may n k:=by rw [HSUC.out,HP.out,hno];simp
      have HUN:=Lib.hid hun;have hgd:decide (gk<99)=true:=by
       simp only [Bool.or_eq_false_iff,decide_eq_false_iff_not] at hno;simp;omega
      have hcz:((count may n k:Int) == 0)=false:=by
       simp only [Bool.or_eq_false_iff] at hno;have:=hno.2;simp at this;simp [this]
      rw [hgd];generalize (count may n k:Int)=ck at hlk hcz;clear hgd hyes hno hun;go_wp2;go_roundw
      case rel=>exact ⟨k+1,by omega,by omega,by go_num,by rw [HUN.out];exact HO7.out,HB7.out⟩
      case measure=>simp [intOf];omega
    ·obtain rfl:k=n:=by omega
     clear k0 k1 k2 k3 hxr hxr6;go_wp2;go_ret2;have hz55:=HB5.out.size;exact ⟨_,by rw [HUB.out,if_neg HC.out];rfl,by rw [HUB.out,if_neg HC.out];exact own_base HO6.out hz55,HB5.out.trans (HB6.out.mono hz55)⟩
def nevL (t:Text):List Int:=if t.err=0 then (Tx.unbroken t.right t.words.length).1 else []
def nevE (t:Text):Int:=if t.err=0 then (Tx.unbroken t.right t.words.length).2 else t.err
set_option maxHeartbeats 800000 in
theorem Never_any (t:Text) (hl1:t.words.length≤1000000) (hl2:t.turns.length≤1000000) (pw pt:Option Addr) (cw ct:Nat) (hcw:t.words.length≤cw∧cw≤maxLen) (w:World) (hW:TxAt w t pw pt) :
  Calls Tryz.prog 35 #[.agg #[.slice pw t.words.length cw,.slice pt t.turns.length ct,.int .i64 t.breath]] w (ListPost (nevL t) (nevE t) w):=by
 by_cases he:t.err=0
 ·have ok:=err_ok he;have h1:nevL t=(Tx.unbroken t.right t.words.length).1:=if_pos he;have h2:nevE t=(Tx.unbroken t.right t.words.length).2:=if_pos he;rw [h1,h2];have HS:=Lib.hid (fun W (h:Below w.heap.size w W)=>open_ok t he pw pt cw ct W (hW.below h));have HF:=Lib.hid (fun W (h:Below w.heap.size w W)=>unbroken_any t.right t.words.length cw ok.n1 ok.n12 pw (.slice pt t.turns.length ct) (.int .i64 t.breath) _ W (right_may t pw pt cw ct .nilFunc W ⟨ok,hW.below h,hcw⟩));clear hW he h1 h2 ok
  go_enter Tryz.func35,Tryz.ntmps35
  go_wp2_with fail
  refine (HS.out _ (below1 _ _)).mono ?_;rintro e w5 ⟨rfl,hB5⟩;have HB5:=Lib.hid (join (below1 _ _) hB5);clear hB5;go_wp2_with fail
  refine (HF.out _ (join HB5.out (below1 _ _))).mono ?_;rintro e w6 ⟨v,rfl,hown,hB6⟩;have HO:=Lib.hid hown;have HB6:=Lib.hid hB6;clear hown hB6;go_wp2;go_ret2;have hz:=HB5.out.size;exact ⟨_,rfl,own_base HO.out (by simp;omega),join (join HB5.out (below1 _ _)) HB6.out⟩
 ·have h1:nevL t=[]:=if_neg he;have h2:nevE t=t.err:=if_neg he;rw [h1,h2];have HS:=Lib.hid (fun W (h:Below w.heap.size w W)=>open_bad t he hl1 hl2 pw pt cw ct W (hW.below h));have HE:(t.err != 0)=true:=by simpa using he
  clear hW he h1 h2;generalize t.err=er at HE HS ⊢
  go_enter Tryz.func35,Tryz.ntmps35
  go_wp2_with fail
  refine (HS.out _ (below1 _ _)).mono ?_;rintro e w5 ⟨rfl,hB5⟩;have HB5:=Lib.hid (join (below1 _ _) hB5);clear hB5;go_wp2;go_ret2;exact ⟨_,rfl,own_none _ _ _ _,join HB5.out (below1 _ _)⟩
def cntN (t:Text):Int:=if t.err=0 then (Tx.count t.right t.words.length 0:Int) else 0
set_option maxHeartbeats 800000 in
set_option maxRecDepth 100000 in
theorem Count_any (t:Text) (hl1:t.words.length≤1000000) (hl2:t.turns.length≤1000000) (pw pt:Option Addr) (cw ct:Nat) (hcw:t.words.length≤cw∧cw≤maxLen) (w:World) (hW:TxAt w t pw pt) :
  Calls Tryz.prog 34 #[.agg #[.slice pw t.words.length cw,.slice pt t.turns.length ct,.int .i64 t.breath]] w fun e w'=>e=.returned (.tuple #[.int .i64 (cntN t),.int .i64 t.err])∧Below w.heap.size w w':=by
 by_cases he:t.err=0
 ·have ok:=err_ok he;have h1:cntN t=(Tx.count t.right t.words.length 0:Int):=if_pos he;have hc0:cntTo t.right t.words.length 0 0=(Tx.count t.right t.words.length 0:Int):=by unfold cntTo;rw [if_pos ⟨by omega,by omega⟩];rfl
  rw [h1,he];have HS:=Lib.hid (fun W (h:Below w.heap.size w W)=>open_ok t he pw pt cw ct W (hW.below h));have HF:=Lib.hid (fun W (h:Below w.heap.size w W)=>readings_any t.right t.words.length cw ok.n1 ok.n12 pw (.slice pt t.turns.length ct) (.int .i64 t.breath) _ W (right_may t pw pt cw ct .nilFunc W ⟨ok,hW.below h,hcw⟩));have HC0:=Lib.hid hc0;clear hW he h1 ok hc0
  go_enter Tryz.func34,Tryz.ntmps34
  go_wp2_with fail
  refine (HS.out _ (below1 _ _)).mono ?_;rintro e w5 ⟨rfl,hB5⟩;have HB5:=Lib.hid (join (below1 _ _) hB5);clear hB5;go_wp2_with fail
  refine (HF.out _ (join HB5.out (below1 _ _))).mono ?_;rintro e w6 ⟨rfl,⟨N,_,hmp⟩,hB6⟩;have HB6:=Lib.hid hB6;have hlk:=hmp.look (k:=0) (by omega);rw [HC0.out,World.size_alloc] at hlk;clear hB6 hmp;obtain ⟨cv,hcv⟩:∃ cv,cv=(Tx.count t.right t.words.length 0:Int):=⟨_,rfl⟩;rw [← hcv] at hlk;have HCV:=Lib.hid hcv;clear hcv;go_wp2;go_ret2;exact ⟨by rw [← HCV.out];rfl,join (join HB5.out (below1 _ _)) HB6.out⟩
 ·have h1:cntN t=0:=if_neg he;rw [h1];have HS:=Lib.hid (fun W (h:Below w.heap.size w W)=>open_bad t he hl1 hl2 pw pt cw ct W (hW.below h));have HE:(t.err != 0)=true:=by simpa using he
  clear hW he h1;generalize t.err=er at HE HS ⊢
  go_enter Tryz.func34,Tryz.ntmps34
  go_wp2_with fail
  refine (HS.out _ (below1 _ _)).mono ?_;rintro e w5 ⟨rfl,hB5⟩;have HB5:=Lib.hid (join (below1 _ _) hB5);clear hB5;go_wp2;go_ret2;exact ⟨rfl,join HB5.out (below1 _ _)⟩
end Go.Proofs.YtadnggecnjdhiaaGreat
namespace Go.Proofs.YtadnggecnjdhiaaGreat
open Go.RowKit Tx
attribute [local go_sem] Oper.semAt_some
theorem ints_lit (W:World) (xs:List Int) (T:TypeId) (cs:Array Value) (hcs:cs=(xs.map (Value.int .i64)).toArray):Ints (W.alloc (.cells cs T)) (some ⟨W.heap.size,0,none⟩) xs:=by
 refine .inr ⟨_,0,rfl,by simp,fun i hi=>?_⟩;rw [Nat.zero_add];exact blk_cells (heap_last W _) i _ (by subst hcs;simp [hi])
theorem gate_few (g u:Nat) (W:World) (h:TxAt W (gateT 5) (some ⟨g,0,none⟩) (some ⟨u,0,none⟩)) :
  Calls Tryz.prog 29 #[.agg #[.slice (some ⟨g,0,none⟩) 8 8,.slice (some ⟨u,0,none⟩) 1 1,.int .i64 5]] W fun e w'=>∃ p c,e=.returned (.tuple #[.slice p 3 c,.int .i64 0])∧Ints w' p [2,4,2]∧Below W.heap.size W w':=by
 have e1:fewL (gateT 5)=[2,4,2]:=by kernel_rfl
 have e2:fewE (gateT 5)=0:=by kernel_rfl
 have hc:=Fewest_any (gateT 5) (by decide) (by decide) (some ⟨g,0,none⟩) (some ⟨u,0,none⟩) 8 1 ⟨by decide,by decide⟩ W h;rw [e1,e2] at hc;refine hc.mono ?_;rintro e w' ⟨v,rfl,hown,hb⟩;obtain ⟨p,c,rfl,hI,-⟩:=own_rd hown rfl;exact ⟨p,c,rfl,hI,hb⟩
theorem gate_never (g u:Nat) (W:World) (h:TxAt W (gateT 5) (some ⟨g,0,none⟩) (some ⟨u,0,none⟩)) :
  Calls Tryz.prog 35 #[.agg #[.slice (some ⟨g,0,none⟩) 8 8,.slice (some ⟨u,0,none⟩) 1 1,.int .i64 5]] W fun e w'=>∃ p c,e=.returned (.tuple #[.slice p 5 c,.int .i64 0])∧Ints w' p [1,3,4,5,7]∧Below W.heap.size W w':=by
 have e1:nevL (gateT 5)=[1,3,4,5,7]:=by kernel_rfl
 have e2:nevE (gateT 5)=0:=by kernel_rfl
 have hc:=Never_any (gateT 5) (by decide) (by decide) (some ⟨g,0,none⟩) (some ⟨u,0,none⟩) 8 1 ⟨by decide,by decide⟩ W h;rw [e1,e2] at hc;refine hc.mono ?_;rintro e w' ⟨v,rfl,hown,hb⟩;obtain ⟨p,c,rfl,hI,-⟩:=own_rd hown rfl;exact ⟨p,c,rfl,hI,hb⟩
theorem gate_least (g u:Nat) (W:World) (h:TxAt W (gateT 5) (some ⟨g,0,none⟩) (some ⟨u,0,none⟩)) :
  Calls Tryz.prog 31 #[.agg #[.slice (some ⟨g,0,none⟩) 8 8,.slice (some ⟨u,0,none⟩) 1 1,.int .i64 5],.int .i64 7] W fun e w'=>∃ p c,e=.returned (.tuple #[.slice p 2 c,.int .i64 0])∧Ints w' p [1,3]∧Below W.heap.size W w':=by
 have e1:leaL (gateT 5) 7=[1,3]:=by kernel_rfl
 have e2:leaE (gateT 5) 7=0:=by kernel_rfl
 have hc:=Least_any (gateT 5) 7 (by decide) (by decide) (some ⟨g,0,none⟩) (some ⟨u,0,none⟩) 8 1 ⟨by decide,by decide⟩ W h;rw [e1,e2] at hc;refine hc.mono ?_;rintro e w' ⟨v,rfl,hown,hb⟩;obtain ⟨p,c,rfl,hI,-⟩:=own_rd hown rfl;exact ⟨p,c,rfl,hI,hb⟩
theorem gate_count (g u:Nat) (W:World) (h:TxAt W (gateT 5) (some ⟨g,0,none⟩) (some ⟨u,0,none⟩)) :
  Calls Tryz.prog 34 #[.agg #[.slice (some ⟨g,0,none⟩) 8 8,.slice (some ⟨u,0,none⟩) 1 1,.int .i64 5]] W fun e w'=>e=.returned (.tuple #[.int .i64 1,.int .i64 0])∧Below W.heap.size W w':=by
 have e1:cntN (gateT 5)=1:=by kernel_rfl
 have e2:(gateT 5).err=0:=by kernel_rfl
 have hc:=Count_any (gateT 5) (by decide) (by decide) (some ⟨g,0,none⟩) (some ⟨u,0,none⟩) 8 1 ⟨by decide,by decide⟩ W h;rw [e1,e2] at hc;exact hc
theorem gate_wrong (g u:Nat) (p:Option Addr) (W:World) (h:TxAt W (gateT 5) (some ⟨g,0,none⟩) (some ⟨u,0,none⟩)) (hL:Ints W p [4,4]) :
  Calls Tryz.prog 36 #[.agg #[.slice (some ⟨g,0,none⟩) 8 8,.slice (some ⟨u,0,none⟩) 1 1,.int .i64 5],.slice p 2 2] W fun e w'=>e=.returned (.tuple #[.int .i64 1,.int .i64 2,.int .i64 0])∧Below W.heap.size W w':=by
 have e1:wrongGo (gateT 5) 0 0 [4,4]=(1,2,0):=by kernel_rfl
 have hc:=Wrong_ok (gateT 5) [4,4] (by kernel_rfl) (by decide) (some ⟨g,0,none⟩) (some ⟨u,0,none⟩) p 8 1 2 ⟨by decide,by decide⟩ W h hL;rw [e1] at hc;exact hc
theorem gate_astray7 (g u:Nat) (p:Option Addr) (W:World) (h:TxAt W (gateT 7) (some ⟨g,0,none⟩) (some ⟨u,0,none⟩)) (hL:Ints W p [4,2,2]) :
  Calls Tryz.prog 37 #[.agg #[.slice (some ⟨g,0,none⟩) 8 8,.slice (some ⟨u,0,none⟩) 1 1,.int .i64 5],.slice p 3 3] W fun e w'=>e=.returned (.tuple #[.int .i64 0,.agg #[.int .i64 1,.int .i64 2],.int .i64 0])∧Below W.heap.size W w':=by
 have e1:astrayGo (placesL [4,2,2]) 0 (gateT 7).turns=(0,1,2,0):=by kernel_rfl
 have hc:=Astray_in (gateT 7) [4,2,2] (by kernel_rfl) (by kernel_rfl) (by decide) (some ⟨g,0,none⟩) (some ⟨u,0,none⟩) p 8 1 3 ⟨by decide,by decide⟩ W h hL;rw [e1] at hc;exact hc
theorem gate_astray5 (g u:Nat) (p:Option Addr) (W:World) (h:TxAt W (gateT 5) (some ⟨g,0,none⟩) (some ⟨u,0,none⟩)) (hL:Ints W p [2,4,2]) :
  Calls Tryz.prog 37 #[.agg #[.slice (some ⟨g,0,none⟩) 8 8,.slice (some ⟨u,0,none⟩) 1 1,.int .i64 5],.slice p 3 3] W fun e w'=>e=.returned (.tuple #[.int .i64 0,.agg #[.int .i64 0,.int .i64 0],.int .i64 6])∧Below W.heap.size W w':=by
 have e1:astrayGo (placesL [2,4,2]) 0 (gateT 5).turns=(0,0,0,6):=by kernel_rfl
 have hc:=Astray_in (gateT 5) [2,4,2] (by kernel_rfl) (by kernel_rfl) (by decide) (some ⟨g,0,none⟩) (some ⟨u,0,none⟩) p 8 1 3 ⟨by decide,by decide⟩ W h hL;rw [e1] at hc;exact hc
theorem gate_shows (g u:Nat) (p:Option Addr) (W:World) (h:TxAt W (gateT 5) (some ⟨g,0,none⟩) (some ⟨u,0,none⟩)) (hL:Ints W p [0,1,1,1,1,1,2,2,3]) :
  Calls Tryz.prog 38 #[.agg #[.slice (some ⟨g,0,none⟩) 8 8,.slice (some ⟨u,0,none⟩) 1 1,.int .i64 5],.slice p 9 9] W fun e w'=>e=.returned (.tuple #[.int .i64 3,.int .i64 0])∧Below W.heap.size W w':=by
 have e1:shows (gateT 5) [0,1,1,1,1,1,2,2,3]=(3,0):=by kernel_rfl
 have hc:=Shows_in (gateT 5) [0,1,1,1,1,1,2,2,3] (by kernel_rfl) (by decide) (by decide) (some ⟨g,0,none⟩) (some ⟨u,0,none⟩) p 8 1 9 ⟨by decide,by decide⟩ W h hL;rw [e1] at hc;exact hc
set_option maxHeartbeats 4000000 in
set_option maxRecDepth 100000 in
theorem awake_any (w:World):Calls Tryz.prog 6 #[] w fun e w'=>e=.returned (.bool true)∧Below w.heap.size w w':=by
 go_enter Tryz.func6,Tryz.ntmps6
 go_wp2_with fail
 refine (Gate_any 5 _).mono ?_;rintro e w1 ⟨g1,u1,rfl,hT1,hB1⟩;have HT1:=Lib.hid hT1;have HB1:=Lib.hid hB1;clear hT1 hB1;go_wp2_with fail
 refine (gate_few _ _ _ HT1.out).mono ?_;rintro e w2 ⟨p1,c1,rfl,hI1,hB2⟩;have HI1:=Lib.hid hI1;have HB2:=Lib.hid hB2;clear hI1 hB2;go_wp2_with fail
 refine (Gate_any 5 _).mono ?_;rintro e w3 ⟨g3,u3,rfl,hT3,hB3⟩;have HT3:=Lib.hid hT3;have HB3:=Lib.hid hB3;clear hT3 hB3;go_wp2_with fail
 refine (gate_count _ _ _ HT3.out).mono ?_;rintro e w4 ⟨rfl,hB4⟩;have HB4:=Lib.hid hB4;clear hB4;go_wp2_with fail
 refine (Gate_any 5 _).mono ?_;rintro e w5 ⟨g5,u5,rfl,hT5,hB5⟩;have HT5:=Lib.hid hT5;have HB5:=Lib.hid hB5;clear hT5 hB5;go_wp2_with fail
 refine (gate_never _ _ _ HT5.out).mono ?_;rintro e w6 ⟨p2,c2,rfl,hI2,hB6⟩;have HI2:=Lib.hid hI2;have HB6:=Lib.hid hB6;clear hI2 hB6;go_wp2_with fail
 refine (Gate_any 5 _).mono ?_;rintro e w7 ⟨g7,u7,rfl,hT7,hB7⟩;have HT7:=Lib.hid hT7;have HB7:=Lib.hid hB7;clear hT7 hB7;go_wp2_with fail
 refine (gate_least _ _ _ HT7.out).mono ?_;rintro e w8 ⟨p3,c3,rfl,hI3,hB8⟩;have HI3:=Lib.hid hI3;have HB8:=Lib.hid hB8;clear hI3 hB8;go_wp2_with fail
 refine (Like_ints _ _ _ 3 [2,4,2] [2,4,2] true (by decide) _ (by decide) (by decide) (HI1.out.below (join (join (join (join (join (join (HB3.out) HB4.out) HB5.out) HB6.out) HB7.out) HB8.out) (below1 _ _))) (ints_lit _ _ _ _ rfl)).mono ?_;rintro e w9 ⟨rfl,hB9⟩;have HB9:=Lib.hid (join (below1 w8 (.cells #[.int .i64 2,.int .i64 4,.int .i64 2] 3)) hB9);clear hB9;go_wp2_with fail
 refine (Like_ints _ _ _ 5 [1,3,4,5,7] [1,3,4,5,7] true (by decide) _ (by decide) (by decide) (HI2.out.below (join (join (join (HB7.out) HB8.out) HB9.out) (below1 _ _))) (ints_lit _ _ _ _ rfl)).mono ?_;rintro e w10 ⟨rfl,hB10⟩;have HB10:=Lib.hid (join (below1 w9 (.cells #[.int .i64 1,.int .i64 3,.int .i64 4,.int .i64 5,.int .i64 7] 3)) hB10);clear hB10;go_wp2_with fail
 refine (Like_ints _ _ _ 2 [1,3] [1,3] true (by decide) _ (by decide) (by decide) (HI3.out.below (join (join (HB9.out) HB10.out) (below1 _ _))) (ints_lit _ _ _ _ rfl)).mono ?_;rintro e w11 ⟨rfl,hB11⟩;have HB11:=Lib.hid (join (below1 w10 (.cells #[.int .i64 1,.int .i64 3] 3)) hB11);clear hB11;clear HI1 HI2 HI3;go_wp2_with fail
 refine (Gate_any 5 _).mono ?_;rintro e w12 ⟨g12,u12,rfl,hT12,hB12⟩;have HT12:=Lib.hid hT12;have HB12:=Lib.hid hB12;clear hT12 hB12;go_wp2_with fail
 refine (gate_wrong _ _ _ _ (HT12.out.below (below1 _ _)) (ints_lit _ [4,4] _ _ rfl)).mono ?_;rintro e w13 ⟨rfl,hB13⟩;have HB13:=Lib.hid (join (below1 w12 (.cells #[.int .i64 4,.int .i64 4] 3)) hB13);clear hB13;go_wp2_with fail
 refine (Gate_any 7 _).mono ?_;rintro e w14 ⟨g14,u14,rfl,hT14,hB14⟩;have HT14:=Lib.hid hT14;have HB14:=Lib.hid hB14;clear hT14 hB14;go_wp2_with fail
 refine (gate_astray7 _ _ _ _ (HT14.out.below (below1 _ _)) (ints_lit _ [4,2,2] _ _ rfl)).mono ?_;rintro e w15 ⟨rfl,hB15⟩;have HB15:=Lib.hid (join (below1 w14 (.cells #[.int .i64 4,.int .i64 2,.int .i64 2] 3)) hB15);clear hB15;go_wp2_with fail
 refine (Gate_any 5 _).mono ?_;rintro e w16 ⟨g16,u16,rfl,hT16,hB16⟩;have HT16:=Lib.hid hT16;have HB16:=Lib.hid hB16;clear hT16 hB16;go_wp2_with fail
 refine (gate_shows _ _ _ _ (HT16.out.below (below1 _ _)) (ints_lit _ [0,1,1,1,1,1,2,2,3] _ _ rfl)).mono ?_;rintro e w17 ⟨rfl,hB17⟩;have HB17:=Lib.hid (join (below1 w16 (.cells #[.int .i64 0,.int .i64 1,.int .i64 1,.int .i64 1,.int .i64 1,.int .i64 1,.int .i64 2,.int .i64 2,.int .i64 3] 3)) hB17);clear hB17;go_wp2_with fail
 refine (Gate_any 5 _).mono ?_;rintro e w18 ⟨g18,u18,rfl,hT18,hB18⟩;have HT18:=Lib.hid hT18;have HB18:=Lib.hid hB18;clear hT18 hB18;go_wp2_with fail
 refine (gate_astray5 _ _ _ _ (HT18.out.below (below1 _ _)) (ints_lit _ [2,4,2] _ _ rfl)).mono ?_;rintro e w19 ⟨rfl,hB19⟩;have HB19:=Lib.hid (join (below1 w18 (.cells #[.int .i64 2,.int .i64 4,.int .i64 2] 3)) hB19);clear hB19;have hbx:=((join (join (join HB16.out HB17.out) HB18.out) HB19.out).block w15.heap.size (by simp)).trans (heap_last w15 (.cells #[.int .i64 1,.int .i64 2] 58));have y0:=blk_cells hbx 0 _ rfl;have y1:=blk_cells hbx 1 _ rfl;clear hbx;go_wp2;go_ret;exact ⟨rfl,join (join (join (join (join (join (join (join (join (join (join (join (join (join (join (join (join (join (join (HB1.out) HB2.out) HB3.out) HB4.out) HB5.out) HB6.out) HB7.out) HB8.out) HB9.out) HB10.out) HB11.out) HB12.out) HB13.out) HB14.out) HB15.out) (below1 _ _)) HB16.out) HB17.out) HB18.out) HB19.out⟩
end Go.Proofs.YtadnggecnjdhiaaGreat
namespace Go.Proofs.YtadnggecnjdhiaaGreat
open Go.RowKit Tx
theorem own_box {W:World} {B c:Nat} {e ty:TypeId} {size:Nat} {v:Value} {n:Nat} {xs:List Value} {cs:Array Value} (hc:W.heap[c]?=some (.cells cs ty (0,0))) (hT:ty≠e) (h:W.ownsRow B e size v n xs) (o:Nat) (x:Value):(W.setCell ⟨c,o,none⟩ x).ownsRow B e size v n xs:=by
 refine h.kept (grown_set W c o x) ?_;rcases h.2 with ⟨h1,_⟩ | ⟨g,cap,cur,h1,_,hg,_⟩
 ·exact .inl (by rw [h1];rfl)
 ·right;rw [h1];show some g≠some c;intro e2;injection e2 with e2;rw [e2,hc] at hg;injection hg with hg;injection hg with _ hg;exact hT hg
def lwSet (w:World) (c7 c8:Nat) (a0 a1 a2 b0 b1 b2:Value):World:=(((((w.setCell ⟨c7,0,none⟩ a0).setCell ⟨c7,1,none⟩ a1).setCell ⟨c7,2,none⟩ a2).setCell ⟨c8,0,none⟩ b0).setCell ⟨c8,1,none⟩ b1).setCell ⟨c8,2,none⟩ b2
theorem own_lwSet {w:World} {B c7 c8:Nat} {e t7 t8:TypeId} {size:Nat} {v:Value} {n:Nat} {xs:List Value} {cs7 cs8:Array Value} (h7:w.heap[c7]?=some (.cells cs7 t7 (0,0))) (h8:w.heap[c8]?=some (.cells cs8 t8 (0,0))) (hne:c7≠c8) (n7:t7≠e) (n8:t8≠e) (a0 a1 a2 b0 b1 b2:Value) (h:w.ownsRow B e size v n xs) :
  (lwSet w c7 c8 a0 a1 a2 b0 b1 b2).ownsRow B e size v n xs:=by
 have g1:=heap_set_same (o:=0) a0 h7;have g2:=heap_set_same (o:=1) a1 g1;have g3:=heap_set_same (o:=2) a2 g2;have k1:=(Below.heap_setCell w ⟨c7,0,none⟩ a0 c8 (Ne.symm hne)).trans h8;have k2:=(Below.heap_setCell _ ⟨c7,1,none⟩ a1 c8 (Ne.symm hne)).trans k1;have k3:=(Below.heap_setCell _ ⟨c7,2,none⟩ a2 c8 (Ne.symm hne)).trans k2;have k4:=heap_set_same (o:=0) b0 k3;have k5:=heap_set_same (o:=1) b1 k4;exact own_box k5 n8 (own_box k4 n8 (own_box k3 n8 (own_box g2 n7 (own_box g1 n7 (own_box h7 n7 h 0 a0) 1 a1) 2 a2) 0 b0) 1 b1) 2 b2
theorem lwSet_other {w:World} {c7 c8 k:Nat} (h7:k≠c7) (h8:k≠c8) (a0 a1 a2 b0 b1 b2:Value):(lwSet w c7 c8 a0 a1 a2 b0 b1 b2).heap[k]?=w.heap[k]?:=by
 unfold lwSet;rw [Below.heap_setCell _ _ _ _ h8,Below.heap_setCell _ _ _ _ h8,Below.heap_setCell _ _ _ _ h8,Below.heap_setCell _ _ _ _ h7,Below.heap_setCell _ _ _ _ h7,Below.heap_setCell _ _ _ _ h7]
theorem lwSet_7 {w:World} {c7 c8:Nat} {t7:TypeId} (hne:c7≠c8) {z0 z1 z2:Value} (h7:w.heap[c7]?=some (.cells #[z0,z1,z2] t7 (0,0))) (a0 a1 a2 b0 b1 b2:Value):(lwSet w c7 c8 a0 a1 a2 b0 b1 b2).heap[c7]?=some (.cells #[a0,a1,a2] t7 (0,0)):=by
 unfold lwSet;rw [Below.heap_setCell _ _ _ _ hne,Below.heap_setCell _ _ _ _ hne,Below.heap_setCell _ _ _ _ hne];exact heap_set_same _ (heap_set_same _ (heap_set_same _ h7))
theorem lwSet_8 {w:World} {c7 c8:Nat} {t8:TypeId} (hne:c7≠c8) {z0 z1 z2:Value} (h8:w.heap[c8]?=some (.cells #[z0,z1,z2] t8 (0,0))) (a0 a1 a2 b0 b1 b2:Value):(lwSet w c7 c8 a0 a1 a2 b0 b1 b2).heap[c8]?=some (.cells #[b0,b1,b2] t8 (0,0)):=by
 unfold lwSet;have h:(((w.setCell ⟨c7,0,none⟩ a0).setCell ⟨c7,1,none⟩ a1).setCell ⟨c7,2,none⟩ a2).heap[c8]?=some (.cells #[z0,z1,z2] t8 (0,0)):=by
  rw [Below.heap_setCell _ _ _ _ (Ne.symm hne),Below.heap_setCell _ _ _ _ (Ne.symm hne),Below.heap_setCell _ _ _ _ (Ne.symm hne)];exact h8
 exact heap_set_same _ (heap_set_same _ (heap_set_same _ h))
theorem lwSet_bel {B:Nat} {a w:World} {c7 c8:Nat} (h:Below B a w) (h7:B≤c7) (h8:B≤c8) (a0 a1 a2 b0 b1 b2:Value):Below B a (lwSet w c7 c8 a0 a1 a2 b0 b1 b2):=by
 unfold lwSet;exact belS (belS (belS (belS (belS (belS h h7) h7) h7) h8) h8) h8
structure LwT (t:Text) (A c7 c8:Nat) (pw pt p7 q7 p8 q8:Option Addr) (cw ct a7 b7 a8 b8:Nat) (W:World):Prop where
 prm:W.heap[A]?=some (.cells #[.slice pw t.words.length cw,.slice pt t.turns.length ct,.int .i64 t.breath] 25 (0,0))
 x7:W.heap[c7]?=some (.cells #[.slice p7 t.words.length a7,.slice q7 t.turns.length b7,.int .i64 t.breath] 25 (0,0))
 x8:W.heap[c8]?=some (.cells #[.slice p8 t.words.length a8,.slice q8 t.turns.length b8,.int .i64 t.breath] 32 (0,0))
 r0:TxAt W t pw pt
 r7:TxAt W t p7 q7
 r8:TxAt W t p8 q8
theorem LwT.below {t:Text} {A c7 c8:Nat} {pw pt p7 q7 p8 q8:Option Addr} {cw ct a7 b7 a8 b8:Nat} {W W':World} (h:LwT t A c7 c8 pw pt p7 q7 p8 q8 cw ct a7 b7 a8 b8 W) (hb:Below W.heap.size W W'):LwT t A c7 c8 pw pt p7 q7 p8 q8 cw ct a7 b7 a8 b8 W' :=
 ⟨(hb.block _ (Array.getElem?_eq_some_iff.1 h.prm).1).trans h.prm,(hb.block _ (Array.getElem?_eq_some_iff.1 h.x7).1).trans h.x7,(hb.block _ (Array.getElem?_eq_some_iff.1 h.x8).1).trans h.x8,h.r0.below hb,h.r7.below hb,h.r8.below hb⟩
theorem LwT.start {t:Text} {A c7 c8 B:Nat} {pw pt p7 q7 p8 q8:Option Addr} {cw ct a7 b7 a8 b8:Nat} {w w':World} (hA:w'.heap[A]?=some (.cells #[.slice pw t.words.length cw,.slice pt t.turns.length ct,.int .i64 t.breath] 25 (0,0))) (hA7:A≠c7) (hA8:A≠c8)
  (x7:w'.heap[c7]?=some (.cells #[.slice none 0 0,.slice none 0 0,.int .i64 0] 25 (0,0))) (x8:w'.heap[c8]?=some (.cells #[.slice none 0 0,.slice none 0 0,.int .i64 0] 32 (0,0)))
  (o1:w'.ownsRow B 61 3 (.slice p7 t.words.length a7) t.words.length (wcells t.words)) (o2:w'.ownsRow B 63 3 (.slice q7 t.turns.length b7) t.turns.length (tcells t.turns))
  (o3:w'.ownsRow B 80 3 (.slice p8 t.words.length a8) t.words.length (wcells t.words)) (o4:w'.ownsRow B 81 3 (.slice q8 t.turns.length b8) t.turns.length (tcells t.turns))
  (hT:TxAt w t pw pt) (hB:Below w.heap.size w w') (h7:w.heap.size≤c7) (h8:w.heap.size≤c8) :
  LwT t A c7 c8 pw pt p7 q7 p8 q8 cw ct a7 b7 a8 b8 (lwSet w' c7 c8 (.slice p7 t.words.length a7) (.slice q7 t.turns.length b7) (.int .i64 t.breath) (.slice p8 t.words.length a8) (.slice q8 t.turns.length b8) (.int .i64 t.breath)):=by
 have hne:c7≠c8:=fun e=>by rw [e,x8] at x7;injection x7 with h;injection h with _ h;cases h
 have e1:=own_lwSet x7 x8 hne (by decide) (by decide) (.slice p7 t.words.length a7) (.slice q7 t.turns.length b7) (.int .i64 t.breath) (.slice p8 t.words.length a8) (.slice q8 t.turns.length b8) (.int .i64 t.breath) o1;have e2:=own_lwSet x7 x8 hne (by decide) (by decide) (.slice p7 t.words.length a7) (.slice q7 t.turns.length b7) (.int .i64 t.breath) (.slice p8 t.words.length a8) (.slice q8 t.turns.length b8) (.int .i64 t.breath) o2;have e3:=own_lwSet x7 x8 hne (by decide) (by decide) (.slice p7 t.words.length a7) (.slice q7 t.turns.length b7) (.int .i64 t.breath) (.slice p8 t.words.length a8) (.slice q8 t.turns.length b8) (.int .i64 t.breath) o3;have e4:=own_lwSet x7 x8 hne (by decide) (by decide) (.slice p7 t.words.length a7) (.slice q7 t.turns.length b7) (.int .i64 t.breath) (.slice p8 t.words.length a8) (.slice q8 t.turns.length b8) (.int .i64 t.breath) o4;obtain ⟨_,_,f1,g1,-⟩:=own_wds e1 rfl;obtain ⟨_,_,f2,g2,-⟩:=own_tns e2 rfl;obtain ⟨_,_,f3,g3,-⟩:=own_wds e3 rfl;obtain ⟨_,_,f4,g4,-⟩:=own_tns e4 rfl;injection f1 with f1;subst f1;injection f2 with f2;subst f2;injection f3 with f3;subst f3;injection f4 with f4;subst f4;exact ⟨(lwSet_other hA7 hA8 _ _ _ _ _ _).trans hA,lwSet_7 hne x7 _ _ _ _ _ _,lwSet_8 hne x8 _ _ _ _ _ _,hT.below (lwSet_bel hB h7 h8 _ _ _ _ _ _),⟨g1,g2⟩,⟨g3,g4⟩⟩
theorem calls_named {P:Program} {f:FuncId} {args:Array Value} {w:World} {R:Ending→World→Prop} (h:∀ W,W=w→Calls P f args W R):Calls P f args w R:=h w rfl
theorem great_no {t:Text} {n:Int} (h:greatB t n=false):t.words.length≤20∧t.turns.length≤20:=by
 unfold greatB at h;simp only [Bool.or_eq_false_iff,decide_eq_false_iff_not] at h;omega
theorem say_len (t:Text) (lo hi:Int):(sayL t lo hi).length≤t.turns.length:=by
 unfold sayL;split
 ·unfold Text.said;rw [idx_length];exact List.countP_le_length
 ·simp
end Go.Proofs.YtadnggecnjdhiaaGreat
namespace Go.Proofs.YtadnggecnjdhiaaGreat
open Tx
theorem mem_brs {may:Nat→Nat→Bool} {n a b:Nat}:b∈brs may n a↔a<b∧b≤n∧may a b=true:=by
 unfold brs;rw [List.mem_filter,List.mem_range'_1];constructor
 ·rintro ⟨h1,h2⟩;exact ⟨by omega,by omega,h2⟩
 ·rintro ⟨h1,h2,h3⟩;exact ⟨by omega,h3⟩
theorem low1_size (m:Marks) (a b:Nat):(low1 m a b).length=m.length:=by simp [low1]
theorem low1_get (m:Marks) (a b p:Nat) (hb:b<m.length):(low1 m a b).getD p 0=if p=b then min (m.getD b 0) (m.getD a 0+1) else m.getD p 0:=by
 unfold low1;by_cases h:p=b
 ·subst h;rw [if_pos rfl];simp [List.getElem?_set,hb]
 ·rw [if_neg h];simp [List.getElem?_set,Ne.symm h]
theorem row_get (a:Nat):∀ (bs:List Nat) (m:Marks),(∀ b∈bs,a<b∧b<m.length)→(bs.foldl (fun m b=>low1 m a b) m).length=m.length ∧
  ∀ p,(bs.foldl (fun m b=>low1 m a b) m).getD p 0=if p∈bs then min (m.getD p 0) (m.getD a 0+1) else m.getD p 0
 | [],m,_=>⟨rfl,fun p=>by simp⟩
 | b::bs,m,h=>by
  have hb:=h b (by simp);obtain ⟨ih1,ih2⟩:=row_get a bs (low1 m a b) (fun x hx=>by rw [low1_size];exact h x (by simp [hx]));rw [List.foldl_cons];refine ⟨by rw [ih1,low1_size],fun p=>?_⟩;rw [ih2 p,low1_get m a b p hb.2,low1_get m a b a hb.2,if_neg (show a≠b by omega)];by_cases h1:p=b
  ·subst h1;by_cases h2:p∈bs
   ·simp [h2]
   ·simp [h2]
  ·by_cases h2:p∈bs <;> simp [h1,h2]
structure MarkInv (may:Nat→Nat→Bool) (n a:Nat) (m:Marks):Prop where
 len:m.length=13
 zero:m.getD 0 0=0
 bd:∀ p,0≤m.getD p 0∧m.getD p 0≤99
 hold:∀ x b,x<a→x<b→b≤n→may x b=true→m.getD b 0≤m.getD x 0+1
 back:∀ b,1≤b→b≤n→m.getD b 0=99∨∃ x,x<a∧x<b∧may x b=true∧m.getD x 0+1=m.getD b 0
theorem MarkInv.step {may:Nat→Nat→Bool} {n a:Nat} {m:Marks} (hn:n≤12) (ha:a<n) (h:MarkInv may n a m):MarkInv may n (a+1) (lowRow may n m a):=by
 obtain ⟨g1,g2⟩:=row_get a (brs may n a) m (fun b hb=>by rw [mem_brs] at hb;rw [h.len];omega);have g3:∀ p,p≤a→(lowRow may n m a).getD p 0=m.getD p 0:=fun p hp=>by
  unfold lowRow;rw [g2,if_neg (by rw [mem_brs];omega)]
 have gle:∀ p,(lowRow may n m a).getD p 0≤m.getD p 0:=fun p=>by
  unfold lowRow;rw [g2];split <;> omega
 have ha0:=(h.bd a).1;refine ⟨by unfold lowRow;rw [g1,h.len],by rw [g3 0 (by omega),h.zero],fun p=>?_,fun x b hx hxb hbn hm=>?_,fun b h1 hbn=>?_⟩
 ·have:=h.bd p;unfold lowRow;rw [g2];split <;> omega
 ·rcases Nat.lt_succ_iff_lt_or_eq.1 hx with hx | rfl
  ·rw [g3 x (by omega)];have:=h.hold x b hx hxb hbn hm;have:=gle b;omega
  ·rw [g3 x (Nat.le_refl _)];unfold lowRow;rw [g2,if_pos (by rw [mem_brs];exact ⟨hxb,hbn,hm⟩)];omega
 ·by_cases hb:b∈brs may n a
  ·have hb':=mem_brs.1 hb;have e:(lowRow may n m a).getD b 0=min (m.getD b 0) (m.getD a 0+1):=by unfold lowRow;rw [g2,if_pos hb]
   by_cases hlt:m.getD a 0+1<m.getD b 0
   ·right;exact ⟨a,by omega,hb'.1,hb'.2.2,by rw [e,g3 a (Nat.le_refl _)];omega⟩
   ·rw [e,show min (m.getD b 0) (m.getD a 0+1)=m.getD b 0 by omega];rcases h.back b h1 hbn with hx | ⟨x,x1,x2,x3,x4⟩
    ·exact .inl hx
    ·exact .inr ⟨x,by omega,x2,x3,by rw [g3 x (by omega),x4]⟩
  ·have e:(lowRow may n m a).getD b 0=m.getD b 0:=by unfold lowRow;rw [g2,if_neg hb]
   rw [e];rcases h.back b h1 hbn with hx | ⟨x,x1,x2,x3,x4⟩
   ·exact .inl hx
   ·exact .inr ⟨x,by omega,x2,x3,by rw [g3 x (by omega),x4]⟩
theorem top_get (n p:Nat) (hn:n≤12):(top n).getD p 0=if 1≤p∧p≤n then 99 else 0:=by
 unfold top;by_cases hp:p<13
 ·simp [List.getElem?_range,hp]
 ·rw [List.getD_eq_getElem?_getD,List.getElem?_eq_none (by simp;omega),if_neg (by omega)];rfl
theorem greatest_inv (may:Nat→Nat→Bool) (n:Nat) (hn:n≤12):MarkInv may n n (greatest may n):=by
 have:∀ k,k≤n→MarkInv may n k ((List.range k).foldl (lowRow may n) (top n)):=by
  intro k
  induction k with
  | zero =>
   intro _;refine ⟨by simp [top],by simp only [List.range_zero,List.foldl_nil];rw [top_get _ _ hn];rfl,fun p=>?_,fun x b hx=>by omega,fun b h1 h2=>?_⟩
   ·simp only [List.range_zero,List.foldl_nil];rw [top_get _ _ hn];split <;> omega
   ·simp only [List.range_zero,List.foldl_nil];rw [top_get _ _ hn,if_pos ⟨h1,h2⟩];exact .inl rfl
  | succ k ih =>
   intro hk;rw [List.range_succ,List.foldl_append,List.foldl_cons,List.foldl_nil];exact (ih (by omega)).step hn (by omega)
 exact this n (Nat.le_refl _)
def okFrom (may:Nat→Nat→Bool):Nat→List Int→Bool
 | _,[]=>true
 | a,x::l=>may a (a+x.toNat)&&okFrom may (a+x.toNat) l
def Parts (n:Int) (l:List Int):Prop:=(∀ x∈l,1≤x)∧isum l=n
theorem isum_ge {l:List Int} (h:∀ x∈l,1≤x):(l.length:Int)≤isum l:=by
 induction l with
 | nil=>simp [isum]
 | cons x l ih =>
  have h1:=h x (by simp);have h2:=ih fun y hy=>h y (by simp [hy]);rw [isum_cons,List.length_cons];omega
theorem parts_nil {l:List Int} (h:Parts 0 l):l=[]:=by
 have h1:=isum_ge h.1;have h2:=h.2;exact List.length_eq_zero_iff.1 (by omega)
theorem parts_cons {n x:Int} {l:List Int}:Parts n (x::l)↔1≤x∧Parts (n-x) l:=by
 unfold Parts;rw [isum_cons];constructor
 ·rintro ⟨h1,h2⟩;exact ⟨h1 x (by simp),fun y hy=>h1 y (by simp [hy]),by omega⟩
 ·rintro ⟨h1,h2,h3⟩;exact ⟨fun y hy=>(List.mem_cons.1 hy).elim (fun e=>e ▸ h1) (h2 y),by omega⟩
theorem parts_pos {n:Int} {l:List Int} (h:Parts n l):0≤n:=by have:=isum_ge h.1;have:=h.2;omega
theorem parts_append {m n:Int} {k l:List Int} (h1:Parts m k) (h2:Parts n l):Parts (m+n) (k++l) :=
 ⟨fun x hx=>(List.mem_append.1 hx).elim (h1.1 x) (h2.1 x),by rw [isum_append,h1.2,h2.2]⟩
theorem okFrom_append (may:Nat→Nat→Bool):∀ (k l:List Int) (a:Nat),(∀ x∈k,0≤x)→okFrom may a (k++l)=(okFrom may a k&&okFrom may (a+(isum k).toNat) l)
 | [],l,a,_=>by simp [okFrom,isum]
 | x::k,l,a,h=>by
  have hx:=h x (by simp);have hk:0≤isum k:=by
   have:∀ (q:List Int),(∀ y∈q,0≤y)→0≤isum q:=by
    intro q
    induction q with
    | nil=>intro _;simp [isum]
    | cons y q ih=>intro hq;rw [isum_cons];have:=hq y (by simp);have:=ih (fun z hz=>hq z (by simp [hz]));omega
   exact this k fun y hy=>h y (by simp [hy])
  rw [List.cons_append,okFrom,okFrom,okFrom_append may k l _ (fun y hy=>h y (by simp [hy])),isum_cons,Bool.and_assoc]
  congr 3
  omega
theorem marks_low {may:Nat→Nat→Bool} {n:Nat} {m:Marks} (h:MarkInv may n n m):∀ (l:List Int) (a b:Nat),Parts ((b:Int)-a) l→b≤n→okFrom may a l=true→m.getD b 0≤m.getD a 0+l.length
 | [],a,b,hp,_,_=>by
  have:=hp.2;simp [isum] at this;have:a=b:=by omega
  subst this;simp
 | x::l,a,b,hp,hb,hok=>by
  rw [parts_cons] at hp;obtain ⟨h1,h2⟩:=hp;have h3:=parts_pos h2;rw [okFrom,Bool.and_eq_true] at hok;have e:(b:Int)-((a+x.toNat:Nat):Int)=(b:Int)-a-x:=by omega
  have ih:=marks_low h l (a+x.toNat) b (by rw [e];exact h2) hb hok.2;have hh:=h.hold a (a+x.toNat) (by omega) (by omega) (by omega) hok.1;rw [List.length_cons];push_cast;omega
theorem before_spec {may:Nat→Nat→Bool} {n:Nat} {m:Marks} (h:MarkInv may n n m) {b:Nat} (h1:1≤b) (hb:b≤n) (hm:m.getD b 0<99):Tx.before may m b<b∧may (Tx.before may m b) b=true∧m.getD (Tx.before may m b) 0+1=m.getD b 0:=by
 unfold Tx.before;cases hf:(List.range b).find? (befP may m b) with
 | some x =>
  have h2:=List.find?_some hf;have h3:=List.mem_of_find?_eq_some hf;simp only [Option.getD_some];unfold befP at h2;rw [Bool.and_eq_true,beq_iff_eq] at h2;exact ⟨List.mem_range.1 h3,h2.2,h2.1⟩
 | none =>
  exfalso;rcases h.back b h1 hb with e | ⟨x,x1,x2,x3,x4⟩
  ·omega
  ·have:=List.find?_eq_none.1 hf x (List.mem_range.2 x2);apply this;unfold befP;rw [Bool.and_eq_true,beq_iff_eq];exact ⟨x4,x3⟩
theorem walk_spec {may:Nat→Nat→Bool} {n:Nat} {m:Marks} (h:MarkInv may n n m):∀ (f b:Nat),b≤f→b≤n→m.getD b 0<99→Parts b (walkBack may m f b).reverse∧okFrom may 0 (walkBack may m f b).reverse=true∧((walkBack may m f b).length:Int)=m.getD b 0
 | 0,b,hf,_,_=>by
  have:b=0:=by omega
  subst this;refine ⟨⟨by simp [walkBack],by simp [walkBack,isum]⟩,by simp [walkBack,okFrom],?_⟩;rw [h.zero];simp [walkBack]
 | f+1,b,hf,hb,hm=>by
  by_cases h0:b=0
  ·subst h0;refine ⟨⟨by simp [walkBack],by simp [walkBack,isum]⟩,by simp [walkBack,okFrom],?_⟩;rw [h.zero];simp [walkBack]
  ·obtain ⟨g1,g2,g3⟩:=before_spec h (by omega) hb hm;rw [walkBack,if_neg h0];generalize Tx.before may m b=a at g1 g2 g3;obtain ⟨i1,i2,i3⟩:=walk_spec h f a (by omega) (by omega) (by have:=(h.bd a).2;omega);rw [List.reverse_cons];have hp:Parts ((b:Int)-a) [(b:Int)-(a:Int)]:=⟨fun x hx=>by rw [List.mem_singleton.1 hx];omega,by simp [isum]⟩;refine ⟨?_,?_,?_⟩
   ·have:=parts_append i1 hp;rwa [show (a:Int)+((b:Int)-a)=b by omega] at this
   ·rw [okFrom_append _ _ _ _ (fun x hx=>by have:=i1.1 x hx;omega),i2,i1.2,Bool.true_and,okFrom,okFrom,Bool.and_true];rw [show 0+((a:Int)).toNat=a by omega,show a+((b:Int)-(a:Int)).toNat=b by omega];exact g2
   ·rw [List.length_cons];push_cast;omega
def compF:Nat→Nat→List (List Int)
 | 0,n=>if n=0 then [[]] else []
 | f+1,n=>if n=0 then [[]] else (List.range' 1 n).flatMap fun k=>(compF f (n-k)).map fun l=>(k:Int)::l
theorem compF_mem:∀ (f n:Nat) (l:List Int),n≤f→(l∈compF f n↔Parts n l)
 | 0,n,l,hf=>by
  have:n=0:=by omega
  subst this;simp only [compF,if_true,List.mem_singleton];exact ⟨fun h=>by subst h;exact ⟨by simp,rfl⟩,fun h=>parts_nil h⟩
 | f+1,n,l,hf=>by
  rw [compF];by_cases h0:n=0
  ·subst h0;rw [if_pos rfl,List.mem_singleton];exact ⟨fun h=>by subst h;exact ⟨by simp,rfl⟩,fun h=>parts_nil h⟩
  ·rw [if_neg h0,List.mem_flatMap];constructor
   ·rintro ⟨k,hk,hl⟩;obtain ⟨m,hm,rfl⟩:=List.mem_map.1 hl;rw [List.mem_range'_1] at hk;have:=(compF_mem f (n-k) m (by omega)).1 hm;rw [parts_cons];exact ⟨by omega,by rwa [show (n:Int)-(k:Int)=((n-k:Nat):Int) by omega]⟩
   ·intro h;cases l with
    | nil=>have:=h.2;simp [isum] at this;omega
    | cons x m =>
     rw [parts_cons] at h;have h3:=parts_pos h.2;refine ⟨x.toNat,by rw [List.mem_range'_1];omega,List.mem_map.2 ⟨m,(compF_mem f _ m (by omega)).2 ?_,?_⟩⟩
     ·rw [show ((n-x.toNat:Nat):Int)=(n:Int)-x by omega];exact h.2
     ·rw [show ((x.toNat:Nat):Int)=x by omega]
theorem compF_eq:∀ (f g n:Nat),n≤f→n≤g→compF f n=compF g n
 | 0,g,n,hf,_=>by
  have:n=0:=by omega
  subst this;cases g <;> simp [compF]
 | f+1,0,n,_,hg=>by
  have:n=0:=by omega
  subst this;simp [compF]
 | f+1,g+1,n,hf,hg=>by
  rw [compF,compF];by_cases h0:n=0
  ·rw [if_pos h0,if_pos h0]
  ·rw [if_neg h0,if_neg h0];have e:∀ k∈List.range' 1 n,((compF f (n-k)).map fun l=>(k:Int)::l)=((compF g (n-k)).map fun l=>(k:Int)::l):=fun k hk=>by
    rw [List.mem_range'_1] at hk;rw [compF_eq f g (n-k) (by omega) (by omega)]
   rw [List.flatMap_def,List.flatMap_def,List.map_congr_left e]
def rights (may:Nat→Nat→Bool) (n:Nat):List (List Int):=(compF n n).filter (okFrom may 0)
theorem mem_rights {may:Nat→Nat→Bool} {n:Nat} {l:List Int}:l∈rights may n↔Parts n l∧okFrom may 0 l=true:=by
 unfold rights;rw [List.mem_filter,compF_mem n n l (Nat.le_refl _)]
theorem many_count (may:Nat→Nat→Bool) (n:Nat):∀ (f a:Nat),a≤n→n+1-a≤f→many may n f a=(compF (n-a) (n-a)).countP (okFrom may a)
 | 0,a,h1,h2=>by omega
 | f+1,a,h1,h2=>by
  rw [many];by_cases h0:a=n
  ·subst h0;rw [if_pos rfl,Nat.sub_self];rfl
  ·rw [if_neg h0];obtain ⟨q,hq⟩:∃ q,n-a=q+1:=⟨n-a-1,by omega⟩;rw [hq,compF,if_neg (by omega),List.countP_flatMap];unfold brs;rw [hq];have:(List.range' (a+1) (q+1))=(List.range' 1 (q+1)).map (a+·):=by
    rw [List.map_add_range']
   rw [this,List.filter_map,List.map_map];have key:∀ (ks:List Nat),(∀ k∈ks,1≤k∧a+k≤n)→((ks.filter (may a ∘ (a+·))).map (many may n f ∘ (a+·))).sum=(ks.map (List.countP (okFrom may a) ∘ fun k=>(compF q (q+1-k)).map fun l=>(k:Int)::l)).sum:=by
    intro ks
    induction ks with
    | nil=>intro _;rfl
    | cons k ks ih =>
     intro hks;have hk:=hks k (by simp);have ih:=ih fun x hx=>hks x (by simp [hx]);rw [List.map_cons,List.sum_cons,← ih];have e:(List.countP (okFrom may a) ∘ fun k=>(compF q (q+1-k)).map fun l=>(k:Int)::l) k=if may a (a+k) then many may n f (a+k) else 0:=by
      simp only [Function.comp_apply,List.countP_map];have e2:(okFrom may a ∘ fun l=>(k:Int)::l)=fun l=>may a (a+k)&&okFrom may (a+k) l:=by
       funext l;simp [okFrom]
      rw [e2];cases hm:may a (a+k) with
      | true =>
       simp only [Bool.true_and,if_true];rw [many_count may n f (a+k) (by omega) (by omega),compF_eq q (n-(a+k)) (q+1-k) (by omega) (by omega),show q+1-k=n-(a+k) by omega]
      | false=>simp
     rw [e];cases hm:may a (a+k) with
     | true=>rw [List.filter_cons_of_pos (by simpa using hm)];simp
     | false=>rw [List.filter_cons_of_neg (by simp [hm])];simp
   exact key _ fun k hk=>by rw [List.mem_range'_1] at hk;omega
theorem count_rights (may:Nat→Nat→Bool) (n:Nat):count may n 0=(rights may n).length:=by
 unfold count rights;rw [many_count may n _ 0 (by omega) (by omega),Nat.sub_zero,List.countP_eq_length_filter]
def breaksAt (l:List Int) (p:Nat):Bool:=(List.range l.length).any fun k=>isum (l.take (k+1)) == (p:Int)
theorem unbr_rights {may:Nat→Nat→Bool} {n p:Nat} (hn:n≤12) (h1:1≤p) (hp:p<n):unbrP may n p=!(rights may n).any fun l=>breaksAt l p:=by
 have h:=greatest_inv may n hn;unfold unbrP;rw [Bool.eq_iff_iff];simp only [Bool.or_eq_true,decide_eq_true_eq,beq_iff_eq,Bool.not_eq_true',List.any_eq_false];have hc:count may n p=(compF (n-p) (n-p)).countP (okFrom may p):=by
  unfold count;exact many_count may n _ p (by omega) (by omega)
 constructor
 ·rintro hh l hl hb;obtain ⟨g1,g2⟩:=mem_rights.1 hl;unfold breaksAt at hb;obtain ⟨k,hk,he⟩:=List.any_eq_true.1 hb;rw [beq_iff_eq] at he;have hs:l=l.take (k+1)++l.drop (k+1):=(List.take_append_drop _ _).symm;have hp1:Parts p (l.take (k+1)):=⟨fun x hx=>g1.1 x (List.mem_of_mem_take hx),he⟩;have hp2:Parts (n-p:Nat) (l.drop (k+1)):=⟨fun x hx=>g1.1 x (List.mem_of_mem_drop hx),by have:=g1.2;rw [hs,isum_append,he] at this;omega⟩;rw [hs,okFrom_append _ _ _ _ (fun x hx=>by have:=hp1.1 x hx;omega),Bool.and_eq_true,he,Int.toNat_natCast,Nat.zero_add] at g2;rcases hh with hh | hh
  ·have:=marks_low h (l.take (k+1)) 0 p (by simpa using hp1) (by omega) g2.1;have h4:=isum_ge hp1.1;rw [h.zero] at this;have:=hp1.2;omega
  ·rw [hc,List.countP_eq_zero] at hh;exact hh _ ((compF_mem _ _ _ (Nat.le_refl _)).2 hp2) g2.2
 ·intro hh;by_cases h99:99≤(greatest may n).getD p 0
  ·exact .inl h99
  ·right;rw [hc,List.countP_eq_zero];intro l2 hl2 hok;have hp2:=(compF_mem _ _ _ (Nat.le_refl _)).1 hl2;obtain ⟨w1,w2,w3⟩:=walk_spec h p p (Nat.le_refl _) (by omega) (by omega);generalize (walkBack may (greatest may n) p p).reverse=l1 at w1 w2;have hmem:l1++l2∈rights may n:=mem_rights.2 ⟨by
    have:=parts_append w1 hp2;rwa [show (p:Int)+((n-p:Nat):Int)=n by omega] at this,by
    rw [okFrom_append _ _ _ _ (fun x hx=>by have:=w1.1 x hx;omega),w2,w1.2,Int.toNat_natCast,Nat.zero_add,hok];rfl⟩
   apply hh _ hmem;unfold breaksAt;have hne:l1≠[]:=fun e=>by subst e;have:=w1.2;simp [isum] at this;omega
   have hlen:0<l1.length:=List.length_pos_iff.2 hne;refine List.any_eq_true.2 ⟨l1.length-1,List.mem_range.2 (by rw [List.length_append];omega),?_⟩;rw [show l1.length-1+1=l1.length by omega,List.take_left',beq_iff_eq]
   ·exact w1.2
   ·rfl
def bestLen:List (List Int)→Nat→Nat
 | [],b=>b
 | l::ls,b=>bestLen ls (if b=0∨l.length<b then l.length else b)
theorem bestLen_zero:∀ (ls:List (List Int)) (b:Nat),(∀ l∈ls,l≠[])→(bestLen ls b=0↔b=0∧ls=[])
 | [],b,_=>by simp [bestLen]
 | l::ls,b,h=>by
  rw [bestLen,bestLen_zero ls _ (fun x hx=>h x (by simp [hx]))];have hl:0<l.length:=List.length_pos_iff.2 (h l (by simp));constructor
  ·rintro ⟨h1,h2⟩;split at h1 <;> omega
  ·rintro ⟨_,h2⟩;cases h2
theorem bestLen_spec:∀ (ls:List (List Int)) (b:Nat),(∀ l∈ls,l≠[])→(0<b→bestLen ls b≤b)∧(∀ l∈ls,bestLen ls b≤l.length)∧(bestLen ls b=b∨∃ l∈ls,bestLen ls b=l.length)
 | [],b,_=>⟨fun _=>Nat.le_refl _,fun l hl=>by simp at hl,.inl rfl⟩
 | l::ls,b,h=>by
  have hl:0<l.length:=List.length_pos_iff.2 (h l (by simp));rw [bestLen];by_cases hc:b=0∨l.length<b
  ·rw [if_pos hc];obtain ⟨i1,i2,i3⟩:=bestLen_spec ls l.length (fun x hx=>h x (by simp [hx]));have:=i1 hl;refine ⟨fun hb=>by omega,fun x hx=>?_,.inr ?_⟩
   ·rcases List.mem_cons.1 hx with rfl | hx
    ·exact this
    ·exact i2 x hx
   ·rcases i3 with e | ⟨x,hx,e⟩
    ·exact ⟨l,by simp,e⟩
    ·exact ⟨x,by simp [hx],e⟩
  ·rw [if_neg hc];obtain ⟨i1,i2,i3⟩:=bestLen_spec ls b (fun x hx=>h x (by simp [hx]));have:=i1 (by omega);refine ⟨fun _=>this,fun x hx=>?_,?_⟩
   ·rcases List.mem_cons.1 hx with rfl | hx
    ·omega
    ·exact i2 x hx
   ·rcases i3 with e | ⟨x,hx,e⟩
    ·exact .inl e
    ·exact .inr ⟨x,by simp [hx],e⟩
theorem rights_ne {may:Nat→Nat→Bool} {n:Nat} (hn1:1≤n):∀ l∈rights may n,l≠[]:=fun l hl e=>by
 have:=(mem_rights.1 hl).1.2;subst e;simp [isum] at this;omega
theorem fewest_rights {may:Nat→Nat→Bool} {n:Nat} (hn1:1≤n) (hn:n≤12):((fewest may n).1.length=bestLen (rights may n) 0)∧((fewest may n).2=if bestLen (rights may n) 0=0 then 6 else 0)∧((fewest may n).2=0→(fewest may n).1∈rights may n)∧((fewest may n).2=0↔rights may n≠[]):=by
 have h:=greatest_inv may n hn;have hne:=rights_ne (may:=may) hn1;obtain ⟨b1,b2,b3⟩:=bestLen_spec (rights may n) 0 hne;have b0:=bestLen_zero (rights may n) 0 hne;have low:∀ l∈rights may n,(greatest may n).getD n 0≤l.length:=fun l hl=>by
  obtain ⟨g1,g2⟩:=mem_rights.1 hl;have:=marks_low h l 0 n (by simpa using g1) (Nat.le_refl _) g2;rw [h.zero] at this;omega
 unfold fewest;by_cases hm:(greatest may n).getD n 0<99
 ·rw [if_pos hm];obtain ⟨w1,w2,w3⟩:=walk_spec h n n (Nat.le_refl _) (Nat.le_refl _) hm;have hin:(walkBack may (greatest may n) n n).reverse∈rights may n:=mem_rights.2 ⟨w1,w2⟩;have hz:bestLen (rights may n) 0≠0:=fun e=>by have:=(b0.1 e).2;rw [this] at hin;simp at hin
  dsimp only;refine ⟨?_,by rw [if_neg hz],fun _=>hin,⟨fun _ e=>by rw [e] at hin;simp at hin,fun _=>rfl⟩⟩;rcases b3 with e | ⟨l,hl,e⟩
  ·exact absurd e hz
  ·have h1:=low l hl;have h2:=b2 _ hin;rw [List.length_reverse] at h2 ⊢;omega
 ·rw [if_neg hm];have hnil:rights may n=[]:=by
   cases hr:rights may n with
   | nil=>rfl
   | cons l ls =>
    exfalso;have hl:l∈rights may n:=by rw [hr];simp
    have h1:=low l hl;have h2:=isum_ge (mem_rights.1 hl).1.1;have h3:=(mem_rights.1 hl).1.2;omega
  have hz:bestLen (rights may n) 0=0:=b0.2 ⟨rfl,hnil⟩;dsimp only;exact ⟨by rw [hz];rfl,by rw [if_pos hz],fun e=>by omega,⟨fun e=>by omega,fun e=>absurd hnil e⟩⟩
end Go.Proofs.YtadnggecnjdhiaaGreat
namespace Go.Proofs.YtadnggecnjdhiaaGreat
open Tx
theorem even_odd (n:Nat):∃ k,n=2*k∨n=2*k+1:=⟨n / 2,by omega⟩
def Incr:Int→Int→List Int→Prop
 | _,_,[]=>True
 | lo,hi,x::l=>lo≤x∧x<hi∧Incr (x+1) hi l
theorem Incr.low {lo lo' hi:Int} (h:lo'≤lo):∀ {l:List Int},Incr lo hi l→Incr lo' hi l
 | [],_=>trivial
 | _::_,⟨h1,h2,h3⟩=>⟨by omega,h2,h3⟩
theorem Incr.bd {hi:Int}:∀ {lo:Int} {l:List Int},Incr lo hi l→∀ x∈l,lo≤x∧x<hi
 | _,[],_,x,hx=>by simp at hx
 | lo,y::l,⟨h1,h2,h3⟩,x,hx=>by
  rcases List.mem_cons.1 hx with rfl | hx
  ·exact ⟨h1,h2⟩
  ·have:=Incr.bd h3 x hx;omega
theorem Incr.len {hi:Int}:∀ {lo:Int} {l:List Int},Incr lo hi l→(l.length:Int)≤hi-lo∨l=[]
 | _,[],_=>.inr rfl
 | lo,y::l,⟨h1,h2,h3⟩=>by
  left;rcases Incr.len h3 with h | rfl
  ·simp only [List.length_cons];omega
  ·simp;omega
def bits (w n:Nat):List Int:=if h:n=0 then [] else (if n % 2=1 then [(w:Int)] else [])++bits (w+1) (n / 2)
termination_by n
decreasing_by omega
theorem bits_zero (w:Nat):bits w 0=[]:=by rw [bits];simp
theorem bits_step (w n:Nat) (h:n≠0):bits w n=(if n % 2=1 then [(w:Int)] else [])++bits (w+1) (n / 2):=by rw [bits];simp [h]
theorem bits_odd (w n:Nat):bits w (2*n+1)=(w:Int)::bits (w+1) n:=by
 rw [bits_step _ _ (by omega),if_pos (by omega),show (2*n+1) / 2=n by omega];rfl
theorem bits_even (w n:Nat):bits w (2*n)=bits (w+1) n:=by
 rcases Nat.eq_zero_or_pos n with rfl | h
 ·rw [Nat.mul_zero,bits_zero,bits_zero]
 ·rw [bits_step _ _ (by omega),if_neg (by omega),show (2*n) / 2=n by omega];rfl
theorem bits_incr:∀ (N w n:Nat),n<2 ^ N→Incr w (w+N:Nat) (bits w n)
 | 0,w,n,h=>by
  have:n=0:=by simp at h;exact h
  subst this;rw [bits_zero];trivial
 | N+1,w,n,h=>by
  rw [Nat.pow_succ] at h;have ih:=bits_incr N (w+1) (n / 2) (by omega);rw [show w+1+N=w+(N+1) by omega] at ih;rcases even_odd n with ⟨k,rfl | rfl⟩
  ·rw [bits_even];rw [show 2*k / 2=k by omega] at ih;exact ih.low (by omega)
  ·rw [bits_odd];rw [show (2*k+1) / 2=k by omega] at ih;exact ⟨by omega,by push_cast;omega,by rwa [show ((w:Int)+1)=((w+1:Nat):Int) by omega]⟩
theorem bits_all:∀ (N w:Nat) (l:List Int),Incr w (w+N:Nat) l→∃ n,n<2 ^ N∧bits w n=l
 | 0,w,l,h=>by
  cases l with
  | nil=>exact ⟨0,by simp,bits_zero _⟩
  | cons x l=>obtain ⟨h1,h2,_⟩:=h;simp at h2;omega
 | N+1,w,l,h=>by
  rw [show w+(N+1)=w+1+N by omega] at h;cases l with
  | nil=>exact ⟨0,by rw [Nat.pow_succ];have:=Nat.two_pow_pos N;omega,bits_zero _⟩
  | cons x l =>
   obtain ⟨h1,h2,h3⟩:=h;by_cases hx:x=(w:Int)
   ·subst hx;obtain ⟨n,hn,e⟩:=bits_all N (w+1) l (by rwa [show ((w+1:Nat):Int)=(w:Int)+1 by omega]);exact ⟨2*n+1,by rw [Nat.pow_succ];omega,by rw [bits_odd,e]⟩
   ·obtain ⟨n,hn,e⟩:=bits_all N (w+1) (x::l) ⟨by omega,h2,h3⟩;exact ⟨2*n,by rw [Nat.pow_succ];omega,by rw [bits_even,e]⟩
theorem bits_ne {w n:Nat} (h:n≠0):bits w n≠[]:=by
 induction n using Nat.strongRecOn generalizing w with
 | _ n ih =>
  rcases even_odd n with ⟨k,rfl | rfl⟩
  ·rw [bits_even];exact ih k (by omega) (by omega)
  ·rw [bits_odd];simp
theorem lists_mem (N:Nat):∀ (k a:Nat) (l:List Int),l∈Tx.lists N k a↔l.length=k∧Incr a N l
 | 0,a,l=>by
  simp only [Tx.lists,List.mem_singleton];constructor
  ·rintro rfl;exact ⟨rfl,trivial⟩
  ·rintro ⟨h,_⟩;exact List.length_eq_zero_iff.1 h
 | k+1,a,l=>by
  simp only [Tx.lists,List.mem_flatMap,List.mem_range'_1,List.mem_map];constructor
  ·rintro ⟨x,hx,m,hm,rfl⟩;obtain ⟨h1,h2⟩:=(lists_mem N k (x+1) m).1 hm;exact ⟨by simp [h1],by omega,by omega,by rwa [show ((x:Int)+1)=((x+1:Nat):Int) by omega]⟩
  ·rintro ⟨hl,h⟩;cases l with
   | nil=>simp at hl
   | cons y m =>
    obtain ⟨h1,h2,h3⟩:=h;refine ⟨y.toNat,by omega,m,(lists_mem N k (y.toNat+1) m).2 ⟨by simpa using hl,?_⟩,?_⟩
    ·rwa [show ((y.toNat+1:Nat):Int)=y+1 by omega]
    ·rw [show ((y.toNat:Nat):Int)=y by omega]
def lexB:List Int→List Int→Bool
 | x::a,y::b=>if x≠y then decide (x<y) else lexB a b
 | _,_=>false
theorem lexB_irr:∀ a:List Int,lexB a a=false
 | []=>rfl
 | x::a=>by rw [lexB,if_neg (by simp)];exact lexB_irr a
theorem lexB_trans:∀ {a b c:List Int},a.length=b.length→b.length=c.length→lexB a b=true→lexB b c=true→lexB a c=true
 | [],b,c,_,_,h,_=>by simp [lexB] at h
 | x::a,[],c,_,_,h,_=>by simp [lexB] at h
 | x::a,y::b,[],_,_,_,h=>by simp [lexB] at h
 | x::a,y::b,z::c,e1,e2,h1,h2=>by
  rw [lexB] at h1 h2 ⊢;by_cases hxy:x=y
  ·subst hxy;rw [if_neg (by simp)] at h1;by_cases hyz:x=z
   ·subst hyz;rw [if_neg (by simp)] at h2 ⊢;exact lexB_trans (by simpa using e1) (by simpa using e2) h1 h2
   ·rw [if_pos hyz] at h2 ⊢;exact h2
  ·rw [if_pos hxy] at h1;have h1':=of_decide_eq_true h1;by_cases hyz:y=z
   ·subst hyz;rw [if_pos hxy];exact h1
   ·rw [if_pos hyz] at h2;have h2':=of_decide_eq_true h2;rw [if_pos (by omega)];exact decide_eq_true (by omega)
theorem lexB_total:∀ {a b:List Int},a.length=b.length→a=b∨lexB a b=true∨lexB b a=true
 | [],[],_=>.inl rfl
 | [],_::_,h=>by simp at h
 | _::_,[],h=>by simp at h
 | x::a,y::b,h=>by
  by_cases hxy:x=y
  ·subst hxy;rcases lexB_total (a:=a) (b:=b) (by simpa using h) with rfl | h | h
   ·exact .inl rfl
   ·right;left;rw [lexB,if_neg (by simp)];exact h
   ·right;right;rw [lexB,if_neg (by simp)];exact h
  ·right;rw [lexB,lexB,if_pos hxy,if_pos (Ne.symm hxy)];simp only [decide_eq_true_eq];omega
theorem lists_sorted (N:Nat):∀ (k a:Nat),(Tx.lists N k a).Pairwise fun l m=>lexB l m=true
 | 0,a=>by simp [Tx.lists]
 | k+1,a=>by
  simp only [Tx.lists];rw [List.pairwise_flatMap];refine ⟨fun x hx=>?_,?_⟩
  ·rw [List.pairwise_map];refine (lists_sorted N k (x+1)).imp fun h=>?_;rw [lexB,if_neg (by simp)];exact h
  ·have:(List.range' a (N-a)).Pairwise (·<·):=List.pairwise_lt_range';refine this.imp fun {x y} hxy l hl m hm=>?_;obtain ⟨l',_,rfl⟩:=List.mem_map.1 hl;obtain ⟨m',_,rfl⟩:=List.mem_map.1 hm;rw [lexB,if_pos (by omega)];exact decide_eq_true (by omega)
def better (a b:List Int):Prop:=a.length<b.length∨(a.length=b.length∧lexB a b=true)
theorem better_trans {a b c:List Int} (h1:better a b) (h2:better b c):better a c:=by
 rcases h1 with h1 | ⟨h1,h1'⟩ <;> rcases h2 with h2 | ⟨h2,h2'⟩
 ·exact .inl (by omega)
 ·exact .inl (by omega)
 ·exact .inl (by omega)
 ·exact .inr ⟨by omega,lexB_trans h1 h2 h1' h2'⟩
theorem better_irr {a:List Int} (h:better a a):False:=by
 rcases h with h | ⟨_,h⟩
 ·omega
 ·rw [lexB_irr] at h;cases h
theorem better_total {a b:List Int} (h:¬ better a b):a=b∨better b a:=by
 by_cases hl:a.length=b.length
 ·rcases lexB_total hl with e | e | e
  ·exact .inl e
  ·exact absurd (.inr ⟨hl,e⟩) h
  ·exact .inr (.inr ⟨hl.symm,e⟩)
 ·have:¬ a.length<b.length:=fun e=>h (.inl e);exact .inr (.inl (by omega))
theorem find_first {p:List Int→Bool}:∀ {L:List (List Int)} {l:List Int},L.Pairwise (fun l m=>lexB l m=true)→L.find? p=some l→l∈L∧p l=true∧∀ m∈L,p m=true→m=l∨lexB l m=true
 | [],_,_,h=>by simp at h
 | x::L,l,hs,h=>by
  rw [List.pairwise_cons] at hs;by_cases hp:p x=true
  ·rw [List.find?_cons_of_pos hp] at h;injection h with h;subst h;exact ⟨List.mem_cons_self ..,hp,fun m hm _=>by
    rcases List.mem_cons.1 hm with rfl | hm
    ·exact .inl rfl
    ·exact .inr (hs.1 m hm)⟩
  ·rw [List.find?_cons_of_neg hp] at h;obtain ⟨h1,h2,h3⟩:=find_first hs.2 h;exact ⟨List.mem_cons_of_mem _ h1,h2,fun m hm hpm=>by
    rcases List.mem_cons.1 hm with rfl | hm
    ·exact absurd hpm hp
    ·exact h3 m hm hpm⟩
theorem leastGo_spec (t:Text) (wt:Int):∀ (ks:List Nat),ks.Pairwise (·<·)→(∀ l,t.leastGo wt ks=some l→(l.length∈ks∧Incr 0 t.len l∧t.leastP wt l=true∧∀ m,m.length∈ks→Incr 0 t.len m→t.leastP wt m=true→m=l∨better l m)) ∧
  (t.leastGo wt ks=none→∀ m,m.length∈ks→Incr 0 t.len m→t.leastP wt m=false)
 | [],_=>⟨fun l h=>by simp [Text.leastGo] at h,fun _ m hm=>by simp at hm⟩
 | k::ks,hs=>by
  rw [List.pairwise_cons] at hs;obtain ⟨ih1,ih2⟩:=leastGo_spec t wt ks hs.2;rw [Text.leastGo];cases hf:(Tx.lists t.len k 0).find? (t.leastP wt) with
  | some l0 =>
   obtain ⟨h1,h2,h3⟩:=find_first (lists_sorted _ _ _) hf;obtain ⟨g1,g2⟩:=(lists_mem _ _ _ _).1 h1;refine ⟨fun l h=>?_,fun h=>by simp at h⟩;simp only [Option.some.injEq] at h;subst h;refine ⟨by rw [g1];exact List.mem_cons_self ..,g2,h2,fun m hm hi hp=>?_⟩;rcases List.mem_cons.1 hm with hm | hm
   ·rcases h3 m ((lists_mem _ _ _ _).2 ⟨hm,hi⟩) hp with e | e
    ·exact .inl e
    ·exact .inr (.inr ⟨by omega,e⟩)
   ·exact .inr (.inl (by rw [g1];exact hs.1 _ hm))
  | none =>
   have hno:∀ m,m.length=k→Incr 0 t.len m→t.leastP wt m=false:=fun m hm hi=>by
    have:=List.find?_eq_none.1 hf m ((lists_mem _ _ _ _).2 ⟨hm,hi⟩)
    simpa using this
   refine ⟨fun l h=>?_,fun h m hm hi=>?_⟩
   ·obtain ⟨a1,a2,a3,a4⟩:=ih1 l h;refine ⟨List.mem_cons_of_mem _ a1,a2,a3,fun m hm hi hp=>?_⟩;rcases List.mem_cons.1 hm with hm | hm
    ·rw [hno m hm hi] at hp;cases hp
    ·exact a4 m hm hi hp
   ·rcases List.mem_cons.1 hm with hm | hm
    ·exact hno m hm hi
    ·exact ih2 h m hm hi
def BestOf (p:List Int→Bool) (n:Nat) (b:List Int):Prop :=
 (b=[]∧∀ j,1≤j→j<n→p (bits 0 j)=false)∨(∃ j,1≤j∧j<n∧b=bits 0 j∧p b=true∧∀ i,1≤i→i<n→p (bits 0 i)=true→bits 0 i=b∨better b (bits 0 i))
theorem BestOf.zero (p:List Int→Bool):BestOf p 1 []:=.inl ⟨rfl,fun j h1 h2=>by omega⟩
theorem BestOf.skip {p:List Int→Bool} {n:Nat} {b:List Int} (h:BestOf p n b) (hp:p (bits 0 n)=false):BestOf p (n+1) b:=by
 rcases h with ⟨rfl,h⟩ | ⟨j,h1,h2,rfl,h3,h4⟩
 ·refine .inl ⟨rfl,fun j h1 h2=>?_⟩;rcases Nat.lt_succ_iff_lt_or_eq.1 h2 with h2 | rfl
  ·exact h j h1 h2
  ·exact hp
 ·refine .inr ⟨j,h1,by omega,rfl,h3,fun i i1 i2 hi=>?_⟩;rcases Nat.lt_succ_iff_lt_or_eq.1 i2 with i2 | rfl
  ·exact h4 i i1 i2 hi
  ·rw [hp] at hi;cases hi
theorem BestOf.take {p:List Int→Bool} {n:Nat} {b:List Int} (h:BestOf p n b) (hn:1≤n) (hp:p (bits 0 n)=true) (hb:b=[]∨better (bits 0 n) b):BestOf p (n+1) (bits 0 n):=by
 refine .inr ⟨n,hn,by omega,rfl,hp,fun i i1 i2 hi=>?_⟩;rcases Nat.lt_succ_iff_lt_or_eq.1 i2 with i2 | rfl
 ·rcases h with ⟨rfl,h⟩ | ⟨j,h1,h2,rfl,h3,h4⟩
  ·rw [h i i1 i2] at hi;cases hi
  ·have hb:better (bits 0 n) (bits 0 j):=by
    rcases hb with hb | hb
    ·exact absurd hb (bits_ne (by omega))
    ·exact hb
   rcases h4 i i1 i2 hi with e | e
   ·rw [e];exact .inr hb
   ·exact .inr (better_trans hb e)
 ·exact .inl rfl
theorem BestOf.keep {p:List Int→Bool} {n:Nat} {b:List Int} (h:BestOf p n b) (hb:b≠[]) (hw:¬ better (bits 0 n) b):BestOf p (n+1) b:=by
 rcases h with ⟨rfl,h⟩ | ⟨j,h1,h2,rfl,h3,h4⟩
 ·exact absurd rfl hb
 ·refine .inr ⟨j,h1,by omega,rfl,h3,fun i i1 i2 hi=>?_⟩;rcases Nat.lt_succ_iff_lt_or_eq.1 i2 with i2 | rfl
  ·exact h4 i i1 i2 hi
  ·exact better_total hw
theorem best_least {t:Text} {wt:Int} {b:List Int} (h:BestOf (t.leastP wt) (2 ^ t.len) b):t.least wt=(b,if b=[] then 6 else 0):=by
 have hks:(List.range' 1 t.len).Pairwise (·<·):=List.pairwise_lt_range';obtain ⟨s1,s2⟩:=leastGo_spec t wt (List.range' 1 t.len) hks;have hin:∀ {m:List Int},Incr 0 t.len m→m≠[]→m.length∈List.range' 1 t.len:=fun {m} hm hne=>by
  rw [List.mem_range'_1];have:m.length≠0:=fun e=>hne (List.length_eq_zero_iff.1 e);rcases Incr.len hm with h | h
  ·omega
  ·exact absurd h hne
 have hbi:∀ j,j<2 ^ t.len→Incr 0 t.len (bits 0 j):=fun j hj=>by
  have:=bits_incr t.len 0 j hj
  simpa using this
 unfold Text.least;cases hg:t.leastGo wt (List.range' 1 t.len) with
 | none =>
  rcases h with ⟨rfl,h⟩ | ⟨j,h1,h2,rfl,h3,h4⟩
  ·rfl
  ·have:=s2 hg _ (hin (hbi j h2) (bits_ne (by omega))) (hbi j h2);rw [this] at h3;cases h3
 | some l =>
  obtain ⟨a1,a2,a3,a4⟩:=s1 l hg;have hl:l≠[]:=fun e=>by rw [e,List.mem_range'_1] at a1;simp at a1
  obtain ⟨n,hn,e⟩:=bits_all t.len 0 l (by simpa using a2);have hn1:1≤n:=by
   rcases Nat.eq_zero_or_pos n with h0 | h0
   ·rw [h0,bits_zero] at e;exact absurd e.symm hl
   ·exact h0
  rcases h with ⟨rfl,h⟩ | ⟨j,h1,h2,rfl,h3,h4⟩
  ·have:=h n hn1 hn;rw [e,a3] at this;cases this
  ·have e1:=h4 n hn1 hn (by rw [e];exact a3);rw [e] at e1;have e2:=a4 (bits 0 j) (hin (hbi j h2) (bits_ne (by omega))) (hbi j h2) h3;have:l=bits 0 j:=by
    rcases e1 with e1 | e1
    ·exact e1
    ·rcases e2 with e2 | e2
     ·exact e2.symm
     ·exact absurd (better_trans e1 e2) (fun h=>better_irr h)
   rw [this,if_neg (bits_ne (by omega))]
end Go.Proofs.YtadnggecnjdhiaaGreat
namespace Go.Proofs.YtadnggecnjdhiaaGreat
open Go.RowKit Tx
attribute [local go_sem] Oper.semAt_some
set_option maxHeartbeats 2000000 in
set_option maxRecDepth 100000 in
theorem list_any (n:Nat) (hn:n≤1000000) (w:World):Calls Tryz.prog 107 #[.int .i64 n] w (RowPost (bits 0 n) w):=by
 obtain ⟨i0,hi0,hz0,hz1,hz2⟩:=info_parts A_infoI
 go_enter Tryz.func107,Tryz.ntmps107
 go_wp2
 go_loopw [0,3,4] (fun nv v i wr=>∃ (m k:Nat) (acc:List Int),nv=.int .i64 m∧i=.int .i64 k∧m≤n∧m+k≤n∧acc.length≤k∧acc++bits k m=bits 0 n∧wr.ownsRow w.heap.size 3 1 v acc.length (acc.map (Value.int .i64))∧Below w.heap.size w wr) (fun nv _ _ _=>(intOf nv).toNat)
 case atStart=>exact ⟨n,0,[],rfl,rfl,Nat.le_refl _,by omega,by simp,rfl,own_none _ _ _ _,Below.refl _ _⟩
 case round =>
  obtain ⟨m,k,acc,rfl,rfl,hm,hmk,hak,hacc,hown,hBr⟩:=hrel;have HO:=Lib.hid hown;have HBr:=Lib.hid hBr;have HACC:=Lib.hid hacc;have hz7:=hBr.size;have hal:acc.length≤1000000:=by omega
  clear hown hBr hacc;by_cases h0:0<m
  ·obtain ⟨mi,hmi⟩:∃ mi:Int,mi=(m:Int):=⟨_,rfl⟩;have h0':0<mi:=by omega
   have hk1:(k:Int)+1=((k+1:Nat):Int):=by omega
   have HK1:=Lib.hid hk1;obtain ⟨q,hq | hq⟩:=even_odd m
   ·have hqn:q≤1000000:=by omega
    have hr:Int.tmod mi 2=0:=by rw [Int.tmod_eq_emod_of_nonneg (by omega)];omega
    have hd:Int.tdiv mi 2=(q:Int):=by rw [Int.tdiv_eq_ediv_of_nonneg (by omega)];omega
    have HB:Hid (acc++bits (k+1) q=bits 0 n):=Lib.hid (by rw [← HACC.out,hq,bits_even]);have HQ:=Lib.hid hq;have hb1:mi≤1000000:=by omega
    rw [← hmi];have HMI:=Lib.hid hmi;clear hmi hq hk1 HACC;go_wp2;go_roundw
    case rel=>exact ⟨q,k+1,acc,rfl,by rw [HK1.out],by have:=HQ.out;omega,by have:=HQ.out;omega,by omega,HB.out,HO.out,HBr.out⟩
    case measure=>have:=HQ.out;simp [intOf];have:=HMI.out;omega
   ·have hqn:q≤1000000:=by omega
    have hr:Int.tmod mi 2=1:=by rw [Int.tmod_eq_emod_of_nonneg (by omega)];omega
    have hd:Int.tdiv mi 2=(q:Int):=by rw [Int.tdiv_eq_ediv_of_nonneg (by omega)];omega
    have HB:Hid ((acc++[(k:Int)])++bits (k+1) q=bits 0 n):=Lib.hid (by rw [← HACC.out,hq,bits_odd];simp);have HQ:=Lib.hid hq;have hb1:mi≤1000000:=by omega
    rw [← hmi];have HMI:=Lib.hid hmi;clear hmi hq hk1 HACC;go_wp2_with (at_builtin;refine wpList_append_own _ rfl _ _ 34 rfl w.heap.size 3 i0 (.int .i64 0) 1 8 A_undI hi0 hz0 hz1 hz2 rfl (by decide) _ _ _ rfl (HO.out.alloc _) ⟨wr.heap.size,0,none⟩ 1 1 [.int .i64 (k:Int)] rfl rfl ?d1 ?d2 ?d3 ?d4 ?d5 ?_)
    case d1=>exact cell_one_new _ _ _
    case d2=>first | rfl | (intro u hu;simp at hu;subst hu;rfl)
    case d3=>unfold maxLen;omega
    case d4=>omega
    case d5=>first | omega | (simp;omega)
    intro v' w8 hown8 hgrow _;have hB8:=below_grown (al2 HBr.out (by omega) _) (HO.out.alloc _) (Nat.le_refl _) (by simp;omega) hgrow;have HO8:=Lib.hid hown8;have HB8:=Lib.hid hB8;clear hgrow hown8 hB8;go_wp2;go_roundw
    case rel=>exact ⟨q,k+1,acc++[(k:Int)],rfl,by rw [HK1.out],by have:=HQ.out;omega,by have:=HQ.out;omega,by simp;omega,HB.out,by simpa using HO8.out,HB8.out⟩
    case measure=>have:=HQ.out;simp [intOf];have:=HMI.out;omega
  ·obtain rfl:m=0:=by omega
   have HB:Hid (acc=bits 0 n):=Lib.hid (by rw [← HACC.out,bits_zero,List.append_nil]);clear HACC;go_wp2;go_ret;exact ⟨_,rfl,by rw [← HB.out];exact HO.out,HBr.out⟩
set_option maxHeartbeats 2000000 in
theorem listsN_any (t:Text) (hn:t.words.length≤12) (pw:Option Addr) (cw:Nat) (v1 v2:Value) (w:World) :
  Calls Tryz.prog 106 #[.agg #[.slice pw t.words.length cw,v1,v2]] w fun e w'=>e=.returned (.int .i64 ((2 ^ t.words.length:Nat):Int))∧Below w.heap.size w w':=by
 generalize t.words.length=N at hn ⊢;have HB:=Lib.hid (below1 w (.cells #[.slice pw N cw,v1,v2] 32));obtain ⟨k0,k1,k2⟩:=blk3 (heap_last w (.cells #[.slice pw N cw,v1,v2] 32))
 go_enter Tryz.func106,Tryz.ntmps106
 go_wp2_with fail
 generalize w.alloc (.cells #[.slice pw N cw,v1,v2] 32)=W1 at HB k0 k1 k2 ⊢
 go_loop [3,4] (fun v i=>∃ k q:Nat,k≤N∧i=.int .i64 k∧v=.int .i64 q∧q=2 ^ k) (fun _ i=>N-(intOf i).toNat)
 case atStart=>exact ⟨0,1,Nat.zero_le _,rfl,rfl,rfl⟩
 case round =>
  obtain ⟨k,q,hk,rfl,rfl,hq⟩:=hrel;have hq9:q≤4096:=by rw [hq];exact Nat.pow_le_pow_right (by omega) (show k≤12 by omega)
  have HQ:=Lib.hid hq;clear hq;by_cases hlt:k<N
  ·have hlt':(k:Int)<N:=by omega
   have hw:2*(q:Int)=((2*q:Nat):Int):=by push_cast;rfl
   have HW:=Lib.hid hw;clear hw;go_wp2;go_round
   case rel=>exact ⟨k+1,2*q,by omega,by go_num,by first | rfl | (congr 1;done) | (congr 1;push_cast;done) | (congr 1;push_cast;rfl),by rw [Nat.pow_succ,← HQ.out];omega⟩
   case measure=>simp [intOf];omega
  ·obtain rfl:k=N:=by omega
   go_wp2;go_ret;exact ⟨ret_int (by rw [HQ.out];first | rfl | simp),HB.out⟩
theorem lexB_drop {a b:List Int} {k:Nat} (ha:k<a.length) (hb:k<b.length):lexB (a.drop k) (b.drop k)=if a.getD k 0≠b.getD k 0 then decide (a.getD k 0<b.getD k 0) else lexB (a.drop (k+1)) (b.drop (k+1)):=by
 rw [List.drop_eq_getElem_cons ha,List.drop_eq_getElem_cons hb,lexB];rw [show a.getD k 0=a[k] from by simp [ha],show b.getD k 0=b[k] from by simp [hb]]
set_option maxHeartbeats 2000000 in
theorem before_any2 (a b:List Int) (hl:a.length=b.length) (hll:a.length≤1000000) (p q:Option Addr) (c d:Nat) (w:World) (ha:Ints w p a) (hb:Ints w q b) :
  Calls Tryz.prog 108 #[.slice p a.length c,.slice q b.length d] w fun e w'=>e=.returned (.bool (lexB a b))∧Below w.heap.size w w':=by
 have HA:=Lib.hid ha;have HBL:=Lib.hid hb;have HL:=Lib.hid hl;clear ha hb hl
 go_enter Tryz.func108,Tryz.ntmps108
 go_wp2
 go_loopw [5] (fun i wr=>∃ k:Nat,k≤a.length∧i=.int .i64 k∧lexB (a.drop k) (b.drop k)=lexB a b∧Below w.heap.size w wr) (fun i _=>a.length-(intOf i).toNat)
 case atStart=>exact ⟨0,Nat.zero_le _,rfl,rfl,Below.refl _ _⟩
 case round =>
  obtain ⟨k,hk,rfl,hd,hBr⟩:=hrel;have HD:=Lib.hid hd;have HBr:=Lib.hid hBr;clear hd;by_cases hlt:k<a.length
  ·have hlt2:k<b.length:=by have:=HL.out;omega
   have hlt':(k:Int)<a.length:=by omega
   have hlt2':(k:Int)<b.length:=by omega
   obtain ⟨b1,o1,x,rfl,hb1,hx,c1⟩:=(HA.out.below hBr).at hlt;obtain ⟨b2,o2,y,rfl,hb2,hy,d1⟩:=(HBL.out.below hBr).at hlt2;have HX:=Lib.hid (lexB_drop hlt hlt2);rw [← hx,← hy] at HX;clear hx hy hBr;by_cases hxy:x=y
   ·subst hxy;have HF:Hid (lexB (a.drop (k+1)) (b.drop (k+1))=lexB a b):=Lib.hid (by rw [← HD.out,HX.out,if_neg (by simp)]);clear HX HD;go_wp2
    go_quiet (fail)
    go_wp2;go_roundw
    case rel=>exact ⟨k+1,by omega,by go_num,HF.out,below_drewN' HBr.out _⟩
    case measure=>simp [intOf];omega
   ·have hxy':(x != y)=true:=by simpa using hxy
    have HF:Hid (lexB a b=decide (x<y)):=Lib.hid (by rw [← HD.out,HX.out,if_pos hxy]);clear HX HD hxy;go_wp2
    go_quiet (fail)
    go_wp2
    go_quiet (fail)
    go_wp2;go_ret;exact ⟨ret_bool HF.out.symm,below_drewN' (below_drewN' HBr.out _) _⟩
  ·obtain rfl:k=a.length:=by omega
   have HF:Hid (lexB a b=false):=Lib.hid (by rw [← HD.out,List.drop_length];rfl);clear HD;go_wp2;go_ret;exact ⟨ret_bool HF.out.symm,HBr.out⟩
set_option maxHeartbeats 2000000 in
theorem rWeight_any (t:Text) (ok:Text.Ok t) (l:List Int) (hll:l.length≤100000) (hx:∀ x∈l,0≤x∧x<t.words.length) (pw pl:Option Addr) (cw cl:Nat) (v1 v2:Value) (w:World) (hW:Wds w pw t.words) (hL:Ints w pl l) :
  Calls Tryz.prog 113 #[.agg #[.slice pw t.words.length cw,v1,v2],.slice pl l.length cl] w fun e w'=>e=.returned (.int .i64 (t.wtOf l))∧Below w.heap.size w w':=by
 have HB:=Lib.hid (below1 w (.cells #[.slice pw t.words.length cw,v1,v2] 32));have HX:=Lib.hid (heap_last w (.cells #[.slice pw t.words.length cw,v1,v2] 32));have HW:=Lib.hid hW;have HL:=Lib.hid hL;have HXS:=Lib.hid hx;have HOK:=Lib.hid ok;have hn12:=ok.n12;have hbdall:∀ k,0≤isum ((l.take k).map fun i=>(t.words.getD i.toNat default).wt)∧isum ((l.take k).map fun i=>(t.words.getD i.toNat default).wt)≤2000000:=fun k=>by
  have h:=isum_bd ((l.take k).map fun i=>(t.words.getD i.toNat default).wt) 0 20 (fun y hy=>by
   obtain ⟨i,hi,rfl⟩:=List.mem_map.1 hy;have hi2:=hx i (List.mem_of_mem_take hi);have:=ok.word (t.words.getD i.toNat default) (getD_mem default (by omega));exact ⟨this.2.2.1,this.2.2.2⟩)
  have:((l.take k).map fun i=>(t.words.getD i.toNat default).wt).length≤100000:=by simp;omega
  omega
 have HBD:=Lib.hid hbdall;have HT:Hid (t.wtOf l=isum ((l.take l.length).map fun i=>(t.words.getD i.toNat default).wt)):=Lib.hid (by rw [List.take_length];rfl);generalize t.wtOf l=tw at HT ⊢;clear hW hL hx ok hbdall
 go_enter Tryz.func113,Tryz.ntmps113
 go_wp2_with fail
 generalize w.alloc (.cells #[.slice pw t.words.length cw,v1,v2] 32)=W1 at HB HX ⊢
 go_loopw [5,6] (fun v i wr=>∃ (k:Nat) (s:Int),k≤l.length∧i=.int .i64 k∧v=.int .i64 s∧s=isum ((l.take k).map fun i=>(t.words.getD i.toNat default).wt)∧Below W1.heap.size W1 wr) (fun _ i _=>l.length-(intOf i).toNat)
 case atStart=>exact ⟨0,0,Nat.zero_le _,rfl,rfl,rfl,Below.refl _ _⟩
 case round =>
  obtain ⟨k,s,hk,rfl,rfl,hs,hBr⟩:=hrel;have HS:=Lib.hid hs;have HBr:=Lib.hid hBr;have hsb:=HBD.out k;rw [← hs] at hsb;obtain ⟨k0,k1,k2⟩:=blk3 ((hBr.block w.heap.size (Array.getElem?_eq_some_iff.1 HX.out).1).trans HX.out);clear hs;by_cases hlt:k<l.length
  ·have hlt':(k:Int)<l.length:=by omega
   obtain ⟨b1,o1,x,rfl,hb1,hx,c1⟩:=(HL.out.below (join HB.out hBr)).at hlt;have hxb:=HXS.out x (by rw [hx];exact getD_mem 0 hlt);obtain ⟨xn,rfl⟩:∃ n:Nat,x=(n:Int):=⟨x.toNat,by omega⟩;have hxn:xn<t.words.length:=by omega
   obtain ⟨b2,o2,y,rfl,hb2,hy,d1,d2,d3⟩:=(HW.out.below (join HB.out hBr)).at hxn;have hsn:isum ((l.take (k+1)).map fun i=>(t.words.getD i.toNat default).wt)=isum ((l.take k).map fun i=>(t.words.getD i.toNat default).wt)+y.wt:=by
    rw [take_snocD 0 hlt,List.map_append,List.map_cons,List.map_nil,isum_snoc,← hx,Int.toNat_natCast,← hy]
   have hs2:=HBD.out (k+1);rw [hsn,← HS.out] at hs2;rw [← HS.out] at hsn;have HSN:=Lib.hid hsn;obtain ⟨ya,yb,yc⟩:=y;dsimp only at d1 d2 d3 hs2 HSN;have hxi:(xn:Int)<t.words.length:=hxb.2;clear hx hy hsn hBr;go_wp2
   go_quiet (fail)
   go_wp2;go_roundw
   case rel=>exact ⟨k+1,_,by omega,by go_num,rfl,HSN.out.symm,below_drewN' HBr.out _⟩
   case measure=>simp [intOf];omega
  ·obtain rfl:k=l.length:=by omega
   clear hBr;go_wp2;go_ret;exact ⟨ret_int (by rw [HT.out,HS.out]),join HB.out HBr.out⟩
end Go.Proofs.YtadnggecnjdhiaaGreat
namespace Go.Proofs.YtadnggecnjdhiaaGreat
open Go.RowKit Tx
attribute [local go_sem] Oper.semAt_some
def ReadPost (l:List Int) (er:Int) (w:World) (e:Ending) (w':World):Prop:=∃ p c,e=.returned (.tuple #[.slice p l.length c,.int .i64 er])∧Ints w' p l∧Below w.heap.size w w'
theorem said_keeps (t:Text) (l:List Int):t.keeps l=!decide (0<(rsaid t l).length):=by
 unfold rsaid Text.keeps;rw [idx_any]
set_option maxHeartbeats 6000000 in
set_option maxRecDepth 100000 in
theorem rLeast_any (t:Text) (wt:Int) (hl1:t.words.length≤1000000) (hl2:t.turns.length≤1000000) (pw pt:Option Addr) (cw ct:Nat) (w:World) (hW:TxAt w t pw pt) :
  Calls Tryz.prog 66 #[.agg #[.slice pw t.words.length cw,.slice pt t.turns.length ct,.int .i64 t.breath],.int .i64 wt] w (ReadPost (leaL t wt) (leaE t wt) w):=by
 have HC:=Lib.hid (fun W (h:Below w.heap.size w W)=>rCheck_any t hl1 hl2 pw pt cw ct W (hW.below h));have HB:=Lib.hid (below1 w (.cells #[.slice pw t.words.length cw,.slice pt t.turns.length ct,.int .i64 t.breath] 32));have HX:=Lib.hid (heap_last w (.cells #[.slice pw t.words.length cw,.slice pt t.turns.length ct,.int .i64 t.breath] 32));have HW:=Lib.hid hW;clear hW;by_cases he:t.err=0
 ·have ok:=err_ok he;have hn12:=ok.n12;have hm6:=ok.m6;rw [he] at HC;by_cases hw:wt<0
  ·have e1:leaL t wt=[]:=by unfold leaL;rw [if_pos he,if_pos hw]
   have e2:leaE t wt=3:=by unfold leaE;rw [if_pos he,if_pos hw]
   rw [e1,e2];obtain ⟨k0,k1,k2⟩:=blk3 HX.out;clear he e1 e2 ok
   go_enter Tryz.func66,Tryz.ntmps66
   go_wp2_with fail
   refine (HC.out _ HB.out).mono ?_;rintro e w5 ⟨rfl,hB5⟩;have HB5:=Lib.hid (join HB.out hB5);clear hB5;go_wp2;go_ret2;exact ⟨none,0,rfl,.inl rfl,HB5.out⟩
  ·have e1:leaL t wt=(t.least wt).1:=by unfold leaL;rw [if_pos he,if_neg hw]
   have e2:leaE t wt=(t.least wt).2:=by unfold leaE;rw [if_pos he,if_neg hw]
   rw [e1,e2];have hw':¬ wt<0:=hw;have HBEST:=Lib.hid (fun (b:List Int) (h:BestOf (t.leastP wt) (2 ^ t.len) b)=>best_least h);have HP:=Lib.hid (fun l=>show t.leastP wt l=(decide (wt≤t.wtOf l)&&!decide (0<(rsaid t l).length)) by rw [← said_keeps];rfl);have HOK:=Lib.hid ok;have hlen:t.len=t.words.length:=rfl;have hpow:2 ^ t.words.length≤4096:=by exact Nat.pow_le_pow_right (by omega) (show t.words.length≤12 by omega)
   have HINC:Hid (∀ n,n<2 ^ t.words.length→(bits 0 n).length≤12∧∀ x∈bits 0 n,0≤x∧x<t.words.length):=Lib.hid (fun n hn=>by
    have h:=bits_incr t.words.length 0 n hn;rw [Nat.zero_add] at h;refine ⟨?_,fun x hx=>by have:=h.bd x hx;omega⟩;rcases h.len with h | h
    ·omega
    ·rw [h];simp)
   rw [hlen] at HBEST;generalize t.least wt=le at HBEST ⊢;have HLN:=Lib.hid (fun W=>listsN_any t (by omega) pw cw (.slice pt t.turns.length ct) (.int .i64 t.breath) W);have HSA:=Lib.hid (fun (l:List Int) (hll:l.length≤12) p c W (h:Below w.heap.size w W) hL=>Said_any t (by omega) (fun u hu=>by have:=HOK.out.turn u hu;omega) l (by omega) pt p ct c (.slice pw t.words.length cw) (.int .i64 t.breath) W (HW.out.turns.below h) hL);have HWT:=Lib.hid (fun (l:List Int) (hll:l.length≤12) hx p c W (h:Below w.heap.size w W) hL=>rWeight_any t HOK.out l (by omega) hx pw p cw c (.slice pt t.turns.length ct) (.int .i64 t.breath) W (HW.out.words.below h) hL);have hN0:0<2 ^ t.words.length:=Nat.two_pow_pos _;generalize hN:2 ^ t.words.length=NN at HBEST HINC HLN hpow hN0;obtain ⟨k0,k1,k2⟩:=blk3 HX.out;clear he e1 e2 ok hw hlen hN
   go_enter Tryz.func66,Tryz.ntmps66
   go_wp2_with fail
   refine (HC.out _ HB.out).mono ?_;rintro e w5 ⟨rfl,hB5⟩;have HX:=Lib.hid ((hB5.block w.heap.size (Array.getElem?_eq_some_iff.1 HX.out).1).trans HX.out);have HB:=Lib.hid (join HB.out hB5);clear hB5 k0 k1 k2;go_wp2_with fail
   go_loopw [7,8,9] (fun bv nv _ wr=>∃ (n:Nat) (b:List Int) (p:Option Addr) (c:Nat),bv=.slice p b.length c∧nv=.int .i64 n∧1≤n∧(n≤NN∨n=1)∧BestOf (t.leastP wt) n b∧b.length≤12∧Ints wr p b∧Below w5.heap.size w5 wr) (fun _ nv _ _=>NN-(intOf nv).toNat)
   case atStart=>exact ⟨1,[],none,0,rfl,rfl,Nat.le_refl _,.inr rfl,BestOf.zero _,by simp,.inl rfl,Below.refl _ _⟩
   case round =>
    obtain ⟨wo,rfl⟩:∃ wo:World,wo=wr:=⟨_,rfl⟩;obtain ⟨n,b,p,c,rfl,rfl,hn1,hnN,hbest,hbl,hIb,hBr⟩:=hrel;have HBS:=Lib.hid hbest;have HIB:=Lib.hid hIb;have HBR:=Lib.hid hBr;have HXr:=Lib.hid ((hBr.block w.heap.size (Array.getElem?_eq_some_iff.1 HX.out).1).trans HX.out);obtain ⟨k0,k1,k2⟩:=blk3 HXr.out;clear hbest hIb hBr;go_wp2_with fail
    refine (HLN.out _).mono ?_;rintro e w6 ⟨rfl,hB⟩;have HIB:=Lib.hid (HIB.out.below hB);have HXr:=Lib.hid ((hB.block w.heap.size (Array.getElem?_eq_some_iff.1 HXr.out).1).trans HXr.out);have HBR:=Lib.hid (join HBR.out hB);clear hB k0 k1 k2;by_cases hlt:n<NN
    ·have hlt':(n:Int)<(NN:Int):=by omega
     obtain ⟨hl12,hlx⟩:=HINC.out n hlt;have HLX:=Lib.hid hlx;have HPN:=Lib.hid (HP.out (bits 0 n));have HNE:=Lib.hid (bits_ne (w:=0) (n:=n) (by omega));clear hlx;go_wp2_with fail
     refine (list_any n (by omega) _).mono ?_;rintro e w7 ⟨v,rfl,ho,hB⟩;obtain ⟨q,d,rfl,hIl,-⟩:=own_rd ho rfl;have HSK:=Lib.hid (fun h=>HBS.out.skip (p:=t.leastP wt) h);have HTK:=Lib.hid (fun h1 h2=>HBS.out.take (p:=t.leastP wt) hn1 h1 h2);have HKP:=Lib.hid (fun h1 h2=>HBS.out.keep (p:=t.leastP wt) h1 h2);obtain ⟨l,hl⟩:∃ l,l=bits 0 n:=⟨_,rfl⟩;rw [← hl] at hIl hl12 HLX HPN HNE HSK HTK HKP ⊢;have HIL:=Lib.hid hIl;have HIB:=Lib.hid (HIB.out.below hB);have HXr:=Lib.hid ((hB.block w.heap.size (Array.getElem?_eq_some_iff.1 HXr.out).1).trans HXr.out);have HBR:=Lib.hid (join HBR.out hB);obtain ⟨k0,k1,k2⟩:=blk3 HXr.out;clear hB ho hIl hl;go_wp2_with fail
     refine (HSA.out l hl12 q d _ (join HB.out HBR.out) HIL.out).mono ?_;rintro e w8 ⟨v,rfl,ho,hB⟩;obtain ⟨sp,sc,rfl⟩:=own_val ho;have HIL:=Lib.hid (HIL.out.below hB);have HIB:=Lib.hid (HIB.out.below hB);have HXr:=Lib.hid ((hB.block w.heap.size (Array.getElem?_eq_some_iff.1 HXr.out).1).trans HXr.out);have HBR:=Lib.hid (join HBR.out hB);clear hB ho k0 k1 k2;obtain ⟨k0,k1,k2⟩:=blk3 HXr.out;generalize (rsaid t l).length=sn at HPN ⊢;by_cases hs:0<sn
     ·have hs':(0:Int)<sn:=by omega
      have HF:=Lib.hid (HSK.out (by rw [HPN.out,decide_eq_true hs];simp));clear hs;go_wp2;go_roundw
      case rel=>exact ⟨n+1,b,p,c,rfl,by go_num,by omega,by omega,HF.out,hbl,HIB.out,HBR.out⟩
      case measure=>simp [intOf];omega
     ·obtain rfl:sn=0:=by omega
      clear hs;go_wp2_with fail
      refine (HWT.out l hl12 HLX.out q d _ (join HB.out HBR.out) HIL.out).mono ?_;rintro e w9 ⟨rfl,hB⟩;have HIL:=Lib.hid (HIL.out.below hB);have HIB:=Lib.hid (HIB.out.below hB);have HXr:=Lib.hid ((hB.block w.heap.size (Array.getElem?_eq_some_iff.1 HXr.out).1).trans HXr.out);have HBR:=Lib.hid (join HBR.out hB);clear hB k0 k1 k2;generalize t.wtOf l=tw at HPN ⊢;by_cases hw:tw<wt
      ·have HF:=Lib.hid (HSK.out (by rw [HPN.out,decide_eq_false (show ¬ wt≤tw by omega)];rfl));go_wp2;go_roundw
       case rel=>exact ⟨n+1,b,p,c,rfl,by go_num,by omega,by omega,HF.out,hbl,HIB.out,HBR.out⟩
       case measure=>simp [intOf];omega
      ·have HPT:Hid (t.leastP wt l=true):=Lib.hid (by rw [HPN.out,decide_eq_true (show wt≤tw by omega)];rfl);by_cases hb0:b.length=0
       ·have hb0':((b.length:Int) == 0)=true:=by rw [beq_iff_eq];omega
        have HF:=Lib.hid (HTK.out HPT.out (.inl (List.length_eq_zero_iff.1 hb0)));clear hb0;go_wp2;go_roundw
        case rel=>exact ⟨n+1,l,q,d,rfl,by go_num,by omega,by omega,HF.out,hl12,HIL.out,HBR.out⟩
        case measure=>simp [intOf];omega
       ·have hb0':((b.length:Int) == 0)=false:=by rw [beq_eq_false_iff_ne];omega
        have HBN:Hid (b≠[]):=Lib.hid (fun e=>hb0 (by rw [e];rfl));by_cases h1:l.length<b.length
        ·have h1':(l.length:Int)<b.length:=by omega
         have HF:=Lib.hid (HTK.out HPT.out (.inr (.inl h1)));clear hb0;go_wp2;go_roundw
         case rel=>exact ⟨n+1,l,q,d,rfl,by go_num,by omega,by omega,HF.out,hl12,HIL.out,HBR.out⟩
         case measure=>simp [intOf];omega
        ·have h1':¬ (l.length:Int)<b.length:=by omega
         by_cases h2:l.length=b.length
         ·have h2':((l.length:Int) == (b.length:Int))=true:=by rw [beq_iff_eq];omega
          have HBF:=Lib.hid (fun W hp hq=>before_any2 l b h2 (by omega) q p d c W hp hq);have HH2:=Lib.hid h2;clear hb0 h2;go_wp2_with fail
          refine (HBF.out _ HIL.out HIB.out).mono ?_;rintro e w9 ⟨rfl,hB⟩;have HIL:=Lib.hid (HIL.out.below hB);have HIB:=Lib.hid (HIB.out.below hB);have HBR:=Lib.hid (join HBR.out hB);clear hB;cases hlx:lexB l b with
          | true =>
           have HF:=Lib.hid (HTK.out HPT.out (.inr (.inr ⟨HH2.out,hlx⟩)));clear hlx;go_wp2;go_roundw
           case rel=>exact ⟨n+1,l,q,d,rfl,by go_num,by omega,by omega,HF.out,hl12,HIL.out,HBR.out⟩
           case measure=>simp [intOf];omega
          | false =>
           have HF:=Lib.hid (HKP.out HBN.out (fun h=>by
            rcases h with h | ⟨_,h⟩
            ·omega
            ·rw [hlx] at h;cases h))
           clear hlx;go_wp2;go_roundw
           case rel=>exact ⟨n+1,b,p,c,rfl,by go_num,by omega,by omega,HF.out,hbl,HIB.out,HBR.out⟩
           case measure=>simp [intOf];omega
         ·have h2':((l.length:Int) == (b.length:Int))=false:=by rw [beq_eq_false_iff_ne];omega
          have HF:=Lib.hid (HKP.out HBN.out (fun h=>by
           rcases h with h | ⟨h,_⟩
           ·omega
           ·omega))
          clear hb0 h2;go_wp2;go_roundw
          case rel=>exact ⟨n+1,b,p,c,rfl,by go_num,by omega,by omega,HF.out,hbl,HIB.out,HBR.out⟩
          case measure=>simp [intOf];omega
    ·obtain rfl:n=NN:=by omega
     have HF:=Lib.hid (HBEST.out b HBS.out);clear HBS;by_cases hb0:b.length=0
     ·have hb0':((b.length:Int) == 0)=true:=by rw [beq_iff_eq];omega
      have HF2:Hid (le=([],6)):=Lib.hid (by rw [HF.out,if_pos (List.length_eq_zero_iff.1 hb0),List.length_eq_zero_iff.1 hb0]);have hle:=HF2.out;clear HF HF2 hb0 HBEST;subst hle;go_wp2;go_ret2;exact ⟨none,0,rfl,.inl rfl,join HB.out HBR.out⟩
     ·have hb0':((b.length:Int) == 0)=false:=by rw [beq_eq_false_iff_ne];omega
      have HF2:Hid (le=(b,0)):=Lib.hid (by rw [HF.out,if_neg (fun e=>hb0 (by rw [e];rfl))]);have hle:=HF2.out;clear HF HF2 hb0 HBEST;subst hle;go_wp2;go_ret2;exact ⟨p,c,rfl,HIB.out,join HB.out HBR.out⟩
 ·have e1:leaL t wt=[]:=by unfold leaL;rw [if_neg he]
  have e2:leaE t wt=t.err:=by unfold leaE;rw [if_neg he]
  rw [e1,e2];have HE:(t.err != 0)=true:=by simpa using he
  obtain ⟨k0,k1,k2⟩:=blk3 HX.out;clear he e1 e2;generalize t.err=er at HC HE ⊢
  go_enter Tryz.func66,Tryz.ntmps66
  go_wp2_with fail
  refine (HC.out _ HB.out).mono ?_;rintro e w5 ⟨rfl,hB5⟩;have HB5:=Lib.hid (join HB.out hB5);clear hB5;go_wp2;go_ret2;exact ⟨none,0,rfl,.inl rfl,HB5.out⟩
end Go.Proofs.YtadnggecnjdhiaaGreat
namespace Go.Proofs.YtadnggecnjdhiaaGreat
open Go.RowKit Tx
attribute [local go_sem] Oper.semAt_some
def wo (k x:Nat):List Int:=((List.range k).filter fun o=>o≠x).map fun (o:Nat)=>(o:Int)
theorem wo_succ (k x:Nat):wo (k+1) x=wo k x++(if k=x then [] else [(k:Int)]):=by
 unfold wo;rw [List.range_succ,List.filter_append,List.map_append];by_cases h:k=x
 ·simp [h]
 ·simp [h]
theorem wo_len (k x:Nat):(wo k x).length≤k:=by
 unfold wo;rw [List.length_map];exact Nat.le_trans (List.length_filter_le _ _) (by simp)
theorem wo_words (n x:Nat) (h:x<n):wordsL 0 x++wordsL ((x:Int)+1) (n-(x+1))=wo n x:=by
 have a:∀ k,k≤x→wo k x=wordsL 0 k:=by
  intro k
  induction k with
  | zero=>intro _;rfl
  | succ k ih=>intro hk;rw [wo_succ,if_neg (by omega),ih (by omega),wordsL_succ];simp
 have b:∀ k,wo (x+1+k) x=wordsL 0 x++wordsL ((x:Int)+1) k:=by
  intro k
  induction k with
  | zero=>rw [Nat.add_zero,wo_succ,if_pos rfl,a x (Nat.le_refl _)];rfl
  | succ k ih=>rw [show x+1+(k+1)=x+1+k+1 by omega,wo_succ,if_neg (by omega),ih,wordsL_succ,← List.append_assoc];congr 2
 have:=b (n-(x+1));rw [show x+1+(n-(x+1))=n by omega] at this;exact this.symm
theorem wo_len2 (n x:Nat) (h:x<n):(wo n x).length=n-1:=by
 rw [← wo_words n x h,List.length_append,wordsL_length,wordsL_length];omega
def spareP (t:Text) (x:Nat):Bool:=decide (0<(wo t.words.length x).length)&&t.keeps (wo t.words.length x)
def spareTo (t:Text) (k:Nat):List Int:=((List.range k).filter (spareP t)).map fun (o:Nat)=>(o:Int)
theorem spareTo_succ (t:Text) (k:Nat):spareTo t (k+1)=spareTo t k++(if spareP t k then [(k:Int)] else []):=by
 unfold spareTo;rw [List.range_succ,List.filter_append,List.map_append];cases h:spareP t k <;> simp [h]
theorem spareTo_len (t:Text) (k:Nat):(spareTo t k).length≤k:=by
 unfold spareTo;rw [List.length_map];exact Nat.le_trans (List.length_filter_le _ _) (by simp)
def spaL (t:Text):List Int:=if t.err=0 then spareTo t t.words.length else []
set_option maxHeartbeats 1000000 in
theorem without_any (n cw:Nat) (hn:n≤1000) (x:Nat) (hx:x≤1000) (pw:Option Addr) (v1 v2 v3:Value) (w:World) :
  Calls Tryz.prog 140 #[.agg #[.slice pw n cw,v1,v2,v3],.int .i64 x] w (RowPost (wo n x) w):=by
 obtain ⟨i0,hi0,hz0,hz1,hz2⟩:=info_parts A_infoI;have HB:=Lib.hid (below1 w (.cells #[.slice pw n cw,v1,v2,v3] 84))
 go_enter Tryz.func140,Tryz.ntmps140
 go_wp2_with fail
 have hsz:(w.alloc (.cells #[.slice pw n cw,v1,v2,v3] 84)).heap.size=w.heap.size+1:=by simp
 generalize w.alloc (.cells #[.slice pw n cw,v1,v2,v3] 84)=W1 at HB hsz ⊢;have hsz1:w.heap.size+1≤W1.heap.size:=by omega
 clear hsz
 go_loopw [5,6,11] (fun v _ i wr=>∃ k:Nat,k≤n∧i=.int .i64 k∧wr.ownsRow W1.heap.size 3 1 v (wo k x).length ((wo k x).map (Value.int .i64))∧Below W1.heap.size W1 wr) (fun _ _ i _=>n-(intOf i).toNat)
 case atStart=>exact ⟨0,Nat.zero_le _,rfl,own_none _ _ _ _,Below.refl _ _⟩
 case round =>
  obtain ⟨k,hk,rfl,hown,hBr⟩:=hrel;have HO:=Lib.hid hown;have HBr:=Lib.hid hBr;have hz7:=hBr.size;have hwl:=wo_len k x;have HSN:=Lib.hid (wo_succ k x);clear hown hBr;by_cases hlt:k<n
  ·have hlt':(k:Int)<n:=by omega
   by_cases hkx:k=x
   ·have hkx':((k:Int) != (x:Int))=false:=by simp [hkx]
    have HKX:=Lib.hid hkx;clear hkx;go_wp2;go_roundw
    case rel=>exact ⟨k+1,by omega,by go_num,by rw [HSN.out,if_pos HKX.out,List.append_nil];exact HO.out,HBr.out⟩
    case measure=>simp [intOf];omega
   ·have hkx':((k:Int) != (x:Int))=true:=by rw [bne_iff_ne];omega
    have HKX:=Lib.hid hkx;clear hkx;go_wp2_with (at_builtin;refine wpList_append_own _ rfl _ _ 34 rfl W1.heap.size 3 i0 (.int .i64 0) 1 8 A_undI hi0 hz0 hz1 hz2 rfl (by decide) _ _ _ rfl (HO.out.alloc _) ⟨wr.heap.size,0,none⟩ 1 1 [.int .i64 (k:Int)] rfl rfl ?d1 ?d2 ?d3 ?d4 ?d5 ?_)
    case d1=>exact cell_one_new _ _ _
    case d2=>first | rfl | (intro u hu;simp at hu;subst hu;rfl)
    case d3=>unfold maxLen;omega
    case d4=>omega
    case d5=>first | omega | (simp;omega)
    intro v' w8 hown8 hgrow _;have hB8:=below_grown (al2 HBr.out (by omega) _) (HO.out.alloc _) (Nat.le_refl _) (by simp;omega) hgrow;have HO8:=Lib.hid hown8;have HB8:=Lib.hid hB8;clear hgrow hown8 hB8;go_wp2;go_roundw
    case rel=>exact ⟨k+1,by omega,by go_num,by rw [HSN.out,if_neg HKX.out];simpa using HO8.out,HB8.out⟩
    case measure=>simp [intOf];omega
  ·obtain rfl:k=n:=by omega
   clear HSN;go_wp2;go_ret;exact ⟨_,rfl,own_base HO.out (by omega),join HB.out HBr.out⟩
set_option maxHeartbeats 2000000 in
set_option maxRecDepth 100000 in
theorem spare_any (t:Text) (ok:Text.Ok t) (pw pt:Option Addr) (cw ct:Nat) (mv:Value) (w:World) (hW:TxAt w t pw pt) :
  Calls Tryz.prog 118 #[.agg #[.slice pw t.words.length cw,.slice pt t.turns.length ct,.int .i64 t.breath,mv]] w (RowPost (spareTo t t.words.length) w):=by
 obtain ⟨i0,hi0,hz0,hz1,hz2⟩:=info_parts A_infoI;have hn12:=ok.n12;have HWO:=Lib.hid (fun (x:Nat) (hx:x≤1000) W=>without_any t.words.length cw (by omega) x hx pw (.slice pt t.turns.length ct) (.int .i64 t.breath) mv W);have HKS:=Lib.hid (fun (l:List Int) (hll:l.length≤1000000) p c W (h:Below w.heap.size w W) hL=>keepSense_any t ok l hll pt p ct c (.slice pw t.words.length cw) (.int .i64 t.breath) mv W (hW.turns.below h) hL);have HB:=Lib.hid (below1 w (.cells #[.slice pw t.words.length cw,.slice pt t.turns.length ct,.int .i64 t.breath,mv] 84));have HX:=Lib.hid (heap_last w (.cells #[.slice pw t.words.length cw,.slice pt t.turns.length ct,.int .i64 t.breath,mv] 84));have hsz:(w.alloc (.cells #[.slice pw t.words.length cw,.slice pt t.turns.length ct,.int .i64 t.breath,mv] 84)).heap.size=w.heap.size+1:=by simp
 have k0:=blk_cells HX.out 0 _ rfl;clear hW ok
 go_enter Tryz.func118,Tryz.ntmps118
 go_wp2_with fail
 generalize w.alloc (.cells #[.slice pw t.words.length cw,.slice pt t.turns.length ct,.int .i64 t.breath,mv] 84)=W1 at HB HX hsz k0 ⊢;have hsz1:w.heap.size+1≤W1.heap.size:=by omega
 clear hsz
 go_loopw [3,4,5,10] (fun v _ _ i wr=>∃ k:Nat,k≤t.words.length∧i=.int .i64 k∧wr.ownsRow W1.heap.size 3 1 v (spareTo t k).length ((spareTo t k).map (Value.int .i64))∧Below W1.heap.size W1 wr) (fun _ _ _ i _=>t.words.length-(intOf i).toNat)
 case atStart=>exact ⟨0,Nat.zero_le _,rfl,own_none _ _ _ _,Below.refl _ _⟩
 case round =>
  clear k0;obtain ⟨w0,rfl⟩:∃ w0:World,w0=wr:=⟨_,rfl⟩;obtain ⟨k,hk,rfl,hown,hBr⟩:=hrel;have HO:=Lib.hid hown;have HBr:=Lib.hid hBr;have hz7:=hBr.size;have hsl:=spareTo_len t k;have HSN:=Lib.hid (spareTo_succ t k);have HXr:=Lib.hid ((hBr.block w.heap.size (by omega)).trans HX.out);clear hown hBr;by_cases hlt:k<t.words.length
  ·have hlt':(k:Int)<t.words.length:=by omega
   have k0:=blk_cells HXr.out 0 _ rfl;have k1:=blk_cells HXr.out 1 _ rfl;have k2:=blk_cells HXr.out 2 _ rfl;have k3:=blk_cells HXr.out 3 _ rfl;go_wp2_with fail
   refine (HWO.out k (by omega) _).mono ?_;rintro e w5 ⟨v5,rfl,ho,hB⟩;have hol:(wo t.words.length k).length≤1000000:=by have:=wo_len t.words.length k;omega
   obtain ⟨q,d,rfl,hI,-⟩:=own_rd ho rfl;have HI:=Lib.hid hI;have HPK:=Lib.hid (show spareP t k=(decide (0<(wo t.words.length k).length)&&t.keeps (wo t.words.length k)) from rfl);have HXr:=Lib.hid ((hB.block w.heap.size (Array.getElem?_eq_some_iff.1 HXr.out).1).trans HXr.out);have HO:=Lib.hid (own_below HO.out hB);have HBr:=Lib.hid (join HBr.out hB);have hz8:=HBr.out.size;clear ho hI hB k0 k1 k2 k3 hz7;have k0:=blk_cells HXr.out 0 _ rfl;have k1:=blk_cells HXr.out 1 _ rfl;have k2:=blk_cells HXr.out 2 _ rfl;have k3:=blk_cells HXr.out 3 _ rfl;generalize wo t.words.length k=l at hol HI HPK ⊢;by_cases h0:0<l.length
   ·have h0':(0:Int)<l.length:=by omega
    have HH0:=Lib.hid h0;clear h0;go_wp2_with fail
    refine (HKS.out l hol q d _ (join HB.out HBr.out) HI.out).mono ?_;rintro e w6 ⟨rfl,hB⟩;have HO:=Lib.hid (own_below HO.out hB);have HBr:=Lib.hid (join HBr.out hB);have hz9:=HBr.out.size;clear hB k0 k1 k2 k3 hz8;cases hkp:t.keeps l with
    | true =>
     have HF:Hid (spareP t k=true):=Lib.hid (by rw [HPK.out,hkp,decide_eq_true HH0.out];rfl);clear hkp HPK;go_wp2_with (at_builtin;refine wpList_append_own _ rfl _ _ 34 rfl W1.heap.size 3 i0 (.int .i64 0) 1 8 A_undI hi0 hz0 hz1 hz2 rfl (by decide) _ _ _ rfl (HO.out.alloc _) ⟨w6.heap.size,0,none⟩ 1 1 [.int .i64 (k:Int)] rfl rfl ?d1 ?d2 ?d3 ?d4 ?d5 ?_)
     case d1=>exact cell_one_new _ _ _
     case d2=>first | rfl | (intro u hu;simp at hu;subst hu;rfl)
     case d3=>unfold maxLen;omega
     case d4=>omega
     case d5=>first | omega | (simp;omega)
     intro v' w8 hown8 hgrow _;have hB8:=below_grown (al2 HBr.out (by omega) _) (HO.out.alloc _) (Nat.le_refl _) (by simp;omega) hgrow;have HO8:=Lib.hid hown8;have HB8:=Lib.hid hB8;clear hgrow hown8 hB8;go_wp2;go_roundw
     case rel=>exact ⟨k+1,by omega,by go_num,by rw [HSN.out,if_pos HF.out];simpa using HO8.out,HB8.out⟩
     case measure=>simp [intOf];omega
    | false =>
     have HF:Hid (spareP t k=false):=Lib.hid (by rw [HPK.out,hkp,Bool.and_false]);clear hkp HPK;go_wp2;go_roundw
     case rel=>exact ⟨k+1,by omega,by go_num,by rw [HSN.out,HF.out];simpa using HO.out,HBr.out⟩
     case measure=>simp [intOf];omega
   ·have h0':¬ (0:Int)<l.length:=by omega
    have HF:Hid (spareP t k=false):=Lib.hid (by rw [HPK.out,decide_eq_false h0,Bool.false_and]);clear h0 HPK;go_wp2;go_roundw
    case rel=>exact ⟨k+1,by omega,by go_num,by rw [HSN.out,HF.out];simpa using HO.out,HBr.out⟩
    case measure=>simp [intOf];omega
  ·obtain rfl:k=t.words.length:=by omega
   clear HSN;go_wp2;go_ret;exact ⟨_,rfl,own_base HO.out (by omega),join HB.out HBr.out⟩
set_option maxHeartbeats 2000000 in
theorem Spare_any (t:Text) (hl1:t.words.length≤1000000) (hl2:t.turns.length≤1000000) (pw pt:Option Addr) (cw ct:Nat) (w:World) (hW:TxAt w t pw pt) :
  Calls Tryz.prog 67 #[.agg #[.slice pw t.words.length cw,.slice pt t.turns.length ct,.int .i64 t.breath]] w (ListPost (spaL t) t.err w):=by
 by_cases he:t.err=0
 ·have HS:=Lib.hid (fun W (h:Below w.heap.size w W)=>open_ok t he pw pt cw ct W (hW.below h));have HP:=Lib.hid (fun W mv (h:Below w.heap.size w W)=>spare_any t (err_ok he) pw pt cw ct mv W (hW.below h));have e1:spaL t=spareTo t t.words.length:=by unfold spaL;rw [if_pos he]
  rw [e1,he];clear he hW e1
  go_enter Tryz.func67,Tryz.ntmps67
  go_wp2_with fail
  refine (HS.out _ (below1 _ _)).mono ?_;rintro e w5 ⟨rfl,hB5⟩;have HB5:=Lib.hid (join (below1 _ _) hB5);clear hB5;go_wp2_with fail
  refine (HP.out _ _ (join HB5.out (below1 _ _))).mono ?_;rintro e w6 ⟨v,rfl,ho,hB⟩;have HO:=Lib.hid (own_base ho (base':=w.heap.size) (by have:=HB5.out.size;simp;omega));have HB6:=Lib.hid (join (join HB5.out (below1 _ _)) hB);clear hB ho;go_wp2;go_ret2;exact ⟨_,rfl,HO.out,HB6.out⟩
 ·have HS:=Lib.hid (fun W (h:Below w.heap.size w W)=>open_bad t he hl1 hl2 pw pt cw ct W (hW.below h));have e1:spaL t=[]:=by unfold spaL;rw [if_neg he]
  have HE:(t.err != 0)=true:=by simpa using he
  rw [e1];clear he hW e1;generalize t.err=er at HS HE ⊢
  go_enter Tryz.func67,Tryz.ntmps67
  go_wp2_with fail
  refine (HS.out _ (below1 _ _)).mono ?_;rintro e w5 ⟨rfl,hB5⟩;have HB5:=Lib.hid (join (below1 _ _) hB5);clear hB5;go_wp2;go_ret2;exact ⟨_,rfl,own_none _ _ _ _,join HB5.out (below1 _ _)⟩
def spSp (pw:Option Addr) (cw A n x B:Nat):Nat→List Value→Value→World→Prop
 | 0,_,v,_=>v=.int .i64 (x:Int)
 | 1,L,v,w=>∃ p c,v=.slice p (wordsL 0 x).length c∧w.ownsRow B 3 1 (.slice p (wordsL 0 x).length c) (wordsL 0 x).length ((wordsL 0 x).map (Value.int .i64))∧(wordsL 0 x).length≤c
 | 2,_,v,_=>v=.int .i64 (x:Int)
 | 3,_,v,_=>v=.int .i64 ((x:Int)+1)
 | 4,_,v,_=>v=.pointer (some ⟨A,0,none⟩)
 | 5,_,v,_=>v=.slice pw n cw
 | 6,_,v,_=>v=.int .i64 (n:Int)
 | 7,L,v,w=>∃ p c,v=.slice p (wordsL ((x:Int)+1) (n-(x+1))).length c∧w.ownsRow B 3 1 (.slice p (wordsL ((x:Int)+1) (n-(x+1))).length c) (wordsL ((x:Int)+1) (n-(x+1))).length ((wordsL ((x:Int)+1) (n-(x+1))).map (Value.int .i64))∧(wordsL ((x:Int)+1) (n-(x+1))).length≤c
 | _,_,_,_=>False
theorem spSp_stable (pw:Option Addr) (cw A n x B:Nat):∀ i L v w w',spSp pw cw A n x B i L v w→Rs.Gr w w'→spSp pw cw A n x B i L v w':=by
 intro i L v w w' h hg
 match i with
 | 0=>exact h
 | 1=>obtain ⟨p,c,h1,h2,h3⟩:=h;exact ⟨p,c,h1,own_below h2 hg,h3⟩
 | 2=>exact h
 | 3=>exact h
 | 4=>exact h
 | 5=>exact h
 | 6=>exact h
 | 7=>obtain ⟨p,c,h1,h2,h3⟩:=h;exact ⟨p,c,h1,own_below h2 hg,h3⟩
theorem app_none (p:Option Addr) (n c:Nat) (hnc:n≤c) (ty:TypeId) (W:World):(Builtin.append_ #[34,34] ty #[.slice p n c,.slice none 0 0]).run Tryz.prog W=.ok (.slice p n c) W:=by
 obtain ⟨i0,hi0,hz0,hz1,hz2⟩:=info_parts A_infoI;cases p <;> simp [Builtin.append_,run_underlying A_undI,sizeOf,typeInfo,hi0,Builtin.lenOf,Builtin.firstCells,hnc,storeCells]
theorem wpList_append_none {P:Program} {ops:Array Oper} {rest:List Oper} {o:Oper} {a:Act} {w:World} {Q:Exit→Act→World→Prop} (hgd:o.guard=none) (s x:Operand) (t:TypeId)
  (ho:o.op=.call { callee:=.builtin .append,args:=#[s,x],argTypes:=#[t,t] }) (v:Value) (hs:a.eval s=v) (hx:a.eval x=.slice none 0 0)
  (hr:∀ ty,(Builtin.append_ #[t,t] ty #[v,.slice none 0 0]).run P w=.ok v w) (h:wpList P ops Q rest (a.put o.dst v) w):wpList P ops Q (o::rest) a w :=
 wpList_plain hgd fun _ hK=>by
  unfold Oper.wp execOp;simp only [ho,resolve,invoke,builtin,Sem.run_bind,Sem.run_pure,Result.andThen_ok,List.map_toArray,List.map_cons,List.map_nil,hs,hx,hr];exact hK _ _ h
set_option maxHeartbeats 4000000 in
set_option maxRecDepth 100000 in
theorem rSpare_any (t:Text) (hl1:t.words.length≤1000000) (hl2:t.turns.length≤1000000) (pw pt:Option Addr) (cw ct:Nat) (w:World) (hW:TxAt w t pw pt) :
  Calls Tryz.prog 68 #[.agg #[.slice pw t.words.length cw,.slice pt t.turns.length ct,.int .i64 t.breath]] w (ListPost (spaL t) t.err w):=by
 obtain ⟨i0,hi0,hz0,hz1,hz2⟩:=info_parts A_infoI;have HC:=Lib.hid (fun W (h:Below w.heap.size w W)=>rCheck_any t hl1 hl2 pw pt cw ct W (hW.below h));have HB:=Lib.hid (below1 w (.cells #[.slice pw t.words.length cw,.slice pt t.turns.length ct,.int .i64 t.breath] 32));have HX:=Lib.hid (heap_last w (.cells #[.slice pw t.words.length cw,.slice pt t.turns.length ct,.int .i64 t.breath] 32));have HW:=Lib.hid hW;clear hW;by_cases he:t.err=0
 ·have ok:=err_ok he;have hn12:=ok.n12;have hm6:=ok.m6;have e1:spaL t=spareTo t t.words.length:=by unfold spaL;rw [if_pos he]
  rw [he] at HC;rw [e1,he];have HSA:=Lib.hid (fun (l:List Int) (hll:l.length≤12) p c W (h:Below w.heap.size w W) hL=>Said_any t (by omega) (fun u hu=>by have:=ok.turn u hu;omega) l (by omega) pt p ct c (.slice pw t.words.length cw) (.int .i64 t.breath) W (HW.out.turns.below h) hL);obtain ⟨k0,k1,k2⟩:=blk3 HX.out;clear he e1 ok
  go_enter Tryz.func68,Tryz.ntmps68
  go_wp2_with fail
  refine (HC.out _ HB.out).mono ?_;rintro e w5 ⟨rfl,hB5⟩;have HX:=Lib.hid ((hB5.block w.heap.size (Array.getElem?_eq_some_iff.1 HX.out).1).trans HX.out);have HB:=Lib.hid (join HB.out hB5);have hz5:w.heap.size<w5.heap.size:=(Array.getElem?_eq_some_iff.1 HX.out).1;clear hB5 k0 k1 k2;go_wp2_with fail
  go_loopw [5,6,7] (fun v i _ wr=>∃ k:Nat,k≤t.words.length∧i=.int .i64 k∧wr.ownsRow w5.heap.size 3 1 v (spareTo t k).length ((spareTo t k).map (Value.int .i64))∧Below w5.heap.size w5 wr∧(k=0∨1<t.words.length)) (fun _ i _ _=>t.words.length-(intOf i).toNat)
  case atStart=>exact ⟨0,Nat.zero_le _,rfl,own_none _ _ _ _,Below.refl _ _,.inl rfl⟩
  case round =>
   obtain ⟨wo,rfl⟩:∃ w0:World,w0=wr:=⟨_,rfl⟩;obtain ⟨k,hk,rfl,hown,hBr,hk1⟩:=hrel;have HO:=Lib.hid hown;have HBr:=Lib.hid hBr;have hz7:=hBr.size;have hsl:=spareTo_len t k;have HSN:=Lib.hid (spareTo_succ t k);have HXr:=Lib.hid ((hBr.block w.heap.size (by omega)).trans HX.out);obtain ⟨k0,k1,k2⟩:=blk3 HXr.out;clear hown hBr;by_cases hlt:k<t.words.length∧1<t.words.length
   ·obtain ⟨hlt,h1⟩:=hlt;have hlt':(k:Int)<t.words.length:=by omega
    have h1':(1:Int)<t.words.length:=by omega
    have hsum:IntKind.i64.wrap ((k:Int)+1)=(k:Int)+1:=IntWalk.i64_in _ (by omega);have HW1:Hid (∀ W,Calls Tryz.prog 98 #[.int .i64 0,.int .i64 (k:Int)] W (RowPost (wordsL 0 k) W)):=Lib.hid (fun W=>by
     have:=words_any 0 k (by omega) (by omega) W;rwa [show ((k:Int)-0).toNat=k by omega] at this)
    have HW2:Hid (∀ W,Calls Tryz.prog 98 #[.int .i64 ((k:Int)+1),.int .i64 (t.words.length:Int)] W (RowPost (wordsL ((k:Int)+1) (t.words.length-(k+1))) W)):=Lib.hid (fun W=>by
     have:=words_any ((k:Int)+1) t.words.length (by omega) (by omega) W;rwa [show ((t.words.length:Int)-((k:Int)+1)).toNat=t.words.length-(k+1) by omega] at this)
    have HZ0:w.heap.size<wo.heap.size:=by omega
    have HPK:Hid (spareP t k=!decide (0<(rsaid t (Go.Proofs.YtadnggecnjdhiaaGreat.wo t.words.length k)).length)):=Lib.hid (by
     unfold spareP;rw [wo_len2 _ _ hlt,decide_eq_true (by omega),Bool.true_and,said_keeps])
    have HWW:=Lib.hid (wo_words t.words.length k hlt);have hln:=wo_len2 t.words.length k hlt;go_wp2_with fail
    refine Rs.region_gen 8 [[],[0],[],[2],[],[4],[4,5],[0,1,2,3,4,5,6]] [some 26,some 27,some 28,some 29,some 30,some 31,some 32,some 33] (spSp pw cw w.heap.size t.words.length k wo.heap.size) (by kernel_rfl) (by kernel_rfl) rfl (spSp_stable _ _ _ _ _ _) ?_ ?_
    ·refine ⟨fun V w' hG hs=>?_,fun V w' hG hs=>?_,fun V w' hG hs=>?_,fun V w' hG hs=>?_,fun V w' hG hs=>?_,fun V w' hG hs=>?_,fun V w' hG hs=>?_,fun V w' hG hs=>?_,trivial⟩
     all_goals
      obtain ⟨k0,k1,k2⟩:=blk3 ((hG.block w.heap.size HZ0).trans HXr.out)
     ·rw [if_pos (by rfl)];exact Rs.GrowL.value (v:=.int .i64 (k:Int)) (w':=w') (by simp [go_sem,Rs.look]) (Rs.Gr.refl _) rfl
     ·have e0:V 0=_:=hs 0 (by simp);rw [if_pos (by rfl)];refine Rs.GrowL.call (f:=98) (args:=#[.int .i64 0,.int .i64 (k:Int)]) (by simp [go_sem,Rs.look,e0]) ?_;refine (HW1.out w').mono ?_;rintro e w2 ⟨v,rfl,ho,hB2⟩;obtain ⟨p,c,rfl,hI,-,-,hlc⟩:=own_rd ho rfl;exact ⟨_,rfl,hB2,p,c,rfl,own_base ho hG.size,hlc⟩
     ·rw [if_pos (by rfl)];exact Rs.GrowL.value (v:=.int .i64 (k:Int)) (w':=w') (by simp [go_sem,Rs.look]) (Rs.Gr.refl _) rfl
     ·have e2:V 2=_:=hs 2 (by simp);rw [if_pos (by rfl)];exact Rs.GrowL.value (v:=.int .i64 ((k:Int)+1)) (w':=w') (by simp [go_sem,Rs.look,e2,hsum]) (Rs.Gr.refl _) rfl
     ·rw [if_pos (by rfl)];exact Rs.GrowL.value (v:=.pointer (some ⟨w.heap.size,0,none⟩)) (w':=w') (by simp [go_sem,Rs.look]) (Rs.Gr.refl _) rfl
     ·have e4:V 4=_:=hs 4 (by simp);rw [if_pos (by rfl)];exact Rs.GrowL.value (v:=.slice pw t.words.length cw) (w':=w') (by simp [go_sem,Rs.look,e4,k0]) (Rs.Gr.refl _) rfl
     ·have e4:V 4=_:=hs 4 (by simp);have e5:V 5=_:=hs 5 (by simp);rw [if_pos (by rfl)];exact Rs.GrowL.value (v:=.int .i64 (t.words.length:Int)) (w':=w') (by simp [go_sem,Rs.look,e4,e5]) (Rs.Gr.refl _) rfl
     ·have e0:V 0=_:=hs 0 (by simp);have r1:=hs 1 (by simp);have e2:V 2=_:=hs 2 (by simp);have e3:V 3=_:=hs 3 (by simp);have e4:V 4=_:=hs 4 (by simp);have e5:V 5=_:=hs 5 (by simp);have e6:V 6=_:=hs 6 (by simp);rw [if_pos (by rfl)];refine Rs.GrowL.call (f:=98) (args:=#[.int .i64 ((k:Int)+1),.int .i64 (t.words.length:Int)]) (by simp [go_sem,Rs.look,e3,e6]) ?_;refine (HW2.out w').mono ?_;rintro e w2 ⟨v,rfl,ho,hB2⟩;obtain ⟨p,c,rfl,hI,-,-,hlc⟩:=own_rd ho rfl;exact ⟨_,rfl,hB2,p,c,rfl,own_base ho hG.size,hlc⟩
    ·intro V w' hG hs;have e0:V 0=_:=hs 0 (by omega);have r1:=hs 1 (by omega);have e2:V 2=_:=hs 2 (by omega);have e3:V 3=_:=hs 3 (by omega);have e4:V 4=_:=hs 4 (by omega);have e5:V 5=_:=hs 5 (by omega);have e6:V 6=_:=hs 6 (by omega);have r7:=hs 7 (by omega);obtain ⟨pa,ca,e1,oa,hca⟩:=r1;obtain ⟨pb,cb,e7,ob,hcb⟩:=r7;simp only [Rs.canon,Rs.dstOf,List.range_succ,List.range_zero,List.nil_append,List.cons_append,List.foldl_cons,List.foldl_nil,List.drop_succ_cons,List.drop_zero,List.drop_nil,List.getElem?_toArray,List.getElem?_cons_succ,List.getElem?_cons_zero,Option.bind_some,Act.put,List.getD_cons_succ,List.getD_cons_zero,List.setIfInBounds_toArray,List.set_cons_succ,List.set_cons_zero];rw [e0,e2,e3,e4,e5,e6,e1,e7];clear e0 e2 e3 e4 e5 e6 e1 e7 hs;have hzG:=hG.size;have hal:(wordsL (0:Int) k).length=k:=wordsL_length _ _;have hbl:(wordsL ((k:Int)+1) (t.words.length-(k+1))).length=t.words.length-(k+1):=wordsL_length _ _;have HAL:=Lib.hid hal;have HBL:=Lib.hid hbl;clear hal hbl k0 k1 k2;rcases ob.2 with ⟨hv,hn0⟩ | ⟨g,cap,cur,hv,hgb,hgc,hrest⟩
     ·rw [hv];have happ:=fun ty W=>app_none pa (wordsL (0:Int) k).length ca hca ty W;have hLA:Go.Proofs.YtadnggecnjdhiaaGreat.wo t.words.length k=wordsL (0:Int) k:=by rw [← HWW.out,List.length_eq_zero_iff.1 hn0,List.append_nil]
      rw [hLA] at HPK;obtain ⟨p',c',e',hIL,-⟩:=own_rd oa rfl;injection e' with e' _ e'';subst e';subst e'';have HG9:=Lib.hid hG;clear oa ob hv hn0 hLA hca hcb hG HWW;have hl12:(wordsL (0:Int) k).length≤12:=by have:=HAL.out;omega
      have HIL:=Lib.hid hIL;have HO:=Lib.hid (own_below HO.out HG9.out);have HXr:=Lib.hid ((HG9.out.block w.heap.size (by omega)).trans HXr.out);have HBr:=Lib.hid (join HBr.out HG9.out);obtain ⟨k0,k1,k2⟩:=blk3 HXr.out;clear hIL HG9;generalize (wordsL (0:Int) k)=l at HIL HPK hl12 happ ⊢;go_wp2_with (at_builtin;refine wpList_append_none rfl _ _ 34 rfl _ rfl rfl (fun ty=>happ ty _) ?_)
      refine (HSA.out l hl12 _ _ _ (join HB.out HBr.out) HIL.out).mono ?_;rintro e w8 ⟨v8,rfl,ho,hB⟩;obtain ⟨sp,sc,rfl⟩:=own_val ho;have HO:=Lib.hid (own_below HO.out hB);have HBr:=Lib.hid (join HBr.out hB);have hz8:=HBr.out.size;clear hB ho k0 k1 k2;generalize (rsaid t l).length=sn at HPK ⊢;by_cases hs:sn=0
      ·subst hs;have HF:Hid (spareP t k=true):=Lib.hid (by rw [HPK.out];rfl);clear HPK;go_wp2_with (at_builtin;refine wpList_append_own _ rfl _ _ 34 rfl w5.heap.size 3 i0 (.int .i64 0) 1 8 A_undI hi0 hz0 hz1 hz2 rfl (by decide) _ _ _ rfl (HO.out.alloc _) ⟨w8.heap.size,0,none⟩ 1 1 [.int .i64 (k:Int)] rfl rfl ?f1 ?f2 ?f3 ?f4 ?f5 ?_)
       case f1=>exact cell_one_new _ _ _
       case f2=>first | rfl | (intro u hu;simp at hu;subst hu;rfl)
       case f3=>unfold maxLen;omega
       case f4=>omega
       case f5=>first | omega | (simp;omega)
       intro v' w9 hown8 hgrow _;have hB8:=below_grown (al2 HBr.out (by omega) _) (HO.out.alloc _) (Nat.le_refl _) (by simp;omega) hgrow;have HO8:=Lib.hid hown8;have HB8:=Lib.hid hB8;clear hgrow hown8 hB8;go_wp2;go_roundw
       case rel=>exact ⟨k+1,by omega,by go_num,by rw [HSN.out,if_pos HF.out];simpa using HO8.out,HB8.out,.inr h1⟩
       case measure=>simp [intOf];omega
      ·have hs':((sn:Int) == 0)=false:=by rw [beq_eq_false_iff_ne];omega
       have HF:Hid (spareP t k=false):=Lib.hid (by rw [HPK.out,decide_eq_true (by omega)];rfl);clear HPK hs;go_wp2;go_roundw
       case rel=>exact ⟨k+1,by omega,by go_num,by rw [HSN.out,HF.out];simpa using HO.out,HBr.out,.inr h1⟩
       case measure=>simp [intOf];omega
     ·have hob:=own_rd ob rfl;obtain ⟨p',c',e',hIB,-⟩:=hob;injection e' with e' _ e'';subst e';subst e'';injection hv with hv1 hv2 hv3;subst hv1;have hnews:∀ j u,((wordsL ((k:Int)+1) (t.words.length-(k+1))).map (Value.int .i64))[j]?=some u→w'.cell? ((⟨g,0,none⟩:Addr).add j)=some u:=fun j u hj=>ob.cells (g:=g) rfl j u hj;have HOA:=Lib.hid oa;have HG0:=Lib.hid hG;have HNW:=Lib.hid hnews;clear oa ob hrest hgc hIB hca hcb hG hnews hv3;go_wp2_with (at_builtin;refine wpList_append_own _ rfl _ _ 34 rfl wo.heap.size 3 i0 (.int .i64 0) 1 8 A_undI hi0 hz0 hz1 hz2 rfl (by decide) _ _ _ rfl HOA.out ⟨g,0,none⟩ (wordsL ((k:Int)+1) (t.words.length-(k+1))).length _ ((wordsL ((k:Int)+1) (t.words.length-(k+1))).map (Value.int .i64)) rfl (by rw [List.length_map,Nat.mul_one]) HNW.out ?g2 ?g3 ?g4 ?g5 ?_)
      case g2=>intro u hu;obtain ⟨x,_,rfl⟩:=List.mem_map.1 hu;rfl
      case g3=>have:=HAL.out;have:=HBL.out;unfold maxLen;omega
      case g4=>have:=HAL.out;have:=HBL.out;omega
      try (case g5=>omega)
      intro v9 w9 hown9 hgrow9 _;have HG9:=Lib.hid (below_grown HG0.out HOA.out (Nat.le_refl _) (by omega) hgrow9);rw [← List.map_append] at hown9;obtain ⟨q9,d9,rfl,hIL,-⟩:=own_rd hown9 (by rw [List.length_append]);rw [← HWW.out] at HPK;clear hown9 hgrow9 HOA HG0 HNW;have hl12:(wordsL (0:Int) k++wordsL ((k:Int)+1) (t.words.length-(k+1))).length≤12:=by rw [List.length_append];have:=HAL.out;have:=HBL.out;omega
      have HIL:=Lib.hid hIL;have HO:=Lib.hid (own_below HO.out HG9.out);have HXr:=Lib.hid ((HG9.out.block w.heap.size (by omega)).trans HXr.out);have HBr:=Lib.hid (join HBr.out HG9.out);obtain ⟨k0,k1,k2⟩:=blk3 HXr.out;clear hIL HG9;generalize (wordsL (0:Int) k++wordsL ((k:Int)+1) (t.words.length-(k+1)))=l at HIL HPK hl12 ⊢;go_wp2_with fail
      refine (HSA.out l hl12 _ _ _ (join HB.out HBr.out) HIL.out).mono ?_;rintro e w8 ⟨v8,rfl,ho,hB⟩;obtain ⟨sp,sc,rfl⟩:=own_val ho;have HO:=Lib.hid (own_below HO.out hB);have HBr:=Lib.hid (join HBr.out hB);have hz8:=HBr.out.size;clear hB ho k0 k1 k2;generalize (rsaid t l).length=sn at HPK ⊢;by_cases hs:sn=0
      ·subst hs;have HF:Hid (spareP t k=true):=Lib.hid (by rw [HPK.out];rfl);clear HPK;go_wp2_with (at_builtin;refine wpList_append_own _ rfl _ _ 34 rfl w5.heap.size 3 i0 (.int .i64 0) 1 8 A_undI hi0 hz0 hz1 hz2 rfl (by decide) _ _ _ rfl (HO.out.alloc _) ⟨w8.heap.size,0,none⟩ 1 1 [.int .i64 (k:Int)] rfl rfl ?h1 ?h2 ?h3 ?h4 ?h5 ?_)
       case h1=>exact cell_one_new _ _ _
       case h2=>first | rfl | (intro u hu;simp at hu;subst hu;rfl)
       case h3=>unfold maxLen;omega
       case h4=>omega
       case h5=>first | omega | (simp;omega)
       intro v' wz hown8 hgrow _;have hB8:=below_grown (al2 HBr.out (by omega) _) (HO.out.alloc _) (Nat.le_refl _) (by simp;omega) hgrow;have HO8:=Lib.hid hown8;have HB8:=Lib.hid hB8;clear hgrow hown8 hB8;go_wp2;go_roundw
       case rel=>exact ⟨k+1,by omega,by go_num,by rw [HSN.out,if_pos HF.out];simpa using HO8.out,HB8.out,.inr h1⟩
       case measure=>simp [intOf];omega
      ·have hs':((sn:Int) == 0)=false:=by rw [beq_eq_false_iff_ne];omega
       have HF:Hid (spareP t k=false):=Lib.hid (by rw [HPK.out,decide_eq_true (by omega)];rfl);clear HPK hs;go_wp2;go_roundw
       case rel=>exact ⟨k+1,by omega,by go_num,by rw [HSN.out,HF.out];simpa using HO.out,HBr.out,.inr h1⟩
       case measure=>simp [intOf];omega
   ·by_cases hkn:k<t.words.length
    ·have hkn':(k:Int)<t.words.length:=by omega
     have h1':¬ (1:Int)<t.words.length:=by omega
     have HF:Hid (spareTo t t.words.length=spareTo t k):=Lib.hid (by
      rw [show t.words.length=k+1 by omega,spareTo_succ];have:spareP t k=false:=by unfold spareP;rw [wo_len2 _ _ hkn,decide_eq_false (by omega),Bool.false_and]
      rw [this];simp)
     clear HSN hlt;go_wp2;go_ret2;refine ⟨_,rfl,?_,join HB.out HBr.out⟩;rw [HF.out];exact own_base HO.out (by omega)
    ·obtain rfl:k=t.words.length:=by omega
     clear HSN hlt;go_wp2;go_ret2;exact ⟨_,rfl,own_base HO.out (by omega),join HB.out HBr.out⟩
 ·have e1:spaL t=[]:=by unfold spaL;rw [if_neg he]
  have HE:(t.err != 0)=true:=by simpa using he
  obtain ⟨k0,k1,k2⟩:=blk3 HX.out;rw [e1];clear he e1;generalize t.err=er at HC HE ⊢
  go_enter Tryz.func68,Tryz.ntmps68
  go_wp2_with fail
  refine (HC.out _ HB.out).mono ?_;rintro e w5 ⟨rfl,hB5⟩;have HB5:=Lib.hid (join HB.out hB5);clear hB5;go_wp2;go_ret2;exact ⟨_,rfl,own_none _ _ _ _,HB5.out⟩
end Go.Proofs.YtadnggecnjdhiaaGreat
namespace Go.Proofs.YtadnggecnjdhiaaGreat
open Go.RowKit Tx
attribute [local go_sem] Oper.semAt_some
theorem A_undLL:Tryz.prog.underlying 41=some (.slice 34):=by kernel_rfl
theorem A_infoIs:(Tryz.prog.info? 34).map (fun i=>(i.zero,i.size,i.bytes))=some (some (.slice none 0 0),1,24):=by kernel_rfl
theorem append_which (w:World) (base:Nat) (i0:TypeInfo) (hi:Tryz.prog.info? 34=some i0) (hz0:i0.zero=some (.slice none 0 0)) (hz1:i0.size=1) (hz2:i0.bytes=24) (ty:TypeId) (tv:Value) (n:Nat) (xs:List Value) (x:Value) (hx1:x.oneCell'=true) (hown:w.ownsRow base 34 1 tv n xs) (hb:base≤w.heap.size) (hn:n≤1000000) (a:Addr) (ha:w.cell? (a.add 0)=some x) :
  ∃ v' w',(Builtin.append_ #[41,41] ty #[tv,.slice (some a) 1 1]).run Tryz.prog w=.ok v' w'∧w'.ownsRow base 34 1 v' (n+1) (xs++[x])∧w.grownBy w' tv.ownBlock∧(v'.ownBlock=tv.ownBlock∨v'.ownBlock=some w.heap.size):=by
 have hnews:∀ j u,[x][j]?=some u→w.cell? (a.add j)=some u:=fun j u hj=>by
  match j,hj with
  | 0,hj=>simp at hj;subst hj;exact ha
 obtain ⟨v',w',hr,h2,h3,h4⟩:=run_append_own (P:=Tryz.prog) w base 41 ty 34 i0 (.slice none 0 0) 1 24 A_undLL hi hz0 hz1 hz2 rfl (by decide) tv n xs hown a 1 1 [x] rfl hnews (by simpa using hx1) (by unfold maxLen;omega) (by omega) hb;refine ⟨v',w',hr,h2,h3,?_⟩;rcases hown.2 with ⟨rfl,rfl⟩ | ⟨g,cap,cur,rfl,hbg,hg,hnc,hcm,hcs,htake⟩
 ·have hr2:=run_append_nil (P:=Tryz.prog) w 41 ty 34 i0 (.slice none 0 0) A_undLL hi hz0 a 1 1 [x] (by rw [hz1];rfl) hnews (by omega) (by omega) (by rw [hz2];omega);rw [hr2] at hr;injection hr with hv hw;right;rw [← hv];rfl
 ·by_cases hroom:n+1≤cap
  ·have hr2:=run_append_room (P:=Tryz.prog) w 41 ty 34 i0 A_undLL hi g n cap cur hg a 1 1 [x] (by rw [hz1];rfl) hnews (by simpa using hx1) hroom (by rw [hcs,hz1];simp;omega);rw [hr2] at hr;injection hr with hv hw;subst hv;exact .inl rfl
  ·have holds:∀ j u,xs[j]?=some u→w.cell? ((⟨g,0,none⟩:Addr).add j)=some u:=hown.cells (g:=g) rfl;have hr2:=run_append_grow (P:=Tryz.prog) w 41 ty 34 i0 (.slice none 0 0) A_undLL hi hz0 ⟨g,0,none⟩ n cap xs (by rw [hz1];exact hown.1) holds a 1 1 [x] (by rw [hz1];rfl) hnews (by omega) (by omega) (by rw [hz2];exact growslice_fits (by omega) (by omega));rw [hr2] at hr;injection hr with hv hw;right;rw [← hv];rfl
theorem wpList_append_which {ops:Array Oper} {rest:List Oper} {o:Oper} {a:Act} {w:World} {Q:Exit→Act→World→Prop} (hgd:o.guard=none) (s x:Operand)
  (ho:o.op=.call { callee:=.builtin .append,args:=#[s,x],argTypes:=#[41,41] }) (base:Nat) (tv:Value) (n:Nat) (xs:List Value) (hs:a.eval s=tv) (hown:w.ownsRow base 34 1 tv n xs)
  (ad:Addr) (u:Value) (hx:a.eval x=.slice (some ad) 1 1) (hu:w.cell? (ad.add 0)=some u) (hu1:u.oneCell'=true) (hb:base≤w.heap.size) (hn:n≤1000000)
  (h:∀ v' w',w'.ownsRow base 34 1 v' (n+1) (xs++[u])→w.grownBy w' tv.ownBlock→(v'.ownBlock=tv.ownBlock∨v'.ownBlock=some w.heap.size)→wpList Tryz.prog ops Q rest (a.put o.dst v') w'):wpList Tryz.prog ops Q (o::rest) a w :=
 wpList_plain hgd fun _ hK=>by
  obtain ⟨i0,hi,hz0,hz1,hz2⟩:=info_parts A_infoIs;obtain ⟨v',w',hr,h2,h3,h4⟩:=append_which w base i0 hi hz0 hz1 hz2 o.type tv n xs u hu1 hown hb hn ad hu;unfold Oper.wp execOp;simp only [ho,resolve,invoke,builtin,Sem.run_bind,Sem.run_pure,Result.andThen_ok,List.map_toArray,List.map_cons,List.map_nil,hs,hx,hr];exact hK _ _ (h v' w' h2 h3 h4)
theorem wpList_append_none2 {P:Program} {ops:Array Oper} {rest:List Oper} {o:Oper} {a:Act} {w:World} {Q:Exit→Act→World→Prop} (hgd:o.guard=none) (s x:Operand) (t:TypeId)
  (ho:o.op=.call { callee:=.builtin .append,args:=#[s,x],argTypes:=#[t,t] }) (v:Value) (hs:a.eval s=v) (hx:a.eval x=.slice none 0 0)
  (hr:∀ ty,(Builtin.append_ #[t,t] ty #[v,.slice none 0 0]).run P w=.ok v w) (h:∀ W,Hid (W=w)→wpList P ops Q rest (a.put o.dst v) W):wpList P ops Q (o::rest) a w :=
 wpList_append_none hgd s x t ho v hs hx hr (h w (Lib.hid rfl))
def El (W:World) (x:Value) (l:List Int):Prop:=(l=[]∧x=.slice none 0 0)∨(l≠[]∧∃ b c C,x=.slice (some ⟨b,0,none⟩) l.length c∧W.heap[b]?=some (.cells C 3 (0,0))∧∀ i,i<l.length→C[i]?=some (.int .i64 (l.getD i 0)))
theorem El.ints {W:World} {x:Value} {l:List Int} (h:El W x l):∃ q c,x=.slice q l.length c∧Ints W q l:=by
 rcases h with ⟨rfl,rfl⟩ | ⟨_,b,c,C,rfl,hb,hc⟩
 ·exact ⟨none,0,rfl,.inl rfl⟩
 ·exact ⟨_,c,rfl,.inr ⟨b,0,rfl,(Array.getElem?_eq_some_iff.1 hb).1,fun i hi=>by rw [Nat.zero_add];exact blk_cells hb i _ (hc i hi)⟩⟩
theorem El.below {W W':World} {x:Value} {l:List Int} (h:El W x l) (hb:Below W.heap.size W W'):El W' x l:=by
 rcases h with h | ⟨hl,b,c,C,hx,hg,hc⟩
 ·exact .inl h
 ·exact .inr ⟨hl,b,c,C,hx,(hb.block b (Array.getElem?_eq_some_iff.1 hg).1).trans hg,hc⟩
theorem El.grown {W W':World} {x:Value} {l:List Int} {base:Nat} {v:Value} {n:Nat} {xs:List Value} (h:El W x l) (hown:W.ownsRow base 34 1 v n xs) (hg:W.grownBy W' v.ownBlock):El W' x l:=by
 rcases h with h | ⟨hl,b,c,C,hx,hgb,hc⟩
 ·exact .inl h
 ·refine .inr ⟨hl,b,c,C,hx,(hg.block b (Array.getElem?_eq_some_iff.1 hgb).1 ?_).trans hgb,hc⟩;rcases hown.2 with ⟨h3,_⟩ | ⟨g2,cap2,cur2,h3,hb2,hg2,_⟩
  ·rw [h3];show some b≠none;simp
  ·rw [h3];show some b≠some g2;intro e;injection e with e;subst e;rw [hgb] at hg2;injection hg2 with h;injection h with _ h;cases h
theorem El.of_own {W:World} {base:Nat} {v:Value} {l:List Int} (h:W.ownsRow base 3 1 v l.length (l.map (Value.int .i64))) (hl:l≠[]):El W v l:=by
 rcases h.2 with ⟨h3,h4⟩ | ⟨g,cap,cur,rfl,hb,hg,h1,h2,h3,h4⟩
 ·exact absurd (List.length_eq_zero_iff.1 h4) hl
 ·refine .inr ⟨hl,g,cap,cur,rfl,hg,fun i hi=>?_⟩;have:(cur.toList.take (l.length*1))[i]?=(l.map (Value.int .i64))[i]?:=by rw [h4]
  rw [List.getElem?_take,if_pos (by omega),Array.getElem?_toList] at this;rw [this];simp [hi]
def Els (W:World) (xs:List Value) (L:List (List Int)):Prop:=xs.length=L.length∧∀ i,i<L.length→El W (xs.getD i undef) (L.getD i [])
theorem Els.below {W W':World} {xs:List Value} {L:List (List Int)} (h:Els W xs L) (hb:Below W.heap.size W W'):Els W' xs L:=⟨h.1,fun i hi=>(h.2 i hi).below hb⟩
theorem Els.grown {W W':World} {xs:List Value} {L:List (List Int)} {base:Nat} {v:Value} {n:Nat} {ys:List Value} (h:Els W xs L) (hown:W.ownsRow base 34 1 v n ys) (hg:W.grownBy W' v.ownBlock):Els W' xs L:=⟨h.1,fun i hi=>(h.2 i hi).grown hown hg⟩
theorem Els.snoc {W:World} {xs:List Value} {L:List (List Int)} {x:Value} {l:List Int} (h:Els W xs L) (hx:El W x l):Els W (xs++[x]) (L++[l]):=by
 refine ⟨by simp [h.1],fun i hi=>?_⟩;by_cases hlt:i<L.length
 ·have:=h.2 i hlt;have hlt2:i<xs.length:=by rw [h.1];exact hlt
  simpa [List.getElem?_append_left hlt,List.getElem?_append_left hlt2] using this
 ·have:i=L.length:=by simp at hi;omega
  subst this;have e:xs.length=L.length:=h.1;rw [show (L++[l]).getD L.length []=l by simp,show (xs++[x]).getD L.length undef=x by rw [← e];simp];exact hx
theorem Els.nil (W:World):Els W [] []:=⟨rfl,fun i hi=>by simp at hi⟩
theorem els_nil1 (W:World):Els W [.slice none 0 0] [[]]:=(Els.nil W).snoc (.inl ⟨rfl,rfl⟩)
def LLPost (L:List (List Int)) (w:World) (e:Ending) (w':World):Prop:=∃ v xs,e=.returned v∧w'.ownsRow w.heap.size 34 1 v L.length xs∧Els w' xs L∧Below w.heap.size w w'
def cTo (n k:Nat):List (List Int):=(List.range' 1 (k-1)).flatMap fun j=>(compF (n-j) (n-j)).map fun l=>(j:Int)::l
theorem cTo_succ (n k:Nat) (hk:1≤k):cTo n (k+1)=cTo n k++(compF (n-k) (n-k)).map fun l=>(k:Int)::l:=by
 unfold cTo;rw [show k+1-1=(k-1)+1 by omega,List.range'_concat,List.flatMap_append];simp only [List.flatMap_cons,List.flatMap_nil,List.append_nil,Nat.one_mul];rw [show 1+(k-1)=k by omega]
theorem comp_cTo (n:Nat) (hn:1≤n):compF n n=cTo n (n+1):=by
 obtain ⟨m,rfl⟩:∃ m,n=m+1:=⟨n-1,by omega⟩;rw [compF,if_neg (by omega)];unfold cTo;rw [show m+1+1-1=m+1 by omega];have e:∀ k∈List.range' 1 (m+1),((compF m (m+1-k)).map fun l=>(k:Int)::l)=((compF (m+1-k) (m+1-k)).map fun l=>(k:Int)::l):=fun k hk=>by
  rw [List.mem_range'_1] at hk;rw [compF_eq m (m+1-k) (m+1-k) (by omega) (by omega)]
 rw [List.flatMap_def,List.flatMap_def,List.map_congr_left e]
theorem comp_len:∀ (f n:Nat),(compF f n).length≤2 ^ n
 | 0,n=>by
  rw [compF];split
  ·exact Nat.two_pow_pos n
  ·simp
 | f+1,n=>by
  rw [compF];split
  ·exact Nat.two_pow_pos n
  ·rename_i h0
   have key:∀ m,m≤n→((List.range' 1 m).flatMap fun k=>(compF f (n-k)).map fun l=>(k:Int)::l).length+2 ^ (n-m)≤2 ^ n:=by
    intro m
    induction m with
    | zero=>intro _;simp
    | succ m ih =>
     intro hm;have ih:=ih (by omega);rw [List.range'_concat,List.flatMap_append,List.length_append];simp only [List.flatMap_cons,List.flatMap_nil,List.append_nil,List.length_map,Nat.one_mul];have h1:=comp_len f (n-(1+m));have h2:2 ^ (n-m)=2 ^ (n-(m+1))+2 ^ (n-(m+1)):=by rw [show n-m=(n-(m+1))+1 by omega,Nat.pow_succ];omega
     rw [show n-(1+m)=n-(m+1) by omega] at h1 ⊢;omega
   exact Nat.le_trans (Nat.le_add_right _ _) (key n (Nat.le_refl _))
theorem cTo_len (n k:Nat) (hn:n≤12) (hk:k≤n+1):(cTo n k).length≤100000:=by
 have:∀ m,m≤12→(cTo n (m+1)).length≤m*4096:=by
  intro m
  induction m with
  | zero=>intro _;simp [cTo]
  | succ m ih =>
   intro hm;have:=ih (by omega);rw [cTo_succ _ _ (by omega),List.length_append,List.length_map];have h1:=comp_len (n-(m+1)) (n-(m+1));have h2:2 ^ (n-(m+1))≤2 ^ 12:=Nat.pow_le_pow_right (by omega) (by omega);omega
 rcases Nat.eq_zero_or_pos k with h0 | h0
 ·subst h0;simp [cTo]
 ·have:=this (k-1) (by omega);rw [show k-1+1=k by omega] at this;omega
set_option maxHeartbeats 6000000 in
set_option maxRecDepth 100000 in
theorem readings_ref (n:Nat):n≤12→∀ w:World,Calls Tryz.prog 46 #[.int .i64 n] w (LLPost (compF n n) w):=by
 induction n using Nat.strongRecOn with
 | _ n ih =>
 intro hn w;obtain ⟨i0,hi0,hz0,hz1,hz2⟩:=info_parts A_infoI;rcases Nat.eq_zero_or_pos n with h0 | hpos
 ·subst h0;clear ih;have hx:=heap_last w (.cells #[.slice none 0 0] 34);have HB:=Lib.hid (below1 w (.cells #[.slice none 0 0] 34));have hown:(w.alloc (.cells #[.slice none 0 0] 34)).ownsRow w.heap.size 34 1 (.slice (some ⟨w.heap.size,0,none⟩) 1 1) 1 [.slice none 0 0] :=
   ⟨rfl,.inr ⟨w.heap.size,1,_,rfl,Nat.le_refl _,hx,by omega,by unfold maxLen;omega,rfl,rfl⟩⟩
  have HO:=Lib.hid hown;clear hx hown
  go_enter Tryz.func46,Tryz.ntmps46
  go_wp2;go_ret;exact ⟨_,[.slice none 0 0],rfl,HO.out,els_nil1 _,HB.out⟩
 ·have HIH:=Lib.hid (fun k (hk:1≤k) (hkn:k≤n) W=>ih (n-k) (by omega) (by omega) W);have HCE:=Lib.hid (comp_cTo n hpos);have hn0:((n:Int) == 0)=false:=by rw [beq_eq_false_iff_ne];omega
  clear ih
  go_enter Tryz.func46,Tryz.ntmps46
  go_wp2_with fail
  go_loopw [3,4,5,6] (fun v3 v4 _ _ wr=>∃ (k:Nat) (xs:List Value),v4=.int .i64 k∧1≤k∧k≤n+1∧wr.ownsRow w.heap.size 34 1 v3 (cTo n k).length xs∧Els wr xs (cTo n k)∧Below w.heap.size w wr) (fun _ v4 _ _ _=>n+1-(intOf v4).toNat)
  case atStart=>exact ⟨1,[],rfl,Nat.le_refl _,by omega,own_none _ _ _ _,Els.nil _,Below.refl _ _⟩
  case round =>
   obtain ⟨wo,rfl⟩:∃ wo:World,wo=wr:=⟨_,rfl⟩;obtain ⟨k,xs,rfl,hk1,hk,hown,hels,hBr⟩:=hrel;have HO:=Lib.hid hown;have HOW:=Lib.hid hown;have HE:=Lib.hid hels;have HBr:=Lib.hid hBr;clear hown hels hBr;by_cases hle:k≤n
   ·have hle':(k:Int)≤n:=by omega
    have hsub:((n:Int)-(k:Int))=((n-k:Nat):Int):=by omega
    have hcl:=cTo_len n (k+1) hn (by omega);have HCS:=Lib.hid (cTo_succ n k hk1);have HCALL:=Lib.hid (fun W=>hsub ▸ HIH.out k hk1 hle W);clear hsub;go_wp2_with fail
    refine (HCALL.out _).mono ?_;rintro e w5 ⟨v5,xs5,rfl,ho5,he5,hB⟩;have HR:=Lib.hid he5;obtain ⟨R,hR⟩:∃ R,R=compF (n-k) (n-k):=⟨_,rfl⟩;have HLENS:Hid (∀ i,i<R.length→(R.getD i []).length≤1000000):=Lib.hid (fun i hi=>by
     have hm:R.getD i []∈compF (n-k) (n-k):=by rw [← hR];simp [hi]
     have h1:=(compF_mem _ _ _ (Nat.le_refl _)).1 hm;have h2:=isum_ge h1.1;have h3:=h1.2;omega)
    rw [← hR] at HCS HR ho5;have HO5:=Lib.hid ho5;have HO:=Lib.hid (own_below HO.out hB);have HE:=Lib.hid (HE.out.below hB);have hz5:=hB.size;have hne:u3.ownBlock=none∨u3.ownBlock≠v5.ownBlock:=by
     have hlo:=HO.out;rcases hov:u3.ownBlock with _ | g
     ·exact .inl rfl
     ·right;rcases hov5:v5.ownBlock with _ | g5
      ·simp
      ·have h2:=(ho5.lt g5 hov5).1;have h1:g<wo.heap.size:=by
        have:=HOW.out;exact (this.lt g hov).2
       intro e;injection e;omega
    have HNE:=Lib.hid hne;have HBr:=Lib.hid (join HBr.out hB);have hrl:(cTo n k).length+R.length≤100000:=by rw [HCS.out,List.length_append,List.length_map] at hcl;exact hcl
    obtain ⟨p5,c5,rfl⟩:=own_val ho5;clear hB hne he5 ho5 hR HCALL;go_wp2_with fail
    go_loopw [3,6] (fun v3 v6 wr=>∃ (i:Nat) (xs:List Value),v6=.int .i64 i∧i≤R.length∧wr.ownsRow w.heap.size 34 1 v3 (cTo n k++(R.take i).map fun l=>(k:Int)::l).length xs∧Els wr xs (cTo n k++(R.take i).map fun l=>(k:Int)::l)∧wr.ownsRow wo.heap.size 34 1 (.slice p5 R.length c5) R.length xs5∧Els wr xs5 R∧(v3.ownBlock=none∨v3.ownBlock≠(Value.slice p5 R.length c5).ownBlock)∧Below w.heap.size w wr∧wo.heap.size≤wr.heap.size) (fun _ v6 _=>R.length-(intOf v6).toNat)
    case atStart=>exact ⟨0,xs,rfl,Nat.zero_le _,by simpa using HO.out,by simpa using HE.out,HO5.out,HR.out,HNE.out,HBr.out,hz5⟩
    case round =>
     clear HO HE HO5 HR HNE HBr;obtain ⟨i,xs,rfl,hi,hown,hels,hown5,hels5,hne,hBr,hz6⟩:=hrel;obtain ⟨wp,rfl⟩:∃ wp:World,wp=wr:=⟨_,rfl⟩;have HO:=Lib.hid hown;have HE:=Lib.hid hels;have HO5:=Lib.hid hown5;have HR:=Lib.hid hels5;have HNE:=Lib.hid hne;have HBr:=Lib.hid hBr;have hz7:=hBr.size;by_cases hlt:i<R.length
     ·have hlt':(i:Int)<R.length:=by omega
      have hel:=hels5.2 i hlt;have HSN:Hid (cTo n k++(R.take (i+1)).map (fun l=>(k:Int)::l)=(cTo n k++(R.take i).map fun l=>(k:Int)::l)++[(k:Int)::R.getD i []]):=Lib.hid (by
       rw [take_snocD [] hlt,List.map_append,List.append_assoc];rfl)
      have hacl:(cTo n k++(R.take i).map fun l=>(k:Int)::l).length≤100000:=by rw [List.length_append,List.length_map,List.length_take];omega
      generalize cTo n k++(R.take i).map (fun l=>(k:Int)::l)=acc at hacl HO HE HSN;rcases hown5.2 with ⟨_,h0⟩ | ⟨g5,cap5,cur5,hv5,hb5,hg5,_⟩
      ·omega
      have hcell:wp.cell? ⟨g5,i,none⟩=some (xs5.getD i undef):=by
       injection hv5 with hp5 _ _;have h1:i<xs5.length:=by rw [hels5.1];exact hlt
       have:=hown5.cells (g:=g5) (by rw [hp5];rfl) i (xs5.getD i undef) (by simp [h1]);have hadd:(⟨g5,0,none⟩:Addr).add i=⟨g5,i,none⟩:=by unfold Addr.add;split <;> simp_all
       rwa [hadd] at this
      injection hv5 with hp5 _ hc5;subst hp5;subst hc5;have hq5:g5<wp.heap.size:=(Array.getElem?_eq_some_iff.1 hg5).1;generalize xs5.getD i undef=x5 at hel hcell;have HLEN:Hid ((R.getD i []).length≤1000000):=Lib.hid (HLENS.out i hlt);generalize R.getD i []=l at hel HSN HLEN;have hlit:(wp.alloc (.cells #[.int .i64 (k:Int)] 3)).ownsRow wp.heap.size 3 1 (.slice (some ⟨wp.heap.size,0,none⟩) 1 1) 1 [.int .i64 (k:Int)] :=
       ⟨rfl,.inr ⟨wp.heap.size,1,_,rfl,Nat.le_refl _,heap_last _ _,by omega,by unfold maxLen;omega,rfl,rfl⟩⟩
      have HLIT:=Lib.hid hlit;have HB1:=Lib.hid (below1 wp (.cells #[.int .i64 (k:Int)] 3));clear hown hels hown5 hels5 hne hBr hg5 hlit;rcases hel with ⟨rfl,rfl⟩ | ⟨hl,bl,cl,C,rfl,hbl,hC⟩
      ·have HEL:=Lib.hid (El.of_own (l:=[(k:Int)]) HLIT.out (by simp));have happ:=fun ty W=>app_none (some ⟨wp.heap.size,0,none⟩) 1 1 (Nat.le_refl _) ty W;go_wp2_with (at_builtin;refine wpList_append_none2 rfl _ _ 34 rfl _ rfl rfl (fun ty=>happ ty _) ?_)
       intro WV hWV;have HBV:=HB1;rw [← hWV.out] at HBV HEL;clear hWV happ;have hb1:=(HBV.out.block g5 hq5);have HOx:=Lib.hid (own_below HO.out HBV.out);have HEx:=Lib.hid (HE.out.below HBV.out);have HO5x:=Lib.hid (own_below HO5.out HBV.out);have HRx:=Lib.hid (HR.out.below HBV.out);have hzv:=HBV.out.size;have HBrx:=Lib.hid (join HBr.out HBV.out);clear hb1;go_wp2_with (at_builtin;refine wpList_append_which rfl _ _ rfl w.heap.size _ _ _ rfl (HOx.out.alloc _) ⟨WV.heap.size,0,none⟩ _ rfl (cell_one_new _ _ _ 0 _ rfl) rfl ?y1 ?y2 ?_)
       case y1=>simp;omega
       case y2=>omega
       intro v' w9 hown9 hgrow9 hwhich;have HEL9:=Lib.hid ((HEL.out.below (below1 _ _)).grown (HOx.out.alloc _) hgrow9);have HE9:=Lib.hid ((HEx.out.below (below1 _ _)).grown (HOx.out.alloc _) hgrow9);have HO9:=Lib.hid hown9;have HN9:Hid (u3.ownBlock=none∨u3.ownBlock≠(Value.slice (some ⟨g5,0,none⟩) R.length c5).ownBlock):=HNE;have HO59:=Lib.hid ((HO5x.out.alloc (.cells #[.slice (some ⟨wp.heap.size,0,none⟩) 1 1] 34)).kept hgrow9 (by
        rcases HNE.out with h | h
        ·right;rw [h];simp [Value.ownBlock]
        ·right;exact fun e=>h e.symm))
       have HR9:=Lib.hid ((HRx.out.below (below1 _ _)).grown (HOx.out.alloc _) hgrow9);have HNE9:Hid (v'.ownBlock=none∨v'.ownBlock≠(Value.slice (some ⟨g5,0,none⟩) R.length c5).ownBlock):=Lib.hid (by
        rcases hwhich with h | h
        ·rw [h];exact HNE.out
        ·right;rw [h];show some _≠some g5;intro e;injection e with e;(try simp at e);omega)
       have HB9:=Lib.hid (below_grown (al2 HBrx.out (by omega) _) (HOx.out.alloc _) (Nat.le_refl _) (by simp;omega) hgrow9);have hz9:wo.heap.size≤w9.heap.size:=by have:=hgrow9.size;rw [World.size_alloc] at this;omega
       clear hgrow9 hown9 hwhich;go_wp2;go_roundw
       case rel=>exact ⟨i+1,_,by go_num,by omega,by rw [HSN.out,List.length_append];exact HO9.out,by rw [HSN.out];exact HE9.out.snoc HEL9.out,HO59.out,HR9.out,HNE9.out,HB9.out,hz9⟩
       case measure=>simp [intOf];omega
      ·have HCB:=Lib.hid (El.ints (W:=wp) (.inr ⟨hl,bl,cl,C,rfl,hbl,hC⟩));have hlb:bl<wp.heap.size:=(Array.getElem?_eq_some_iff.1 hbl).1;have hnews:∀ j u,(l.map (Value.int .i64))[j]?=some u→(wp.alloc (.cells #[.int .i64 (k:Int)] 3)).cell? ((⟨bl,0,none⟩:Addr).add j)=some u:=fun j u hj=>by
        have hj1:j<l.length:=by have:=(List.getElem?_eq_some_iff.1 hj).1;simpa using this
        have hadd:(⟨bl,0,none⟩:Addr).add j=⟨bl,j,none⟩:=by unfold Addr.add;split <;> simp_all
        rw [hadd,HB1.out.cell (p:=⟨bl,j,none⟩) hlb,blk_cells hbl j _ (hC j hj1)];simp [hj1] at hj ⊢;exact hj
       have HNW:=Lib.hid hnews;have hll:=HLEN.out;clear hbl hC hnews HCB;go_wp2_with (at_builtin;refine wpList_append_own _ rfl _ _ 34 rfl wp.heap.size 3 i0 (.int .i64 0) 1 8 A_undI hi0 hz0 hz1 hz2 rfl (by decide) _ _ _ rfl HLIT.out ⟨bl,0,none⟩ l.length _ (l.map (Value.int .i64)) rfl (by rw [List.length_map,Nat.mul_one]) HNW.out ?g2 ?g3 ?g4 ?g5 ?_)
       case g2=>intro u hu;rfl
       case g3=>unfold maxLen;omega
       case g4=>omega
       try (case g5=>simp)
       intro vq WV hownq hgrowq _;have HBV:=Lib.hid (below_grown HB1.out HLIT.out (Nat.le_refl _) (by simp) hgrowq);have hownq2:WV.ownsRow wp.heap.size 3 1 vq ((k:Int)::l).length (((k:Int)::l).map (Value.int .i64)):=by
        rw [List.length_cons,Nat.add_comm];exact hownq
       have HEL:=Lib.hid (El.of_own hownq2 (by simp));obtain ⟨pq,cq,rfl⟩:=own_val hownq;clear hownq hgrowq hownq2 HNW hll;have hb1:=(HBV.out.block g5 hq5);have HOx:=Lib.hid (own_below HO.out HBV.out);have HEx:=Lib.hid (HE.out.below HBV.out);have HO5x:=Lib.hid (own_below HO5.out HBV.out);have HRx:=Lib.hid (HR.out.below HBV.out);have hzv:=HBV.out.size;have HBrx:=Lib.hid (join HBr.out HBV.out);clear hb1;go_wp2_with (at_builtin;refine wpList_append_which rfl _ _ rfl w.heap.size _ _ _ rfl (HOx.out.alloc _) ⟨WV.heap.size,0,none⟩ _ rfl (cell_one_new _ _ _ 0 _ rfl) rfl ?z1 ?z2 ?_)
       case z1=>simp;omega
       case z2=>omega
       intro v' w9 hown9 hgrow9 hwhich;have HEL9:=Lib.hid ((HEL.out.below (below1 _ _)).grown (HOx.out.alloc _) hgrow9);have HE9:=Lib.hid ((HEx.out.below (below1 _ _)).grown (HOx.out.alloc _) hgrow9);have HO9:=Lib.hid hown9;have HN9:Hid (u3.ownBlock=none∨u3.ownBlock≠(Value.slice (some ⟨g5,0,none⟩) R.length c5).ownBlock):=HNE;have HO59:=Lib.hid ((HO5x.out.alloc (.cells #[.slice pq (1+l.length) cq] 34)).kept hgrow9 (by
        rcases HNE.out with h | h
        ·right;rw [h];simp [Value.ownBlock]
        ·right;exact fun e=>h e.symm))
       have HR9:=Lib.hid ((HRx.out.below (below1 _ _)).grown (HOx.out.alloc _) hgrow9);have HNE9:Hid (v'.ownBlock=none∨v'.ownBlock≠(Value.slice (some ⟨g5,0,none⟩) R.length c5).ownBlock):=Lib.hid (by
        rcases hwhich with h | h
        ·rw [h];exact HNE.out
        ·right;rw [h];show some _≠some g5;intro e;injection e with e;(try simp at e);omega)
       have HB9:=Lib.hid (below_grown (al2 HBrx.out (by omega) _) (HOx.out.alloc _) (Nat.le_refl _) (by simp;omega) hgrow9);have hz9:wo.heap.size≤w9.heap.size:=by have:=hgrow9.size;rw [World.size_alloc] at this;omega
       clear hgrow9 hown9 hwhich;go_wp2;go_roundw
       case rel=>exact ⟨i+1,_,by go_num,by omega,by rw [HSN.out,List.length_append];exact HO9.out,by rw [HSN.out];exact HE9.out.snoc HEL9.out,HO59.out,HR9.out,HNE9.out,HB9.out,hz9⟩
       case measure=>simp [intOf];omega
     ·obtain rfl:i=R.length:=by omega
      rw [List.take_length,← HCS.out] at HO HE;go_wp2;go_roundw
      case rel=>exact ⟨k+1,xs,by go_num,by omega,by omega,HO.out,HE.out,HBr.out⟩
      case measure=>simp [intOf];omega
   ·obtain rfl:k=n+1:=by omega
    rw [← HCE.out] at HO HE;go_wp2;go_ret;exact ⟨_,_,rfl,HO.out,HE.out,HBr.out⟩
end Go.Proofs.YtadnggecnjdhiaaGreat
namespace Go.Proofs.YtadnggecnjdhiaaGreat
open Go.RowKit Tx
attribute [local go_sem] Oper.semAt_some
def okR (t:Text) (l:List Int):Bool:=decide ((wrongR t l).2.2=6)
def rightsR (t:Text):List (List Int):=(compF t.words.length t.words.length).filter (okR t)
theorem kind_right (t:Text) (a b:Nat):kindOf t a b=none↔t.right a b=true:=by
 unfold kindOf Text.right;have e0:t.isK 0 a b=t.isLong a b:=rfl;have e1:t.isK 1 a b=t.isCut a b:=rfl;have e2:t.isK 2 a b=t.isOther a b:=rfl;rw [e0,e1,e2];cases t.isLong a b <;> cases t.isCut a b <;> cases t.isOther a b <;> simp
theorem wrongGo_ok (t:Text):∀ (l:List Int) (i a:Nat),(wrongGo t i a l).2.2=6↔okFrom t.right a l=true
 | [],i,a=>by simp [wrongGo,okFrom]
 | x::l,i,a=>by
  rw [wrongGo,okFrom,Bool.and_eq_true];cases hk:kindOf t a (a+x.toNat) with
  | none =>
   dsimp only;rw [wrongGo_ok t l,← kind_right];exact ⟨fun h=>⟨hk,h⟩,fun h=>h.2⟩
  | some q =>
   dsimp only;constructor
   ·intro h;omega
   ·rintro ⟨h,_⟩;rw [← kind_right,hk] at h;cases h
theorem read_parts {t:Text} (ok:Text.Ok t) (he:t.err=0) {l:List Int} (h:Parts t.words.length l):readErr t l=0:=by
 unfold readErr;rw [if_neg (by simp [he]),if_neg,if_neg (by simp [h.2])];intro ha;obtain ⟨x,hx,hb⟩:=List.any_eq_true.1 ha;have h1:=h.1 x hx;have h2:x≤isum l:=by
  obtain ⟨s,r,rfl⟩:=List.append_of_mem hx;rw [isum_append,isum_cons];have:=isum_ge (l:=s) (fun y hy=>h.1 y (by simp [hy]));have:=isum_ge (l:=r) (fun y hy=>h.1 y (by simp [hy]));omega
 have h3:=h.2;have:=ok.n12;simp [btw] at hb;omega
theorem okR_ok {t:Text} (ok:Text.Ok t) (he:t.err=0) {l:List Int} (h:Parts t.words.length l):okR t l=okFrom t.right 0 l:=by
 rw [Bool.eq_iff_iff];unfold okR wrongR;rw [if_pos (read_parts ok he h),decide_eq_true_eq];exact wrongGo_ok t l 0 0
theorem rightsR_eq {t:Text} (ok:Text.Ok t) (he:t.err=0):rightsR t=rights t.right t.words.length:=by
 unfold rightsR rights;refine List.filter_congr fun l hl=>okR_ok ok he ((compF_mem _ _ _ (Nat.le_refl _)).1 hl)
def spRi (t:Text) (pw pt:Option Addr) (cw ct g m c j:Nat) (x:Value) (wa wb wc:Int):Nat→List Value→Value→World→Prop
 | 0,_,v,_=>v=.agg #[.slice pw t.words.length cw,.slice pt t.turns.length ct,.int .i64 t.breath]
 | 1,_,v,_=>v=.slice (some ⟨g,0,none⟩) m c
 | 2,_,v,_=>v=.int .i64 (j:Int)
 | 3,_,v,_=>v=.pointer (some ⟨g,j,none⟩)
 | 4,_,v,_=>v=x
 | 5,_,v,_=>v=.tuple #[.int .i64 wa,.int .i64 wb,.int .i64 wc]
 | 6,_,v,_=>v=.tuple #[.int .i64 wa,.int .i64 wb,.int .i64 wc]
 | 7,_,v,_=>v=.int .i64 wa
 | 8,_,v,_=>v=.int .i64 wb
 | 9,_,v,_=>v=.int .i64 wc
 | 10,_,v,_=>v=.int .i64 wa
 | 11,_,v,_=>v=.int .i64 wb
 | 12,_,v,_=>v=.int .i64 wc
 | _,_,_,_=>False
theorem spRi_stable (t:Text) (pw pt:Option Addr) (cw ct g m c j:Nat) (x:Value) (wa wb wc:Int):∀ i L v w w',spRi t pw pt cw ct g m c j x wa wb wc i L v w→Rs.Gr w w'→spRi t pw pt cw ct g m c j x wa wb wc i L v w':=by
 intro i L v w w' h hg
 match i with
 | 0=>exact h
 | 1=>exact h
 | 2=>exact h
 | 3=>exact h
 | 4=>exact h
 | 5=>exact h
 | 6=>exact h
 | 7=>exact h
 | 8=>exact h
 | 9=>exact h
 | 10=>exact h
 | 11=>exact h
 | 12=>exact h
set_option maxHeartbeats 6000000 in
set_option maxRecDepth 100000 in
theorem Right_any (t:Text) (hl1:t.words.length≤12) (hl2:t.turns.length≤1000000) (pw pt:Option Addr) (cw ct:Nat) (w:World) (hW:TxAt w t pw pt) :
  Calls Tryz.prog 12 #[.agg #[.slice pw t.words.length cw,.slice pt t.turns.length ct,.int .i64 t.breath]] w (LLPost (rightsR t) w):=by
 have HWR0:=Lib.hid (fun (l:List Int) (hll:l.length≤1000000) q d W (h:Below w.heap.size w W) (hL:Ints W q l)=>rWrong_any t l (by omega) hl2 hll pw pt q cw ct d W (hW.below h) hL);have HB:=Lib.hid (below1 w (.cells #[.slice pw t.words.length cw,.slice pt t.turns.length ct,.int .i64 t.breath] 32));have HX:=Lib.hid (heap_last w (.cells #[.slice pw t.words.length cw,.slice pt t.turns.length ct,.int .i64 t.breath] 32));obtain ⟨k0,k1,k2⟩:=blk3 HX.out;have HRD:=Lib.hid (fun W=>readings_ref t.words.length hl1 W);have hcl:=Nat.le_trans (comp_len t.words.length t.words.length) (Nat.pow_le_pow_right (show 0<2 by omega) hl1);have HLENS:Hid (∀ i,i<(compF t.words.length t.words.length).length→((compF t.words.length t.words.length).getD i []).length≤1000000):=Lib.hid (fun i hi=>by
  have hm:(compF t.words.length t.words.length).getD i []∈compF t.words.length t.words.length:=by simp [hi]
  have h1:=(compF_mem _ _ _ (Nat.le_refl _)).1 hm;have h2:=isum_ge h1.1;have h3:=h1.2;omega)
 have HRR:Hid (rightsR t=(compF t.words.length t.words.length).filter (okR t)):=Lib.hid rfl;generalize compF t.words.length t.words.length=R at HRD hcl HLENS HRR;clear hW
 go_enter Tryz.func12,Tryz.ntmps12
 go_wp2_with fail
 refine (HRD.out _).mono ?_;rintro e w5 ⟨v5,xs5,rfl,ho5,he5,hB⟩;have HX:=Lib.hid ((hB.block w.heap.size (Array.getElem?_eq_some_iff.1 HX.out).1).trans HX.out);have HO5:=Lib.hid (own_base ho5 (base':=w.heap.size) (by have:=HB.out.size;omega));have HB:=Lib.hid (join HB.out hB);have HR:=Lib.hid he5;obtain ⟨p5,c5,rfl⟩:=own_val ho5;have hz5:w.heap.size<w5.heap.size:=(Array.getElem?_eq_some_iff.1 HX.out).1;clear hB he5 ho5 k0 k1 k2;go_wp2_with fail
 go_loopw [3,5,6,7,8] (fun v3 v5 _ _ _ wr=>∃ (i:Nat) (xs:List Value),v5=.int .i64 i∧i≤R.length∧wr.ownsRow (w.heap.size+1) 34 1 v3 ((R.take i).filter (okR t)).length xs∧Els wr xs ((R.take i).filter (okR t))∧wr.ownsRow w.heap.size 34 1 (.slice p5 R.length c5) R.length xs5∧Els wr xs5 R∧(v3.ownBlock=none∨v3.ownBlock≠(Value.slice p5 R.length c5).ownBlock)∧Below w.heap.size w wr∧wr.heap[w.heap.size]?=some (.cells #[.slice pw t.words.length cw,.slice pt t.turns.length ct,.int .i64 t.breath] 32 (0,0))) (fun _ v5 _ _ _ _=>R.length-(intOf v5).toNat)
 case atStart=>exact ⟨0,[],rfl,Nat.zero_le _,own_none _ _ _ _,Els.nil _,HO5.out,HR.out,.inl rfl,HB.out,HX.out⟩
 case round =>
  clear HO5 HR HB HX;obtain ⟨wp,rfl⟩:∃ wp:World,wp=wr:=⟨_,rfl⟩;obtain ⟨i,xs,rfl,hi,hown,hels,hown5,hels5,hne,hBr,hx⟩:=hrel;have HO:=Lib.hid hown;have HE:=Lib.hid hels;have HO5:=Lib.hid hown5;have HR:=Lib.hid hels5;have HNE:=Lib.hid hne;have HBr:=Lib.hid hBr;have HXr:=Lib.hid hx;have hz7:=hBr.size;have HZ0:w.heap.size<wp.heap.size:=(Array.getElem?_eq_some_iff.1 hx).1;by_cases hlt:i<R.length
  ·have hlt':(i:Int)<R.length:=by omega
   have hlt2:(i:Int)<R.length:=by omega
   have hel:=hels5.2 i hlt;have hll:=HLENS.out i hlt;have hacl:((R.take i).filter (okR t)).length≤100000:=by
    have h1:=List.length_filter_le (okR t) (R.take i);rw [List.length_take] at h1;omega
   have HSN:Hid ((R.take (i+1)).filter (okR t)=(R.take i).filter (okR t)++(if okR t (R.getD i []) then [R.getD i []] else [])):=Lib.hid (by
    rw [take_snocD [] hlt,List.filter_append];congr 1;simp only [List.filter_cons,List.filter_nil])
   generalize (R.take i).filter (okR t)=acc at hacl HO HE HSN;rcases hown5.2 with ⟨_,h0⟩ | ⟨g5,cap5,cur5,hv5,hb5,hg5,_⟩
   ·omega
   have hcell:wp.cell? ⟨g5,i,none⟩=some (xs5.getD i undef):=by
    injection hv5 with hp5 _ _;have h1:i<xs5.length:=by rw [hels5.1];exact hlt
    have:=hown5.cells (g:=g5) (by rw [hp5];rfl) i (xs5.getD i undef) (by simp [h1]);have hadd:(⟨g5,0,none⟩:Addr).add i=⟨g5,i,none⟩:=by unfold Addr.add;split <;> simp_all
    rwa [hadd] at this
   injection hv5 with hp5 _ hc5;subst hp5;subst hc5;have hq5:g5<wp.heap.size:=(Array.getElem?_eq_some_iff.1 hg5).1;have HEL:=Lib.hid hel;obtain ⟨q,d,hx5,hQI⟩:=hel.ints;rw [hx5] at HEL hcell;generalize R.getD i []=l at hQI HSN hll HEL hcell;have HQI:=Lib.hid hQI;have HCELL:=Lib.hid hcell;have HWR:=Lib.hid (fun W h hL=>HWR0.out l hll q d W h hL);have HOKR:Hid (okR t l=decide ((wrongR t l).2.2=6)):=Lib.hid rfl;generalize wrongR t l=wr3 at HWR HOKR;obtain ⟨wa,wb,wc⟩:=wr3;dsimp only at HWR HOKR;clear hown hels hown5 hels5 hne hBr hx hel hx5 hQI hg5 hcell;go_wp2_with fail
   refine Rs.region_gen 13 [[],[],[],[1,2],[1,2,3],[0,1,2,3,4],[0,1,2,3,4,5],[0,1,2,3,4,5,6],[0,1,2,3,4,5,6],[0,1,2,3,4,5,6],[0,1,2,3,4,5,6,7],[0,1,2,3,4,5,6,7,8,10],[0,1,2,3,4,5,6,7,8,9,10,11]] [some 20,some 21,some 22,some 23,some 24,some 25,some 19,some 26,some 27,some 28,some 6,some 7,some 8] (spRi t pw pt cw ct g5 R.length c5 i (.slice q l.length d) wa wb wc) (by kernel_rfl) (by kernel_rfl) rfl (spRi_stable _ _ _ _ _ _ _ _ _ _ _ _ _) ?_ ?_
   ·refine ⟨fun V w' hG hs=>?_,fun V w' hG hs=>?_,fun V w' hG hs=>?_,fun V w' hG hs=>?_,fun V w' hG hs=>?_,fun V w' hG hs=>?_,fun V w' hG hs=>?_,fun V w' hG hs=>?_,fun V w' hG hs=>?_,fun V w' hG hs=>?_,fun V w' hG hs=>?_,fun V w' hG hs=>?_,fun V w' hG hs=>?_,trivial⟩
    all_goals
     obtain ⟨k0,k1,k2⟩:=blk3 ((hG.block w.heap.size HZ0).trans HXr.out);have hcell:=(hG.cell (p:=⟨g5,i,none⟩) hq5).trans HCELL.out
    ·rw [if_pos (by rfl)];exact Rs.GrowL.value (v:=.agg #[.slice pw t.words.length cw,.slice pt t.turns.length ct,.int .i64 t.breath]) (w':=w') (by simp [go_sem,Rs.look,k0,k1,k2]) (Rs.Gr.refl _) rfl
    ·rw [if_pos (by rfl)];exact Rs.GrowL.value (v:=.slice (some ⟨g5,0,none⟩) R.length c5) (w':=w') (by simp [go_sem,Rs.look]) (Rs.Gr.refl _) rfl
    ·rw [if_pos (by rfl)];exact Rs.GrowL.value (v:=.int .i64 (i:Int)) (w':=w') (by simp [go_sem,Rs.look]) (Rs.Gr.refl _) rfl
    ·have e1:V 1=_:=hs 1 (by simp);have e2:V 2=_:=hs 2 (by simp);rw [if_pos (by rfl)];exact Rs.GrowL.value (v:=.pointer (some ⟨g5,i,none⟩)) (w':=w') (by simp [go_sem,Rs.look,e1,e2,hlt2]) (Rs.Gr.refl _) rfl
    ·have e1:V 1=_:=hs 1 (by simp);have e2:V 2=_:=hs 2 (by simp);have e3:V 3=_:=hs 3 (by simp);rw [if_pos (by rfl)];exact Rs.GrowL.value (v:=(.slice q l.length d)) (w':=w') (by simp [go_sem,Rs.look,e1,e2,e3,hcell]) (Rs.Gr.refl _) rfl
    ·have e0:V 0=_:=hs 0 (by simp);have e1:V 1=_:=hs 1 (by simp);have e2:V 2=_:=hs 2 (by simp);have e3:V 3=_:=hs 3 (by simp);have e4:V 4=_:=hs 4 (by simp);rw [if_pos (by rfl)];refine Rs.GrowL.call (f:=16) (args:=#[.agg #[.slice pw t.words.length cw,.slice pt t.turns.length ct,.int .i64 t.breath],.slice q l.length d]) (by simp [go_sem,Rs.look,e0,e4]) ?_;refine (HWR.out w' (join HBr.out hG) (HQI.out.below hG)).mono ?_;rintro e w2 ⟨rfl,hB2⟩;exact ⟨_,rfl,hB2,rfl⟩
    ·have e0:V 0=_:=hs 0 (by simp);have e1:V 1=_:=hs 1 (by simp);have e2:V 2=_:=hs 2 (by simp);have e3:V 3=_:=hs 3 (by simp);have e4:V 4=_:=hs 4 (by simp);have e5:V 5=_:=hs 5 (by simp);rw [if_pos (by rfl)];exact Rs.GrowL.value (v:=.tuple #[.int .i64 wa,.int .i64 wb,.int .i64 wc]) (w':=w') (by simp [go_sem,Rs.look,e0,e1,e2,e3,e4,e5]) (Rs.Gr.refl _) rfl
    ·have e0:V 0=_:=hs 0 (by simp);have e1:V 1=_:=hs 1 (by simp);have e2:V 2=_:=hs 2 (by simp);have e3:V 3=_:=hs 3 (by simp);have e4:V 4=_:=hs 4 (by simp);have e5:V 5=_:=hs 5 (by simp);have e6:V 6=_:=hs 6 (by simp);rw [if_pos (by rfl)];exact Rs.GrowL.value (v:=.int .i64 wa) (w':=w') (by simp [go_sem,Rs.look,e0,e1,e2,e3,e4,e5,e6]) (Rs.Gr.refl _) rfl
    ·have e0:V 0=_:=hs 0 (by simp);have e1:V 1=_:=hs 1 (by simp);have e2:V 2=_:=hs 2 (by simp);have e3:V 3=_:=hs 3 (by simp);have e4:V 4=_:=hs 4 (by simp);have e5:V 5=_:=hs 5 (by simp);have e6:V 6=_:=hs 6 (by simp);rw [if_pos (by rfl)];exact Rs.GrowL.value (v:=.int .i64 wb) (w':=w') (by simp [go_sem,Rs.look,e0,e1,e2,e3,e4,e5,e6]) (Rs.Gr.refl _) rfl
    ·have e0:V 0=_:=hs 0 (by simp);have e1:V 1=_:=hs 1 (by simp);have e2:V 2=_:=hs 2 (by simp);have e3:V 3=_:=hs 3 (by simp);have e4:V 4=_:=hs 4 (by simp);have e5:V 5=_:=hs 5 (by simp);have e6:V 6=_:=hs 6 (by simp);rw [if_pos (by rfl)];exact Rs.GrowL.value (v:=.int .i64 wc) (w':=w') (by simp [go_sem,Rs.look,e0,e1,e2,e3,e4,e5,e6]) (Rs.Gr.refl _) rfl
    ·have e0:V 0=_:=hs 0 (by simp);have e1:V 1=_:=hs 1 (by simp);have e2:V 2=_:=hs 2 (by simp);have e3:V 3=_:=hs 3 (by simp);have e4:V 4=_:=hs 4 (by simp);have e5:V 5=_:=hs 5 (by simp);have e6:V 6=_:=hs 6 (by simp);have e7:V 7=_:=hs 7 (by simp);rw [if_pos (by rfl)];exact Rs.GrowL.value (v:=.int .i64 wa) (w':=w') (by simp [go_sem,Rs.look,e0,e1,e2,e3,e4,e5,e6,e7]) (Rs.Gr.refl _) rfl
    ·have e0:V 0=_:=hs 0 (by simp);have e1:V 1=_:=hs 1 (by simp);have e2:V 2=_:=hs 2 (by simp);have e3:V 3=_:=hs 3 (by simp);have e4:V 4=_:=hs 4 (by simp);have e5:V 5=_:=hs 5 (by simp);have e6:V 6=_:=hs 6 (by simp);have e7:V 7=_:=hs 7 (by simp);have e8:V 8=_:=hs 8 (by simp);have e10:V 10=_:=hs 10 (by simp);rw [if_pos (by rfl)];exact Rs.GrowL.value (v:=.int .i64 wb) (w':=w') (by simp [go_sem,Rs.look,e0,e1,e2,e3,e4,e5,e6,e7,e8,e10]) (Rs.Gr.refl _) rfl
    ·have e0:V 0=_:=hs 0 (by simp);have e1:V 1=_:=hs 1 (by simp);have e2:V 2=_:=hs 2 (by simp);have e3:V 3=_:=hs 3 (by simp);have e4:V 4=_:=hs 4 (by simp);have e5:V 5=_:=hs 5 (by simp);have e6:V 6=_:=hs 6 (by simp);have e7:V 7=_:=hs 7 (by simp);have e8:V 8=_:=hs 8 (by simp);have e9:V 9=_:=hs 9 (by simp);have e10:V 10=_:=hs 10 (by simp);have e11:V 11=_:=hs 11 (by simp);rw [if_pos (by rfl)];exact Rs.GrowL.value (v:=.int .i64 wc) (w':=w') (by simp [go_sem,Rs.look,e0,e1,e2,e3,e4,e5,e6,e7,e8,e9,e10,e11]) (Rs.Gr.refl _) rfl
   ·intro V w' hG hs;have e0:V 0=_:=hs 0 (by omega);have e1:V 1=_:=hs 1 (by omega);have e2:V 2=_:=hs 2 (by omega);have e3:V 3=_:=hs 3 (by omega);have e4:V 4=_:=hs 4 (by omega);have e5:V 5=_:=hs 5 (by omega);have e6:V 6=_:=hs 6 (by omega);have e7:V 7=_:=hs 7 (by omega);have e8:V 8=_:=hs 8 (by omega);have e9:V 9=_:=hs 9 (by omega);have e10:V 10=_:=hs 10 (by omega);have e11:V 11=_:=hs 11 (by omega);have e12:V 12=_:=hs 12 (by omega);simp only [Rs.canon,Rs.dstOf,List.range_succ,List.range_zero,List.nil_append,List.cons_append,List.foldl_cons,List.foldl_nil,List.drop_succ_cons,List.drop_zero,List.drop_nil,List.getElem?_toArray,List.getElem?_cons_succ,List.getElem?_cons_zero,Option.bind_some,Act.put,List.getD_cons_succ,List.getD_cons_zero,List.setIfInBounds_toArray,List.set_cons_succ,List.set_cons_zero];rw [e0,e1,e2,e3,e4,e5,e6,e7,e8,e9,e10,e11,e12];clear e0 e1 e2 e3 e4 e5 e6 e7 e8 e9 e10 e11 e12 hs;have HO:=Lib.hid (own_below HO.out hG);have HE:=Lib.hid (HE.out.below hG);have HO5:=Lib.hid (own_below HO5.out hG);have HR:=Lib.hid (HR.out.below hG);have HEL:=Lib.hid (HEL.out.below hG);have HXr:=Lib.hid ((hG.block w.heap.size HZ0).trans HXr.out);have hzg:=hG.size;have hcell:=(hG.cell (p:=⟨g5,i,none⟩) hq5).trans HCELL.out;have HBr:=Lib.hid (join HBr.out hG);clear hG;by_cases h6:wc=6
    ·subst h6;rw [HOKR.out,decide_eq_true rfl,if_pos rfl] at HSN;go_wp2_with (at_builtin;refine wpList_append_which rfl _ _ rfl (w.heap.size+1) _ _ _ rfl (HO.out.alloc _) ⟨w'.heap.size,0,none⟩ _ rfl (cell_one_new _ _ _ 0 _ rfl) rfl ?y1 ?y2 ?_)
     case y1=>first | omega | (simp;omega)
     case y2=>omega
     intro v' w9 hown9 hgrow9 hwhich;have HEL9:=Lib.hid ((HEL.out.below (below1 _ _)).grown (HO.out.alloc _) hgrow9);have HE9:=Lib.hid ((HE.out.below (below1 _ _)).grown (HO.out.alloc _) hgrow9);have HO9:=Lib.hid hown9;have HX9:=Lib.hid (blk_grown ((below1 w' _).block w.heap.size (by omega) |>.trans HXr.out) (HO.out.alloc _) hgrow9 (by omega));have HO59:=Lib.hid ((HO5.out.alloc (.cells #[.slice q l.length d] 34)).kept hgrow9 (by
      rcases HNE.out with h | h
      ·right;rw [h];simp [Value.ownBlock]
      ·right;exact fun e=>h e.symm))
     have HR9:=Lib.hid ((HR.out.below (below1 _ _)).grown (HO.out.alloc _) hgrow9);have HNE9:Hid (v'.ownBlock=none∨v'.ownBlock≠(Value.slice (some ⟨g5,0,none⟩) R.length c5).ownBlock):=Lib.hid (by
      rcases hwhich with h | h
      ·rw [h];exact HNE.out
      ·right;rw [h];show some _≠some g5;intro e;injection e with e;(try simp at e);omega)
     have HB9:=Lib.hid (below_grown (al2 HBr.out (by omega) _) (HO.out.alloc _) (by omega) (by simp;omega) hgrow9);clear hgrow9 hown9 hwhich;go_wp2;go_roundw
     case rel=>exact ⟨i+1,_,by go_num,by omega,by rw [HSN.out,List.length_append];exact HO9.out,by rw [HSN.out];exact HE9.out.snoc HEL9.out,HO59.out,HR9.out,HNE9.out,HB9.out,HX9.out⟩
     case measure=>simp [intOf];omega
    ·have h6':(wc == 6)=false:=by simpa using h6
     rw [HOKR.out,decide_eq_false h6,if_neg (by decide),List.append_nil] at HSN;clear h6;go_wp2;go_roundw
     case rel=>exact ⟨i+1,xs,by go_num,by omega,by rw [HSN.out];exact HO.out,by rw [HSN.out];exact HE.out,HO5.out,HR.out,HNE.out,HBr.out,HXr.out⟩
     case measure=>simp [intOf];omega
  ·obtain rfl:i=R.length:=by omega
   rw [List.take_length,← HRR.out] at HO HE;go_wp2;go_ret;exact ⟨_,xs,rfl,own_base HO.out (by omega),HE.out,HBr.out⟩
end Go.Proofs.YtadnggecnjdhiaaGreat
namespace Go.Proofs.YtadnggecnjdhiaaGreat
open Go.RowKit Tx
attribute [local go_sem] Oper.semAt_some
def LLs (W:World) (p:Option Addr) (L:List (List Int)):Prop:=L=[]∨∃ b,p=some ⟨b,0,none⟩∧b<W.heap.size∧∀ i,i<L.length→∃ x,W.cell? ⟨b,i,none⟩=some x∧El W x (L.getD i [])
theorem LLs.below {W W':World} {p:Option Addr} {L:List (List Int)} (h:LLs W p L) (hb:Below W.heap.size W W'):LLs W' p L:=by
 rcases h with h | ⟨b,hp,hl,h⟩
 ·exact .inl h
 ·exact .inr ⟨b,hp,Nat.lt_of_lt_of_le hl hb.size,fun i hi=>by
   obtain ⟨x,h1,h2⟩:=h i hi;exact ⟨x,(hb.cell (p:=⟨b,i,none⟩) hl).trans h1,h2.below hb⟩⟩
theorem LLs.of_own {W:World} {base:Nat} {v:Value} {L:List (List Int)} {xs:List Value} (h:W.ownsRow base 34 1 v L.length xs) (he:Els W xs L):∃ p c,v=.slice p L.length c∧LLs W p L:=by
 rcases h.2 with ⟨h3,h4⟩ | ⟨g,cap,cur,rfl,hb,hg,h1,h2,h3,h4⟩
 ·exact ⟨none,0,by rw [h3,h4],.inl (List.length_eq_zero_iff.1 h4)⟩
 ·refine ⟨_,cap,rfl,.inr ⟨g,rfl,(Array.getElem?_eq_some_iff.1 hg).1,fun i hi=>⟨xs.getD i undef,?_,he.2 i hi⟩⟩⟩;have h1:i<xs.length:=by rw [he.1];exact hi
  have:=h.cells (g:=g) rfl i (xs.getD i undef) (by simp [h1]);have hadd:(⟨g,0,none⟩:Addr).add i=⟨g,i,none⟩:=by unfold Addr.add;split <;> simp_all
  rwa [hadd] at this
theorem LLs.at {W:World} {p:Option Addr} {L:List (List Int)} (h:LLs W p L) {i:Nat} (hi:i<L.length):∃ b q d,p=some ⟨b,0,none⟩∧b<W.heap.size∧W.cell? ⟨b,i,none⟩=some (.slice q (L.getD i []).length d)∧Ints W q (L.getD i []):=by
 rcases h with rfl | ⟨b,hp,hl,h⟩
 ·simp at hi
 ·obtain ⟨x,h1,h2⟩:=h i hi;obtain ⟨q,d,rfl,h3⟩:=h2.ints;exact ⟨b,q,d,hp,hl,h1,h3⟩
theorem bestLen_le (ls:List (List Int)) (m:Nat):∀ b,b≤m→(∀ l∈ls,l.length≤m)→bestLen ls b≤m:=by
 induction ls with
 | nil=>intro b hb _;exact hb
 | cons l ls ih=>intro b hb h;rw [bestLen];exact ih _ (by have:=h l (by simp);split <;> omega) fun x hx=>h x (by simp [hx])
theorem bestLen_drop (L:List (List Int)) (i b:Nat) (h:i<L.length):bestLen (L.drop i) b=bestLen (L.drop (i+1)) (if b=0∨(L.getD i []).length<b then (L.getD i []).length else b):=by
 rw [List.drop_eq_getElem_cons h,bestLen];rw [show L.getD i []=L[i] from by simp [h]]
set_option maxHeartbeats 2000000 in
theorem rFewest_any (L:List (List Int)) (hL:L.length≤1000000) (hl:∀ l∈L,l.length≤1000) (p:Option Addr) (c:Nat) (w:World) (h:LLs w p L) :
  Calls Tryz.prog 14 #[.slice p L.length c] w fun e w'=>e=.returned (.tuple #[.int .i64 (bestLen L 0:Nat),.int .i64 (if bestLen L 0=0 then 6 else 0)])∧w=w':=by
 have H:=Lib.hid h;have HL:=Lib.hid (fun i (hi:i<L.length)=>hl (L.getD i []) (by simp [hi]));obtain ⟨B,hB⟩:∃ B,B=bestLen L 0:=⟨_,rfl⟩;rw [← hB];obtain ⟨er,her⟩:∃ er:Int,er=(if B=0 then 6 else 0):=⟨_,rfl⟩;rw [← her];have HER:=Lib.hid her;clear her;have HB:=Lib.hid hB;clear h hl hB
 go_enter Tryz.func14,Tryz.ntmps14
 go_wp2
 go_loop [4,5] (fun bv v=>∃ i b:Nat,v=.int .i64 i∧bv=.int .i64 b∧i≤L.length∧b≤1000∧bestLen (L.drop i) b=B) (fun _ v=>L.length-(intOf v).toNat)
 case atStart=>exact ⟨0,0,rfl,rfl,Nat.zero_le _,by omega,HB.out.symm⟩
 case round =>
  obtain ⟨i,b,rfl,rfl,hi,hb,hbest⟩:=hrel;have HBE:=Lib.hid hbest;clear hbest;by_cases hlt:i<L.length
  ·have hlt':(i:Int)<L.length:=by omega
   obtain ⟨g,q,d,rfl,hg,hcell,hI⟩:=H.out.at hlt;have hll:=HL.out i hlt;have HST:=Lib.hid (bestLen_drop L i b hlt);generalize L.getD i []=l at hcell hll HST;clear hI;by_cases h0:b=0
   ·subst h0;rw [if_pos (.inl rfl),HBE.out] at HST;go_wp2;go_round
    case rel=>exact ⟨i+1,l.length,by go_num,rfl,by omega,by omega,HST.out.symm⟩
    case measure=>simp [intOf];omega
   ·have h0':((b:Int) == 0)=false:=by rw [beq_eq_false_iff_ne];omega
    by_cases h1:l.length<b
    ·have h1':(l.length:Int)<b:=by omega
     rw [if_pos (.inr h1),HBE.out] at HST;clear h0 h1;go_wp2;go_round
     case rel=>exact ⟨i+1,l.length,by go_num,rfl,by omega,by omega,HST.out.symm⟩
     case measure=>simp [intOf];omega
    ·have h1':¬ (l.length:Int)<b:=by omega
     rw [if_neg (by omega),HBE.out] at HST;clear h0 h1;go_wp2;go_round
     case rel=>exact ⟨i+1,b,by go_num,rfl,by omega,by omega,HST.out.symm⟩
     case measure=>simp [intOf];omega
  ·obtain rfl:i=L.length:=by omega
   have hbe:b=B:=by have:=HBE.out;rw [List.drop_length] at this;exact this
   clear HBE HB;subst hbe;by_cases h0:b=0
   ·subst h0;have HF:Hid (er=6):=Lib.hid (by rw [HER.out,if_pos rfl]);clear HER;go_wp2;go_ret2;exact ⟨by rw [HF.out];rfl,rfl⟩
   ·have h0':((b:Int) == 0)=false:=by rw [beq_eq_false_iff_ne];omega
    have HF:Hid (er=0):=Lib.hid (by rw [HER.out,if_neg h0]);clear h0 HER;go_wp2;go_ret2;exact ⟨by rw [HF.out];rfl,rfl⟩
def nevTo (L:List (List Int)) (p:Nat):List Int:=((List.range' 1 (p-1)).filter fun q=>!L.any fun l=>breaksAt l q).map fun (q:Nat)=>(q:Int)
theorem nevTo_succ (L:List (List Int)) (p:Nat) (hp:1≤p):nevTo L (p+1)=nevTo L p++(if (L.any fun l=>breaksAt l p) then [] else [(p:Int)]):=by
 unfold nevTo;rw [show p+1-1=(p-1)+1 by omega,List.range'_concat,List.filter_append,List.map_append];rw [show 1+1*(p-1)=p by omega];cases h:(L.any fun l=>breaksAt l p) <;> simp [h]
theorem nevTo_len (L:List (List Int)) (p:Nat):(nevTo L p).length≤p:=by
 unfold nevTo;rw [List.length_map];exact Nat.le_trans (List.length_filter_le _ _) (by simp)
set_option maxHeartbeats 6000000 in
set_option maxRecDepth 100000 in
theorem rNever_any (n:Nat) (hn1:1≤n) (hn:n≤12) (L:List (List Int)) (hL:L.length≤1000000) (hl:∀ l∈L,Parts n l) (pw:Option Addr) (cw:Nat) (v1 v2:Value) (p:Option Addr) (c:Nat) (w:World) (h:LLs w p L) :
  Calls Tryz.prog 69 #[.agg #[.slice pw n cw,v1,v2],.slice p L.length c] w (RowPost (nevTo L n) w):=by
 obtain ⟨i0,hi0,hz0,hz1,hz2⟩:=info_parts A_infoI;have H:=Lib.hid h;have HL:=Lib.hid (fun i (hi:i<L.length)=>hl (L.getD i []) (by simp [hi]));have HB:=Lib.hid (below1 w (.cells #[.slice pw n cw,v1,v2] 32));have HX:=Lib.hid (heap_last w (.cells #[.slice pw n cw,v1,v2] 32));have hz1':(w.alloc (.cells #[.slice pw n cw,v1,v2] 32)).heap.size=w.heap.size+1:=by simp
 clear h hl
 go_enter Tryz.func69,Tryz.ntmps69
 go_wp2_with fail
 generalize w.alloc (.cells #[.slice pw n cw,v1,v2] 32)=W1 at HB HX hz1' ⊢;have hz1'':w.heap.size+1≤W1.heap.size:=by omega
 clear hz1'
 go_loopw [5,6,7,8,9,10] (fun ov pv _ _ _ _ wr=>∃ q:Nat,pv=.int .i64 q∧1≤q∧q≤n∧wr.ownsRow W1.heap.size 3 1 ov (nevTo L q).length ((nevTo L q).map (Value.int .i64))∧Below W1.heap.size W1 wr) (fun _ pv _ _ _ _ _=>n-(intOf pv).toNat)
 case atStart=>exact ⟨1,rfl,Nat.le_refl _,hn1,own_none _ _ _ _,Below.refl _ _⟩
 case round =>
  obtain ⟨wq,rfl⟩:∃ wq:World,wq=wr:=⟨_,rfl⟩;obtain ⟨q,rfl,hq1,hqn,hown,hBr⟩:=hrel;have HO:=Lib.hid hown;have HBr:=Lib.hid hBr;have hz7:=hBr.size;have hol:=nevTo_len L q;have HSN:=Lib.hid (nevTo_succ L q hq1);obtain ⟨k0,k1,k2⟩:=blk3 ((hBr.block w.heap.size (by omega)).trans HX.out);clear hown hBr;by_cases hlt:q<n
  ·have hlt':(q:Int)<n:=by omega
   go_wp2_with fail
   go_loopg [7,8,9,10] L.length (fun gk bv v _ _ wr=>∃ (i:Nat) (b:Bool),gk+i=L.length∧v=.int .i64 i∧bv=.bool b∧b=((L.take i).any fun l=>breaksAt l q)∧wq=wr)
   case atStart=>exact ⟨0,false,by omega,rfl,rfl,rfl,rfl⟩
   case round =>
    obtain ⟨gm,rfl⟩:∃ x:Nat,x=gk:=⟨_,rfl⟩;obtain ⟨i,b,hi,rfl,rfl,hb,rfl⟩:=hrel;have HBB:=Lib.hid hb;clear hb;by_cases hil:i<L.length
    ·have hil':(i:Int)<L.length:=by omega
     obtain ⟨g,r,d,rfl,hg,hcell,hI⟩:=(H.out.below (join HB.out HBr.out)).at hil;have hpl:=HL.out i hil;have HST:Hid (((L.take (i+1)).any fun l=>breaksAt l q)=(b||breaksAt (L.getD i []) q)):=Lib.hid (by
      rw [take_snocD [] hil,List.any_append,← HBB.out];simp)
     generalize L.getD i []=l at hcell hpl HST hI;have HPL:=Lib.hid (fun k=>isum_take_le (fun x h=>by have:=hpl.1 x h;omega) hpl.2 k);have hll:l.length≤12:=by have:=isum_ge hpl.1;have:=hpl.2;omega
     have HI:=Lib.hid hI;clear hpl hI;go_wp2_with fail
     go_loopg [7,9,10] l.length (fun gk2 bv av kv wr=>∃ (k:Nat) (s:Int),gk2+k=l.length∧kv=.int .i64 k∧av=.int .i64 s∧s=isum (l.take k)∧bv=.bool (b||(List.range k).any fun j=>isum (l.take (j+1)) == (q:Int))∧wq=wr)
     case atStart=>exact ⟨0,0,by omega,rfl,rfl,rfl,by simp,rfl⟩
     case round =>
      obtain ⟨k,s,hk,rfl,rfl,hs,rfl,rfl⟩:=hrel;by_cases hkl:k<l.length
      ·have hkl':(k:Int)<l.length:=by omega
       obtain ⟨gb,go,x,rfl,hgb,hxx,hc1⟩:=HI.out.at hkl;have hsn:isum (l.take (k+1))=s+x:=by rw [take_snocD 0 hkl,isum_snoc,hxx,hs]
       have hp1:=HPL.out k;have hp2:=HPL.out (k+1);rw [← hs] at hp1;rw [hsn] at hp2;have HSU:=Lib.hid hsn;have HAN:Hid ((List.range (k+1)).any (fun j=>isum (l.take (j+1)) == (q:Int))=((List.range k).any (fun j=>isum (l.take (j+1)) == (q:Int))||(s+x == (q:Int)))):=Lib.hid (by
        rw [List.range_succ,List.any_append];simp [hsn])
       generalize (List.range k).any (fun j=>isum (l.take (j+1)) == (q:Int))=ak at HAN;clear hs hsn hxx;cases hba:(b||ak) with
       | true =>
        have HBA:=Lib.hid hba;clear hba;go_wp2
        go_roundg (gk-1)
        case rel=>exact ⟨k+1,s+x,by omega,by go_num,rfl,HSU.out.symm,by rw [HAN.out,← Bool.or_assoc,HBA.out];rfl,rfl⟩
        case measure=>omega
       | false =>
        have HBA:=Lib.hid hba;clear hba;go_wp2
        go_roundg (gk-1)
        case rel=>exact ⟨k+1,s+x,by omega,by go_num,rfl,HSU.out.symm,by rw [HAN.out,← Bool.or_assoc,HBA.out];rfl,rfl⟩
        case measure=>omega
      ·obtain rfl:k=l.length:=by omega
       have HFB:Hid (breaksAt l q=(List.range l.length).any fun j=>isum (l.take (j+1)) == (q:Int)):=Lib.hid rfl;clear hs;go_wp2
       go_roundg (gm-1)
       case rel=>exact ⟨i+1,_,by omega,by go_num,rfl,by rw [HST.out,HFB.out],rfl⟩
       case measure=>omega
    ·obtain rfl:i=L.length:=by omega
     rw [List.take_length] at HBB;cases b with
     | true =>
      rw [← HBB.out,if_pos rfl,List.append_nil] at HSN;go_wp2;go_roundw
      case rel=>exact ⟨q+1,by go_num,by omega,by omega,by rw [HSN.out];exact HO.out,HBr.out⟩
      case measure=>simp [intOf];omega
     | false =>
      rw [← HBB.out,if_neg (by decide)] at HSN;go_wp2_with (at_builtin;refine wpList_append_own _ rfl _ _ 34 rfl W1.heap.size 3 i0 (.int .i64 0) 1 8 A_undI hi0 hz0 hz1 hz2 rfl (by decide) _ _ _ rfl (HO.out.alloc _) ⟨wq.heap.size,0,none⟩ 1 1 [.int .i64 (q:Int)] rfl rfl ?d1 ?d2 ?d3 ?d4 ?d5 ?_)
      case d1=>exact cell_one_new _ _ _
      case d2=>first | rfl | (intro u hu;simp at hu;subst hu;rfl)
      case d3=>unfold maxLen;omega
      case d4=>omega
      case d5=>first | omega | (simp;omega)
      intro v' w8 hown8 hgrow _;have hB8:=below_grown (al2 HBr.out (by omega) _) (HO.out.alloc _) (Nat.le_refl _) (by simp;omega) hgrow;have HO8:=Lib.hid hown8;have HB8:=Lib.hid hB8;clear hgrow hown8 hB8;go_wp2;go_roundw
      case rel=>exact ⟨q+1,by go_num,by omega,by omega,by rw [HSN.out];simpa using HO8.out,HB8.out⟩
      case measure=>simp [intOf];omega
  ·obtain rfl:q=n:=by omega
   clear HSN;go_wp2;go_ret;exact ⟨_,rfl,own_base HO.out (by omega),join HB.out HBr.out⟩
end Go.Proofs.YtadnggecnjdhiaaGreat
namespace Go.Proofs.YtadnggecnjdhiaaGreat
open Go.RowKit Tx
theorem even1_any (k s:List Int) (hk:k.length≤1000000) (hs:s.length≤1000000) (B:Nat) (pk ps:Option Addr) (ck cs:Nat) (w:World) (hB:w.heap[B]?=some (.cells #[.slice ps s.length cs] 34 (0,0))) (hK:Ints w pk k) (hS:Ints w ps s) :
  Calls Tryz.prog 19 #[.slice pk k.length ck,.pointer (some ⟨B,0,none⟩)] w fun e w'=>e=.returned (.bool (decide (k=s)))∧Below w.heap.size w w':=by
 have c0:=blk_cells hB 0 _ rfl;have HL:=Lib.hid (fun W (h:Below w.heap.size w W)=>Like_ints pk ps ck cs k s _ rfl W hk hs (hK.below h) (hS.below h));clear hB hK hS;generalize decide (k=s)=b at HL ⊢
 go_enter Tryz.func19,Tryz.ntmps19
 go_wp2_with fail
 refine (HL.out _ (Below.refl _ _)).mono ?_;rintro e w2 ⟨rfl,hB2⟩;go_wp2;go_ret;exact ⟨rfl,hB2⟩
theorem entered_even1:Entered 19:=fun args W=>by kernel_rfl
def idxL (p:List Int→Bool) (ts:List (List Int)) (z:Int):Prop:=(z=-1∧ts.any p=false)∨(0≤z∧ts.any p=true)
set_option maxHeartbeats 1000000 in
set_option maxRecDepth 100000 in
theorem indexFuncL (F:FuncId) (hF:Entered F) (E:Value) (q:List Int→Bool) (ts:List (List Int)) (p:Option Addr) (c:Nat) (w:World) (hl:ts.length≤1000000) (hi:LLs w p ts) (hq:∀ W,Below w.heap.size w W→∀ u∈ts,∀ pu cu,Ints W pu u→Calls Tryz.prog F #[.slice pu u.length cu,E] W fun e w'=>e=.returned (.bool (q u))∧Below W.heap.size W w') :
  Calls Tryz.prog 50 #[.slice p ts.length c,.func (.func F) #[] #[E]] w fun e w'=>∃ z:Int,e=.returned (.int .i64 z)∧idxL q ts z∧Below w.heap.size w w':=by
 have HI:=Lib.hid hi;have HQ:=Lib.hid hq;have HF:=Lib.hid hF;clear hi hq hF
 go_enter Tryz.func50,Tryz.ntmps50
 go_wp2_with fail
 go_loopw [5,8] (fun u5 i wr=>∃ k:Nat,k≤ts.length∧i=.int .i64 k∧(ts.take k).any q=false∧Below w.heap.size w wr) (fun _ i _=>ts.length-(intOf i).toNat)
 case atStart=>exact ⟨0,Nat.zero_le _,rfl,rfl,Below.refl _ _⟩
 case round =>
  obtain ⟨k,hk,rfl,hA,hB⟩:=hrel;have HA:=Lib.hid hA;clear hA;by_cases hlt:k<ts.length
  ·have hlt':(k:Int)<ts.length:=by omega
   obtain ⟨b,qa,d,rfl,hb,c1,hI⟩:=(HI.out.below hB).at hlt;have HB:=Lib.hid hB;have HASK:=Lib.hid (HQ.out _ hB _ (getD_mem [] hlt) qa d hI);obtain ⟨x,hx⟩:∃ x,x=ts.getD k []:=⟨_,rfl⟩;have HX:=Lib.hid hx;rw [← hx] at HASK c1;clear hB hI hx;go_wp2_with fail
   rw [HF.out,Oper.upon_enter];refine HASK.out.mono ?_;rintro e w5 ⟨rfl,hB5⟩;have HB5:=Lib.hid (join HB.out hB5);clear HASK hB5;cases hbad:q x with
   | true =>
    have HBAD:=Lib.hid hbad;clear hbad;go_wp2;go_ret;exact ⟨_,rfl,.inr ⟨by omega,any_hit [] hlt _ (by rw [← HX.out];exact HBAD.out)⟩,HB5.out⟩
   | false =>
    have HBAD:=Lib.hid hbad;clear hbad;go_wp2;go_roundw
    case rel=>exact ⟨k+1,by omega,by go_num,any_snoc [] hlt _ HA.out (by rw [← HX.out];exact HBAD.out),HB5.out⟩
    case measure=>simp [intOf];omega
  ·obtain rfl:k=ts.length:=by omega
   have HB:=Lib.hid hB;clear hB;go_wp2;go_ret;exact ⟨_,rfl,.inl ⟨rfl,by have:=HA.out;rwa [List.take_length] at this⟩,HB.out⟩
set_option maxHeartbeats 1000000 in
set_option maxRecDepth 100000 in
theorem containsFuncL (F:FuncId) (hF:Entered F) (E:Value) (q:List Int→Bool) (ts:List (List Int)) (p:Option Addr) (c:Nat) (w:World) (hl:ts.length≤1000000) (hi:LLs w p ts) (hq:∀ W,Below w.heap.size w W→∀ u∈ts,∀ pu cu,Ints W pu u→Calls Tryz.prog F #[.slice pu u.length cu,E] W fun e w'=>e=.returned (.bool (q u))∧Below W.heap.size W w') :
  Calls Tryz.prog 18 #[.slice p ts.length c,.func (.func F) #[] #[E]] w fun e w'=>e=.returned (.bool (ts.any q))∧Below w.heap.size w w':=by
 have HI:=Lib.hid (indexFuncL F hF E q ts p c w hl hi hq);clear hi hq
 go_enter Tryz.func18,Tryz.ntmps18
 go_wp2_with fail
 refine HI.out.mono ?_;rintro e w5 ⟨z,rfl,hz,hB5⟩;rcases hz with ⟨rfl,ha⟩ | ⟨h0,ha⟩
 ·have HA:=Lib.hid ha;clear ha;go_wp2;go_ret;exact ⟨by rw [HA.out];rfl,hB5⟩
 ·have HA:=Lib.hid ha;have hz0:decide (0≤z)=true:=by simpa using h0
  clear ha;go_wp2;go_ret;exact ⟨by rw [HA.out];rfl,hB5⟩
end Go.Proofs.YtadnggecnjdhiaaGreat
namespace Go.Proofs.YtadnggecnjdhiaaGreat
open Tx
def longGo (t:Text):Nat→List Int→Int
 | _,[]=>0
 | a,x::l=>max (t.syl a (a+x.toNat)) (longGo t (a+x.toNat) l)
def evGo (t:Text):List Nat→List Int × Int × Int
 | []=>([],0,6)
 | m::ms=>if (fewest (t.within (m:Nat)) t.words.length).2=0 then ((fewest (t.within (m:Nat)) t.words.length).1,(m:Int),0) else evGo t ms
def evR (t:Text):List Int × Int × Int:=if t.err=0 then evGo t (List.range' 1 t.breath.toNat) else ([],0,t.err)
theorem okFrom_within (t:Text) (m:Int) (hm:0≤m):∀ (l:List Int) (a:Nat),okFrom (t.within m) a l=(okFrom t.right a l&&decide (longGo t a l≤m))
 | [],a=>by simp [okFrom,longGo,hm]
 | x::l,a=>by
  rw [okFrom,okFrom,longGo,okFrom_within t m hm l];unfold Tx.Text.within;rw [Bool.eq_iff_iff];simp only [Bool.and_eq_true,decide_eq_true_eq];constructor
  ·rintro ⟨⟨h1,h2⟩,h3,h4⟩;exact ⟨⟨h2,h3⟩,by omega⟩
  ·rintro ⟨⟨h2,h3⟩,h4⟩;exact ⟨⟨by omega,h2⟩,h3,by omega⟩
theorem syl_pos {t:Text} (hs:∀ x∈t.words,1≤x.syl∧x.syl≤9) {a b:Nat} (hab:a<b) (hb:b≤t.words.length):1≤t.syl a b:=by
 unfold Text.syl;have hl:((slice t.words a b).map (·.syl)).length=b-a:=by simp [slice];omega
 have:=isum_ge (l:=(slice t.words a b).map (·.syl)) (fun x hx=>by
  obtain ⟨y,hy,rfl⟩:=List.mem_map.1 hx;exact (hs y (List.mem_of_mem_drop (List.mem_of_mem_take hy))).1)
 omega
theorem longGo_pos {t:Text} (hs:∀ x∈t.words,1≤x.syl∧x.syl≤9) {l:List Int} (hl:Parts t.words.length l) (h1:1≤t.words.length):1≤longGo t 0 l:=by
 cases l with
 | nil=>have:=hl.2;simp [isum] at this;omega
 | cons x l =>
  rw [longGo];rw [parts_cons] at hl;have:=parts_pos hl.2;have:=syl_pos hs (a:=0) (b:=0+x.toNat) (by omega) (by omega);omega
theorem longGo_breath {t:Text} (hb:0≤t.breath):∀ (l:List Int) (a:Nat),okFrom t.right a l=true→longGo t a l≤t.breath
 | [],a,_=>hb
 | x::l,a,h=>by
  rw [okFrom,Bool.and_eq_true] at h;have h2:=longGo_breath hb l _ h.2;have h1:=h.1;unfold Text.right Text.isLong at h1;simp only [Bool.and_eq_true,Bool.not_eq_true',decide_eq_false_iff_not] at h1;rw [longGo];omega
theorem evGo_spec (t:Text):∀ (ms:List Nat),(evGo t ms=([],0,6)∧∀ m∈ms,(fewest (t.within (m:Nat)) t.words.length).2≠0) ∨
  ∃ pre m post,ms=pre++m::post∧evGo t ms=((fewest (t.within (m:Nat)) t.words.length).1,(m:Int),0)∧(fewest (t.within (m:Nat)) t.words.length).2=0∧∀ k∈pre,(fewest (t.within (k:Nat)) t.words.length).2≠0
 | []=>.inl ⟨rfl,by simp⟩
 | m::ms=>by
  rw [evGo];by_cases h:(fewest (t.within (m:Nat)) t.words.length).2=0
  ·rw [if_pos h];exact .inr ⟨[],m,ms,rfl,rfl,h,by simp⟩
  ·rw [if_neg h];rcases evGo_spec t ms with ⟨h1,h2⟩ | ⟨pre,k,post,h1,h2,h3,h4⟩
   ·exact .inl ⟨h1,fun k hk=>by rcases List.mem_cons.1 hk with rfl | hk;exact h;exact h2 k hk⟩
   ·exact .inr ⟨m::pre,k,post,by rw [h1];rfl,h2,h3,fun j hj=>by rcases List.mem_cons.1 hj with rfl | hj;exact h;exact h4 j hj⟩
theorem evR_spec {t:Text} (he:t.err=0) (hs:∀ x∈t.words,1≤x.syl∧x.syl≤9) (hn1:1≤t.words.length) (hn:t.words.length≤12) (hb:1≤t.breath) :
  ((evR t).2.2=6∧(evR t).1=[]∧∀ l,Parts t.words.length l→okFrom t.right 0 l=true→False) ∨
  ((evR t).2.2=0∧Parts t.words.length (evR t).1∧okFrom t.right 0 (evR t).1=true∧longGo t 0 (evR t).1=(evR t).2.1∧1≤(evR t).2.1∧(evR t).2.1≤t.breath ∧
   ∀ l,Parts t.words.length l→okFrom t.right 0 l=true→(evR t).2.1≤longGo t 0 l∧(longGo t 0 l=(evR t).2.1→(evR t).1.length≤l.length)):=by
 unfold evR;rw [if_pos he];have hfr:=fun m:Nat=>fewest_rights (may:=t.within (m:Nat)) hn1 hn;have hno:∀ (m:Nat) l,Parts t.words.length l→okFrom t.right 0 l=true→longGo t 0 l≤m→l∈rights (t.within (m:Nat)) t.words.length:=fun m l h1 h2 h3=>by
  rw [mem_rights];exact ⟨h1,by rw [okFrom_within t _ (by omega),h2];simpa using h3⟩
 have hnot:∀ (m:Nat),(fewest (t.within (m:Nat)) t.words.length).2≠0→∀ l,Parts t.words.length l→okFrom t.right 0 l=true→¬ longGo t 0 l≤m:=fun m hm l h1 h2 h3=>by
  apply hm;rw [(hfr m).2.2.2];intro e;have:=hno m l h1 h2 h3;rw [e] at this;simp at this
 rcases evGo_spec t (List.range' 1 t.breath.toNat) with ⟨h1,h2⟩ | ⟨pre,m,post,h1,h2,h3,h4⟩
 ·left;rw [h1];refine ⟨rfl,rfl,fun l hl ho=>?_⟩;refine hnot t.breath.toNat (h2 _ (by rw [List.mem_range'_1];omega)) l hl ho ?_;have:=longGo_breath (by omega) l 0 ho;omega
 ·right;rw [h2];have hin:=(hfr m).2.2.1 h3;obtain ⟨g1,g2⟩:=mem_rights.1 hin;rw [okFrom_within t _ (by omega),Bool.and_eq_true,decide_eq_true_eq] at g2;have hmem:m∈List.range' 1 t.breath.toNat:=by rw [h1];simp
  rw [List.mem_range'_1] at hmem;have hlow:∀ l,Parts t.words.length l→okFrom t.right 0 l=true→(m:Int)≤longGo t 0 l:=fun l hl ho=>by
   have hp:=longGo_pos hs hl hn1;have hlb:=longGo_breath (by omega) l 0 ho;rcases Nat.lt_or_ge (longGo t 0 l).toNat m with hlt | hge
   ·exfalso;have hk:(longGo t 0 l).toNat∈pre:=by
     have hlen:m=1+pre.length:=by
      have e:(List.range' 1 t.breath.toNat)[pre.length]?=some m:=by rw [h1];simp
      rw [List.getElem?_range'] at e
      ·simp at e;omega
      ·have:=congrArg List.length h1;simp at this;omega
     have e2:(List.range' 1 t.breath.toNat)[(longGo t 0 l).toNat-1]?=some (longGo t 0 l).toNat:=by
      rw [List.getElem?_range' (by omega)]
      congr 1;omega
     rw [h1,List.getElem?_append_left (by omega)] at e2;exact List.mem_of_getElem? e2
    exact hnot _ (h4 _ hk) l hl ho (by omega)
   ·omega
  refine ⟨rfl,g1,g2.1,?_,by show (1:Int)≤(m:Int);omega,by show (m:Int)≤_;omega,fun l hl ho=>⟨hlow l hl ho,fun e=>?_⟩⟩
  ·have:=hlow _ g1 g2.1;have:=g2.2;dsimp only at *;omega
  ·have hl2:=hno m l hl ho (by dsimp only at e;omega);dsimp only;rw [(hfr m).1];exact (bestLen_spec _ 0 (rights_ne hn1)).2.1 l hl2
end Go.Proofs.YtadnggecnjdhiaaGreat
namespace Go.Proofs.YtadnggecnjdhiaaGreat
open Tx
def evStep (f:List Int→Int) (s:Option (Nat × Int)) (l:List Int):Option (Nat × Int) :=
 match s with
 | none=>some (l.length,f l)
 | some (m,n)=>if f l<n∨(f l=n∧l.length<m) then some (l.length,f l) else some (m,n)
def evS (f:List Int→Int) (R:List (List Int)):Option (Nat × Int):=R.foldl (evStep f) none
theorem evS_snoc (f:List Int→Int) (R:List (List Int)) (l:List Int):evS f (R++[l])=evStep f (evS f R) l:=by
 unfold evS;rw [List.foldl_append];rfl
theorem evS_spec (f:List Int→Int) (R:List (List Int)) (h:R≠[]):∃ l∈R,evS f R=some (l.length,f l)∧∀ m∈R,f l≤f m∧(f m=f l→l.length≤m.length):=by
 have key:∀ n,0<n→n≤R.length→∃ l∈R.take n,evS f (R.take n)=some (l.length,f l)∧∀ m∈R.take n,f l≤f m∧(f m=f l→l.length≤m.length):=by
  intro n
  induction n with
  | zero=>intro h0 _;omega
  | succ n ih =>
   intro _ hn;have e:R.take (n+1)=R.take n++[R[n]]:=by rw [List.take_add_one,List.getElem?_eq_getElem (by omega)];rfl
   rw [e,evS_snoc];rcases Nat.eq_zero_or_pos n with g | g
   ·subst g;exact ⟨R[0],by simp,by simp [evS,evStep],fun m hm=>by
     have:m=R[0]:=by simpa using hm
     subst this;exact ⟨Int.le_refl _,fun _=>Nat.le_refl _⟩⟩
   ·obtain ⟨l,hl,h1,h2⟩:=ih g (by omega);rw [h1];by_cases hc:f R[n]<f l∨(f R[n]=f l∧R[n].length<l.length)
    ·refine ⟨R[n],List.mem_append_right _ (List.mem_singleton.2 rfl),by unfold evStep;dsimp only;rw [if_pos hc],fun m hm=>?_⟩;rcases List.mem_append.1 hm with q | q
     ·obtain ⟨a1,a2⟩:=h2 m q;rcases hc with c | ⟨c1,c2⟩
      ·exact ⟨by omega,fun e=>by omega⟩
      ·exact ⟨by omega,fun e=>by have:=a2 (by omega);omega⟩
     ·have:m=R[n]:=by simpa using q
      subst this;exact ⟨Int.le_refl _,fun _=>Nat.le_refl _⟩
    ·refine ⟨l,List.mem_append_left _ hl,by unfold evStep;dsimp only;rw [if_neg hc],fun m hm=>?_⟩;rcases List.mem_append.1 hm with q | q
     ·exact h2 m q
     ·have:m=R[n]:=by simpa using q
      subst this;rw [not_or] at hc;refine ⟨by omega,fun e=>?_⟩;have:=fun h=>hc.2 ⟨e,h⟩;omega
 have:=key R.length (List.length_pos_iff.2 h) (Nat.le_refl _);rwa [List.take_length] at this
theorem even_ref {t:Text} (he:t.err=0) (hs:∀ x∈t.words,1≤x.syl∧x.syl≤9) (hn1:1≤t.words.length) (hn:t.words.length≤12) (hb:1≤t.breath) :
  (rights t.right t.words.length=[]∧(evR t).2.2=6∧(evR t).1=[]) ∨
  (rights t.right t.words.length≠[]∧(evR t).2.2=0∧evS (longGo t 0) (rights t.right t.words.length)=some ((evR t).1.length,(evR t).2.1)):=by
 rcases evR_spec he hs hn1 hn hb with ⟨h1,h2,h3⟩ | ⟨h1,h2,h3,h4,h5,h6,h7⟩
 ·left;refine ⟨?_,h1,h2⟩;apply List.eq_nil_iff_forall_not_mem.2;intro l hl;obtain ⟨a1,a2⟩:=mem_rights.1 hl;exact h3 l a1 a2
 ·right;have hm:(evR t).1∈rights t.right t.words.length:=mem_rights.2 ⟨h2,h3⟩;have hne:rights t.right t.words.length≠[]:=fun e=>by rw [e] at hm;simp at hm
  refine ⟨hne,h1,?_⟩;obtain ⟨l,hl,g1,g2⟩:=evS_spec (longGo t 0) _ hne;obtain ⟨a1,a2⟩:=mem_rights.1 hl;obtain ⟨b1,b2⟩:=h7 l a1 a2;obtain ⟨c1,c2⟩:=g2 _ hm;rw [h4] at c1 c2;rw [g1];have e:longGo t 0 l=(evR t).2.1:=by omega
  have e2:l.length=(evR t).1.length:=by have:=b2 e;have:=c2 e.symm;omega
  rw [e,e2]
theorem evGo_six (t:Text):∀ ms:List Nat,(evGo t ms).2.2=6→(evGo t ms).2.1=0
 | [],_=>rfl
 | m::ms,h=>by
  rw [evGo] at h ⊢;split at h
  ·have h:(0:Int)=6:=h;omega
  ·rename_i h2
   rw [if_neg h2];exact evGo_six t ms h
theorem evR_six {t:Text} (he:t.err=0) (h:(evR t).2.2=6):(evR t).2.1=0:=by
 unfold evR at h ⊢;rw [if_pos he] at h ⊢;exact evGo_six t _ h
end Go.Proofs.YtadnggecnjdhiaaGreat
namespace Go.Proofs.YtadnggecnjdhiaaGreat
open Go.RowKit Tx
theorem placesL_get (l:List Int) (k:Nat) (hk:k≤l.length):(placesL l).getD k 0=isum (l.take k):=by
 unfold placesL;rw [List.getD_eq_getElem?_getD,List.getElem?_map,List.getElem?_range (by omega)];rfl
theorem placesL_len (l:List Int):(placesL l).length=l.length+1:=by simp [placesL]
def TurnOk (L:Int) (u:Turn):Prop:=0≤u.word∧u.word<L∧0≤u.lo∧u.lo≤u.hi∧u.hi<L∧(u.word<u.lo∨u.hi<u.word)
def innerP (P:List Int):List Int:=(P.take (P.length-1)).drop 1
def apartIn (P:List Int) (u:Turn):Bool:=(innerP P).any fun p=>u.parts p
theorem says_iff (u:Turn) (a b:Int):u.says a b=true↔a≤u.lo∧u.hi≤b∧¬ (a≤u.word∧u.word≤b):=by
 unfold Turn.says btw;simp;omega
theorem parts_iff (u:Turn) (p:Int):u.parts p=true↔(u.word<p∧p≤u.lo)∨(u.hi<p∧p≤u.word):=by
 unfold Turn.parts;simp
theorem mem_inner (l:List Int) (x:Int):x∈innerP (placesL l)↔∃ j,1≤j∧j<l.length∧x=isum (l.take j):=by
 unfold innerP;rw [placesL_len,Nat.add_sub_cancel];constructor
 ·intro h;obtain ⟨i,hi,he⟩:=List.mem_iff_getElem.1 h;have hi2:i+1<l.length:=by simp [placesL_len] at hi;omega
  refine ⟨i+1,by omega,hi2,?_⟩;rw [← he,List.getElem_drop,List.getElem_take,← placesL_get l (i+1) (by omega)];have hl:i+1<(placesL l).length:=by rw [placesL_len];omega
  simp only [Nat.add_comm 1 i];simp [hl]
 ·rintro ⟨j,h1,h2,rfl⟩;rw [← placesL_get l j (by omega)];refine List.mem_iff_getElem.2 ⟨j-1,by simp [placesL_len];omega,?_⟩;rw [List.getElem_drop,List.getElem_take];have e:1+(j-1)=j:=by omega
  have hl:j<(placesL l).length:=by rw [placesL_len];omega
  simp only [e];simp [hl]
theorem runSays_places {l:List Int} {a b:Nat} (hb:b<l.length) (hab:a≤b) (u:Turn):runSays (placesL l) u a b=u.says (isum (l.take a)) (isum (l.take (b+1))-1):=by
 unfold runSays;rw [placesL_get l a (by omega),placesL_get l (b+1) (by omega)]
theorem mem_runs {m:Nat} {q:Nat × Nat}:q∈runs m↔q.1≤q.2∧q.2<m:=by
 unfold runs;constructor
 ·intro h;obtain ⟨x,hx,hq⟩:=List.mem_flatMap.1 h;obtain ⟨y,hy,rfl⟩:=List.mem_map.1 hq;rw [List.mem_range'_1] at hy;have:=List.mem_range.1 hx;exact ⟨hy.1,by show y<m;omega⟩
 ·rintro ⟨h1,h2⟩;exact List.mem_flatMap.2 ⟨q.1,List.mem_range.2 (by omega),List.mem_map.2 ⟨q.2,List.mem_range'_1.2 ⟨h1,by omega⟩,rfl⟩⟩
theorem runs_apart {L:Int} {l:List Int} (h:Parts L l) {u:Turn} (hu:TurnOk L u):(runs l.length).any (fun q=>runSays (placesL l) u q.1 q.2)=apartIn (placesL l) u:=by
 obtain ⟨u0,u1,u2,u3,u4,u5⟩:=hu;have hL:isum (l.take l.length)=L:=by rw [List.take_length];exact h.2
 have h0:isum (l.take 0)=0:=by simp [isum]
 rw [Bool.eq_iff_iff];unfold apartIn;rw [List.any_eq_true,List.any_eq_true];constructor
 ·rintro ⟨q,hq,hs⟩;obtain ⟨q1,q2⟩:=mem_runs.1 hq;rw [runSays_places q2 q1,says_iff] at hs;obtain ⟨s1,s2,s3⟩:=hs;by_cases hw:u.word<isum (l.take q.1)
  ·refine ⟨_,(mem_inner l _).2 ⟨q.1,?_,by omega,rfl⟩,(parts_iff _ _).2 (.inl ⟨hw,s1⟩)⟩;by_cases hz:q.1=0
   ·rw [hz,h0] at hw;omega
   ·omega
  ·refine ⟨_,(mem_inner l _).2 ⟨q.2+1,by omega,?_,rfl⟩,(parts_iff _ _).2 (.inr ⟨by omega,by omega⟩)⟩;by_cases hz:q.2+1=l.length
   ·rw [hz,hL] at s3;omega
   ·omega
 ·rintro ⟨x,hx,hp⟩;obtain ⟨j,j1,j2,rfl⟩:=(mem_inner l _).1 hx;rcases (parts_iff _ _).1 hp with ⟨p1,p2⟩ | ⟨p1,p2⟩
  ·refine ⟨(j,l.length-1),mem_runs.2 ⟨by show j≤l.length-1;omega,by show l.length-1<l.length;omega⟩,?_⟩
   show runSays (placesL l) u j (l.length-1)=true
   rw [runSays_places (by omega) (by omega),says_iff,show l.length-1+1=l.length by omega,hL];exact ⟨p2,by omega,by omega⟩
  ·refine ⟨(0,j-1),mem_runs.2 ⟨Nat.zero_le _,by show j-1<l.length;omega⟩,?_⟩
   show runSays (placesL l) u 0 (j-1)=true
   rw [runSays_places (by omega) (Nat.zero_le _),says_iff,show j-1+1=j by omega,h0];exact ⟨by omega,by omega,by omega⟩
theorem astrayGo_spec (P:List Int):∀ (ts:List Turn) (i:Nat),(astrayGo P i ts=(0,0,0,6)∧∀ u∈ts,(runs (P.length-1)).any (fun q=>runSays P u q.1 q.2)=false) ∨
  (∃ k a b:Nat,k<ts.length∧astrayGo P i ts=(((i+k:Nat):Int),(a:Int),(b:Int),0)∧(∀ j,j<k→(runs (P.length-1)).any (fun q=>runSays P (ts.getD j default) q.1 q.2)=false)∧a≤b∧b<P.length-1∧runSays P (ts.getD k default) a b=true)
 | [],i=>.inl ⟨rfl,fun u hu=>by cases hu⟩
 | u::ts,i=>by
  cases hf:(runs (P.length-1)).find? (fun q=>runSays P u q.1 q.2) with
  | some q =>
   have hq:=List.mem_of_find?_eq_some hf;have hs:=List.find?_some hf;obtain ⟨q1,q2⟩:=mem_runs.1 hq;refine .inr ⟨0,q.1,q.2,by simp,?_,fun j hj=>absurd hj (Nat.not_lt_zero _),q1,q2,hs⟩;unfold astrayGo;rw [hf];rfl
  | none =>
   have hn:(runs (P.length-1)).any (fun q=>runSays P u q.1 q.2)=false:=by
    rw [Bool.eq_false_iff];intro h;obtain ⟨q,hq,hs⟩:=List.any_eq_true.1 h;exact List.find?_eq_none.1 hf q hq hs
   have he:astrayGo P i (u::ts)=astrayGo P (i+1) ts:=by rw [astrayGo,hf]
   rw [he];rcases astrayGo_spec P ts (i+1) with ⟨h1,h2⟩ | ⟨k,a,b,h1,h2,h3,h4⟩
   ·exact .inl ⟨h1,fun v hv=>by rcases List.mem_cons.1 hv with rfl | hv;exact hn;exact h2 v hv⟩
   ·refine .inr ⟨k+1,a,b,by simp;omega,by rw [h2];congr 2;omega,fun j hj=>?_,by simpa using h4⟩;cases j with
    | zero=>simpa using hn
    | succ j=>simpa using h3 j (by omega)
theorem okFrom_sure (t:Text):∀ (l:List Int) (a:Nat),l≠[]→(∀ x∈l,1≤x)→(okFrom t.sureB a l=true↔okFrom t.right a l=true∧∀ j,j≤l.length→t.parts ((a:Int)+isum (l.take j))=false)
 | [],_,h,_=>absurd rfl h
 | x::l,a,_,hp=>by
  have hx:=hp x (by simp);rw [okFrom,okFrom,Bool.and_eq_true,Bool.and_eq_true];have e1:t.sureB a (a+x.toNat)=true↔t.right a (a+x.toNat)=true∧t.parts a=false∧t.parts ((a:Int)+x)=false:=by
   unfold Text.sureB;rw [show ((a+x.toNat:Nat):Int)=(a:Int)+x by omega];simp [Bool.and_eq_true,and_assoc]
  rw [e1];cases l with
  | nil =>
   simp only [okFrom,and_true,List.length_cons,List.length_nil];constructor
   ·rintro ⟨h1,h2,h3⟩;refine ⟨h1,fun j hj=>?_⟩;rcases (show j=0∨j=1 by omega) with rfl | rfl
    ·simpa [isum] using h2
    ·simpa [isum] using h3
   ·rintro ⟨h1,h2⟩;exact ⟨h1,by simpa [isum] using h2 0 (by omega),by simpa [isum] using h2 1 (by omega)⟩
  | cons y l =>
   rw [okFrom_sure t (y::l) (a+x.toNat) (by simp) (fun z hz=>hp z (by simp [hz]))];have e2:∀ j,((a+x.toNat:Nat):Int)+isum ((y::l).take j)=(a:Int)+isum ((x::y::l).take (j+1)):=fun j=>by
    rw [List.take_succ_cons,isum_cons];omega
   constructor
   ·rintro ⟨⟨h1,h2,h3⟩,h4,h5⟩;refine ⟨⟨h1,h4⟩,fun j hj=>?_⟩;cases j with
    | zero=>simpa [isum] using h2
    | succ j=>rw [← e2 j];exact h5 j (by simpa using hj)
   ·rintro ⟨⟨h1,h4⟩,h5⟩;refine ⟨⟨h1,by simpa [isum] using h5 0 (by omega),by simpa [isum] using h5 1 (by simp)⟩,h4,fun j hj=>?_⟩;rw [e2 j];exact h5 (j+1) (by simpa using hj)
theorem turn_ok {t:Text} (ok:Text.Ok t):∀ u∈t.turns,TurnOk t.words.length u:=fun u hu=>ok.turn u hu
theorem sure_nowhere {t:Text} (ok:Text.Ok t) {l:List Int} (hp:Parts t.words.length l):okFrom t.sureB 0 l=true↔okFrom t.right 0 l=true∧(astrayGo (placesL l) 0 t.turns).2.2.2≠0:=by
 have hl1:1≤l.length:=by
  rcases Nat.eq_zero_or_pos l.length with h | h
  ·have:=ok.n1;rw [List.length_eq_zero_iff.1 h] at hp;have:=hp.2;simp [isum] at this;omega
  ·exact h
 have hne:l≠[]:=fun e=>by rw [e] at hl1;simp at hl1
 have hpl:(placesL l).length-1=l.length:=by simp [placesL]
 rw [okFrom_sure t l 0 hne hp.1];refine and_congr_right fun _=>?_;have hsp:=astrayGo_spec (placesL l) t.turns 0;rw [hpl] at hsp;have hap:(∀ u∈t.turns,apartIn (placesL l) u=false)↔(astrayGo (placesL l) 0 t.turns).2.2.2≠0:=by
  rcases hsp with ⟨h1,h2⟩ | ⟨k,a,b,h1,h2,h3,h4,h5,h6⟩
  ·rw [h1];refine ⟨fun _=>by decide,fun _ u hu=>?_⟩;rw [← runs_apart hp (turn_ok ok u hu)];exact h2 u hu
  ·rw [h2];refine ⟨fun h=>?_,fun h=>absurd rfl h⟩;have hm:t.turns.getD k default∈t.turns:=getD_mem default h1;have e:=h _ hm;rw [← runs_apart hp (turn_ok ok _ hm),List.any_eq_false] at e;exact absurd h6 (e (a,b) (mem_runs.2 ⟨h4,h5⟩))
 rw [← hap];simp only [Int.natCast_zero,Int.zero_add];constructor
 ·intro h u hu;rw [Bool.eq_false_iff];intro ha;unfold apartIn at ha;obtain ⟨p,hpi,hpp⟩:=List.any_eq_true.1 ha;obtain ⟨j,h1,h2,rfl⟩:=(mem_inner l p).1 hpi;have:=h j (by omega);unfold Text.parts at this;rw [List.any_eq_false] at this;exact this u hu hpp
 ·intro h j hj;unfold Text.parts;rw [List.any_eq_false];intro u hu hpp;obtain ⟨o1,o2,o3,o4,o5,o6⟩:=ok.turn u hu;rw [parts_iff] at hpp;have hb:∀ y∈l,0≤y:=fun y hy=>by have:=hp.1 y hy;omega
  by_cases h0:j=0
  ·subst h0;simp only [List.take_zero,isum,List.foldl_nil] at hpp;omega
  ·by_cases hjl:j=l.length
   ·rw [hjl,List.take_length,hp.2] at hpp;omega
   ·have hf:=h u hu;rw [Bool.eq_false_iff] at hf;refine hf ?_;unfold apartIn;exact List.any_eq_true.2 ⟨isum (l.take j),(mem_inner l _).2 ⟨j,by omega,by omega,rfl⟩,(parts_iff _ _).2 hpp⟩
end Go.Proofs.YtadnggecnjdhiaaGreat
