/- Contracts of the code and of the reference, part 1. -/
import Derived.Test.YtadnggecnjdhiaaGreatProg
import Derived.RangeFuncNested
import Derived.RangeFuncBound
import Derived.RangeFuncCalls
import Derived.RangeFuncLeaves
import Derived.Shelf.Abstract
import Derived.Shelf.RegionOpen
import Derived.WalkKit
import Derived.OwnWalkIn
import Derived.TacticsInMore
import Derived.LoopNIn
import Derived.LoopIn
import Derived.WalkSpells
import Derived.BigQuiet
import Derived.Lib.Hide
import Derived.Deep.RegionWith
import Derived.Laws.EntriesVeiled
import Derived.Test.YtadnggecnjdhiaaGreatRows
import Derived.ProofKit
import Derived.OpenShut
import Derived.ShutString
import Derived.ChangeOld
import Derived.Below
import Derived.Lib.SmallJoins
import Derived.Deep.Slices
import Derived.Deep.Strs
import Derived.StillTail
import Derived.Laws.IdiomCopy
import Derived.Lib.LazyBuf
import Derived.Deep.MidRow
import Derived.Deep.WholeRow
import Derived.Sort.BigQuietIn
import Derived.Deep.RegionHeld3
import Derived.Laws.Rows
import Derived.IntWalk
import Derived.Shelf.Slices.Turned
import Derived.Shelf.Slices.Reverse
import Derived.Shelf.Slices.Equal
import Derived.Ground.Names2Prog
import Derived.Shelf.Slices.Clone
import Derived.Shelf.Slices.Cells
import Derived.Shelf.Slices.Empties2
import Derived.Ground.SlgnProg
import Derived.Shelf.SlicesE.Reverse
import Derived.Shelf.SlicesE.Clone
import Derived.Deep.CutRange
import Derived.Deep.LoopGhost
set_option linter.unusedSimpArgs false
set_option linter.unusedVariables false
namespace Go.Proofs.YtadnggecnjdhiaaGreat.Tx
structure Word where
 syl:Int
 wt:Int
 stop:Bool
deriving DecidableEq,Inhabited
structure Turn where
 word:Int
 lo:Int
 hi:Int
deriving DecidableEq,Inhabited
structure Text where
 words:List Word
 turns:List Turn
 breath:Int
deriving DecidableEq,Inhabited
def btw (n lo hi:Int):Bool:=decide (lo≤n)&&decide (n≤hi)
def badWord (x:Word):Bool:=!btw x.syl 1 9||!btw x.wt 0 20
def absent (n:Nat) (k:Int):Bool:=!btw k 0 ((n:Int)-1)
def namesNo (n:Nat) (u:Turn):Bool:=absent n u.word||absent n u.lo||absent n u.hi
def endsB (u:Turn):Bool:=decide (u.hi<u.lo)
def itself (u:Turn):Bool:=btw u.word u.lo u.hi
def Text.len (t:Text):Nat:=t.words.length
def Text.err (t:Text):Int :=
 if t.len<1∨12<t.len∨6<t.turns.length then 2
 else if t.breath<1∨40<t.breath then 3
 else if t.words.any badWord then 3
 else if t.turns.any (namesNo t.len) then 1
 else if t.turns.any endsB then 4
 else if t.turns.any itself then 7
 else 0
def Turn.says (u:Turn) (lo hi:Int):Bool:=decide (lo≤u.lo)&&decide (u.hi≤hi)&&!btw u.word lo hi
def idx {α:Type} (p:α→Bool):Nat→List α→List Int
 | _,[]=>[]
 | i,x::l=>if p x then (i:Int)::idx p (i+1) l else idx p (i+1) l
def Text.said (t:Text) (lo hi:Int):List Int:=idx (fun u=>u.says lo hi) 0 t.turns
theorem idx_append {α:Type} (p:α→Bool):∀ (l m:List α) (i:Nat),idx p i (l++m)=idx p i l++idx p (i+l.length) m
 | [],m,i=>by simp [idx]
 | x::l,m,i=>by
  have:=idx_append p l m (i+1);simp only [List.cons_append,idx,this,List.length_cons];rw [show i+1+l.length=i+(l.length+1) from by omega];split <;> simp
theorem idx_snoc {α:Type} (p:α→Bool) (l:List α) (x:α):idx p 0 (l++[x])=idx p 0 l++(if p x then [(l.length:Int)] else []):=by
 rw [idx_append];simp [idx]
theorem idx_length {α:Type} (p:α→Bool):∀ (l:List α) (i:Nat),(idx p i l).length=l.countP p
 | [],i=>rfl
 | x::l,i=>by simp only [idx,List.countP_cons];split <;> simp [idx_length p l, *]
theorem idx_any {α:Type} (p:α→Bool) (l:List α) (i:Nat):decide (0<(idx p i l).length)=l.any p:=by
 rw [idx_length];rw [Bool.eq_iff_iff];simp [List.countP_pos_iff]
def isum:List Int→Int:=List.foldl (·+·) 0
theorem isum_snoc (l:List Int) (x:Int):isum (l++[x])=isum l+x:=by simp [isum]
theorem foldl_add (l:List Int) (a:Int):l.foldl (·+·) a=a+l.foldl (·+·) 0:=by
 induction l generalizing a with
 | nil=>simp
 | cons x l ih=>simp only [List.foldl_cons];rw [ih (a+x),ih (0+x)];omega
theorem isum_cons (x:Int) (l:List Int):isum (x::l)=x+isum l:=by unfold isum;simp only [List.foldl_cons];rw [foldl_add];omega
theorem isum_append (l m:List Int):isum (l++m)=isum l+isum m:=by
 induction l with
 | nil=>simp [isum]
 | cons x l ih=>rw [List.cons_append,isum_cons,isum_cons,ih];omega
theorem isum_bd (l:List Int) (lo hi:Int) (h:∀ x∈l,lo≤x∧x≤hi):(l.length:Int)*lo≤isum l∧isum l≤(l.length:Int)*hi:=by
 induction l with
 | nil=>simp [isum]
 | cons x l ih =>
  have h1:=h x (by simp);have h2:=ih fun y hy=>h y (by simp [hy]);rw [isum_cons,List.length_cons];have e1:((l.length+1:Nat):Int)*lo=(l.length:Int)*lo+lo:=by push_cast;rw [Int.add_mul,Int.one_mul]
  have e2:((l.length+1:Nat):Int)*hi=(l.length:Int)*hi+hi:=by push_cast;rw [Int.add_mul,Int.one_mul]
  rw [e1,e2];omega
def slice {α:Type} (l:List α) (from_ to_:Nat):List α:=(l.drop from_).take (to_-from_)
def Text.syl (t:Text) (a b:Nat):Int:=isum ((slice t.words a b).map (·.syl))
def Text.allow (t:Text) (p:Nat):Bool:=p == 0||p == t.len||(t.words.getD (p-1) default).stop
def Text.isLong (t:Text) (a b:Nat):Bool:=decide (t.breath<t.syl a b)
def Text.isCut (t:Text) (a b:Nat):Bool:=!t.allow a||!t.allow b
def Text.isOther (t:Text) (a b:Nat):Bool:=t.turns.any fun u=>u.says a ((b:Int)-1)
def Text.isK (t:Text) (k:Int) (a b:Nat):Bool:=if k=0 then t.isLong a b else if k=1 then t.isCut a b else t.isOther a b
def Text.right (t:Text) (a b:Nat):Bool:=!t.isLong a b&&!t.isCut a b&&!t.isOther a b
def Turn.parts (u:Turn) (p:Int):Bool:=decide (u.word<p)&&decide (p≤u.lo)||decide (u.hi<p)&&decide (p≤u.word)
def Text.parts (t:Text) (p:Int):Bool:=t.turns.any fun u=>u.parts p
def Text.sureB (t:Text) (a b:Nat):Bool:=t.right a b&&!t.parts a&&!t.parts b
def Text.within (t:Text) (most:Int) (a b:Nat):Bool:=decide (t.syl a b≤most)&&t.right a b
abbrev Marks:=List Int
def low1 (m:Marks) (a b:Nat):Marks:=m.set b (min (m.getD b 0) (m.getD a 0+1))
def brs (may:Nat→Nat→Bool) (n a:Nat):List Nat:=(List.range' (a+1) (n-a)).filter (may a)
def lowRow (may:Nat→Nat→Bool) (n:Nat) (m:Marks) (a:Nat):Marks:=(brs may n a).foldl (fun m b=>low1 m a b) m
def lowered (may:Nat→Nat→Bool) (n:Nat) (m:Marks):Marks:=(List.range n).foldl (lowRow may n) m
def top (n:Nat):Marks:=(List.range 13).map fun p=>if 1≤p∧p≤n then 99 else 0
def greatest (may:Nat→Nat→Bool) (n:Nat):Marks:=lowered may n (top n)
def befP (may:Nat→Nat→Bool) (m:Marks) (b a:Nat):Bool:=m.getD a 0+1 == m.getD b 0&&may a b
def before (may:Nat→Nat→Bool) (m:Marks) (b:Nat):Nat:=((List.range b).find? (befP may m b)).getD 0
def walkBack (may:Nat→Nat→Bool) (m:Marks):Nat→Nat→List Int
 | 0,_=>[]
 | f+1,b=>if b=0 then [] else ((b:Int)-(before may m b:Int))::walkBack may m f (before may m b)
def fewest (may:Nat→Nat→Bool) (n:Nat):List Int × Int :=
 if (greatest may n).getD n 0<99 then ((walkBack may (greatest may n) n n).reverse,0) else ([],6)
def many (may:Nat→Nat→Bool) (n:Nat):Nat→Nat→Nat
 | 0,_=>0
 | f+1,a=>if a=n then 1 else ((brs may n a).map (many may n f)).sum
def count (may:Nat→Nat→Bool) (n a:Nat):Nat:=many may n (n+1-a) a
def unbrP (may:Nat→Nat→Bool) (n p:Nat):Bool:=decide (99≤(greatest may n).getD p 0)||count may n p == 0
def unbroken (may:Nat→Nat→Bool) (n:Nat):List Int × Int :=
 if count may n 0=0 then ([],6) else (((List.range' 1 (n-1)).filter (unbrP may n)).map Int.ofNat,0)
def lists (n:Nat):Nat→Nat→List (List Int)
 | 0,_=>[[]]
 | k+1,a=>(List.range' a (n-a)).flatMap fun x=>(lists n k (x+1)).map fun l=>(x:Int)::l
def Text.wtOf (t:Text) (l:List Int):Int:=isum (l.map fun i=>(t.words.getD i.toNat default).wt)
def coreIn (u:Turn) (l:List Int):Bool:=(List.range (u.hi+1-u.lo).toNat).all fun k=>l.contains (u.lo+(k:Int))
def Text.keeps (t:Text) (l:List Int):Bool:=!t.turns.any fun u=>coreIn u l&&!l.contains u.word
def Text.leastP (t:Text) (w:Int) (l:List Int):Bool:=decide (w≤t.wtOf l)&&t.keeps l
def Text.leastGo (t:Text) (w:Int):List Nat→Option (List Int)
 | []=>none
 | k::ks=>match (lists t.len k 0).find? (t.leastP w) with | some l=>some l | none=>t.leastGo w ks
def Text.least (t:Text) (w:Int):List Int × Int:=match t.leastGo w (List.range' 1 t.len) with | some l=>(l,0) | none=>([],6)
end Go.Proofs.YtadnggecnjdhiaaGreat.Tx
namespace Go.Proofs.YtadnggecnjdhiaaGreat
open Go.RowKit Tx
theorem below1 (w:World) (o:Obj):Below w.heap.size w (w.alloc o):=(Below.refl _ _).alloc (Nat.le_refl _) _
theorem join {w a b:World} (h:Below w.heap.size w a) (k:Below a.heap.size a b):Below w.heap.size w b:=h.trans (k.mono h.size)
theorem bcell {W w1:World} (hb:Below W.heap.size W w1):(∀ b o,b<W.heap.size→w1.cell? ⟨b,o,none⟩=W.cell? ⟨b,o,none⟩)∧(∀ b o,b<W.heap.size→w1.frozen? ⟨b,o,none⟩=W.frozen? ⟨b,o,none⟩) :=
 ⟨fun b o h=>hb.cell (p:=⟨b,o,none⟩) h,fun b o h=>hb.frozen (p:=⟨b,o,none⟩) h⟩
theorem mf (fn:Fn) (first cap:Array Value) (w:World):(Instr.makeFunc fn first cap).run Tryz.prog w=.ok (.func fn first cap) w:=rfl
def Wds (w:World) (p:Option Addr) (ws:List Word):Prop:=ws=[]∨∃ b o,p=some ⟨b,o,none⟩∧b<w.heap.size∧∀ i,i<ws.length →
 w.cell? ⟨b,o+i*3,none⟩=some (.int .i64 (ws.getD i default).syl)∧w.cell? ⟨b,o+i*3+1,none⟩=some (.int .i64 (ws.getD i default).wt)∧w.cell? ⟨b,o+i*3+2,none⟩=some (.bool (ws.getD i default).stop)
def Tns (w:World) (p:Option Addr) (ts:List Turn):Prop:=ts=[]∨∃ b o,p=some ⟨b,o,none⟩∧b<w.heap.size∧∀ i,i<ts.length →
 w.cell? ⟨b,o+i*3,none⟩=some (.int .i64 (ts.getD i default).word)∧w.cell? ⟨b,o+i*3+1,none⟩=some (.int .i64 (ts.getD i default).lo)∧w.cell? ⟨b,o+i*3+2,none⟩=some (.int .i64 (ts.getD i default).hi)
def Ints (w:World) (p:Option Addr) (xs:List Int):Prop:=xs=[]∨∃ b o,p=some ⟨b,o,none⟩∧b<w.heap.size∧∀ i,i<xs.length→w.cell? ⟨b,o+i,none⟩=some (.int .i64 (xs.getD i 0))
theorem Wds.below {w w':World} {p:Option Addr} {ws:List Word} (h:Wds w p ws) (hb:Below w.heap.size w w'):Wds w' p ws:=by
 rcases h with h | ⟨b,o,hp,hl,h⟩
 ·exact .inl h
 ·exact .inr ⟨b,o,hp,Nat.lt_of_lt_of_le hl hb.size,fun i hi=>⟨(hb.cell (p:=⟨b,o+i*3,none⟩) hl).trans (h i hi).1,(hb.cell (p:=⟨b,o+i*3+1,none⟩) hl).trans (h i hi).2.1,(hb.cell (p:=⟨b,o+i*3+2,none⟩) hl).trans (h i hi).2.2⟩⟩
theorem Tns.below {w w':World} {p:Option Addr} {ws:List Turn} (h:Tns w p ws) (hb:Below w.heap.size w w'):Tns w' p ws:=by
 rcases h with h | ⟨b,o,hp,hl,h⟩
 ·exact .inl h
 ·exact .inr ⟨b,o,hp,Nat.lt_of_lt_of_le hl hb.size,fun i hi=>⟨(hb.cell (p:=⟨b,o+i*3,none⟩) hl).trans (h i hi).1,(hb.cell (p:=⟨b,o+i*3+1,none⟩) hl).trans (h i hi).2.1,(hb.cell (p:=⟨b,o+i*3+2,none⟩) hl).trans (h i hi).2.2⟩⟩
theorem Ints.below {w w':World} {p:Option Addr} {ws:List Int} (h:Ints w p ws) (hb:Below w.heap.size w w'):Ints w' p ws:=by
 rcases h with h | ⟨b,o,hp,hl,h⟩
 ·exact .inl h
 ·exact .inr ⟨b,o,hp,Nat.lt_of_lt_of_le hl hb.size,fun i hi=>(hb.cell (p:=⟨b,o+i,none⟩) hl).trans (h i hi)⟩
theorem Wds.at {w:World} {p:Option Addr} {ws:List Word} (h:Wds w p ws) {i:Nat} (hi:i<ws.length):∃ (b o:Nat) (x:Word),p=some ⟨b,o,none⟩∧b<w.heap.size∧x=ws.getD i default ∧
  w.cell? ⟨b,o+i*3,none⟩=some (.int .i64 x.syl)∧w.cell? ⟨b,o+i*3+1,none⟩=some (.int .i64 x.wt)∧w.cell? ⟨b,o+i*3+2,none⟩=some (.bool x.stop):=by
 rcases h with rfl | ⟨b,o,hp,hl,h⟩
 ·simp at hi
 ·exact ⟨b,o,_,hp,hl,rfl,h i hi⟩
theorem Tns.at {w:World} {p:Option Addr} {ws:List Turn} (h:Tns w p ws) {i:Nat} (hi:i<ws.length):∃ (b o:Nat) (x:Turn),p=some ⟨b,o,none⟩∧b<w.heap.size∧x=ws.getD i default ∧
  w.cell? ⟨b,o+i*3,none⟩=some (.int .i64 x.word)∧w.cell? ⟨b,o+i*3+1,none⟩=some (.int .i64 x.lo)∧w.cell? ⟨b,o+i*3+2,none⟩=some (.int .i64 x.hi):=by
 rcases h with rfl | ⟨b,o,hp,hl,h⟩
 ·simp at hi
 ·exact ⟨b,o,_,hp,hl,rfl,h i hi⟩
theorem Ints.at {w:World} {p:Option Addr} {xs:List Int} (h:Ints w p xs) {i:Nat} (hi:i<xs.length):∃ (b o:Nat) (x:Int),p=some ⟨b,o,none⟩∧b<w.heap.size∧x=xs.getD i 0∧w.cell? ⟨b,o+i,none⟩=some (.int .i64 x):=by
 rcases h with rfl | ⟨b,o,hp,hl,h⟩
 ·simp at hi
 ·exact ⟨b,o,_,hp,hl,rfl,h i hi⟩
structure TxAt (w:World) (t:Text) (pw pt:Option Addr):Prop where
 words:Wds w pw t.words
 turns:Tns w pt t.turns
theorem TxAt.below {w w':World} {t:Text} {pw pt:Option Addr} (h:TxAt w t pw pt) (hb:Below w.heap.size w w'):TxAt w' t pw pt:=⟨h.words.below hb,h.turns.below hb⟩
theorem between_any (n lo hi:Int) (w:World):Calls Tryz.prog 74 #[.int .i64 n,.int .i64 lo,.int .i64 hi] w fun e w'=>e=.returned (.bool (btw n lo hi))∧w=w':=by
 by_cases h:lo≤n
 ·have h':decide (lo≤n)=true:=by simpa using h
  have hb:btw n lo hi=decide (n≤hi):=by simp [btw,h]
  have HB:=Lib.hid hb;clear hb
  go_enter Tryz.func74,Tryz.ntmps74
  go_wp2;go_ret;exact ⟨by rw [HB.out];rfl,rfl⟩
 ·have h':decide (lo≤n)=false:=by simpa using h
  have hb:btw n lo hi=false:=by simp [btw,h]
  have HB:=Lib.hid hb;clear hb
  go_enter Tryz.func74,Tryz.ntmps74
  go_wp2;go_ret;exact ⟨by rw [HB.out];rfl,rfl⟩
theorem end_any (n c:Nat) (pw:Option Addr) (v1 v2 v3:Value) (w:World):Calls Tryz.prog 72 #[.agg #[.slice pw n c,v1,v2,v3]] w fun e w'=>e=.returned (.int .i64 n)∧w.alloc (.cells #[.slice pw n c,v1,v2,v3] 84)=w':=by
 go_enter Tryz.func72,Tryz.ntmps72
 go_wp2;go_ret;exact ⟨rfl,rfl⟩
theorem wordsBetween_any (a b:Int) (w:World) (h:-1000000≤b) (h2:b≤1000000):Calls Tryz.prog 128 #[.int .i64 a,.int .i64 b] w fun e w'=>e=.returned (.agg #[.int .i64 a,.int .i64 (b-1)])∧w.alloc (.cells #[.int .i64 a,.int .i64 (b-1)] 58)=w':=by
 go_enter Tryz.func128,Tryz.ntmps128
 go_wp2;refine bodyPost_ret (v:=.agg #[.int .i64 a,.int .i64 (b-1)]) (by simp [results,Tryz.results128,go_sem]) rfl ⟨rfl,rfl⟩
theorem absent_any (n c:Nat) (pw:Option Addr) (v1 v2 v3:Value) (k:Int) (w:World) (hn:n≤1000000000000) :
  Calls Tryz.prog 103 #[.agg #[.slice pw n c,v1,v2,v3],.int .i64 k] w fun e w'=>e=.returned (.bool (absent n k))∧w.alloc (.cells #[.slice pw n c,v1,v2,v3] 84)=w':=by
 go_enter Tryz.func103,Tryz.ntmps103
 go_wp2_with (go_at_call 74;refine (between_any _ _ _ _).mono ?_;rintro e w' ⟨rfl,rfl⟩)
 go_ret;exact ⟨rfl,rfl⟩
theorem says_any (u:Turn) (lo hi:Int) (w:World) :
  Calls Tryz.prog 127 #[.agg #[.int .i64 u.word,.int .i64 u.lo,.int .i64 u.hi],.agg #[.int .i64 lo,.int .i64 hi]] w fun e w'=>e=.returned (.bool (u.says lo hi))∧Below w.heap.size w w':=by
 obtain ⟨uw,ul,uh⟩:=u;dsimp only;by_cases h1:lo≤ul
 ·have h1':decide (lo≤ul)=true:=by simpa using h1
  by_cases h2:uh≤hi
  ·have h2':decide (uh≤hi)=true:=by simpa using h2
   have hb:(Turn.mk uw ul uh).says lo hi=!btw uw lo hi:=by simp [Turn.says,h1,h2]
   have HB:=Lib.hid hb;clear hb
   go_enter Tryz.func127,Tryz.ntmps127
   go_wp2_with (go_at_call 74;refine (between_any _ _ _ _).mono ?_;rintro e w' ⟨rfl,rfl⟩)
   go_ret;exact ⟨by rw [HB.out];rfl,(below1 _ _).alloc (by simp) _⟩
  ·have h2':decide (uh≤hi)=false:=by simpa using h2
   have hb:(Turn.mk uw ul uh).says lo hi=false:=by simp [Turn.says,h2]
   have HB:=Lib.hid hb;clear hb
   go_enter Tryz.func127,Tryz.ntmps127
   go_wp2;go_ret;exact ⟨by rw [HB.out];rfl,(below1 _ _).alloc (by simp) _⟩
 ·have h1':decide (lo≤ul)=false:=by simpa using h1
  have hb:(Turn.mk uw ul uh).says lo hi=false:=by simp [Turn.says,h1]
  have HB:=Lib.hid hb;clear hb
  go_enter Tryz.func127,Tryz.ntmps127
  go_wp2;go_ret;exact ⟨by rw [HB.out];rfl,(below1 _ _).alloc (by simp) _⟩
theorem endsB_any (u:Turn) (w:World):Calls Tryz.prog 80 #[.agg #[.int .i64 u.word,.int .i64 u.lo,.int .i64 u.hi]] w fun e w'=>e=.returned (.bool (endsB u))∧Below w.heap.size w w':=by
 go_enter Tryz.func80,Tryz.ntmps80
 go_wp2;go_ret;exact ⟨rfl,below1 _ _⟩
theorem itself_any (u:Turn) (w:World):Calls Tryz.prog 81 #[.agg #[.int .i64 u.word,.int .i64 u.lo,.int .i64 u.hi]] w fun e w'=>e=.returned (.bool (itself u))∧Below w.heap.size w w':=by
 go_enter Tryz.func81,Tryz.ntmps81
 go_wp2_with (go_at_call 74;refine (between_any _ _ _ _).mono ?_;rintro e w' ⟨rfl,rfl⟩)
 go_ret;exact ⟨rfl,below1 _ _⟩
theorem badWord_any (x:Word) (w:World):Calls Tryz.prog 77 #[.agg #[.int .i64 x.syl,.int .i64 x.wt,.bool x.stop]] w fun e w'=>e=.returned (.bool (badWord x))∧Below w.heap.size w w':=by
 obtain ⟨xs,xw,xb⟩:=x;dsimp only;cases h:btw xs 1 9 with
 | true =>
  have hb:badWord ⟨xs,xw,xb⟩=!btw xw 0 20:=by simp [badWord,h]
  have HB:=Lib.hid hb;have H:=Lib.hid h;clear hb h
  go_enter Tryz.func77,Tryz.ntmps77
  go_wp2_with fail
  refine (between_any _ _ _ _).mono ?_;rintro e w' ⟨rfl,rfl⟩;rw [H.out];go_wp2_with (go_at_call 74;refine (between_any _ _ _ _).mono ?_;rintro e w' ⟨rfl,rfl⟩)
  go_ret;exact ⟨by rw [HB.out];rfl,below1 _ _⟩
 | false =>
  have hb:badWord ⟨xs,xw,xb⟩=true:=by simp [badWord,h]
  have HB:=Lib.hid hb;have H:=Lib.hid h;clear hb h
  go_enter Tryz.func77,Tryz.ntmps77
  go_wp2_with fail
  refine (between_any _ _ _ _).mono ?_;rintro e w' ⟨rfl,rfl⟩;rw [H.out];go_wp2;go_ret;exact ⟨by rw [HB.out];rfl,below1 _ _⟩
theorem shows1_any (k:Int) (w:World):Calls Tryz.prog 89 #[.int .i64 k] w fun e w'=>e=.returned (.bool (!btw k 0 99))∧w=w':=by
 go_enter Tryz.func89,Tryz.ntmps89
 go_wp2_with (go_at_call 74;refine (between_any _ _ _ _).mono ?_;rintro e w' ⟨rfl,rfl⟩)
 go_ret;exact ⟨rfl,rfl⟩
theorem openReading1_any (k:Int) (w:World):Calls Tryz.prog 124 #[.int .i64 k] w fun e w'=>e=.returned (.bool (!btw k 1 12))∧w=w':=by
 go_enter Tryz.func124,Tryz.ntmps124
 go_wp2_with (go_at_call 74;refine (between_any _ _ _ _).mono ?_;rintro e w' ⟨rfl,rfl⟩)
 go_ret;exact ⟨rfl,rfl⟩
end Go.Proofs.YtadnggecnjdhiaaGreat
namespace Go.Proofs.YtadnggecnjdhiaaGreat
open Go.ChangeShapes Go.WideShapes Go.ChangeAt Go.RowKit Go.Joins Go.Deep Tx
theorem Tryz.own:ownKnob Tryz.prog.godebug=none:=by kernel_rfl
section
variable {H:Type} {enc:TypeId × Value→H} {W:World} {base:Nat} {spare:Nat→Bool} {held:Bool}
theorem cell_lt {b o:Nat} {v:Value} (h:W.cell? ⟨b,o,none⟩=some v):b<W.heap.size:=by
 rcases Nat.lt_or_ge b W.heap.size with h' | h'
 ·exact h'
 ·simp [World.cell?,Array.getElem?_eq_none h'] at h
end
end Go.Proofs.YtadnggecnjdhiaaGreat
namespace Go.Proofs.YtadnggecnjdhiaaGreat.Rs
open Go Go.RowKit
variable {P:Program} {ops:Array Oper}
def Gr (w w':World):Prop:=Below w.heap.size w w'
theorem Gr.refl (w:World):Gr w w:=Below.refl _ _
theorem Gr.trans {a b c:World} (h:Gr a b) (k:Gr b c):Gr a c:=Below.trans h (Below.mono k h.size)
def dstOf (ops:Array Oper) (k:Nat):Option Tmp:=(ops[k]?).bind (·.dst)
def canon (ops:Array Oper) (V:Nat→Value) (a0:Act) (l:List Nat):Act:=l.foldl (fun a k=>a.put (dstOf ops k) (V k)) a0
def depsOf (ops:Array Oper):Nat→Nat→List Nat
 | 0,_=>[]
 | f+1,i=>match ops[i]? with
  | none=>[]
  | some o=>(o.after.toList.filter fun e=>Region.binds .any e).flatMap fun e=>e.on::depsOf ops f e.on
def shapeB (ops:Array Oper) (n:Nat) (dl:List (List Nat)):Bool :=
 Region.noSelect ops&&decide (n≤ops.size)&&decide (dl.length=n) &&
 (decide (n=ops.size)||Region.sinkB .any ops n&&Region.chainB .any ops n) &&
 (List.range n).all (fun i=>match ops[i]? with
  | none=>false
  | some o=>o.after.toList.all (fun e=>!Region.binds .any e||decide (e.on<i))&&(dl.getD i []).all (fun k=>decide (k<n)&&(depsOf ops n i).contains k) &&
   (List.range n).all (fun k=>match dstOf ops k with
    | none=>true
    | some d=>(!(o.looksAt ops).contains d||(dl.getD i []).contains k||(depsOf ops n k).contains i||i == k)&&(k == i||decide (dstOf ops i≠some d)))) &&
 Region.seqB .any ops (ops.size-n) n ((List.range ops.size).map (fun i=>decide (i<n))).toArray
theorem depsOf_listed {listed:Array Bool} (hc:∀ j oj,ops[j]?=some oj→listed.getD j false=true→∀ e∈oj.after,Region.binds .any e=true→listed.getD e.on false=true) :
  ∀ (f i:Nat),(∀ o,ops[i]?=some o→∀ e∈o.after,Region.binds .any e=true→listed.getD e.on false=true)→∀ k∈depsOf ops f i,listed.getD k false=true
 | 0,_,_,k,hk=>by simp [depsOf] at hk
 | f+1,i,h,k,hk=>by
  unfold depsOf at hk;cases ho:ops[i]? with
  | none=>rw [ho] at hk;simp at hk
  | some o =>
   rw [ho] at hk;simp only [List.mem_flatMap,List.mem_filter,List.mem_cons] at hk;obtain ⟨e,⟨he,hb⟩,hk⟩:=hk;have h1:=h o ho e (by simpa using he) hb;rcases hk with rfl | hk
   ·exact h1
   ·exact depsOf_listed hc f e.on (fun o' ho' e' he' hb'=>hc e.on o' ho' h1 e' he' hb') k hk
theorem size_canon (V:Nat→Value):∀ (l:List Nat) (a:Act),(canon ops V a l).tmps.size=a.tmps.size
 | [],_=>rfl
 | k::l,a=>by
  unfold canon;rw [List.foldl_cons];have:=size_canon V l (a.put (dstOf ops k) (V k));unfold canon at this;rw [this];cases dstOf ops k <;> simp [Act.put]
theorem defers_canon (V:Nat→Value):∀ (l:List Nat) (a:Act),(canon ops V a l).defers=a.defers
 | [],_=>rfl
 | k::l,a=>by
  unfold canon;rw [List.foldl_cons];have:=defers_canon V l (a.put (dstOf ops k) (V k));unfold canon at this;rw [this];cases dstOf ops k <;> rfl
theorem canon_out (V:Nat→Value) {d:Tmp}:∀ (l:List Nat) (a:Act),(∀ k∈l,dstOf ops k≠some d)→(canon ops V a l).tmps[d]?=a.tmps[d]?
 | [],_,_=>rfl
 | k::l,a,h=>by
  unfold canon;rw [List.foldl_cons];have:=canon_out V l (a.put (dstOf ops k) (V k)) (fun j hj=>h j (by simp [hj]));unfold canon at this;rw [this];have hk:=h k (by simp);cases hd:dstOf ops k with
  | none=>rfl
  | some d'=>rw [hd] at hk;simp only [Act.put];exact Array.getElem?_setIfInBounds_ne (fun e=>hk (by rw [e]))
theorem canon_in (V:Nat→Value) {d:Tmp} {k:Nat} (hd:dstOf ops k=some d):∀ (l:List Nat) (a:Act),k∈l→(∀ j∈l,j≠k→dstOf ops j≠some d)→d<a.tmps.size→(canon ops V a l).tmps[d]?=some (V k)
 | [],_,h,_,_=>by cases h
 | j::l,a,h,hn,hlt=>by
  by_cases hkl:k∈l
  ·unfold canon;rw [List.foldl_cons];have:=canon_in V hd l (a.put (dstOf ops j) (V j)) hkl (fun i hi=>hn i (by simp [hi])) (by cases dstOf ops j <;> simpa [Act.put] using hlt)
   unfold canon at this;exact this
  ·have hjk:j=k:=by
    rcases List.mem_cons.1 h with h | h
    ·exact h.symm
    ·exact absurd h hkl
   subst hjk;unfold canon;rw [List.foldl_cons];have:=canon_out (ops:=ops) V (d:=d) l (a.put (dstOf ops j) (V j)) (fun i hi=>hn i (by simp [hi]) (fun e=>hkl (e ▸ hi)));unfold canon at this;rw [this,hd];simp [Act.put,hlt]
theorem wanted_congr (o:Oper) {t t':Array Value} (h:∀ d∈o.looksAt ops,t[d]?=t'[d]?):Region.wanted o (yielded ops t)=Region.wanted o (yielded ops t'):=by
 unfold Region.wanted;cases hg:o.guard with
 | none=>rfl
 | some gw =>
  obtain ⟨g,want⟩:=gw;have hy:yielded ops t g=yielded ops t' g:=by
   unfold yielded;cases ht:(ops[g]?).bind (·.dst) with
   | none=>rfl
   | some d=>simp only [Option.bind_some];rw [h d (by simp [Oper.looksAt,hg,ht])]
  simp only [hy]
theorem exec_congr (o:Oper) (hs:∀ cs b,o.op≠.select cs b) {a a':Act} (h:∀ d∈o.looksAt ops,a.tmps[d]?=a'.tmps[d]?):execOp a.eval o=execOp a'.eval o :=
 execOp_congr o hs fun x hx=>by
  cases x with
  | tmp d =>
   have:=h d (List.mem_append_left _ (List.mem_filterMap.2 ⟨.tmp d,by simpa using hx,rfl⟩));simp [Act.eval,this]
  | _=>rfl
section main
variable {n:Nat} {dl:List (List Nat)} {a0:Act} {w0:World} {Q:Exit→Act→World→Prop}
def left (n:Nat) (listed:Array Bool):Nat:=((List.range n).filter fun i=>!listed.getD i false).length
theorem left_set {n i:Nat} {listed:Array Bool} (hi:i<n) (hs:i<listed.size) (h:listed.getD i false=false):left n listed=left n (listed.setIfInBounds i true)+1:=by
 unfold left;have key:∀ (l:List Nat),l.Nodup→i∈l→(l.filter fun j=>!listed.getD j false).length=(l.filter fun j=>!(listed.setIfInBounds i true).getD j false).length+1:=by
  intro l
  induction l with
  | nil=>intro _ h;cases h
  | cons x l ih =>
   intro hnd hm;rw [List.nodup_cons] at hnd;by_cases hx:x=i
   ·subst hx;have e1:(listed.setIfInBounds x true).getD x false=true:=by simp [hs]
    have e2:∀ j∈l,(!(listed.setIfInBounds x true).getD j false)=!listed.getD j false:=fun j hj=>by
     rw [getD_set_ne false (fun e=>hnd.1 (by rw [e];exact hj))]
    rw [List.filter_cons_of_pos (by rw [h];rfl),List.filter_cons_of_neg (by rw [e1];simp),List.filter_congr e2];rfl
   ·have hm':i∈l:=by
     rcases List.mem_cons.1 hm with h | h
     ·exact absurd h.symm hx
     ·exact h
    have e1:(listed.setIfInBounds i true).getD x false=listed.getD x false:=getD_set_ne false (fun e=>hx e.symm);have:=ih hnd.2 hm';cases hv:listed.getD x false with
    | true=>rw [List.filter_cons_of_neg (by rw [hv];simp),List.filter_cons_of_neg (by rw [e1,hv];simp)];exact this
    | false=>rw [List.filter_cons_of_pos (by rw [hv];rfl),List.filter_cons_of_pos (by rw [e1,hv];rfl)];simp only [List.length_cons];omega
 exact key _ List.nodup_range (List.mem_range.2 hi)
theorem left_zero {n:Nat} {listed:Array Bool} (h:left n listed=0):∀ i,i<n→listed.getD i false=true:=by
 intro i hi;unfold left at h;rw [List.length_eq_zero_iff,List.filter_eq_nil_iff] at h
 simpa using h i (List.mem_range.2 hi)
def look (ds:List (Option Nat)) (cs:Nat→Value) (a0:Act) (d:List Nat):Operand→Value
 | .tmp t=>match d.find? (fun k=>ds.getD k none == some t) with
  | some k=>cs k
  | none=>a0.eval (.tmp t)
 | x=>a0.eval x
def wantB (o:Oper) (cs:Nat→Value):Bool :=
 match o.guard with
 | none=>true
 | some (g,b)=>match cs g with
  | .bool x=>x == b
  | _=>false
def slotsB (ops:Array Oper) (n sz:Nat) (dl:List (List Nat)) (ds:List (Option Nat)):Bool :=
 (List.range n).all fun i=>dstOf ops i == ds.getD i none&&(match ds.getD i none with | some d=>decide (d<sz) | none=>true) &&
  (match (ops[i]?).bind (·.guard) with
   | some (g,_)=>(dl.getD i []).contains g&&(dstOf ops g).isSome
   | none=>true)
end main
end Go.Proofs.YtadnggecnjdhiaaGreat.Rs
namespace Go.Proofs.YtadnggecnjdhiaaGreat.Rg
open Go Go.RowKit Go.Proofs.YtadnggecnjdhiaaGreat.Rs
variable {P:Program} {ops:Array Oper}
structure IsGr (G:World→World→Prop):Prop where
 refl:∀ w,G w w
 trans:∀ {a b c},G a b→G b c→G a c
 drew:∀ w:World,G w { w with drawn:=w.drawn+1 }
def GrowAt (G:World→World→Prop) (P:Program) (o:Oper) (a:Act) (w:World) (Φ:Value→World→Prop):Prop :=
 match (execOp a.eval o).run P w with
 | .ok (.value v) w'=>G w w'∧Φ v w'
 | .ok .skip w'=>G w w'∧Φ undef w'
 | .ok (.enter f args) w'=>G w w'∧Calls P f args w' (fun e w''=>∃ v,e=.returned v∧G w' w''∧Φ v w'')
 | _=>False
def StepOk (G:World→World→Prop) (P:Program) (ops:Array Oper) (o:Oper) (a:Act) (w:World) (Φ:Value→World→Prop):Prop :=
 if Region.wanted o (yielded ops a.tmps)=true then GrowAt G P o a w Φ else Φ undef w
section main
variable {n:Nat} {dl:List (List Nat)} {a0:Act} {w0:World} {Q:Exit→Act→World→Prop}
structure Inv (G:World→World→Prop) (ops:Array Oper) (n:Nat) (dl:List (List Nat)) (Spec:Nat→List Value→Value→World→Prop) (a0:Act) (w0:World) (V:Nat→Value) (listed:Array Bool) (a:Act) (w:World):Prop where
 head:HeadInv .any ops n listed
 size:a.tmps.size=a0.tmps.size
 defers:a.defers=a0.defers
 slot:∀ k,k<n→listed.getD k false=true→∀ d,dstOf ops k=some d→d<a0.tmps.size→a.tmps[d]?=some (V k)
 other:∀ d,(∀ k,k<n→listed.getD k false=true→dstOf ops k≠some d)→a.tmps[d]?=a0.tmps[d]?
 spec:∀ k,k<n→listed.getD k false=true→Spec k ((dl.getD k []).map V) (V k) w
 gr:G w0 w
theorem Inv.looks {G:World→World→Prop} {Spec:Nat→List Value→Value→World→Prop} {V:Nat→Value} {listed:Array Bool} {a:Act} {w:World} (inv:Inv G ops n dl Spec a0 w0 V listed a w) {i:Nat} {o:Oper} (hi:ops[i]?=some o) (_hin:i<n) (hiu:listed.getD i false=false)
  (hr:∀ e∈o.after,Region.binds .any e=true→listed.getD e.on false=true)
  (hdl:∀ k∈dl.getD i [],k<n∧k∈depsOf ops n i)
  (hlook:∀ k,k<n→∀ d,dstOf ops k=some d→(d∈o.looksAt ops→k∈dl.getD i []∨i∈depsOf ops n k∨i=k)∧True)
  (hnd:∀ j k,j<n→k<n→j≠k→∀ d,dstOf ops k=some d→dstOf ops j≠some d) :
  ∀ d∈o.looksAt ops,a.tmps[d]?=(canon ops V a0 (dl.getD i [])).tmps[d]?:=by
 intro d hd;have hdep:∀ k∈dl.getD i [],listed.getD k false=true:=fun k hk=>depsOf_listed inv.head.closed n i (fun o' ho'=>by rw [hi] at ho';cases ho';exact hr) k (hdl k hk).2;by_cases hlt:d<a0.tmps.size
 ·by_cases hex:∃ k,k∈dl.getD i []∧dstOf ops k=some d
  ·obtain ⟨k,hk,hkd⟩:=hex;rw [inv.slot k (hdl k hk).1 (hdep k hk) d hkd hlt,canon_in V hkd _ _ hk (fun j hj hjk=>hnd j k (hdl j hj).1 (hdl k hk).1 hjk d hkd) hlt]
  ·rw [canon_out V _ _ (fun k hk e=>hex ⟨k,hk,e⟩)];refine inv.other d (fun k hk hl e=>?_);rcases (hlook k hk d e).1 hd with h | h | h
   ·exact hex ⟨k,h,e⟩
   ·have:=depsOf_listed inv.head.closed n k (fun o' ho' e' he' hb'=>inv.head.closed k o' ho' hl e' he' hb') i h;rw [hiu] at this;cases this
   ·subst h;rw [hiu] at hl;cases hl
 ·have e1:a.tmps[d]?=none:=Array.getElem?_eq_none (by rw [inv.size];exact Nat.le_of_not_lt hlt);have e2:(canon ops V a0 (dl.getD i [])).tmps[d]?=none:=Array.getElem?_eq_none (by rw [size_canon];exact Nat.le_of_not_lt hlt);rw [e1,e2]
theorem Inv.step {G:World→World→Prop} (hG:IsGr G) {Spec:Nat→List Value→Value→World→Prop} {V:Nat→Value} {listed:Array Bool} {a:Act} {w w':World} (inv:Inv G ops n dl Spec a0 w0 V listed a w) {i:Nat} {o:Oper} {v:Value} (hi:ops[i]?=some o) (hin:i<n) (hiu:listed.getD i false=false)
  (hri:i∈Region.ready .any ops listed)
  (hdl:∀ j,j<n→∀ k∈dl.getD j [],k<n∧k∈depsOf ops n j)
  (hnd:∀ j k,j<n→k<n→j≠k→∀ d,dstOf ops k=some d→dstOf ops j≠some d)
  (stable:∀ i L v w w',Spec i L v w→G w w'→Spec i L v w')
  (hg:G w w') (hs:Spec i ((dl.getD i []).map V) v w') :
  Inv G ops n dl Spec a0 w0 (fun k=>if k=i then v else V k) (listed.setIfInBounds i true) (a.put o.dst v) w':=by
 have hisz:i<listed.size:=by rw [inv.head.size];exact (Array.getElem?_eq_some_iff.1 hi).1
 have hdst:dstOf ops i=o.dst:=by simp [dstOf,hi]
 have hdep:∀ k,k<n→(k=i∨listed.getD k false=true)→∀ j∈dl.getD k [],j≠i:=fun k hk hkl j hj e=>by
  have hm:=(hdl k hk j hj).2;rw [e] at hm;have:listed.getD i false=true:=by
   rcases hkl with rfl | hkl
   ·obtain ⟨_,o',ho',hall⟩:=mem_ready.1 hri;exact depsOf_listed inv.head.closed n k (fun o'' ho''=>by rw [ho'] at ho'';cases ho'';exact hall) k hm
   ·exact depsOf_listed inv.head.closed n k (fun o' ho' e' he' hb'=>inv.head.closed k o' ho' hkl e' he' hb') i hm
  rw [hiu] at this;cases this
 have hmap:∀ k,k<n→(k=i∨listed.getD k false=true)→(dl.getD k []).map (fun k=>if k=i then v else V k)=(dl.getD k []).map V:=fun k hk hkl =>
  List.map_congr_left fun j hj=>by rw [if_neg (hdep k hk hkl j hj)]
 refine ⟨inv.head.set hri hin,?_,?_,fun k hk hl d hd hlt=>?_,fun d hd=>?_,fun k hk hl=>?_,hG.trans inv.gr hg⟩
 ·rw [← inv.size];cases o.dst <;> simp [Act.put]
 ·rw [← inv.defers];cases o.dst <;> rfl
 ·by_cases hki:k=i
  ·subst hki;rw [hdst] at hd;rw [if_pos rfl,hd];simp [Act.put,inv.size,hlt]
  ·rw [if_neg hki];rw [getD_set_ne false (fun e=>hki e.symm)] at hl;rw [← inv.slot k hk hl d hd hlt];cases ho:o.dst with
   | none=>rfl
   | some d' =>
    simp only [Act.put];exact Array.getElem?_setIfInBounds_ne (fun e=>hnd i k hin hk (fun e=>hki e.symm) d hd (by rw [hdst,ho,e]))
 ·have h1:dstOf ops i≠some d:=hd i hin (by simp [hisz]);rw [hdst] at h1;rw [← inv.other d (fun k hk hl e=>by
   by_cases hki:k=i
   ·subst hki;exact h1 (by rw [← hdst];exact e)
   ·exact hd k hk (by rw [getD_set_ne false (fun e=>hki e.symm)];exact hl) e)]
  cases ho:o.dst with
  | none=>rfl
  | some d'=>simp only [Act.put];exact Array.getElem?_setIfInBounds_ne (fun e=>h1 (by rw [ho,e]))
 ·by_cases hki:k=i
  ·subst hki;rw [hmap k hk (.inl rfl)];simp only [if_true];exact hs
  ·rw [getD_set_ne false (fun e=>hki e.symm)] at hl;rw [hmap k hk (.inr hl)];simp only [if_neg hki];exact stable _ _ _ _ _ (inv.spec k hk hl) hg
theorem head_all {G:World→World→Prop} (hG:IsGr G) {Spec:Nat→List Value→Value→World→Prop} (g:Nat)
  (hsel:∀ (j:Nat) (o:Oper) cs b,ops[j]?=some o→o.op≠.select cs b) (hn:n≤ops.size)
  (hsink:n=ops.size∨(Region.sinkB .any ops n=true∧Region.chainB .any ops n=true))
  (hlow:∀ i,i<n→∀ o,ops[i]?=some o→∀ e∈o.after,Region.binds .any e=true→e.on<i)
  (hdl:∀ j,j<n→∀ k∈dl.getD j [],k<n∧k∈depsOf ops n j)
  (hlook:∀ i,i<n→∀ o,ops[i]?=some o→∀ k,k<n→∀ d,dstOf ops k=some d→(d∈o.looksAt ops→k∈dl.getD i []∨i∈depsOf ops n k∨i=k)∧True)
  (hnd:∀ j k,j<n→k<n→j≠k→∀ d,dstOf ops k=some d→dstOf ops j≠some d)
  (stable:∀ i L v w w',Spec i L v w→G w w'→Spec i L v w')
  (step:∀ i o V w,ops[i]?=some o→i<n→G w0 w→(∀ k∈dl.getD i [],Spec k ((dl.getD k []).map V) (V k) w)→StepOk G P ops o (canon ops V a0 (dl.getD i [])) w (Spec i ((dl.getD i []).map V)))
  (fin:∀ V listed a w,Inv G ops n dl Spec a0 w0 V listed a w→(∀ k,k<n→listed.getD k false=true)→wpAny P .any ops Q g listed a w) :
  ∀ (f:Nat) (V:Nat→Value) (listed:Array Bool) (a:Act) (w:World),left n listed=f→Inv G ops n dl Spec a0 w0 V listed a w→wpAny P .any ops Q (f+g) listed a w:=by
 intro f
 induction f with
 | zero=>intro V listed a w hf inv;rw [Nat.zero_add];exact fin V listed a w inv (left_zero hf)
 | succ f ih =>
  intro V listed a w hf inv;have hun:∃ i,i<n∧listed.getD i false=false∧∀ j,j<i→listed.getD j false=true:=by
   have hex:∃ i,i<n∧listed.getD i false=false:=by
    apply Classical.byContradiction;intro hno;have:left n listed=0:=by
     unfold left;rw [List.length_eq_zero_iff,List.filter_eq_nil_iff];intro i hi;cases hv:listed.getD i false with
     | true=>simp
     | false=>exact absurd ⟨i,List.mem_range.1 hi,hv⟩ hno
    omega
   obtain ⟨i,h1,h2⟩:=hex
   induction i using Nat.strongRecOn with
   | _ i ihi =>
    by_cases h3:∀ j,j<i→listed.getD j false=true
    ·exact ⟨i,h1,h2,h3⟩
    ·simp only [Classical.not_forall] at h3;obtain ⟨j,hj,hj2⟩:=h3;exact ihi j hj (by omega) (by simpa using hj2)
  obtain ⟨i0,hi0,hi0u,hi0m⟩:=hun;have hready0:i0∈Region.ready .any ops listed:=by
   rw [mem_ready];have hlt:i0<ops.size:=by omega
   refine ⟨getD_in (by rw [inv.head.size];exact hlt) hi0u,ops[i0],Array.getElem?_eq_getElem hlt,fun e he hb=>hi0m _ (hlow i0 hi0 _ (Array.getElem?_eq_getElem hlt) e he hb)⟩
  rw [show f+1+g=(f+g)+1 by omega];refine ⟨fun h=>(by rw [h] at hready0;cases hready0),fun i hi=>?_⟩;obtain ⟨hiu,o,ho,hall⟩:=mem_ready.1 hi;have hiu':=getD_both hiu;have hilt:i<ops.size:=(Array.getElem?_eq_some_iff.1 ho).1;have hin:i<n:=by
   rcases hsink with h | ⟨h1,h2⟩
   ·omega
   ·by_cases hns:n<ops.size
    ·rcases Nat.lt_or_ge i n with h | h
     ·exact h
     ·exact absurd hi (tail_waits h1 h2 hns inv.head _ i0 rfl hi0 (getD_in (by rw [inv.head.size];omega) hi0u) i h)
    ·omega
  have hso:=step i o V w ho hin inv.gr (fun k hk=>inv.spec k (hdl i hin k hk).1 (depsOf_listed inv.head.closed n i (fun o' ho'=>by rw [ho] at ho';cases ho';exact hall) k (hdl i hin k hk).2));have hlk:=inv.looks ho hin hiu' hall (hdl i hin) (hlook i hin o ho) hnd;have hw:=wanted_congr (ops:=ops) o hlk;have hex:=exec_congr (ops:=ops) o (fun cs b=>hsel i o cs b ho) hlk;have hnext:∀ v w',G w w'→Spec i ((dl.getD i []).map V) v w'→wpAny P .any ops Q (f+g) (listed.setIfInBounds i true) (a.put o.dst v) w':=fun v w' hg hs =>
   ih _ _ _ _ (by have:=left_set (n:=n) hin (by rw [inv.head.size];exact hilt) hiu';omega) (inv.step hG ho hin hiu' hi hdl hnd stable hg hs)
  unfold StepOk at hso;rw [← hw] at hso;unfold wpOp;simp only [ho];by_cases hwt:Region.wanted o (yielded ops a.tmps)=true
  ·rw [if_pos hwt] at hso ⊢;refine .inl ?_;unfold GrowAt at hso;unfold Oper.wp;rw [← hex] at hso;generalize (execOp a.eval o).run P w=r at hso;cases r with
   | halt x w'=>exact hso.elim
   | ok nx w' =>
    cases nx with
    | value v=>exact hnext v w' hso.1 hso.2
    | skip=>exact hnext undef w' hso.1 hso.2
    | enter fn args =>
     refine hso.2.mono ?_;rintro e w'' ⟨v,rfl,h1,h2⟩;exact hnext v w'' (hG.trans hso.1 h1) h2
    | _=>exact hso.elim
  ·rw [if_neg hwt] at hso ⊢;exact hnext undef w (hG.refl _) hso
theorem region_spec {G:World→World→Prop} (hG:IsGr G) {id:Nat} {l:List Oper} {w:World} {a0:Act} {Q:Exit→Act→World→Prop} (n:Nat) (dl:List (List Nat)) (hm:P.follows .mixedOrders=true) (hB:shapeB l.toArray n dl=true)
  (Spec:Nat→List Value→Value→World→Prop) (stable:∀ i L v w w',Spec i L v w→G w w'→Spec i L v w')
  (step:∀ i o V w',l[i]?=some o→i<n→G w w'→(∀ k∈dl.getD i [],Spec k ((dl.getD k []).map V) (V k) w')→StepOk G P l.toArray o (canon l.toArray V a0 (dl.getD i [])) w' (Spec i ((dl.getD i []).map V)))
  (fin:∀ V w',G w w'→(∀ k,k<n→Spec k ((dl.getD k []).map V) (V k) w')→wpList P l.toArray Q (l.drop n) (canon l.toArray V a0 (List.range n)) w') :
  (Code.region id l.toArray true).wp P Q a0 w:=by
 simp only [shapeB,Bool.and_eq_true,decide_eq_true_eq,Bool.or_eq_true] at hB;obtain ⟨⟨⟨⟨⟨hsel,hn⟩,hdlen⟩,hsink⟩,hall⟩,hseq⟩:=hB;rw [List.all_eq_true] at hall;have hops:∀ i,i<n→∃ o,l.toArray[i]?=some o∧(∀ e∈o.after,Region.binds .any e=true→e.on<i)∧(∀ k∈dl.getD i [],k<n∧k∈depsOf l.toArray n i) ∧
   (∀ k,k<n→∀ d,dstOf l.toArray k=some d→(d∈o.looksAt l.toArray→k∈dl.getD i []∨i∈depsOf l.toArray n k∨i=k)∧(k≠i→dstOf l.toArray i≠some d)):=by
  intro i hi;have h:=hall i (List.mem_range.2 hi);cases ho:l.toArray[i]? with
  | none=>rw [ho] at h;cases h
  | some o =>
   rw [ho] at h;simp only [Bool.and_eq_true,List.all_eq_true] at h;obtain ⟨⟨h1,h2⟩,h3⟩:=h;refine ⟨o,rfl,fun e he hb=>?_,fun k hk=>?_,fun k hk d hd=>?_⟩
   ·have:=h1 e (by simpa using he);rw [hb] at this;simpa using this
   ·have:=h2 k hk
    simpa using this
   ·have:=h3 k (List.mem_range.2 hk);rw [hd] at this;simp only [Bool.and_eq_true,Bool.or_eq_true,Bool.not_eq_true',beq_iff_eq,decide_eq_true_eq,List.contains_iff_mem] at this;refine ⟨fun hm=>?_,fun hne=>?_⟩
    ·rcases this.1 with ((h | h) | h) | h
     ·rw [show (o.looksAt l.toArray).contains d=true from List.contains_iff_mem.2 hm] at h;cases h
     ·exact .inl h
     ·exact .inr (.inl h)
     ·exact .inr (.inr h)
    ·rcases this.2 with h | h
     ·exact absurd h hne
     ·exact h
 have hnd:∀ j k,j<n→k<n→j≠k→∀ d,dstOf l.toArray k=some d→dstOf l.toArray j≠some d:=fun j k hj hk hne d hd=>by
  obtain ⟨o,_,_,_,h⟩:=hops j hj;exact (h k hk d hd).2 (fun e=>hne e.symm)
 refine wp_region_any hm ?_;have inv0:Inv G l.toArray n dl Spec a0 w (fun _=>undef) (Array.replicate l.toArray.size false) a0 { w with drawn:=w.drawn+1 } :=
  ⟨⟨by simp,fun j oj _ hl=>(by rw [getD_replicate_false] at hl;cases hl),fun t _ ht=>getD_in (by simpa using ht) (getD_replicate_false _ _)⟩,rfl,rfl,
   fun k _ hl=>(by rw [getD_replicate_false] at hl;cases hl),fun _ _=>rfl,fun k _ hl=>(by rw [getD_replicate_false] at hl;cases hl),hG.drew _⟩
 have hleft:left n (Array.replicate l.toArray.size false)=n:=by
  unfold left;rw [List.filter_eq_self.2 (fun i _=>by rw [getD_replicate_false];rfl)];simp
 have:=head_all hG (P:=P) (Q:=Q) (Spec:=Spec) (dl:=dl) (a0:=a0) (w0:=w) (l.toArray.size-n) (Region.noSelect_spec hsel) hn (by rcases hsink with h | h;exact .inl h;exact .inr h)
  (fun i hi o ho e he hb=>by obtain ⟨o',ho',h1,_⟩:=hops i hi;rw [ho] at ho';cases ho';exact h1 e he hb)
  (fun j hj=>by obtain ⟨_,_,_,h,_⟩:=hops j hj;exact h)
  (fun i hi o ho k hk d hd=>by obtain ⟨o',ho',_,_,h⟩:=hops i hi;rw [ho] at ho';cases ho';exact ⟨(h k hk d hd).1,trivial⟩)
  hnd stable (fun i o V w' ho=>step i o V w' (by simpa using ho)) ?_ n _ _ _ _ hleft inv0
 ·rwa [show n+(l.toArray.size-n)=l.toArray.size by omega] at this
 ·intro V listed a w' inv hl;have hld:listed=((List.range l.toArray.size).map (fun i=>decide (i<n))).toArray:=by
   apply Array.ext
   ·rw [inv.head.size];simp
   ·intro i h1 h2;have hi:i<l.toArray.size:=by rw [inv.head.size] at h1;exact h1
    have e2:((List.range l.toArray.size).map (fun i=>decide (i<n))).toArray[i]=decide (i<n):=by simp
    rw [e2];by_cases hin:i<n
    ·have:=hl i hin;simp only [hin,decide_true]
     simpa [h1] using this
    ·have:=inv.head.tail i (by omega) hi;simp only [hin,decide_false]
     simpa [h1] using this
  have hact:a=canon l.toArray V a0 (List.range n):=by
   have ht:a.tmps=(canon l.toArray V a0 (List.range n)).tmps:=by
    apply Array.ext_getElem?;intro d;by_cases hlt:d<a0.tmps.size
    ·by_cases hex:∃ k,k<n∧dstOf l.toArray k=some d
     ·obtain ⟨k,hk,hd⟩:=hex;rw [inv.slot k hk (hl k hk) d hd hlt,canon_in V hd _ _ (List.mem_range.2 hk) (fun j hj hjk=>hnd j k (List.mem_range.1 hj) hk hjk d hd) hlt]
     ·rw [inv.other d (fun k hk _ e=>hex ⟨k,hk,e⟩),canon_out V _ _ (fun k hk e=>hex ⟨k,List.mem_range.1 hk,e⟩)]
    ·have e1:a.tmps[d]?=none:=Array.getElem?_eq_none (by rw [inv.size];exact Nat.le_of_not_lt hlt);have e2:(canon l.toArray V a0 (List.range n)).tmps[d]?=none:=Array.getElem?_eq_none (by rw [size_canon];exact Nat.le_of_not_lt hlt);rw [e1,e2]
   have hdf:a.defers=(canon l.toArray V a0 (List.range n)).defers:=by rw [inv.defers,defers_canon]
   obtain ⟨t,d⟩:=a;generalize canon l.toArray V a0 (List.range n)=b at ht hdf;obtain ⟨t',d'⟩:=b;dsimp only at ht hdf;rw [ht,hdf]
  have hf:=fin V w' inv.gr (fun k hk=>inv.spec k hk (hl k hk));rw [← hact] at hf;have hdl:(l.drop n).length=l.toArray.size-n:=by simp
  have hsq:=wpAny_of_seq (P:=P) (md:=.any) (Q':=Q) (l.drop n) n listed a w' (fun j=>by simp [List.getElem?_drop]) (by rw [hdl,hld];exact hseq) hf;rwa [hdl] at hsq
def GrowL (G:World→World→Prop) (P:Program) (o:Oper) (ρ:Operand→Value) (w:World) (Φ:Value→World→Prop):Prop :=
 match (execOp ρ o).run P w with
 | .ok (.value v) w'=>G w w'∧Φ v w'
 | .ok .skip w'=>G w w'∧Φ undef w'
 | .ok (.enter f args) w'=>G w w'∧Calls P f args w' (fun e w''=>∃ v,e=.returned v∧G w' w''∧Φ v w'')
 | _=>False
theorem GrowL.value {G:World→World→Prop} {o:Oper} {ρ:Operand→Value} {w w':World} {v:Value} {Φ:Value→World→Prop} (h:(execOp ρ o).run P w=.ok (.value v) w') (hg:G w w') (hv:Φ v w'):GrowL G P o ρ w Φ:=by
 unfold GrowL;rw [h];exact ⟨hg,hv⟩
theorem GrowL.call {G:World→World→Prop} (hG:IsGr G) {o:Oper} {ρ:Operand→Value} {w:World} {Φ:Value→World→Prop} {f:FuncId} {args:Array Value} (h:(execOp ρ o).run P w=.ok (.enter f args) w) (hc:Calls P f args w (fun e w''=>∃ v,e=.returned v∧G w w''∧Φ v w'')):GrowL G P o ρ w Φ:=by
 unfold GrowL;rw [h];exact ⟨hG.refl _,hc⟩
def genSteps (G:World→World→Prop) (P:Program) (ds:List (Option Nat)) (a0:Act) (w:World) (dl0:List (List Nat)) (Sp:Nat→List Value→Value→World→Prop):List Oper→Nat→List (List Nat)→Prop
 | o::l,i,d::dl=>(∀ (V:Nat→Value) w',G w w'→(∀ k∈d,Sp k ((dl0.getD k []).map V) (V k) w')→if wantB o V=true then GrowL G P o (Rs.look ds V a0 d) w' (Sp i (d.map V)) else Sp i (d.map V) undef w')∧genSteps G P ds a0 w dl0 Sp l (i+1) dl
 | _,_,_=>True
theorem genSteps_get {G:World→World→Prop} {ds:List (Option Nat)} {a0:Act} {w:World} {dl0:List (List Nat)} {Sp:Nat→List Value→Value→World→Prop}:∀ (l:List Oper) (i:Nat) (dl:List (List Nat)),genSteps G P ds a0 w dl0 Sp l i dl→∀ (j:Nat) (o:Oper) (d:List Nat),l[j]?=some o→dl[j]?=some d →
  ∀ (V:Nat→Value) w',G w w'→(∀ k∈d,Sp k ((dl0.getD k []).map V) (V k) w')→if wantB o V=true then GrowL G P o (Rs.look ds V a0 d) w' (Sp (i+j) (d.map V)) else Sp (i+j) (d.map V) undef w'
 | [],_,_,_,j,o,d,ho,_=>by simp at ho
 | _::_,_,[],_,j,o,d,_,hd=>by simp at hd
 | o'::l,i,d'::dl,h,0,o,d,ho,hd=>by simp at ho hd;subst ho;subst hd;exact h.1
 | o'::l,i,d'::dl,h,j+1,o,d,ho,hd=>by
  have:=genSteps_get l (i+1) dl h.2 j o d (by simpa using ho) (by simpa using hd);rwa [show i+(j+1)=i+1+j by omega]
theorem region_gen {G:World→World→Prop} (hG:IsGr G) {id:Nat} {l:List Oper} {w:World} {a0:Act} {Q:Exit→Act→World→Prop} (n:Nat) (dl:List (List Nat)) (ds:List (Option Nat)) (Sp:Nat→List Value→Value→World→Prop) (hm:P.follows .mixedOrders=true) (hB:shapeB l.toArray n dl=true) (hS:slotsB l.toArray n a0.tmps.size dl ds=true)
  (stable:∀ i L v w w',Sp i L v w→G w w'→Sp i L v w')
  (step:genSteps G P ds a0 w dl Sp l 0 dl)
  (fin:∀ V w',G w w'→(∀ k,k<n→Sp k ((dl.getD k []).map V) (V k) w')→wpList P l.toArray Q (l.drop n) (canon l.toArray V a0 (List.range n)) w') :
  (Code.region id l.toArray true).wp P Q a0 w:=by
 have hB':=hB;simp only [shapeB,Bool.and_eq_true,decide_eq_true_eq] at hB';obtain ⟨⟨⟨⟨⟨hsel,hn⟩,hdlen⟩,_⟩,hall⟩,_⟩:=hB';rw [List.all_eq_true] at hall;unfold slotsB at hS;rw [List.all_eq_true] at hS;have hdst:∀ i,i<n→dstOf l.toArray i=ds.getD i none∧∀ d,dstOf l.toArray i=some d→d<a0.tmps.size:=fun i hi=>by
  have h:=hS i (List.mem_range.2 hi);simp only [Bool.and_eq_true,beq_iff_eq] at h;refine ⟨h.1.1,fun d hd=>?_⟩;have h2:=h.1.2;rw [← h.1.1,hd] at h2
  simpa using h2
 refine region_spec hG n dl hm hB Sp stable (fun i o V w' ho hi hg hs=>?_) fin;have hst:=genSteps_get l 0 dl step i o (dl.getD i []) ho (by simp [List.getElem?_eq_getElem (show i<dl.length by omega)]) V w' hg hs;rw [Nat.zero_add] at hst;have hio:=hall i (List.mem_range.2 hi);have hoo:l.toArray[i]?=some o:=by simpa using ho
 rw [hoo] at hio;simp only [Bool.and_eq_true,List.all_eq_true] at hio;obtain ⟨⟨_,h2⟩,h3⟩:=hio;have hdl:∀ k∈dl.getD i [],k<n:=fun k hk=>by have:=h2 k hk;simp only [Bool.and_eq_true,decide_eq_true_eq] at this;exact this.1
 have hnd:∀ j k,j<n→k<n→j≠k→∀ d,dstOf l.toArray k=some d→dstOf l.toArray j≠some d:=fun j k hj hk hne d hd=>by
  have h:=hall j (List.mem_range.2 hj);cases hoj:l.toArray[j]? with
  | none=>rw [hoj] at h;cases h
  | some oj =>
   rw [hoj] at h;simp only [Bool.and_eq_true,List.all_eq_true] at h;have:=h.2 k (List.mem_range.2 hk);rw [hd] at this;simp only [Bool.and_eq_true,Bool.or_eq_true,beq_iff_eq,decide_eq_true_eq] at this;rcases this.2 with h | h
   ·exact absurd h.symm hne
   ·exact h
 have hslot:∀ t,(canon l.toArray V a0 (dl.getD i [])).eval (.tmp t)=Rs.look ds V a0 (dl.getD i []) (.tmp t):=fun t=>by
  unfold Rs.look;simp only;split
  ·rename_i k hk
   have hkm:=List.mem_of_find?_eq_some hk;have hkd:=List.find?_some hk;simp only [beq_iff_eq] at hkd;have hkn:=hdl k hkm;have e:dstOf l.toArray k=some t:=by rw [(hdst k hkn).1];exact hkd
   have:=canon_in (ops:=l.toArray) V e (dl.getD i []) a0 hkm (fun j hj hjk=>hnd j k (hdl j hj) hkn hjk t e) ((hdst k hkn).2 t e);simp only [Act.eval,Array.getD_eq_getD_getElem?,this,Option.getD_some]
  ·rename_i hk
   have hno:∀ k∈dl.getD i [],dstOf l.toArray k≠some t:=fun k hkm e=>by
    have:=List.find?_eq_none.1 hk k hkm;rw [(hdst k (hdl k hkm)).1] at e;rw [e] at this;exact this (by simp)
   have:=canon_out (ops:=l.toArray) V (d:=t) (dl.getD i []) a0 hno;simp only [Act.eval,Array.getD_eq_getD_getElem?,this]
 have hex:execOp (canon l.toArray V a0 (dl.getD i [])).eval o=execOp (Rs.look ds V a0 (dl.getD i [])) o :=
  execOp_congr o (fun c b=>Region.noSelect_spec hsel i o c b hoo) fun x _=>by
   cases x with
   | tmp t=>exact hslot t
   | _=>rfl
 have hwant:Region.wanted o (yielded l.toArray (canon l.toArray V a0 (dl.getD i [])).tmps)=wantB o V:=by
  unfold Region.wanted wantB;cases hgd:o.guard with
  | none=>rfl
  | some gb =>
   obtain ⟨g,b⟩:=gb;have h:=hS i (List.mem_range.2 hi);rw [hoo] at h;simp only [Option.bind_some,hgd,Bool.and_eq_true,List.contains_iff_mem] at h;obtain ⟨hgm,hgs⟩:=h.2;obtain ⟨t,ht⟩:=Option.isSome_iff_exists.1 hgs;have hgn:=hdl g hgm;have hv:=canon_in (ops:=l.toArray) V ht (dl.getD i []) a0 hgm (fun j hj hjk=>hnd j g (hdl j hj) hgn hjk t ht) ((hdst g hgn).2 t ht);have hy:yielded l.toArray (canon l.toArray V a0 (dl.getD i [])).tmps g=match V g with | .bool x=>some x | _=>none:=by
    unfold yielded;unfold dstOf at ht;simp only [ht,Option.bind_some,hv];cases V g <;> rfl
   simp only [hy];cases V g <;> simp
 unfold StepOk;rw [hwant];by_cases hw:wantB o V=true
 ·rw [if_pos hw] at hst ⊢;unfold GrowL at hst;unfold GrowAt;rw [hex];exact hst
 ·rw [if_neg hw] at hst ⊢;exact hst
end main
end Go.Proofs.YtadnggecnjdhiaaGreat.Rg
namespace Go.Proofs.YtadnggecnjdhiaaGreat.Rs
open Go Go.RowKit
variable {P:Program} {dl:List (List Nat)}
theorem grIs:Rg.IsGr Gr where
 refl:=Gr.refl
 trans:=Gr.trans
 drew w:=(Below.refl _ _).drew
abbrev GrowL (P:Program) (o:Oper) (ρ:Operand→Value) (w:World) (Φ:Value→World→Prop):Prop:=Rg.GrowL Gr P o ρ w Φ
theorem GrowL.value {o:Oper} {ρ:Operand→Value} {w w':World} {v:Value} {Φ:Value→World→Prop} (h:(execOp ρ o).run P w=.ok (.value v) w') (hg:Gr w w') (hv:Φ v w'):GrowL P o ρ w Φ:=Rg.GrowL.value h hg hv
theorem GrowL.call {o:Oper} {ρ:Operand→Value} {w:World} {Φ:Value→World→Prop} {f:FuncId} {args:Array Value} (h:(execOp ρ o).run P w=.ok (.enter f args) w) (hc:Calls P f args w (fun e w''=>∃ v,e=.returned v∧Gr w w''∧Φ v w'')):GrowL P o ρ w Φ:=Rg.GrowL.call grIs h hc
theorem region_gen {id:Nat} {l:List Oper} {w:World} {a0:Act} {Q:Exit→Act→World→Prop} (n:Nat) (dl:List (List Nat)) (ds:List (Option Nat)) (Sp:Nat→List Value→Value→World→Prop) (hm:P.follows .mixedOrders=true) (hB:shapeB l.toArray n dl=true) (hS:slotsB l.toArray n a0.tmps.size dl ds=true)
  (stable:∀ i L v w w',Sp i L v w→Gr w w'→Sp i L v w')
  (step:Rg.genSteps Gr P ds a0 w dl Sp l 0 dl)
  (fin:∀ V w',Gr w w'→(∀ k,k<n→Sp k ((dl.getD k []).map V) (V k) w')→wpList P l.toArray Q (l.drop n) (canon l.toArray V a0 (List.range n)) w') :
  (Code.region id l.toArray true).wp P Q a0 w:=Rg.region_gen grIs n dl ds Sp hm hB hS stable step fin
end Go.Proofs.YtadnggecnjdhiaaGreat.Rs
namespace Go.Proofs.YtadnggecnjdhiaaGreat
open Go.RowKit Tx
theorem ret_int {k:IntKind} {a b:Int} (h:a=b):Ending.returned (.int k a)=.returned (.int k b):=by rw [h]
theorem ret_bool {a b:Bool} (h:a=b):Ending.returned (.bool a)=.returned (.bool b):=by rw [h]
theorem take_snocD {α:Type} {xs:List α} (d:α) {k:Nat} (h:k<xs.length):xs.take (k+1)=xs.take k++[xs.getD k d]:=by
 rw [List.take_succ_eq_append_getElem h];simp [h]
theorem getD_mem {α:Type} {xs:List α} (d:α) {k:Nat} (h:k<xs.length):xs.getD k d∈xs:=by simp [h]
theorem any_snoc {α:Type} {xs:List α} (d:α) {k:Nat} (h:k<xs.length) (p:α→Bool) (h1:(xs.take k).any p=false) (h2:p (xs.getD k d)=false):(xs.take (k+1)).any p=false:=by
 rw [take_snocD d h,List.any_append,h1];simp only [List.any_cons,h2,List.any_nil,Bool.or_self]
theorem any_hit {α:Type} {xs:List α} (d:α) {k:Nat} (h:k<xs.length) (p:α→Bool) (h2:p (xs.getD k d)=true):xs.any p=true:=List.any_eq_true.2 ⟨_,getD_mem d h,h2⟩
set_option maxHeartbeats 400000 in
theorem sum_any (xs:List Int) (p:Option Addr) (c:Nat) (w:World) (hl:xs.length≤1000000) (hx:∀ x∈xs,-1000000≤x∧x≤1000000) (hi:Ints w p xs) :
  Calls Tryz.prog 125 #[.slice p xs.length c] w fun e w'=>e=.returned (.int .i64 (isum xs))∧w=w':=by
 go_enter Tryz.func125,Tryz.ntmps125
 go_wp2
 go_loop [3,8] (fun s i=>∃ k:Nat,k≤xs.length∧i=.int .i64 k∧s=.int .i64 (isum (xs.take k))) (fun _ i=>xs.length-(intOf i).toNat)
 case atStart=>exact ⟨0,Nat.zero_le _,rfl,rfl⟩
 case round =>
  obtain ⟨k,hk,rfl,rfl⟩:=hrel;by_cases hlt:k<xs.length
  ·obtain ⟨b,o,x,rfl,hb,hxx,hc⟩:=hi.at hlt;have hbd:=isum_bd (xs.take k) (-1000000) 1000000 (fun y hy=>hx y (List.mem_of_mem_take hy));have hlk:(xs.take k).length=k:=by simp;omega
   have hb1:=hx x (by rw [hxx];exact getD_mem 0 hlt);have hsum:isum (xs.take (k+1))=isum (xs.take k)+x:=by rw [take_snocD 0 hlt,isum_snoc,hxx]
   have HS:=Lib.hid hsum;rw [hlk] at hbd;have h1:-1000000000000≤isum (xs.take k):=by omega
   have h2:isum (xs.take k)≤1000000000000:=by omega
   clear hsum hlk hxx hbd;go_wp2;go_round
   case rel=>exact ⟨k+1,by omega,by go_num,by rw [HS.out]⟩
   case measure=>simp [intOf];omega
  ·obtain rfl:k=xs.length:=by omega
   go_wp2;go_ret;exact ⟨rfl,rfl⟩
def Entered (F:FuncId):Prop:=∀ args w,(callFunc F args).run Tryz.prog w=.ok (.enter F args) w
def errIf {α:Type} (p:α→Bool) (xs:List α) (n:Int):Int:=if xs.any p then n else 0
set_option maxHeartbeats 400000 in
theorem errIfW_any (ws:List Word) (p:Option Addr) (c:Nat) (n:Int) (w:World) (hl:ws.length≤1000000) (hi:Wds w p ws) :
  Calls Tryz.prog 76 #[.slice p ws.length c,.func (.func 77) #[] #[],.int .i64 n] w fun e w'=>e=.returned (.int .i64 (errIf badWord ws n))∧Below w.heap.size w w':=by
 have HI:=Lib.hid hi;clear hi
 go_enter Tryz.func76,Tryz.ntmps76
 go_wp2
 go_loopw [11] (fun i wr=>∃ k:Nat,k≤ws.length∧i=.int .i64 k∧(ws.take k).any badWord=false∧Below w.heap.size w wr) (fun i _=>ws.length-(intOf i).toNat)
 case atStart=>exact ⟨0,Nat.zero_le _,rfl,rfl,Below.refl _ _⟩
 case round =>
  obtain ⟨k,hk,rfl,hA,hB⟩:=hrel;have HA:=Lib.hid hA;clear hA;by_cases hlt:k<ws.length
  ·obtain ⟨b,o,x,rfl,hb,hxx,c1,c2,c3⟩:=(HI.out.below hB).at hlt;have HX:=Lib.hid hxx;have HB:=Lib.hid hB;clear hxx hB;cases hbad:badWord x with
   | true =>
    have HBAD:=Lib.hid hbad;clear hbad;go_wp2_with fail
    refine (badWord_any x _).mono ?_;rintro e w5 ⟨rfl,hB5⟩;rw [HBAD.out];go_wp2;go_ret;exact ⟨by rw [errIf,if_pos (any_hit default hlt _ (by rw [← HX.out];exact HBAD.out))];rfl,join HB.out ((below1 _ _).trans (hB5.mono (by simp)))⟩
   | false =>
    have HBAD:=Lib.hid hbad;clear hbad;go_wp2_with fail
    refine (badWord_any x _).mono ?_;rintro e w5 ⟨rfl,hB5⟩;rw [HBAD.out];go_wp2;go_roundw
    case rel=>exact ⟨k+1,by omega,by go_num,any_snoc default hlt _ HA.out (by rw [← HX.out];exact HBAD.out),join HB.out ((below1 _ _).trans (hB5.mono (by simp)))⟩
    case measure=>simp [intOf];omega
  ·obtain rfl:k=ws.length:=by omega
   go_wp2;go_ret;exact ⟨by have:=HA.out;rw [List.take_length] at this;rw [errIf,this];rfl,hB⟩
def AskT (F:FuncId) (caps:Array Value) (p:Turn→Bool) (w:World):Prop:=∀ u:Turn,Calls Tryz.prog F (#[.agg #[.int .i64 u.word,.int .i64 u.lo,.int .i64 u.hi]]++caps) w fun e w'=>e=.returned (.bool (p u))∧Below w.heap.size w w'
set_option maxHeartbeats 400000 in
set_option maxRecDepth 100000 in
theorem errIfT0_any (F:FuncId) (hF:Entered F)  (q:Turn→Bool) (ts:List Turn) (p:Option Addr) (c:Nat) (n:Int) (w:World) (hl:ts.length≤1000000) (hi:Tns w p ts) (hq:∀ W,Below w.heap.size w W→AskT F #[] q W) :
  Calls Tryz.prog 78 #[.slice p ts.length c,.func (.func F) #[] #[],.int .i64 n] w fun e w'=>e=.returned (.int .i64 (errIf q ts n))∧Below w.heap.size w w':=by
 have HI:=Lib.hid hi;have HQ:=Lib.hid hq;clear hi hq
 go_enter Tryz.func78,Tryz.ntmps78
 go_wp2
 go_loopw [11] (fun i wr=>∃ k:Nat,k≤ts.length∧i=.int .i64 k∧(ts.take k).any q=false∧Below w.heap.size w wr) (fun i _=>ts.length-(intOf i).toNat)
 case atStart=>exact ⟨0,Nat.zero_le _,rfl,rfl,Below.refl _ _⟩
 case round =>
  obtain ⟨k,hk,rfl,hA,hB⟩:=hrel;have HA:=Lib.hid hA;clear hA;by_cases hlt:k<ts.length
  ·obtain ⟨b,o,x,rfl,hb,hxx,c1,c2,c3⟩:=(HI.out.below hB).at hlt;have HX:=Lib.hid hxx;have HB:=Lib.hid hB;have HASK:=Lib.hid (HQ.out _ (hB.trans ((below1 wr (.cells #[.int .i64 x.word,.int .i64 x.lo,.int .i64 x.hi] 63)).mono hB.size)) x);have HF:=Lib.hid hF;clear hxx hB hF;go_wp2_with fail
   have hF:=HF.out;rw [hF,Oper.upon_enter];refine HASK.out.mono ?_;rintro e w5 ⟨rfl,hB5⟩;clear HASK;cases hbad:q x with
   | true =>
    have HBAD:=Lib.hid hbad;clear hbad;go_wp2;go_ret;exact ⟨by rw [errIf,if_pos (any_hit default hlt _ (by rw [← HX.out];exact HBAD.out))];rfl,join HB.out ((below1 _ _).trans (hB5.mono (by simp)))⟩
   | false =>
    have HBAD:=Lib.hid hbad;clear hbad;go_wp2;go_roundw
    case rel=>exact ⟨k+1,by omega,by go_num,any_snoc default hlt _ HA.out (by rw [← HX.out];exact HBAD.out),join HB.out ((below1 _ _).trans (hB5.mono (by simp)))⟩
    case measure=>simp [intOf];omega
  ·obtain rfl:k=ts.length:=by omega
   go_wp2;go_ret;exact ⟨by have:=HA.out;rw [List.take_length] at this;rw [errIf,this];rfl,hB⟩
set_option maxHeartbeats 400000 in
set_option maxRecDepth 100000 in
theorem errIfT1_any (F:FuncId) (hF:Entered F) (E:Value) (q:Turn→Bool) (ts:List Turn) (p:Option Addr) (c:Nat) (n:Int) (w:World) (hl:ts.length≤1000000) (hi:Tns w p ts) (hq:∀ W,Below w.heap.size w W→AskT F #[E] q W) :
  Calls Tryz.prog 78 #[.slice p ts.length c,.func (.func F) #[] #[E],.int .i64 n] w fun e w'=>e=.returned (.int .i64 (errIf q ts n))∧Below w.heap.size w w':=by
 have HI:=Lib.hid hi;have HQ:=Lib.hid hq;clear hi hq
 go_enter Tryz.func78,Tryz.ntmps78
 go_wp2
 go_loopw [11] (fun i wr=>∃ k:Nat,k≤ts.length∧i=.int .i64 k∧(ts.take k).any q=false∧Below w.heap.size w wr) (fun i _=>ts.length-(intOf i).toNat)
 case atStart=>exact ⟨0,Nat.zero_le _,rfl,rfl,Below.refl _ _⟩
 case round =>
  obtain ⟨k,hk,rfl,hA,hB⟩:=hrel;have HA:=Lib.hid hA;clear hA;by_cases hlt:k<ts.length
  ·obtain ⟨b,o,x,rfl,hb,hxx,c1,c2,c3⟩:=(HI.out.below hB).at hlt;have HX:=Lib.hid hxx;have HB:=Lib.hid hB;have HASK:=Lib.hid (HQ.out _ (hB.trans ((below1 wr (.cells #[.int .i64 x.word,.int .i64 x.lo,.int .i64 x.hi] 63)).mono hB.size)) x);have HF:=Lib.hid hF;clear hxx hB hF;go_wp2_with fail
   have hF:=HF.out;rw [hF,Oper.upon_enter];refine HASK.out.mono ?_;rintro e w5 ⟨rfl,hB5⟩;clear HASK;cases hbad:q x with
   | true =>
    have HBAD:=Lib.hid hbad;clear hbad;go_wp2;go_ret;exact ⟨by rw [errIf,if_pos (any_hit default hlt _ (by rw [← HX.out];exact HBAD.out))];rfl,join HB.out ((below1 _ _).trans (hB5.mono (by simp)))⟩
   | false =>
    have HBAD:=Lib.hid hbad;clear hbad;go_wp2;go_roundw
    case rel=>exact ⟨k+1,by omega,by go_num,any_snoc default hlt _ HA.out (by rw [← HX.out];exact HBAD.out),join HB.out ((below1 _ _).trans (hB5.mono (by simp)))⟩
    case measure=>simp [intOf];omega
  ·obtain rfl:k=ts.length:=by omega
   go_wp2;go_ret;exact ⟨by have:=HA.out;rw [List.take_length] at this;rw [errIf,this];rfl,hB⟩
end Go.Proofs.YtadnggecnjdhiaaGreat
namespace Go.Proofs.YtadnggecnjdhiaaGreat
open Go.RowKit Tx
theorem A_infoI:(Tryz.prog.info? 3).map (fun i=>(i.zero,i.size,i.bytes))=some (some (.int .i64 0),1,8):=by kernel_rfl
theorem A_undI:Tryz.prog.underlying 34=some (.slice 3):=by kernel_rfl
theorem grown_of_below {w w':World} (h:Below w.heap.size w w') (row:Option Nat):w.grownBy w' row:=⟨h.os,h.tape,h.output,h.size,fun k hk _=>h.block k hk⟩
theorem own_below {w w':World} {base:Nat} {e:TypeId} {size:Nat} {v:Value} {n:Nat} {xs:List Value} (h:w.ownsRow base e size v n xs) (hB:Below w.heap.size w w'):w'.ownsRow base e size v n xs :=
 h.kept (grown_of_below hB none) (by cases v.ownBlock <;> simp)
theorem below_grown {B:Nat} {a w w':World} {base:Nat} {e:TypeId} {size:Nat} {v:Value} {n:Nat} {xs:List Value} (h:Below B a w) (hown:w.ownsRow base e size v n xs) (hb:B≤base) (hB:B≤w.heap.size) (hg:w.grownBy w' v.ownBlock):Below B a w' :=
 h.grown hg hB (fun k hk=>Nat.le_trans hb (hown.lt k hk).1)
theorem al2 {B:Nat} {a w:World} (h:Below B a w) (hB:B≤w.heap.size) (o:Obj):Below B a (w.alloc o):=h.alloc hB o
theorem own_none (w:World) (base:Nat) (e:TypeId) (size:Nat):w.ownsRow base e size (.slice none 0 0) 0 []:=⟨by simp,.inl ⟨rfl,rfl⟩⟩
theorem own_base {w:World} {base base':Nat} {e:TypeId} {size:Nat} {v:Value} {n:Nat} {xs:List Value} (h:w.ownsRow base e size v n xs) (hb:base'≤base):w.ownsRow base' e size v n xs:=by
 refine ⟨h.1,?_⟩;rcases h.2 with h1 | ⟨g,cap,cur,h1,h2,h3⟩
 ·exact .inl h1
 ·exact .inr ⟨g,cap,cur,h1,by omega,h3⟩
theorem own_rd {w:World} {base:Nat} {e:TypeId} {v:Value} {xs:List Int} {n:Nat} (h:w.ownsRow base e 1 v n (xs.map (Value.int .i64))) (hn:n=xs.length):∃ p c,v=.slice p xs.length c∧Ints w p xs∧(∀ b o,p=some ⟨b,o,none⟩→base≤b∧o=0∧∀ i,w.frozen? ⟨b,i,none⟩=false)∧c≤maxLen∧xs.length≤c:=by
 subst hn;have hc:=h;rcases h.2 with ⟨rfl,hn⟩ | ⟨g,cap,cur,rfl,hb,hg,h1,h2,h3,h4⟩
 ·exact ⟨none,0,by rw [hn],.inl (List.length_eq_zero_iff.1 hn),(fun b o h=>by cases h),(by unfold maxLen;omega),by omega⟩
 ·refine ⟨_,cap,rfl,.inr ⟨g,0,rfl,(Array.getElem?_eq_some_iff.1 hg).1,fun i hi=>?_⟩,(fun b o h=>by injection h with h;injection h with h1 h2;subst h1;exact ⟨hb,h2.symm,fun i=>by simp [World.frozen?,hg]⟩),h2,h1⟩;have:=hc.cells (g:=g) rfl i (.int .i64 (xs.getD i 0)) (by simp [List.getElem?_eq_getElem hi]);rw [Nat.zero_add];have hadd:(⟨g,0,none⟩:Addr).add i=⟨g,i,none⟩:=by unfold Addr.add;split <;> simp_all
  rwa [hadd] at this
theorem blk_cells {W:World} {b:Nat} {C:Array Value} {ty:TypeId} {fr:Nat × Nat} (h:W.heap[b]?=some (.cells C ty fr)) (i:Nat) (v:Value) (hv:C[i]?=some v):W.cell? ⟨b,i,none⟩=some v:=by
 simp [World.cell?,h,hv]
theorem heap_last (w:World) (o:Obj):(w.alloc o).heap[w.heap.size]?=some o:=World.alloc_heap_new _ _
theorem grown_set (w:World) (g o:Nat) (v:Value):w.grownBy (w.setCell ⟨g,o,none⟩ v) (some g) :=
 ⟨rfl,rfl,rfl,by simp [World.setCell],fun k _ hn=>Below.heap_setCell _ _ _ _ (fun e=>hn (by rw [e]))⟩
theorem below_drewN' {B:Nat} {a w:World} (h:Below B a w) (q:Nat):Below B a (w.drewN q):=⟨h.os,h.tape,h.output,h.size,h.block⟩
theorem heap_set_same {w:World} {g o:Nat} {cs:Array Value} {t:TypeId} (v:Value) (h:w.heap[g]?=some (.cells cs t (0,0))):(w.setCell ⟨g,o,none⟩ v).heap[g]?=some (.cells (cs.setIfInBounds o v) t (0,0)):=by
 simp only [World.setCell,Array.getElem?_modify,h];simp
theorem cell_one_new (w:World) (v:Value) (T:TypeId):∀ (j:Nat) (u:Value),[v][j]?=some u→(w.alloc (.cells #[v] T)).cell? ((⟨w.heap.size,0,none⟩:Addr).add j)=some u:=by
 intro j u hj
 match j,hj with
 | 0,hj=>simp at hj;subst hj;simp [Addr.add]
theorem belS {B b o:Nat} {a w:World} {v:Value} (h:Below B a w) (hb:B≤b):Below B a (w.setCell ⟨b,o,none⟩ v):=h.setCell (p:=⟨b,o,none⟩) hb v
theorem belA {B:Nat} {a w:World} {o:Obj} (h:Below B a w) (hb:B≤w.heap.size):Below B a (w.alloc o):=h.alloc hb o
theorem belD {B:Nat} {a w:World} (h:Below B a w):Below B a w.drew:=h.drew
def setFrom:Array Value→Nat→List Value→Array Value
 | c,_,[]=>c
 | c,o,v::r=>setFrom (c.setIfInBounds o v) (o+1) r
theorem size_setFrom:∀ (vs:List Value) (c:Array Value) (o:Nat),(setFrom c o vs).size=c.size
 | [],_,_=>rfl
 | _::r,c,o=>by rw [setFrom,size_setFrom r];simp
theorem get_setFrom:∀ (vs:List Value) (c:Array Value) (o j:Nat),o+vs.length≤c.size→(setFrom c o vs)[j]?=if o≤j∧j<o+vs.length then vs[j-o]? else c[j]?
 | [],c,o,j,_=>by rw [setFrom,if_neg (by simp only [List.length_nil];omega)]
 | v::r,c,o,j,h=>by
  simp only [List.length_cons] at h;rw [setFrom,get_setFrom r _ _ _ (by simp;omega)];by_cases h1:o+1≤j∧j<o+1+r.length
  ·rw [if_pos h1,if_pos (by simp only [List.length_cons];omega),show j-o=(j-(o+1))+1 by omega];simp
  ·rw [if_neg h1];by_cases h2:j=o
   ·subst h2;rw [if_pos (by simp only [List.length_cons];omega)];simp only [Nat.sub_self,List.getElem?_cons_zero];rw [Array.getElem?_setIfInBounds,if_pos rfl,if_pos (by omega)]
   ·rw [if_neg (by simp only [List.length_cons];omega),Array.getElem?_setIfInBounds,if_neg (by omega)]
theorem heap_setCells (g:Nat):∀ (vs:List Value) (o:Nat) (w:World) (c:Array Value) (e:TypeId) (fr:Nat × Nat),w.heap[g]?=some (.cells c e fr)→(w.setCells g o vs).heap[g]?=some (.cells (setFrom c o vs) e fr)
 | [],_,_,_,_,_,h=>h
 | v::r,o,w,c,e,fr,h=>by
  rw [World.setCells,setFrom];refine heap_setCells g r (o+1) _ _ e fr ?_;simp only [World.setCell,Array.getElem?_modify,h];simp
theorem below_setCells' {B g:Nat} {a:World} (hg:B≤g):∀ (vs:List Value) (o:Nat) (w:World),Below B a w→Below B a (w.setCells g o vs)
 | [],_,_,h=>h
 | v::r,o,w,h=>below_setCells' hg r (o+1) _ (h.setCell hg v)
theorem setFrom_all (vs:List Value) (c:Array Value) (h:c.size=vs.length):setFrom c 0 vs=vs.toArray:=by
 apply Array.ext_getElem?;intro j;rw [get_setFrom _ _ _ _ (by omega)];by_cases hj:j<vs.length
 ·rw [if_pos (by omega)];simp
 ·rw [if_neg (by omega),Array.getElem?_eq_none (by omega)];simp;omega
theorem own_setCells {w:World} {base:Nat} {e:TypeId} {g n cap:Nat} {xs ys:List Value} (h:w.ownsRow base e 1 (.slice (some ⟨g,0,none⟩) n cap) n xs) (hy:ys.length=n):(w.setCells g 0 ys).ownsRow base e 1 (.slice (some ⟨g,0,none⟩) n cap) n ys:=by
 refine ⟨by omega,?_⟩;rcases h.2 with ⟨h1,_⟩ | ⟨g',cap',cur,hv,hb,hg,h1,h2,h3,h4⟩
 ·cases h1
 ·injection hv with e1 e2 e3;injection e1 with e1;injection e1 with e1;subst e1;subst e3;refine .inr ⟨g,cap,setFrom cur 0 ys,rfl,hb,heap_setCells g ys 0 w cur e _ hg,h1,h2,by rw [size_setFrom,h3],?_⟩;apply List.ext_getElem?;intro j;rw [List.getElem?_take,Array.getElem?_toList,get_setFrom _ _ _ _ (by omega)];by_cases hj:j<n
  ·rw [if_pos (by omega),if_pos (by omega)];simp
  ·rw [if_neg (by omega),List.getElem?_eq_none (by omega)]
theorem own_drewN {w:World} {base:Nat} {e:TypeId} {size:Nat} {v:Value} {n:Nat} {xs:List Value} (h:w.ownsRow base e size v n xs) (q:Nat):(w.drewN q).ownsRow base e size v n xs:=h
structure Text.Ok (t:Text):Prop where
 n1:1≤t.words.length
 n12:t.words.length≤12
 m6:t.turns.length≤6
 b1:1≤t.breath
 b40:t.breath≤40
 word:∀ x∈t.words,1≤x.syl∧x.syl≤9∧0≤x.wt∧x.wt≤20
 turn:∀ u∈t.turns,0≤u.word∧u.word<t.words.length∧0≤u.lo∧u.lo≤u.hi∧u.hi<t.words.length∧(u.word<u.lo∨u.hi<u.word)
theorem any_false {α:Type} {l:List α} {p:α→Bool} (h:¬ l.any p=true):∀ x∈l,p x=false:=fun x hx=>by
 cases hp:p x with
 | false=>rfl
 | true=>exact absurd (List.any_eq_true.2 ⟨x,hx,hp⟩) h
theorem btw_true {n lo hi:Int} (h:btw n lo hi=true):lo≤n∧n≤hi:=by simpa [btw] using h
theorem err_ok {t:Text} (h:t.err=0):Text.Ok t:=by
 unfold Text.err Text.len at h;by_cases h1:t.words.length<1∨12<t.words.length∨6<t.turns.length
 ·rw [if_pos h1] at h;omega
 rw [if_neg h1] at h;by_cases h2:t.breath<1∨40<t.breath
 ·rw [if_pos h2] at h;omega
 rw [if_neg h2] at h;by_cases h3:t.words.any badWord=true
 ·rw [if_pos h3] at h;omega
 rw [if_neg h3] at h;by_cases h4:t.turns.any (namesNo t.words.length)=true
 ·rw [if_pos h4] at h;omega
 rw [if_neg h4] at h;by_cases h5:t.turns.any endsB=true
 ·rw [if_pos h5] at h;omega
 rw [if_neg h5] at h;by_cases h6:t.turns.any itself=true
 ·rw [if_pos h6] at h;omega
 refine ⟨by omega,by omega,by omega,by omega,by omega,fun x hx=>?_,fun u hu=>?_⟩
 ·have:=any_false h3 x hx;simp only [badWord,Bool.or_eq_false_iff,Bool.not_eq_false'] at this;have a:=btw_true this.1;have b:=btw_true this.2;omega
 ·have a:=any_false h4 u hu;have b:=any_false h5 u hu;have c:=any_false h6 u hu;simp only [namesNo,absent,Bool.or_eq_false_iff,Bool.not_eq_false'] at a;have a1:=btw_true a.1.1;have a2:=btw_true a.1.2;have a3:=btw_true a.2;simp only [endsB,decide_eq_false_iff_not] at b;simp only [itself,btw,Bool.and_eq_false_iff,decide_eq_false_iff_not] at c;omega
end Go.Proofs.YtadnggecnjdhiaaGreat
namespace Go.Proofs.YtadnggecnjdhiaaGreat
open Go.RowKit Tx
def Low {β:Type} (B:Nat) (J:β→World→Prop):Prop:=∀ s W W',J s W→Below B W W'→J s W'
theorem Low.mono {β:Type} {B B':Nat} {J:β→World→Prop} (h:Low B J) (hB:B≤B'):Low B' J:=fun s W W' hs hb=>h s W W' hs (hb.mono hB)
structure Hold (Kp:Nat→Prop) (A C:World):Prop where
 os:C.os=A.os
 tape:C.tape=A.tape
 output:C.output=A.output
 size:A.heap.size≤C.heap.size
 same:∀ k,Kp k→k<A.heap.size→C.heap[k]?=A.heap[k]?
theorem Hold.refl (Kp:Nat→Prop) (A:World):Hold Kp A A:=⟨rfl,rfl,rfl,Nat.le_refl _,fun _ _ _=>rfl⟩
theorem Hold.trans {Kp:Nat→Prop} {A B C:World} (h:Hold Kp A B) (k:Hold Kp B C):Hold Kp A C :=
 ⟨k.os.trans h.os,k.tape.trans h.tape,k.output.trans h.output,Nat.le_trans h.size k.size,fun i hi hl=>(k.same i hi (Nat.lt_of_lt_of_le hl h.size)).trans (h.same i hi hl)⟩
theorem Hold.mono {Kp Kq:Nat→Prop} {A C:World} (h:Hold Kp A C) (hq:∀ k,Kq k→k<A.heap.size→Kp k):Hold Kq A C:=⟨h.os,h.tape,h.output,h.size,fun k hk hl=>h.same k (hq k hk hl) hl⟩
theorem Hold.of_below {Kp:Nat→Prop} {B:Nat} {A C:World} (h:Below B A C) (hq:∀ k,Kp k→k<A.heap.size→k<B):Hold Kp A C:=⟨h.os,h.tape,h.output,h.size,fun k hk hl=>h.block k (hq k hk hl)⟩
theorem Hold.to_below {B:Nat} {A C:World} (h:Hold (fun k=>k<B) A C) (hB:B≤A.heap.size):Below B A C:=⟨h.os,h.tape,h.output,h.size,fun k hk=>h.same k hk (by omega)⟩
theorem Hold.cell {Kp:Nat→Prop} {A C:World} (h:Hold Kp A C) {p:Addr} (hp:Kp p.block) (hl:p.block<A.heap.size):C.cell? p=A.cell? p:=World.cell?_of_block (w:=A) (h.same p.block hp hl)
def SeqOf {α:Type} (n:Nat) (P:Program) (g:Nat) (lb:Array Value) (See:α→Array Value→World→Prop) (Keep:Nat→Prop) (L:List α) (w:World):Prop :=
 ∀ (l:Nat) (J Jx:List α→World→Prop) (W:World),Below w.heap.size w W→Low W.heap.size J →
  (∀ pre x post vs W1,L=pre++x::post→See x vs W1→J pre W1→YieldAt Fence.wide (n-1) P l vs W1 fun e W' =>
   (e=.returned (.bool true)∧J (pre++[x]) W'∧Hold (fun k=>(Keep k∧k<w.heap.size)∨W.heap.size≤k) W1 W') ∨
   (e=.returned (.bool false)∧Jx (pre++[x]) W'∧Hold (fun k=>(Keep k∧k<w.heap.size)∨W.heap.size≤k) W1 W')) →
  J [] W →
  CallsIn Fence.wide n P g (#[.func (.yield l) #[] #[]]++lb) W fun e W'=>(∃ v,e=.returned v)∧(J L W'∨(∃ pre,Jx pre W'))
theorem putObj_below {B:Nat} (W:World) (l:Nat) (o:Obj) (h:B≤l) (hl:l<W.heap.size):Below B W (W.putObj l o) :=
 (Below.refl B W).grown (grownBy_putObj' W l o) (by omega) (fun k e=>by cases e;exact h)
def roundPostLow {α:Type} (M:Nat→Prop) (I:List α→World→Prop) (Ix:Code→List α→World→Prop) (xs:List α) (W:World):Exit→Act→World→Prop
 | .normal,_,W'=>Hold M W W'∧I xs W'
 | .ret,_,W'=>Hold M W W'∧Ix .ret xs W'
 | .exit id,_,W'=>Hold M W W'∧Ix (.exit id) xs W'
 | .goto t,_,W'=>Hold M W W'∧Ix (.goto t) xs W'
 | .panic _,_,_=>False
 | .outgrown,_,_=>False
variable {n:Nat} {P:Program}
theorem range_of {α:Type} {g:Operand} {ps:Array Tmp} {assign body:Code} {Q:Exit→Act→World→Prop} {a:Act} {w:World}
  {gf:Nat} {lb:Array Value} (hg:a.eval g=.func (.func gf) #[] lb) (eg:∀ args w,(callFunc gf args).run P w=.ok (.enter gf args) w)
  {See:α→Array Value→World→Prop} {Keep:Nat→Prop} {L:List α} {w0:World} (hseq:SeqOf (n-1) P gf lb See Keep L w0) (hb0:Below w0.heap.size w0 w)
  (hps:∀ x vs W,See x vs W→vs.size=ps.size)
  (I:List α→World→Prop) (Ix:Code→List α→World→Prop) (hI:Low w.heap.size I) (hIx:∀ c s W r,Ix c s W→Ix c s (W.putObj (w.heap.size+1) (.loop r))) (h0:I [] w)
  (hround:∀ (l:Nat) (pre:List α) (x:α) (post:List α) (vs:Array Value) (W:World),w.heap.size<l→l<W.heap.size→(∃ o:Obj,W.heap[l]?=some o∧o.isCells=false)→L=pre++x::post→See x vs W→I pre W →
   assign.wpIn (Fence.wide.inRound l) (n-1-1) P (Exit.then (fun a' Wa=>Below W.heap.size W Wa∧∀ Wb,Wa.grownBy Wb (some l)→Wb.heap.size=Wa.heap.size→I pre Wb →
     body.wpIn (Fence.wide.inRound l) (n-1-1) P (roundPostLow (fun k=>(Keep k∧k<w.heap.size)∨(w.heap.size≤k∧k<W.heap.size)) I Ix (pre++[x]) Wb) a' Wb) (fun _ _ _=>False))
    { tmps:=(ps.zip vs).foldl (fun t (p,v)=>t.setIfInBounds p v) a.tmps,defers:=[] } W)
  (hdone:∀ (D:Nat) (W:World),D=w.heap.size→I L W→W.heap[D]?=some (.deferred (some []))→Q .normal { a with defers:={ target:=.collected D,args:=#[] }::a.defers } W)
  (hstop:∀ (D:Nat) (c:Code) (pre:List α) (W:World),D=w.heap.size→Ix c pre W→W.heap[D]?=some (.deferred (some []))→c.wpIn Fence.wide n P Q { a with defers:={ target:=.collected D,args:=#[] }::a.defers } W) :
  (Code.rangeFunc g ps assign body).wpIn Fence.wide n P Q a w:=by
 refine wpIn_rangeFunc fun fn _=>?_;generalize hrec:(fun (st:LoopState) (pe:Option Code)=>({ state:=st,pending:=pe,fn,tmps:=a.tmps,params:=ps,assign,body,defers:=w.heap.size }:Loop))=rec;generalize hW1:(w.alloc (.deferred (some []))).alloc (.loop (rec .ready none))=W1;have hs1:W1.heap.size=w.heap.size+2:=by rw [← hW1];simp
 have hbw:Below w.heap.size w W1:=by rw [← hW1];exact ((Below.refl _ w).alloc (Nat.le_refl _) _).alloc (by simp) _
 have hL:W1.heap[w.heap.size+1]?=some (.loop (rec .ready none)):=by
  have:=World.alloc_heap_new (w.alloc (.deferred (some []))) (.loop (rec .ready none));rw [World.size_alloc] at this;rw [← hW1];exact this
 have hK:W1.heap[w.heap.size]?=some (.deferred (some [])):=by
  rw [← hW1,Below.heap_alloc _ _ _ (by simp)];exact World.alloc_heap_new w _
 refine ⟨w.heap.size+1,[{ target:=.collected w.heap.size,args:=#[] }],W1,{ target:=.fn (.func gf) lb,args:=#[.func (.yield (w.heap.size+1)) #[] #[]] },W1,gf,
  #[.func (.yield (w.heap.size+1)) #[] #[]]++lb,W1,?_,?_,(fun _ _=>trivial),?_,(fun h=>by cases h),?_⟩
 ·rw [← hW1,← hrec];exact run_enterLoop_outer _ _ _ _ _
 ·simp only [resolve,hg];simp [go_sem]
 ·simp [invoke,go_sem,eg]
 have book:∀ {st:LoopState} {pe:Option Code} {W W':World},(W.heap[w.heap.size+1]?=some (.loop (rec st pe))∧W.heap[w.heap.size]?=some (.deferred (some [])))→Below W1.heap.size W W' →
   W'.heap[w.heap.size+1]?=some (.loop (rec st pe))∧W'.heap[w.heap.size]?=some (.deferred (some [])):=fun h hb =>
  ⟨(hb.block _ (by omega)).trans h.1,(hb.block _ (by omega)).trans h.2⟩
 have turn:∀ {st:LoopState} {pe:Option Code} {W:World} (r:Loop),(W.heap[w.heap.size+1]?=some (.loop (rec st pe))∧W.heap[w.heap.size]?=some (.deferred (some []))) →
   w.heap.size+1<W.heap.size∧Below w.heap.size W (W.putObj (w.heap.size+1) (.loop r))∧(W.putObj (w.heap.size+1) (.loop r)).heap[w.heap.size+1]?=some (.loop r)∧(W.putObj (w.heap.size+1) (.loop r)).heap[w.heap.size]?=some (.deferred (some [])):=fun r h=>by
  have hlt:=(Array.getElem?_eq_some_iff.1 h.1).1;exact ⟨hlt,putObj_below _ _ _ (by omega) hlt,World.putObj_heap_same hlt,(World.putObj_heap_other (by omega)).trans h.2⟩
 have key:=hseq (w.heap.size+1)
  (fun pre W=>I pre W∧W.heap[w.heap.size+1]?=some (.loop (rec .ready none))∧W.heap[w.heap.size]?=some (.deferred (some [])))
  (fun pre W=>∃ c,Ix c pre W∧W.heap[w.heap.size+1]?=some (.loop (rec .done (some c)))∧W.heap[w.heap.size]?=some (.deferred (some [])))
  W1 (hb0.trans (hbw.mono hb0.size)) (fun s W W' hs hb=>⟨hI s W W' hs.1 (hb.mono (by omega)),book hs.2 hb⟩)
  ?_ ⟨hI _ _ _ h0 hbw,hL,hK⟩
 ·refine key.mono ?_;rintro e W2 ⟨⟨v,rfl⟩,(⟨hi,hbk⟩ | ⟨pre,c,hi,hbk⟩)⟩
  ·obtain ⟨_,hb,_,hk⟩:=turn (rec .exhausted none) hbk;have he:(Instr.endLoop (w.heap.size+1)).run P W2=.ok none (W2.putObj (w.heap.size+1) (.loop (rec .exhausted none))):=by subst hrec;exact run_endLoop (P:=P) hbk.1 (by simp)
   exact ⟨none,_,he,hdone _ _ rfl (hI _ _ _ hi hb) hk⟩
  ·obtain ⟨_,hb,_,hk⟩:=turn (rec .exhausted (some c)) hbk;have he:(Instr.endLoop (w.heap.size+1)).run P W2=.ok (some c) (W2.putObj (w.heap.size+1) (.loop (rec .exhausted (some c)))):=by subst hrec;exact run_endLoop (P:=P) hbk.1 (by simp)
   exact ⟨some c,_,he,hstop _ c pre _ rfl (hIx _ _ _ _ hi) hk⟩
 ·rintro pre x post vs W hL hSee ⟨hi,hbk⟩;have hlt:=(Array.getElem?_eq_some_iff.1 hbk.1).1;have hy:(Instr.yield (w.heap.size+1) vs).run P W=.ok (.round (w.heap.size+1) fn ((ps.zip vs).foldl (fun t (p,v)=>t.setIfInBounds p v) a.tmps) assign body) W:=by subst hrec;exact run_yield (P:=P) (args:=vs) hbk.1 (hps _ _ _ hSee)
  refine ⟨fn,_,assign,body,hy,roundIn_of_wpIn trivial (wpIn_mono (hround _ pre x post vs W (by omega) hlt ⟨_,hbk.1,rfl⟩ hL hSee hi) ?_)⟩;rintro e a' Wa hp;cases e with
  | normal =>
   obtain ⟨hba,hbody⟩:=hp;have hbk':Wa.heap[w.heap.size+1]?=some (.loop (rec .ready none))∧Wa.heap[w.heap.size]?=some (.deferred (some [])):=⟨(hba.block _ hlt).trans hbk.1,(hba.block _ (by omega)).trans hbk.2⟩;have hia:I pre Wa:=hI _ _ _ hi (hba.mono (by omega));obtain ⟨hlt',hb2,hl2,hk2⟩:=turn (rec .busy none) hbk';have hbeg:(Instr.beginRound (w.heap.size+1)).run P Wa=.ok () (Wa.putObj (w.heap.size+1) (.loop (rec .busy none))):=by subst hrec;exact run_beginRound (P:=P) hbk'.1 rfl
   refine ⟨_,hbeg,wpIn_mono (hbody _ (grownBy_putObj' _ _ _) (by simp) (hI _ _ _ hia hb2)) ?_⟩;have fin:∀ (jump:Option Code) (W3:World),Hold (fun k=>(Keep k∧k<w.heap.size)∨(w.heap.size≤k∧k<W.heap.size)) (Wa.putObj (w.heap.size+1) (.loop (rec .busy none))) W3 →
     (Instr.endRound (w.heap.size+1) jump).run P W3=.ok (.bool jump.isNone) (W3.putObj (w.heap.size+1) (.loop (rec (if jump.isNone then .ready else .done) jump))) ∧
     Below w.heap.size W3 (W3.putObj (w.heap.size+1) (.loop (rec (if jump.isNone then .ready else .done) jump))) ∧
     (W3.putObj (w.heap.size+1) (.loop (rec (if jump.isNone then .ready else .done) jump))).heap[w.heap.size+1]?=some (.loop (rec (if jump.isNone then .ready else .done) jump)) ∧
     (W3.putObj (w.heap.size+1) (.loop (rec (if jump.isNone then .ready else .done) jump))).heap[w.heap.size]?=some (.deferred (some [])):=fun jump W3 hk3=>by
    have hl3:=(hk3.same (w.heap.size+1) (.inr ⟨by omega,hlt⟩) (by simp;omega)).trans hl2;have hr:(Instr.endRound (w.heap.size+1) jump).run P W3=.ok (.bool jump.isNone) (W3.putObj (w.heap.size+1) (.loop (rec (if jump.isNone then .ready else .done) jump))):=by subst hrec;exact run_endRound (P:=P) jump hl3
    obtain ⟨_,b,c,d⟩:=turn (rec (if jump.isNone then .ready else .done) jump) ⟨hl3,(hk3.same w.heap.size (.inr ⟨Nat.le_refl _,by omega⟩) (by simp;omega)).trans hk2⟩;exact ⟨hr,b,c,d⟩
   have hold:∀ (r:Loop) (W3:World),Hold (fun k=>(Keep k∧k<w.heap.size)∨(w.heap.size≤k∧k<W.heap.size)) (Wa.putObj (w.heap.size+1) (.loop (rec .busy none))) W3 →
     Hold (fun k=>(Keep k∧k<w0.heap.size)∨W1.heap.size≤k) W (W3.putObj (w.heap.size+1) (.loop r)):=fun r W3 hk3=>by
    refine ⟨hk3.os.trans hba.os,hk3.tape.trans hba.tape,hk3.output.trans hba.output,Nat.le_trans hba.size (Nat.le_trans (by simp) (Nat.le_trans hk3.size (by simp))),fun k hk hl=>?_⟩;have hne:k≠w.heap.size+1:=by have:=hb0.size;rcases hk with ⟨_,h⟩ | h <;> omega
    refine (World.putObj_heap_other hne).trans ((hk3.same k ?_ (by have:=hba.size;simp;omega)).trans ((World.putObj_heap_other hne).trans (hba.block k hl)));rcases hk with ⟨h1,h2⟩ | h
    ·exact .inl ⟨h1,by have:=hb0.size;omega⟩
    ·exact .inr ⟨by omega,hl⟩
   rintro e a3 W3 hp;cases e with
   | normal =>
    obtain ⟨hk3,hi3⟩:=hp;obtain ⟨hr,hb4,hbk4⟩:=fin none W3 hk3;exact ⟨_,_,hr,.inl ⟨rfl,⟨hI _ _ _ hi3 hb4,hbk4⟩,hold _ _ hk3⟩⟩
   | ret =>
    obtain ⟨hr,hb4,hbk4⟩:=fin (some .ret) W3 hp.1;exact ⟨_,_,hr,.inr ⟨rfl,⟨.ret,hIx _ _ _ _ hp.2,hbk4⟩,hold _ _ hp.1⟩⟩
   | exit id =>
    obtain ⟨hr,hb4,hbk4⟩:=fin (some (.exit id)) W3 hp.1;exact ⟨_,_,hr,.inr ⟨rfl,⟨.exit id,hIx _ _ _ _ hp.2,hbk4⟩,hold _ _ hp.1⟩⟩
   | goto t =>
    obtain ⟨hr,hb4,hbk4⟩:=fin (some (.goto t)) W3 hp.1;exact ⟨_,_,hr,.inr ⟨rfl,⟨.goto t,hIx _ _ _ _ hp.2,hbk4⟩,hold _ _ hp.1⟩⟩
   | panic ch=>exact hp.elim
   | outgrown=>exact hp.elim
  | ret=>exact hp.elim
  | exit id=>exact hp.elim
  | goto t=>exact hp.elim
  | panic ch=>exact hp.elim
  | outgrown=>exact hp.elim
end Go.Proofs.YtadnggecnjdhiaaGreat
namespace Go.Proofs.YtadnggecnjdhiaaGreat
open Go.RowKit Tx
variable {n:Nat} {P:Program} {ops:Array Oper} {Q:Exit→Act→World→Prop}
def noDefer (ops:List Oper):Bool:=ops.all fun o=>match o.op with | .defer _=>false | _=>true
theorem noDefer_spec {l:List Oper} (h:noDefer l=true):∀ (i:Nat) (o:Oper),l.toArray[i]?=some o→∀ c,o.op≠.defer c:=by
 intro i o ho c hc;have hm:o∈l:=by
  rw [List.getElem?_toArray] at ho;exact List.mem_of_getElem? ho
 have:=(List.all_eq_true.1 h) o hm;rw [hc] at this;cases this
theorem wpOpIn_round {i:Nat} {K:Act→World→Prop} {a:Act} {w:World} (l:Nat) (hd:∀ o,ops[i]?=some o→∀ c,o.op≠.defer c) (h:wpOpIn Fence.wide n P ops Q i K a w):wpOpIn (Fence.wide.inRound l) n P ops Q i K a w:=by
 unfold wpOpIn at *;cases ho:ops[i]? with
 | none=>rw [ho] at h;exact h
 | some o =>
  rw [ho] at h;simp only at h ⊢;split
  ·rename_i hw
   rw [if_pos hw] at h;unfold Oper.wpIn at *;refine ⟨h.1,?_⟩;have h2:=h.2;rw [show (Fence.wide.inRound l).round=some l from rfl,Oper.semAt_eq _ _ _ (hd o ho)];rw [show Fence.wide.round=none from rfl,Oper.semAt_none] at h2;exact h2
  ·rename_i hw
   rw [if_neg hw] at h;exact h
theorem wpAnyIn_round {md:Region.Mode} (l:Nat) (hd:∀ (i:Nat) o,ops[i]?=some o→∀ c,o.op≠.defer c):∀ (fuel:Nat) (listed:Array Bool) (a:Act) (w:World),
  wpAnyIn Fence.wide n P md ops Q fuel listed a w→wpAnyIn (Fence.wide.inRound l) n P md ops Q fuel listed a w
 | 0,_,_,_,h=>h
 | fuel+1,_,_,_,h=>⟨h.1,fun i hi=>wpOpIn_round l (hd i) (wpOpIn_mono (fun a' w' h'=>wpAnyIn_round l hd fuel _ a' w' h') (h.2 i hi))⟩
end Go.Proofs.YtadnggecnjdhiaaGreat
namespace Go.Proofs.YtadnggecnjdhiaaGreat.Rg
open Go Go.RowKit Go.Proofs.YtadnggecnjdhiaaGreat.Rs
variable {P:Program} {ops:Array Oper}
theorem wpAnyIn_of_seq {m:Nat} {md:Region.Mode} {Q':Exit→Act→World→Prop}:∀ (l:List Oper) (k:Nat) (listed:Array Bool) (a:Act) (w:World),(∀ j,l[j]?=ops[k+j]?) →
  Region.seqB md ops l.length k listed=true→wpListIn Fence.wide m P ops Q' l a w→wpAnyIn Fence.wide m P md ops Q' l.length listed a w
 | [],_,_,_,_,_,hB,h=>⟨by simpa [Region.seqB] using hB,h⟩
 | o::l,k,listed,a,w,hl,hB,h=>by
  have h0:ops[k]?=some o:=by simpa using (hl 0).symm
  simp only [List.length_cons,Region.seqB,Bool.and_eq_true,decide_eq_true_eq] at hB;refine ⟨fun h1=>(by rw [hB.1] at h1;cases h1),fun i hi=>?_⟩;rw [hB.1] at hi;have hik:i=k:=by simpa using hi
  subst hik;have hw:wpOpIn Fence.wide m P ops Q' i (wpListIn Fence.wide m P ops Q' l) a w:=by unfold wpOpIn;simp only [h0];exact h
  exact wpOpIn_mono (fun a' w' h'=>wpAnyIn_of_seq l (i+1) _ a' w' (fun j=>by have:=hl (j+1);simpa [Nat.add_assoc,Nat.add_comm 1 j] using this) hB.2 h') hw
section main
variable {n:Nat} {dl:List (List Nat)} {a0:Act} {w0:World} {Q:Exit→Act→World→Prop}
theorem head_allI {m:Nat} {G:World→World→Prop} (hG:IsGr G) {Spec:Nat→List Value→Value→World→Prop} (g:Nat)
  (hsel:∀ (j:Nat) (o:Oper) cs b,ops[j]?=some o→o.op≠.select cs b) (hn:n≤ops.size)
  (hsink:n=ops.size∨(Region.sinkB .any ops n=true∧Region.chainB .any ops n=true))
  (hlow:∀ i,i<n→∀ o,ops[i]?=some o→∀ e∈o.after,Region.binds .any e=true→e.on<i)
  (hdl:∀ j,j<n→∀ k∈dl.getD j [],k<n∧k∈depsOf ops n j)
  (hlook:∀ i,i<n→∀ o,ops[i]?=some o→∀ k,k<n→∀ d,dstOf ops k=some d→(d∈o.looksAt ops→k∈dl.getD i []∨i∈depsOf ops n k∨i=k)∧True)
  (hnd:∀ j k,j<n→k<n→j≠k→∀ d,dstOf ops k=some d→dstOf ops j≠some d)
  (stable:∀ i L v w w',Spec i L v w→G w w'→Spec i L v w')
  (step:∀ i o V w,ops[i]?=some o→i<n→G w0 w→(∀ k∈dl.getD i [],Spec k ((dl.getD k []).map V) (V k) w)→StepOk G P ops o (canon ops V a0 (dl.getD i [])) w (Spec i ((dl.getD i []).map V)))
  (fin:∀ V listed a w,Inv G ops n dl Spec a0 w0 V listed a w→(∀ k,k<n→listed.getD k false=true)→wpAnyIn Fence.wide m P .any ops Q g listed a w) :
  ∀ (f:Nat) (V:Nat→Value) (listed:Array Bool) (a:Act) (w:World),left n listed=f→Inv G ops n dl Spec a0 w0 V listed a w→wpAnyIn Fence.wide m P .any ops Q (f+g) listed a w:=by
 intro f
 induction f with
 | zero=>intro V listed a w hf inv;rw [Nat.zero_add];exact fin V listed a w inv (left_zero hf)
 | succ f ih =>
  intro V listed a w hf inv;have hun:∃ i,i<n∧listed.getD i false=false∧∀ j,j<i→listed.getD j false=true:=by
   have hex:∃ i,i<n∧listed.getD i false=false:=by
    apply Classical.byContradiction;intro hno;have:left n listed=0:=by
     unfold left;rw [List.length_eq_zero_iff,List.filter_eq_nil_iff];intro i hi;cases hv:listed.getD i false with
     | true=>simp
     | false=>exact absurd ⟨i,List.mem_range.1 hi,hv⟩ hno
    omega
   obtain ⟨i,h1,h2⟩:=hex
   induction i using Nat.strongRecOn with
   | _ i ihi =>
    by_cases h3:∀ j,j<i→listed.getD j false=true
    ·exact ⟨i,h1,h2,h3⟩
    ·simp only [Classical.not_forall] at h3;obtain ⟨j,hj,hj2⟩:=h3;exact ihi j hj (by omega) (by simpa using hj2)
  obtain ⟨i0,hi0,hi0u,hi0m⟩:=hun;have hready0:i0∈Region.ready .any ops listed:=by
   rw [mem_ready];have hlt:i0<ops.size:=by omega
   refine ⟨getD_in (by rw [inv.head.size];exact hlt) hi0u,ops[i0],Array.getElem?_eq_getElem hlt,fun e he hb=>hi0m _ (hlow i0 hi0 _ (Array.getElem?_eq_getElem hlt) e he hb)⟩
  rw [show f+1+g=(f+g)+1 by omega];refine ⟨fun h=>(by rw [h] at hready0;cases hready0),fun i hi=>?_⟩;obtain ⟨hiu,o,ho,hall⟩:=mem_ready.1 hi;have hiu':=getD_both hiu;have hilt:i<ops.size:=(Array.getElem?_eq_some_iff.1 ho).1;have hin:i<n:=by
   rcases hsink with h | ⟨h1,h2⟩
   ·omega
   ·by_cases hns:n<ops.size
    ·rcases Nat.lt_or_ge i n with h | h
     ·exact h
     ·exact absurd hi (tail_waits h1 h2 hns inv.head _ i0 rfl hi0 (getD_in (by rw [inv.head.size];omega) hi0u) i h)
    ·omega
  have hso:=step i o V w ho hin inv.gr (fun k hk=>inv.spec k (hdl i hin k hk).1 (depsOf_listed inv.head.closed n i (fun o' ho'=>by rw [ho] at ho';cases ho';exact hall) k (hdl i hin k hk).2));have hlk:=inv.looks ho hin hiu' hall (hdl i hin) (hlook i hin o ho) hnd;have hw:=wanted_congr (ops:=ops) o hlk;have hex:=exec_congr (ops:=ops) o (fun cs b=>hsel i o cs b ho) hlk;have hnext:∀ v w',G w w'→Spec i ((dl.getD i []).map V) v w'→wpAnyIn Fence.wide m P .any ops Q (f+g) (listed.setIfInBounds i true) (a.put o.dst v) w':=fun v w' hg hs =>
   ih _ _ _ _ (by have:=left_set (n:=n) hin (by rw [inv.head.size];exact hilt) hiu';omega) (inv.step hG ho hin hiu' hi hdl hnd stable hg hs)
  unfold StepOk at hso;rw [← hw] at hso;unfold wpOpIn;simp only [ho];by_cases hwt:Region.wanted o (yielded ops a.tmps)=true
  ·rw [if_pos hwt] at hso ⊢;unfold GrowAt at hso;unfold Oper.wpIn;rw [show Fence.wide.round=none from rfl,Oper.semAt_none];refine ⟨fun _ _=>trivial,?_⟩;rw [← hex] at hso;generalize (execOp a.eval o).run P w=r at hso;cases r with
   | halt x w'=>exact hso.elim
   | ok nx w' =>
    cases nx with
    | value v=>exact hnext v w' hso.1 hso.2
    | skip=>exact hnext undef w' hso.1 hso.2
    | enter fn args =>
     refine ⟨(fun h=>by cases h),(callsIn_wide.2 hso.2).mono ?_⟩;rintro e w'' ⟨v,rfl,h1,h2⟩;exact hnext v w'' (hG.trans hso.1 h1) h2
    | _=>exact hso.elim
  ·rw [if_neg hwt] at hso ⊢;exact ⟨fun _ _=>trivial,hnext undef w (hG.refl _) hso⟩
theorem region_specI {m:Nat} (lp:Nat) {l:List Oper} (hdf:noDefer l=true) {G:World→World→Prop} (hG:IsGr G) {id:Nat} {w:World} {a0:Act} {Q:Exit→Act→World→Prop} (n:Nat) (dl:List (List Nat)) (hm:P.follows .mixedOrders=true) (hB:shapeB l.toArray n dl=true)
  (Spec:Nat→List Value→Value→World→Prop) (stable:∀ i L v w w',Spec i L v w→G w w'→Spec i L v w')
  (step:∀ i o V w',l[i]?=some o→i<n→G w w'→(∀ k∈dl.getD i [],Spec k ((dl.getD k []).map V) (V k) w')→StepOk G P l.toArray o (canon l.toArray V a0 (dl.getD i [])) w' (Spec i ((dl.getD i []).map V)))
  (fin:∀ V w',G w w'→(∀ k,k<n→Spec k ((dl.getD k []).map V) (V k) w')→wpListIn Fence.wide m P l.toArray Q (l.drop n) (canon l.toArray V a0 (List.range n)) w') :
  (Code.region id l.toArray true).wpIn (Fence.wide.inRound lp) m P Q a0 w:=by
 simp only [shapeB,Bool.and_eq_true,decide_eq_true_eq,Bool.or_eq_true] at hB;obtain ⟨⟨⟨⟨⟨hsel,hn⟩,hdlen⟩,hsink⟩,hall⟩,hseq⟩:=hB;rw [List.all_eq_true] at hall;have hops:∀ i,i<n→∃ o,l.toArray[i]?=some o∧(∀ e∈o.after,Region.binds .any e=true→e.on<i)∧(∀ k∈dl.getD i [],k<n∧k∈depsOf l.toArray n i) ∧
   (∀ k,k<n→∀ d,dstOf l.toArray k=some d→(d∈o.looksAt l.toArray→k∈dl.getD i []∨i∈depsOf l.toArray n k∨i=k)∧(k≠i→dstOf l.toArray i≠some d)):=by
  intro i hi;have h:=hall i (List.mem_range.2 hi);cases ho:l.toArray[i]? with
  | none=>rw [ho] at h;cases h
  | some o =>
   rw [ho] at h;simp only [Bool.and_eq_true,List.all_eq_true] at h;obtain ⟨⟨h1,h2⟩,h3⟩:=h;refine ⟨o,rfl,fun e he hb=>?_,fun k hk=>?_,fun k hk d hd=>?_⟩
   ·have:=h1 e (by simpa using he);rw [hb] at this;simpa using this
   ·have:=h2 k hk
    simpa using this
   ·have:=h3 k (List.mem_range.2 hk);rw [hd] at this;simp only [Bool.and_eq_true,Bool.or_eq_true,Bool.not_eq_true',beq_iff_eq,decide_eq_true_eq,List.contains_iff_mem] at this;refine ⟨fun hm=>?_,fun hne=>?_⟩
    ·rcases this.1 with ((h | h) | h) | h
     ·rw [show (o.looksAt l.toArray).contains d=true from List.contains_iff_mem.2 hm] at h;cases h
     ·exact .inl h
     ·exact .inr (.inl h)
     ·exact .inr (.inr h)
    ·rcases this.2 with h | h
     ·exact absurd h hne
     ·exact h
 have hnd:∀ j k,j<n→k<n→j≠k→∀ d,dstOf l.toArray k=some d→dstOf l.toArray j≠some d:=fun j k hj hk hne d hd=>by
  obtain ⟨o,_,_,_,h⟩:=hops j hj;exact (h k hk d hd).2 (fun e=>hne e.symm)
 refine wpIn_region_any hm (wpAnyIn_round lp (noDefer_spec hdf) _ _ _ _ ?_);have inv0:Inv G l.toArray n dl Spec a0 w (fun _=>undef) (Array.replicate l.toArray.size false) a0 { w with drawn:=w.drawn+1 } :=
  ⟨⟨by simp,fun j oj _ hl=>(by rw [getD_replicate_false] at hl;cases hl),fun t _ ht=>getD_in (by simpa using ht) (getD_replicate_false _ _)⟩,rfl,rfl,
   fun k _ hl=>(by rw [getD_replicate_false] at hl;cases hl),fun _ _=>rfl,fun k _ hl=>(by rw [getD_replicate_false] at hl;cases hl),hG.drew _⟩
 have hleft:left n (Array.replicate l.toArray.size false)=n:=by
  unfold left;rw [List.filter_eq_self.2 (fun i _=>by rw [getD_replicate_false];rfl)];simp
 have:=head_allI (m:=m) hG (P:=P) (Q:=Q) (Spec:=Spec) (dl:=dl) (a0:=a0) (w0:=w) (l.toArray.size-n) (Region.noSelect_spec hsel) hn (by rcases hsink with h | h;exact .inl h;exact .inr h)
  (fun i hi o ho e he hb=>by obtain ⟨o',ho',h1,_⟩:=hops i hi;rw [ho] at ho';cases ho';exact h1 e he hb)
  (fun j hj=>by obtain ⟨_,_,_,h,_⟩:=hops j hj;exact h)
  (fun i hi o ho k hk d hd=>by obtain ⟨o',ho',_,_,h⟩:=hops i hi;rw [ho] at ho';cases ho';exact ⟨(h k hk d hd).1,trivial⟩)
  hnd stable (fun i o V w' ho=>step i o V w' (by simpa using ho)) ?_ n _ _ _ _ hleft inv0
 ·rwa [show n+(l.toArray.size-n)=l.toArray.size by omega] at this
 ·intro V listed a w' inv hl;have hld:listed=((List.range l.toArray.size).map (fun i=>decide (i<n))).toArray:=by
   apply Array.ext
   ·rw [inv.head.size];simp
   ·intro i h1 h2;have hi:i<l.toArray.size:=by rw [inv.head.size] at h1;exact h1
    have e2:((List.range l.toArray.size).map (fun i=>decide (i<n))).toArray[i]=decide (i<n):=by simp
    rw [e2];by_cases hin:i<n
    ·have:=hl i hin;simp only [hin,decide_true]
     simpa [h1] using this
    ·have:=inv.head.tail i (by omega) hi;simp only [hin,decide_false]
     simpa [h1] using this
  have hact:a=canon l.toArray V a0 (List.range n):=by
   have ht:a.tmps=(canon l.toArray V a0 (List.range n)).tmps:=by
    apply Array.ext_getElem?;intro d;by_cases hlt:d<a0.tmps.size
    ·by_cases hex:∃ k,k<n∧dstOf l.toArray k=some d
     ·obtain ⟨k,hk,hd⟩:=hex;rw [inv.slot k hk (hl k hk) d hd hlt,canon_in V hd _ _ (List.mem_range.2 hk) (fun j hj hjk=>hnd j k (List.mem_range.1 hj) hk hjk d hd) hlt]
     ·rw [inv.other d (fun k hk _ e=>hex ⟨k,hk,e⟩),canon_out V _ _ (fun k hk e=>hex ⟨k,List.mem_range.1 hk,e⟩)]
    ·have e1:a.tmps[d]?=none:=Array.getElem?_eq_none (by rw [inv.size];exact Nat.le_of_not_lt hlt);have e2:(canon l.toArray V a0 (List.range n)).tmps[d]?=none:=Array.getElem?_eq_none (by rw [size_canon];exact Nat.le_of_not_lt hlt);rw [e1,e2]
   have hdf:a.defers=(canon l.toArray V a0 (List.range n)).defers:=by rw [inv.defers,defers_canon]
   obtain ⟨t,d⟩:=a;generalize canon l.toArray V a0 (List.range n)=b at ht hdf;obtain ⟨t',d'⟩:=b;dsimp only at ht hdf;rw [ht,hdf]
  have hf:=fin V w' inv.gr (fun k hk=>inv.spec k hk (hl k hk));rw [← hact] at hf;have hdl:(l.drop n).length=l.toArray.size-n:=by simp
  have hsq:=wpAnyIn_of_seq (m:=m) (P:=P) (md:=.any) (Q':=Q) (l.drop n) n listed a w' (fun j=>by simp [List.getElem?_drop]) (by rw [hdl,hld];exact hseq) hf;rwa [hdl] at hsq
theorem region_genI {m:Nat} (lp:Nat) {l:List Oper} (hdf:noDefer l=true) {G:World→World→Prop} (hG:IsGr G) {id:Nat} {w:World} {a0:Act} {Q:Exit→Act→World→Prop} (n:Nat) (dl:List (List Nat)) (ds:List (Option Nat)) (Sp:Nat→List Value→Value→World→Prop) (hm:P.follows .mixedOrders=true) (hB:shapeB l.toArray n dl=true) (hS:slotsB l.toArray n a0.tmps.size dl ds=true)
  (stable:∀ i L v w w',Sp i L v w→G w w'→Sp i L v w')
  (step:genSteps G P ds a0 w dl Sp l 0 dl)
  (fin:∀ V w',G w w'→(∀ k,k<n→Sp k ((dl.getD k []).map V) (V k) w')→wpListIn Fence.wide m P l.toArray Q (l.drop n) (canon l.toArray V a0 (List.range n)) w') :
  (Code.region id l.toArray true).wpIn (Fence.wide.inRound lp) m P Q a0 w:=by
 have hB':=hB;simp only [shapeB,Bool.and_eq_true,decide_eq_true_eq] at hB';obtain ⟨⟨⟨⟨⟨hsel,hn⟩,hdlen⟩,_⟩,hall⟩,_⟩:=hB';rw [List.all_eq_true] at hall;unfold slotsB at hS;rw [List.all_eq_true] at hS;have hdst:∀ i,i<n→dstOf l.toArray i=ds.getD i none∧∀ d,dstOf l.toArray i=some d→d<a0.tmps.size:=fun i hi=>by
  have h:=hS i (List.mem_range.2 hi);simp only [Bool.and_eq_true,beq_iff_eq] at h;refine ⟨h.1.1,fun d hd=>?_⟩;have h2:=h.1.2;rw [← h.1.1,hd] at h2
  simpa using h2
 refine region_specI lp hdf hG n dl hm hB Sp stable (fun i o V w' ho hi hg hs=>?_) fin;have hst:=genSteps_get l 0 dl step i o (dl.getD i []) ho (by simp [List.getElem?_eq_getElem (show i<dl.length by omega)]) V w' hg hs;rw [Nat.zero_add] at hst;have hio:=hall i (List.mem_range.2 hi);have hoo:l.toArray[i]?=some o:=by simpa using ho
 rw [hoo] at hio;simp only [Bool.and_eq_true,List.all_eq_true] at hio;obtain ⟨⟨_,h2⟩,h3⟩:=hio;have hdl:∀ k∈dl.getD i [],k<n:=fun k hk=>by have:=h2 k hk;simp only [Bool.and_eq_true,decide_eq_true_eq] at this;exact this.1
 have hnd:∀ j k,j<n→k<n→j≠k→∀ d,dstOf l.toArray k=some d→dstOf l.toArray j≠some d:=fun j k hj hk hne d hd=>by
  have h:=hall j (List.mem_range.2 hj);cases hoj:l.toArray[j]? with
  | none=>rw [hoj] at h;cases h
  | some oj =>
   rw [hoj] at h;simp only [Bool.and_eq_true,List.all_eq_true] at h;have:=h.2 k (List.mem_range.2 hk);rw [hd] at this;simp only [Bool.and_eq_true,Bool.or_eq_true,beq_iff_eq,decide_eq_true_eq] at this;rcases this.2 with h | h
   ·exact absurd h.symm hne
   ·exact h
 have hslot:∀ t,(canon l.toArray V a0 (dl.getD i [])).eval (.tmp t)=Rs.look ds V a0 (dl.getD i []) (.tmp t):=fun t=>by
  unfold Rs.look;simp only;split
  ·rename_i k hk
   have hkm:=List.mem_of_find?_eq_some hk;have hkd:=List.find?_some hk;simp only [beq_iff_eq] at hkd;have hkn:=hdl k hkm;have e:dstOf l.toArray k=some t:=by rw [(hdst k hkn).1];exact hkd
   have:=canon_in (ops:=l.toArray) V e (dl.getD i []) a0 hkm (fun j hj hjk=>hnd j k (hdl j hj) hkn hjk t e) ((hdst k hkn).2 t e);simp only [Act.eval,Array.getD_eq_getD_getElem?,this,Option.getD_some]
  ·rename_i hk
   have hno:∀ k∈dl.getD i [],dstOf l.toArray k≠some t:=fun k hkm e=>by
    have:=List.find?_eq_none.1 hk k hkm;rw [(hdst k (hdl k hkm)).1] at e;rw [e] at this;exact this (by simp)
   have:=canon_out (ops:=l.toArray) V (d:=t) (dl.getD i []) a0 hno;simp only [Act.eval,Array.getD_eq_getD_getElem?,this]
 have hex:execOp (canon l.toArray V a0 (dl.getD i [])).eval o=execOp (Rs.look ds V a0 (dl.getD i [])) o :=
  execOp_congr o (fun c b=>Region.noSelect_spec hsel i o c b hoo) fun x _=>by
   cases x with
   | tmp t=>exact hslot t
   | _=>rfl
 have hwant:Region.wanted o (yielded l.toArray (canon l.toArray V a0 (dl.getD i [])).tmps)=wantB o V:=by
  unfold Region.wanted wantB;cases hgd:o.guard with
  | none=>rfl
  | some gb =>
   obtain ⟨g,b⟩:=gb;have h:=hS i (List.mem_range.2 hi);rw [hoo] at h;simp only [Option.bind_some,hgd,Bool.and_eq_true,List.contains_iff_mem] at h;obtain ⟨hgm,hgs⟩:=h.2;obtain ⟨t,ht⟩:=Option.isSome_iff_exists.1 hgs;have hgn:=hdl g hgm;have hv:=canon_in (ops:=l.toArray) V ht (dl.getD i []) a0 hgm (fun j hj hjk=>hnd j g (hdl j hj) hgn hjk t ht) ((hdst g hgn).2 t ht);have hy:yielded l.toArray (canon l.toArray V a0 (dl.getD i [])).tmps g=match V g with | .bool x=>some x | _=>none:=by
    unfold yielded;unfold dstOf at ht;simp only [ht,Option.bind_some,hv];cases V g <;> rfl
   simp only [hy];cases V g <;> simp
 unfold StepOk;rw [hwant];by_cases hw:wantB o V=true
 ·rw [if_pos hw] at hst ⊢;unfold GrowL at hst;unfold GrowAt;rw [hex];exact hst
 ·rw [if_neg hw] at hst ⊢;exact hst
end main
theorem qt:IsGr (fun w w':World=>∃ n,w'=w.drewN n):=⟨fun w=>⟨0,rfl⟩,fun ⟨n,h⟩ ⟨m,k⟩=>⟨n+m,by rw [k,h,World.drewN_drewN]⟩,fun w=>⟨1,rfl⟩⟩
end Go.Proofs.YtadnggecnjdhiaaGreat.Rg
namespace Go.Proofs.YtadnggecnjdhiaaGreat
open Go.RowKit Tx
def AskI (F:FuncId) (fi caps:Array Value) (p:Int→Bool) (w:World):Prop:=∀ u:Int,Calls Tryz.prog F (fi++#[.int .i64 u]++caps) w fun e w'=>e=.returned (.bool (p u))∧Below w.heap.size w w'
set_option maxHeartbeats 400000 in
set_option maxRecDepth 100000 in
theorem errIfI_any (F:FuncId) (hF:Entered F) (q:Int→Bool) (xs:List Int) (p:Option Addr) (c:Nat) (n:Int) (w:World) (hl:xs.length≤1000000) (hi:Ints w p xs) (hq:∀ W,Below w.heap.size w W→AskI F #[] #[] q W) :
  Calls Tryz.prog 88 #[.slice p xs.length c,.func (.func F) #[] #[],.int .i64 n] w fun e w'=>e=.returned (.int .i64 (errIf q xs n))∧Below w.heap.size w w':=by
 have HI:=Lib.hid hi;have HQ:=Lib.hid hq;clear hi hq
 go_enter Tryz.func88,Tryz.ntmps88
 go_wp2
 go_loopw [11] (fun i wr=>∃ k:Nat,k≤xs.length∧i=.int .i64 k∧(xs.take k).any q=false∧Below w.heap.size w wr) (fun i _=>xs.length-(intOf i).toNat)
 case atStart=>exact ⟨0,Nat.zero_le _,rfl,rfl,Below.refl _ _⟩
 case round =>
  obtain ⟨k,hk,rfl,hA,hB⟩:=hrel;have HA:=Lib.hid hA;clear hA;by_cases hlt:k<xs.length
  ·obtain ⟨b,o,x,rfl,hb,hxx,c1⟩:=(HI.out.below hB).at hlt;have HX:=Lib.hid hxx;have HB:=Lib.hid hB;have HASK:=Lib.hid (HQ.out _ hB x);have HF:=Lib.hid hF;clear hxx hB hF;go_wp2_with fail
   have hF:=HF.out;rw [hF,Oper.upon_enter];refine HASK.out.mono ?_;rintro e w5 ⟨rfl,hB5⟩;clear HASK;cases hbad:q x with
   | true =>
    have HBAD:=Lib.hid hbad;clear hbad;go_wp2;go_ret;exact ⟨by rw [errIf,if_pos (any_hit 0 hlt _ (by rw [← HX.out];exact HBAD.out))];rfl,join HB.out hB5⟩
   | false =>
    have HBAD:=Lib.hid hbad;clear hbad;go_wp2;go_roundw
    case rel=>exact ⟨k+1,by omega,by go_num,any_snoc 0 hlt _ HA.out (by rw [← HX.out];exact HBAD.out),join HB.out hB5⟩
    case measure=>simp [intOf];omega
  ·obtain rfl:k=xs.length:=by omega
   go_wp2;go_ret;exact ⟨by have:=HA.out;rw [List.take_length] at this;rw [errIf,this];rfl,hB⟩
def firstErr (xs:List Int):Int:=(xs.find? (· != 0)).getD 0
theorem firstErr_hit {xs:List Int} {k:Nat} (h:k<xs.length) (h1:(xs.take k).any (· != 0)=false) (h2:(xs.getD k 0 != 0)=true):firstErr xs=xs.getD k 0:=by
 have hs:xs=xs.take k++xs.getD k 0::xs.drop (k+1):=by
  have:=List.take_append_drop k xs;rw [List.drop_eq_getElem_cons h] at this;rw [show xs.getD k 0=xs[k] from by simp [h]];exact this.symm
 unfold firstErr;rw [hs,List.find?_append];rw [show (xs.take k).find? (· != 0)=none from by rw [List.find?_eq_none];intro x hx;have:=List.any_eq_false.1 h1 x hx;simpa using this];rw [← hs,Option.none_or,List.find?_cons_of_pos (p:=fun x=>x != 0) h2];rfl
theorem firstErr_none {xs:List Int} (h1:xs.any (· != 0)=false):firstErr xs=0:=by
 unfold firstErr;rw [show xs.find? (· != 0)=none from by rw [List.find?_eq_none];intro x hx;have:=List.any_eq_false.1 h1 x hx;simpa using this];rfl
set_option maxHeartbeats 400000 in
theorem firstError_any (xs:List Int) (p:Option Addr) (c:Nat) (w:World) (hl:xs.length≤1000000) (hi:Ints w p xs) :
  Calls Tryz.prog 75 #[.slice p xs.length c] w fun e w'=>e=.returned (.int .i64 (firstErr xs))∧w=w':=by
 have HI:=Lib.hid hi;clear hi
 go_enter Tryz.func75,Tryz.ntmps75
 go_wp2
 go_loop [7] (fun i=>∃ k:Nat,k≤xs.length∧i=.int .i64 k∧(xs.take k).any (· != 0)=false) (fun i=>xs.length-(intOf i).toNat)
 case atStart=>exact ⟨0,Nat.zero_le _,rfl,rfl⟩
 case round =>
  obtain ⟨k,hk,rfl,hA⟩:=hrel;have HA:=Lib.hid hA;clear hA;by_cases hlt:k<xs.length
  ·obtain ⟨b,o,x,rfl,hb,hxx,c1⟩:=HI.out.at hlt;have HX:=Lib.hid hxx;clear hxx;by_cases hbad:(x != 0)=true
   ·go_wp2;go_ret;exact ⟨ret_int (by rw [firstErr_hit hlt HA.out (by rw [← HX.out];exact hbad),HX.out]),rfl⟩
   ·have hbad':(x != 0)=false:=by simpa using hbad
    clear hbad;go_wp2;go_round
    case rel=>exact ⟨k+1,by omega,by go_num,any_snoc 0 hlt _ HA.out (by rw [← HX.out];exact hbad')⟩
    case measure=>simp [intOf];omega
  ·obtain rfl:k=xs.length:=by omega
   go_wp2;go_ret;exact ⟨ret_int (firstErr_none (by have:=HA.out;rwa [List.take_length] at this)).symm,rfl⟩
theorem namesNoWord_any (n m c d:Nat) (pw pt:Option Addr) (br:Int) (w:World) :
  Calls Tryz.prog 79 #[.agg #[.slice pw n c,.slice pt m d,.int .i64 br]] w fun e w' =>
   e=.returned (.func (.func 122) #[] #[.pointer (some ⟨w.heap.size+1,0,none⟩)])∧(w.alloc (.cells #[.slice pw n c,.slice pt m d,.int .i64 br] 25)).alloc (.cells #[.slice pw n c,.slice pt m d,.int .i64 br,.nilFunc] 84)=w':=by
 have hmf:=mf
 go_enter Tryz.func79,Tryz.ntmps79
 go_wp2;go_ret;exact ⟨rfl,rfl⟩
theorem absent_b (n c:Nat) (pw:Option Addr) (v1 v2 v3:Value) (k:Int) (w:World) (hn:n≤1000000000000) :
  Calls Tryz.prog 103 #[.agg #[.slice pw n c,v1,v2,v3],.int .i64 k] w fun e w'=>e=.returned (.bool (absent n k))∧Below w.heap.size w w' :=
 (absent_any n c pw v1 v2 v3 k w hn).mono fun e w' ⟨he,hw⟩=>⟨he,hw ▸ below1 _ _⟩
theorem cells_at {w:World} {A:Nat} {C:Array Value} {T:TypeId} {tg:Nat × Nat} (hA:w.heap[A]?=some (.cells C T tg)) (k:Nat) (v:Value) (hv:C[k]?=some v):w.cell? ⟨A,k,none⟩=some v:=by
 simp [World.cell?,hA,hv]
set_option maxHeartbeats 400000 in
theorem namesNo1_any (n c:Nat) (pw:Option Addr) (v1 v2 v3:Value) (A:Nat) (u:Turn) (w:World) (hn:n≤1000000000000) (hA:w.heap[A]?=some (.cells #[.slice pw n c,v1,v2,v3] 84)) :
  Calls Tryz.prog 122 #[.agg #[.int .i64 u.word,.int .i64 u.lo,.int .i64 u.hi],.pointer (some ⟨A,0,none⟩)] w fun e w'=>e=.returned (.bool (namesNo n u))∧Below w.heap.size w w':=by
 have hAl:A<w.heap.size:=(Array.getElem?_eq_some_iff.1 hA).1;have c0:=cells_at hA 0 _ rfl;have c1:=cells_at hA 1 _ rfl;have c2:=cells_at hA 2 _ rfl;have c3:=cells_at hA 3 _ rfl;clear hA;obtain ⟨uw,ul,uh⟩:=u;dsimp only;cases h1:absent n uw with
 | true =>
  have hb:namesNo n ⟨uw,ul,uh⟩=true:=by simp [namesNo,h1]
  have HB:=Lib.hid hb;have H1:=Lib.hid h1;clear hb h1
  go_enter Tryz.func122,Tryz.ntmps122
  go_wp2_with fail
  refine (absent_any n c pw _ _ _ _ _ hn).mono ?_;rintro e w' ⟨rfl,rfl⟩;rw [H1.out];go_wp2;go_ret;exact ⟨by rw [HB.out];rfl,(below1 _ _).alloc (by simp) _⟩
 | false =>
  cases h2:absent n ul with
  | true =>
   have hb:namesNo n ⟨uw,ul,uh⟩=true:=by simp [namesNo,h2]
   have HB:=Lib.hid hb;have H1:=Lib.hid h1;have H2:=Lib.hid h2;clear hb h1 h2
   go_enter Tryz.func122,Tryz.ntmps122
   go_wp2_with fail
   refine (absent_any n c pw _ _ _ _ _ hn).mono ?_;rintro e w' ⟨rfl,rfl⟩;rw [H1.out];go_wp2_with fail
   refine (absent_any n c pw _ _ _ _ _ hn).mono ?_;rintro e w' ⟨rfl,rfl⟩;rw [H2.out];go_wp2;go_ret;exact ⟨by rw [HB.out];rfl,((below1 _ _).alloc (by simp) _).alloc (by simp;omega) _⟩
  | false =>
   have hb:namesNo n ⟨uw,ul,uh⟩=absent n uh:=by simp [namesNo,h1,h2]
   have HB:=Lib.hid hb;have H1:=Lib.hid h1;have H2:=Lib.hid h2;clear hb h1 h2
   go_enter Tryz.func122,Tryz.ntmps122
   go_wp2_with fail
   refine (absent_b n c pw _ _ _ _ _ hn).mono ?_;rintro e w1 ⟨rfl,hb1⟩;obtain ⟨hc1,hf1⟩:=bcell hb1;have hz1:w.heap.size+1≤w1.heap.size:=by have:=hb1.size;simpa using this
   have hA1:A<w1.heap.size∧w.heap.size<w1.heap.size:=by omega
   obtain ⟨hA1,hS1⟩:=hA1;rw [H1.out];go_wp2_with fail
   refine (absent_b n c pw _ _ _ _ _ hn).mono ?_;rintro e w2 ⟨rfl,hb2⟩;obtain ⟨hc2,hf2⟩:=bcell hb2;have hz2:=hb2.size;have hA2:A<w2.heap.size∧w.heap.size<w2.heap.size:=by omega
   obtain ⟨hA2,hS2⟩:=hA2;rw [H2.out];go_wp2_with fail
   refine (absent_b n c pw _ _ _ _ _ hn).mono ?_;rintro e w3 ⟨rfl,hb3⟩;go_wp2;go_ret;exact ⟨by rw [HB.out];rfl,(below1 _ _).trans (((hb1.mono (by simp)).trans (hb2.mono (by omega))).trans (hb3.mono (by omega)))⟩
theorem entered_namesNo1:Entered 122:=fun args W=>by kernel_rfl
theorem entered_endsB:Entered 80:=fun args W=>by kernel_rfl
theorem entered_itself:Entered 81:=fun args W=>by kernel_rfl
theorem entered_shows1:Entered 89:=fun args W=>by kernel_rfl
theorem entered_openReading1:Entered 124:=fun args W=>by kernel_rfl
theorem entered_absent:Entered 103:=fun args W=>by kernel_rfl
end Go.Proofs.YtadnggecnjdhiaaGreat
namespace Go.Proofs.YtadnggecnjdhiaaGreat
open Go.RowKit Tx
theorem slice_len {α:Type} (l:List α) {a b:Nat} (hb:b≤l.length):(slice l a b).length=b-a:=by simp [slice];omega
theorem slice_getD {α:Type} (l:List α) (d:α) {a b k:Nat} (hk:k<b-a) (hb:b≤l.length):(slice l a b).getD k d=l.getD (a+k) d:=by
 simp [slice,List.getElem?_take,hk,List.getElem?_drop]
set_option maxHeartbeats 800000 in
theorem syl_any (t:Text) (ok:Text.Ok t) (pw:Option Addr) (cw:Nat) (v1 v2 v3:Value) (a b:Nat) (hab:a≤b) (hb:b≤t.words.length) (hcw:t.words.length≤cw∧cw≤maxLen) (w:World) (hW:Wds w pw t.words) :
  Calls Tryz.prog 93 #[.agg #[.slice pw t.words.length cw,v1,v2,v3],.int .i64 a,.int .i64 b] w fun e w'=>e=.returned (.int .i64 (t.syl a b))∧Below w.heap.size w w':=by
 have hn:=ok.n12;have hne:=ok.n1;obtain ⟨bb,o,x0,rfl,hbb,_⟩:=hW.at (i:=0) (by omega);have HW:=Lib.hid hW;have HOK:=Lib.hid ok;have HLEN:=Lib.hid (slice_len t.words (a:=a) hb);obtain ⟨hcw1,hcw2⟩:=hcw;unfold maxLen at hcw2;clear hW ok
 go_enter Tryz.func93,Tryz.ntmps93
 go_wp2
 all_goals
  go_loopw [7,17] (fun s i wr=>∃ k:Nat,k≤b-a∧i=.int .i64 k∧s=.int .i64 (isum (((slice t.words a b).take k).map (·.syl)))∧Below w.heap.size w wr) (fun _ i _=>(b-a)-(intOf i).toNat)
  case atStart=>exact ⟨0,Nat.zero_le _,rfl,rfl,below1 _ _⟩
  case round =>
   obtain ⟨k,hk,rfl,rfl,hB⟩:=hrel;have HB:=Lib.hid hB;by_cases hlt:k<b-a
   ·obtain ⟨b',o',x,hp,hbl,hxx,c1,c2,c3⟩:=(HW.out.below hB).at (i:=a+k) (by omega);injection hp with hp;injection hp with hp1 hp2 _;subst hp1;subst hp2;have hxm:x∈t.words:=by rw [hxx];exact getD_mem default (by omega)
    obtain ⟨x1,x2,_,_⟩:=HOK.out.word x hxm;have hxs:x=(slice t.words a b).getD k default:=by rw [slice_getD _ _ hlt hb];exact hxx
    have hsum:isum (((slice t.words a b).take (k+1)).map (·.syl))=isum (((slice t.words a b).take k).map (·.syl))+x.syl:=by
     rw [take_snocD default (by rw [HLEN.out];exact hlt),List.map_append,List.map_cons,List.map_nil,isum_snoc,hxs]
    have HS:=Lib.hid hsum;have hbd:=isum_bd (((slice t.words a b).take k).map (·.syl)) 0 9 (fun y hy=>by
     obtain ⟨z,hz,rfl⟩:=List.mem_map.1 hy;have:=HOK.out.word z (List.mem_of_mem_drop (List.mem_of_mem_take (List.mem_of_mem_take hz)));omega)
    have hlk:(((slice t.words a b).take k).map (·.syl)).length=k:=by rw [List.length_map,List.length_take,HLEN.out];omega
    rw [hlk] at hbd;generalize hsk:isum (((slice t.words a b).take k).map (·.syl))=sk at hbd HS ⊢;have hadd:o+(a+k)*3=o+a*3+k*3:=by omega
    rw [hadd] at c1 c2 c3;clear hsk hsum hxs hxx hlk hadd hB hxm;go_wp2
    all_goals
     go_roundw
     case rel=>exact ⟨k+1,by omega,by go_num,by rw [HS.out],(join HB.out (below1 _ _))⟩
     case measure=>simp [intOf];omega
   ·obtain rfl:k=b-a:=by omega
    have hfull:(slice t.words a b).take (b-a)=slice t.words a b:=by rw [← HLEN.out,List.take_length]
    have HF:=Lib.hid hfull;clear hfull hB;go_wp2;go_ret;exact ⟨ret_int (by rw [HF.out];rfl),HB.out⟩
theorem allow_any (t:Text) (ok:Text.Ok t) (pw:Option Addr) (cw:Nat) (v1 v2 v3:Value) (p:Nat) (hp:p≤t.words.length) (w:World) (hW:Wds w pw t.words) :
  Calls Tryz.prog 144 #[.agg #[.slice pw t.words.length cw,v1,v2,v3],.int .i64 p] w fun e w'=>e=.returned (.bool (t.allow p))∧Below w.heap.size w w':=by
 have hn:=ok.n12;by_cases h0:p=0
 ·subst h0;have hb:t.allow 0=true:=by simp [Text.allow]
  have HB:=Lib.hid hb;clear hb
  go_enter Tryz.func144,Tryz.ntmps144
  go_wp2;go_ret;exact ⟨by rw [HB.out];rfl,below1 _ _⟩
 ·have h0':((p:Int) == 0)=false:=by rw [beq_eq_false_iff_ne];omega
  by_cases h1:p=t.words.length
  ·have hb:t.allow p=true:=by simp [Text.allow,Text.len,h1]
   have HB:=Lib.hid hb;have h1':((p:Int) == (t.words.length:Int))=true:=by rw [beq_iff_eq];omega
   have H1:=Lib.hid h1;clear hb h1
   go_enter Tryz.func144,Tryz.ntmps144
   go_wp2_with fail
   refine (end_any _ _ _ _ _ _ _).mono ?_;rintro e w' ⟨rfl,rfl⟩;go_wp2;go_ret;exact ⟨by rw [HB.out];rfl,(below1 _ _).alloc (by simp) _⟩
  ·have h1':((p:Int) == (t.words.length:Int))=false:=by rw [beq_eq_false_iff_ne];omega
   obtain ⟨q,rfl⟩:∃ q,p=q+1:=⟨p-1,by omega⟩;have hqn:q<t.words.length:=by omega
   obtain ⟨bb,o,x,rfl,hbb,hxx,c1,c2,c3⟩:=hW.at hqn;have hb:t.allow (q+1)=x.stop:=by rw [hxx];simp [Text.allow,Text.len,h1]
   have HB:=Lib.hid hb;have h1a:((q:Int)+1 == (t.words.length:Int))=false:=by rw [beq_eq_false_iff_ne];omega
   have h1b:¬ ((q:Int)+1=(t.words.length:Int)):=by omega
   have h0a:((q:Int)+1 == 0)=false:=by rw [beq_eq_false_iff_ne];omega
   have h2:((q+1:Nat):Int)-1=q:=by omega
   clear hb hxx h1
   go_enter Tryz.func144,Tryz.ntmps144
   go_wp2_with fail
   refine (end_any _ _ _ _ _ _ _).mono ?_;rintro e w' ⟨rfl,rfl⟩;go_wp2;go_ret;exact ⟨by rw [HB.out];rfl,(below1 _ _).alloc (by simp) _⟩
def RowPost (l:List Int) (w:World) (e:Ending) (w':World):Prop:=∃ v,e=.returned v∧w'.ownsRow w.heap.size 3 1 v l.length (l.map (Value.int .i64))∧Below w.heap.size w w'
set_option maxHeartbeats 800000 in
theorem turnsOther_any (t:Text) (hm:t.turns.length≤1000000) (pt:Option Addr) (ct:Nat) (v0 v2 v3:Value) (lo hi:Int) (w:World) (hT:Tns w pt t.turns) :
  Calls Tryz.prog 104 #[.agg #[v0,.slice pt t.turns.length ct,v2,v3],.agg #[.int .i64 lo,.int .i64 hi]] w (RowPost (t.said lo hi) w):=by
 obtain ⟨i0,hi0,hz0,hz1,hz2⟩:=info_parts A_infoI;have HT:=Lib.hid hT;clear hT;have HB2:=Lib.hid ((below1 w (.cells #[v0,.slice pt t.turns.length ct,v2,v3] 84)).alloc (by simp) (.cells #[.int .i64 lo,.int .i64 hi] 58));have x1:((w.alloc (.cells #[v0,.slice pt t.turns.length ct,v2,v3] 84)).alloc (.cells #[.int .i64 lo,.int .i64 hi] 58)).heap[w.heap.size+1]?=some (.cells #[.int .i64 lo,.int .i64 hi] 58 (0,0)):=by
  have:=heap_last (w.alloc (.cells #[v0,.slice pt t.turns.length ct,v2,v3] 84)) (.cells #[.int .i64 lo,.int .i64 hi] 58);rwa [World.size_alloc] at this
 have c0:=blk_cells x1 0 _ rfl;have c1:=blk_cells x1 1 _ rfl;have hsz:((w.alloc (.cells #[v0,.slice pt t.turns.length ct,v2,v3] 84)).alloc (.cells #[.int .i64 lo,.int .i64 hi] 58)).heap.size=w.heap.size+2:=by simp
 go_enter Tryz.func104,Tryz.ntmps104
 go_wp2_with fail
 generalize (w.alloc (.cells #[v0,.slice pt t.turns.length ct,v2,v3] 84)).alloc (.cells #[.int .i64 lo,.int .i64 hi] 58)=W1 at *;have hw1:w.heap.size+2≤W1.heap.size:=by omega
 clear x1 hsz
 go_loopw [5,12] (fun v i wr=>∃ k:Nat,k≤t.turns.length∧i=.int .i64 k∧wr.ownsRow W1.heap.size 3 1 v (idx (fun u=>u.says lo hi) 0 (t.turns.take k)).length ((idx (fun u=>u.says lo hi) 0 (t.turns.take k)).map (Value.int .i64))∧Below W1.heap.size W1 wr) (fun _ i _=>t.turns.length-(intOf i).toNat)
 case atStart=>exact ⟨0,Nat.zero_le _,rfl,own_none _ _ _ _,Below.refl _ _⟩
 case round =>
  obtain ⟨k,hk,rfl,hown,hBr⟩:=hrel;have HO:=Lib.hid hown;have HBr:=Lib.hid hBr;have hlen:(idx (fun u=>u.says lo hi) 0 (t.turns.take k)).length≤1000000:=by rw [idx_length];exact Nat.le_trans List.countP_le_length (by simp;omega)
  have hz7:=hBr.size;by_cases hlt:k<t.turns.length
  ·obtain ⟨b,o,x,rfl,hb,hxx,d1,d2,d3⟩:=((HT.out.below HB2.out).below hBr).at hlt;have HX:=Lib.hid hxx;have hk':(k:Int)<t.turns.length:=by omega
   have g0:wr.cell? ⟨w.heap.size+1,0,none⟩=some (.int .i64 lo):=(hBr.cell (p:=⟨w.heap.size+1,0,none⟩) (show w.heap.size+1<W1.heap.size by omega)).trans c0;have g1:wr.cell? ⟨w.heap.size+1,1,none⟩=some (.int .i64 hi):=(hBr.cell (p:=⟨w.heap.size+1,1,none⟩) (show w.heap.size+1<W1.heap.size by omega)).trans c1;have hs1:w.heap.size+1<wr.heap.size:=by omega
   clear hxx hown hBr c0 c1;go_wp2_with fail
   refine (says_any x _ _ _).mono ?_;rintro e w5 ⟨rfl,hB5⟩;have HB5:=Lib.hid (join HBr.out ((below1 _ _).trans (hB5.mono (by simp))));have hz5:wr.heap.size+1≤w5.heap.size:=by have:=hB5.size;simpa using this
   have HO5:=Lib.hid (own_below HO.out ((below1 _ _).trans (hB5.mono (by simp))));cases hbad:x.says lo hi with
   | true =>
    have HBAD:=Lib.hid hbad;clear hbad hB5;go_wp2_with (at_builtin;refine wpList_append_own _ rfl _ _ 34 rfl W1.heap.size 3 i0 (.int .i64 0) 1 8 A_undI hi0 hz0 hz1 hz2 rfl (by decide) _ _ _ rfl (HO5.out.alloc _) ⟨w5.heap.size,0,none⟩ 1 1 [.int .i64 (k:Int)] rfl rfl ?d1 ?d2 ?d3 ?d4 ?d5 ?_)
    case d1=>exact cell_one_new _ _ _
    case d2=>first | rfl | (intro u hu;simp at hu;subst hu;rfl)
    case d3=>unfold maxLen;omega
    case d4=>omega
    case d5=>first | omega | (simp;omega)
    intro v' w8 hown8 hgrow _;have hB8:=below_grown (al2 HB5.out (by omega) _) (HO5.out.alloc _) (Nat.le_refl _) (by simp;omega) hgrow;have hsnoc:idx (fun u=>u.says lo hi) 0 (t.turns.take (k+1))=idx (fun u=>u.says lo hi) 0 (t.turns.take k)++[(k:Int)]:=by
     rw [take_snocD default hlt,idx_snoc,← HX.out,if_pos HBAD.out];simp;omega
    have HSN:=Lib.hid hsnoc;have HO8:=Lib.hid hown8;have HB8:=Lib.hid hB8;clear hgrow hown8 hB8 hsnoc;go_wp2;go_roundw
    case rel=>exact ⟨k+1,by omega,by simp,by rw [HSN.out];simpa using HO8.out,HB8.out⟩
    case measure=>simp [intOf];omega
   | false =>
    have hsnoc:idx (fun u=>u.says lo hi) 0 (t.turns.take (k+1))=idx (fun u=>u.says lo hi) 0 (t.turns.take k):=by
     rw [take_snocD default hlt,idx_snoc,← HX.out,if_neg (by rw [hbad];decide),List.append_nil]
    have HSN:=Lib.hid hsnoc;clear hsnoc hbad hB5;go_wp2;go_roundw
    case rel=>exact ⟨k+1,by omega,by simp,by rw [HSN.out];exact HO5.out,HB5.out⟩
    case measure=>simp [intOf];omega
  ·obtain rfl:k=t.turns.length:=by omega
   have hfull:t.turns.take t.turns.length=t.turns:=List.take_length;have HF:=Lib.hid hfull;clear hfull hown hBr c0 c1;go_wp2;go_ret;exact ⟨_,rfl,by have:=own_base HO.out (base':=w.heap.size) (by omega);rw [HF.out] at this;exact this,HB2.out.trans (HBr.out.mono (by omega))⟩
end Go.Proofs.YtadnggecnjdhiaaGreat
namespace Go.Proofs.YtadnggecnjdhiaaGreat
open Go.RowKit Tx
set_option maxHeartbeats 800000 in
theorem is0_any (t:Text) (ok:Text.Ok t) (pw pt:Option Addr) (cw ct:Nat) (mf:Value) (a b:Nat) (hab:a≤b) (hb:b≤t.words.length) (hcw:t.words.length≤cw∧cw≤maxLen) (w:World) (hW:TxAt w t pw pt) :
  Calls Tryz.prog 126 #[.agg #[.slice pw t.words.length cw,.slice pt t.turns.length ct,.int .i64 t.breath,mf],.int .i64 0,.int .i64 a,.int .i64 b] w fun e w'=>e=.returned (.bool (t.isLong a b))∧Below w.heap.size w w':=by
 have HS:=Lib.hid (fun W (h:Below w.heap.size w W)=>syl_any t ok pw cw (.slice pt t.turns.length ct) (.int .i64 t.breath) mf a b hab hb hcw W (hW.words.below h));have hx:∀ o,(w.alloc o).heap.size=w.heap.size+1:=fun o=>by simp
 clear hW hcw
 go_enter Tryz.func126,Tryz.ntmps126
 go_wp2_with fail
 go_region_with (go_at_call 93;refine (HS.out _ (by first | exact below1 _ _ | exact (below1 _ _).drew)).mono ?_;rintro e w5 ⟨rfl,hB5⟩;obtain ⟨hc5,hf5⟩:=bcell hB5;have hz5:w.heap.size<w5.heap.size:=by have:=hB5.size;simp at this;omega)
 all_goals go_wp2
 all_goals go_ret
 all_goals exact ⟨rfl,join (below1 _ _).drew hB5⟩
set_option maxHeartbeats 800000 in
theorem is1_any (t:Text) (ok:Text.Ok t) (pw pt:Option Addr) (cw ct:Nat) (mf:Value) (a b:Nat) (hab:a≤b) (hb:b≤t.words.length) (w:World) (hW:TxAt w t pw pt) :
  Calls Tryz.prog 126 #[.agg #[.slice pw t.words.length cw,.slice pt t.turns.length ct,.int .i64 t.breath,mf],.int .i64 1,.int .i64 a,.int .i64 b] w fun e w'=>e=.returned (.bool (t.isCut a b))∧Below w.heap.size w w':=by
 have HS:=Lib.hid (fun W (h:Below w.heap.size w W) (p:Nat) (hp:p≤t.words.length)=>allow_any t ok pw cw (.slice pt t.turns.length ct) (.int .i64 t.breath) mf p hp W (hW.words.below h));clear hW;cases h1:t.allow a with
 | true =>
  have hfin:t.isCut a b=!t.allow b:=by simp [Text.isCut,h1]
  have HF:=Lib.hid hfin;have H1:=Lib.hid h1;clear hfin h1
  go_enter Tryz.func126,Tryz.ntmps126
  go_wp2_with fail
  refine (HS.out _ (below1 _ _) a (by omega)).mono ?_;rintro e w5 ⟨rfl,hB5⟩;obtain ⟨hc5,hf5⟩:=bcell hB5;have hz5:w.heap.size<w5.heap.size:=by have:=hB5.size;simp at this;omega
  have HB5:=Lib.hid (join (below1 _ _) hB5);rw [H1.out];clear hB5;go_wp2_with fail
  refine (HS.out _ HB5.out b hb).mono ?_;rintro e w6 ⟨rfl,hB6⟩;go_wp2;go_ret;exact ⟨by rw [HF.out];rfl,join HB5.out hB6⟩
 | false =>
  have hfin:t.isCut a b=true:=by simp [Text.isCut,h1]
  have HF:=Lib.hid hfin;have H1:=Lib.hid h1;clear hfin h1
  go_enter Tryz.func126,Tryz.ntmps126
  go_wp2_with fail
  refine (HS.out _ (below1 _ _) a (by omega)).mono ?_;rintro e w5 ⟨rfl,hB5⟩;rw [H1.out];go_wp2;go_ret;exact ⟨by rw [HF.out];rfl,join (below1 _ _) hB5⟩
set_option maxHeartbeats 800000 in
theorem is2_any (t:Text) (ok:Text.Ok t) (pw pt:Option Addr) (cw ct:Nat) (mf:Value) (a b:Nat) (hab:a≤b) (hb:b≤t.words.length) (w:World) (hW:TxAt w t pw pt) :
  Calls Tryz.prog 126 #[.agg #[.slice pw t.words.length cw,.slice pt t.turns.length ct,.int .i64 t.breath,mf],.int .i64 2,.int .i64 a,.int .i64 b] w fun e w'=>e=.returned (.bool (t.isOther a b))∧Below w.heap.size w w':=by
 have HS:=Lib.hid (fun W (h:Below w.heap.size w W)=>turnsOther_any t (by have:=ok.m6;omega) pt ct (.slice pw t.words.length cw) (.int .i64 t.breath) mf (a:Int) ((b:Int)-1) W (hW.turns.below h));have hfin:t.isOther a b=decide (0<(t.said a ((b:Int)-1)).length):=by unfold Text.isOther Text.said;rw [idx_any]
 have HF:=Lib.hid hfin;have hn:=ok.n12;clear hW hfin
 go_enter Tryz.func126,Tryz.ntmps126
 go_wp2_with fail
 go_region_with (first | (go_at_call 128;refine (wordsBetween_any _ _ _ (by omega) (by omega)).mono ?_;rintro e w' ⟨rfl,rfl⟩) | (go_at_call 104;refine (HS.out _ (by first | exact ((below1 _ _).drew).alloc (by simp) _ | exact ((below1 _ _).alloc (by simp) _).drew)).mono ?_;rintro e w5 ⟨v,rfl,hown,hB5⟩;obtain ⟨pq,cq,rfl,_⟩:=own_rd hown rfl;have HB5:=Lib.hid hB5;clear hB5 hown))
 all_goals go_wp2
 all_goals go_ret
 all_goals exact ⟨by rw [HF.out];rfl,join (by first | exact ((below1 _ _).drew).alloc (by simp) _ | exact ((below1 _ _).alloc (by simp) _).drew) HB5.out⟩
end Go.Proofs.YtadnggecnjdhiaaGreat
namespace Go.Proofs.YtadnggecnjdhiaaGreat
open Go.RowKit Tx
structure WkAt (w:World) (t:Text) (pw pt:Option Addr) (cw:Nat):Prop where
 ok:Text.Ok t
 at_:TxAt w t pw pt
 cap:t.words.length≤cw∧cw≤maxLen
theorem WkAt.below {w w':World} {t:Text} {pw pt:Option Addr} {cw:Nat} (h:WkAt w t pw pt cw) (hb:Below w.heap.size w w'):WkAt w' t pw pt cw:=⟨h.ok,h.at_.below hb,h.cap⟩
set_option maxHeartbeats 800000 in
theorem right_any (t:Text) (pw pt:Option Addr) (cw ct:Nat) (mf:Value) (a b:Nat) (hab:a≤b) (hb:b≤t.words.length) (w:World) (hW:WkAt w t pw pt cw) :
  Calls Tryz.prog 91 #[.agg #[.slice pw t.words.length cw,.slice pt t.turns.length ct,.int .i64 t.breath,mf],.int .i64 a,.int .i64 b] w fun e w'=>e=.returned (.bool (t.right a b))∧Below w.heap.size w w':=by
 have HS0:=Lib.hid (fun W (h:Below w.heap.size w W)=>is0_any t hW.ok pw pt cw ct mf a b hab hb hW.cap W (hW.at_.below h));have HS1:=Lib.hid (fun W (h:Below w.heap.size w W)=>is1_any t hW.ok pw pt cw ct mf a b hab hb W (hW.at_.below h));have HS2:=Lib.hid (fun W (h:Below w.heap.size w W)=>is2_any t hW.ok pw pt cw ct mf a b hab hb W (hW.at_.below h));clear hW;cases h1:t.isLong a b with
 | true =>
  have hfin:t.right a b=false:=by simp [Text.right,h1]
  have HF:=Lib.hid hfin;have H1:=Lib.hid h1;clear hfin h1
  go_enter Tryz.func91,Tryz.ntmps91
  go_wp2_with fail
  refine (HS0.out _ (below1 _ _)).mono ?_;rintro e w5 ⟨rfl,hB5⟩;rw [H1.out];go_wp2;go_ret;exact ⟨by rw [HF.out];rfl,join (below1 _ _) hB5⟩
 | false =>
  cases h2:t.isCut a b with
  | true =>
   have hfin:t.right a b=false:=by simp [Text.right,h2]
   have HF:=Lib.hid hfin;have H1:=Lib.hid h1;have H2:=Lib.hid h2;clear hfin h1 h2
   go_enter Tryz.func91,Tryz.ntmps91
   go_wp2_with fail
   refine (HS0.out _ (below1 _ _)).mono ?_;rintro e w5 ⟨rfl,hB5⟩;obtain ⟨hc5,hf5⟩:=bcell hB5;have hz5:w.heap.size<w5.heap.size:=by have:=hB5.size;simp at this;omega
   have HB5:=Lib.hid (join (below1 _ _) hB5);rw [H1.out];clear hB5;go_wp2_with fail
   refine (HS1.out _ HB5.out).mono ?_;rintro e w6 ⟨rfl,hB6⟩;rw [H2.out];go_wp2;go_ret;exact ⟨by rw [HF.out];rfl,join HB5.out hB6⟩
  | false =>
   have hfin:t.right a b=!t.isOther a b:=by simp [Text.right,h1,h2]
   have HF:=Lib.hid hfin;have H1:=Lib.hid h1;have H2:=Lib.hid h2;clear hfin h1 h2
   go_enter Tryz.func91,Tryz.ntmps91
   go_wp2_with fail
   refine (HS0.out _ (below1 _ _)).mono ?_;rintro e w5 ⟨rfl,hB5⟩;obtain ⟨hc5,hf5⟩:=bcell hB5;have hz5:w.heap.size<w5.heap.size:=by have:=hB5.size;simp at this;omega
   have HB5:=Lib.hid (join (below1 _ _) hB5);rw [H1.out];clear hB5;go_wp2_with fail
   refine (HS1.out _ HB5.out).mono ?_;rintro e w6 ⟨rfl,hB6⟩;obtain ⟨hc6,hf6⟩:=bcell hB6;have hz6:w.heap.size<w6.heap.size:=by have:=hB6.size;omega
   have HB6:=Lib.hid (join HB5.out hB6);rw [H2.out];clear hB6;go_wp2_with fail
   refine (HS2.out _ HB6.out).mono ?_;rintro e w7 ⟨rfl,hB7⟩;go_wp2;go_ret;exact ⟨by rw [HF.out];rfl,join HB6.out hB7⟩
theorem isK_any (t:Text) (pw pt:Option Addr) (cw ct:Nat) (mf:Value) (k:Nat) (hk:k≤2) (a b:Nat) (hab:a≤b) (hb:b≤t.words.length) (w:World) (hW:WkAt w t pw pt cw) :
  Calls Tryz.prog 126 #[.agg #[.slice pw t.words.length cw,.slice pt t.turns.length ct,.int .i64 t.breath,mf],.int .i64 k,.int .i64 a,.int .i64 b] w fun e w'=>e=.returned (.bool (t.isK k a b))∧Below w.heap.size w w':=by
 have:k=0∨k=1∨k=2:=by omega
 rcases this with rfl | rfl | rfl
 ·exact is0_any t hW.ok pw pt cw ct mf a b hab hb hW.cap w hW.at_
 ·exact is1_any t hW.ok pw pt cw ct mf a b hab hb w hW.at_
 ·exact is2_any t hW.ok pw pt cw ct mf a b hab hb w hW.at_
end Go.Proofs.YtadnggecnjdhiaaGreat
namespace Go.Proofs.YtadnggecnjdhiaaGreat
open Go.RowKit Tx
attribute [local go_sem] Oper.semAt_some
def MayAt (mv:Value) (may:Nat→Nat→Bool) (n:Nat) (Kp:Nat→Prop) (w:World):Prop :=
 ∃ F first caps,mv=.func (.func F) first caps∧Entered F∧∀ W,Hold Kp w W→∀ a b:Nat,a<b→b≤n→Calls Tryz.prog F (first++(#[.int .i64 a,.int .i64 b]++caps)) W fun e w'=>e=.returned (.bool (may a b))∧Below W.heap.size W w'
theorem MayAt.hold {mv:Value} {may:Nat→Nat→Bool} {n:Nat} {Kp:Nat→Prop} {w w':World} (h:MayAt mv may n Kp w) (hh:Hold Kp w w'):MayAt mv may n Kp w':=by
 obtain ⟨F,first,caps,h1,h2,h3⟩:=h;exact ⟨F,first,caps,h1,h2,fun W hW=>h3 W (hh.trans hW)⟩
theorem MayAt.mono {mv:Value} {may:Nat→Nat→Bool} {n:Nat} {Kp Kq:Nat→Prop} {w:World} (h:MayAt mv may n Kp w) (hq:∀ k,Kp k→k<w.heap.size→Kq k):MayAt mv may n Kq w:=by
 obtain ⟨F,first,caps,h1,h2,h3⟩:=h;exact ⟨F,first,caps,h1,h2,fun W hW=>h3 W (hW.mono hq)⟩
theorem Hold.below {Kp:Nat→Prop} {A C:World} (h:Below A.heap.size A C):Hold Kp A C:=.of_below h (fun _ _ hl=>hl)
structure BrCap (w:World) (n cw:Nat) (pw:Option Addr) (v1 v2 mv:Value) (a A1 A2:Nat):Prop where
 fr:w.heap[A1]?=some (.cells #[.int .i64 a] 3 (0,0))
 wk:w.heap[A2]?=some (.cells #[.slice pw n cw,v1,v2,mv] 84 (0,0))
theorem BrCap.hold {Kp:Nat→Prop} {w w':World} {n cw:Nat} {pw:Option Addr} {v1 v2 mv:Value} {a A1 A2:Nat} (h:BrCap w n cw pw v1 v2 mv a A1 A2) (hh:Hold Kp w w') (hA:Kp A1∧Kp A2):BrCap w' n cw pw v1 v2 mv a A1 A2 :=
 ⟨(hh.same A1 hA.1 (Array.getElem?_eq_some_iff.1 h.fr).1).trans h.fr,(hh.same A2 hA.2 (Array.getElem?_eq_some_iff.1 h.wk).1).trans h.wk⟩
theorem BrCap.below {w w':World} {n cw:Nat} {pw:Option Addr} {v1 v2 mv:Value} {a A1 A2:Nat} (h:BrCap w n cw pw v1 v2 mv a A1 A2) (hb:Below w.heap.size w w'):BrCap w' n cw pw v1 v2 mv a A1 A2 :=
 h.hold (Kp:=fun _=>True) (.below hb) ⟨trivial,trivial⟩
def brsTo (may:Nat→Nat→Bool) (a b:Nat):List Nat:=(List.range' (a+1) (b-(a+1))).filter (may a)
theorem brsTo_succ (may:Nat→Nat→Bool) {a b:Nat} (h:a+1≤b):brsTo may a (b+1)=brsTo may a b++(if may a b then [b] else []):=by
 unfold brsTo;rw [show b+1-(a+1)=(b-(a+1))+1 by omega,List.range'_concat,List.filter_append];rw [show a+1+1*(b-(a+1))=b by omega];cases h:may a b <;> simp [h]
theorem brsTo_end (may:Nat→Nat→Bool) (n a:Nat):brsTo may a (n+1)=brs may n a:=by
 unfold brsTo brs;rw [show n+1-(a+1)=n-a by omega]
theorem brs_split (may:Nat→Nat→Bool) {n a b:Nat} (h:a+1≤b) (hb:b≤n) (hm:may a b=true):∃ post,brs may n a=brsTo may a b++b::post:=by
 refine ⟨(List.range' (b+1) (n-b)).filter (may a),?_⟩;unfold brs brsTo;have:List.range' (a+1) (n-a)=List.range' (a+1) (b-(a+1))++b::List.range' (b+1) (n-b):=by
  rw [show n-a=(b-(a+1))+(n-b+1) by omega,← List.range'_append];rw [show a+1+1*(b-(a+1))=b by omega,List.range'_succ]
 rw [this,List.filter_append,List.filter_cons,if_pos hm]
abbrev SeeN (x:Nat) (vs:Array Value) (w:World):Prop:=vs=#[.int .i64 x]
set_option maxHeartbeats 1000000 in
set_option maxRecDepth 100000 in
theorem breaths1_in (m:Nat) (l:Nat) (Kp:Nat→Prop) (may:Nat→Nat→Bool) (n cw:Nat) (hn:n≤12) (pw:Option Addr) (v1 v2 mv:Value) (a A1 A2:Nat) (han:a≤n)
  (hA:Kp A1∧Kp A2)
  (J Jx:List Nat→World→Prop)
  (hY:∀ pre x post vs W,brs may n a=pre++x::post→SeeN x vs W→J pre W→YieldAt Fence.wide (m-1) Tryz.prog l vs W fun e W' =>
   (e=.returned (.bool true)∧J (pre++[x]) W'∧Hold Kp W W')∨(e=.returned (.bool false)∧Jx (pre++[x]) W'∧Hold Kp W W'))
  (W:World) (hC:BrCap W n cw pw v1 v2 mv a A1 A2) (hM:MayAt mv may n Kp W) (h0:J [] W) (hab:Low W.heap.size J) :
  CallsIn Fence.wide m Tryz.prog 143 #[.func (.yield l) #[] #[],.pointer (some ⟨A1,0,none⟩),.pointer (some ⟨A2,0,none⟩)] W fun e W'=>(∃ v,e=.returned v)∧(J (brs may n a) W'∨(∃ pre,Jx pre W')):=by
 obtain ⟨F,first,caps,rfl,hF,hM⟩:=hM;refine callsIn_of_wp Tryz.func143 rfl trivial ?_ rfl;simp only [Tryz.ntmps143,List.size_toArray,List.length_cons,List.length_nil,Nat.reduceAdd,Nat.reduceSub,Array.replicate_succ,Array.replicate_zero,List.push_toArray,List.append_toArray,List.nil_append,List.cons_append];have c1:=blk_cells hC.fr 0 _ rfl;have hA1l:=(Array.getElem?_eq_some_iff.1 hC.fr).1;have HF:=Lib.hid hF;have HM:=Lib.hid hM;clear hF hM
 gi_wp2_with fail
 gi_loopw [4] (fun d wr=>∃ b:Nat,d=.int .i64 b∧a+1≤b∧b≤n+1∧J (brsTo may a b) wr∧BrCap wr n cw pw v1 v2 (.func (.func F) first caps) a A1 A2∧Hold Kp W wr) (fun d _=>n+1-(intOf d).toNat)
 case atStart=>exact ⟨a+1,by simp,by omega,by omega,by unfold brsTo;simpa using h0,hC,Hold.refl _ _⟩
 case round =>
  obtain ⟨b,rfl,hb1,hb2,hJ,hCr,hH⟩:=hrel;have hsz:=hH.size;have HH:=Lib.hid hH;have HJ:=Lib.hid hJ;have HC:=Lib.hid hCr;have d1:=blk_cells hCr.fr 0 _ rfl;have e0:=blk_cells hCr.wk 0 _ rfl;have e1:=blk_cells hCr.wk 1 _ rfl;have e2:=blk_cells hCr.wk 2 _ rfl;have e3:=blk_cells hCr.wk 3 _ rfl;have hA1r:=(Array.getElem?_eq_some_iff.1 hCr.fr).1;have hA2r:=(Array.getElem?_eq_some_iff.1 hCr.wk).1;clear c1 hC hJ hCr hH
  gi_wp2_with fail
  refine ⟨trivial,(fun h=>by cases h),?_⟩;refine (callsIn_wide.2 (end_any _ _ _ _ _ _ _)).mono ?_;rintro e w' ⟨rfl,rfl⟩;by_cases hlt:b≤n
  ·have hlt':(b:Int)≤n:=by omega
   have HB:=Lib.hid (below1 wr (.cells #[.slice pw n cw,v1,v2,.func (.func F) first caps] 84));have hask:=HM.out (wr.alloc (.cells #[.slice pw n cw,v1,v2,.func (.func F) first caps] 84)) (HH.out.trans (.below HB.out)) a b (by omega) hlt;have HASK:=Lib.hid hask;clear hask
   gi_wp2_with fail
   refine ⟨trivial,?_⟩;rw [HF.out,Oper.uponIn_enter];refine ⟨(fun h=>by cases h),?_⟩;refine (callsIn_wide.2 HASK.out).mono ?_;rintro e w2 ⟨rfl,hB2⟩;clear HASK;have HB2:=Lib.hid (join HB.out hB2);obtain ⟨bc2,bf2⟩:=bcell HB2.out;have HJ2:=Lib.hid (hab _ _ _ HJ.out (HB2.out.mono hsz));have HC2:=Lib.hid (HC.out.below HB2.out);have HH2:=Lib.hid (HH.out.trans (.below HB2.out));clear hB2 bf2;cases hmay:may a b with
   | true =>
    obtain ⟨post,hsplit⟩:=brs_split may hb1 hlt hmay;obtain ⟨fn,tmps,assign,body,hy,hR⟩:=hY _ b post _ w2 hsplit rfl HJ2.out;have HS:=Lib.hid (brsTo_succ may (a:=a) (b:=b) hb1);have HMAY:=Lib.hid hmay;clear hmay hsplit
    gi_wp2
    refine ⟨(fun h=>by cases h),hR.mono ?_⟩;rintro e W3 (⟨rfl,hJ3,hk3⟩ | ⟨rfl,hJx3,hk3⟩)
    ·gi_wp2
     go_roundw
     case rel=>exact ⟨b+1,by go_num,by omega,by omega,by rw [HS.out,HMAY.out];exact hJ3,HC2.out.hold hk3 hA,HH2.out.trans hk3⟩
     case measure=>simp [intOf];omega
    ·gi_wp2
     refine bodyPost_ret (results_none rfl _ _ _) rfl ?_;exact ⟨⟨_,rfl⟩,.inr ⟨_,hJx3⟩⟩
   | false =>
    have HS:=Lib.hid (brsTo_succ may (a:=a) (b:=b) hb1);have HMAY:=Lib.hid hmay;clear hmay
    gi_wp2
    refine ⟨fun _ h=>(by cases h),?_⟩
    gi_wp2
    go_roundw
    case rel=>exact ⟨b+1,by go_num,by omega,by omega,by rw [HS.out,HMAY.out];simpa using HJ2.out,HC2.out,HH2.out⟩
    case measure=>simp [intOf];omega
  ·obtain rfl:b=n+1:=by omega
   have hend:=brsTo_end may n a;have hJe:J (brs may n a) (wr.alloc (.cells #[.slice pw n cw,v1,v2,.func (.func F) first caps] 84)):=hab _ _ _ (hend ▸ HJ.out) ((below1 _ _).mono hsz);have HJE:=Lib.hid hJe;clear hend hJe
   gi_wp2
   go_end0
   exact ⟨⟨_,rfl⟩,.inl HJE.out⟩
theorem breaths_seq (m:Nat) (Kp:Nat→Prop) (may:Nat→Nat→Bool) (n cw:Nat) (hn:n≤12) (pw:Option Addr) (v1 v2 mv:Value) (a A1 A2:Nat) (han:a≤n) (w:World) (hA:Kp A1∧Kp A2)
  (hC:BrCap w n cw pw v1 v2 mv a A1 A2) (hM:MayAt mv may n (fun k=>Kp k∧k<w.heap.size) w) :
  SeqOf m Tryz.prog 143 #[.pointer (some ⟨A1,0,none⟩),.pointer (some ⟨A2,0,none⟩)] SeeN Kp (brs may n a) w :=
 fun l J Jx W hb hJ hY h0 =>
  have h1:=(Array.getElem?_eq_some_iff.1 hC.fr).1;have h2:=(Array.getElem?_eq_some_iff.1 hC.wk).1
  breaths1_in m l _ may n cw hn pw v1 v2 mv a A1 A2 han ⟨.inl ⟨hA.1,h1⟩,.inl ⟨hA.2,h2⟩⟩ J Jx hY W (hC.below hb) ((hM.hold (.below hb)).mono (fun k hk _=>.inl hk)) h0 hJ
theorem breaths_any (v0 v1 v2 mv:Value) (a:Int) (w:World) :
  Calls Tryz.prog 123 #[.agg #[v0,v1,v2,mv],.int .i64 a] w fun e w' =>
   e=.returned (.func (.func 143) #[] #[.pointer (some ⟨w.heap.size+1,0,none⟩),.pointer (some ⟨w.heap.size,0,none⟩)])∧(w.alloc (.cells #[v0,v1,v2,mv] 84)).alloc (.cells #[.int .i64 a] 3)=w':=by
 have hmf:=mf
 go_enter Tryz.func123,Tryz.ntmps123
 go_wp2;go_ret;exact ⟨rfl,rfl⟩
end Go.Proofs.YtadnggecnjdhiaaGreat
namespace Go.Proofs.YtadnggecnjdhiaaGreat
open Go.RowKit Tx
attribute [local go_sem] Oper.semAt_some
def arrOf (M:List Int):Array Value:=(M.map (Value.int .i64)).toArray
theorem arrOf_size (M:List Int):(arrOf M).size=M.length:=by simp [arrOf]
theorem arrOf_get {M:List Int} {k:Nat} (h:k<M.length):(arrOf M)[k]?=some (.int .i64 (M.getD k 0)):=by simp [arrOf,h]
theorem arrOf_set (M:List Int) (k:Nat) (x:Int):(arrOf M).setIfInBounds k (.int .i64 x)=arrOf (M.set k x):=by simp [arrOf,List.map_set]
theorem arrOf_one (M:List Int):(arrOf M).all (·.oneCell')=true:=by
 unfold arrOf;rw [Array.all_eq_true];intro i hi;simp [Value.oneCell']
theorem und_marks:Tryz.prog.underlying 116=some (.array 13 3):=by kernel_rfl
theorem size_marks {A:Array Value} (h:A.size=13):(Tryz.prog.info? 116).map (·.size)=some A.size:=by rw [h];kernel_rfl
theorem mixed:Tryz.prog.follows .mixedOrders=true:=by kernel_rfl
def Ends (B:Nat) (w:World):Nat→List Deferred→Prop
 | _,[]=>True
 | C,d::ds=>∃ D,d={ target:=.collected D,args:=#[] }∧B≤D∧D<C∧w.heap[D]?=some (.deferred (some []))∧Ends B w D ds
theorem Ends.mono {B:Nat} {w:World}:∀ {ds:List Deferred} {C C':Nat},Ends B w C ds→C≤C'→Ends B w C' ds
 | [],_,_,_,_=>trivial
 | _::_,_,_,⟨D,h1,h2,h3,h4,h5⟩,hc=>⟨D,h1,h2,Nat.lt_of_lt_of_le h3 hc,h4,h5⟩
theorem Ends.keep {B:Nat} {w w':World}:∀ {ds:List Deferred} {C:Nat},Ends B w C ds→(∀ k,B≤k→k<C→w'.heap[k]?=w.heap[k]?)→Ends B w' C ds
 | [],_,_,_=>trivial
 | _::_,_,⟨D,h1,h2,h3,h4,h5⟩,hk=>⟨D,h1,h2,h3,(hk D h2 h3).trans h4,h5.keep (fun k hb hc=>hk k hb (Nat.lt_trans hc h3))⟩
theorem leaves_ends {F:Fence} {n:Nat} {P:Program} {fn:Func} {tmps:Array Value} {R:Ending→World→Prop} {B:Nat} {u:FrameMode} (hu:u≠.run):∀ (ds:List Deferred) (C:Nat) (w:World),Ends B w C ds→C≤w.heap.size →
  (∀ w',Hold (fun k=>k<B) w w'→LeavesIn F n P fn tmps R [] u w')→LeavesInM F n P fn tmps R ds u w
 | [],_,w,_,_,hR=>hR w (Hold.refl _ _)
 | d::ds,C,w,⟨D,h1,h2,h3,h4,h5⟩,hC,hR=>by
  subst h1;refine ⟨hu,.inl ⟨D,_,rfl,run_takeDeferred h4,leaves_ends hu ds D _ (h5.keep (fun k _ hk=>World.putObj_heap_other (by omega))) (by simp;omega) (fun w' hh=>hR w' (Hold.trans ?_ hh))⟩⟩;exact .of_below (putObj_below (B:=B) _ _ _ h2 (by omega)) (fun k hk _=>hk)
theorem Hold.setCell {Kp:Nat→Prop} (w:World) (a:Addr) (v:Value) (h:¬ Kp a.block):Hold Kp w (w.setCell a v):=⟨rfl,rfl,rfl,by simp,fun k hk _=>Below.heap_setCell _ _ _ _ (fun e=>h (e ▸ hk))⟩
theorem hold_setCells (g:Nat):∀ (vs:List Value) (o:Nat) (w:World),Hold (fun j=>j≠g) w (w.setCells g o vs)
 | [],_,w=>Hold.refl _ w
 | v::r,o,w=>(Hold.setCell w ⟨g,o,none⟩ v (fun h=>h rfl)).trans (hold_setCells g r (o+1) _)
theorem low1_len (m:Marks) (a b:Nat):(low1 m a b).length=m.length:=by simp [low1]
def Small (m:Marks):Prop:=m.length=13∧∀ k,k<13→0≤m.getD k 0∧m.getD k 0≤1000
theorem Small.low1 {m:Marks} (h:Small m) (a b:Nat) (ha:a<13):Small (low1 m a b):=by
 refine ⟨by rw [low1_len];exact h.1,fun k hk=>?_⟩;unfold Tx.low1;have h1:=h.2 k hk;have h2:=h.2 a ha;simp only [List.getD_eq_getElem?_getD,List.getElem?_set] at *;by_cases hkb:b=k
 ·subst hkb;rw [if_pos rfl,if_pos (by rw [h.1];exact hk)];simp;omega
 ·rw [if_neg hkb];exact h1
theorem Small.row {may:Nat→Nat→Bool} {n:Nat} {m:Marks} (h:Small m) (a:Nat) (ha:a<13):∀ l:List Nat,Small (l.foldl (fun m b=>Tx.low1 m a b) m):=by
 intro l
 induction l generalizing m with
 | nil=>exact h
 | cons x l ih=>exact ih (h.low1 a x ha)
structure LwC (n cw:Nat) (pw:Option Addr) (v1 v2 mv:Value) (w W:World) (M:Marks) (C:Nat) (ds:List Deferred):Prop where
 wk:W.heap[w.heap.size]?=some (.cells #[.slice pw n cw,v1,v2,mv] 84 (0,0))
 mks:W.heap[w.heap.size+1]?=some (.cells (arrOf M) 116 (0,0))
 res:W.heap[w.heap.size+1+1]?=some (.cells (arrOf (List.replicate 13 0)) 116 (0,0))
 bel:Below w.heap.size w W
 ends:Ends (w.heap.size+1+1+1) W C ds
 sz:w.heap.size+1+1+1≤W.heap.size∧C≤W.heap.size
 small:Small M
theorem LwC.below {n cw:Nat} {pw:Option Addr} {v1 v2 mv:Value} {w W W':World} {M:Marks} {C:Nat} {ds:List Deferred} (h:LwC n cw pw v1 v2 mv w W M C ds) {B:Nat} (h3:w.heap.size+1+1+1≤B) (hC:C≤B) (hB:Below B W W'):LwC n cw pw v1 v2 mv w W' M C ds :=
 ⟨(hB.block _ (by omega)).trans h.wk,(hB.block _ (by omega)).trans h.mks,(hB.block _ (by omega)).trans h.res,h.bel.trans (hB.mono (by omega)),h.ends.keep (fun k _ hk=>hB.block k (by omega)),
  ⟨Nat.le_trans h.sz.1 hB.size,Nat.le_trans h.sz.2 hB.size⟩,h.small⟩
def spLw (Mb a b:Nat) (ma mb:Int):Nat→List Value→Value→World→Prop
 | 0,_,v,_=>v=.int .i64 b
 | 1,_,v,_=>v=.int .i64 b
 | 2,_,v,_=>v=.pointer (some ⟨Mb,b,none⟩)
 | 3,_,v,_=>v=.int .i64 mb
 | 4,_,v,_=>v=.int .i64 a
 | 5,_,v,_=>v=.pointer (some ⟨Mb,a,none⟩)
 | 6,_,v,_=>v=.int .i64 ma
 | 7,_,v,_=>v=.int .i64 (ma+1)
 | 8,_,v,_=>v=.int .i64 (min mb (ma+1))
 | 9,_,v,_=>v=.pointer (some ⟨Mb,b,none⟩)
 | _,_,_,_=>False
theorem spLw_stable (Mb a b:Nat) (ma mb:Int):∀ i L v w w',spLw Mb a b ma mb i L v w→(∃ nq,w'=w.drewN nq)→spLw Mb a b ma mb i L v w':=by
 intro i L v w w' h hg
 match i with
 | 0=>exact h
 | 1=>exact h
 | 2=>exact h
 | 3=>exact h
 | 4=>exact h
 | 5=>exact h
 | 6=>exact h
 | 7=>exact h
 | 8=>exact h
 | 9=>exact h
set_option maxHeartbeats 2000000 in
set_option maxRecDepth 100000 in
theorem lowered_any (may:Nat→Nat→Bool) (n cw:Nat) (hn:n≤12) (pw:Option Addr) (v1 v2 mv:Value) (M:Marks) (hM:Small M) (w:World) (hMay:MayAt mv may n (fun k=>k<w.heap.size) w) :
  Calls Tryz.prog 119 #[.agg #[.slice pw n cw,v1,v2,mv],.agg (arrOf M)] w fun e w'=>e=.returned (.agg (arrOf (Tx.lowered may n M)))∧Below w.heap.size w w':=by
 have HMAY:=Lib.hid hMay;have HSM:=Lib.hid hM;have hAsz:=size_marks (by rw [arrOf_size,hM.1]:(arrOf M).size=13);have HASZ:=Lib.hid hAsz;clear hMay hM hAsz;obtain ⟨m,hm9⟩:∃ m:Nat,9≤m:=⟨9,Nat.le_refl _⟩;refine (callsIn_wide (n:=m)).1 ?_;refine callsIn_of_wp_marks Tryz.func119 rfl trivial ?_ rfl;simp only [Tryz.ntmps119,List.size_toArray,List.length_cons,List.length_nil,Nat.reduceAdd,Nat.reduceSub,Array.replicate_succ,Array.replicate_zero,List.push_toArray,List.append_toArray,List.nil_append,List.cons_append]
 gi_wp2_with fail
 refine ⟨trivial,(fun h=>by cases h),?_⟩;refine (callsIn_wide.2 (end_any _ _ _ _ _ _ _)).mono ?_;rintro e w' ⟨rfl,rfl⟩;have hB4:∀ o1 o2 o3 o4,Below w.heap.size w ((((w.alloc o1).alloc o2).alloc o3).alloc o4):=fun o1 o2 o3 o4=>(((below1 _ _).alloc (by simp) _).alloc (by simp;omega) _).alloc (by simp;omega) _;generalize hW3:(((w.alloc (Obj.cells #[Value.slice pw n cw,v1,v2,mv] 84)).alloc (Obj.cells (arrOf M) 116)).alloc (Obj.cells #[Value.int IntKind.i64 0,Value.int IntKind.i64 0,Value.int IntKind.i64 0,Value.int IntKind.i64 0,Value.int IntKind.i64 0,Value.int IntKind.i64 0,Value.int IntKind.i64 0,Value.int IntKind.i64 0,Value.int IntKind.i64 0,Value.int IntKind.i64 0,Value.int IntKind.i64 0,Value.int IntKind.i64 0,Value.int IntKind.i64 0] 116)).alloc (Obj.cells #[Value.slice pw n cw,v1,v2,mv] 84)=W3;have hA3:LwC n cw pw v1 v2 mv w W3 M W3.heap.size []:=by
  have hb3:Below w.heap.size w W3:=by rw [← hW3];exact hB4 _ _ _ _
  refine ⟨?_,?_,?_,hb3,trivial,⟨?_,Nat.le_refl _⟩,HSM.out⟩
  ·rw [← hW3,Below.heap_alloc _ _ _ (by first | (simp;done) | (simp;omega)),Below.heap_alloc _ _ _ (by first | (simp;done) | (simp;omega)),Below.heap_alloc _ _ _ (by simp)];exact heap_last _ _
  ·rw [← hW3,Below.heap_alloc _ _ _ (by first | (simp;done) | (simp;omega)),Below.heap_alloc _ _ _ (by simp)];have:=heap_last (w.alloc (Obj.cells #[Value.slice pw n cw,v1,v2,mv] 84)) (Obj.cells (arrOf M) 116);rwa [World.size_alloc] at this
  ·rw [← hW3,Below.heap_alloc _ _ _ (by simp)];have:=heap_last ((w.alloc (Obj.cells #[Value.slice pw n cw,v1,v2,mv] 84)).alloc (Obj.cells (arrOf M) 116)) (Obj.cells (arrOf (List.replicate 13 0)) 116);rwa [World.size_alloc,World.size_alloc] at this
  ·rw [← hW3];simp
 clear hW3 hB4
 gi_wp2_with fail
 refine wpIn_loop (fun a' w'=>∃ (k:Nat) (ds:List Deferred) (u5 u6 u10 u11 u12 u13 u14 u15 u16 u17 u18 u19 u20 u21 u22 u23 u24 u25 u26 u27:Value),k≤n∧a'={ tmps:=#[.agg #[.slice pw n cw,v1,v2,mv],.agg (arrOf M),.pointer (some ⟨w.heap.size,0,none⟩),.pointer (some ⟨w.heap.size+1,0,none⟩),.pointer (some ⟨w.heap.size+1+1,0,none⟩),u5,u6,.agg #[.slice pw n cw,v1,v2,mv],.int .i64 n,.int .i64 k,u10,u11,u12,u13,u14,u15,u16,u17,u18,u19,u20,u21,u22,u23,u24,u25,u26,u27],defers:=ds }∧LwC n cw pw v1 v2 mv w w' ((List.range k).foldl (lowRow may n) M) w'.heap.size ds) (fun a' _=>n-(intOf (a'.tmps.getD 9 undef)).toNat) ⟨0,[],_,_,_,_,_,_,_,_,_,_,_,_,_,_,_,_,_,_,_,_,Nat.zero_le _,rfl,hA3⟩ ?_;clear hA3;rintro a' wr ⟨k,ds,u5,u6,u10,u11,u12,u13,u14,u15,u16,u17,u18,u19,u20,u21,u22,u23,u24,u25,u26,u27,hk,rfl,hA⟩;have HA:=Lib.hid hA;have hsz0:=hA.sz.1;have f0:=blk_cells hA.wk 0 _ rfl;have f1:=blk_cells hA.wk 1 _ rfl;have f2:=blk_cells hA.wk 2 _ rfl;have f3:=blk_cells hA.wk 3 _ rfl;clear hA;generalize hMk:(List.range k).foldl (lowRow may n) M=Mk at HA;have HMK:=Lib.hid hMk;clear hMk;by_cases hlt:k<n
 ·have hlt':(k:Int)<n:=by omega
  have hs0:w.heap.size<wr.heap.size:=by omega
  gi_wp2_with fail
  refine ⟨trivial,(fun h=>by cases h),?_⟩;refine (callsIn_wide.2 (breaths_any _ _ _ _ _ _)).mono ?_;rintro e W4 ⟨rfl,hW4⟩;have hB4:Below wr.heap.size wr W4:=by rw [← hW4];exact (((below1 _ _).alloc (by simp) _).alloc (by simp;omega) _)
  have hs4:W4.heap.size=wr.heap.size+3:=by rw [← hW4];simp
  have k0:W4.cell? ⟨wr.heap.size,0,none⟩=some (.int .i64 k):=by rw [← hW4];clear hW4;go_simp
  have hC4:BrCap W4 n cw pw v1 v2 mv k (wr.heap.size+1+1) (wr.heap.size+1):=by
   refine ⟨?_,?_⟩
   ·rw [← hW4];have:=heap_last ((wr.alloc (Obj.cells #[Value.int IntKind.i64 k] 3)).alloc (Obj.cells #[Value.slice pw n cw,v1,v2,mv] 84)) (Obj.cells #[Value.int IntKind.i64 k] 3);rwa [World.size_alloc,World.size_alloc] at this
   ·rw [← hW4,Below.heap_alloc _ _ _ (by simp)];have:=heap_last (wr.alloc (Obj.cells #[Value.int IntKind.i64 k] 3)) (Obj.cells #[Value.slice pw n cw,v1,v2,mv] 84);rwa [World.size_alloc] at this
  have hM4:MayAt mv may n (fun j=>j≠w.heap.size+1∧j<W4.heap.size) W4 :=
   (HMAY.out.hold (.of_below (HA.out.bel.trans (hB4.mono (by omega))) (fun _ h _=>h))).mono (fun j hj _=>⟨by omega,by omega⟩)
  have hA4:=HA.out.below (C:=wr.heap.size) hsz0 (Nat.le_refl _) hB4;clear hW4 f0 f1 f2 f3
  gi_wp2_with fail
  refine range_of (gf:=143) (lb:=#[.pointer (some ⟨wr.heap.size+1+1,0,none⟩),.pointer (some ⟨wr.heap.size+1,0,none⟩)]) rfl (enters_of Tryz.func143 (by kernel_rfl) rfl)
   (breaths_seq (m-1) (fun j=>j≠w.heap.size+1) may n cw hn pw v1 v2 mv k _ _ hk W4 ⟨by omega,by omega⟩ hC4 hM4) (Below.refl _ _) (fun x vs W h=>by rw [h];rfl)
   (fun pre W'=>LwC n cw pw v1 v2 mv w W' (pre.foldl (fun m b=>low1 m k b) Mk) W4.heap.size ds∧W'.cell? ⟨wr.heap.size,0,none⟩=some (.int .i64 k)∧W4.heap.size≤W'.heap.size)
   (fun _ _ _=>False) ?lwI ?lwX ⟨⟨hA4.wk,hA4.mks,hA4.res,hA4.bel,hA4.ends.mono (by omega),⟨by omega,Nat.le_refl _⟩,hA4.small⟩,k0,Nat.le_refl _⟩ ?round ?done ?stop
  case lwI =>
   rintro s' X Y ⟨i1,i2,i3⟩ hb;exact ⟨i1.below (by omega) (Nat.le_refl _) hb,(hb.cell (p:=⟨wr.heap.size,0,none⟩) (show wr.heap.size<W4.heap.size by omega)).trans i2,Nat.le_trans i3 hb.size⟩
  case lwX=>rintro c s' X Y h;exact h.elim
  case stop=>rintro D c pre W' hD h;exact h.elim
  case done =>
   rintro D W' hD ⟨i1,i2,i3⟩ hK;have hDl:=(Array.getElem?_eq_some_iff.1 hK).1;have hnext:(List.range (k+1)).foldl (lowRow may n) M=(brs may n k).foldl (fun m b=>low1 m k b) Mk:=by
    rw [List.range_succ,List.foldl_append,HMK.out];rfl
   gi_wp2
   refine ⟨⟨k+1,_,_,_,_,_,_,_,_,_,_,_,_,_,_,_,_,_,_,_,_,_,by omega,rfl,by rw [hnext];exact ⟨i1.wk,i1.mks,i1.res,i1.bel,⟨D,rfl,by omega,hDl,hK,i1.ends.mono (Nat.le_of_eq hD.symm)⟩,⟨i1.sz.1,Nat.le_refl _⟩,i1.small⟩⟩,?_⟩;simp [intOf];omega
  case round =>
   rintro lq pre b post vs W5 hl1 hl2-hL rfl ⟨i1,i2,i3⟩;have hb:k<b∧b≤n:=by
    have:b∈brs may n k:=by rw [hL];simp
    unfold brs at this;have:=(List.mem_filter.1 this).1;rw [List.mem_range'_1] at this;omega
   obtain ⟨hb1,hb2⟩:=hb;clear i1 i2 i3 hA4 hC4 hM4
   gi_wp2
   refine ⟨Below.refl _ _,?_⟩;rintro Wb hg hsz ⟨j1,j2,j3⟩;have hcb:=blk_cells j1.mks b _ (arrOf_get (by rw [j1.small.1];omega));have hca:=blk_cells j1.mks k _ (arrOf_get (by rw [j1.small.1];omega));have hba:=j1.small.2 k (by omega);have hbb:=j1.small.2 b (by omega);have HL1:=Lib.hid (show low1 (pre.foldl (fun m b=>low1 m k b) Mk) k b=(pre.foldl (fun m b=>low1 m k b) Mk).set b (min ((pre.foldl (fun m b=>low1 m k b) Mk).getD b 0) ((pre.foldl (fun m b=>low1 m k b) Mk).getD k 0+1)) from rfl);generalize (pre.foldl (fun m b=>low1 m k b) Mk).getD k 0=ma at hca hba HL1;generalize (pre.foldl (fun m b=>low1 m k b) Mk).getD b 0=mb at hcb hbb HL1;have hsum:IntKind.i64.wrap (ma+1)=ma+1:=IntWalk.i64_in _ (by omega);have hmin:(if ma+1<mb then ma+1 else mb)=min mb (ma+1):=by rw [Int.min_def];split <;> split <;> omega
   have hb13:b<13:=by omega
   have hk13:k<13:=by omega
   have hb13':(b:Int)<13:=by omega
   have hk13':(k:Int)<13:=by omega
   obtain ⟨Mb,hMb⟩:∃ Mb,Mb=w.heap.size+1:=⟨_,rfl⟩;have J1:=Lib.hid j1;have HMb:=Lib.hid hMb;have hca0:=j2;have hfz:Wb.frozen? ⟨Mb,b,none⟩=false:=by simp [World.frozen?,hMb,j1.mks]
   rw [← hMb] at hcb hca;clear j1 hg
   gi_wp2_with fail
   rw [← hMb];clear hMb;refine Rg.region_genI lq (by kernel_rfl) Rg.qt 10 [[],[],[1],[1,2],[],[4],[4,5],[4,5,6],[1,2,3,4,5,6,7],[0,1,2,3,4,5,6,7,8]] [some 16,some 17,some 18,some 19,some 20,some 21,some 22,some 23,some 24,some 25] (spLw Mb k b ma mb) (by kernel_rfl) (by kernel_rfl) rfl (spLw_stable _ _ _ _ _) ?_ ?_
   ·refine ⟨fun V w' hG hs=>?_,fun V w' hG hs=>?_,fun V w' hG hs=>?_,fun V w' hG hs=>?_,fun V w' hG hs=>?_,fun V w' hG hs=>?_,fun V w' hG hs=>?_,fun V w' hG hs=>?_,fun V w' hG hs=>?_,fun V w' hG hs=>?_,trivial⟩
    all_goals
     obtain ⟨nq,rfl⟩:=hG
    ·rw [if_pos (by rfl)];exact Rg.GrowL.value (v:=.int .i64 b) (w':=Wb.drewN nq) (by simp [go_sem,Rs.look]) (Rg.qt.refl _) rfl
    ·rw [if_pos (by rfl)];exact Rg.GrowL.value (v:=.int .i64 b) (w':=Wb.drewN nq) (by simp [go_sem,Rs.look]) (Rg.qt.refl _) rfl
    ·have e1:V 1=_:=hs 1 (by simp);rw [if_pos (by rfl)];exact Rg.GrowL.value (v:=.pointer (some ⟨Mb,b,none⟩)) (w':=Wb.drewN nq) (by simp [go_sem,Rs.look,e1,hb13']) (Rg.qt.refl _) rfl
    ·have e1:V 1=_:=hs 1 (by simp);have e2:V 2=_:=hs 2 (by simp);rw [if_pos (by rfl)];exact Rg.GrowL.value (v:=.int .i64 mb) (w':=Wb.drewN nq) (by simp [go_sem,Rs.look,e1,e2,hcb]) (Rg.qt.refl _) rfl
    ·rw [if_pos (by rfl)];exact Rg.GrowL.value (v:=.int .i64 k) (w':=Wb.drewN nq) (by simp [go_sem,Rs.look,hca0]) (Rg.qt.refl _) rfl
    ·have e4:V 4=_:=hs 4 (by simp);rw [if_pos (by rfl)];exact Rg.GrowL.value (v:=.pointer (some ⟨Mb,k,none⟩)) (w':=Wb.drewN nq) (by simp [go_sem,Rs.look,e4,hk13']) (Rg.qt.refl _) rfl
    ·have e4:V 4=_:=hs 4 (by simp);have e5:V 5=_:=hs 5 (by simp);rw [if_pos (by rfl)];exact Rg.GrowL.value (v:=.int .i64 ma) (w':=Wb.drewN nq) (by simp [go_sem,Rs.look,e4,e5,hca]) (Rg.qt.refl _) rfl
    ·have e4:V 4=_:=hs 4 (by simp);have e5:V 5=_:=hs 5 (by simp);have e6:V 6=_:=hs 6 (by simp);rw [if_pos (by rfl)];exact Rg.GrowL.value (v:=.int .i64 (ma+1)) (w':=Wb.drewN nq) (by simp [go_sem,Rs.look,e4,e5,e6,hsum]) (Rg.qt.refl _) rfl
    ·have e1:V 1=_:=hs 1 (by simp);have e2:V 2=_:=hs 2 (by simp);have e3:V 3=_:=hs 3 (by simp);have e4:V 4=_:=hs 4 (by simp);have e5:V 5=_:=hs 5 (by simp);have e6:V 6=_:=hs 6 (by simp);have e7:V 7=_:=hs 7 (by simp);rw [if_pos (by rfl)];exact Rg.GrowL.value (v:=.int .i64 (min mb (ma+1))) (w':=Wb.drewN nq) (by simp [go_sem,Rs.look,e1,e2,e3,e4,e5,e6,e7,hmin]) (Rg.qt.refl _) rfl
    ·have e0:V 0=_:=hs 0 (by simp);have e1:V 1=_:=hs 1 (by simp);have e2:V 2=_:=hs 2 (by simp);have e3:V 3=_:=hs 3 (by simp);have e4:V 4=_:=hs 4 (by simp);have e5:V 5=_:=hs 5 (by simp);have e6:V 6=_:=hs 6 (by simp);have e7:V 7=_:=hs 7 (by simp);have e8:V 8=_:=hs 8 (by simp);rw [if_pos (by rfl)];exact Rg.GrowL.value (v:=.pointer (some ⟨Mb,b,none⟩)) (w':=Wb.drewN nq) (by simp [go_sem,Rs.look,e0,e1,e2,e3,e4,e5,e6,e7,e8,hb13']) (Rg.qt.refl _) rfl
   ·intro V w' hG hs;have e0:V 0=_:=hs 0 (by omega);have e1:V 1=_:=hs 1 (by omega);have e2:V 2=_:=hs 2 (by omega);have e3:V 3=_:=hs 3 (by omega);have e4:V 4=_:=hs 4 (by omega);have e5:V 5=_:=hs 5 (by omega);have e6:V 6=_:=hs 6 (by omega);have e7:V 7=_:=hs 7 (by omega);have e8:V 8=_:=hs 8 (by omega);have e9:V 9=_:=hs 9 (by omega);simp only [Rs.canon,Rs.dstOf,List.range_succ,List.range_zero,List.nil_append,List.cons_append,List.foldl_cons,List.foldl_nil,List.drop_succ_cons,List.drop_zero,List.drop_nil,List.getElem?_toArray,List.getElem?_cons_succ,List.getElem?_cons_zero,Option.bind_some,Act.put,List.getD_cons_succ,List.getD_cons_zero,List.setIfInBounds_toArray,List.set_cons_succ,List.set_cons_zero];rw [e0,e1,e2,e3,e4,e5,e6,e7,e8,e9];clear e0 e1 e2 e3 e4 e5 e6 e7 e8 e9 hs;clear hca hca0 hsum hmin;obtain ⟨nq,rfl⟩:=hG
    gi_wp2
    have hz:=J1.out.sz.1;have hH:Hold (fun j=>j≠Mb) Wb ((Wb.drewN nq).setCell ⟨Mb,b,none⟩ (.int .i64 (min mb (ma+1)))) :=
     Hold.trans (.below (below_drewN' (Below.refl _ _) nq)) (Hold.setCell _ _ _ (fun h=>h rfl))
    have hblk:=heap_set_same (w:=Wb.drewN nq) (g:=Mb) (o:=b) (.int .i64 (min mb (ma+1))) (cs:=arrOf (pre.foldl (fun m b=>low1 m k b) Mk)) (t:=116) (by rw [HMb.out];exact J1.out.mks);have hnew:(pre++[b]).foldl (fun m b=>low1 m k b) Mk=(pre.foldl (fun m b=>low1 m k b) Mk).set b (min mb (ma+1)):=by rw [List.foldl_append];exact HL1.out
    have hsm:Small ((pre++[b]).foldl (fun m b=>low1 m k b) Mk):=by rw [List.foldl_append];exact J1.out.small.low1 k b hk13
    have hMb:=HMb.out;refine ⟨hH.mono (fun j hj _=>by rcases hj with h | h <;> omega),⟨(hH.same _ (by omega) (by omega)).trans J1.out.wk,by rw [hnew,← hMb,hblk,arrOf_set],(hH.same _ (by omega) (by omega)).trans J1.out.res,?_,J1.out.ends.keep (fun j h1 h2=>hH.same j (by omega) (by omega)),⟨by have:=hH.size;omega,by have:=hH.size;omega⟩,hsm⟩,
     (hH.cell (p:=⟨wr.heap.size,0,none⟩) (show wr.heap.size≠Mb by omega) (show wr.heap.size<Wb.heap.size by omega)).trans j2,by have:=hH.size;omega⟩
    exact (below_drewN' J1.out.bel nq).setCell (p:=⟨Mb,b,none⟩) (show w.heap.size≤Mb by omega) _
 ·obtain rfl:k=n:=by omega
  have hAsz:(arrOf Mk).size=13:=by rw [arrOf_size];exact HA.out.small.1
  have hi:=size_marks hAsz;have hone:=arrOf_one Mk;have hthere:wr.there (w.heap.size+1+1) 0 (arrOf Mk).size:=fun j hj=>by
   have hr:=HA.out.res;rw [Nat.zero_add,blk_cells hr j _ (arrOf_get (by simp;omega))];exact ⟨by simp,by simp [World.frozen?,hr]⟩
  have HROW:=Lib.hid HA.out.mks;have HI:=Lib.hid hi;have HTH:=Lib.hid hthere;have HON:=Lib.hid hone;have HSZ:=Lib.hid hAsz;clear hi hthere hone hAsz f0 f1 f2 f3;generalize hBA:arrOf Mk=BA at HROW HI HTH HON HSZ;have HBA:=Lib.hid hBA;clear hBA;refine wpIn_wide.2 ?_;go_wp2;refine wpIn_wide.2 ?_;go_wp2_with (first | (with_reducible refine wpList_load_row rfl 116 _ rfl (w.heap.size+1) rfl 116 BA (0,0) _ HROW.out und_marks rfl HI.out ?_) | (with_reducible refine wpList_store_mid rfl 116 _ _ rfl (w.heap.size+1+1) 0 BA rfl rfl HTH.out HI.out HON.out ?_))
  have hz:=HA.out.sz.1;have hH:Hold (fun j=>j≠w.heap.size+1+1) wr (wr.setCells (w.heap.size+1+1) 0 BA.toList):=hold_setCells _ _ _ _;have hres2:(wr.setCells (w.heap.size+1+1) 0 BA.toList).heap[w.heap.size+1+1]?=some (.cells BA 116 (0,0)):=by
   rw [heap_setCells _ _ _ _ _ _ _ HA.out.res,setFrom_all _ _ (by rw [Array.length_toList,HSZ.out];simp [arrOf_size])]
  refine leaves_ends (B:=w.heap.size+1+1+1) (by simp) _ wr.heap.size _ (HA.out.ends.keep (fun j h1 h2=>hH.same j (by omega) h2)) hH.size (fun w' hh=>?_);have hres:=(hh.same _ (show w.heap.size+1+1<w.heap.size+1+1+1 by omega) (by have:=hH.size;omega)).trans hres2;refine ⟨.agg BA,results_cell_row rfl _ _ (w.heap.size+1+1) 116 BA (0,0) _ rfl hres und_marks rfl HI.out,?_⟩;exact ⟨by rw [← HBA.out,← HMK.out];rfl,(below_setCells' (by omega) _ _ _ HA.out.bel).trans ((hh.to_below (by have:=hH.size;omega)).mono (by omega))⟩
end Go.Proofs.YtadnggecnjdhiaaGreat
namespace Go.Proofs.YtadnggecnjdhiaaGreat
open Go.RowKit Tx
def topTo (k:Nat):Marks:=(List.range 13).map fun p=>if 1≤p∧p<k then 99 else 0
theorem topTo_len (k:Nat):(topTo k).length=13:=by simp [topTo]
theorem topTo_get (k p:Nat) (hp:p<13):(topTo k).getD p 0=if 1≤p∧p<k then 99 else 0:=by
 simp [topTo,hp]
theorem topTo_set (k:Nat) (h1:1≤k) (h:k<13):(topTo k).set k 99=topTo (k+1):=by
 apply List.ext_getElem?;intro p;rw [List.getElem?_set];unfold topTo;by_cases hp:p<13
 ·by_cases hkp:k=p
  ·subst hkp;simp [hp,h1]
  ·rw [if_neg hkp];simp [hp];by_cases h2:1≤p∧p<k
   ·rw [if_pos h2,if_pos (by omega)]
   ·rw [if_neg h2,if_neg (by omega)]
 ·by_cases hkp:k=p
  ·omega
  ·rw [if_neg hkp];simp [hp]
theorem topTo_top (n:Nat):topTo (n+1)=top n:=by
 unfold topTo top;apply List.map_congr_left;intro p hp;by_cases h:1≤p∧p≤n
 ·rw [if_pos h,if_pos (by omega)]
 ·rw [if_neg h,if_neg (by omega)]
theorem top_small (n:Nat):Small (top n):=by
 rw [← topTo_top];refine ⟨topTo_len _,fun k hk=>?_⟩;rw [topTo_get _ _ hk];split <;> omega
theorem Small.rows {may:Nat→Nat→Bool} {n:Nat} (hn:n≤13):∀ (l:List Nat) (m:Marks),Small m→(∀ a∈l,a<13)→Small (l.foldl (lowRow may n) m)
 | [],m,h,_=>h
 | a::l,m,h,ha=>Small.rows hn l _ (Small.row (may:=may) (n:=n) h a (ha a (by simp)) _) (fun x hx=>ha x (by simp [hx]))
theorem greatest_small {may:Nat→Nat→Bool} {n:Nat} (hn:n≤12):Small (greatest may n) :=
 Small.rows (by omega) _ _ (top_small n) (fun a ha=>by have:=List.mem_range.1 ha;omega)
set_option maxHeartbeats 1000000 in
set_option maxRecDepth 100000 in
theorem greatest_any (may:Nat→Nat→Bool) (n cw:Nat) (hn:n≤12) (pw:Option Addr) (v1 v2 mv:Value) (w:World) (hMay:MayAt mv may n (fun k=>k<w.heap.size) w) :
  Calls Tryz.prog 70 #[.agg #[.slice pw n cw,v1,v2,mv]] w fun e w'=>e=.returned (.agg (arrOf (greatest may n)))∧Below w.heap.size w w':=by
 have HMAY:=Lib.hid hMay;clear hMay
 go_enter Tryz.func70,Tryz.ntmps70
 go_wp2_with fail
 have hB3:∀ o1 o2 o3,Below w.heap.size w (((w.alloc o1).alloc o2).alloc o3):=fun o1 o2 o3=>((below1 _ _).alloc (by simp) _).alloc (by simp;omega) _;generalize hW3:((w.alloc (Obj.cells #[Value.slice pw n cw,v1,v2,mv] 84)).alloc (Obj.cells #[Value.int IntKind.i64 0,Value.int IntKind.i64 0,Value.int IntKind.i64 0,Value.int IntKind.i64 0,Value.int IntKind.i64 0,Value.int IntKind.i64 0,Value.int IntKind.i64 0,Value.int IntKind.i64 0,Value.int IntKind.i64 0,Value.int IntKind.i64 0,Value.int IntKind.i64 0,Value.int IntKind.i64 0,Value.int IntKind.i64 0] 116)).alloc (Obj.cells #[Value.int IntKind.i64 0,Value.int IntKind.i64 0,Value.int IntKind.i64 0,Value.int IntKind.i64 0,Value.int IntKind.i64 0,Value.int IntKind.i64 0,Value.int IntKind.i64 0,Value.int IntKind.i64 0,Value.int IntKind.i64 0,Value.int IntKind.i64 0,Value.int IntKind.i64 0,Value.int IntKind.i64 0,Value.int IntKind.i64 0] 116)=W3;have hz:arrOf (List.replicate 13 0)=arrOf (topTo 1):=congrArg arrOf (by decide);have hA3:W3.heap[w.heap.size]?=some (.cells #[.slice pw n cw,v1,v2,mv] 84 (0,0))∧W3.heap[w.heap.size+1]?=some (.cells (arrOf (List.replicate 13 0)) 116 (0,0))∧W3.heap[w.heap.size+1+1]?=some (.cells (arrOf (topTo 1)) 116 (0,0))∧Below w.heap.size w W3∧w.heap.size+3≤W3.heap.size:=by
  refine ⟨?_,?_,?_,by rw [← hW3];exact hB3 _ _ _,by rw [← hW3];simp⟩
  ·rw [← hW3,Below.heap_alloc _ _ _ (by first | (simp;done) | (simp;omega)),Below.heap_alloc _ _ _ (by simp)];exact heap_last _ _
  ·rw [← hW3,Below.heap_alloc _ _ _ (by simp)];have:=heap_last (w.alloc (Obj.cells #[Value.slice pw n cw,v1,v2,mv] 84)) (Obj.cells (arrOf (List.replicate 13 0)) 116);rwa [World.size_alloc] at this
  ·rw [← hW3,← hz];have:=heap_last ((w.alloc (Obj.cells #[Value.slice pw n cw,v1,v2,mv] 84)).alloc (Obj.cells (arrOf (List.replicate 13 0)) 116)) (Obj.cells (arrOf (List.replicate 13 0)) 116);rwa [World.size_alloc,World.size_alloc] at this
 clear hW3 hB3 hz
 go_loopw [4] (fun i wr=>∃ k:Nat,1≤k∧k≤n+1∧i=.int .i64 k∧wr.heap[w.heap.size]?=some (.cells #[.slice pw n cw,v1,v2,mv] 84 (0,0))∧wr.heap[w.heap.size+1]?=some (.cells (arrOf (List.replicate 13 0)) 116 (0,0))∧wr.heap[w.heap.size+1+1]?=some (.cells (arrOf (topTo k)) 116 (0,0))∧Below w.heap.size w wr∧w.heap.size+3≤wr.heap.size) (fun i _=>n+1-(intOf i).toNat)
 case atStart=>exact ⟨1,by omega,by omega,rfl,hA3⟩
 case round =>
  obtain ⟨k,hk1,hk2,rfl,h1,h2,h3,hB,hs⟩:=hrel;clear hA3;have f0:=blk_cells h1 0 _ rfl;have f1:=blk_cells h1 1 _ rfl;have f2:=blk_cells h1 2 _ rfl;have f3:=blk_cells h1 3 _ rfl;have hs0:w.heap.size<wr.heap.size∧w.heap.size+1+1<wr.heap.size:=by omega
  obtain ⟨hs0,hs2⟩:=hs0;have H1:=Lib.hid h1;have H2:=Lib.hid h2;have H3:=Lib.hid h3;have HB:=Lib.hid hB;clear h1 h2 h3 hB;go_wp2_with fail
  refine (end_any _ _ _ _ _ _ _).mono ?_;rintro e w' ⟨rfl,rfl⟩;by_cases hlt:k≤n
  ·have hlt':(k:Int)≤n:=by omega
   have hk13:(k:Int)<13:=by omega
   have hcell:=blk_cells H3.out k _ (arrOf_get (by rw [topTo_len];omega));have hfz:wr.frozen? ⟨w.heap.size+1+1,k,none⟩=false:=by simp [World.frozen?,H3.out]
   go_wp2;go_roundw
   case rel =>
    have hne:∀ g,g≠w.heap.size+1+1→g<wr.heap.size→((wr.setCell ⟨w.heap.size+1+1,k,none⟩ (.int .i64 99)).alloc (.cells #[.slice pw n cw,v1,v2,mv] 84)).heap[g]?=wr.heap[g]?:=fun g hg hl =>
     (Below.heap_alloc _ _ _ (by simpa using hl)).trans (Below.heap_setCell _ _ _ _ hg)
    refine ⟨k+1,by omega,by omega,by go_num,(hne _ (by omega) (by omega)).trans H1.out,(hne _ (by omega) (by omega)).trans H2.out,?_,belA (belS HB.out (by omega)) (by simp;omega),by simp;omega⟩;rw [Below.heap_alloc _ _ _ (by simpa using hs2),heap_set_same _ H3.out,arrOf_set,topTo_set k hk1 (by omega)]
   case measure=>simp [intOf];omega
  ·obtain rfl:k=n+1:=by omega
   have h4:=topTo_top n;have HT:=Lib.hid ((Below.heap_alloc wr (.cells #[.slice pw n cw,v1,v2,mv] 84) _ hs2).trans (h4 ▸ H3.out));have HI:=Lib.hid (size_marks (by rw [arrOf_size];exact (top_small n).1:(arrOf (top n)).size=13));have HBA:=Lib.hid (belA (o:=.cells #[.slice pw n cw,v1,v2,mv] 84) HB.out (by omega));have HLO:=Lib.hid (lowered_any may n cw hn pw v1 v2 mv (top n) (top_small n) (wr.alloc (.cells #[.slice pw n cw,v1,v2,mv] 84)) ((HMAY.out.hold (.of_below HBA.out (fun _ h _=>h))).mono (fun j hj _=>by simp;omega)));clear h4;go_wp2_with (with_reducible refine wpList_load_row rfl 116 _ rfl (w.heap.size+1+1) rfl 116 (arrOf (top n)) (0,0) _ HT.out und_marks rfl HI.out ?_)
   refine HLO.out.mono ?_;rintro e w5 ⟨rfl,hB5⟩;have HB5:=Lib.hid hB5;have hsz:(arrOf (Tx.lowered may n (top n))).size=13:=by rw [arrOf_size];exact (greatest_small (may:=may) hn).1
   have HI2:=Lib.hid (size_marks hsz);have HON:=Lib.hid (arrOf_one (Tx.lowered may n (top n)));have hr5:=(hB5.block (w.heap.size+1) (by simp;omega)).trans ((Below.heap_alloc _ _ _ (by omega)).trans H2.out);have hthere:w5.there (w.heap.size+1) 0 (arrOf (Tx.lowered may n (top n))).size:=fun j hj=>by
    rw [Nat.zero_add,blk_cells hr5 j _ (arrOf_get (by simp;omega))];exact ⟨by simp,by simp [World.frozen?,hr5]⟩
   have HTH:=Lib.hid hthere;have HR5:=Lib.hid hr5;have HSZ:=Lib.hid hsz;clear hB5 hr5 hthere hsz HLO;generalize hBA:arrOf (Tx.lowered may n (top n))=BA at HI2 HON HTH HSZ;have HE:=Lib.hid hBA;clear hBA;go_wp2_with (with_reducible refine wpList_store_mid rfl 116 _ _ rfl (w.heap.size+1) 0 BA rfl rfl HTH.out HI2.out HON.out ?_)
   have hres2:(w5.setCells (w.heap.size+1) 0 BA.toList).heap[w.heap.size+1]?=some (.cells BA 116 (0,0)):=by
    rw [heap_setCells _ _ _ _ _ _ _ HR5.out,setFrom_all _ _ (by rw [Array.length_toList,HSZ.out];simp [arrOf_size])]
   try rw [Exit.noGoto_ret]
   refine bodyPost_ret (results_cell_row rfl _ _ (w.heap.size+1) 116 BA (0,0) _ rfl hres2 und_marks rfl HI2.out) rfl ⟨by rw [← HE.out];rfl,below_setCells' (by omega) _ _ _ (HBA.out.trans (HB5.out.mono (by have:=HBA.out.size;omega)))⟩
end Go.Proofs.YtadnggecnjdhiaaGreat
namespace Go.Proofs.YtadnggecnjdhiaaGreat
open Go.RowKit Tx
theorem exec_load_row {P:Program} {o:Oper} {ρ:Operand→Value} {w:World} (ty:TypeId) (x:Operand) (ho:o.op=.load ty x)
  (g:Nat) (hx:ρ x=.pointer (some ⟨g,0,none⟩)) (t:TypeId) (cs:Array Value) (fr:Nat × Nat) (d:TypeDesc) (hg:w.heap[g]?=some (.cells cs t fr))
  (hu:P.underlying ty=some d) (hd:(match d with | .struct _ | .array _ _=>true | _=>false)=true) (hi:(P.info? ty).map (·.size)=some cs.size) :
  (execOp ρ o).run P w=.ok (.value (.agg cs)) w:=by
 unfold execOp;simp only [ho,hx,Instr.loadAt,Instr.sureAddr,Sem.run_bind,Sem.run_pure,Result.andThen_ok,run_loadVar_row w g t ty cs fr d hg hu hd hi]
theorem reached_any (v0 v1 v2 v3:Value) (M:Marks) (hM:M.length=13) (p:Nat) (hp:p<13) (w:World) :
  Calls Tryz.prog 71 #[.agg #[v0,v1,v2,v3],.agg (arrOf M),.int .i64 p] w fun e w'=>e=.returned (.bool (decide (M.getD p 0<99)))∧Below w.heap.size w w':=by
 have hx:((w.alloc (.cells #[v0,v1,v2,v3] 84)).alloc (.cells (arrOf M) 116)).heap[w.heap.size+1]?=some (.cells (arrOf M) 116 (0,0)):=by
  have:=heap_last (w.alloc (.cells #[v0,v1,v2,v3] 84)) (.cells (arrOf M) 116);rwa [World.size_alloc] at this
 have hc:=blk_cells hx p _ (arrOf_get (by omega));have hp':(p:Int)<13:=by omega
 clear hx;generalize M.getD p 0=x at hc ⊢
 go_enter Tryz.func71,Tryz.ntmps71
 go_wp2;go_ret;exact ⟨rfl,(below1 _ _).alloc (by simp) _⟩
end Go.Proofs.YtadnggecnjdhiaaGreat
namespace Go.Proofs.YtadnggecnjdhiaaGreat
open Go.RowKit Tx
def spBf1 (Mb A2 a b:Nat) (ma mb:Int) (F:FuncId) (first caps:Array Value) (r:Bool):Nat→List Value→Value→World→Prop
 | 0,_,v,_=>v=.int .i64 a
 | 1,_,v,_=>v=.pointer (some ⟨Mb,a,none⟩)
 | 2,_,v,_=>v=.int .i64 ma
 | 3,_,v,_=>v=.int .i64 (ma+1)
 | 4,_,v,_=>v=.int .i64 b
 | 5,_,v,_=>v=.pointer (some ⟨Mb,b,none⟩)
 | 6,_,v,_=>v=.int .i64 mb
 | 7,_,v,_=>v=.bool true
 | 8,_,v,_=>v=.bool true
 | 9,_,v,_=>v=.pointer (some ⟨A2,3,none⟩)
 | 10,_,v,_=>v=.func (.func F) first caps
 | 11,_,v,_=>v=.int .i64 a
 | 12,_,v,_=>v=.int .i64 b
 | 13,_,v,_=>v=.bool r
 | 14,_,v,_=>v=.bool r
 | _,_,_,_=>False
theorem spBf1_stable (Mb A2 a b:Nat) (ma mb:Int) (F:FuncId) (first caps:Array Value) (r:Bool):∀ i L v w w',spBf1 Mb A2 a b ma mb F first caps r i L v w→Rs.Gr w w'→spBf1 Mb A2 a b ma mb F first caps r i L v w':=by
 intro i L v w w' h hg
 match i with
 | 0=>exact h
 | 1=>exact h
 | 2=>exact h
 | 3=>exact h
 | 4=>exact h
 | 5=>exact h
 | 6=>exact h
 | 7=>exact h
 | 8=>exact h
 | 9=>exact h
 | 10=>exact h
 | 11=>exact h
 | 12=>exact h
 | 13=>exact h
 | 14=>exact h
def spBf0 (Mb A2 a b:Nat) (ma mb:Int) (F:FuncId) (first caps:Array Value) (r:Bool):Nat→List Value→Value→World→Prop
 | 0,_,v,_=>v=.int .i64 a
 | 1,_,v,_=>v=.pointer (some ⟨Mb,a,none⟩)
 | 2,_,v,_=>v=.int .i64 ma
 | 3,_,v,_=>v=.int .i64 (ma+1)
 | 4,_,v,_=>v=.int .i64 b
 | 5,_,v,_=>v=.pointer (some ⟨Mb,b,none⟩)
 | 6,_,v,_=>v=.int .i64 mb
 | 7,_,v,_=>v=.bool false
 | 8,_,v,_=>v=.bool false
 | 9,_,v,_=>v=undef
 | 10,_,v,_=>v=undef
 | 11,_,v,_=>v=undef
 | 12,_,v,_=>v=undef
 | 13,_,v,_=>v=undef
 | 14,_,v,_=>v=.bool false
 | _,_,_,_=>False
theorem spBf0_stable (Mb A2 a b:Nat) (ma mb:Int) (F:FuncId) (first caps:Array Value) (r:Bool):∀ i L v w w',spBf0 Mb A2 a b ma mb F first caps r i L v w→Rs.Gr w w'→spBf0 Mb A2 a b ma mb F first caps r i L v w':=by
 intro i L v w w' h hg
 match i with
 | 0=>exact h
 | 1=>exact h
 | 2=>exact h
 | 3=>exact h
 | 4=>exact h
 | 5=>exact h
 | 6=>exact h
 | 7=>exact h
 | 8=>exact h
 | 9=>exact h
 | 10=>exact h
 | 11=>exact h
 | 12=>exact h
 | 13=>exact h
 | 14=>exact h
theorem find_hit {p:Nat→Bool} {b k:Nat} (hk:k<b) (h1:∀ j,j<k→p j=false) (h2:p k=true):((List.range b).find? p).getD 0=k:=by
 have:(List.range b).find? p=some k:=by
  rw [show b=k+(b-k) by omega,List.range_add,List.find?_append];rw [show (List.range k).find? p=none from by rw [List.find?_eq_none];intro x hx;rw [h1 x (List.mem_range.1 hx)];decide];rw [Option.none_or,show b-k=(b-k-1)+1 by omega,List.range_succ_eq_map];simp [h2]
 rw [this];rfl
theorem find_none {p:Nat→Bool} {b:Nat} (h1:∀ j,j<b→p j=false):((List.range b).find? p).getD 0=0:=by
 rw [show (List.range b).find? p=none from by rw [List.find?_eq_none];intro x hx;rw [h1 x (List.mem_range.1 hx)];decide];rfl
set_option maxHeartbeats 2000000 in
set_option maxRecDepth 100000 in
theorem before_any (may:Nat→Nat→Bool) (n cw:Nat) (hn:n≤12) (pw:Option Addr) (v1 v2 mv:Value) (M:Marks) (hM:Small M) (b:Nat) (hb:b≤n) (w:World) (hMay:MayAt mv may n (fun k=>k<w.heap.size) w) :
  Calls Tryz.prog 94 #[.agg #[.slice pw n cw,v1,v2,mv],.agg (arrOf M),.int .i64 b] w fun e w'=>e=.returned (.int .i64 (before may M b))∧Below w.heap.size w w':=by
 obtain ⟨F,first,caps,rfl,hF,hMay⟩:=hMay;have HF:=Lib.hid hF;have HMAY:=Lib.hid hMay;clear hF hMay;have hx:((w.alloc (.cells #[.slice pw n cw,v1,v2,.func (.func F) first caps] 84)).alloc (.cells (arrOf M) 116)).heap[w.heap.size+1]?=some (.cells (arrOf M) 116 (0,0)):=by
  have:=heap_last (w.alloc (.cells #[.slice pw n cw,v1,v2,.func (.func F) first caps] 84)) (.cells (arrOf M) 116);rwa [World.size_alloc] at this
 have hx0:((w.alloc (.cells #[.slice pw n cw,v1,v2,.func (.func F) first caps] 84)).alloc (.cells (arrOf M) 116)).heap[w.heap.size]?=some (.cells #[.slice pw n cw,v1,v2,.func (.func F) first caps] 84 (0,0)):=by
  rw [Below.heap_alloc _ _ _ (by simp)];exact heap_last _ _
 have hbw:Below w.heap.size w ((w.alloc (.cells #[.slice pw n cw,v1,v2,.func (.func F) first caps] 84)).alloc (.cells (arrOf M) 116)):=(below1 _ _).alloc (by simp) _;have hsz:w.heap.size+2≤((w.alloc (.cells #[.slice pw n cw,v1,v2,.func (.func F) first caps] 84)).alloc (.cells (arrOf M) 116)).heap.size:=by simp
 have HX:=Lib.hid hx;have HX0:=Lib.hid hx0;have HBW:=Lib.hid hbw;clear hx hx0 hbw
 go_enter Tryz.func94,Tryz.ntmps94
 go_wp2_with fail
 generalize (w.alloc (.cells #[.slice pw n cw,v1,v2,.func (.func F) first caps] 84)).alloc (.cells (arrOf M) 116)=W1 at HX HX0 HBW hsz ⊢
 go_loopw [7,9] (fun u i wr=>∃ k:Nat,k≤b∧i=.int .i64 k∧(∀ j,j<k→befP may M b j=false)∧Below W1.heap.size W1 wr) (fun _ i _=>b-(intOf i).toNat)
 case atStart=>exact ⟨0,Nat.zero_le _,rfl,fun j hj=>absurd hj (Nat.not_lt_zero _),Below.refl _ _⟩
 case round =>
  obtain ⟨k,hk,rfl,hA,hB⟩:=hrel;have HA:=Lib.hid hA;have HB:=Lib.hid hB;have hzr:=hB.size;clear hA hB;by_cases hlt:k<b
  ·have hlt':(k:Int)<b:=by omega
   have hs0:w.heap.size<wr.heap.size:=by omega
   have hs1:w.heap.size+1<wr.heap.size:=by omega
   have hca:=(HB.out.cell (p:=⟨w.heap.size+1,k,none⟩) (show w.heap.size+1<W1.heap.size by omega)).trans (blk_cells HX.out k _ (arrOf_get (by rw [hM.1];omega)));have hcb:=(HB.out.cell (p:=⟨w.heap.size+1,b,none⟩) (show w.heap.size+1<W1.heap.size by omega)).trans (blk_cells HX.out b _ (arrOf_get (by rw [hM.1];omega)));have hc3:=(HB.out.cell (p:=⟨w.heap.size,3,none⟩) (show w.heap.size<W1.heap.size by omega)).trans (blk_cells HX0.out 3 _ rfl);have hba:=hM.2 k (by omega);have hbb:=hM.2 b (by omega);have HP:=Lib.hid (show befP may M b k=(M.getD k 0+1 == M.getD b 0&&may k b) from rfl);generalize M.getD k 0=ma at hca hba HP;generalize M.getD b 0=mb at hcb hbb HP;have HCA:=Lib.hid hca;have HCB:=Lib.hid hcb;have HC3:=Lib.hid hc3;have hb13':(b:Int)<13:=by omega
   have hk13':(k:Int)<13:=by omega
   have hsum:IntKind.i64.wrap (ma+1)=ma+1:=IntWalk.i64_in _ (by omega);clear hca hcb hc3;by_cases heq:(ma+1 == mb)=true
   ·have HASK:=Lib.hid (fun W (h:Below wr.heap.size wr W)=>HMAY.out W (.of_below (HBW.out.trans ((HB.out.trans (h.mono hzr)).mono (by omega))) (fun _ h _=>h)) k b hlt hb);have HEQ:=Lib.hid heq;have hFr:True:=trivial;go_wp2_with fail
    clear hsum;have hsum:IntKind.i64.wrap (ma+1)=ma+1:=IntWalk.i64_in _ (by omega);refine Rs.region_gen 15 [[],[0],[0,1],[0,1,2],[],[4],[4,5],[0,1,2,3,4,5,6],[0,1,2,3,4,5,6,7],[0,1,2,3,4,5,6,7,8],[0,1,2,3,4,5,6,7,8,9],[0,1,2,3,4,5,6,7,8],[0,1,2,3,4,5,6,7,8],[0,1,2,3,4,5,6,7,8,9,10,11,12],[0,1,2,3,4,5,6,7,8,9,10,11,12,13]] [some 12,some 13,some 14,some 15,some 16,some 17,some 18,some 19,some 20,some 21,some 22,some 23,some 24,some 25,some 26] (spBf1 (w.heap.size+1) w.heap.size k b ma mb F first caps (may k b)) (by kernel_rfl) (by kernel_rfl) rfl (spBf1_stable _ _ _ _ _ _ _ _ _ _) ?_ ?_
    ·refine ⟨fun V w' hG hs=>?_,fun V w' hG hs=>?_,fun V w' hG hs=>?_,fun V w' hG hs=>?_,fun V w' hG hs=>?_,fun V w' hG hs=>?_,fun V w' hG hs=>?_,fun V w' hG hs=>?_,fun V w' hG hs=>?_,fun V w' hG hs=>?_,fun V w' hG hs=>?_,fun V w' hG hs=>?_,fun V w' hG hs=>?_,fun V w' hG hs=>?_,fun V w' hG hs=>?_,trivial⟩
     all_goals
      obtain ⟨bc,_⟩:=bcell hG;have hca:=(bc (w.heap.size+1) k hs1).trans HCA.out;have hcb:=(bc (w.heap.size+1) b hs1).trans HCB.out;have hc3:=(bc w.heap.size 3 hs0).trans HC3.out;clear bc
     ·rw [if_pos (by rfl)];exact Rs.GrowL.value (v:=.int .i64 k) (w':=w') (by simp [go_sem,Rs.look]) (Rs.Gr.refl _) rfl
     ·have e0:V 0=_:=hs 0 (by simp);rw [if_pos (by rfl)];exact Rs.GrowL.value (v:=.pointer (some ⟨(w.heap.size+1),k,none⟩)) (w':=w') (by simp [go_sem,Rs.look,e0,hk13']) (Rs.Gr.refl _) rfl
     ·have e0:V 0=_:=hs 0 (by simp);have e1:V 1=_:=hs 1 (by simp);rw [if_pos (by rfl)];exact Rs.GrowL.value (v:=.int .i64 ma) (w':=w') (by simp [go_sem,Rs.look,e0,e1,hca]) (Rs.Gr.refl _) rfl
     ·have e0:V 0=_:=hs 0 (by simp);have e1:V 1=_:=hs 1 (by simp);have e2:V 2=_:=hs 2 (by simp);rw [if_pos (by rfl)];exact Rs.GrowL.value (v:=.int .i64 (ma+1)) (w':=w') (by simp [go_sem,Rs.look,e0,e1,e2,hsum]) (Rs.Gr.refl _) rfl
     ·rw [if_pos (by rfl)];exact Rs.GrowL.value (v:=.int .i64 b) (w':=w') (by simp [go_sem,Rs.look]) (Rs.Gr.refl _) rfl
     ·have e4:V 4=_:=hs 4 (by simp);rw [if_pos (by rfl)];exact Rs.GrowL.value (v:=.pointer (some ⟨(w.heap.size+1),b,none⟩)) (w':=w') (by simp [go_sem,Rs.look,e4,hb13']) (Rs.Gr.refl _) rfl
     ·have e4:V 4=_:=hs 4 (by simp);have e5:V 5=_:=hs 5 (by simp);rw [if_pos (by rfl)];exact Rs.GrowL.value (v:=.int .i64 mb) (w':=w') (by simp [go_sem,Rs.look,e4,e5,hcb]) (Rs.Gr.refl _) rfl
     ·have e0:V 0=_:=hs 0 (by simp);have e1:V 1=_:=hs 1 (by simp);have e2:V 2=_:=hs 2 (by simp);have e3:V 3=_:=hs 3 (by simp);have e4:V 4=_:=hs 4 (by simp);have e5:V 5=_:=hs 5 (by simp);have e6:V 6=_:=hs 6 (by simp);rw [if_pos (by rfl)];exact Rs.GrowL.value (v:=.bool true) (w':=w') (by simp [go_sem,Rs.look,e0,e1,e2,e3,e4,e5,e6,heq]) (Rs.Gr.refl _) rfl
     ·have e0:V 0=_:=hs 0 (by simp);have e1:V 1=_:=hs 1 (by simp);have e2:V 2=_:=hs 2 (by simp);have e3:V 3=_:=hs 3 (by simp);have e4:V 4=_:=hs 4 (by simp);have e5:V 5=_:=hs 5 (by simp);have e6:V 6=_:=hs 6 (by simp);have e7:V 7=_:=hs 7 (by simp);rw [if_pos (by rfl)];exact Rs.GrowL.value (v:=.bool true) (w':=w') (by simp [go_sem,Rs.look,e0,e1,e2,e3,e4,e5,e6,e7]) (Rs.Gr.refl _) rfl
     ·have e0:V 0=_:=hs 0 (by simp);have e1:V 1=_:=hs 1 (by simp);have e2:V 2=_:=hs 2 (by simp);have e3:V 3=_:=hs 3 (by simp);have e4:V 4=_:=hs 4 (by simp);have e5:V 5=_:=hs 5 (by simp);have e6:V 6=_:=hs 6 (by simp);have e7:V 7=_:=hs 7 (by simp);have e8:V 8=_:=hs 8 (by simp);rw [if_pos (by simp [Rs.wantB,e8])];exact Rs.GrowL.value (v:=.pointer (some ⟨w.heap.size,3,none⟩)) (w':=w') (by simp [go_sem,Rs.look,e0,e1,e2,e3,e4,e5,e6,e7,e8]) (Rs.Gr.refl _) rfl
     ·have e0:V 0=_:=hs 0 (by simp);have e1:V 1=_:=hs 1 (by simp);have e2:V 2=_:=hs 2 (by simp);have e3:V 3=_:=hs 3 (by simp);have e4:V 4=_:=hs 4 (by simp);have e5:V 5=_:=hs 5 (by simp);have e6:V 6=_:=hs 6 (by simp);have e7:V 7=_:=hs 7 (by simp);have e8:V 8=_:=hs 8 (by simp);have e9:V 9=_:=hs 9 (by simp);rw [if_pos (by simp [Rs.wantB,e8])];exact Rs.GrowL.value (v:=.func (.func F) first caps) (w':=w') (by simp [go_sem,Rs.look,e0,e1,e2,e3,e4,e5,e6,e7,e8,e9,hc3]) (Rs.Gr.refl _) rfl
     ·have e0:V 0=_:=hs 0 (by simp);have e1:V 1=_:=hs 1 (by simp);have e2:V 2=_:=hs 2 (by simp);have e3:V 3=_:=hs 3 (by simp);have e4:V 4=_:=hs 4 (by simp);have e5:V 5=_:=hs 5 (by simp);have e6:V 6=_:=hs 6 (by simp);have e7:V 7=_:=hs 7 (by simp);have e8:V 8=_:=hs 8 (by simp);rw [if_pos (by simp [Rs.wantB,e8])];exact Rs.GrowL.value (v:=.int .i64 k) (w':=w') (by simp [go_sem,Rs.look,e0,e1,e2,e3,e4,e5,e6,e7,e8]) (Rs.Gr.refl _) rfl
     ·have e0:V 0=_:=hs 0 (by simp);have e1:V 1=_:=hs 1 (by simp);have e2:V 2=_:=hs 2 (by simp);have e3:V 3=_:=hs 3 (by simp);have e4:V 4=_:=hs 4 (by simp);have e5:V 5=_:=hs 5 (by simp);have e6:V 6=_:=hs 6 (by simp);have e7:V 7=_:=hs 7 (by simp);have e8:V 8=_:=hs 8 (by simp);rw [if_pos (by simp [Rs.wantB,e8])];exact Rs.GrowL.value (v:=.int .i64 b) (w':=w') (by simp [go_sem,Rs.look,e0,e1,e2,e3,e4,e5,e6,e7,e8]) (Rs.Gr.refl _) rfl
     ·have e0:V 0=_:=hs 0 (by simp);have e1:V 1=_:=hs 1 (by simp);have e2:V 2=_:=hs 2 (by simp);have e3:V 3=_:=hs 3 (by simp);have e4:V 4=_:=hs 4 (by simp);have e5:V 5=_:=hs 5 (by simp);have e6:V 6=_:=hs 6 (by simp);have e7:V 7=_:=hs 7 (by simp);have e8:V 8=_:=hs 8 (by simp);have e9:V 9=_:=hs 9 (by simp);have e10:V 10=_:=hs 10 (by simp);have e11:V 11=_:=hs 11 (by simp);have e12:V 12=_:=hs 12 (by simp);rw [if_pos (by simp [Rs.wantB,e8])];refine Rs.GrowL.call (f:=F) (args:=first++(#[.int .i64 k,.int .i64 b]++caps)) (by simp [go_sem,Rs.look,e10,e11,e12];exact HF.out _ _) ?_;refine (HASK.out w' hG).mono ?_;rintro e w2 ⟨rfl,hB2⟩;exact ⟨_,rfl,hB2,rfl⟩
     ·have e0:V 0=_:=hs 0 (by simp);have e1:V 1=_:=hs 1 (by simp);have e2:V 2=_:=hs 2 (by simp);have e3:V 3=_:=hs 3 (by simp);have e4:V 4=_:=hs 4 (by simp);have e5:V 5=_:=hs 5 (by simp);have e6:V 6=_:=hs 6 (by simp);have e7:V 7=_:=hs 7 (by simp);have e8:V 8=_:=hs 8 (by simp);have e9:V 9=_:=hs 9 (by simp);have e10:V 10=_:=hs 10 (by simp);have e11:V 11=_:=hs 11 (by simp);have e12:V 12=_:=hs 12 (by simp);have e13:V 13=_:=hs 13 (by simp);rw [if_pos (by rfl)];exact Rs.GrowL.value (v:=.bool (may k b)) (w':=w') (by simp [go_sem,Rs.look,e0,e1,e2,e3,e4,e5,e6,e7,e8,e9,e10,e11,e12,e13]) (Rs.Gr.refl _) rfl
    ·intro V w' hG hs;have e0:V 0=_:=hs 0 (by omega);have e1:V 1=_:=hs 1 (by omega);have e2:V 2=_:=hs 2 (by omega);have e3:V 3=_:=hs 3 (by omega);have e4:V 4=_:=hs 4 (by omega);have e5:V 5=_:=hs 5 (by omega);have e6:V 6=_:=hs 6 (by omega);have e7:V 7=_:=hs 7 (by omega);have e8:V 8=_:=hs 8 (by omega);have e9:V 9=_:=hs 9 (by omega);have e10:V 10=_:=hs 10 (by omega);have e11:V 11=_:=hs 11 (by omega);have e12:V 12=_:=hs 12 (by omega);have e13:V 13=_:=hs 13 (by omega);have e14:V 14=_:=hs 14 (by omega);simp only [Rs.canon,Rs.dstOf,List.range_succ,List.range_zero,List.nil_append,List.cons_append,List.foldl_cons,List.foldl_nil,List.drop_succ_cons,List.drop_zero,List.drop_nil,List.getElem?_toArray,List.getElem?_cons_succ,List.getElem?_cons_zero,Option.bind_some,Act.put,List.getD_cons_succ,List.getD_cons_zero,List.setIfInBounds_toArray,List.set_cons_succ,List.set_cons_zero];rw [e0,e1,e2,e3,e4,e5,e6,e7,e8,e9,e10,e11,e12,e13,e14];clear e0 e1 e2 e3 e4 e5 e6 e7 e8 e9 e10 e11 e12 e13 e14 hs;clear hsum heq HASK;cases hr:may k b with
     | true =>
      have HR:=Lib.hid hr;clear hr;go_wp2;go_ret;refine ⟨ret_int ?_,HBW.out.trans ((join HB.out hG).mono (by omega))⟩;unfold before;rw [find_hit hlt HA.out (by rw [HP.out,HEQ.out,HR.out];rfl)]
     | false =>
      have HR:=Lib.hid hr;clear hr;go_wp2;go_roundw
      case rel =>
       refine ⟨k+1,by omega,by go_num,fun j hj=>?_,join HB.out hG⟩;by_cases hjk:j=k
       ·subst hjk;rw [HP.out,HEQ.out,HR.out];rfl
       ·exact HA.out j (by omega)
      case measure=>simp [intOf];omega
   ·have heq:(ma+1 == mb)=false:=by simpa using heq
    have HEQ:=Lib.hid heq;go_wp2_with fail
    refine Rs.region_gen 15 [[],[0],[0,1],[0,1,2],[],[4],[4,5],[0,1,2,3,4,5,6],[0,1,2,3,4,5,6,7],[0,1,2,3,4,5,6,7,8],[0,1,2,3,4,5,6,7,8,9],[0,1,2,3,4,5,6,7,8],[0,1,2,3,4,5,6,7,8],[0,1,2,3,4,5,6,7,8,9,10,11,12],[0,1,2,3,4,5,6,7,8,9,10,11,12,13]] [some 12,some 13,some 14,some 15,some 16,some 17,some 18,some 19,some 20,some 21,some 22,some 23,some 24,some 25,some 26] (spBf0 (w.heap.size+1) w.heap.size k b ma mb F first caps (may k b)) (by kernel_rfl) (by kernel_rfl) rfl (spBf0_stable _ _ _ _ _ _ _ _ _ _) ?_ ?_
    ·refine ⟨fun V w' hG hs=>?_,fun V w' hG hs=>?_,fun V w' hG hs=>?_,fun V w' hG hs=>?_,fun V w' hG hs=>?_,fun V w' hG hs=>?_,fun V w' hG hs=>?_,fun V w' hG hs=>?_,fun V w' hG hs=>?_,fun V w' hG hs=>?_,fun V w' hG hs=>?_,fun V w' hG hs=>?_,fun V w' hG hs=>?_,fun V w' hG hs=>?_,fun V w' hG hs=>?_,trivial⟩
     all_goals
      obtain ⟨bc,_⟩:=bcell hG;have hca:=(bc (w.heap.size+1) k hs1).trans HCA.out;have hcb:=(bc (w.heap.size+1) b hs1).trans HCB.out;have hc3:=(bc w.heap.size 3 hs0).trans HC3.out;clear bc
     ·rw [if_pos (by rfl)];exact Rs.GrowL.value (v:=.int .i64 k) (w':=w') (by simp [go_sem,Rs.look]) (Rs.Gr.refl _) rfl
     ·have e0:V 0=_:=hs 0 (by simp);rw [if_pos (by rfl)];exact Rs.GrowL.value (v:=.pointer (some ⟨(w.heap.size+1),k,none⟩)) (w':=w') (by simp [go_sem,Rs.look,e0,hk13']) (Rs.Gr.refl _) rfl
     ·have e0:V 0=_:=hs 0 (by simp);have e1:V 1=_:=hs 1 (by simp);rw [if_pos (by rfl)];exact Rs.GrowL.value (v:=.int .i64 ma) (w':=w') (by simp [go_sem,Rs.look,e0,e1,hca]) (Rs.Gr.refl _) rfl
     ·have e0:V 0=_:=hs 0 (by simp);have e1:V 1=_:=hs 1 (by simp);have e2:V 2=_:=hs 2 (by simp);rw [if_pos (by rfl)];exact Rs.GrowL.value (v:=.int .i64 (ma+1)) (w':=w') (by simp [go_sem,Rs.look,e0,e1,e2,hsum]) (Rs.Gr.refl _) rfl
     ·rw [if_pos (by rfl)];exact Rs.GrowL.value (v:=.int .i64 b) (w':=w') (by simp [go_sem,Rs.look]) (Rs.Gr.refl _) rfl
     ·have e4:V 4=_:=hs 4 (by simp);rw [if_pos (by rfl)];exact Rs.GrowL.value (v:=.pointer (some ⟨(w.heap.size+1),b,none⟩)) (w':=w') (by simp [go_sem,Rs.look,e4,hb13']) (Rs.Gr.refl _) rfl
     ·have e4:V 4=_:=hs 4 (by simp);have e5:V 5=_:=hs 5 (by simp);rw [if_pos (by rfl)];exact Rs.GrowL.value (v:=.int .i64 mb) (w':=w') (by simp [go_sem,Rs.look,e4,e5,hcb]) (Rs.Gr.refl _) rfl
     ·have e0:V 0=_:=hs 0 (by simp);have e1:V 1=_:=hs 1 (by simp);have e2:V 2=_:=hs 2 (by simp);have e3:V 3=_:=hs 3 (by simp);have e4:V 4=_:=hs 4 (by simp);have e5:V 5=_:=hs 5 (by simp);have e6:V 6=_:=hs 6 (by simp);rw [if_pos (by rfl)];exact Rs.GrowL.value (v:=.bool false) (w':=w') (by simp [go_sem,Rs.look,e0,e1,e2,e3,e4,e5,e6,heq]) (Rs.Gr.refl _) rfl
     ·have e0:V 0=_:=hs 0 (by simp);have e1:V 1=_:=hs 1 (by simp);have e2:V 2=_:=hs 2 (by simp);have e3:V 3=_:=hs 3 (by simp);have e4:V 4=_:=hs 4 (by simp);have e5:V 5=_:=hs 5 (by simp);have e6:V 6=_:=hs 6 (by simp);have e7:V 7=_:=hs 7 (by simp);rw [if_pos (by rfl)];exact Rs.GrowL.value (v:=.bool false) (w':=w') (by simp [go_sem,Rs.look,e0,e1,e2,e3,e4,e5,e6,e7]) (Rs.Gr.refl _) rfl
     ·have e0:V 0=_:=hs 0 (by simp);have e1:V 1=_:=hs 1 (by simp);have e2:V 2=_:=hs 2 (by simp);have e3:V 3=_:=hs 3 (by simp);have e4:V 4=_:=hs 4 (by simp);have e5:V 5=_:=hs 5 (by simp);have e6:V 6=_:=hs 6 (by simp);have e7:V 7=_:=hs 7 (by simp);have e8:V 8=_:=hs 8 (by simp);rw [if_neg (by simp [Rs.wantB,e8])];rfl
     ·have e0:V 0=_:=hs 0 (by simp);have e1:V 1=_:=hs 1 (by simp);have e2:V 2=_:=hs 2 (by simp);have e3:V 3=_:=hs 3 (by simp);have e4:V 4=_:=hs 4 (by simp);have e5:V 5=_:=hs 5 (by simp);have e6:V 6=_:=hs 6 (by simp);have e7:V 7=_:=hs 7 (by simp);have e8:V 8=_:=hs 8 (by simp);have e9:V 9=_:=hs 9 (by simp);rw [if_neg (by simp [Rs.wantB,e8])];rfl
     ·have e0:V 0=_:=hs 0 (by simp);have e1:V 1=_:=hs 1 (by simp);have e2:V 2=_:=hs 2 (by simp);have e3:V 3=_:=hs 3 (by simp);have e4:V 4=_:=hs 4 (by simp);have e5:V 5=_:=hs 5 (by simp);have e6:V 6=_:=hs 6 (by simp);have e7:V 7=_:=hs 7 (by simp);have e8:V 8=_:=hs 8 (by simp);rw [if_neg (by simp [Rs.wantB,e8])];rfl
     ·have e0:V 0=_:=hs 0 (by simp);have e1:V 1=_:=hs 1 (by simp);have e2:V 2=_:=hs 2 (by simp);have e3:V 3=_:=hs 3 (by simp);have e4:V 4=_:=hs 4 (by simp);have e5:V 5=_:=hs 5 (by simp);have e6:V 6=_:=hs 6 (by simp);have e7:V 7=_:=hs 7 (by simp);have e8:V 8=_:=hs 8 (by simp);rw [if_neg (by simp [Rs.wantB,e8])];rfl
     ·have e0:V 0=_:=hs 0 (by simp);have e1:V 1=_:=hs 1 (by simp);have e2:V 2=_:=hs 2 (by simp);have e3:V 3=_:=hs 3 (by simp);have e4:V 4=_:=hs 4 (by simp);have e5:V 5=_:=hs 5 (by simp);have e6:V 6=_:=hs 6 (by simp);have e7:V 7=_:=hs 7 (by simp);have e8:V 8=_:=hs 8 (by simp);have e9:V 9=_:=hs 9 (by simp);have e10:V 10=_:=hs 10 (by simp);have e11:V 11=_:=hs 11 (by simp);have e12:V 12=_:=hs 12 (by simp);rw [if_neg (by simp [Rs.wantB,e8])];rfl
     ·have e0:V 0=_:=hs 0 (by simp);have e1:V 1=_:=hs 1 (by simp);have e2:V 2=_:=hs 2 (by simp);have e3:V 3=_:=hs 3 (by simp);have e4:V 4=_:=hs 4 (by simp);have e5:V 5=_:=hs 5 (by simp);have e6:V 6=_:=hs 6 (by simp);have e7:V 7=_:=hs 7 (by simp);have e8:V 8=_:=hs 8 (by simp);have e9:V 9=_:=hs 9 (by simp);have e10:V 10=_:=hs 10 (by simp);have e11:V 11=_:=hs 11 (by simp);have e12:V 12=_:=hs 12 (by simp);have e13:V 13=_:=hs 13 (by simp);rw [if_pos (by rfl)];exact Rs.GrowL.value (v:=.bool false) (w':=w') (by simp [go_sem,Rs.look,e0,e1,e2,e3,e4,e5,e6,e7,e8,e9,e10,e11,e12,e13]) (Rs.Gr.refl _) rfl
    ·intro V w' hG hs;have e0:V 0=_:=hs 0 (by omega);have e1:V 1=_:=hs 1 (by omega);have e2:V 2=_:=hs 2 (by omega);have e3:V 3=_:=hs 3 (by omega);have e4:V 4=_:=hs 4 (by omega);have e5:V 5=_:=hs 5 (by omega);have e6:V 6=_:=hs 6 (by omega);have e7:V 7=_:=hs 7 (by omega);have e8:V 8=_:=hs 8 (by omega);have e9:V 9=_:=hs 9 (by omega);have e10:V 10=_:=hs 10 (by omega);have e11:V 11=_:=hs 11 (by omega);have e12:V 12=_:=hs 12 (by omega);have e13:V 13=_:=hs 13 (by omega);have e14:V 14=_:=hs 14 (by omega);simp only [Rs.canon,Rs.dstOf,List.range_succ,List.range_zero,List.nil_append,List.cons_append,List.foldl_cons,List.foldl_nil,List.drop_succ_cons,List.drop_zero,List.drop_nil,List.getElem?_toArray,List.getElem?_cons_succ,List.getElem?_cons_zero,Option.bind_some,Act.put,List.getD_cons_succ,List.getD_cons_zero,List.setIfInBounds_toArray,List.set_cons_succ,List.set_cons_zero];rw [e0,e1,e2,e3,e4,e5,e6,e7,e8,e9,e10,e11,e12,e13,e14];clear e0 e1 e2 e3 e4 e5 e6 e7 e8 e9 e10 e11 e12 e13 e14 hs;clear hsum heq;go_wp2;go_roundw
     case rel =>
      refine ⟨k+1,by omega,by go_num,fun j hj=>?_,join HB.out hG⟩;by_cases hjk:j=k
      ·subst hjk;rw [HP.out,HEQ.out];rfl
      ·exact HA.out j (by omega)
     case measure=>simp [intOf];omega
  ·obtain rfl:k=b:=by omega
   go_wp2;go_ret;exact ⟨ret_int (by unfold before;rw [find_none HA.out];rfl),HBW.out.trans (HB.out.mono (by omega))⟩
end Go.Proofs.YtadnggecnjdhiaaGreat
namespace Go.Proofs.YtadnggecnjdhiaaGreat
open Go.RowKit Tx
theorem blk3 {W:World} {b:Nat} {v0 v1 v2:Value} {ty:TypeId} (h:W.heap[b]?=some (.cells #[v0,v1,v2] ty (0,0))):W.cell? ⟨b,0,none⟩=some v0∧W.cell? ⟨b,1,none⟩=some v1∧W.cell? ⟨b,2,none⟩=some v2 :=
 ⟨blk_cells h 0 _ rfl,blk_cells h 1 _ rfl,blk_cells h 2 _ rfl⟩
theorem ints_new4 (w:World) (a b c d:Int) (T:TypeId):Ints (w.alloc (.cells #[.int .i64 a,.int .i64 b,.int .i64 c,.int .i64 d] T)) (some ⟨w.heap.size,0,none⟩) [a,b,c,d]:=by
 refine .inr ⟨_,_,rfl,by simp,fun i hi=>?_⟩;have h:=heap_last w (.cells #[.int .i64 a,.int .i64 b,.int .i64 c,.int .i64 d] T);have:i=0∨i=1∨i=2∨i=3:=by simp at hi;omega
 rcases this with rfl | rfl | rfl | rfl
 ·exact blk_cells h 0 _ rfl
 ·exact blk_cells h 1 _ rfl
 ·exact blk_cells h 2 _ rfl
 ·exact blk_cells h 3 _ rfl
theorem build4 (w:World) (a b c d:Int):(Instr.buildSlice 154 4 #[(0,.int .i64 a),(1,.int .i64 b),(2,.int .i64 c),(3,.int .i64 d)]).run Tryz.prog w=.ok (.slice (some ⟨w.heap.size,0,none⟩) 4 4) (w.alloc (.cells #[.int .i64 a,.int .i64 b,.int .i64 c,.int .i64 d] 35)):=by
 first | kernel_rfl | simp [go_sem]
theorem err_first (t:Text) (h1:¬ (t.len<1∨12<t.len∨6<t.turns.length)) (h2:¬ (t.breath<1∨40<t.breath)) :
  t.err=firstErr [errIf badWord t.words 3,errIf (namesNo t.words.length) t.turns 1,errIf endsB t.turns 4,errIf itself t.turns 7]:=by
 unfold Text.err;rw [if_neg h1,if_neg h2];unfold errIf firstErr Text.len;cases t.words.any badWord <;> cases t.turns.any (namesNo t.words.length) <;> cases t.turns.any endsB <;> cases t.turns.any itself <;> rfl
def spCk (t:Text) (pw pt:Option Addr) (cw ct A:Nat):Nat→List Value→Value→World→Prop
 | 0,_,v,_=>v=.pointer (some ⟨A,0,none⟩)
 | 1,_,v,_=>v=.slice pw t.words.length cw
 | 2,_,v,_=>v=.int .i64 (errIf badWord t.words 3)
 | 3,_,v,_=>v=.pointer (some ⟨A,1,none⟩)
 | 4,_,v,_=>v=.slice pt t.turns.length ct
 | 5,_,v,_=>v=.agg #[.slice pw t.words.length cw,.slice pt t.turns.length ct,.int .i64 t.breath]
 | 6,L,v,w=>∃ p,v=.func (.func 122) #[] #[.pointer (some ⟨p,0,none⟩)]∧w.heap[p]?=some (.cells #[.slice pw t.words.length cw,.slice pt t.turns.length ct,.int .i64 t.breath,.nilFunc] 84 (0,0))
 | 7,_,v,_=>v=.int .i64 (errIf (namesNo t.words.length) t.turns 1)
 | 8,_,v,_=>v=.pointer (some ⟨A,1,none⟩)
 | 9,_,v,_=>v=.slice pt t.turns.length ct
 | 10,_,v,_=>v=.int .i64 (errIf endsB t.turns 4)
 | 11,_,v,_=>v=.pointer (some ⟨A,1,none⟩)
 | 12,_,v,_=>v=.slice pt t.turns.length ct
 | 13,_,v,_=>v=.int .i64 (errIf itself t.turns 7)
 | 14,L,v,w=>∃ p,v=.slice (some ⟨p,0,none⟩) 4 4∧Ints w (some ⟨p,0,none⟩) [errIf badWord t.words 3,errIf (namesNo t.words.length) t.turns 1,errIf endsB t.turns 4,errIf itself t.turns 7]
 | 15,_,v,_=>v=.int .i64 (firstErr [errIf badWord t.words 3,errIf (namesNo t.words.length) t.turns 1,errIf endsB t.turns 4,errIf itself t.turns 7])
 | _,_,_,_=>False
theorem spCk_stable (t:Text) (pw pt:Option Addr) (cw ct A:Nat):∀ i L v w w',spCk t pw pt cw ct A i L v w→Rs.Gr w w'→spCk t pw pt cw ct A i L v w':=by
 intro i L v w w' h hg
 match i with
 | 0=>exact h
 | 1=>exact h
 | 2=>exact h
 | 3=>exact h
 | 4=>exact h
 | 5=>exact h
 | 6=>obtain ⟨p,h1,h3⟩:=h;exact ⟨p,h1,(hg.block p (Array.getElem?_eq_some_iff.1 h3).1).trans h3⟩
 | 7=>exact h
 | 8=>exact h
 | 9=>exact h
 | 10=>exact h
 | 11=>exact h
 | 12=>exact h
 | 13=>exact h
 | 14=>obtain ⟨p,h1,h3⟩:=h;exact ⟨p,h1,h3.below hg⟩
 | 15=>exact h
set_option maxHeartbeats 1600000 in
set_option maxRecDepth 100000 in
theorem check_in (t:Text) (hl1:t.words.length≤1000000) (hl2:t.turns.length≤1000000) (h1:¬ (t.len<1∨12<t.len∨6<t.turns.length)) (h2:¬ (t.breath<1∨40<t.breath)) (pw pt:Option Addr) (cw ct:Nat) (w:World) (hW:TxAt w t pw pt) :
  Calls Tryz.prog 33 #[.agg #[.slice pw t.words.length cw,.slice pt t.turns.length ct,.int .i64 t.breath]] w fun e w'=>e=.returned (.int .i64 t.err)∧Below w.heap.size w w':=by
 have HE:=Lib.hid (err_first t h1 h2);have HW:=Lib.hid hW;have b1:btw (t.words.length:Int) 1 12=true:=by unfold Text.len at h1;simp [btw];omega
 have b2:btw t.breath 1 40=true:=by simp [btw];omega
 have b3:decide (6<(t.turns.length:Int))=false:=by simp;omega
 have H1:=Lib.hid b1;have H2:=Lib.hid b2;clear b1 b2 hW h1 h2;have HB:=Lib.hid (below1 w (.cells #[.slice pw t.words.length cw,.slice pt t.turns.length ct,.int .i64 t.breath] 25));have HX0:=heap_last w (.cells #[.slice pw t.words.length cw,.slice pt t.turns.length ct,.int .i64 t.breath] 25);have HZ0:w.heap.size<(w.alloc (.cells #[.slice pw t.words.length cw,.slice pt t.turns.length ct,.int .i64 t.breath] 25)).heap.size:=by simp
 obtain ⟨k0,k1,k2⟩:=blk3 HX0
 go_enter Tryz.func33,Tryz.ntmps33
 go_wp2_with fail
 refine (between_any _ _ _ _).mono ?_;rintro e w' ⟨rfl,rfl⟩;rw [H1.out];go_wp2_with fail
 refine (between_any _ _ _ _).mono ?_;rintro e w' ⟨rfl,rfl⟩;rw [H2.out];go_wp2_with fail
 generalize hW1:w.alloc (.cells #[.slice pw t.words.length cw,.slice pt t.turns.length ct,.int .i64 t.breath] 25)=W1 at HB HX0 HZ0 k0 k1 k2 ⊢;clear hW1 k0 k1 k2
 ·refine Rs.region_gen 16 [[],[0],[0,1],[],[3],[],[0,1,2,5],[0,1,2,3,4,5,6],[],[8],[0,1,2,3,4,5,6,7,8,9],[],[11],[0,1,2,3,4,5,6,7,8,9,10,11,12],[0,1,2,3,4,5,6,7,8,9,10,11,12,13],[0,1,2,3,4,5,6,7,8,9,10,11,12,13,14]] [some 18,some 19,some 20,some 21,some 22,some 23,some 24,some 25,some 26,some 27,some 28,some 29,some 30,some 31,some 32,some 33] (spCk t pw pt cw ct w.heap.size) (by kernel_rfl) (by kernel_rfl) rfl (spCk_stable _ _ _ _ _ _) ?_ ?_
  ·refine ⟨fun V w' hG hs=>?_,fun V w' hG hs=>?_,fun V w' hG hs=>?_,fun V w' hG hs=>?_,fun V w' hG hs=>?_,fun V w' hG hs=>?_,fun V w' hG hs=>?_,fun V w' hG hs=>?_,fun V w' hG hs=>?_,fun V w' hG hs=>?_,fun V w' hG hs=>?_,fun V w' hG hs=>?_,fun V w' hG hs=>?_,fun V w' hG hs=>?_,fun V w' hG hs=>?_,fun V w' hG hs=>?_,trivial⟩
   all_goals
    obtain ⟨k0,k1,k2⟩:=blk3 ((hG.block w.heap.size HZ0).trans HX0)
   ·rw [if_pos (by rfl)];exact Rs.GrowL.value (v:=.pointer (some ⟨w.heap.size,0,none⟩)) (w':=w') (by simp [go_sem,Rs.look]) (Rs.Gr.refl _) rfl
   ·have e0:V 0=_:=hs 0 (by simp);rw [if_pos (by rfl)];exact Rs.GrowL.value (v:=.slice pw t.words.length cw) (w':=w') (by simp [go_sem,Rs.look,e0,k0]) (Rs.Gr.refl _) rfl
   ·have e0:V 0=_:=hs 0 (by simp);have e1:V 1=_:=hs 1 (by simp);rw [if_pos (by rfl)];refine Rs.GrowL.call (f:=76) (args:=#[.slice pw t.words.length cw,.func (.func 77) #[] #[],.int .i64 3]) (by simp [go_sem,Rs.look,e1]) ?_;refine (errIfW_any _ _ _ _ w' hl1 (HW.out.words.below (join HB.out hG))).mono ?_;rintro e w2 ⟨rfl,hB2⟩;exact ⟨_,rfl,hB2,rfl⟩
   ·rw [if_pos (by rfl)];exact Rs.GrowL.value (v:=.pointer (some ⟨w.heap.size,1,none⟩)) (w':=w') (by simp [go_sem,Rs.look]) (Rs.Gr.refl _) rfl
   ·have e3:V 3=_:=hs 3 (by simp);rw [if_pos (by rfl)];exact Rs.GrowL.value (v:=.slice pt t.turns.length ct) (w':=w') (by simp [go_sem,Rs.look,e3,k1]) (Rs.Gr.refl _) rfl
   ·rw [if_pos (by rfl)];exact Rs.GrowL.value (v:=.agg #[.slice pw t.words.length cw,.slice pt t.turns.length ct,.int .i64 t.breath]) (w':=w') (by simp [go_sem,Rs.look,k0,k1,k2]) (Rs.Gr.refl _) rfl
   ·have e0:V 0=_:=hs 0 (by simp);have e1:V 1=_:=hs 1 (by simp);have e2:V 2=_:=hs 2 (by simp);have e5:V 5=_:=hs 5 (by simp);rw [if_pos (by rfl)];refine Rs.GrowL.call (f:=79) (args:=#[.agg #[.slice pw t.words.length cw,.slice pt t.turns.length ct,.int .i64 t.breath]]) (by simp [go_sem,Rs.look,e5]) ?_;refine (namesNoWord_any _ _ _ _ _ _ _ w').mono ?_;rintro e w2 ⟨rfl,rfl⟩;refine ⟨_,rfl,(below1 _ _).alloc (by simp) _,_,rfl,?_⟩;have:=heap_last (w'.alloc (.cells #[.slice pw t.words.length cw,.slice pt t.turns.length ct,.int .i64 t.breath] 25)) (.cells #[.slice pw t.words.length cw,.slice pt t.turns.length ct,.int .i64 t.breath,.nilFunc] 84);rwa [World.size_alloc] at this
   ·have e0:V 0=_:=hs 0 (by simp);have e1:V 1=_:=hs 1 (by simp);have e2:V 2=_:=hs 2 (by simp);have e3:V 3=_:=hs 3 (by simp);have e4:V 4=_:=hs 4 (by simp);have e5:V 5=_:=hs 5 (by simp);have r6:=hs 6 (by simp);rw [if_pos (by rfl)];obtain ⟨p6,e6,x6⟩:=r6;refine Rs.GrowL.call (f:=78) (args:=#[.slice pt t.turns.length ct,.func (.func 122) #[] #[.pointer (some ⟨p6,0,none⟩)],.int .i64 1]) (by simp [go_sem,Rs.look,e4,e6]) ?_;refine (errIfT1_any _ entered_namesNo1 _ (namesNo t.words.length) _ _ _ _ w' hl2 (HW.out.turns.below (join HB.out hG)) (fun W hW u=>namesNo1_any _ _ _ _ _ _ p6 u W (by omega) ((hW.block p6 (Array.getElem?_eq_some_iff.1 x6).1).trans x6))).mono ?_;rintro e w2 ⟨rfl,hB2⟩;exact ⟨_,rfl,hB2,rfl⟩
   ·rw [if_pos (by rfl)];exact Rs.GrowL.value (v:=.pointer (some ⟨w.heap.size,1,none⟩)) (w':=w') (by simp [go_sem,Rs.look]) (Rs.Gr.refl _) rfl
   ·have e8:V 8=_:=hs 8 (by simp);rw [if_pos (by rfl)];exact Rs.GrowL.value (v:=.slice pt t.turns.length ct) (w':=w') (by simp [go_sem,Rs.look,e8,k1]) (Rs.Gr.refl _) rfl
   ·have e0:V 0=_:=hs 0 (by simp);have e1:V 1=_:=hs 1 (by simp);have e2:V 2=_:=hs 2 (by simp);have e3:V 3=_:=hs 3 (by simp);have e4:V 4=_:=hs 4 (by simp);have e5:V 5=_:=hs 5 (by simp);have r6:=hs 6 (by simp);have e7:V 7=_:=hs 7 (by simp);have e8:V 8=_:=hs 8 (by simp);have e9:V 9=_:=hs 9 (by simp);rw [if_pos (by rfl)];refine Rs.GrowL.call (f:=78) (args:=#[.slice pt t.turns.length ct,.func (.func 80) #[] #[],.int .i64 4]) (by simp [go_sem,Rs.look,e9]) ?_;refine (errIfT0_any _ entered_endsB endsB _ _ _ _ w' hl2 (HW.out.turns.below (join HB.out hG)) (fun W hW u=>endsB_any u W)).mono ?_;rintro e w2 ⟨rfl,hB2⟩;exact ⟨_,rfl,hB2,rfl⟩
   ·rw [if_pos (by rfl)];exact Rs.GrowL.value (v:=.pointer (some ⟨w.heap.size,1,none⟩)) (w':=w') (by simp [go_sem,Rs.look]) (Rs.Gr.refl _) rfl
   ·have e11:V 11=_:=hs 11 (by simp);rw [if_pos (by rfl)];exact Rs.GrowL.value (v:=.slice pt t.turns.length ct) (w':=w') (by simp [go_sem,Rs.look,e11,k1]) (Rs.Gr.refl _) rfl
   ·have e0:V 0=_:=hs 0 (by simp);have e1:V 1=_:=hs 1 (by simp);have e2:V 2=_:=hs 2 (by simp);have e3:V 3=_:=hs 3 (by simp);have e4:V 4=_:=hs 4 (by simp);have e5:V 5=_:=hs 5 (by simp);have r6:=hs 6 (by simp);have e7:V 7=_:=hs 7 (by simp);have e8:V 8=_:=hs 8 (by simp);have e9:V 9=_:=hs 9 (by simp);have e10:V 10=_:=hs 10 (by simp);have e11:V 11=_:=hs 11 (by simp);have e12:V 12=_:=hs 12 (by simp);rw [if_pos (by rfl)];refine Rs.GrowL.call (f:=78) (args:=#[.slice pt t.turns.length ct,.func (.func 81) #[] #[],.int .i64 7]) (by simp [go_sem,Rs.look,e12]) ?_;refine (errIfT0_any _ entered_itself itself _ _ _ _ w' hl2 (HW.out.turns.below (join HB.out hG)) (fun W hW u=>itself_any u W)).mono ?_;rintro e w2 ⟨rfl,hB2⟩;exact ⟨_,rfl,hB2,rfl⟩
   ·have e0:V 0=_:=hs 0 (by simp);have e1:V 1=_:=hs 1 (by simp);have e2:V 2=_:=hs 2 (by simp);have e3:V 3=_:=hs 3 (by simp);have e4:V 4=_:=hs 4 (by simp);have e5:V 5=_:=hs 5 (by simp);have r6:=hs 6 (by simp);have e7:V 7=_:=hs 7 (by simp);have e8:V 8=_:=hs 8 (by simp);have e9:V 9=_:=hs 9 (by simp);have e10:V 10=_:=hs 10 (by simp);have e11:V 11=_:=hs 11 (by simp);have e12:V 12=_:=hs 12 (by simp);have e13:V 13=_:=hs 13 (by simp);rw [if_pos (by rfl)];refine Rs.GrowL.value (v:=.slice (some ⟨w'.heap.size,0,none⟩) 4 4) (w':=w'.alloc (.cells #[.int .i64 (errIf badWord t.words 3),.int .i64 (errIf (namesNo t.words.length) t.turns 1),.int .i64 (errIf endsB t.turns 4),.int .i64 (errIf itself t.turns 7)] 35)) ?_ (below1 _ _) ⟨_,rfl,?_⟩
    ·have hb4:=build4 w' (errIf badWord t.words 3) (errIf (namesNo t.words.length) t.turns 1) (errIf endsB t.turns 4) (errIf itself t.turns 7);simp [go_sem,Rs.look,e2,e7,e10,e13,hb4]
    ·exact ints_new4 _ _ _ _ _ _
   ·have e0:V 0=_:=hs 0 (by simp);have e1:V 1=_:=hs 1 (by simp);have e2:V 2=_:=hs 2 (by simp);have e3:V 3=_:=hs 3 (by simp);have e4:V 4=_:=hs 4 (by simp);have e5:V 5=_:=hs 5 (by simp);have r6:=hs 6 (by simp);have e7:V 7=_:=hs 7 (by simp);have e8:V 8=_:=hs 8 (by simp);have e9:V 9=_:=hs 9 (by simp);have e10:V 10=_:=hs 10 (by simp);have e11:V 11=_:=hs 11 (by simp);have e12:V 12=_:=hs 12 (by simp);have e13:V 13=_:=hs 13 (by simp);have r14:=hs 14 (by simp);rw [if_pos (by rfl)];obtain ⟨p14,e14,x14⟩:=r14;refine Rs.GrowL.call (f:=75) (args:=#[.slice (some ⟨p14,0,none⟩) 4 4]) (by simp [go_sem,Rs.look,e14]) ?_;refine (firstError_any [errIf badWord t.words 3,errIf (namesNo t.words.length) t.turns 1,errIf endsB t.turns 4,errIf itself t.turns 7] _ 4 w' (by simp) x14).mono ?_;rintro e w2 ⟨rfl,rfl⟩;exact ⟨_,rfl,Below.refl _ _,rfl⟩
  ·intro V w' hG hs;have e0:V 0=_:=hs 0 (by omega);have e1:V 1=_:=hs 1 (by omega);have e2:V 2=_:=hs 2 (by omega);have e3:V 3=_:=hs 3 (by omega);have e4:V 4=_:=hs 4 (by omega);have e5:V 5=_:=hs 5 (by omega);have r6:=hs 6 (by omega);have e7:V 7=_:=hs 7 (by omega);have e8:V 8=_:=hs 8 (by omega);have e9:V 9=_:=hs 9 (by omega);have e10:V 10=_:=hs 10 (by omega);have e11:V 11=_:=hs 11 (by omega);have e12:V 12=_:=hs 12 (by omega);have e13:V 13=_:=hs 13 (by omega);have r14:=hs 14 (by omega);have e15:V 15=_:=hs 15 (by omega);obtain ⟨p6,e6,x6⟩:=r6;obtain ⟨p14,e14,x14⟩:=r14;simp only [Rs.canon,Rs.dstOf,List.range_succ,List.range_zero,List.nil_append,List.cons_append,List.foldl_cons,List.foldl_nil,List.drop_succ_cons,List.drop_zero,List.drop_nil,List.getElem?_toArray,List.getElem?_cons_succ,List.getElem?_cons_zero,Option.bind_some,Act.put,List.getD_cons_succ,List.getD_cons_zero,List.setIfInBounds_toArray,List.set_cons_succ,List.set_cons_zero];rw [e0,e1,e2,e3,e4,e5,e7,e8,e9,e10,e11,e12,e13,e15,e6,e14];clear e0 e1 e2 e3 e4 e5 e7 e8 e9 e10 e11 e12 e13 e15 e6 e14 hs;go_wp2;go_ret;exact ⟨by rw [HE.out];rfl,join HB.out hG⟩
end Go.Proofs.YtadnggecnjdhiaaGreat
namespace Go.Proofs.YtadnggecnjdhiaaGreat
open Go.RowKit Tx
set_option maxHeartbeats 800000 in
theorem Check_any (t:Text) (hl1:t.words.length≤1000000) (hl2:t.turns.length≤1000000) (pw pt:Option Addr) (cw ct:Nat) (w:World) (hW:TxAt w t pw pt) :
  Calls Tryz.prog 33 #[.agg #[.slice pw t.words.length cw,.slice pt t.turns.length ct,.int .i64 t.breath]] w fun e w'=>e=.returned (.int .i64 t.err)∧Below w.heap.size w w':=by
 by_cases h1:t.len<1∨12<t.len∨6<t.turns.length
 ·have hfin:t.err=2:=by unfold Text.err;rw [if_pos h1]
  have HF:=Lib.hid hfin;unfold Text.len at h1;clear hfin hW;by_cases h2:t.words.length<1∨12<t.words.length
  ·have b1:btw (t.words.length:Int) 1 12=false:=by simp [btw];omega
   have H1:=Lib.hid b1;clear b1 h1 h2
   go_enter Tryz.func33,Tryz.ntmps33
   go_wp2_with fail
   refine (between_any _ _ _ _).mono ?_;rintro e w' ⟨rfl,rfl⟩;rw [H1.out];go_wp2;go_ret;exact ⟨by rw [HF.out];rfl,below1 _ _⟩
  ·have b1:btw (t.words.length:Int) 1 12=true:=by simp [btw];omega
   have b3:decide (6<(t.turns.length:Int))=true:=by simp;omega
   have H1:=Lib.hid b1;clear b1 h1 h2
   go_enter Tryz.func33,Tryz.ntmps33
   go_wp2_with fail
   refine (between_any _ _ _ _).mono ?_;rintro e w' ⟨rfl,rfl⟩;rw [H1.out];go_wp2;go_ret;exact ⟨by rw [HF.out];rfl,below1 _ _⟩
 ·by_cases h2:t.breath<1∨40<t.breath
  ·have hfin:t.err=3:=by unfold Text.err;rw [if_neg h1,if_pos h2]
   have HF:=Lib.hid hfin;unfold Text.len at h1;have b1:btw (t.words.length:Int) 1 12=true:=by simp [btw];omega
   have b2:btw t.breath 1 40=false:=by simp [btw];omega
   have b3:decide (6<(t.turns.length:Int))=false:=by simp;omega
   have H1:=Lib.hid b1;have H2:=Lib.hid b2;clear hfin hW b1 b2 h1 h2
   go_enter Tryz.func33,Tryz.ntmps33
   go_wp2_with fail
   refine (between_any _ _ _ _).mono ?_;rintro e w' ⟨rfl,rfl⟩;rw [H1.out];go_wp2_with fail
   refine (between_any _ _ _ _).mono ?_;rintro e w' ⟨rfl,rfl⟩;rw [H2.out];go_wp2;go_ret;exact ⟨by rw [HF.out];rfl,below1 _ _⟩
  ·exact check_in t hl1 hl2 h1 h2 pw pt cw ct w hW
set_option maxHeartbeats 800000 in
theorem open_ok (t:Text) (he:t.err=0) (pw pt:Option Addr) (cw ct:Nat) (w:World) (hW:TxAt w t pw pt) :
  Calls Tryz.prog 41 #[.agg #[.slice pw t.words.length cw,.slice pt t.turns.length ct,.int .i64 t.breath]] w fun e w' =>
   e=.returned (.tuple #[.agg #[.slice pw t.words.length cw,.slice pt t.turns.length ct,.int .i64 t.breath,.func (.func 91) #[.agg #[.slice pw t.words.length cw,.slice pt t.turns.length ct,.int .i64 t.breath,.nilFunc]] #[]],.int .i64 0])∧Below w.heap.size w w':=by
 have ok:=err_ok he;have HS:=Lib.hid (fun W (h:Below w.heap.size w W)=>Check_any t (by have:=ok.n12;omega) (by have:=ok.m6;omega) pw pt cw ct W (hW.below h));have HE:=Lib.hid he;have hmf:=mf;clear hW ok he
 go_enter Tryz.func41,Tryz.ntmps41
 go_wp2_with fail
 refine (HS.out _ ((below1 _ _).alloc (by simp) _)).mono ?_;rintro e w5 ⟨rfl,hB5⟩;rw [HE.out];obtain ⟨hc5,hf5⟩:=bcell hB5;have hz5:w.heap.size+1<w5.heap.size:=by have:=hB5.size;simp at this;omega
 have HB5:=Lib.hid (join ((below1 _ _).alloc (by simp) _) hB5);clear hB5;go_wp2;refine bodyPost_ret (v:=.tuple #[.agg #[.slice pw t.words.length cw,.slice pt t.turns.length ct,.int .i64 t.breath,.func (.func 91) #[.agg #[.slice pw t.words.length cw,.slice pt t.turns.length ct,.int .i64 t.breath,.nilFunc]] #[]],.int .i64 0]) (by simp [results,Tryz.results41,go_sem,hc5,hz5]) rfl ⟨rfl,?_⟩;have hz6:=HB5.out.size
 repeat' (first | exact HB5.out | apply belS | apply belA | apply belD)
 all_goals first | omega | (simp;done) | (simp;omega)
set_option maxHeartbeats 800000 in
theorem open_bad (t:Text) (he:t.err≠0) (hl1:t.words.length≤1000000) (hl2:t.turns.length≤1000000) (pw pt:Option Addr) (cw ct:Nat) (w:World) (hW:TxAt w t pw pt) :
  Calls Tryz.prog 41 #[.agg #[.slice pw t.words.length cw,.slice pt t.turns.length ct,.int .i64 t.breath]] w fun e w' =>
   e=.returned (.tuple #[.agg #[.slice none 0 0,.slice none 0 0,.int .i64 0,.nilFunc],.int .i64 t.err])∧Below w.heap.size w w':=by
 have HS:=Lib.hid (fun W (h:Below w.heap.size w W)=>Check_any t hl1 hl2 pw pt cw ct W (hW.below h));have HE:(t.err != 0)=true:=by simpa using he
 have hmf:=mf;clear hW he;generalize t.err=er at HE HS ⊢
 go_enter Tryz.func41,Tryz.ntmps41
 go_wp2_with fail
 refine (HS.out _ ((below1 _ _).alloc (by simp) _)).mono ?_;rintro e w5 ⟨rfl,hB5⟩;obtain ⟨hc5,hf5⟩:=bcell hB5;have hz5:w.heap.size+1<w5.heap.size:=by have:=hB5.size;simp at this;omega
 have HB5:=Lib.hid (join ((below1 _ _).alloc (by simp) _) hB5);clear hB5;go_wp2;refine bodyPost_ret (v:=.tuple #[.agg #[.slice none 0 0,.slice none 0 0,.int .i64 0,.nilFunc],.int .i64 er]) (by simp [results,Tryz.results41,go_sem,hc5,hz5]) rfl ⟨rfl,?_⟩;have hz6:=HB5.out.size
 repeat' (first | exact HB5.out | apply belS | apply belA | apply belD)
 all_goals first | omega | (simp;done) | (simp;omega)
def readErr (t:Text) (l:List Int):Int:=if t.err≠0 then t.err else if l.any (fun k=>!btw k 1 12) then 3 else if isum l≠t.words.length then 2 else 0
set_option maxHeartbeats 1600000 in
theorem openReading_ok (t:Text) (l:List Int) (he:readErr t l=0) (hll:l.length≤1000000) (pw pt pl:Option Addr) (cw ct cl:Nat) (w:World) (hW:TxAt w t pw pt) (hL:Ints w pl l) :
  Calls Tryz.prog 84 #[.agg #[.slice pw t.words.length cw,.slice pt t.turns.length ct,.int .i64 t.breath],.slice pl l.length cl] w fun e w' =>
   e=.returned (.tuple #[.agg #[.slice pw t.words.length cw,.slice pt t.turns.length ct,.int .i64 t.breath,.func (.func 91) #[.agg #[.slice pw t.words.length cw,.slice pt t.turns.length ct,.int .i64 t.breath,.nilFunc]] #[]],.int .i64 0])∧Below w.heap.size w w':=by
 have h0:t.err=0:=by
  by_cases h:t.err=0
  ·exact h
  ·unfold readErr at he;rw [if_pos h] at he;exact absurd he h
 unfold readErr at he;rw [if_neg (by simp [h0])] at he;have h1:¬ l.any (fun k=>!btw k 1 12)=true:=by intro h;rw [if_pos h] at he;omega
 rw [if_neg h1] at he;have h2:isum l=t.words.length:=by
  by_cases h:isum l=t.words.length
  ·exact h
  ·rw [if_pos h] at he;omega
 have hx:∀ x∈l,-1000000≤x∧x≤1000000:=fun x hx=>by
  have:=any_false h1 x hx;simp only [Bool.not_eq_false'] at this;have:=btw_true this;omega
 have h3:errIf (fun k=>!btw k 1 12) l 3=0:=by rw [errIf,if_neg h1]
 have HS:=Lib.hid (fun W (h:Below w.heap.size w W)=>open_ok t h0 pw pt cw ct W (hW.below h));have HI:=Lib.hid (fun W (h:Below w.heap.size w W)=>errIfI_any 124 entered_openReading1 (fun k=>!btw k 1 12) l pl cl 3 W hll (hL.below h) (fun W' _ u=>(openReading1_any u W').mono fun e w' ⟨h1,h2⟩=>⟨h1,h2 ▸ Below.refl _ _⟩));have HM:=Lib.hid (fun W (h:Below w.heap.size w W)=>sum_any l pl cl W hll hx (hL.below h));have H2:=Lib.hid h2;have H3:=Lib.hid h3;have h2':((t.words.length:Int) != t.words.length)=false:=by simp
 clear hW hL he h1 h2 h3 h0 hx
 go_enter Tryz.func84,Tryz.ntmps84
 go_wp2_with fail
 refine (HS.out _ ((below1 _ _).alloc (by simp) _)).mono ?_;rintro e w5 ⟨rfl,hB5⟩;obtain ⟨hc5,hf5⟩:=bcell hB5;have hz5:w.heap.size+1<w5.heap.size:=by have:=hB5.size;simp at this;omega
 have hy5:w.heap.size<w5.heap.size:=by omega
 have HB5:=Lib.hid (join ((below1 _ _).alloc (by simp) _) hB5);have hblk:w5.heap[w.heap.size+1]?=some (.cells #[.slice none 0 0,.slice none 0 0,.int .i64 0,.nilFunc] 84 (0,0)):=by
  rw [hB5.block _ (by simp)];have:=heap_last (w.alloc (.cells #[.slice pw t.words.length cw,.slice pt t.turns.length ct,.int .i64 t.breath] 25)) (.cells #[.slice none 0 0,.slice none 0 0,.int .i64 0,.nilFunc] 84);rwa [World.size_alloc] at this
 have HBLK:=Lib.hid hblk;clear hB5 hblk;go_wp2_with fail
 refine (HI.out _ (join HB5.out (below1 _ _))).mono ?_;rintro e w6 ⟨rfl,hB6⟩;rw [H3.out];obtain ⟨hc6,hf6⟩:=bcell hB6;have hz6:w5.heap.size<w6.heap.size:=by have:=hB6.size;simp at this;omega
 have HB6:=Lib.hid (join (join HB5.out (below1 _ _)) hB6);have hblk6:=(hB6.block (w.heap.size+1) (by simp;omega)).trans ((Below.heap_alloc _ _ _ hz5).trans HBLK.out);have r0:=blk_cells hblk6 0 _ rfl;have r1:=blk_cells hblk6 1 _ rfl;have r2:=blk_cells hblk6 2 _ rfl;have r3:=blk_cells hblk6 3 _ rfl;clear hB6 hblk6;have hq6:w.heap.size<w6.heap.size∧w.heap.size+1<w6.heap.size:=by omega
 obtain ⟨hq6,hq7⟩:=hq6;go_wp2_with fail
 go_region_with (go_at_call 125;refine (HM.out _ (by first | exact HB6.out.drew | exact HB6.out)).mono ?_;rintro e w7 ⟨rfl,rfl⟩;rw [H2.out])
 all_goals go_wp2
 all_goals refine bodyPost_ret (v:=.tuple #[.agg #[.slice pw t.words.length cw,.slice pt t.turns.length ct,.int .i64 t.breath,.func (.func 91) #[.agg #[.slice pw t.words.length cw,.slice pt t.turns.length ct,.int .i64 t.breath,.nilFunc]] #[]],.int .i64 0]) (by simp [results,Tryz.results84,go_sem,hc5,hz5,hc6,hz6,hq6,hq7,r0,r1,r2,r3]) rfl ⟨rfl,?_⟩
 all_goals have hz7:=HB6.out.size
 all_goals repeat' (first | exact HB6.out | apply belS | apply belA | apply belD)
 all_goals first | omega | (simp;done) | (simp;omega)
end Go.Proofs.YtadnggecnjdhiaaGreat
namespace Go.Proofs
open Go.Shelf
def Tryz.lays108_ren : Go.Shelf.Ren := ⟨fun | 108 => 139 | n => n, fun | 28 => 34 | 3 => 3 | 0 => 0 | 4 => 4 | n => n, fun | n => n⟩
theorem Tryz.lays108 : Go.Proofs.Lays.n108 Tryz.prog Tryz.lays108_ren := {
  mixed := by kernel_rfl
  f108 := Tryz.func139.trans (congrArg some (by kernel_rfl))
  t0 := Tryz.underlying0
  a0 := Tryz.isAgg0
  z0 := Tryz.sizeOf0
  v0 := Tryz.zeroValue0
  t3 := Tryz.underlying3
  a3 := Tryz.isAgg3
  z3 := Tryz.sizeOf3
  v3 := Tryz.zeroValue3
  t4 := Tryz.underlying4
  a4 := Tryz.isAgg4
  z4 := Tryz.sizeOf4
  v4 := Tryz.zeroValue4
  t28 := Tryz.underlying34
  a28 := Tryz.isAgg34
  z28 := Tryz.sizeOf34
  v28 := Tryz.zeroValue34 }
open Go.Lib in
/-- slices.Index at []int: "Index returns the index of the first occurrence of v in s, or -1 if not present.": IT RETURNS 'Lib.idxOf (the elements) v'; the world is as it was. 'zs': what the cells behind the slice's address hold (its spare capacity too, if you have it); 'zs.take n': its elements. (LAID: no walk: one application.) -/
theorem Tryz.slices_Index_int (b off n c : Nat) (zs : List Int) (x : Int) (w : World) (hz : n ≤ zs.length) (hbig : n ≤ 9223372036854775807) (hc : ∀ j, j < zs.length → w.cell? ⟨b, off + j, none⟩ = some (.int .i64 (zs.getD j 0))) :
    Calls Tryz.prog 139 #[.slice (some ⟨b, off, none⟩) n c, .int .i64 x] w fun e w' => e = .returned (.int .i64 (Lib.idxOf (zs.take n) x)) ∧ w' = w := Any.slices_Index_int Tryz.lays108 b off n c zs x w hz hbig hc
open Go.Lib in
/-- The same at a slice of length 0, a nil one too: no cell is known, none is asked for. (LAID: no walk: one application.) -/
theorem Tryz.slices_Index_int_empty (a : Option Addr) (c : Nat) (x : Int) (w : World) :
    Calls Tryz.prog 139 #[.slice a 0 c, .int .i64 x] w fun e w' => e = .returned (.int .i64 (Lib.idxOf [] x)) ∧ w' = w := Any.slices_Index_int_empty Tryz.lays108 a c x w
def Tryz.lays107_ren : Go.Shelf.Ren := ⟨fun | 107 => 136 | 108 => 139 | n => n, fun | 28 => 34 | 3 => 3 | 4 => 4 | 0 => 0 | n => n, fun | n => n⟩
theorem Tryz.lays107 : Go.Proofs.Lays.n107 Tryz.prog Tryz.lays107_ren := {
  mixed := by kernel_rfl
  f107 := Tryz.func136.trans (congrArg some (by kernel_rfl))
  f108 := Tryz.func139.trans (congrArg some (by kernel_rfl))
  t0 := Tryz.underlying0
  a0 := Tryz.isAgg0
  z0 := Tryz.sizeOf0
  v0 := Tryz.zeroValue0
  t3 := Tryz.underlying3
  a3 := Tryz.isAgg3
  z3 := Tryz.sizeOf3
  v3 := Tryz.zeroValue3
  t4 := Tryz.underlying4
  a4 := Tryz.isAgg4
  z4 := Tryz.sizeOf4
  v4 := Tryz.zeroValue4
  t28 := Tryz.underlying34
  a28 := Tryz.isAgg34
  z28 := Tryz.sizeOf34
  v28 := Tryz.zeroValue34 }
open Go.Lib in
/-- slices.Contains at []int: "Contains reports whether v is present in s.": IT RETURNS 'elements.contains v'; the world is as it was. ITS CALLEE slices.Index IS MET BY ITS OWN CONTRACT OFF THE SHELF (lay that first): no loop is walked here. (LAID: no walk: one application.) -/
theorem Tryz.slices_Contains_int (b off n c : Nat) (zs : List Int) (x : Int) (w : World) (hz : n ≤ zs.length) (hbig : n ≤ 9223372036854775807) (hc : ∀ j, j < zs.length → w.cell? ⟨b, off + j, none⟩ = some (.int .i64 (zs.getD j 0))) :
    Calls Tryz.prog 136 #[.slice (some ⟨b, off, none⟩) n c, .int .i64 x] w fun e w' => e = .returned (.bool ((zs.take n).contains x)) ∧ w' = w := Any.slices_Contains_int Tryz.lays107 b off n c zs x w hz hbig hc
open Go.Lib in
/-- The same at a slice of length 0, a nil one too. (LAID: no walk: one application.) -/
theorem Tryz.slices_Contains_int_empty (a : Option Addr) (c : Nat) (x : Int) (w : World) :
    Calls Tryz.prog 136 #[.slice a 0 c, .int .i64 x] w fun e w' => e = .returned (.bool false) ∧ w' = w := Any.slices_Contains_int_empty Tryz.lays107 a c x w
def Tryz.lays112_ren : Go.Shelf.Ren := ⟨fun | 112 => 95 | n => n, fun | 28 => 34 | 3 => 3 | 4 => 4 | 0 => 0 | n => n, fun | n => n⟩
theorem Tryz.lays112 : Go.Proofs.Lays.n112 Tryz.prog Tryz.lays112_ren := {
  mixed := by kernel_rfl
  f112 := Tryz.func95.trans (congrArg some (by kernel_rfl))
  t0 := Tryz.underlying0
  a0 := Tryz.isAgg0
  z0 := Tryz.sizeOf0
  v0 := Tryz.zeroValue0
  t3 := Tryz.underlying3
  a3 := Tryz.isAgg3
  z3 := Tryz.sizeOf3
  v3 := Tryz.zeroValue3
  t4 := Tryz.underlying4
  a4 := Tryz.isAgg4
  z4 := Tryz.sizeOf4
  v4 := Tryz.zeroValue4
  t28 := Tryz.underlying34
  a28 := Tryz.isAgg34
  z28 := Tryz.sizeOf34
  v28 := Tryz.zeroValue34 }
def Tryz.lays111_ren : Go.Shelf.Ren := ⟨fun | 111 => 51 | n => n, fun | 28 => 34 | 3 => 3 | 4 => 4 | 0 => 0 | n => n, fun | n => n⟩
theorem Tryz.lays111 : Go.Proofs.Lays.n111 Tryz.prog Tryz.lays111_ren := {
  mixed := by kernel_rfl
  f111 := Tryz.func51.trans (congrArg some (by kernel_rfl))
  t0 := Tryz.underlying0
  a0 := Tryz.isAgg0
  z0 := Tryz.sizeOf0
  v0 := Tryz.zeroValue0
  t3 := Tryz.underlying3
  a3 := Tryz.isAgg3
  z3 := Tryz.sizeOf3
  v3 := Tryz.zeroValue3
  t4 := Tryz.underlying4
  a4 := Tryz.isAgg4
  z4 := Tryz.sizeOf4
  v4 := Tryz.zeroValue4
  t28 := Tryz.underlying34
  a28 := Tryz.isAgg34
  z28 := Tryz.sizeOf34
  v28 := Tryz.zeroValue34 }
open Go.RowKit Go.Lib in
/-- slices.Equal at []int: "Equal reports whether two slices are equal: the same length and all elements equal. If the lengths are different, Equal returns false. Otherwise, the elements are compared in increasing index order, and the comparison stops at the first unequal pair. Empty and nil slices are considered equal.": IT RETURNS WHETHER THE TWO LISTS OF ELEMENTS ARE ONE; the world is as it was but for the count of draws (the test 's1[i] != s2[i]' has two reads, whose order the model draws, once a round). 'xs', 'ys': what the cells behind the two addresses hold (the spare capacity too, if you have it); 'xs.take n', 'ys.take m': the elements. THE TWO SLICES MAY OVERLAP. (LAID: no walk: one application.) -/
theorem Tryz.slices_Equal_int (b1 o1 n c b2 o2 m d : Nat) (xs ys : List Int) (w : World) (hx : n ≤ xs.length) (hy : m ≤ ys.length) (hbig : n ≤ 9223372036854775807) (hbig2 : m ≤ 9223372036854775807) (hc1 : ∀ j, j < xs.length → w.cell? ⟨b1, o1 + j, none⟩ = some (.int .i64 (xs.getD j 0))) (hc2 : ∀ j, j < ys.length → w.cell? ⟨b2, o2 + j, none⟩ = some (.int .i64 (ys.getD j 0))) :
    Calls Tryz.prog 51 #[.slice (some ⟨b1, o1, none⟩) n c, .slice (some ⟨b2, o2, none⟩) m d] w fun e w' => e = .returned (.bool (xs.take n == ys.take m)) ∧ ∃ q, w' = w.drewN q := Any.slices_Equal_int Tryz.lays111 b1 o1 n c b2 o2 m d xs ys w hx hy hbig hbig2 hc1 hc2
open Go.RowKit Go.Lib in
/-- The same where the first is of length 0 (a nil one too): no cell is asked for. (LAID: no walk: one application.) -/
theorem Tryz.slices_Equal_int_empty (a1 a2 : Option Addr) (c m d : Nat) (w : World) (hbig2 : m ≤ 9223372036854775807) :
    Calls Tryz.prog 51 #[.slice a1 0 c, .slice a2 m d] w fun e w' => e = .returned (.bool (decide (m = 0))) ∧ w' = w := Any.slices_Equal_int_empty Tryz.lays111 a1 a2 c m d w hbig2
def Tryz.laysNm215_ren : Go.Shelf.Ren := ⟨fun | 15 => 121 | n => n, fun | 22 => 34 | 3 => 3 | 4 => 4 | n => n, fun | n => n⟩
theorem Tryz.laysNm215 : Go.Proofs.Lays2.n15 Tryz.prog Tryz.laysNm215_ren := {
  mixed := by kernel_rfl
  f15 := Tryz.func121.trans (congrArg some (by kernel_rfl))
  t3 := Tryz.underlying3
  a3 := Tryz.isAgg3
  z3 := Tryz.sizeOf3
  v3 := Tryz.zeroValue3
  t4 := Tryz.underlying4
  a4 := Tryz.isAgg4
  z4 := Tryz.sizeOf4
  v4 := Tryz.zeroValue4
  t22 := Tryz.underlying34
  a22 := Tryz.isAgg34
  z22 := Tryz.sizeOf34
  v22 := Tryz.zeroValue34
  i3 := by kernel_rfl }
open Go.RowKit Go.Lib in
/-- slices.Clone at []int: "Clone returns a copy of the slice. The elements are copied using assignment, so this is a shallow clone. The result may have additional unused capacity. The result preserves the nilness of s.": OF A SLICE THAT IS NOT nil IT RETURNS A SLICE THAT IS NOT nil, OF THE SAME ELEMENTS, IN MEMORY OF THE CALL's OWN: in the how-to's words (6f): 'w'.ownsRow B e 1 v' n cells': v' begins at the head of a row among the blocks from B on (B: the heap's size at the call), not frozen, whose first cells are the elements · 'Below B w w'': below B all is as it was. The capacity is whatever the run-time gives. 'zs': what the cells behind the slice's address hold; 'zs.take n': its elements. (LAID: no walk: one application.) -/
theorem Tryz.slices_Clone_int (b off n c : Nat) (zs : List Int) (w : World) (hz : n ≤ zs.length) (hbig : n * 8 ≤ 140737488355328) (hc : ∀ j, j < zs.length → w.cell? ⟨b, off + j, none⟩ = some (.int .i64 (zs.getD j 0))) :
    Calls Tryz.prog 121 #[.slice (some ⟨b, off, none⟩) n c] w fun e w' => ∃ v', e = .returned v' ∧ w'.ownsRow w.heap.size 3 1 v' n ((zs.take n).map (Value.int .i64)) ∧ v' ≠ .slice none 0 0 ∧ Below w.heap.size w w' := Any.slices_Clone_int Tryz.laysNm215 b off n c zs w hz hbig hc
open Go.RowKit Go.Lib Go.Sort in
/-- slices.Reverse at []int, of an argument: the n cells hold the elements in reverse. (LAID: no walk: one application.) -/
theorem Tryz.slices_Reverse_int_cells (b off n c : Nat) (zs : List Int) (w : World) (hz : n ≤ zs.length) (hbig : n ≤ 9223372036854775807) (hc : ∀ j, j < zs.length → w.cell? ⟨b, off + j, none⟩ = some (.int .i64 (zs.getD j 0))) (hf : ∀ j, j < n → w.frozen? ⟨b, off + j, none⟩ = false) :
    Calls Tryz.prog 95 #[.slice (some ⟨b, off, none⟩) n c] w fun e w' => e = .returned (.tuple #[]) ∧ ∃ q, w' = (w.drewN q).setCells b off ((zs.take n).reverse.map (Value.int .i64)) := Any.slices_Reverse_int_cells Tryz.lays112 b off n c zs w hz hbig hc hf
open Go.RowKit Go.Lib in
theorem Tryz.slices_Equal_int_lens (a1 a2 : Option Addr) (n c m d : Nat) (w : World) (hnm : n ≠ m) :
    Calls Tryz.prog 51 #[.slice a1 n c, .slice a2 m d] w fun e w' => e = .returned (.bool false) ∧ w' = w := Any.slices_Equal_int_lens Tryz.lays111 a1 a2 n c m d w hnm
end Go.Proofs
namespace Go.Proofs.YtadnggecnjdhiaaGreat
open Go.RowKit Tx
theorem wpList_store_new {P:Program} {ops:Array Oper} {rest:List Oper} {op:Oper} {a:Act} {w:World} {Q:Exit→Act→World→Prop} (hgd:op.guard=none) (ty:TypeId) (x y:Operand) (ho:op.op=.store ty x y)
  (c c':Array Value) (hx:a.eval x=.pointer (some ⟨w.heap.size,0,none⟩)) (hy:a.eval y=.agg c')
  (hi:(P.info? ty).map (·.size)=some c'.size) (hs:c.size=c'.size) (h1:c'.all (·.oneCell')=true)
  (h:wpList P ops Q rest (a.put op.dst undef) (w.alloc (.cells c' ty))):wpList P ops Q (op::rest) a (w.alloc (.cells c ty)) :=
 wpList_plain hgd fun K hK=>by
  unfold Oper.wp execOp;simp only [ho,hx,hy,Sem.run_bind,run_storeAt_new w ty c c' hi hs h1,Result.andThen_ok,Sem.run_pure];exact hK _ _ h
end Go.Proofs.YtadnggecnjdhiaaGreat
namespace Go.Proofs.YtadnggecnjdhiaaGreat
open Go.RowKit Tx
theorem before_lt {may:Nat→Nat→Bool} {m:Marks} {b:Nat} (h:0<b):Tx.before may m b<b:=by
 unfold Tx.before;cases hf:(List.range b).find? (befP may m b) with
 | none=>exact h
 | some x=>exact List.mem_range.1 (List.mem_of_find?_eq_some hf)
theorem walkBack_step (may:Nat→Nat→Bool) (m:Marks) (f b:Nat) (h:0<b):walkBack may m (f+1) b=((b:Int)-(Tx.before may m b:Int))::walkBack may m f (Tx.before may m b):=by
 rw [walkBack,if_neg (by omega)]
theorem walkBack_zero (may:Nat→Nat→Bool) (m:Marks) (f:Nat):walkBack may m f 0=[]:=by cases f <;> simp [walkBack]
def spFe (pw:Option Addr) (n cw:Nat) (v1 v2 mv:Value) (BA:Array Value) (g:Bool):Nat→List Value→Value→World→Prop
 | 0,_,v,_=>v=.agg #[.slice pw n cw,v1,v2,mv]
 | 1,_,v,_=>v=.agg BA
 | 2,_,v,_=>v=.agg #[.slice pw n cw,v1,v2,mv]
 | 3,_,v,_=>v=.int .i64 n
 | 4,_,v,_=>v=.bool g
 | 5,_,v,_=>v=.bool (!g)
 | _,_,_,_=>False
theorem spFe_stable (pw:Option Addr) (n cw:Nat) (v1 v2 mv:Value) (BA:Array Value) (g:Bool):∀ i L v w w',spFe pw n cw v1 v2 mv BA g i L v w→Rs.Gr w w'→spFe pw n cw v1 v2 mv BA g i L v w':=by
 intro i L v w w' h hg
 match i with
 | 0=>exact h
 | 1=>exact h
 | 2=>exact h
 | 3=>exact h
 | 4=>exact h
 | 5=>exact h
set_option maxHeartbeats 2000000 in
set_option maxRecDepth 100000 in
theorem fewest_any (may:Nat→Nat→Bool) (n cw:Nat) (hn1:1≤n) (hn:n≤12) (pw:Option Addr) (v1 v2 mv:Value) (w:World) (hMay:MayAt mv may n (fun k=>k<w.heap.size) w) :
  Calls Tryz.prog 43 #[.agg #[.slice pw n cw,v1,v2,mv]] w fun e w'=>∃ v,e=.returned (.tuple #[v,.int .i64 (Tx.fewest may n).2])∧w'.ownsRow w.heap.size 3 1 v (Tx.fewest may n).1.length ((Tx.fewest may n).1.map (Value.int .i64))∧Below w.heap.size w w':=by
 obtain ⟨i0,hi0,hz0,hz1,hz2⟩:=info_parts A_infoI;have HMAY:=Lib.hid hMay;have HSM:=Lib.hid (greatest_small (may:=may) hn);clear hMay;have HX0:=heap_last w (.cells #[.slice pw n cw,v1,v2,mv] 84);have HXA:=Lib.hid HX0;have HZA:(w.alloc (.cells #[.slice pw n cw,v1,v2,mv] 84)).heap.size=w.heap.size+1:=by simp
 clear HX0
 go_enter Tryz.func43,Tryz.ntmps43
 go_wp2_with fail
 refine (greatest_any may n cw hn pw v1 v2 mv _ ((HMAY.out.hold (.of_below (below1 _ _) (fun _ h _=>h))).mono (fun j hj _=>by simp;omega))).mono ?_;rintro e W1 ⟨rfl,hB1⟩;have hz1':w.heap.size+1≤W1.heap.size:=by have:=hB1.size;simpa using this
 have HX1:=Lib.hid ((hB1.block w.heap.size (by simp)).trans HXA.out);have HB1:=Lib.hid (join (below1 _ _) hB1);have hsz:(arrOf (greatest may n)).size=13:=by rw [arrOf_size];exact HSM.out.1
 have HI:=Lib.hid (size_marks hsz);have HON:=Lib.hid (arrOf_one (greatest may n));have HRE:=Lib.hid (fun W=>reached_any (.slice pw n cw) v1 v2 mv (greatest may n) HSM.out.1 n (by omega) W);clear hB1 HZA HXA;obtain ⟨BA,hBA⟩:∃ BA,BA=arrOf (greatest may n):=⟨_,rfl⟩;rw [← hBA] at HI HON HRE hsz ⊢;have HBA:=Lib.hid hBA;have HSZ:=Lib.hid hsz;clear hBA hsz;go_wp2_with (with_reducible refine wpList_store_new rfl 116 _ _ rfl _ BA rfl rfl HI.out ?hs HON.out ?_)
 case hs=>rw [HSZ.out];rfl
 have HM:=Lib.hid (heap_last W1 (.cells BA 116));have HX:=Lib.hid ((Below.heap_alloc W1 (.cells BA 116) _ (show w.heap.size<W1.heap.size by omega)).trans HX1.out);have HB2:=Lib.hid (join HB1.out (below1 W1 (.cells BA 116)));have hz2':(W1.alloc (.cells BA 116)).heap.size=W1.heap.size+1:=by simp
 generalize hW2:W1.alloc (.cells BA 116)=W2 at HM HX HB2 hz2' ⊢;clear hW2;refine Rs.region_gen 6 [[],[],[],[2],[0,1,2,3],[0,1,2,3,4]] [some 10,some 11,some 12,some 13,some 14,some 15] (spFe pw n cw v1 v2 mv BA (decide ((greatest may n).getD n 0<99))) (by kernel_rfl) (by kernel_rfl) rfl (spFe_stable _ _ _ _ _ _ _ _) ?_ ?_
 ·refine ⟨fun V w' hG hs=>?_,fun V w' hG hs=>?_,fun V w' hG hs=>?_,fun V w' hG hs=>?_,fun V w' hG hs=>?_,fun V w' hG hs=>?_,trivial⟩
  all_goals
   have hm:=(hG.block W1.heap.size (by omega)).trans HM.out;have hx:=(hG.block w.heap.size (by omega)).trans HX.out;have k0:=blk_cells hx 0 _ rfl;have k1:=blk_cells hx 1 _ rfl;have k2:=blk_cells hx 2 _ rfl;have k3:=blk_cells hx 3 _ rfl
  ·rw [if_pos (by rfl)];exact Rs.GrowL.value (v:=.agg #[.slice pw n cw,v1,v2,mv]) (w':=w') (by simp [go_sem,Rs.look,k0,k1,k2,k3]) (Rs.Gr.refl _) rfl
  ·rw [if_pos (by rfl)];exact Rs.GrowL.value (v:=.agg BA) (w':=w') (exec_load_row 116 _ rfl W1.heap.size rfl 116 BA (0,0) _ hm und_marks rfl HI.out) (Rs.Gr.refl _) rfl
  ·rw [if_pos (by rfl)];exact Rs.GrowL.value (v:=.agg #[.slice pw n cw,v1,v2,mv]) (w':=w') (by simp [go_sem,Rs.look,k0,k1,k2,k3]) (Rs.Gr.refl _) rfl
  ·have e2:V 2=_:=hs 2 (by simp);rw [if_pos (by rfl)];refine Rs.GrowL.call (f:=72) (args:=#[.agg #[.slice pw n cw,v1,v2,mv]]) (by simp [go_sem,Rs.look,e2]) ?_;refine (end_any _ _ _ _ _ _ _).mono ?_;rintro e w2 ⟨rfl,rfl⟩;exact ⟨_,rfl,below1 _ _,rfl⟩
  ·have e0:V 0=_:=hs 0 (by simp);have e1:V 1=_:=hs 1 (by simp);have e2:V 2=_:=hs 2 (by simp);have e3:V 3=_:=hs 3 (by simp);rw [if_pos (by rfl)];refine Rs.GrowL.call (f:=71) (args:=#[.agg #[.slice pw n cw,v1,v2,mv],.agg BA,.int .i64 n]) (by simp [go_sem,Rs.look,e0,e1,e3]) ?_;refine (HRE.out w').mono ?_;rintro e w2 ⟨rfl,hB2⟩;exact ⟨_,rfl,hB2,rfl⟩
  ·have e0:V 0=_:=hs 0 (by simp);have e1:V 1=_:=hs 1 (by simp);have e2:V 2=_:=hs 2 (by simp);have e3:V 3=_:=hs 3 (by simp);have e4:V 4=_:=hs 4 (by simp);rw [if_pos (by rfl)];exact Rs.GrowL.value (v:=.bool (!(decide ((greatest may n).getD n 0<99)))) (w':=w') (by simp [go_sem,Rs.look,e0,e1,e2,e3,e4]) (Rs.Gr.refl _) rfl
 ·intro V w' hG hs;have e0:V 0=_:=hs 0 (by omega);have e1:V 1=_:=hs 1 (by omega);have e2:V 2=_:=hs 2 (by omega);have e3:V 3=_:=hs 3 (by omega);have e4:V 4=_:=hs 4 (by omega);have e5:V 5=_:=hs 5 (by omega);simp only [Rs.canon,Rs.dstOf,List.range_succ,List.range_zero,List.nil_append,List.cons_append,List.foldl_cons,List.foldl_nil,List.drop_succ_cons,List.drop_zero,List.drop_nil,List.getElem?_toArray,List.getElem?_cons_succ,List.getElem?_cons_zero,Option.bind_some,Act.put,List.getD_cons_succ,List.getD_cons_zero,List.setIfInBounds_toArray,List.set_cons_succ,List.set_cons_zero];rw [e0,e1,e2,e3,e4,e5];clear e0 e1 e2 e3 e4 e5 hs;have HG:=Lib.hid hG;have hzg:=hG.size;have HMw:=Lib.hid ((hG.block W1.heap.size (by omega)).trans HM.out);have hxw:=(hG.block w.heap.size (by omega)).trans HX.out;have k0:=blk_cells hxw 0 _ rfl;have k1:=blk_cells hxw 1 _ rfl;have k2:=blk_cells hxw 2 _ rfl;have k3:=blk_cells hxw 3 _ rfl;have hsw:w.heap.size<w'.heap.size∧W1.heap.size<w'.heap.size:=by omega
  obtain ⟨hsw0,hsw1⟩:=hsw;have HXW:=Lib.hid hxw;clear hG hxw HX HM;by_cases hd:(greatest may n).getD n 0<99
  ·have hfew:Tx.fewest may n=((walkBack may (greatest may n) n n).reverse,0):=by unfold Tx.fewest;rw [if_pos hd]
   have HFEW:=Lib.hid hfew;rw [decide_eq_true hd];clear hfew hd;go_wp2_with fail
   refine (end_any _ _ _ _ _ _ _).mono ?_;rintro e w5 ⟨rfl,hw5⟩;have hB5:Below w'.heap.size w' w5:=by rw [← hw5];exact below1 _ _
   have hz5:w'.heap.size+1=w5.heap.size:=by rw [← hw5];simp
   have HM5:=Lib.hid ((hB5.block _ hsw1).trans HMw.out);have HX5:=Lib.hid ((hB5.block _ hsw0).trans HXW.out);have HB5:=Lib.hid (join HB2.out (join HG.out hB5));clear hw5 hB5 k0 k1 k2 k3;go_wp2_with fail
   go_loopw [5,6] (fun v u wr=>∃ (b f:Nat) (done:List Int),u=.int .i64 b∧b≤n∧b≤f∧done.length+f=n∧done++walkBack may (greatest may n) f b=walkBack may (greatest may n) n n ∧
    wr.ownsRow w5.heap.size 3 1 v done.length (done.map (Value.int .i64))∧Below w5.heap.size w5 wr) (fun _ u _=>(intOf u).toNat)
   case atStart=>exact ⟨n,n,[],rfl,Nat.le_refl _,Nat.le_refl _,by simp,rfl,own_none _ _ _ _,Below.refl _ _⟩
   case round =>
    obtain ⟨b,f,done,rfl,hbn,hbf,hdf,hwb,hown,hBr⟩:=hrel;have HWB:=Lib.hid hwb;have HO:=Lib.hid hown;have HBr:=Lib.hid hBr;have HDF:=Lib.hid hdf;have hzr:=hBr.size;have hdl:done.length≤12:=by omega
    have HMr:=Lib.hid ((hBr.block W1.heap.size (by omega)).trans HM5.out);have hxr:=(hBr.block w.heap.size (by omega)).trans HX5.out;have k0:=blk_cells hxr 0 _ rfl;have k1:=blk_cells hxr 1 _ rfl;have k2:=blk_cells hxr 2 _ rfl;have k3:=blk_cells hxr 3 _ rfl;have hs0:w.heap.size<wr.heap.size:=by omega
    clear hwb hown hBr hdf hxr;by_cases hb0:0<b
    ·have hb0':(0:Int)<b:=by omega
     have hbf1:1≤f:=by omega
     have hlt:=before_lt (may:=may) (m:=greatest may n) hb0;have HBEF:=Lib.hid (before_any may n cw hn pw v1 v2 mv (greatest may n) HSM.out b hbn wr ((HMAY.out.hold (.of_below (HB5.out.trans (HBr.out.mono (by omega))) (fun _ h _=>h))).mono (fun j hj _=>by omega)));rw [← HBA.out] at HBEF;generalize hbb:Tx.before may (greatest may n) b=c at hlt HBEF;have HBB:=Lib.hid hbb;clear hbb;go_wp2_with (with_reducible refine wpList_load_row rfl 116 _ rfl W1.heap.size rfl 116 BA (0,0) _ HMr.out und_marks rfl HI.out ?_)
     refine HBEF.out.mono ?_;rintro e w6 ⟨rfl,hB6⟩;have HO6:=Lib.hid (own_below HO.out hB6);have hz6:=hB6.size;have HB6:=Lib.hid (join HBr.out hB6);clear hB6 HBEF k0 k1 k2 k3;go_wp2_with (at_builtin;refine wpList_append_own _ rfl _ _ 34 rfl w5.heap.size 3 i0 (.int .i64 0) 1 8 A_undI hi0 hz0 hz1 hz2 rfl (by decide) _ _ _ rfl (HO6.out.alloc _) ⟨w6.heap.size,0,none⟩ 1 1 [.int .i64 ((b:Int)-(c:Int))] rfl rfl ?d1 ?d2 ?d3 ?d4 ?d5 ?_)
     case d1=>exact cell_one_new _ _ _
     case d2=>first | rfl | (intro u hu;simp at hu;subst hu;rfl)
     case d3=>unfold maxLen;omega
     case d4=>omega
     case d5=>first | omega | (simp;omega)
     intro v' w8 hown8 hgrow _;have hB8:=below_grown (al2 HB6.out (by omega) _) (HO6.out.alloc _) (Nat.le_refl _) (by simp;omega) hgrow;have HO8:=Lib.hid hown8;have HB8:=Lib.hid hB8;clear hgrow hown8 hB8;go_wp2;go_roundw
     case rel =>
      refine ⟨c,f-1,done++[(b:Int)-(c:Int)],rfl,by omega,by omega,by simp;have:=HDF.out;omega,?_,by simpa using HO8.out,HB8.out⟩;rw [← HWB.out,show f=(f-1)+1 by omega,walkBack_step _ _ _ _ hb0,HBB.out,List.append_assoc];rfl
     case measure=>simp [intOf];omega
    ·obtain rfl:b=0:=by omega
     have hdone:done=walkBack may (greatest may n) n n:=by rw [← HWB.out,walkBack_zero,List.append_nil]
     have hne:done≠[]:=by
      rw [hdone,show n=(n-1)+1 by omega,walkBack_step _ _ _ _ (by omega)];simp
     obtain ⟨p,c,rfl,hints,hfr,hcl,hcc⟩:=own_rd HO.out rfl;rcases hints with h0 | ⟨g,o,rfl,hgl,hcells⟩
     ·exact absurd h0 hne
     obtain ⟨hg5,rfl,hfz⟩:=hfr g o rfl;have HREV:=Lib.hid (Tryz.slices_Reverse_int_cells g 0 done.length c done wr (Nat.le_refl _) (by omega) hcells (fun j _=>by simpa using hfz j));have HDN:=Lib.hid hdone;clear hdone hne hcells hfz hfr k0 k1 k2 k3;go_wp2_with fail
     refine HREV.out.mono ?_;rintro e w7 ⟨rfl,q,rfl⟩;go_wp2;go_ret2;refine ⟨_,by rw [HFEW.out];rfl,?_,?_⟩
     ·rw [HFEW.out,← HDN.out];have:=own_base (own_setCells (own_drewN HO.out q) (ys:=(done.map (Value.int .i64)).reverse) (by simp)) (base':=w.heap.size) (by have:=HB5.out.size;omega)
      simpa using this
     ·have hb5:=HB5.out.size;exact below_setCells' (by omega) _ _ _ (below_drewN' (HB5.out.trans (HBr.out.mono hb5)) q)
  ·have hfew:Tx.fewest may n=([],6):=by unfold Tx.fewest;rw [if_neg hd]
   have HFEW:=Lib.hid hfew;rw [decide_eq_false hd];clear hfew hd;go_wp2;go_ret2;exact ⟨_,by rw [HFEW.out];rfl,by rw [HFEW.out];exact own_none _ _ _ _,join HB2.out HG.out⟩
theorem TxAt.hold {Kp:Nat→Prop} {w w':World} {t:Text} {pw pt:Option Addr} (h:TxAt w t pw pt) (hh:Hold Kp w w') (hk:∀ k,k<w.heap.size→Kp k):TxAt w' t pw pt:=by
 refine ⟨?_,?_⟩
 ·rcases h.words with h | ⟨b,o,hp,hl,h⟩
  ·exact .inl h
  ·exact .inr ⟨b,o,hp,Nat.lt_of_lt_of_le hl hh.size,fun i hi=>⟨(hh.cell (p:=⟨b,o+i*3,none⟩) (hk _ hl) hl).trans (h i hi).1,(hh.cell (p:=⟨b,o+i*3+1,none⟩) (hk _ hl) hl).trans (h i hi).2.1,(hh.cell (p:=⟨b,o+i*3+2,none⟩) (hk _ hl) hl).trans (h i hi).2.2⟩⟩
 ·rcases h.turns with h | ⟨b,o,hp,hl,h⟩
  ·exact .inl h
  ·exact .inr ⟨b,o,hp,Nat.lt_of_lt_of_le hl hh.size,fun i hi=>⟨(hh.cell (p:=⟨b,o+i*3,none⟩) (hk _ hl) hl).trans (h i hi).1,(hh.cell (p:=⟨b,o+i*3+1,none⟩) (hk _ hl) hl).trans (h i hi).2.1,(hh.cell (p:=⟨b,o+i*3+2,none⟩) (hk _ hl) hl).trans (h i hi).2.2⟩⟩
theorem entered_right:Entered 91:=fun args W=>by kernel_rfl
theorem right_may (t:Text) (pw pt:Option Addr) (cw ct:Nat) (mf:Value) (w:World) (hW:WkAt w t pw pt cw) :
  MayAt (.func (.func 91) #[.agg #[.slice pw t.words.length cw,.slice pt t.turns.length ct,.int .i64 t.breath,mf]] #[]) t.right t.words.length (fun k=>k<w.heap.size) w :=
 ⟨91,_,_,rfl,entered_right,fun W hH a b hab hb=>right_any t pw pt cw ct mf a b (by omega) hb W ⟨hW.ok,hW.at_.hold hH (fun k hk=>hk),hW.cap⟩⟩
def fewL (t:Text):List Int:=if t.err=0 then (Tx.fewest t.right t.words.length).1 else []
def fewE (t:Text):Int:=if t.err=0 then (Tx.fewest t.right t.words.length).2 else t.err
def ListPost (l:List Int) (er:Int) (w:World) (e:Ending) (w':World):Prop:=∃ v,e=.returned (.tuple #[v,.int .i64 er])∧w'.ownsRow w.heap.size 3 1 v l.length (l.map (Value.int .i64))∧Below w.heap.size w w'
set_option maxHeartbeats 800000 in
theorem Fewest_any (t:Text) (hl1:t.words.length≤1000000) (hl2:t.turns.length≤1000000) (pw pt:Option Addr) (cw ct:Nat) (hcw:t.words.length≤cw∧cw≤maxLen) (w:World) (hW:TxAt w t pw pt) :
  Calls Tryz.prog 29 #[.agg #[.slice pw t.words.length cw,.slice pt t.turns.length ct,.int .i64 t.breath]] w (ListPost (fewL t) (fewE t) w):=by
 by_cases he:t.err=0
 ·have ok:=err_ok he;have h1:fewL t=(Tx.fewest t.right t.words.length).1:=if_pos he;have h2:fewE t=(Tx.fewest t.right t.words.length).2:=if_pos he;rw [h1,h2];have HS:=Lib.hid (fun W (h:Below w.heap.size w W)=>open_ok t he pw pt cw ct W (hW.below h));have HF:=Lib.hid (fun W (h:Below w.heap.size w W)=>fewest_any t.right t.words.length cw ok.n1 ok.n12 pw (.slice pt t.turns.length ct) (.int .i64 t.breath) _ W (right_may t pw pt cw ct .nilFunc W ⟨ok,hW.below h,hcw⟩));clear hW he h1 h2 ok
  go_enter Tryz.func29,Tryz.ntmps29
  go_wp2_with fail
  refine (HS.out _ (below1 _ _)).mono ?_;rintro e w5 ⟨rfl,hB5⟩;have HB5:=Lib.hid (join (below1 _ _) hB5);clear hB5;go_wp2_with fail
  refine (HF.out _ (join HB5.out (below1 _ _))).mono ?_;rintro e w6 ⟨v,rfl,hown,hB6⟩;have HO:=Lib.hid hown;have HB6:=Lib.hid hB6;clear hown hB6;go_wp2;go_ret2;have hz:=HB5.out.size;exact ⟨_,rfl,own_base HO.out (by simp;omega),join (join HB5.out (below1 _ _)) HB6.out⟩
 ·have h1:fewL t=[]:=if_neg he;have h2:fewE t=t.err:=if_neg he;rw [h1,h2];have HS:=Lib.hid (fun W (h:Below w.heap.size w W)=>open_bad t he hl1 hl2 pw pt cw ct W (hW.below h));have HE:(t.err != 0)=true:=by simpa using he
  clear hW he h1 h2;generalize t.err=er at HE HS ⊢
  go_enter Tryz.func29,Tryz.ntmps29
  go_wp2_with fail
  refine (HS.out _ (below1 _ _)).mono ?_;rintro e w5 ⟨rfl,hB5⟩;have HB5:=Lib.hid (join (below1 _ _) hB5);clear hB5;go_wp2;go_ret2;exact ⟨_,rfl,own_none _ _ _ _,join HB5.out (below1 _ _)⟩
end Go.Proofs.YtadnggecnjdhiaaGreat
namespace Go.Proofs.YtadnggecnjdhiaaGreat
open Go.RowKit Tx
attribute [local go_sem] Oper.semAt_some
theorem off_any (n lo hi:Int) (w:World):Calls Tryz.prog 45 #[.int .i64 n,.int .i64 lo,.int .i64 hi] w fun e w'=>e=.returned (.bool (!btw n lo hi))∧w=w':=by
 by_cases h:n<lo
 ·have HF:Hid ((!btw n lo hi)=true):=Lib.hid (by unfold btw;rw [decide_eq_false (by omega)];rfl);generalize (!btw n lo hi)=b at HF ⊢
  go_enter Tryz.func45,Tryz.ntmps45
  go_wp2;go_ret;exact ⟨by rw [HF.out];rfl,rfl⟩
 ·by_cases h2:hi<n
  ·have HF:Hid ((!btw n lo hi)=true):=Lib.hid (by unfold btw;rw [decide_eq_false (show ¬ n≤hi by omega),Bool.and_false];rfl);generalize (!btw n lo hi)=b at HF ⊢
   go_enter Tryz.func45,Tryz.ntmps45
   go_wp2;go_ret;exact ⟨by rw [HF.out];rfl,rfl⟩
  ·have HF:Hid ((!btw n lo hi)=false):=Lib.hid (by unfold btw;rw [decide_eq_true (show lo≤n by omega),decide_eq_true (show n≤hi by omega)];rfl);generalize (!btw n lo hi)=b at HF ⊢
   go_enter Tryz.func45,Tryz.ntmps45
   go_wp2;go_ret;exact ⟨by rw [HF.out];rfl,rfl⟩
set_option maxHeartbeats 1000000 in
set_option maxRecDepth 100000 in
theorem has_any (l:List Int) (n:Int) (hll:l.length≤1000000) (p:Option Addr) (c:Nat) (w:World) (hL:Ints w p l) :
  Calls Tryz.prog 116 #[.slice p l.length c,.int .i64 n] w fun e w'=>e=.returned (.bool (l.contains n))∧Below w.heap.size w w':=by
 have HL:=Lib.hid hL;clear hL
 go_enter Tryz.func116,Tryz.ntmps116
 go_wp2
 go_loopg [5] l.length (fun g i wi=>∃ k:Nat,g+k=l.length∧i=.int .i64 k∧(∀ j,j<k→l.getD j 0≠n)∧Below w.heap.size w wi)
 case atStart=>exact ⟨0,by omega,rfl,fun j hj=>by omega,Below.refl _ _⟩
 case round =>
  obtain ⟨k,hk,rfl,hE,hB⟩:=hrel;have HE:=Lib.hid hE;have HB:=Lib.hid hB;by_cases hlt:k<l.length
  ·have hlt':(k:Int)<l.length:=by omega
   obtain ⟨b,o,x,rfl,hbl,hx,hc⟩:=HL.out.at hlt;have d1:=(hB.cell (p:=⟨b,o+k,none⟩) hbl).trans hc;have HX:=Lib.hid hx;clear hE hB hx hc;by_cases hxn:x=n
   ·subst hxn;go_wp2;go_ret;have:l.contains x=true:=by
     rw [List.contains_iff_mem,HX.out,List.getD_eq_getElem?_getD,List.getElem?_eq_getElem hlt];exact List.getElem_mem hlt
    exact ⟨by rw [this];rfl,HB.out⟩
   ·have hxn':(x == n)=false:=by simpa using hxn
    have HN:=Lib.hid hxn;clear hxn;go_wp2
    go_roundg (gk-1)
    case rel=>exact ⟨k+1,by omega,by simp,fun j hj=>by
     rcases Nat.lt_succ_iff_lt_or_eq.1 hj with hj | rfl
     ·exact HE.out j hj
     ·rw [← HX.out];exact HN.out,HB.out⟩
    case measure=>omega
  ·have hkk:k=l.length:=by omega
   subst hkk;clear hE hB;go_wp2;go_ret;have:l.contains n=false:=by
    rw [Bool.eq_false_iff];intro h;rw [List.contains_iff_mem] at h;obtain ⟨i,hi,he⟩:=List.getElem_of_mem h;have:=HE.out i hi;rw [List.getD_eq_getElem?_getD,List.getElem?_eq_getElem hi] at this;exact this he
   exact ⟨by rw [this];rfl,HB.out⟩
def wordsL (a:Int) (n:Nat):List Int:=(List.range n).map fun (i:Nat)=>a+(i:Int)
theorem wordsL_succ (a:Int) (n:Nat):wordsL a (n+1)=wordsL a n++[a+(n:Int)]:=by unfold wordsL;rw [List.range_succ,List.map_append];rfl
theorem wordsL_length (a:Int) (n:Nat):(wordsL a n).length=n:=by simp [wordsL]
set_option maxHeartbeats 1000000 in
set_option maxRecDepth 100000 in
theorem words_any (a b:Int) (ha:-1000000≤a∧a≤1000000) (hb:-1000000≤b∧b≤1000000) (w:World) :
  Calls Tryz.prog 98 #[.int .i64 a,.int .i64 b] w (RowPost (wordsL a (b-a).toNat) w):=by
 obtain ⟨i0,hi0,hz0,hz1,hz2⟩:=info_parts A_infoI
 go_enter Tryz.func98,Tryz.ntmps98
 go_wp2
 go_loopw [5,6] (fun v i wr=>∃ k:Nat,k≤(b-a).toNat∧i=.int .i64 (a+(k:Int))∧wr.ownsRow w.heap.size 3 1 v (wordsL a k).length ((wordsL a k).map (Value.int .i64))∧Below w.heap.size w wr) (fun _ i _=>(b-intOf i).toNat)
 case atStart=>exact ⟨0,Nat.zero_le _,by simp,own_none _ _ _ _,Below.refl _ _⟩
 case round =>
  obtain ⟨k,hk,rfl,hown,hBr⟩:=hrel;have HO:=Lib.hid hown;have HBr:=Lib.hid hBr;have hlen:(wordsL a k).length≤3000000:=by rw [wordsL_length];omega
  have hz7:=hBr.size;by_cases hlt:a+(k:Int)<b
  ·have HK:=Lib.hid hk;have HSN:=Lib.hid (wordsL_succ a k);have hinc:a+(k:Int)+1=a+((k+1:Nat):Int):=by push_cast;omega
   have HI:=Lib.hid hinc;obtain ⟨q,hq⟩:∃ q:Int,q=a+(k:Int):=⟨_,rfl⟩;have hq1:-1000000≤q∧q<1000000:=by omega
   obtain ⟨hq1,hq2⟩:=hq1;rw [← hq] at hlt HSN HI ⊢;have HQ:=Lib.hid hq;clear hown hBr hk hinc hq;go_wp2_with (at_builtin;refine wpList_append_own _ rfl _ _ 34 rfl w.heap.size 3 i0 (.int .i64 0) 1 8 A_undI hi0 hz0 hz1 hz2 rfl (by decide) _ _ _ rfl (HO.out.alloc _) ⟨wr.heap.size,0,none⟩ 1 1 [.int .i64 q] rfl rfl ?d1 ?d2 ?d3 ?d4 ?d5 ?_)
   case d1=>exact cell_one_new _ _ _
   case d2=>first | rfl | (intro u hu;simp at hu;subst hu;rfl)
   case d3=>unfold maxLen;omega
   case d4=>omega
   case d5=>first | omega | (simp;omega)
   intro v' w8 hown8 hgrow _;have hB8:=below_grown (al2 HBr.out (by omega) _) (HO.out.alloc _) (Nat.le_refl _) (by simp;omega) hgrow;have HO8:=Lib.hid hown8;have HB8:=Lib.hid hB8;clear hgrow hown8 hB8;go_wp2;go_roundw
   case rel=>exact ⟨k+1,by have:=HQ.out;omega,by rw [HI.out],by rw [HSN.out];simpa using HO8.out,HB8.out⟩
   case measure=>simp [intOf];omega
  ·obtain rfl:k=(b-a).toNat:=by omega
   have HLT:=Lib.hid hlt;clear hown hBr hk;go_wp2;go_ret;exact ⟨_,rfl,HO.out,HBr.out⟩
end Go.Proofs.YtadnggecnjdhiaaGreat
namespace Go.Proofs.YtadnggecnjdhiaaGreat
open Go.RowKit Tx
attribute [local go_sem] Oper.semAt_some
theorem off_b (n lo hi:Int) (b:Bool) (h:(!btw n lo hi)=b) (w:World):Calls Tryz.prog 45 #[.int .i64 n,.int .i64 lo,.int .i64 hi] w fun e w'=>e=.returned (.bool b)∧w=w':=by
 rw [← h];exact off_any n lo hi w
theorem off_q (n lo hi:Int) (b:Bool) (h:(!btw n lo hi)=b) (w:World):Calls Tryz.prog 45 #[.int .i64 n,.int .i64 lo,.int .i64 hi] w fun e w'=>e=.returned (.bool b)∧w'=w :=
 (off_b n lo hi b h w).mono fun _ _ ⟨he,hw⟩=>⟨he,hw.symm⟩
theorem not_btw {n lo hi:Int} {b:Bool} (h:btw n lo hi=b):(!btw n lo hi)=!b:=by rw [h]
theorem badWord_def (x:Word):badWord x=(!btw x.syl 1 9||!btw x.wt 0 20):=rfl
theorem names_def (n:Nat) (u:Turn):namesNo n u=(!btw u.word 0 ((n:Int)-1)||!btw u.lo 0 ((n:Int)-1)||!btw u.hi 0 ((n:Int)-1)):=rfl
theorem err_c {t:Text} (h:btw (t.words.length:Int) 1 12=false∨6<t.turns.length):t.err=2:=by
 unfold Text.err Text.len;rw [if_pos];rcases h with h | h
 ·simp [btw] at h;omega
 ·omega
theorem err_r {t:Text} (h1:btw (t.words.length:Int) 1 12=true) (h2:t.turns.length≤6) (h:btw t.breath 1 40=false∨t.words.any badWord=true):t.err=3:=by
 unfold Text.err Text.len;have a:=btw_true h1;rw [if_neg (by omega)];by_cases hb:t.breath<1∨40<t.breath
 ·rw [if_pos hb]
 ·rw [if_neg hb];rcases h with h | h
  ·simp [btw] at h;omega
  ·rw [if_pos h]
theorem err_n {t:Text} (h1:btw (t.words.length:Int) 1 12=true) (h2:t.turns.length≤6) (h3:btw t.breath 1 40=true) (h4:t.words.any badWord=false) :
  t.err=if t.turns.any (namesNo t.words.length) then 1 else if t.turns.any endsB then 4 else if t.turns.any itself then 7 else 0:=by
 unfold Text.err Text.len;have a:=btw_true h1;have b:=btw_true h3;rw [if_neg (by omega),if_neg (by omega),if_neg (by rw [h4];decide)]
set_option maxHeartbeats 6000000 in
set_option maxRecDepth 100000 in
theorem rCheck_any (t:Text) (hl1:t.words.length≤1000000) (hl2:t.turns.length≤1000000) (pw pt:Option Addr) (cw ct:Nat) (w:World) (hW:TxAt w t pw pt) :
  Calls Tryz.prog 11 #[.agg #[.slice pw t.words.length cw,.slice pt t.turns.length ct,.int .i64 t.breath]] w fun e w'=>e=.returned (.int .i64 t.err)∧Below w.heap.size w w':=by
 have HB:=Lib.hid (below1 w (.cells #[.slice pw t.words.length cw,.slice pt t.turns.length ct,.int .i64 t.breath] 32));have HX:=Lib.hid (heap_last w (.cells #[.slice pw t.words.length cw,.slice pt t.turns.length ct,.int .i64 t.breath] 32));have HW:=Lib.hid (hW.below HB.out);clear hW;cases hn:btw (t.words.length:Int) 1 12 with
 | false =>
  have HE:=Lib.hid (err_c (.inl hn));have HN:=Lib.hid (not_btw hn);obtain ⟨k0,k1,k2⟩:=blk3 HX.out;clear hn
  go_enter Tryz.func11,Tryz.ntmps11
  go_wp2_with fail
  refine (off_b _ _ _ _ HN.out _).mono ?_;rintro e w' ⟨rfl,rfl⟩;go_wp2;go_ret;exact ⟨ret_int HE.out.symm,HB.out⟩
 | true =>
 have HN:=Lib.hid (not_btw hn);have HN':=Lib.hid hn;clear hn;by_cases hm:6<t.turns.length
 ·have HE:=Lib.hid (err_c (.inr hm));have hm':(6:Int)<t.turns.length:=by omega
  obtain ⟨k0,k1,k2⟩:=blk3 HX.out
  go_enter Tryz.func11,Tryz.ntmps11
  go_wp2_with fail
  refine (off_b _ _ _ _ HN.out _).mono ?_;rintro e w' ⟨rfl,rfl⟩;go_wp2;go_ret;exact ⟨ret_int HE.out.symm,HB.out⟩
 have hm':¬ (6:Int)<t.turns.length:=by omega
 have HM:=Lib.hid (show t.turns.length≤6 by omega);cases hb:btw t.breath 1 40 with
 | false =>
  have HE:=Lib.hid (err_r HN'.out HM.out (.inl hb));have HBR:=Lib.hid (not_btw hb);obtain ⟨k0,k1,k2⟩:=blk3 HX.out;clear hm hb
  go_enter Tryz.func11,Tryz.ntmps11
  go_wp2_with fail
  refine (off_b _ _ _ _ HN.out _).mono ?_;rintro e w' ⟨rfl,rfl⟩;go_wp2_with fail
  refine (off_b _ _ _ _ HBR.out _).mono ?_;rintro e w' ⟨rfl,rfl⟩;go_wp2;go_ret;exact ⟨ret_int HE.out.symm,HB.out⟩
 | true =>
 have HBR:=Lib.hid (not_btw hb);have HBR':=Lib.hid hb;obtain ⟨k0,k1,k2⟩:=blk3 HX.out;have HEW:=Lib.hid (fun h=>err_r HN'.out HM.out (.inr h));have HEN:=Lib.hid (err_n HN'.out HM.out HBR'.out);have hn12:=btw_true HN'.out;generalize hER:t.err=er at HEW HEN ⊢;clear hm hb hER HN' HBR'
 go_enter Tryz.func11,Tryz.ntmps11
 go_wp2_with fail
 refine (off_b _ _ _ _ HN.out _).mono ?_;rintro e w' ⟨rfl,rfl⟩;go_wp2_with fail
 refine (off_b _ _ _ _ HBR.out _).mono ?_;rintro e w' ⟨rfl,rfl⟩;go_wp2_with fail
 generalize hW1:w.alloc (.cells #[.slice pw t.words.length cw,.slice pt t.turns.length ct,.int .i64 t.breath] 32)=W1 at HB HX HW k0 k1 k2 ⊢;clear hW1
 go_loop [4] (fun i=>∃ k:Nat,k≤t.words.length∧i=.int .i64 k∧(t.words.take k).any badWord=false) (fun i=>t.words.length-(intOf i).toNat)
 case atStart=>exact ⟨0,Nat.zero_le _,rfl,rfl⟩
 case round =>
  obtain ⟨k,hk,rfl,hA⟩:=hrel;have HA:=Lib.hid hA;clear hA;by_cases hlt:k<t.words.length
  ·have hlt':(k:Int)<t.words.length:=by omega
   obtain ⟨b,o,x,rfl,hbl,hxx,c1,c2,c3⟩:=HW.out.words.at hlt;have HXX:=Lib.hid hxx;have HBD:=Lib.hid (badWord_def x);clear hxx;obtain ⟨xs,xw,xb⟩:=x;dsimp only at c1 c2 c3 HBD;cases h1:btw xs 1 9 with
   | false =>
    have H1:=Lib.hid (not_btw h1);have HH:Hid (badWord ⟨xs,xw,xb⟩=true):=Lib.hid (by rw [HBD.out,h1];rfl);clear h1 HBD;go_wp2_with fail
    refine (off_b _ _ _ _ H1.out _).mono ?_;rintro e w' ⟨rfl,rfl⟩;go_wp2;go_ret;exact ⟨ret_int (HEW.out (any_hit default hlt _ (by rw [← HXX.out];exact HH.out))).symm,HB.out⟩
   | true =>
    cases h2:btw xw 0 20 with
    | false =>
     have H1:=Lib.hid (not_btw h1);have H2:=Lib.hid (not_btw h2);have HH:Hid (badWord ⟨xs,xw,xb⟩=true):=Lib.hid (by rw [HBD.out,h1,h2];rfl);clear h1 h2 HBD;go_wp2_with fail
     refine (off_b _ _ _ _ H1.out _).mono ?_;rintro e w' ⟨rfl,rfl⟩;go_wp2_with fail
     refine (off_b _ _ _ _ H2.out _).mono ?_;rintro e w' ⟨rfl,rfl⟩;go_wp2;go_ret;exact ⟨ret_int (HEW.out (any_hit default hlt _ (by rw [← HXX.out];exact HH.out))).symm,HB.out⟩
    | true =>
     have H1:=Lib.hid (not_btw h1);have H2:=Lib.hid (not_btw h2);have HH:Hid (badWord ⟨xs,xw,xb⟩=false):=Lib.hid (by rw [HBD.out,h1,h2];rfl);clear h1 h2 HBD;go_wp2_with fail
     refine (off_b _ _ _ _ H1.out _).mono ?_;rintro e w' ⟨rfl,rfl⟩;go_wp2_with fail
     refine (off_b _ _ _ _ H2.out _).mono ?_;rintro e w' ⟨rfl,rfl⟩;go_wp2;go_round
     case rel=>exact ⟨k+1,by omega,by go_num,any_snoc default hlt _ HA.out (by rw [← HXX.out];exact HH.out)⟩
     case measure=>simp [intOf];omega
  ·obtain rfl:k=t.words.length:=by omega
   have HEN:=Lib.hid (HEN.out (by have:=HA.out;rwa [List.take_length] at this));clear HEW HA hlt;go_wp2_with fail
   go_loop [5] (fun i=>∃ k:Nat,k≤t.turns.length∧i=.int .i64 k∧(t.turns.take k).any (namesNo t.words.length)=false) (fun i=>t.turns.length-(intOf i).toNat)
   case atStart=>exact ⟨0,Nat.zero_le _,rfl,rfl⟩
   case round =>
    obtain ⟨k,hk,rfl,hA⟩:=hrel;have HA:=Lib.hid hA;clear hA;by_cases hlt:k<t.turns.length
    ·have hlt':(k:Int)<t.turns.length:=by omega
     obtain ⟨b,o,x,rfl,hbl,hxx,c1,c2,c3⟩:=HW.out.turns.at hlt;have HXX:=Lib.hid hxx;have HBD:=Lib.hid (names_def t.words.length x);clear hxx;obtain ⟨uw,ul,uh⟩:=x;dsimp only at c1 c2 c3 HBD;cases h1:btw uw 0 ((t.words.length:Int)-1) with
     | false =>
      have H1:=Lib.hid (not_btw h1);have HH:Hid (namesNo t.words.length ⟨uw,ul,uh⟩=true):=Lib.hid (by rw [HBD.out,h1];rfl);clear h1 HBD;go_wp2_with fail
      refine (off_b _ _ _ _ H1.out _).mono ?_;rintro e w' ⟨rfl,rfl⟩;go_wp2;go_ret;exact ⟨ret_int (by rw [HEN.out,if_pos (any_hit default hlt _ (by rw [← HXX.out];exact HH.out))]),HB.out⟩
     | true =>
      cases h2:btw ul 0 ((t.words.length:Int)-1) with
      | false =>
       have H1:=Lib.hid (not_btw h1);have H2:=Lib.hid (not_btw h2);have HH:Hid (namesNo t.words.length ⟨uw,ul,uh⟩=true):=Lib.hid (by rw [HBD.out,h1,h2];rfl);clear h1 h2 HBD;go_wp2_with fail
       refine (off_b _ _ _ _ H1.out _).mono ?_;rintro e w' ⟨rfl,rfl⟩;go_wp2_with fail
       refine (off_b _ _ _ _ H2.out _).mono ?_;rintro e w' ⟨rfl,rfl⟩;go_wp2;go_ret;exact ⟨ret_int (by rw [HEN.out,if_pos (any_hit default hlt _ (by rw [← HXX.out];exact HH.out))]),HB.out⟩
      | true =>
       cases h3:btw uh 0 ((t.words.length:Int)-1) with
       | false =>
        have H1:=Lib.hid (not_btw h1);have H2:=Lib.hid (not_btw h2);have H3:=Lib.hid (not_btw h3);have HH:Hid (namesNo t.words.length ⟨uw,ul,uh⟩=true):=Lib.hid (by rw [HBD.out,h1,h2,h3];rfl);clear h1 h2 h3 HBD;go_wp2_with fail
        refine (off_b _ _ _ _ H1.out _).mono ?_;rintro e w' ⟨rfl,rfl⟩;go_wp2_with fail
        refine (off_b _ _ _ _ H2.out _).mono ?_;rintro e w' ⟨rfl,rfl⟩;go_wp2_with fail
        refine (off_b _ _ _ _ H3.out _).mono ?_;rintro e w' ⟨rfl,rfl⟩;go_wp2;go_ret;exact ⟨ret_int (by rw [HEN.out,if_pos (any_hit default hlt _ (by rw [← HXX.out];exact HH.out))]),HB.out⟩
       | true =>
        have H1:=Lib.hid (not_btw h1);have H2:=Lib.hid (not_btw h2);have H3:=Lib.hid (not_btw h3);have HH:Hid (namesNo t.words.length ⟨uw,ul,uh⟩=false):=Lib.hid (by rw [HBD.out,h1,h2,h3];rfl);clear h1 h2 h3 HBD;go_wp2_with fail
        refine (off_b _ _ _ _ H1.out _).mono ?_;rintro e w' ⟨rfl,rfl⟩;go_wp2_with fail
        refine (off_b _ _ _ _ H2.out _).mono ?_;rintro e w' ⟨rfl,rfl⟩;go_wp2_with fail
        refine (off_b _ _ _ _ H3.out _).mono ?_;rintro e w' ⟨rfl,rfl⟩;go_wp2;go_round
        case rel=>exact ⟨k+1,by omega,by go_num,any_snoc default hlt _ HA.out (by rw [← HXX.out];exact HH.out)⟩
        case measure=>simp [intOf];omega
    ·obtain rfl:k=t.turns.length:=by omega
     have HEN:Hid (er=if t.turns.any endsB then 4 else if t.turns.any itself then 7 else 0):=Lib.hid (by rw [HEN.out,if_neg];have:=HA.out;rw [List.take_length] at this;rw [this];decide);clear HA hlt;go_wp2_with fail
     go_loopw [6] (fun i wr=>∃ k:Nat,k≤t.turns.length∧i=.int .i64 k∧(t.turns.take k).any endsB=false∧Below W1.heap.size W1 wr) (fun i _=>t.turns.length-(intOf i).toNat)
     case atStart=>exact ⟨0,Nat.zero_le _,rfl,rfl,Below.refl _ _⟩
     case round =>
      obtain ⟨k,hk,rfl,hA,hBr⟩:=hrel;have HA:=Lib.hid hA;have HBr:=Lib.hid hBr;obtain ⟨k0,k1,k2⟩:=blk3 ((hBr.block w.heap.size (Array.getElem?_eq_some_iff.1 HX.out).1).trans HX.out);clear hA hBr;by_cases hlt:k<t.turns.length
      ·have hlt':(k:Int)<t.turns.length:=by omega
       obtain ⟨b,o,x,rfl,hbl,hxx,c1,c2,c3⟩:=(HW.out.below HBr.out).turns.at hlt;have HXX:=Lib.hid hxx;clear hxx;obtain ⟨uw,ul,uh⟩:=x;dsimp only at c1 c2 c3;by_cases hgt:uh<ul
       ·have HH:Hid (endsB ⟨uw,ul,uh⟩=true):=Lib.hid (by simp [endsB,hgt]);go_wp2
        go_quiet (fail)
        go_wp2;go_ret;exact ⟨ret_int (by rw [HEN.out,if_pos (any_hit default hlt _ (by rw [← HXX.out];exact HH.out))]),join HB.out (below_drewN' HBr.out _)⟩
       ·have HH:Hid (endsB ⟨uw,ul,uh⟩=false):=Lib.hid (by simp [endsB,hgt]);go_wp2
        go_quiet (fail)
        go_wp2;go_roundw
        case rel=>exact ⟨k+1,by omega,by go_num,any_snoc default hlt _ HA.out (by rw [← HXX.out];exact HH.out),below_drewN' HBr.out _⟩
        case measure=>simp [intOf];omega
      ·obtain rfl:k=t.turns.length:=by omega
       have HEN:Hid (er=if t.turns.any itself then 7 else 0):=Lib.hid (by rw [HEN.out,if_neg];have:=HA.out;rw [List.take_length] at this;rw [this];decide);clear HA hlt;go_wp2_with fail
       go_loopw [7] (fun i wr=>∃ k:Nat,k≤t.turns.length∧i=.int .i64 k∧(t.turns.take k).any itself=false∧Below W1.heap.size W1 wr) (fun i _=>t.turns.length-(intOf i).toNat)
       case atStart=>exact ⟨0,Nat.zero_le _,rfl,rfl,HBr.out⟩
       case round =>
        rename_i wr0 _ _ _
        obtain ⟨k,hk,rfl,hA,hBr⟩:=hrel;have HA:=Lib.hid hA;clear HBr;have HBr:=Lib.hid hBr;obtain ⟨k0,k1,k2⟩:=blk3 ((hBr.block w.heap.size (Array.getElem?_eq_some_iff.1 HX.out).1).trans HX.out);clear hA hBr;by_cases hlt:k<t.turns.length
        ·have hlt':(k:Int)<t.turns.length:=by omega
         obtain ⟨b,o,x,rfl,hbl,hxx,c1,c2,c3⟩:=(HW.out.below HBr.out).turns.at hlt;have HXX:=Lib.hid hxx;clear hxx;obtain ⟨uw,ul,uh⟩:=x;dsimp only at c1 c2 c3;cases h1:btw uw ul uh with
         | true =>
          have HH:Hid (itself ⟨uw,ul,uh⟩=true):=Lib.hid h1;have H1:=Lib.hid (not_btw h1);clear h1;go_wp2
          go_quiet ((go_at_call 45;exact Calls.quiet_of_same (off_q _ _ _ _ H1.out _)))
          go_wp2;go_ret;exact ⟨ret_int (by rw [HEN.out,if_pos (any_hit default hlt _ (by rw [← HXX.out];exact HH.out))]),join HB.out (below_drewN' HBr.out _)⟩
         | false =>
          have HH:Hid (itself ⟨uw,ul,uh⟩=false):=Lib.hid h1;have H1:=Lib.hid (not_btw h1);clear h1;go_wp2
          go_quiet ((go_at_call 45;exact Calls.quiet_of_same (off_q _ _ _ _ H1.out _)))
          go_wp2;go_roundw
          case rel=>exact ⟨k+1,by omega,by go_num,any_snoc default hlt _ HA.out (by rw [← HXX.out];exact HH.out),below_drewN' HBr.out _⟩
          case measure=>simp [intOf];omega
        ·obtain rfl:k=t.turns.length:=by omega
         have HEN:Hid (er=0):=Lib.hid (by rw [HEN.out,if_neg];have:=HA.out;rw [List.take_length] at this;rw [this];decide);clear HA hlt;go_wp2;go_ret;exact ⟨ret_int HEN.out.symm,join HB.out HBr.out⟩
end Go.Proofs.YtadnggecnjdhiaaGreat
namespace Go.Proofs.YtadnggecnjdhiaaGreat
open Go.RowKit Tx
def kindOf (t:Text) (a b:Nat):Option Int:=if t.isK 0 a b then some 0 else if t.isK 1 a b then some 1 else if t.isK 2 a b then some 2 else none
def wrongGo (t:Text):Nat→Nat→List Int→Int × Int × Int
 | _,_,[]=>(0,0,6)
 | i,a,x::l=>match kindOf t a (a+x.toNat) with
  | some k=>(i,k,0)
  | none=>wrongGo t (i+1) (a+x.toNat) l
theorem isum_take_le {l:List Int} {n:Int} (h:∀ x∈l,0≤x) (hs:isum l=n) (k:Nat):0≤isum (l.take k)∧isum (l.take k)≤n:=by
 have h1:isum l=isum (l.take k)+isum (l.drop k):=by rw [← isum_append,List.take_append_drop]
 have pos:∀ m:List Int,(∀ x∈m,0≤x)→0≤isum m:=by
  intro m
  induction m with
  | nil=>intro _;simp [isum]
  | cons x m ih=>intro hm;rw [isum_cons];have:=hm x (by simp);have:=ih (fun y hy=>hm y (by simp [hy]));omega
 have h2:=pos (l.take k) (fun x hx=>h x (List.mem_of_mem_take hx));have h3:=pos (l.drop k) (fun x hx=>h x (List.mem_of_mem_drop hx));omega
theorem wrongGo_at (t:Text) (l:List Int) (k a:Nat) (h:k<l.length):wrongGo t k a (l.drop k)=match kindOf t a (a+(l.getD k 0).toNat) with | some q=>((k:Int),q,0) | none=>wrongGo t (k+1) (a+(l.getD k 0).toNat) (l.drop (k+1)):=by
 rw [List.drop_eq_getElem_cons h,wrongGo];rw [show l[k]=l.getD k 0 from by simp [h]]
set_option maxHeartbeats 2000000 in
set_option maxRecDepth 100000 in
theorem firstWrong_any (t:Text) (l:List Int) (hx:∀ x∈l,1≤x∧x≤12) (hs:isum l=t.words.length) (pw pt pl:Option Addr) (cw ct cl:Nat) (mv:Value) (w:World) (hW:WkAt w t pw pt cw) (hL:Ints w pl l) (hll:l.length≤1000000) :
  Calls Tryz.prog 85 #[.agg #[.slice pw t.words.length cw,.slice pt t.turns.length ct,.int .i64 t.breath,mv],.slice pl l.length cl] w fun e w' =>
   e=.returned (.tuple #[.int .i64 (wrongGo t 0 0 l).1,.int .i64 (wrongGo t 0 0 l).2.1,.int .i64 (wrongGo t 0 0 l).2.2])∧Below w.heap.size w w':=by
 have HIS:=Lib.hid (fun W (h:Below w.heap.size w W) (k:Nat) (hk:k≤2) (a b:Nat) (hab:a≤b) (hb:b≤t.words.length)=>isK_any t pw pt cw ct mv k hk a b hab hb W (hW.below h));have HL:=Lib.hid hL;have HX:=Lib.hid hx;have hn12:=hW.ok.n12;have HPRE:=Lib.hid (fun k=>isum_take_le (fun x h=>by have:=hx x h;omega) hs k);have HS:=Lib.hid hs;have HX0:=Lib.hid (heap_last w (.cells #[.slice pw t.words.length cw,.slice pt t.turns.length ct,.int .i64 t.breath,mv] 84));have HB1:=Lib.hid (below1 w (.cells #[.slice pw t.words.length cw,.slice pt t.turns.length ct,.int .i64 t.breath,mv] 84));have hz1:(w.alloc (.cells #[.slice pw t.words.length cw,.slice pt t.turns.length ct,.int .i64 t.breath,mv] 84)).heap.size=w.heap.size+1:=by simp
 clear hW hL hx hs
 go_enter Tryz.func85,Tryz.ntmps85
 go_wp2_with fail
 go_step3
 go_wp2_with fail
 go_step3
 go_wp2_with fail
 generalize hW1:w.alloc (.cells #[.slice pw t.words.length cw,.slice pt t.turns.length ct,.int .i64 t.breath,mv] 84)=W1 at HX0 HB1 hz1 ⊢;clear hW1
 go_loopg [7,8,9,10,11,12,13,16] l.length (fun gk u7 u8 u9 u10 u11 u12 u13 i wr=>∃ k a:Nat,gk+k=l.length∧i=.int .i64 k∧u7=.int .i64 0∧u8=.int .i64 0∧u9=.int .i64 6∧(a:Int)=isum (l.take k)∧u10=.int .i64 a∧wrongGo t k a (l.drop k)=wrongGo t 0 0 l∧Below W1.heap.size W1 wr)
 case atStart=>exact ⟨0,0,by omega,rfl,rfl,rfl,rfl,rfl,rfl,rfl,Below.refl _ _⟩
 case round =>
  obtain ⟨wo,rfl⟩:∃ wo:World,wo=wr:=⟨_,rfl⟩;obtain ⟨go,rfl⟩:∃ x:Nat,x=gk:=⟨_,rfl⟩;obtain ⟨k,a,hk,rfl,rfl,rfl,rfl,ha,rfl,hwg,hB⟩:=hrel;have hzo:=hB.size;have HWG:=Lib.hid hwg;have HB:=Lib.hid hB;have HA:=Lib.hid ha;have hapre:=HPRE.out k;rw [← ha] at hapre;clear hwg hB ha;by_cases hlt:k<l.length
  ·have hlt':(k:Int)<l.length:=by omega
   obtain ⟨b,o,x,rfl,hb,hxx,c1⟩:=((HL.out.below HB1.out).below HB.out).at hlt;have hx1:=HX.out x (by rw [hxx];exact getD_mem 0 hlt);obtain ⟨y,rfl⟩:=Int.eq_ofNat_of_zero_le (show 0≤x by omega);have hsnoc:isum (l.take (k+1))=(a:Int)+y:=by rw [take_snocD 0 hlt,isum_snoc,← HA.out,← hxx]
   have hpre2:=HPRE.out (k+1);rw [hsnoc] at hpre2;have HSN:=Lib.hid hsnoc;have hay:a+y≤t.words.length:=by omega
   have hfin:wrongGo t 0 0 l=match kindOf t a (a+y) with | some q=>((k:Int),q,0) | none=>wrongGo t (k+1) (a+y) (l.drop (k+1)):=by
    rw [← HWG.out,wrongGo_at t l k a hlt,← hxx];rfl
   have HFIN:=Lib.hid hfin;have HFIN':=Lib.hid hfin;have hx0:=(HB.out.block w.heap.size (by omega)).trans HX0.out;have k0:=blk_cells hx0 0 _ rfl;have k1:=blk_cells hx0 1 _ rfl;have k2:=blk_cells hx0 2 _ rfl;have k3:=blk_cells hx0 3 _ rfl;have hsum:IntKind.i64.wrap ((a:Int)+(y:Int))=((a+y:Nat):Int):=by rw [IntWalk.i64_in _ (by omega)];omega
   have hs0:w.heap.size<wo.heap.size:=by omega
   have HX0o:=Lib.hid hx0;have HBo:=Lib.hid (HB1.out.trans (HB.out.mono (by omega)));clear hsnoc hfin hxx hx0 hpre2;go_wp2_with fail
   have h0:∀ W,Below w.heap.size w W→Calls Tryz.prog 126 #[.agg #[.slice pw t.words.length cw,.slice pt t.turns.length ct,.int .i64 t.breath,mv],.int .i64 0,.int .i64 a,.int .i64 ((a:Int)+(y:Int))] W fun e w'=>e=.returned (.bool (t.isK 0 a (a+y)))∧Below W.heap.size W w':=fun W h=>HIS.out W h 0 (by omega) a (a+y) (by omega) hay;have h1:∀ W,Below w.heap.size w W→Calls Tryz.prog 126 #[.agg #[.slice pw t.words.length cw,.slice pt t.turns.length ct,.int .i64 t.breath,mv],.int .i64 1,.int .i64 a,.int .i64 ((a:Int)+(y:Int))] W fun e w'=>e=.returned (.bool (t.isK 1 a (a+y)))∧Below W.heap.size W w':=fun W h=>HIS.out W h 1 (by omega) a (a+y) (by omega) hay;have h2:∀ W,Below w.heap.size w W→Calls Tryz.prog 126 #[.agg #[.slice pw t.words.length cw,.slice pt t.turns.length ct,.int .i64 t.breath,mv],.int .i64 2,.int .i64 a,.int .i64 ((a:Int)+(y:Int))] W fun e w'=>e=.returned (.bool (t.isK 2 a (a+y)))∧Below W.heap.size W w':=fun W h=>HIS.out W h 2 (by omega) a (a+y) (by omega) hay;have G0:=Lib.hid h0;have G1:=Lib.hid h1;have G2:=Lib.hid h2;clear h0 h1 h2;refine wp_loop_rounds 4 ?_;rw [rounds_succ];go_wp2_with fail
   refine (G0.out _ HBo.out).mono ?_;rintro e w5 ⟨rfl,hB0⟩;have HN0:=Lib.hid (join HBo.out hB0);have hx0:=(hB0.block w.heap.size (by omega)).trans HX0o.out;have HXq0:=Lib.hid hx0;have hsq0:w.heap.size<w5.heap.size:=by have:=hB0.size;omega
   have HBq0:=Lib.hid (HB.out.trans (hB0.mono (by omega)));clear k0 k1 k2 k3;have k0:=blk_cells hx0 0 _ rfl;have k1:=blk_cells hx0 1 _ rfl;have k2:=blk_cells hx0 2 _ rfl;have k3:=blk_cells hx0 3 _ rfl;clear hx0 hB0;cases hk0:t.isK 0 a (a+y) with
   | true =>
    have HK0:=Lib.hid hk0;clear hk0;have hko:kindOf t a (a+y)=some 0:=by unfold kindOf;simp [HK0.out]
    have HKO:=Lib.hid hko;clear hko;go_wp2;rw [Exit.noGoto_ret];go_ret3;exact ⟨by rw [HFIN.out,HKO.out];rfl,HN0.out⟩
   | false =>
    have HK0:=Lib.hid hk0;clear hk0;go_wp2_with fail
    rw [rounds_succ];go_wp2_with fail
    refine (G1.out _ HN0.out).mono ?_;rintro e w6 ⟨rfl,hB1⟩;have HN1:=Lib.hid (join HN0.out hB1);have hx1:=(hB1.block w.heap.size (by omega)).trans HXq0.out;have HXq1:=Lib.hid hx1;have hsq1:w.heap.size<w6.heap.size:=by have:=hB1.size;omega
    have HBq1:=Lib.hid (HBq0.out.trans (hB1.mono (by have:=HBq0.out.size;omega)));clear k0 k1 k2 k3;have k0:=blk_cells hx1 0 _ rfl;have k1:=blk_cells hx1 1 _ rfl;have k2:=blk_cells hx1 2 _ rfl;have k3:=blk_cells hx1 3 _ rfl;clear hx1 hB1;cases hk1:t.isK 1 a (a+y) with
    | true =>
     have HK1:=Lib.hid hk1;clear hk1;have hko:kindOf t a (a+y)=some 1:=by unfold kindOf;simp [HK0.out,HK1.out]
     have HKO:=Lib.hid hko;clear hko;go_wp2;rw [Exit.noGoto_ret];go_ret3;exact ⟨by rw [HFIN.out,HKO.out];rfl,HN1.out⟩
    | false =>
     have HK1:=Lib.hid hk1;clear hk1;go_wp2_with fail
     rw [rounds_succ];go_wp2_with fail
     refine (G2.out _ HN1.out).mono ?_;rintro e w7 ⟨rfl,hB2⟩;have HN2:=Lib.hid (join HN1.out hB2);have hx2:=(hB2.block w.heap.size (by omega)).trans HXq1.out;have HXq2:=Lib.hid hx2;have hsq2:w.heap.size<w7.heap.size:=by have:=hB2.size;omega
     have HBq2:=Lib.hid (HBq1.out.trans (hB2.mono (by have:=HBq1.out.size;omega)));clear k0 k1 k2 k3;have k0:=blk_cells hx2 0 _ rfl;have k1:=blk_cells hx2 1 _ rfl;have k2:=blk_cells hx2 2 _ rfl;have k3:=blk_cells hx2 3 _ rfl;clear hx2 hB2;cases hk2:t.isK 2 a (a+y) with
     | true =>
      have HK2:=Lib.hid hk2;clear hk2;have hko:kindOf t a (a+y)=some 2:=by unfold kindOf;simp [HK0.out,HK1.out,HK2.out]
      have HKO:=Lib.hid hko;clear hko;go_wp2;rw [Exit.noGoto_ret];go_ret3;exact ⟨by rw [HFIN.out,HKO.out];rfl,HN2.out⟩
     | false =>
      have HK2:=Lib.hid hk2;clear hk2;go_wp2_with fail
      have hko:kindOf t a (a+y)=none:=by unfold kindOf;simp [HK0.out,HK1.out,HK2.out]
      have HKO:=Lib.hid hko;clear hko;rw [rounds_succ];go_wp2
      go_roundg (go-1)
      case rel=>exact ⟨k+1,a+y,by omega,by go_num,rfl,rfl,rfl,by rw [HSN.out];omega,by go_num,by have:=HFIN'.out;rw [HKO.out] at this;exact this.symm,HBq2.out⟩
      case measure=>omega
  ·obtain rfl:k=l.length:=by omega
   have hfin:wrongGo t 0 0 l=(0,0,6):=by rw [← HWG.out,List.drop_length];rfl
   have HFIN:=Lib.hid hfin;clear hfin;go_wp2;rw [Exit.noGoto_ret];go_ret3;exact ⟨by rw [HFIN.out];rfl,HB1.out.trans (HB.out.mono (by omega))⟩
end Go.Proofs.YtadnggecnjdhiaaGreat
namespace Go.Proofs.YtadnggecnjdhiaaGreat
open Go.RowKit Tx
def placesL (l:List Int):List Int:=(List.range (l.length+1)).map fun k=>isum (l.take k)
def placesTo (l:List Int) (k:Nat):List Int:=(List.range (k+1)).map fun k=>isum (l.take k)
theorem placesTo_succ (l:List Int) (k:Nat):placesTo l (k+1)=placesTo l k++[isum (l.take (k+1))]:=by
 unfold placesTo;rw [List.range_succ,List.map_append];rfl
theorem placesTo_len (l:List Int) (k:Nat):(placesTo l k).length=k+1:=by simp [placesTo]
theorem placesTo_last (l:List Int) (k:Nat):(placesTo l k).getD k 0=isum (l.take k):=by simp [placesTo]
set_option maxHeartbeats 1000000 in
theorem placesOf_any (l:List Int) (hp:∀ k,-1000000≤isum (l.take k)∧isum (l.take k)≤1000000) (pl:Option Addr) (cl:Nat) (w:World) (hL:Ints w pl l) (hll:l.length≤100000) :
  Calls Tryz.prog 87 #[.slice pl l.length cl] w (RowPost (placesL l) w):=by
 obtain ⟨i0,hi0,hz0,hz1,hz2⟩:=info_parts A_infoI;have HL:=Lib.hid hL;have HP:=Lib.hid hp;clear hL hp
 go_enter Tryz.func87,Tryz.ntmps87
 go_wp2_with fail
 have hown1:(w.alloc (.cells #[.int .i64 0] 3)).ownsRow w.heap.size 3 1 (.slice (some ⟨w.heap.size,0,none⟩) 1 1) 1 [.int .i64 0] :=
  ⟨by simp,.inr ⟨w.heap.size,1,_,rfl,Nat.le_refl _,heap_last _ _,by omega,by unfold maxLen;omega,by simp,by simp⟩⟩
 have HB1:=below1 w (.cells #[.int .i64 0] 3)
 go_loopw [3,9] (fun v i wr=>∃ k:Nat,k≤l.length∧i=.int .i64 k∧wr.ownsRow w.heap.size 3 1 v (placesTo l k).length ((placesTo l k).map (Value.int .i64))∧Below w.heap.size w wr∧w.heap.size+1≤wr.heap.size) (fun _ i _=>l.length-(intOf i).toNat)
 case atStart=>exact ⟨0,Nat.zero_le _,rfl,hown1,HB1,by simp⟩
 case round =>
  obtain ⟨k,hk,rfl,hown,hBr,hsz⟩:=hrel;have HO:=Lib.hid hown;have HBr:=Lib.hid hBr;clear hown1 HB1;have hlen:=placesTo_len l k;have HLEN:=Lib.hid hlen;by_cases hlt:k<l.length
  ·have hlt':(k:Int)<l.length:=by omega
   obtain ⟨b,o,x,rfl,hb,hxx,c1⟩:=(HL.out.below hBr).at hlt;obtain ⟨p,c,rfl,hints,hfr,hcl,hcc⟩:=own_rd hown rfl;rcases hints with h0 | ⟨g,og,rfl,hgl,hcells⟩
   ·rw [h0] at hlen;simp at hlen
   have hck:=hcells k (by omega);rw [placesTo_last] at hck;have hsn:isum (l.take (k+1))=isum (l.take k)+x:=by rw [take_snocD 0 hlt,isum_snoc,hxx]
   have h1:=HP.out k;have h2:=HP.out (k+1);have hps:=placesTo_succ l k;rw [hsn] at h2 hps;have HPS:=Lib.hid hps;generalize isum (l.take k)=a at hck hsn h1 h2 HPS;have hkl:(k:Int)<(placesTo l k).length:=by rw [hlen];omega
   clear hsn hps hxx hown hBr hfr hcells hlen;generalize hPL:placesTo l k=PL at *;have hPLn:PL.length≤1000000:=by have:=HLEN.out;omega
   clear hPL;go_wp2_with (at_builtin;refine wpList_append_own _ rfl _ _ 34 rfl w.heap.size 3 i0 (.int .i64 0) 1 8 A_undI hi0 hz0 hz1 hz2 rfl (by decide) _ _ _ rfl (HO.out.alloc _) ⟨wr.heap.size,0,none⟩ 1 1 [.int .i64 (a+x)] rfl rfl ?d1 ?d2 ?d3 ?d4 ?d5 ?_)
   case d1=>exact cell_one_new _ _ _
   case d2=>first | rfl | (intro u hu;simp at hu;subst hu;rfl)
   case d3=>unfold maxLen;omega
   case d4=>omega
   case d5=>first | omega | (simp;omega)
   intro v' w8 hown8 hgrow _;have hB8:=below_grown (al2 HBr.out (by omega) _) (HO.out.alloc _) (Nat.le_refl _) (by simp;omega) hgrow;have hs8:w.heap.size+1≤w8.heap.size:=by have:=hgrow.size;simp at this;omega
   have HO8:=Lib.hid hown8;have HB8:=Lib.hid hB8;clear hgrow hown8 hB8;go_wp2;go_roundw
   case rel=>exact ⟨k+1,by omega,by go_num,by rw [HPS.out];simpa using HO8.out,HB8.out,hs8⟩
   case measure=>simp [intOf];omega
  ·obtain rfl:k=l.length:=by omega
   clear hown hBr;go_wp2;go_ret;exact ⟨_,rfl,HO.out,HBr.out⟩
end Go.Proofs.YtadnggecnjdhiaaGreat
