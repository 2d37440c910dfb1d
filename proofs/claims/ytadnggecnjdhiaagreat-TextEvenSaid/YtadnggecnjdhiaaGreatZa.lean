/- Contracts of the code and of the reference, part 1. -/
import Derived.Test.YtadnggecnjdhiaaGreatProg
import Derived.RangeFuncNested
import Derived.RangeFuncBound
import Derived.RangeFuncCalls
import Derived.RangeFuncLeaves
import Derived.Shelf.Abstract
import Derived.Shelf.RegionOpen
import Derived.WalkKit
import Derived.OwnWalkIn
import Derived.TacticsInMore
import Derived.LoopNIn
import Derived.LoopIn
import Derived.WalkSpells
import Derived.BigQuiet
import Derived.Lib.Hide
import Derived.Deep.RegionWith
import Derived.Laws.EntriesVeiled
import Derived.Test.YtadnggecnjdhiaaGreatRows
import Derived.ProofKit
import Derived.OpenShut
import Derived.ShutString
import Derived.ChangeOld
import Derived.Below
import Derived.Lib.SmallJoins
import Derived.Deep.Slices
import Derived.Deep.Strs
import Derived.StillTail
namespace Go.Proofs.YtadnggecnjdhiaaGreat.Tx
set_option linter.unusedSimpArgs false
set_option linter.unusedVariables false

structure Word where
  syl : Int
  wt : Int
  stop : Bool
deriving DecidableEq, Inhabited
structure Turn where
  word : Int
  lo : Int
  hi : Int
deriving DecidableEq, Inhabited
structure Text where
  words : List Word
  turns : List Turn
  breath : Int
deriving DecidableEq, Inhabited

def btw (n lo hi : Int) : Bool := decide (lo ≤ n) && decide (n ≤ hi)
def badWord (x : Word) : Bool := !btw x.syl 1 9 || !btw x.wt 0 20
def absent (n : Nat) (k : Int) : Bool := !btw k 0 ((n : Int) - 1)
def namesNo (n : Nat) (u : Turn) : Bool := absent n u.word || absent n u.lo || absent n u.hi
def endsB (u : Turn) : Bool := decide (u.hi < u.lo)
def itself (u : Turn) : Bool := btw u.word u.lo u.hi
def Text.len (t : Text) : Nat := t.words.length
/-- the error of a text -/
def Text.err (t : Text) : Int :=
  if t.len < 1 ∨ 12 < t.len ∨ 6 < t.turns.length then 2
  else if t.breath < 1 ∨ 40 < t.breath then 3
  else if t.words.any badWord then 3
  else if t.turns.any (namesNo t.len) then 1
  else if t.turns.any endsB then 4
  else if t.turns.any itself then 7
  else 0

/-- a part from word lo to word hi says a turn otherwise -/
def Turn.says (u : Turn) (lo hi : Int) : Bool := decide (lo ≤ u.lo) && decide (u.hi ≤ hi) && !btw u.word lo hi
/-- the numbers of the elements of a list that have a property -/
def idx {α : Type} (p : α → Bool) : Nat → List α → List Int
  | _, [] => []
  | i, x :: l => if p x then (i : Int) :: idx p (i + 1) l else idx p (i + 1) l
def Text.said (t : Text) (lo hi : Int) : List Int := idx (fun u => u.says lo hi) 0 t.turns
theorem idx_append {α : Type} (p : α → Bool) : ∀ (l m : List α) (i : Nat), idx p i (l ++ m) = idx p i l ++ idx p (i + l.length) m
  | [], m, i => by simp [idx]
  | x :: l, m, i => by
    have := idx_append p l m (i + 1)
    simp only [List.cons_append, idx, this, List.length_cons]
    rw [show i + 1 + l.length = i + (l.length + 1) from by omega]
    split <;> simp
theorem idx_snoc {α : Type} (p : α → Bool) (l : List α) (x : α) : idx p 0 (l ++ [x]) = idx p 0 l ++ (if p x then [(l.length : Int)] else []) := by
  rw [idx_append]; simp [idx]
theorem idx_length {α : Type} (p : α → Bool) : ∀ (l : List α) (i : Nat), (idx p i l).length = l.countP p
  | [], i => rfl
  | x :: l, i => by simp only [idx, List.countP_cons]; split <;> simp [idx_length p l, *]
theorem idx_any {α : Type} (p : α → Bool) (l : List α) (i : Nat) : decide (0 < (idx p i l).length) = l.any p := by
  rw [idx_length]; rw [Bool.eq_iff_iff]; simp [List.countP_pos_iff]

def isum : List Int → Int := List.foldl (· + ·) 0
theorem isum_snoc (l : List Int) (x : Int) : isum (l ++ [x]) = isum l + x := by simp [isum]
theorem foldl_add (l : List Int) (a : Int) : l.foldl (· + ·) a = a + l.foldl (· + ·) 0 := by
  induction l generalizing a with
  | nil => simp
  | cons x l ih => simp only [List.foldl_cons]; rw [ih (a + x), ih (0 + x)]; omega
theorem isum_cons (x : Int) (l : List Int) : isum (x :: l) = x + isum l := by unfold isum; simp only [List.foldl_cons]; rw [foldl_add]; omega
theorem isum_append (l m : List Int) : isum (l ++ m) = isum l + isum m := by
  induction l with
  | nil => simp [isum]
  | cons x l ih => rw [List.cons_append, isum_cons, isum_cons, ih]; omega
theorem isum_bd (l : List Int) (lo hi : Int) (h : ∀ x ∈ l, lo ≤ x ∧ x ≤ hi) : (l.length : Int) * lo ≤ isum l ∧ isum l ≤ (l.length : Int) * hi := by
  induction l with
  | nil => simp [isum]
  | cons x l ih =>
    have h1 := h x (by simp)
    have h2 := ih fun y hy => h y (by simp [hy])
    rw [isum_cons, List.length_cons]
    have e1 : ((l.length + 1 : Nat) : Int) * lo = (l.length : Int) * lo + lo := by push_cast; rw [Int.add_mul, Int.one_mul]
    have e2 : ((l.length + 1 : Nat) : Int) * hi = (l.length : Int) * hi + hi := by push_cast; rw [Int.add_mul, Int.one_mul]
    rw [e1, e2]; omega

def slice {α : Type} (l : List α) (from_ to_ : Nat) : List α := (l.drop from_).take (to_ - from_)
def Text.syl (t : Text) (a b : Nat) : Int := isum ((slice t.words a b).map (·.syl))
def Text.allow (t : Text) (p : Nat) : Bool := p == 0 || p == t.len || (t.words.getD (p - 1) default).stop
def Text.isLong (t : Text) (a b : Nat) : Bool := decide (t.breath < t.syl a b)
def Text.isCut (t : Text) (a b : Nat) : Bool := !t.allow a || !t.allow b
def Text.isOther (t : Text) (a b : Nat) : Bool := t.turns.any fun u => u.says a ((b : Int) - 1)
def Text.isK (t : Text) (k : Int) (a b : Nat) : Bool := if k = 0 then t.isLong a b else if k = 1 then t.isCut a b else t.isOther a b
def Text.right (t : Text) (a b : Nat) : Bool := !t.isLong a b && !t.isCut a b && !t.isOther a b
def Turn.parts (u : Turn) (p : Int) : Bool := decide (u.word < p) && decide (p ≤ u.lo) || decide (u.hi < p) && decide (p ≤ u.word)
def Text.parts (t : Text) (p : Int) : Bool := t.turns.any fun u => u.parts p
def Text.sureB (t : Text) (a b : Nat) : Bool := t.right a b && !t.parts a && !t.parts b
def Text.within (t : Text) (most : Int) (a b : Nat) : Bool := decide (t.syl a b ≤ most) && t.right a b

/-- marks of places, as a function -/
abbrev Marks := List Int
/-- what a round for one breath leaves of marks -/
def low1 (m : Marks) (a b : Nat) : Marks := m.set b (min (m.getD b 0) (m.getD a 0 + 1))
/-- the places to which readings may have a breath from a place -/
def brs (may : Nat → Nat → Bool) (n a : Nat) : List Nat := (List.range' (a + 1) (n - a)).filter (may a)
def lowRow (may : Nat → Nat → Bool) (n : Nat) (m : Marks) (a : Nat) : Marks := (brs may n a).foldl (fun m b => low1 m a b) m
def lowered (may : Nat → Nat → Bool) (n : Nat) (m : Marks) : Marks := (List.range n).foldl (lowRow may n) m
def top (n : Nat) : Marks := (List.range 13).map fun p => if 1 ≤ p ∧ p ≤ n then 99 else 0
def greatest (may : Nat → Nat → Bool) (n : Nat) : Marks := lowered may n (top n)
def befP (may : Nat → Nat → Bool) (m : Marks) (b a : Nat) : Bool := m.getD a 0 + 1 == m.getD b 0 && may a b
def before (may : Nat → Nat → Bool) (m : Marks) (b : Nat) : Nat := ((List.range b).find? (befP may m b)).getD 0
/-- the breaths of a reading, from its end -/
def walkBack (may : Nat → Nat → Bool) (m : Marks) : Nat → Nat → List Int
  | 0, _ => []
  | f + 1, b => if b = 0 then [] else ((b : Int) - (before may m b : Int)) :: walkBack may m f (before may m b)
def fewest (may : Nat → Nat → Bool) (n : Nat) : List Int × Int :=
  if (greatest may n).getD n 0 < 99 then ((walkBack may (greatest may n) n n).reverse, 0) else ([], 6)
/-- how many readings there are from each place on -/
def many (may : Nat → Nat → Bool) (n : Nat) : Nat → Nat → Nat
  | 0, _ => 0
  | f + 1, a => if a = n then 1 else ((brs may n a).map (many may n f)).sum
def count (may : Nat → Nat → Bool) (n a : Nat) : Nat := many may n (n + 1 - a) a
def unbrP (may : Nat → Nat → Bool) (n p : Nat) : Bool := decide (99 ≤ (greatest may n).getD p 0) || count may n p == 0
def unbroken (may : Nat → Nat → Bool) (n : Nat) : List Int × Int :=
  if count may n 0 = 0 then ([], 6) else (((List.range' 1 (n - 1)).filter (unbrP may n)).map Int.ofNat, 0)

/-- lists of words, in order: those with so many words of at least a word -/
def lists (n : Nat) : Nat → Nat → List (List Int)
  | 0, _ => [[]]
  | k + 1, a => (List.range' a (n - a)).flatMap fun x => (lists n k (x + 1)).map fun l => (x : Int) :: l
def Text.wtOf (t : Text) (l : List Int) : Int := isum (l.map fun i => (t.words.getD i.toNat default).wt)
def coreIn (u : Turn) (l : List Int) : Bool := (List.range (u.hi + 1 - u.lo).toNat).all fun k => l.contains (u.lo + (k : Int))
def Text.keeps (t : Text) (l : List Int) : Bool := !t.turns.any fun u => coreIn u l && !l.contains u.word
def Text.leastP (t : Text) (w : Int) (l : List Int) : Bool := decide (w ≤ t.wtOf l) && t.keeps l
def Text.leastGo (t : Text) (w : Int) : List Nat → Option (List Int)
  | [] => none
  | k :: ks => match (lists t.len k 0).find? (t.leastP w) with | some l => some l | none => t.leastGo w ks
def Text.least (t : Text) (w : Int) : List Int × Int := match t.leastGo w (List.range' 1 t.len) with | some l => (l, 0) | none => ([], 6)

end Go.Proofs.YtadnggecnjdhiaaGreat.Tx
set_option linter.unusedSimpArgs false
set_option linter.unusedVariables false
namespace Go.Proofs.YtadnggecnjdhiaaGreat
open Go.RowKit Tx

theorem below1 (w : World) (o : Obj) : Below w.heap.size w (w.alloc o) := (Below.refl _ _).alloc (Nat.le_refl _) _
theorem join {w a b : World} (h : Below w.heap.size w a) (k : Below a.heap.size a b) : Below w.heap.size w b := h.trans (k.mono h.size)
theorem bcell {W w1 : World} (hb : Below W.heap.size W w1) : (∀ b o, b < W.heap.size → w1.cell? ⟨b, o, none⟩ = W.cell? ⟨b, o, none⟩) ∧ (∀ b o, b < W.heap.size → w1.frozen? ⟨b, o, none⟩ = W.frozen? ⟨b, o, none⟩) :=
  ⟨fun b o h => hb.cell (p := ⟨b, o, none⟩) h, fun b o h => hb.frozen (p := ⟨b, o, none⟩) h⟩
theorem mf (fn : Fn) (first cap : Array Value) (w : World) : (Instr.makeFunc fn first cap).run Tryz.prog w = .ok (.func fn first cap) w := rfl

/-- a row of words that can be read -/
def Wds (w : World) (p : Option Addr) (ws : List Word) : Prop := ws = [] ∨ ∃ b o, p = some ⟨b, o, none⟩ ∧ b < w.heap.size ∧ ∀ i, i < ws.length →
  w.cell? ⟨b, o + i * 3, none⟩ = some (.int .i64 (ws.getD i default).syl) ∧ w.cell? ⟨b, o + i * 3 + 1, none⟩ = some (.int .i64 (ws.getD i default).wt) ∧ w.cell? ⟨b, o + i * 3 + 2, none⟩ = some (.bool (ws.getD i default).stop)
/-- a row of turns that can be read -/
def Tns (w : World) (p : Option Addr) (ts : List Turn) : Prop := ts = [] ∨ ∃ b o, p = some ⟨b, o, none⟩ ∧ b < w.heap.size ∧ ∀ i, i < ts.length →
  w.cell? ⟨b, o + i * 3, none⟩ = some (.int .i64 (ts.getD i default).word) ∧ w.cell? ⟨b, o + i * 3 + 1, none⟩ = some (.int .i64 (ts.getD i default).lo) ∧ w.cell? ⟨b, o + i * 3 + 2, none⟩ = some (.int .i64 (ts.getD i default).hi)
/-- a row of numbers that can be read -/
def Ints (w : World) (p : Option Addr) (xs : List Int) : Prop := xs = [] ∨ ∃ b o, p = some ⟨b, o, none⟩ ∧ b < w.heap.size ∧ ∀ i, i < xs.length → w.cell? ⟨b, o + i, none⟩ = some (.int .i64 (xs.getD i 0))
theorem Wds.below {w w' : World} {p : Option Addr} {ws : List Word} (h : Wds w p ws) (hb : Below w.heap.size w w') : Wds w' p ws := by
  rcases h with h | ⟨b, o, hp, hl, h⟩
  · exact .inl h
  · exact .inr ⟨b, o, hp, Nat.lt_of_lt_of_le hl hb.size, fun i hi => ⟨(hb.cell (p := ⟨b, o + i * 3, none⟩) hl).trans (h i hi).1, (hb.cell (p := ⟨b, o + i * 3 + 1, none⟩) hl).trans (h i hi).2.1, (hb.cell (p := ⟨b, o + i * 3 + 2, none⟩) hl).trans (h i hi).2.2⟩⟩
theorem Tns.below {w w' : World} {p : Option Addr} {ws : List Turn} (h : Tns w p ws) (hb : Below w.heap.size w w') : Tns w' p ws := by
  rcases h with h | ⟨b, o, hp, hl, h⟩
  · exact .inl h
  · exact .inr ⟨b, o, hp, Nat.lt_of_lt_of_le hl hb.size, fun i hi => ⟨(hb.cell (p := ⟨b, o + i * 3, none⟩) hl).trans (h i hi).1, (hb.cell (p := ⟨b, o + i * 3 + 1, none⟩) hl).trans (h i hi).2.1, (hb.cell (p := ⟨b, o + i * 3 + 2, none⟩) hl).trans (h i hi).2.2⟩⟩
theorem Ints.below {w w' : World} {p : Option Addr} {ws : List Int} (h : Ints w p ws) (hb : Below w.heap.size w w') : Ints w' p ws := by
  rcases h with h | ⟨b, o, hp, hl, h⟩
  · exact .inl h
  · exact .inr ⟨b, o, hp, Nat.lt_of_lt_of_le hl hb.size, fun i hi => (hb.cell (p := ⟨b, o + i, none⟩) hl).trans (h i hi)⟩
theorem Wds.at {w : World} {p : Option Addr} {ws : List Word} (h : Wds w p ws) {i : Nat} (hi : i < ws.length) : ∃ (b o : Nat) (x : Word), p = some ⟨b, o, none⟩ ∧ b < w.heap.size ∧ x = ws.getD i default ∧
    w.cell? ⟨b, o + i * 3, none⟩ = some (.int .i64 x.syl) ∧ w.cell? ⟨b, o + i * 3 + 1, none⟩ = some (.int .i64 x.wt) ∧ w.cell? ⟨b, o + i * 3 + 2, none⟩ = some (.bool x.stop) := by
  rcases h with rfl | ⟨b, o, hp, hl, h⟩
  · simp at hi
  · exact ⟨b, o, _, hp, hl, rfl, h i hi⟩
theorem Tns.at {w : World} {p : Option Addr} {ws : List Turn} (h : Tns w p ws) {i : Nat} (hi : i < ws.length) : ∃ (b o : Nat) (x : Turn), p = some ⟨b, o, none⟩ ∧ b < w.heap.size ∧ x = ws.getD i default ∧
    w.cell? ⟨b, o + i * 3, none⟩ = some (.int .i64 x.word) ∧ w.cell? ⟨b, o + i * 3 + 1, none⟩ = some (.int .i64 x.lo) ∧ w.cell? ⟨b, o + i * 3 + 2, none⟩ = some (.int .i64 x.hi) := by
  rcases h with rfl | ⟨b, o, hp, hl, h⟩
  · simp at hi
  · exact ⟨b, o, _, hp, hl, rfl, h i hi⟩
theorem Ints.at {w : World} {p : Option Addr} {xs : List Int} (h : Ints w p xs) {i : Nat} (hi : i < xs.length) : ∃ (b o : Nat) (x : Int), p = some ⟨b, o, none⟩ ∧ b < w.heap.size ∧ x = xs.getD i 0 ∧ w.cell? ⟨b, o + i, none⟩ = some (.int .i64 x) := by
  rcases h with rfl | ⟨b, o, hp, hl, h⟩
  · simp at hi
  · exact ⟨b, o, _, hp, hl, rfl, h i hi⟩
/-- a text whose rows can be read -/
structure TxAt (w : World) (t : Text) (pw pt : Option Addr) : Prop where
  words : Wds w pw t.words
  turns : Tns w pt t.turns
theorem TxAt.below {w w' : World} {t : Text} {pw pt : Option Addr} (h : TxAt w t pw pt) (hb : Below w.heap.size w w') : TxAt w' t pw pt := ⟨h.words.below hb, h.turns.below hb⟩

theorem between_any (n lo hi : Int) (w : World) : Calls Tryz.prog 74 #[.int .i64 n, .int .i64 lo, .int .i64 hi] w fun e w' => e = .returned (.bool (btw n lo hi)) ∧ w = w' := by
  by_cases h : lo ≤ n
  · have h' : decide (lo ≤ n) = true := by simpa using h
    have hb : btw n lo hi = decide (n ≤ hi) := by simp [btw, h]
    have HB := Lib.hid hb
    clear hb
    go_enter Tryz.func74, Tryz.ntmps74
    go_wp2
    go_ret
    exact ⟨by rw [HB.out]; rfl, rfl⟩
  · have h' : decide (lo ≤ n) = false := by simpa using h
    have hb : btw n lo hi = false := by simp [btw, h]
    have HB := Lib.hid hb
    clear hb
    go_enter Tryz.func74, Tryz.ntmps74
    go_wp2
    go_ret
    exact ⟨by rw [HB.out]; rfl, rfl⟩

theorem end_any (n c : Nat) (pw : Option Addr) (v1 v2 v3 : Value) (w : World) : Calls Tryz.prog 72 #[.agg #[.slice pw n c, v1, v2, v3]] w fun e w' => e = .returned (.int .i64 n) ∧ w.alloc (.cells #[.slice pw n c, v1, v2, v3] 84) = w' := by
  go_enter Tryz.func72, Tryz.ntmps72
  go_wp2
  go_ret
  exact ⟨rfl, rfl⟩

theorem wordsBetween_any (a b : Int) (w : World) (h : -1000000 ≤ b) (h2 : b ≤ 1000000) : Calls Tryz.prog 128 #[.int .i64 a, .int .i64 b] w fun e w' => e = .returned (.agg #[.int .i64 a, .int .i64 (b - 1)]) ∧ w.alloc (.cells #[.int .i64 a, .int .i64 (b - 1)] 58) = w' := by
  go_enter Tryz.func128, Tryz.ntmps128
  go_wp2
  refine bodyPost_ret (v := .agg #[.int .i64 a, .int .i64 (b - 1)]) (by simp [results, Tryz.results128, go_sem]) rfl ⟨rfl, rfl⟩

theorem absent_any (n c : Nat) (pw : Option Addr) (v1 v2 v3 : Value) (k : Int) (w : World) (hn : n ≤ 1000000000000) :
    Calls Tryz.prog 103 #[.agg #[.slice pw n c, v1, v2, v3], .int .i64 k] w fun e w' => e = .returned (.bool (absent n k)) ∧ w.alloc (.cells #[.slice pw n c, v1, v2, v3] 84) = w' := by
  go_enter Tryz.func103, Tryz.ntmps103
  go_wp2_with (go_at_call 74; refine (between_any _ _ _ _).mono ?_; rintro e w' ⟨rfl, rfl⟩)
  go_ret
  exact ⟨rfl, rfl⟩

theorem says_any (u : Turn) (lo hi : Int) (w : World) :
    Calls Tryz.prog 127 #[.agg #[.int .i64 u.word, .int .i64 u.lo, .int .i64 u.hi], .agg #[.int .i64 lo, .int .i64 hi]] w fun e w' => e = .returned (.bool (u.says lo hi)) ∧ Below w.heap.size w w' := by
  obtain ⟨uw, ul, uh⟩ := u
  dsimp only
  by_cases h1 : lo ≤ ul
  · have h1' : decide (lo ≤ ul) = true := by simpa using h1
    by_cases h2 : uh ≤ hi
    · have h2' : decide (uh ≤ hi) = true := by simpa using h2
      have hb : (Turn.mk uw ul uh).says lo hi = !btw uw lo hi := by simp [Turn.says, h1, h2]
      have HB := Lib.hid hb
      clear hb
      go_enter Tryz.func127, Tryz.ntmps127
      go_wp2_with (go_at_call 74; refine (between_any _ _ _ _).mono ?_; rintro e w' ⟨rfl, rfl⟩)
      go_ret
      exact ⟨by rw [HB.out]; rfl, (below1 _ _).alloc (by simp) _⟩
    · have h2' : decide (uh ≤ hi) = false := by simpa using h2
      have hb : (Turn.mk uw ul uh).says lo hi = false := by simp [Turn.says, h2]
      have HB := Lib.hid hb
      clear hb
      go_enter Tryz.func127, Tryz.ntmps127
      go_wp2
      go_ret
      exact ⟨by rw [HB.out]; rfl, (below1 _ _).alloc (by simp) _⟩
  · have h1' : decide (lo ≤ ul) = false := by simpa using h1
    have hb : (Turn.mk uw ul uh).says lo hi = false := by simp [Turn.says, h1]
    have HB := Lib.hid hb
    clear hb
    go_enter Tryz.func127, Tryz.ntmps127
    go_wp2
    go_ret
    exact ⟨by rw [HB.out]; rfl, (below1 _ _).alloc (by simp) _⟩

theorem endsB_any (u : Turn) (w : World) : Calls Tryz.prog 80 #[.agg #[.int .i64 u.word, .int .i64 u.lo, .int .i64 u.hi]] w fun e w' => e = .returned (.bool (endsB u)) ∧ Below w.heap.size w w' := by
  go_enter Tryz.func80, Tryz.ntmps80
  go_wp2
  go_ret
  exact ⟨rfl, below1 _ _⟩
theorem itself_any (u : Turn) (w : World) : Calls Tryz.prog 81 #[.agg #[.int .i64 u.word, .int .i64 u.lo, .int .i64 u.hi]] w fun e w' => e = .returned (.bool (itself u)) ∧ Below w.heap.size w w' := by
  go_enter Tryz.func81, Tryz.ntmps81
  go_wp2_with (go_at_call 74; refine (between_any _ _ _ _).mono ?_; rintro e w' ⟨rfl, rfl⟩)
  go_ret
  exact ⟨rfl, below1 _ _⟩

theorem badWord_any (x : Word) (w : World) : Calls Tryz.prog 77 #[.agg #[.int .i64 x.syl, .int .i64 x.wt, .bool x.stop]] w fun e w' => e = .returned (.bool (badWord x)) ∧ Below w.heap.size w w' := by
  obtain ⟨xs, xw, xb⟩ := x
  dsimp only
  cases h : btw xs 1 9 with
  | true =>
    have hb : badWord ⟨xs, xw, xb⟩ = !btw xw 0 20 := by simp [badWord, h]
    have HB := Lib.hid hb
    have H := Lib.hid h
    clear hb h
    go_enter Tryz.func77, Tryz.ntmps77
    go_wp2_with fail
    refine (between_any _ _ _ _).mono ?_
    rintro e w' ⟨rfl, rfl⟩
    rw [H.out]
    go_wp2_with (go_at_call 74; refine (between_any _ _ _ _).mono ?_; rintro e w' ⟨rfl, rfl⟩)
    go_ret
    exact ⟨by rw [HB.out]; rfl, below1 _ _⟩
  | false =>
    have hb : badWord ⟨xs, xw, xb⟩ = true := by simp [badWord, h]
    have HB := Lib.hid hb
    have H := Lib.hid h
    clear hb h
    go_enter Tryz.func77, Tryz.ntmps77
    go_wp2_with fail
    refine (between_any _ _ _ _).mono ?_
    rintro e w' ⟨rfl, rfl⟩
    rw [H.out]
    go_wp2
    go_ret
    exact ⟨by rw [HB.out]; rfl, below1 _ _⟩

theorem shows1_any (k : Int) (w : World) : Calls Tryz.prog 89 #[.int .i64 k] w fun e w' => e = .returned (.bool (!btw k 0 99)) ∧ w = w' := by
  go_enter Tryz.func89, Tryz.ntmps89
  go_wp2_with (go_at_call 74; refine (between_any _ _ _ _).mono ?_; rintro e w' ⟨rfl, rfl⟩)
  go_ret
  exact ⟨rfl, rfl⟩
theorem openReading1_any (k : Int) (w : World) : Calls Tryz.prog 124 #[.int .i64 k] w fun e w' => e = .returned (.bool (!btw k 1 12)) ∧ w = w' := by
  go_enter Tryz.func124, Tryz.ntmps124
  go_wp2_with (go_at_call 74; refine (between_any _ _ _ _).mono ?_; rintro e w' ⟨rfl, rfl⟩)
  go_ret
  exact ⟨rfl, rfl⟩
end Go.Proofs.YtadnggecnjdhiaaGreat
namespace Go.Proofs.YtadnggecnjdhiaaGreat
open Go.ChangeShapes Go.WideShapes Go.ChangeAt Go.RowKit Go.Joins Go.Deep Tx
set_option linter.unusedVariables false
set_option linter.unusedSimpArgs false

theorem Tryz.own : ownKnob Tryz.prog.godebug = none := by kernel_rfl
theorem Tryz.laidOut : laidOutB Tryz.prog = true := by kernel_rfl
theorem cellsText : Tryz.prog.cellsOf 25 = 3 := by kernel_rfl
theorem cellsSpan : Tryz.prog.cellsOf 58 = 2 := by kernel_rfl
theorem cellsWord : Tryz.prog.cellsOf 61 = 3 := by kernel_rfl
theorem cellsTurn : Tryz.prog.cellsOf 63 = 3 := by kernel_rfl
theorem cellsInt : Tryz.prog.cellsOf 3 = 1 := by kernel_rfl
theorem cellsBool : Tryz.prog.cellsOf 4 = 1 := by kernel_rfl
section
variable {H : Type} {enc : TypeId × Value → H} {W : World} {base : Nat} {spare : Nat → Bool} {held : Bool}
theorem cell_lt {b o : Nat} {v : Value} (h : W.cell? ⟨b, o, none⟩ = some v) : b < W.heap.size := by
  rcases Nat.lt_or_ge b W.heap.size with h' | h'
  · exact h'
  · simp [World.cell?, Array.getElem?_eq_none h'] at h
set_option maxRecDepth 100000 in
/-- a slice of numbers that came in -/
theorem ints_of_trod (hsp : ∀ b, spare b = true) {fuel : Nat} {v : Value} {x : DataW H × List MemPlace}
    (h : DataW.trod enc Tryz.prog W base spare held fuel 34 [v] = some x) : ∃ a cap, ∃ xs : List Int, v = .slice a xs.length cap ∧ Ints W a xs ∧ xs.length ≤ 9223372036854775807 := by
  rcases open_ints Tryz.underlying34 Tryz.underlying3 cellsInt h with ⟨hcs, _⟩ | ⟨a, l, c, zs, hcs, _, hl, hm, hz, _, hcell, hwz⟩
  · injection hcs with hcs
    subst hcs
    exact ⟨none, 0, [], rfl, .inl rfl, by simp⟩
  · injection hcs with hcs
    subst hcs
    rw [hsp, if_pos rfl] at hz
    have hxl : (zs.take l).length = l := by rw [List.length_take]; omega
    have hm' : l ≤ 9223372036854775807 := by have : maxLen = 9223372036854775807 := rfl; omega
    refine ⟨some a, c, zs.take l, by rw [hxl], ?_, by omega⟩
    rcases Nat.eq_zero_or_pos l with h0 | h0
    · left; subst h0; simp
    · right
      obtain ⟨b, off, rfl, hc⟩ := ints_at hcell (by omega)
      refine ⟨b, off, rfl, cell_lt (hc 0 (by omega)), fun i hi => ?_⟩
      have hi2 : i < l := by omega
      rw [hc i (by omega)]
      congr 2
      simp only [List.getD_eq_getElem?_getD, List.getElem?_take, hi2, if_true]
set_option maxRecDepth 100000 in
theorem words_of_trod (hsp : ∀ b, spare b = true) {fuel : Nat} {v : Value} {x : DataW H × List MemPlace}
    (h : DataW.trod enc Tryz.prog W base spare held fuel 22 [v] = some x) : ∃ a cap, ∃ ws : List Word, v = .slice a ws.length cap ∧ Wds W a ws ∧ ws.length ≤ 9223372036854775807 := by
  rcases open_slice Tryz.underlying22 h with ⟨hcs, _⟩ | ⟨a, len, cap, m, n, D, Pl, hcs, hb, hl, hm, hmm, hx, hr⟩
  · injection hcs with hcs
    subst hcs
    exact ⟨none, 0, [], rfl, .inl rfl, by simp⟩
  · injection hcs with hcs
    subst hcs
    rw [hsp, if_pos rfl] at hmm
    have hm' : len ≤ 9223372036854775807 := by have : maxLen = 9223372036854775807 := rfl; omega
    have each : ∀ i, i < len → ∃ q : Word, W.cell? (a.add (i * 3)) = some (.int .i64 q.syl) ∧ W.cell? (a.add (i * 3 + 1)) = some (.int .i64 q.wt) ∧ W.cell? (a.add (i * 3 + 2)) = some (.bool q.stop) := by
      intro i hi
      obtain ⟨cs', h1, h2⟩ := hr i (by omega)
      rw [cellsWord] at h1
      obtain ⟨_, hlen, hcell⟩ := World.cells?_some h1
      obtain ⟨y0, y1, y2, k, _, _, g0, g1, g2⟩ := trod_struct3 Tryz.underlying61 h2
      match cs', hlen with
      | [v0, v1, v2], _ =>
        simp [cellsInt, cellsBool] at g0 g1 g2
        obtain ⟨x0, e0, _⟩ := DataW.trod_int Tryz.underlying3 g0
        obtain ⟨x1, e1, _⟩ := DataW.trod_int Tryz.underlying3 g1
        obtain ⟨x2, e2, _⟩ := DataW.trod_bool Tryz.underlying4 g2
        injection e0 with e0; injection e1 with e1; injection e2 with e2
        subst e0; subst e1; subst e2
        have f0 := hcell 0 (by omega)
        have f1 := hcell 1 (by omega)
        have f2 := hcell 2 (by omega)
        rw [add_add] at f0 f1 f2
        exact ⟨⟨x0, x1, x2⟩, by simpa using f0, by simpa using f1, by simpa using f2⟩
    obtain ⟨q, hq⟩ := choose_lt each
    refine ⟨some a, cap, (List.range len).map q, by simp, ?_, by simpa using hm'⟩
    rcases Nat.eq_zero_or_pos len with h0 | h0
    · left; subst h0; rfl
    · right
      obtain ⟨b, off, spot⟩ := a
      have hspot : spot = none := by simpa [Addr.add] using World.cell?_spot ((hq 0 h0).1)
      subst hspot
      have hq' : ∀ i, i < len → W.cell? ⟨b, off + i * 3, none⟩ = some (.int .i64 (q i).syl) ∧ W.cell? ⟨b, off + i * 3 + 1, none⟩ = some (.int .i64 (q i).wt) ∧ W.cell? ⟨b, off + i * 3 + 2, none⟩ = some (.bool (q i).stop) := fun i hi => by
        have := hq i hi
        rw [add_plain, add_plain, add_plain, ← Nat.add_assoc, ← Nat.add_assoc] at this
        exact this
      refine ⟨b, off, rfl, cell_lt (hq' 0 h0).1, fun i hi => ?_⟩
      have hi' : i < len := by simpa using hi
      have e : ((List.range len).map q).getD i default = q i := by simp [hi']
      rw [e]
      exact hq' i hi'
set_option maxRecDepth 100000 in
theorem turns_of_trod (hsp : ∀ b, spare b = true) {fuel : Nat} {v : Value} {x : DataW H × List MemPlace}
    (h : DataW.trod enc Tryz.prog W base spare held fuel 23 [v] = some x) : ∃ a cap, ∃ ws : List Turn, v = .slice a ws.length cap ∧ Tns W a ws ∧ ws.length ≤ 9223372036854775807 := by
  rcases open_slice Tryz.underlying23 h with ⟨hcs, _⟩ | ⟨a, len, cap, m, n, D, Pl, hcs, hb, hl, hm, hmm, hx, hr⟩
  · injection hcs with hcs
    subst hcs
    exact ⟨none, 0, [], rfl, .inl rfl, by simp⟩
  · injection hcs with hcs
    subst hcs
    rw [hsp, if_pos rfl] at hmm
    have hm' : len ≤ 9223372036854775807 := by have : maxLen = 9223372036854775807 := rfl; omega
    have each : ∀ i, i < len → ∃ q : Turn, W.cell? (a.add (i * 3)) = some (.int .i64 q.word) ∧ W.cell? (a.add (i * 3 + 1)) = some (.int .i64 q.lo) ∧ W.cell? (a.add (i * 3 + 2)) = some (.int .i64 q.hi) := by
      intro i hi
      obtain ⟨cs', h1, h2⟩ := hr i (by omega)
      rw [cellsTurn] at h1
      obtain ⟨_, hlen, hcell⟩ := World.cells?_some h1
      obtain ⟨y0, y1, k, _, _, g0, g1⟩ := trod_struct2 Tryz.underlying63 h2
      match cs', hlen with
      | [v0, v1, v2], _ =>
        simp [cellsInt, cellsSpan] at g0 g1
        obtain ⟨y3, y4, k2, _, _, g3, g4⟩ := trod_struct2 Tryz.underlying58 g1
        simp [cellsInt] at g3 g4
        obtain ⟨x0, e0, _⟩ := DataW.trod_int Tryz.underlying3 g0
        obtain ⟨x1, e1, _⟩ := DataW.trod_int Tryz.underlying3 g3
        obtain ⟨x2, e2, _⟩ := DataW.trod_int Tryz.underlying3 g4
        injection e0 with e0; injection e1 with e1; injection e2 with e2
        subst e0; subst e1; subst e2
        have f0 := hcell 0 (by omega)
        have f1 := hcell 1 (by omega)
        have f2 := hcell 2 (by omega)
        rw [add_add] at f0 f1 f2
        exact ⟨⟨x0, x1, x2⟩, by simpa using f0, by simpa using f1, by simpa using f2⟩
    obtain ⟨q, hq⟩ := choose_lt each
    refine ⟨some a, cap, (List.range len).map q, by simp, ?_, by simpa using hm'⟩
    rcases Nat.eq_zero_or_pos len with h0 | h0
    · left; subst h0; rfl
    · right
      obtain ⟨b, off, spot⟩ := a
      have hspot : spot = none := by simpa [Addr.add] using World.cell?_spot ((hq 0 h0).1)
      subst hspot
      have hq' : ∀ i, i < len → W.cell? ⟨b, off + i * 3, none⟩ = some (.int .i64 (q i).word) ∧ W.cell? ⟨b, off + i * 3 + 1, none⟩ = some (.int .i64 (q i).lo) ∧ W.cell? ⟨b, off + i * 3 + 2, none⟩ = some (.int .i64 (q i).hi) := fun i hi => by
        have := hq i hi
        rw [add_plain, add_plain, add_plain, ← Nat.add_assoc, ← Nat.add_assoc] at this
        exact this
      refine ⟨b, off, rfl, cell_lt (hq' 0 h0).1, fun i hi => ?_⟩
      have hi' : i < len := by simpa using hi
      have e : ((List.range len).map q).getD i default = q i := by simp [hi']
      rw [e]
      exact hq' i hi'
set_option maxRecDepth 100000 in
/-- a text that came in -/
theorem text_of_trod (hsp : ∀ b, spare b = true) {v : Value} {d : DataW H} {p : List MemPlace} {r : Reach} {b0 : Nat} (hv : Value.okWide Tryz.prog W r b0 25 v) (h : DataW.Trod enc Tryz.prog W base spare held 25 v d p) :
    ∃ pw pt cw ct, ∃ t : Text, v = .agg #[.slice pw t.words.length cw, .slice pt t.turns.length ct, .int .i64 t.breath] ∧ TxAt W t pw pt ∧ t.words.length ≤ 9223372036854775807 ∧ t.turns.length ≤ 9223372036854775807 := by
  obtain ⟨c0, c1, c2, y0, y1, y2, m, rfl, rfl, rfl, hy0, hy1, hy2⟩ := open_agg3 Tryz.underlying25 (by kernel_rfl) cellsText hv h
  obtain ⟨a, cap, ws, e0, hW, l0⟩ := words_of_trod hsp hy0
  obtain ⟨a2, cap2, ts, e1, hT, l1⟩ := turns_of_trod hsp hy1
  obtain ⟨br, e2, _, _⟩ := DataW.trod_int Tryz.underlying3 hy2
  simp at e2
  subst e0
  subst e1
  subst e2
  exact ⟨a, a2, cap, cap2, ⟨ws, ts, br⟩, rfl, ⟨hW, hT⟩, l0, l1⟩
set_option maxRecDepth 100000 in
theorem span_of_trod {v : Value} {d : DataW H} {p : List MemPlace} {r : Reach} {b0 : Nat} (hv : Value.okWide Tryz.prog W r b0 58 v) (h : DataW.Trod enc Tryz.prog W base spare held 58 v d p) :
    ∃ lo hi : Int, v = .agg #[.int .i64 lo, .int .i64 hi] := by
  obtain ⟨c0, c1, y0, y1, m, rfl, rfl, rfl, hy0, hy1⟩ := open_agg2 Tryz.underlying58 (by kernel_rfl) cellsSpan hv h
  obtain ⟨x, e0, _, _⟩ := DataW.trod_int Tryz.underlying3 hy0
  obtain ⟨y, e1, _, _⟩ := DataW.trod_int Tryz.underlying3 hy1
  simp at e0 e1
  subst e0
  subst e1
  exact ⟨x, y, rfl⟩
theorem lt_of_trod {t : TypeId} {v : Value} {d : DataW H} {p : List MemPlace} (h : DataW.Trod enc Tryz.prog W 0 spare held t v d p) : ∀ x ∈ p, x.block < W.heap.size := by obtain ⟨m, hm⟩ := h; exact DataW.trod_lt m _ _ _ hm
set_option maxRecDepth 100000 in
/-- a slice value by itself, as cells -/
theorem ints_of_Trod (hsp : ∀ b, spare b = true) {v : Value} {d : DataW H} {p : List MemPlace} {r : Reach} {b0 : Nat} (hv : Value.okWide Tryz.prog W r b0 34 v) (h : DataW.Trod enc Tryz.prog W base spare held 34 v d p) :
    ∃ a cap, ∃ xs : List Int, v = .slice a xs.length cap ∧ Ints W a xs ∧ xs.length ≤ 9223372036854775807 := by
  obtain ⟨a0, l0, c0, rfl⟩ : ∃ a l c, v = .slice a l c := by
    exact okWide_slice Tryz.underlying34 hv
  obtain ⟨fuel, hf⟩ := h
  exact ints_of_trod hsp (by simpa [Value.cells] using hf)
end
end Go.Proofs.YtadnggecnjdhiaaGreat
namespace Go.Proofs.YtadnggecnjdhiaaGreat.Rs
set_option linter.unusedSimpArgs false
set_option linter.unusedVariables false
open Go Go.RowKit
variable {P : Program} {ops : Array Oper}

def Gr (w w' : World) : Prop := Below w.heap.size w w'
theorem Gr.refl (w : World) : Gr w w := Below.refl _ _
theorem Gr.trans {a b c : World} (h : Gr a b) (k : Gr b c) : Gr a c := Below.trans h (Below.mono k h.size)

/-- what an operation leaves, where it only adds to the memory -/
def GrowAt (P : Program) (o : Oper) (a : Act) (w : World) (Φ : Value → World → Prop) : Prop :=
  match (execOp a.eval o).run P w with
  | .ok (.value v) w' => Gr w w' ∧ Φ v w'
  | .ok .skip w' => Gr w w' ∧ Φ undef w'
  | .ok (.enter f args) w' => Gr w w' ∧ Calls P f args w' (fun e w'' => ∃ v, e = .returned v ∧ Gr w' w'' ∧ Φ v w'')
  | _ => False

def dstOf (ops : Array Oper) (k : Nat) : Option Tmp := (ops[k]?).bind (·.dst)
def canon (ops : Array Oper) (V : Nat → Value) (a0 : Act) (l : List Nat) : Act := l.foldl (fun a k => a.put (dstOf ops k) (V k)) a0

def depsOf (ops : Array Oper) : Nat → Nat → List Nat
  | 0, _ => []
  | f + 1, i => match ops[i]? with
    | none => []
    | some o => (o.after.toList.filter fun e => Region.binds .any e).flatMap fun e => e.on :: depsOf ops f e.on

/-- what is asked of a region's shape: n operations at its head; dl: for each of them the operations ahead of it of which it knows -/
def shapeB (ops : Array Oper) (n : Nat) (dl : List (List Nat)) : Bool :=
  Region.noSelect ops && decide (n ≤ ops.size) && decide (dl.length = n) &&
  (decide (n = ops.size) || Region.sinkB .any ops n && Region.chainB .any ops n) &&
  (List.range n).all (fun i => match ops[i]? with
    | none => false
    | some o => o.after.toList.all (fun e => !Region.binds .any e || decide (e.on < i)) && (dl.getD i []).all (fun k => decide (k < n) && (depsOf ops n i).contains k) &&
      (List.range n).all (fun k => match dstOf ops k with
        | none => true
        | some d => (!(o.looksAt ops).contains d || (dl.getD i []).contains k || (depsOf ops n k).contains i || i == k) && (k == i || decide (dstOf ops i ≠ some d)))) &&
  Region.seqB .any ops (ops.size - n) n ((List.range ops.size).map (fun i => decide (i < n))).toArray

theorem depsOf_listed {listed : Array Bool} (hc : ∀ j oj, ops[j]? = some oj → listed.getD j false = true → ∀ e ∈ oj.after, Region.binds .any e = true → listed.getD e.on false = true) :
    ∀ (f i : Nat), (∀ o, ops[i]? = some o → ∀ e ∈ o.after, Region.binds .any e = true → listed.getD e.on false = true) → ∀ k ∈ depsOf ops f i, listed.getD k false = true
  | 0, _, _, k, hk => by simp [depsOf] at hk
  | f + 1, i, h, k, hk => by
    unfold depsOf at hk
    cases ho : ops[i]? with
    | none => rw [ho] at hk; simp at hk
    | some o =>
      rw [ho] at hk
      simp only [List.mem_flatMap, List.mem_filter, List.mem_cons] at hk
      obtain ⟨e, ⟨he, hb⟩, hk⟩ := hk
      have h1 := h o ho e (by simpa using he) hb
      rcases hk with rfl | hk
      · exact h1
      · exact depsOf_listed hc f e.on (fun o' ho' e' he' hb' => hc e.on o' ho' h1 e' he' hb') k hk

theorem size_canon (V : Nat → Value) : ∀ (l : List Nat) (a : Act), (canon ops V a l).tmps.size = a.tmps.size
  | [], _ => rfl
  | k :: l, a => by
    unfold canon; rw [List.foldl_cons]
    have := size_canon V l (a.put (dstOf ops k) (V k))
    unfold canon at this; rw [this]
    cases dstOf ops k <;> simp [Act.put]
theorem defers_canon (V : Nat → Value) : ∀ (l : List Nat) (a : Act), (canon ops V a l).defers = a.defers
  | [], _ => rfl
  | k :: l, a => by
    unfold canon; rw [List.foldl_cons]
    have := defers_canon V l (a.put (dstOf ops k) (V k))
    unfold canon at this; rw [this]
    cases dstOf ops k <;> rfl
/-- a slot that none of the operations writes -/
theorem canon_out (V : Nat → Value) {d : Tmp} : ∀ (l : List Nat) (a : Act), (∀ k ∈ l, dstOf ops k ≠ some d) → (canon ops V a l).tmps[d]? = a.tmps[d]?
  | [], _, _ => rfl
  | k :: l, a, h => by
    unfold canon; rw [List.foldl_cons]
    have := canon_out V l (a.put (dstOf ops k) (V k)) (fun j hj => h j (by simp [hj]))
    unfold canon at this; rw [this]
    have hk := h k (by simp)
    cases hd : dstOf ops k with
    | none => rfl
    | some d' => rw [hd] at hk; simp only [Act.put]; exact Array.getElem?_setIfInBounds_ne (fun e => hk (by rw [e]))
theorem canon_in (V : Nat → Value) {d : Tmp} {k : Nat} (hd : dstOf ops k = some d) : ∀ (l : List Nat) (a : Act), k ∈ l → (∀ j ∈ l, j ≠ k → dstOf ops j ≠ some d) → d < a.tmps.size → (canon ops V a l).tmps[d]? = some (V k)
  | [], _, h, _, _ => by cases h
  | j :: l, a, h, hn, hlt => by
    by_cases hkl : k ∈ l
    · unfold canon; rw [List.foldl_cons]
      have := canon_in V hd l (a.put (dstOf ops j) (V j)) hkl (fun i hi => hn i (by simp [hi])) (by cases dstOf ops j <;> simpa [Act.put] using hlt)
      unfold canon at this; exact this
    · have hjk : j = k := by
        rcases List.mem_cons.1 h with h | h
        · exact h.symm
        · exact absurd h hkl
      subst hjk
      unfold canon; rw [List.foldl_cons]
      have := canon_out (ops := ops) V (d := d) l (a.put (dstOf ops j) (V j)) (fun i hi => hn i (by simp [hi]) (fun e => hkl (e ▸ hi)))
      unfold canon at this; rw [this, hd]
      simp [Act.put, hlt]

theorem wanted_congr (o : Oper) {t t' : Array Value} (h : ∀ d ∈ o.looksAt ops, t[d]? = t'[d]?) : Region.wanted o (yielded ops t) = Region.wanted o (yielded ops t') := by
  unfold Region.wanted
  cases hg : o.guard with
  | none => rfl
  | some gw =>
    obtain ⟨g, want⟩ := gw
    have hy : yielded ops t g = yielded ops t' g := by
      unfold yielded
      cases ht : (ops[g]?).bind (·.dst) with
      | none => rfl
      | some d => simp only [Option.bind_some]; rw [h d (by simp [Oper.looksAt, hg, ht])]
    simp only [hy]

theorem exec_congr (o : Oper) (hs : ∀ cs b, o.op ≠ .select cs b) {a a' : Act} (h : ∀ d ∈ o.looksAt ops, a.tmps[d]? = a'.tmps[d]?) : execOp a.eval o = execOp a'.eval o :=
  execOp_congr o hs fun x hx => by
    cases x with
    | tmp d =>
      have := h d (List.mem_append_left _ (List.mem_filterMap.2 ⟨.tmp d, by simpa using hx, rfl⟩))
      simp [Act.eval, this]
    | _ => rfl

/-- what is asked of one operation -/
def StepOk (P : Program) (ops : Array Oper) (o : Oper) (a : Act) (w : World) (Φ : Value → World → Prop) : Prop :=
  if Region.wanted o (yielded ops a.tmps) = true then GrowAt P o a w Φ else Φ undef w

section main
variable {n : Nat} {dl : List (List Nat)} {a0 : Act} {w0 : World} {Q : Exit → Act → World → Prop}

structure Inv (ops : Array Oper) (n : Nat) (dl : List (List Nat)) (Spec : Nat → List Value → Value → World → Prop) (a0 : Act) (w0 : World) (V : Nat → Value) (listed : Array Bool) (a : Act) (w : World) : Prop where
  head : HeadInv .any ops n listed
  size : a.tmps.size = a0.tmps.size
  defers : a.defers = a0.defers
  slot : ∀ k, k < n → listed.getD k false = true → ∀ d, dstOf ops k = some d → d < a0.tmps.size → a.tmps[d]? = some (V k)
  other : ∀ d, (∀ k, k < n → listed.getD k false = true → dstOf ops k ≠ some d) → a.tmps[d]? = a0.tmps[d]?
  spec : ∀ k, k < n → listed.getD k false = true → Spec k ((dl.getD k []).map V) (V k) w
  gr : Gr w0 w

def left (n : Nat) (listed : Array Bool) : Nat := ((List.range n).filter fun i => !listed.getD i false).length

theorem left_set {n i : Nat} {listed : Array Bool} (hi : i < n) (hs : i < listed.size) (h : listed.getD i false = false) : left n listed = left n (listed.setIfInBounds i true) + 1 := by
  unfold left
  have key : ∀ (l : List Nat), l.Nodup → i ∈ l → (l.filter fun j => !listed.getD j false).length = (l.filter fun j => !(listed.setIfInBounds i true).getD j false).length + 1 := by
    intro l
    induction l with
    | nil => intro _ h; cases h
    | cons x l ih =>
      intro hnd hm
      rw [List.nodup_cons] at hnd
      by_cases hx : x = i
      · subst hx
        have e1 : (listed.setIfInBounds x true).getD x false = true := by simp [hs]
        have e2 : ∀ j ∈ l, (!(listed.setIfInBounds x true).getD j false) = !listed.getD j false := fun j hj => by
          rw [getD_set_ne false (fun e => hnd.1 (by rw [e]; exact hj))]
        rw [List.filter_cons_of_pos (by rw [h]; rfl), List.filter_cons_of_neg (by rw [e1]; simp), List.filter_congr e2]
        rfl
      · have hm' : i ∈ l := by
          rcases List.mem_cons.1 hm with h | h
          · exact absurd h.symm hx
          · exact h
        have e1 : (listed.setIfInBounds i true).getD x false = listed.getD x false := getD_set_ne false (fun e => hx e.symm)
        have := ih hnd.2 hm'
        cases hv : listed.getD x false with
        | true => rw [List.filter_cons_of_neg (by rw [hv]; simp), List.filter_cons_of_neg (by rw [e1, hv]; simp)]; exact this
        | false => rw [List.filter_cons_of_pos (by rw [hv]; rfl), List.filter_cons_of_pos (by rw [e1, hv]; rfl)]; simp only [List.length_cons]; omega
  exact key _ List.nodup_range (List.mem_range.2 hi)
theorem left_zero {n : Nat} {listed : Array Bool} (h : left n listed = 0) : ∀ i, i < n → listed.getD i false = true := by
  intro i hi
  unfold left at h
  rw [List.length_eq_zero_iff, List.filter_eq_nil_iff] at h
  simpa using h i (List.mem_range.2 hi)

/-- the slot facts that an operation looks at -/
theorem Inv.looks {Spec : Nat → List Value → Value → World → Prop} {V : Nat → Value} {listed : Array Bool} {a : Act} {w : World} (inv : Inv ops n dl Spec a0 w0 V listed a w) {i : Nat} {o : Oper} (hi : ops[i]? = some o) (_hin : i < n) (hiu : listed.getD i false = false)
    (hr : ∀ e ∈ o.after, Region.binds .any e = true → listed.getD e.on false = true)
    (hdl : ∀ k ∈ dl.getD i [], k < n ∧ k ∈ depsOf ops n i)
    (hlook : ∀ k, k < n → ∀ d, dstOf ops k = some d → (d ∈ o.looksAt ops → k ∈ dl.getD i [] ∨ i ∈ depsOf ops n k ∨ i = k) ∧ True)
    (hnd : ∀ j k, j < n → k < n → j ≠ k → ∀ d, dstOf ops k = some d → dstOf ops j ≠ some d) :
    ∀ d ∈ o.looksAt ops, a.tmps[d]? = (canon ops V a0 (dl.getD i [])).tmps[d]? := by
  intro d hd
  have hdep : ∀ k ∈ dl.getD i [], listed.getD k false = true := fun k hk => depsOf_listed inv.head.closed n i (fun o' ho' => by rw [hi] at ho'; cases ho'; exact hr) k (hdl k hk).2
  by_cases hlt : d < a0.tmps.size
  · by_cases hex : ∃ k, k ∈ dl.getD i [] ∧ dstOf ops k = some d
    · obtain ⟨k, hk, hkd⟩ := hex
      rw [inv.slot k (hdl k hk).1 (hdep k hk) d hkd hlt, canon_in V hkd _ _ hk (fun j hj hjk => hnd j k (hdl j hj).1 (hdl k hk).1 hjk d hkd) hlt]
    · rw [canon_out V _ _ (fun k hk e => hex ⟨k, hk, e⟩)]
      refine inv.other d (fun k hk hl e => ?_)
      rcases (hlook k hk d e).1 hd with h | h | h
      · exact hex ⟨k, h, e⟩
      · have := depsOf_listed inv.head.closed n k (fun o' ho' e' he' hb' => inv.head.closed k o' ho' hl e' he' hb') i h
        rw [hiu] at this; cases this
      · subst h; rw [hiu] at hl; cases hl
  · have e1 : a.tmps[d]? = none := Array.getElem?_eq_none (by rw [inv.size]; exact Nat.le_of_not_lt hlt)
    have e2 : (canon ops V a0 (dl.getD i [])).tmps[d]? = none := Array.getElem?_eq_none (by rw [size_canon]; exact Nat.le_of_not_lt hlt)
    rw [e1, e2]

theorem Inv.step {Spec : Nat → List Value → Value → World → Prop} {V : Nat → Value} {listed : Array Bool} {a : Act} {w w' : World} (inv : Inv ops n dl Spec a0 w0 V listed a w) {i : Nat} {o : Oper} {v : Value} (hi : ops[i]? = some o) (hin : i < n) (hiu : listed.getD i false = false)
    (hri : i ∈ Region.ready .any ops listed)
    (hdl : ∀ j, j < n → ∀ k ∈ dl.getD j [], k < n ∧ k ∈ depsOf ops n j)
    (hnd : ∀ j k, j < n → k < n → j ≠ k → ∀ d, dstOf ops k = some d → dstOf ops j ≠ some d)
    (stable : ∀ i L v w w', Spec i L v w → Gr w w' → Spec i L v w')
    (hg : Gr w w') (hs : Spec i ((dl.getD i []).map V) v w') :
    Inv ops n dl Spec a0 w0 (fun k => if k = i then v else V k) (listed.setIfInBounds i true) (a.put o.dst v) w' := by
  have hisz : i < listed.size := by rw [inv.head.size]; exact (Array.getElem?_eq_some_iff.1 hi).1
  have hdst : dstOf ops i = o.dst := by simp [dstOf, hi]
  have hdep : ∀ k, k < n → (k = i ∨ listed.getD k false = true) → ∀ j ∈ dl.getD k [], j ≠ i := fun k hk hkl j hj e => by
    have hm := (hdl k hk j hj).2
    rw [e] at hm
    have : listed.getD i false = true := by
      rcases hkl with rfl | hkl
      · obtain ⟨_, o', ho', hall⟩ := mem_ready.1 hri
        exact depsOf_listed inv.head.closed n k (fun o'' ho'' => by rw [ho'] at ho''; cases ho''; exact hall) k hm
      · exact depsOf_listed inv.head.closed n k (fun o' ho' e' he' hb' => inv.head.closed k o' ho' hkl e' he' hb') i hm
    rw [hiu] at this; cases this
  have hmap : ∀ k, k < n → (k = i ∨ listed.getD k false = true) → (dl.getD k []).map (fun k => if k = i then v else V k) = (dl.getD k []).map V := fun k hk hkl =>
    List.map_congr_left fun j hj => by rw [if_neg (hdep k hk hkl j hj)]
  refine ⟨inv.head.set hri hin, ?_, ?_, fun k hk hl d hd hlt => ?_, fun d hd => ?_, fun k hk hl => ?_, inv.gr.trans hg⟩
  · rw [← inv.size]; cases o.dst <;> simp [Act.put]
  · rw [← inv.defers]; cases o.dst <;> rfl
  · by_cases hki : k = i
    · subst hki
      rw [hdst] at hd
      rw [if_pos rfl, hd]
      simp [Act.put, inv.size, hlt]
    · rw [if_neg hki]
      rw [getD_set_ne false (fun e => hki e.symm)] at hl
      rw [← inv.slot k hk hl d hd hlt]
      cases ho : o.dst with
      | none => rfl
      | some d' =>
        simp only [Act.put]
        exact Array.getElem?_setIfInBounds_ne (fun e => hnd i k hin hk (fun e => hki e.symm) d hd (by rw [hdst, ho, e]))
  · have h1 : dstOf ops i ≠ some d := hd i hin (by simp [hisz])
    rw [hdst] at h1
    rw [← inv.other d (fun k hk hl e => by
      by_cases hki : k = i
      · subst hki; exact h1 (by rw [← hdst]; exact e)
      · exact hd k hk (by rw [getD_set_ne false (fun e => hki e.symm)]; exact hl) e)]
    cases ho : o.dst with
    | none => rfl
    | some d' => simp only [Act.put]; exact Array.getElem?_setIfInBounds_ne (fun e => h1 (by rw [ho, e]))
  · by_cases hki : k = i
    · subst hki
      rw [hmap k hk (.inl rfl)]
      simp only [if_true]
      exact hs
    · rw [getD_set_ne false (fun e => hki e.symm)] at hl
      rw [hmap k hk (.inr hl)]
      simp only [if_neg hki]
      exact stable _ _ _ _ _ (inv.spec k hk hl) hg

theorem head_all {Spec : Nat → List Value → Value → World → Prop} (g : Nat)
    (hsel : ∀ (j : Nat) (o : Oper) cs b, ops[j]? = some o → o.op ≠ .select cs b) (hn : n ≤ ops.size)
    (hsink : n = ops.size ∨ (Region.sinkB .any ops n = true ∧ Region.chainB .any ops n = true))
    (hlow : ∀ i, i < n → ∀ o, ops[i]? = some o → ∀ e ∈ o.after, Region.binds .any e = true → e.on < i)
    (hdl : ∀ j, j < n → ∀ k ∈ dl.getD j [], k < n ∧ k ∈ depsOf ops n j)
    (hlook : ∀ i, i < n → ∀ o, ops[i]? = some o → ∀ k, k < n → ∀ d, dstOf ops k = some d → (d ∈ o.looksAt ops → k ∈ dl.getD i [] ∨ i ∈ depsOf ops n k ∨ i = k) ∧ True)
    (hnd : ∀ j k, j < n → k < n → j ≠ k → ∀ d, dstOf ops k = some d → dstOf ops j ≠ some d)
    (stable : ∀ i L v w w', Spec i L v w → Gr w w' → Spec i L v w')
    (step : ∀ i o V w, ops[i]? = some o → i < n → Gr w0 w → (∀ k ∈ dl.getD i [], Spec k ((dl.getD k []).map V) (V k) w) → StepOk P ops o (canon ops V a0 (dl.getD i [])) w (Spec i ((dl.getD i []).map V)))
    (fin : ∀ V listed a w, Inv ops n dl Spec a0 w0 V listed a w → (∀ k, k < n → listed.getD k false = true) → wpAny P .any ops Q g listed a w) :
    ∀ (f : Nat) (V : Nat → Value) (listed : Array Bool) (a : Act) (w : World), left n listed = f → Inv ops n dl Spec a0 w0 V listed a w → wpAny P .any ops Q (f + g) listed a w := by
  intro f
  induction f with
  | zero => intro V listed a w hf inv; rw [Nat.zero_add]; exact fin V listed a w inv (left_zero hf)
  | succ f ih =>
    intro V listed a w hf inv
    have hun : ∃ i, i < n ∧ listed.getD i false = false ∧ ∀ j, j < i → listed.getD j false = true := by
      have hex : ∃ i, i < n ∧ listed.getD i false = false := by
        apply Classical.byContradiction
        intro hno
        have : left n listed = 0 := by
          unfold left
          rw [List.length_eq_zero_iff, List.filter_eq_nil_iff]
          intro i hi
          cases hv : listed.getD i false with
          | true => simp
          | false => exact absurd ⟨i, List.mem_range.1 hi, hv⟩ hno
        omega
      obtain ⟨i, h1, h2⟩ := hex
      induction i using Nat.strongRecOn with
      | _ i ihi =>
        by_cases h3 : ∀ j, j < i → listed.getD j false = true
        · exact ⟨i, h1, h2, h3⟩
        · simp only [Classical.not_forall] at h3
          obtain ⟨j, hj, hj2⟩ := h3
          exact ihi j hj (by omega) (by simpa using hj2)
    obtain ⟨i0, hi0, hi0u, hi0m⟩ := hun
    have hready0 : i0 ∈ Region.ready .any ops listed := by
      rw [mem_ready]
      have hlt : i0 < ops.size := by omega
      refine ⟨getD_in (by rw [inv.head.size]; exact hlt) hi0u, ops[i0], Array.getElem?_eq_getElem hlt, fun e he hb => hi0m _ (hlow i0 hi0 _ (Array.getElem?_eq_getElem hlt) e he hb)⟩
    rw [show f + 1 + g = (f + g) + 1 by omega]
    refine ⟨fun h => (by rw [h] at hready0; cases hready0), fun i hi => ?_⟩
    obtain ⟨hiu, o, ho, hall⟩ := mem_ready.1 hi
    have hiu' := getD_both hiu
    have hilt : i < ops.size := (Array.getElem?_eq_some_iff.1 ho).1
    have hin : i < n := by
      rcases hsink with h | ⟨h1, h2⟩
      · omega
      · by_cases hns : n < ops.size
        · rcases Nat.lt_or_ge i n with h | h
          · exact h
          · exact absurd hi (tail_waits h1 h2 hns inv.head _ i0 rfl hi0 (getD_in (by rw [inv.head.size]; omega) hi0u) i h)
        · omega
    have hso := step i o V w ho hin inv.gr (fun k hk => inv.spec k (hdl i hin k hk).1 (depsOf_listed inv.head.closed n i (fun o' ho' => by rw [ho] at ho'; cases ho'; exact hall) k (hdl i hin k hk).2))
    have hlk := inv.looks ho hin hiu' hall (hdl i hin) (hlook i hin o ho) hnd
    have hw := wanted_congr (ops := ops) o hlk
    have hex := exec_congr (ops := ops) o (fun cs b => hsel i o cs b ho) hlk
    have hnext : ∀ v w', Gr w w' → Spec i ((dl.getD i []).map V) v w' → wpAny P .any ops Q (f + g) (listed.setIfInBounds i true) (a.put o.dst v) w' := fun v w' hg hs =>
      ih _ _ _ _ (by have := left_set (n := n) hin (by rw [inv.head.size]; exact hilt) hiu'; omega) (inv.step ho hin hiu' hi hdl hnd stable hg hs)
    unfold StepOk at hso
    rw [← hw] at hso
    unfold wpOp
    simp only [ho]
    by_cases hwt : Region.wanted o (yielded ops a.tmps) = true
    · rw [if_pos hwt] at hso ⊢
      refine .inl ?_
      unfold GrowAt at hso
      unfold Oper.wp
      rw [← hex] at hso
      generalize (execOp a.eval o).run P w = r at hso
      cases r with
      | halt x w' => exact hso.elim
      | ok nx w' =>
        cases nx with
        | value v => exact hnext v w' hso.1 hso.2
        | skip => exact hnext undef w' hso.1 hso.2
        | enter fn args =>
          refine hso.2.mono ?_
          rintro e w'' ⟨v, rfl, h1, h2⟩
          exact hnext v w'' (hso.1.trans h1) h2
        | _ => exact hso.elim
    · rw [if_neg hwt] at hso ⊢
      exact hnext undef w (Gr.refl _) hso

/-- **THE REGION**, by what each operation leaves -/
theorem region_spec {id : Nat} {l : List Oper} {w : World} {a0 : Act} {Q : Exit → Act → World → Prop} (n : Nat) (dl : List (List Nat)) (hm : P.follows .mixedOrders = true) (hB : shapeB l.toArray n dl = true)
    (Spec : Nat → List Value → Value → World → Prop) (stable : ∀ i L v w w', Spec i L v w → Gr w w' → Spec i L v w')
    (step : ∀ i o V w', l[i]? = some o → i < n → Gr w w' → (∀ k ∈ dl.getD i [], Spec k ((dl.getD k []).map V) (V k) w') → StepOk P l.toArray o (canon l.toArray V a0 (dl.getD i [])) w' (Spec i ((dl.getD i []).map V)))
    (fin : ∀ V w', Gr w w' → (∀ k, k < n → Spec k ((dl.getD k []).map V) (V k) w') → wpList P l.toArray Q (l.drop n) (canon l.toArray V a0 (List.range n)) w') :
    (Code.region id l.toArray true).wp P Q a0 w := by
  simp only [shapeB, Bool.and_eq_true, decide_eq_true_eq, Bool.or_eq_true] at hB
  obtain ⟨⟨⟨⟨⟨hsel, hn⟩, hdlen⟩, hsink⟩, hall⟩, hseq⟩ := hB
  rw [List.all_eq_true] at hall
  have hops : ∀ i, i < n → ∃ o, l.toArray[i]? = some o ∧ (∀ e ∈ o.after, Region.binds .any e = true → e.on < i) ∧ (∀ k ∈ dl.getD i [], k < n ∧ k ∈ depsOf l.toArray n i) ∧
      (∀ k, k < n → ∀ d, dstOf l.toArray k = some d → (d ∈ o.looksAt l.toArray → k ∈ dl.getD i [] ∨ i ∈ depsOf l.toArray n k ∨ i = k) ∧ (k ≠ i → dstOf l.toArray i ≠ some d)) := by
    intro i hi
    have h := hall i (List.mem_range.2 hi)
    cases ho : l.toArray[i]? with
    | none => rw [ho] at h; cases h
    | some o =>
      rw [ho] at h
      simp only [Bool.and_eq_true, List.all_eq_true] at h
      obtain ⟨⟨h1, h2⟩, h3⟩ := h
      refine ⟨o, rfl, fun e he hb => ?_, fun k hk => ?_, fun k hk d hd => ?_⟩
      · have := h1 e (by simpa using he)
        rw [hb] at this; simpa using this
      · have := h2 k hk
        simpa using this
      · have := h3 k (List.mem_range.2 hk)
        rw [hd] at this
        simp only [Bool.and_eq_true, Bool.or_eq_true, Bool.not_eq_true', beq_iff_eq, decide_eq_true_eq, List.contains_iff_mem] at this
        refine ⟨fun hm => ?_, fun hne => ?_⟩
        · rcases this.1 with ((h | h) | h) | h
          · rw [show (o.looksAt l.toArray).contains d = true from List.contains_iff_mem.2 hm] at h; cases h
          · exact .inl h
          · exact .inr (.inl h)
          · exact .inr (.inr h)
        · rcases this.2 with h | h
          · exact absurd h hne
          · exact h
  have hnd : ∀ j k, j < n → k < n → j ≠ k → ∀ d, dstOf l.toArray k = some d → dstOf l.toArray j ≠ some d := fun j k hj hk hne d hd => by
    obtain ⟨o, _, _, _, h⟩ := hops j hj
    exact (h k hk d hd).2 (fun e => hne e.symm)
  refine wp_region_any hm ?_
  have inv0 : Inv l.toArray n dl Spec a0 w (fun _ => undef) (Array.replicate l.toArray.size false) a0 { w with drawn := w.drawn + 1 } :=
    ⟨⟨by simp, fun j oj _ hl => (by rw [getD_replicate_false] at hl; cases hl), fun t _ ht => getD_in (by simpa using ht) (getD_replicate_false _ _)⟩, rfl, rfl,
      fun k _ hl => (by rw [getD_replicate_false] at hl; cases hl), fun _ _ => rfl, fun k _ hl => (by rw [getD_replicate_false] at hl; cases hl), (Below.refl _ _).drew⟩
  have hleft : left n (Array.replicate l.toArray.size false) = n := by
    unfold left
    rw [List.filter_eq_self.2 (fun i _ => by rw [getD_replicate_false]; rfl)]
    simp
  have := head_all (P := P) (Q := Q) (Spec := Spec) (dl := dl) (a0 := a0) (w0 := w) (l.toArray.size - n) (Region.noSelect_spec hsel) hn (by rcases hsink with h | h; exact .inl h; exact .inr h)
    (fun i hi o ho e he hb => by obtain ⟨o', ho', h1, _⟩ := hops i hi; rw [ho] at ho'; cases ho'; exact h1 e he hb)
    (fun j hj => by obtain ⟨_, _, _, h, _⟩ := hops j hj; exact h)
    (fun i hi o ho k hk d hd => by obtain ⟨o', ho', _, _, h⟩ := hops i hi; rw [ho] at ho'; cases ho'; exact ⟨(h k hk d hd).1, trivial⟩)
    hnd stable (fun i o V w' ho => step i o V w' (by simpa using ho)) ?_ n _ _ _ _ hleft inv0
  · rwa [show n + (l.toArray.size - n) = l.toArray.size by omega] at this
  · intro V listed a w' inv hl
    have hld : listed = ((List.range l.toArray.size).map (fun i => decide (i < n))).toArray := by
      apply Array.ext
      · rw [inv.head.size]; simp
      · intro i h1 h2
        have hi : i < l.toArray.size := by rw [inv.head.size] at h1; exact h1
        have e2 : ((List.range l.toArray.size).map (fun i => decide (i < n))).toArray[i] = decide (i < n) := by simp
        rw [e2]
        by_cases hin : i < n
        · have := hl i hin
          simp only [hin, decide_true]
          simpa [h1] using this
        · have := inv.head.tail i (by omega) hi
          simp only [hin, decide_false]
          simpa [h1] using this
    have hact : a = canon l.toArray V a0 (List.range n) := by
      have ht : a.tmps = (canon l.toArray V a0 (List.range n)).tmps := by
        apply Array.ext_getElem?
        intro d
        by_cases hlt : d < a0.tmps.size
        · by_cases hex : ∃ k, k < n ∧ dstOf l.toArray k = some d
          · obtain ⟨k, hk, hd⟩ := hex
            rw [inv.slot k hk (hl k hk) d hd hlt, canon_in V hd _ _ (List.mem_range.2 hk) (fun j hj hjk => hnd j k (List.mem_range.1 hj) hk hjk d hd) hlt]
          · rw [inv.other d (fun k hk _ e => hex ⟨k, hk, e⟩), canon_out V _ _ (fun k hk e => hex ⟨k, List.mem_range.1 hk, e⟩)]
        · have e1 : a.tmps[d]? = none := Array.getElem?_eq_none (by rw [inv.size]; exact Nat.le_of_not_lt hlt)
          have e2 : (canon l.toArray V a0 (List.range n)).tmps[d]? = none := Array.getElem?_eq_none (by rw [size_canon]; exact Nat.le_of_not_lt hlt)
          rw [e1, e2]
      have hdf : a.defers = (canon l.toArray V a0 (List.range n)).defers := by rw [inv.defers, defers_canon]
      obtain ⟨t, d⟩ := a
      generalize canon l.toArray V a0 (List.range n) = b at ht hdf
      obtain ⟨t', d'⟩ := b
      dsimp only at ht hdf
      rw [ht, hdf]
    have hf := fin V w' inv.gr (fun k hk => inv.spec k hk (hl k hk))
    rw [← hact] at hf
    have hdl : (l.drop n).length = l.toArray.size - n := by simp
    have hsq := wpAny_of_seq (P := P) (md := .any) (Q' := Q) (l.drop n) n listed a w' (fun j => by simp [List.getElem?_drop]) (by rw [hdl, hld]; exact hseq) hf
    rwa [hdl] at hsq
/-- what an operation's operand holds: the value of an operation that it knows of, else what the slot held -/
def look (ds : List (Option Nat)) (cs : Nat → Value) (a0 : Act) (d : List Nat) : Operand → Value
  | .tmp t => match d.find? (fun k => ds.getD k none == some t) with
    | some k => cs k
    | none => a0.eval (.tmp t)
  | x => a0.eval x
def wantB (o : Oper) (cs : Nat → Value) : Bool :=
  match o.guard with
  | none => true
  | some (g, b) => match cs g with
    | .bool x => x == b
    | _ => false
def GrowR (P : Program) (o : Oper) (ρ : Operand → Value) (w : World) (c : Value) : Prop :=
  match (execOp ρ o).run P w with
  | .ok (.value v) w' => Gr w w' ∧ v = c
  | .ok .skip w' => Gr w w' ∧ c = undef
  | .ok (.enter f args) w' => Gr w w' ∧ Calls P f args w' (fun e w'' => e = .returned c ∧ Gr w' w'')
  | _ => False
def StepR (P : Program) (o : Oper) (ds : List (Option Nat)) (cs : Nat → Value) (a0 : Act) (d : List Nat) (w : World) (c : Value) : Prop :=
  ∀ w', Gr w w' → if wantB o cs = true then GrowR P o (look ds cs a0 d) w' c else c = undef
theorem StepR.on {o : Oper} {ds : List (Option Nat)} {cs : Nat → Value} {a0 : Act} {d : List Nat} {w : World} {c : Value} (hb : wantB o cs = true) (h : ∀ w', Gr w w' → GrowR P o (look ds cs a0 d) w' c) : StepR P o ds cs a0 d w c :=
  fun w' hg => by rw [if_pos hb]; exact h w' hg
theorem StepR.off {o : Oper} {ds : List (Option Nat)} {cs : Nat → Value} {a0 : Act} {d : List Nat} {w : World} {c : Value} (hb : wantB o cs = false) (h : c = undef) : StepR P o ds cs a0 d w c :=
  fun w' _ => by rw [hb, if_neg (by simp)]; exact h
theorem GrowR.value {o : Oper} {ρ : Operand → Value} {w : World} {c : Value} (h : (execOp ρ o).run P w = .ok (.value c) w) : GrowR P o ρ w c := by
  unfold GrowR; rw [h]; exact ⟨Gr.refl _, rfl⟩
theorem GrowR.call {o : Oper} {ρ : Operand → Value} {w : World} {c : Value} {f : FuncId} {args : Array Value} (h : (execOp ρ o).run P w = .ok (.enter f args) w) (hc : Calls P f args w (fun e w'' => e = .returned c ∧ Below w.heap.size w w'')) : GrowR P o ρ w c := by
  unfold GrowR; rw [h]; exact ⟨Gr.refl _, hc⟩
/-- one value at once: moved, assigned, or of operands that are known -/
theorem StepR.plain {o : Oper} {ds : List (Option Nat)} {cs : Nat → Value} {a0 : Act} {d : List Nat} {w : World} {c : Value} (hb : wantB o cs = true) (h : ∀ w', Gr w w' → (execOp (look ds cs a0 d) o).run P w' = .ok (.value c) w') : StepR P o ds cs a0 d w c :=
  StepR.on hb fun w' hg => GrowR.value (h w' hg)

def allSteps (P : Program) (ds : List (Option Nat)) (cs : Nat → Value) (a0 : Act) (w : World) : List Oper → Nat → List (List Nat) → Prop
  | o :: l, i, d :: dl => StepR P o ds cs a0 d w (cs i) ∧ allSteps P ds cs a0 w l (i + 1) dl
  | _, _, _ => True
theorem allSteps_get {ds : List (Option Nat)} {cs : Nat → Value} {a0 : Act} {w : World} : ∀ (l : List Oper) (i : Nat) (dl : List (List Nat)), allSteps P ds cs a0 w l i dl → ∀ (j : Nat) (o : Oper) (d : List Nat), l[j]? = some o → dl[j]? = some d → StepR P o ds cs a0 d w (cs (i + j))
  | [], _, _, _, j, o, d, ho, _ => by simp at ho
  | _ :: _, _, [], _, j, o, d, _, hd => by simp at hd
  | o' :: l, i, d' :: dl, h, 0, o, d, ho, hd => by simp at ho hd; subst ho; subst hd; exact h.1
  | o' :: l, i, d' :: dl, h, j + 1, o, d, ho, hd => by
    have := allSteps_get l (i + 1) dl h.2 j o d (by simpa using ho) (by simpa using hd)
    rwa [show i + (j + 1) = i + 1 + j by omega]
theorem canon_congr {V V' : Nat → Value} : ∀ (l : List Nat) (a : Act), (∀ k ∈ l, V k = V' k) → canon ops V a l = canon ops V' a l
  | [], _, _ => rfl
  | k :: l, a, h => by
    unfold canon; rw [List.foldl_cons, List.foldl_cons, h k (by simp)]
    exact canon_congr l _ (fun j hj => h j (by simp [hj]))

/-- more of a region's shape: the slots that are written, as they are told; what guards is known; no slot beyond the frame -/
def slotsB (ops : Array Oper) (n sz : Nat) (dl : List (List Nat)) (ds : List (Option Nat)) : Bool :=
  (List.range n).all fun i => dstOf ops i == ds.getD i none && (match ds.getD i none with | some d => decide (d < sz) | none => true) &&
    (match (ops[i]?).bind (·.guard) with
     | some (g, _) => (dl.getD i []).contains g && (dstOf ops g).isSome
     | none => true)

/-- A region each of whose first operations leaves one value, whatever the order. -/
theorem region_det {id : Nat} {l : List Oper} {w : World} {a0 : Act} {Q : Exit → Act → World → Prop} (n : Nat) (dl : List (List Nat)) (ds : List (Option Nat)) (cs : Nat → Value) (hm : P.follows .mixedOrders = true) (hB : shapeB l.toArray n dl = true) (hS : slotsB l.toArray n a0.tmps.size dl ds = true)
    (step : allSteps P ds cs a0 w l 0 dl)
    (fin : ∀ w', Gr w w' → wpList P l.toArray Q (l.drop n) (canon l.toArray cs a0 (List.range n)) w') :
    (Code.region id l.toArray true).wp P Q a0 w := by
  have hB' := hB
  simp only [shapeB, Bool.and_eq_true, decide_eq_true_eq] at hB'
  obtain ⟨⟨⟨⟨⟨hsel, hn⟩, hdlen⟩, _⟩, hall⟩, _⟩ := hB'
  rw [List.all_eq_true] at hall
  unfold slotsB at hS
  rw [List.all_eq_true] at hS
  have hdst : ∀ i, i < n → dstOf l.toArray i = ds.getD i none ∧ ∀ d, dstOf l.toArray i = some d → d < a0.tmps.size := fun i hi => by
    have h := hS i (List.mem_range.2 hi)
    simp only [Bool.and_eq_true, beq_iff_eq] at h
    refine ⟨h.1.1, fun d hd => ?_⟩
    have h2 := h.1.2
    rw [← h.1.1, hd] at h2
    simpa using h2
  refine region_spec n dl hm hB (fun i _ v _ => v = cs i) (fun _ _ _ _ _ h _ => h) (fun i o V w' ho hi hg hs => ?_) (fun V w' hg hs => ?_)
  · rw [canon_congr (V' := cs) _ _ (fun k hk => hs k hk)]
    have hst := allSteps_get l 0 dl step i o (dl.getD i []) ho (by simp [List.getElem?_eq_getElem (show i < dl.length by omega)]) w' hg
    rw [Nat.zero_add] at hst
    have hio := hall i (List.mem_range.2 hi)
    have hoo : l.toArray[i]? = some o := by simpa using ho
    rw [hoo] at hio
    simp only [Bool.and_eq_true, List.all_eq_true] at hio
    obtain ⟨⟨_, h2⟩, h3⟩ := hio
    have hdl : ∀ k ∈ dl.getD i [], k < n := fun k hk => by have := h2 k hk; simp only [Bool.and_eq_true, decide_eq_true_eq] at this; exact this.1
    have hnd : ∀ j k, j < n → k < n → j ≠ k → ∀ d, dstOf l.toArray k = some d → dstOf l.toArray j ≠ some d := fun j k hj hk hne d hd => by
      have h := hall j (List.mem_range.2 hj)
      cases hoj : l.toArray[j]? with
      | none => rw [hoj] at h; cases h
      | some oj =>
        rw [hoj] at h
        simp only [Bool.and_eq_true, List.all_eq_true] at h
        have := h.2 k (List.mem_range.2 hk)
        rw [hd] at this
        simp only [Bool.and_eq_true, Bool.or_eq_true, beq_iff_eq, decide_eq_true_eq] at this
        rcases this.2 with h | h
        · exact absurd h.symm hne
        · exact h
    have hslot : ∀ t, (canon l.toArray cs a0 (dl.getD i [])).eval (.tmp t) = look ds cs a0 (dl.getD i []) (.tmp t) := fun t => by
      unfold look
      simp only
      split
      · rename_i k hk
        have hkm := List.mem_of_find?_eq_some hk
        have hkd := List.find?_some hk
        simp only [beq_iff_eq] at hkd
        have hkn := hdl k hkm
        have e : dstOf l.toArray k = some t := by rw [(hdst k hkn).1]; exact hkd
        have := canon_in (ops := l.toArray) cs e (dl.getD i []) a0 hkm (fun j hj hjk => hnd j k (hdl j hj) hkn hjk t e) ((hdst k hkn).2 t e)
        simp only [Act.eval, Array.getD_eq_getD_getElem?, this, Option.getD_some]
      · rename_i hk
        have hno : ∀ k ∈ dl.getD i [], dstOf l.toArray k ≠ some t := fun k hkm e => by
          have := List.find?_eq_none.1 hk k hkm
          rw [(hdst k (hdl k hkm)).1] at e
          rw [e] at this; exact this (by simp)
        have := canon_out (ops := l.toArray) cs (d := t) (dl.getD i []) a0 hno
        simp only [Act.eval, Array.getD_eq_getD_getElem?, this]
    have hex : execOp (canon l.toArray cs a0 (dl.getD i [])).eval o = execOp (look ds cs a0 (dl.getD i [])) o :=
      execOp_congr o (fun c b => Region.noSelect_spec hsel i o c b hoo) fun x _ => by
        cases x with
        | tmp t => exact hslot t
        | _ => rfl
    have hwant : Region.wanted o (yielded l.toArray (canon l.toArray cs a0 (dl.getD i [])).tmps) = wantB o cs := by
      unfold Region.wanted wantB
      cases hgd : o.guard with
      | none => rfl
      | some gb =>
        obtain ⟨g, b⟩ := gb
        have h := hS i (List.mem_range.2 hi)
        rw [hoo] at h
        simp only [Option.bind_some, hgd, Bool.and_eq_true, List.contains_iff_mem] at h
        obtain ⟨hgm, hgs⟩ := h.2
        obtain ⟨t, ht⟩ := Option.isSome_iff_exists.1 hgs
        have hgn := hdl g hgm
        have hv := canon_in (ops := l.toArray) cs ht (dl.getD i []) a0 hgm (fun j hj hjk => hnd j g (hdl j hj) hgn hjk t ht) ((hdst g hgn).2 t ht)
        have hy : yielded l.toArray (canon l.toArray cs a0 (dl.getD i [])).tmps g = match cs g with | .bool x => some x | _ => none := by
          unfold yielded
          unfold dstOf at ht
          simp only [ht, Option.bind_some, hv]
          cases cs g <;> rfl
        simp only [hy]
        cases cs g <;> simp
    unfold StepOk
    rw [hwant]
    by_cases hw : wantB o cs = true
    · rw [if_pos hw] at hst ⊢
      unfold GrowR at hst
      unfold GrowAt
      rw [hex]
      generalize (execOp (look ds cs a0 (dl.getD i [])) o).run P w' = r at hst
      cases r with
      | halt x w'' => exact hst
      | ok nx w'' =>
        cases nx with
        | value v => exact hst
        | skip => exact ⟨hst.1, hst.2.symm⟩
        | enter f args => exact ⟨hst.1, hst.2.mono fun e w3 ⟨h1, h2⟩ => ⟨cs i, h1, h2, rfl⟩⟩
        | _ => exact hst
    · rw [if_neg hw] at hst ⊢
      exact hst.symm
  · rw [canon_congr (V' := cs) _ _ (fun k hk => hs k (List.mem_range.1 hk))]
    exact fin w' hg
def GrowL (P : Program) (o : Oper) (ρ : Operand → Value) (w : World) (Φ : Value → World → Prop) : Prop :=
  match (execOp ρ o).run P w with
  | .ok (.value v) w' => Gr w w' ∧ Φ v w'
  | .ok .skip w' => Gr w w' ∧ Φ undef w'
  | .ok (.enter f args) w' => Gr w w' ∧ Calls P f args w' (fun e w'' => ∃ v, e = .returned v ∧ Gr w' w'' ∧ Φ v w'')
  | _ => False
theorem GrowL.value {o : Oper} {ρ : Operand → Value} {w w' : World} {v : Value} {Φ : Value → World → Prop} (h : (execOp ρ o).run P w = .ok (.value v) w') (hg : Gr w w') (hv : Φ v w') : GrowL P o ρ w Φ := by
  unfold GrowL; rw [h]; exact ⟨hg, hv⟩
theorem GrowL.call {o : Oper} {ρ : Operand → Value} {w : World} {Φ : Value → World → Prop} {f : FuncId} {args : Array Value} (h : (execOp ρ o).run P w = .ok (.enter f args) w) (hc : Calls P f args w (fun e w'' => ∃ v, e = .returned v ∧ Gr w w'' ∧ Φ v w'')) : GrowL P o ρ w Φ := by
  unfold GrowL; rw [h]; exact ⟨Gr.refl _, hc⟩

/-- each operation by what it leaves, which may be told of what the others left -/
def genSteps (P : Program) (ds : List (Option Nat)) (a0 : Act) (w : World) (dl0 : List (List Nat)) (Sp : Nat → List Value → Value → World → Prop) : List Oper → Nat → List (List Nat) → Prop
  | o :: l, i, d :: dl => (∀ (V : Nat → Value) w', Gr w w' → (∀ k ∈ d, Sp k ((dl0.getD k []).map V) (V k) w') → if wantB o V = true then GrowL P o (look ds V a0 d) w' (Sp i (d.map V)) else Sp i (d.map V) undef w') ∧ genSteps P ds a0 w dl0 Sp l (i + 1) dl
  | _, _, _ => True
theorem genSteps_get {ds : List (Option Nat)} {a0 : Act} {w : World} {dl0 : List (List Nat)} {Sp : Nat → List Value → Value → World → Prop} : ∀ (l : List Oper) (i : Nat) (dl : List (List Nat)), genSteps P ds a0 w dl0 Sp l i dl → ∀ (j : Nat) (o : Oper) (d : List Nat), l[j]? = some o → dl[j]? = some d →
    ∀ (V : Nat → Value) w', Gr w w' → (∀ k ∈ d, Sp k ((dl0.getD k []).map V) (V k) w') → if wantB o V = true then GrowL P o (look ds V a0 d) w' (Sp (i + j) (d.map V)) else Sp (i + j) (d.map V) undef w'
  | [], _, _, _, j, o, d, ho, _ => by simp at ho
  | _ :: _, _, [], _, j, o, d, _, hd => by simp at hd
  | o' :: l, i, d' :: dl, h, 0, o, d, ho, hd => by simp at ho hd; subst ho; subst hd; exact h.1
  | o' :: l, i, d' :: dl, h, j + 1, o, d, ho, hd => by
    have := genSteps_get l (i + 1) dl h.2 j o d (by simpa using ho) (by simpa using hd)
    rwa [show i + (j + 1) = i + 1 + j by omega]

/-- **A region by what each of its first operations leaves**, in whatever order. -/
theorem region_gen {id : Nat} {l : List Oper} {w : World} {a0 : Act} {Q : Exit → Act → World → Prop} (n : Nat) (dl : List (List Nat)) (ds : List (Option Nat)) (Sp : Nat → List Value → Value → World → Prop) (hm : P.follows .mixedOrders = true) (hB : shapeB l.toArray n dl = true) (hS : slotsB l.toArray n a0.tmps.size dl ds = true)
    (stable : ∀ i L v w w', Sp i L v w → Gr w w' → Sp i L v w')
    (step : genSteps P ds a0 w dl Sp l 0 dl)
    (fin : ∀ V w', Gr w w' → (∀ k, k < n → Sp k ((dl.getD k []).map V) (V k) w') → wpList P l.toArray Q (l.drop n) (canon l.toArray V a0 (List.range n)) w') :
    (Code.region id l.toArray true).wp P Q a0 w := by
  have hB' := hB
  simp only [shapeB, Bool.and_eq_true, decide_eq_true_eq] at hB'
  obtain ⟨⟨⟨⟨⟨hsel, hn⟩, hdlen⟩, _⟩, hall⟩, _⟩ := hB'
  rw [List.all_eq_true] at hall
  unfold slotsB at hS
  rw [List.all_eq_true] at hS
  have hdst : ∀ i, i < n → dstOf l.toArray i = ds.getD i none ∧ ∀ d, dstOf l.toArray i = some d → d < a0.tmps.size := fun i hi => by
    have h := hS i (List.mem_range.2 hi)
    simp only [Bool.and_eq_true, beq_iff_eq] at h
    refine ⟨h.1.1, fun d hd => ?_⟩
    have h2 := h.1.2
    rw [← h.1.1, hd] at h2
    simpa using h2
  refine region_spec n dl hm hB Sp stable (fun i o V w' ho hi hg hs => ?_) fin
  have hst := genSteps_get l 0 dl step i o (dl.getD i []) ho (by simp [List.getElem?_eq_getElem (show i < dl.length by omega)]) V w' hg hs
  rw [Nat.zero_add] at hst
  have hio := hall i (List.mem_range.2 hi)
  have hoo : l.toArray[i]? = some o := by simpa using ho
  rw [hoo] at hio
  simp only [Bool.and_eq_true, List.all_eq_true] at hio
  obtain ⟨⟨_, h2⟩, h3⟩ := hio
  have hdl : ∀ k ∈ dl.getD i [], k < n := fun k hk => by have := h2 k hk; simp only [Bool.and_eq_true, decide_eq_true_eq] at this; exact this.1
  have hnd : ∀ j k, j < n → k < n → j ≠ k → ∀ d, dstOf l.toArray k = some d → dstOf l.toArray j ≠ some d := fun j k hj hk hne d hd => by
    have h := hall j (List.mem_range.2 hj)
    cases hoj : l.toArray[j]? with
    | none => rw [hoj] at h; cases h
    | some oj =>
      rw [hoj] at h
      simp only [Bool.and_eq_true, List.all_eq_true] at h
      have := h.2 k (List.mem_range.2 hk)
      rw [hd] at this
      simp only [Bool.and_eq_true, Bool.or_eq_true, beq_iff_eq, decide_eq_true_eq] at this
      rcases this.2 with h | h
      · exact absurd h.symm hne
      · exact h
  have hslot : ∀ t, (canon l.toArray V a0 (dl.getD i [])).eval (.tmp t) = look ds V a0 (dl.getD i []) (.tmp t) := fun t => by
    unfold look
    simp only
    split
    · rename_i k hk
      have hkm := List.mem_of_find?_eq_some hk
      have hkd := List.find?_some hk
      simp only [beq_iff_eq] at hkd
      have hkn := hdl k hkm
      have e : dstOf l.toArray k = some t := by rw [(hdst k hkn).1]; exact hkd
      have := canon_in (ops := l.toArray) V e (dl.getD i []) a0 hkm (fun j hj hjk => hnd j k (hdl j hj) hkn hjk t e) ((hdst k hkn).2 t e)
      simp only [Act.eval, Array.getD_eq_getD_getElem?, this, Option.getD_some]
    · rename_i hk
      have hno : ∀ k ∈ dl.getD i [], dstOf l.toArray k ≠ some t := fun k hkm e => by
        have := List.find?_eq_none.1 hk k hkm
        rw [(hdst k (hdl k hkm)).1] at e
        rw [e] at this; exact this (by simp)
      have := canon_out (ops := l.toArray) V (d := t) (dl.getD i []) a0 hno
      simp only [Act.eval, Array.getD_eq_getD_getElem?, this]
  have hex : execOp (canon l.toArray V a0 (dl.getD i [])).eval o = execOp (look ds V a0 (dl.getD i [])) o :=
    execOp_congr o (fun c b => Region.noSelect_spec hsel i o c b hoo) fun x _ => by
      cases x with
      | tmp t => exact hslot t
      | _ => rfl
  have hwant : Region.wanted o (yielded l.toArray (canon l.toArray V a0 (dl.getD i [])).tmps) = wantB o V := by
    unfold Region.wanted wantB
    cases hgd : o.guard with
    | none => rfl
    | some gb =>
      obtain ⟨g, b⟩ := gb
      have h := hS i (List.mem_range.2 hi)
      rw [hoo] at h
      simp only [Option.bind_some, hgd, Bool.and_eq_true, List.contains_iff_mem] at h
      obtain ⟨hgm, hgs⟩ := h.2
      obtain ⟨t, ht⟩ := Option.isSome_iff_exists.1 hgs
      have hgn := hdl g hgm
      have hv := canon_in (ops := l.toArray) V ht (dl.getD i []) a0 hgm (fun j hj hjk => hnd j g (hdl j hj) hgn hjk t ht) ((hdst g hgn).2 t ht)
      have hy : yielded l.toArray (canon l.toArray V a0 (dl.getD i [])).tmps g = match V g with | .bool x => some x | _ => none := by
        unfold yielded
        unfold dstOf at ht
        simp only [ht, Option.bind_some, hv]
        cases V g <;> rfl
      simp only [hy]
      cases V g <;> simp
  unfold StepOk
  rw [hwant]
  by_cases hw : wantB o V = true
  · rw [if_pos hw] at hst ⊢
    unfold GrowL at hst
    unfold GrowAt
    rw [hex]
    exact hst
  · rw [if_neg hw] at hst ⊢
    exact hst
end main
end Go.Proofs.YtadnggecnjdhiaaGreat.Rs
namespace Go.Proofs.YtadnggecnjdhiaaGreat.Rg
set_option linter.unusedSimpArgs false
set_option linter.unusedVariables false
open Go Go.RowKit Go.Proofs.YtadnggecnjdhiaaGreat.Rs
variable {P : Program} {ops : Array Oper}

/-- a way in which worlds may go on -/
structure IsGr (G : World → World → Prop) : Prop where
  refl : ∀ w, G w w
  trans : ∀ {a b c}, G a b → G b c → G a c
  drew : ∀ w : World, G w { w with drawn := w.drawn + 1 }
/-- what an operation leaves, where it only adds to the memory -/
def GrowAt (G : World → World → Prop) (P : Program) (o : Oper) (a : Act) (w : World) (Φ : Value → World → Prop) : Prop :=
  match (execOp a.eval o).run P w with
  | .ok (.value v) w' => G w w' ∧ Φ v w'
  | .ok .skip w' => G w w' ∧ Φ undef w'
  | .ok (.enter f args) w' => G w w' ∧ Calls P f args w' (fun e w'' => ∃ v, e = .returned v ∧ G w' w'' ∧ Φ v w'')
  | _ => False

/-- what is asked of one operation -/
def StepOk (G : World → World → Prop) (P : Program) (ops : Array Oper) (o : Oper) (a : Act) (w : World) (Φ : Value → World → Prop) : Prop :=
  if Region.wanted o (yielded ops a.tmps) = true then GrowAt G P o a w Φ else Φ undef w

section main
variable {n : Nat} {dl : List (List Nat)} {a0 : Act} {w0 : World} {Q : Exit → Act → World → Prop}

structure Inv (G : World → World → Prop) (ops : Array Oper) (n : Nat) (dl : List (List Nat)) (Spec : Nat → List Value → Value → World → Prop) (a0 : Act) (w0 : World) (V : Nat → Value) (listed : Array Bool) (a : Act) (w : World) : Prop where
  head : HeadInv .any ops n listed
  size : a.tmps.size = a0.tmps.size
  defers : a.defers = a0.defers
  slot : ∀ k, k < n → listed.getD k false = true → ∀ d, dstOf ops k = some d → d < a0.tmps.size → a.tmps[d]? = some (V k)
  other : ∀ d, (∀ k, k < n → listed.getD k false = true → dstOf ops k ≠ some d) → a.tmps[d]? = a0.tmps[d]?
  spec : ∀ k, k < n → listed.getD k false = true → Spec k ((dl.getD k []).map V) (V k) w
  gr : G w0 w

theorem Inv.looks {G : World → World → Prop} {Spec : Nat → List Value → Value → World → Prop} {V : Nat → Value} {listed : Array Bool} {a : Act} {w : World} (inv : Inv G ops n dl Spec a0 w0 V listed a w) {i : Nat} {o : Oper} (hi : ops[i]? = some o) (_hin : i < n) (hiu : listed.getD i false = false)
    (hr : ∀ e ∈ o.after, Region.binds .any e = true → listed.getD e.on false = true)
    (hdl : ∀ k ∈ dl.getD i [], k < n ∧ k ∈ depsOf ops n i)
    (hlook : ∀ k, k < n → ∀ d, dstOf ops k = some d → (d ∈ o.looksAt ops → k ∈ dl.getD i [] ∨ i ∈ depsOf ops n k ∨ i = k) ∧ True)
    (hnd : ∀ j k, j < n → k < n → j ≠ k → ∀ d, dstOf ops k = some d → dstOf ops j ≠ some d) :
    ∀ d ∈ o.looksAt ops, a.tmps[d]? = (canon ops V a0 (dl.getD i [])).tmps[d]? := by
  intro d hd
  have hdep : ∀ k ∈ dl.getD i [], listed.getD k false = true := fun k hk => depsOf_listed inv.head.closed n i (fun o' ho' => by rw [hi] at ho'; cases ho'; exact hr) k (hdl k hk).2
  by_cases hlt : d < a0.tmps.size
  · by_cases hex : ∃ k, k ∈ dl.getD i [] ∧ dstOf ops k = some d
    · obtain ⟨k, hk, hkd⟩ := hex
      rw [inv.slot k (hdl k hk).1 (hdep k hk) d hkd hlt, canon_in V hkd _ _ hk (fun j hj hjk => hnd j k (hdl j hj).1 (hdl k hk).1 hjk d hkd) hlt]
    · rw [canon_out V _ _ (fun k hk e => hex ⟨k, hk, e⟩)]
      refine inv.other d (fun k hk hl e => ?_)
      rcases (hlook k hk d e).1 hd with h | h | h
      · exact hex ⟨k, h, e⟩
      · have := depsOf_listed inv.head.closed n k (fun o' ho' e' he' hb' => inv.head.closed k o' ho' hl e' he' hb') i h
        rw [hiu] at this; cases this
      · subst h; rw [hiu] at hl; cases hl
  · have e1 : a.tmps[d]? = none := Array.getElem?_eq_none (by rw [inv.size]; exact Nat.le_of_not_lt hlt)
    have e2 : (canon ops V a0 (dl.getD i [])).tmps[d]? = none := Array.getElem?_eq_none (by rw [size_canon]; exact Nat.le_of_not_lt hlt)
    rw [e1, e2]

theorem Inv.step {G : World → World → Prop} (hG : IsGr G) {Spec : Nat → List Value → Value → World → Prop} {V : Nat → Value} {listed : Array Bool} {a : Act} {w w' : World} (inv : Inv G ops n dl Spec a0 w0 V listed a w) {i : Nat} {o : Oper} {v : Value} (hi : ops[i]? = some o) (hin : i < n) (hiu : listed.getD i false = false)
    (hri : i ∈ Region.ready .any ops listed)
    (hdl : ∀ j, j < n → ∀ k ∈ dl.getD j [], k < n ∧ k ∈ depsOf ops n j)
    (hnd : ∀ j k, j < n → k < n → j ≠ k → ∀ d, dstOf ops k = some d → dstOf ops j ≠ some d)
    (stable : ∀ i L v w w', Spec i L v w → G w w' → Spec i L v w')
    (hg : G w w') (hs : Spec i ((dl.getD i []).map V) v w') :
    Inv G ops n dl Spec a0 w0 (fun k => if k = i then v else V k) (listed.setIfInBounds i true) (a.put o.dst v) w' := by
  have hisz : i < listed.size := by rw [inv.head.size]; exact (Array.getElem?_eq_some_iff.1 hi).1
  have hdst : dstOf ops i = o.dst := by simp [dstOf, hi]
  have hdep : ∀ k, k < n → (k = i ∨ listed.getD k false = true) → ∀ j ∈ dl.getD k [], j ≠ i := fun k hk hkl j hj e => by
    have hm := (hdl k hk j hj).2
    rw [e] at hm
    have : listed.getD i false = true := by
      rcases hkl with rfl | hkl
      · obtain ⟨_, o', ho', hall⟩ := mem_ready.1 hri
        exact depsOf_listed inv.head.closed n k (fun o'' ho'' => by rw [ho'] at ho''; cases ho''; exact hall) k hm
      · exact depsOf_listed inv.head.closed n k (fun o' ho' e' he' hb' => inv.head.closed k o' ho' hkl e' he' hb') i hm
    rw [hiu] at this; cases this
  have hmap : ∀ k, k < n → (k = i ∨ listed.getD k false = true) → (dl.getD k []).map (fun k => if k = i then v else V k) = (dl.getD k []).map V := fun k hk hkl =>
    List.map_congr_left fun j hj => by rw [if_neg (hdep k hk hkl j hj)]
  refine ⟨inv.head.set hri hin, ?_, ?_, fun k hk hl d hd hlt => ?_, fun d hd => ?_, fun k hk hl => ?_, hG.trans inv.gr hg⟩
  · rw [← inv.size]; cases o.dst <;> simp [Act.put]
  · rw [← inv.defers]; cases o.dst <;> rfl
  · by_cases hki : k = i
    · subst hki
      rw [hdst] at hd
      rw [if_pos rfl, hd]
      simp [Act.put, inv.size, hlt]
    · rw [if_neg hki]
      rw [getD_set_ne false (fun e => hki e.symm)] at hl
      rw [← inv.slot k hk hl d hd hlt]
      cases ho : o.dst with
      | none => rfl
      | some d' =>
        simp only [Act.put]
        exact Array.getElem?_setIfInBounds_ne (fun e => hnd i k hin hk (fun e => hki e.symm) d hd (by rw [hdst, ho, e]))
  · have h1 : dstOf ops i ≠ some d := hd i hin (by simp [hisz])
    rw [hdst] at h1
    rw [← inv.other d (fun k hk hl e => by
      by_cases hki : k = i
      · subst hki; exact h1 (by rw [← hdst]; exact e)
      · exact hd k hk (by rw [getD_set_ne false (fun e => hki e.symm)]; exact hl) e)]
    cases ho : o.dst with
    | none => rfl
    | some d' => simp only [Act.put]; exact Array.getElem?_setIfInBounds_ne (fun e => h1 (by rw [ho, e]))
  · by_cases hki : k = i
    · subst hki
      rw [hmap k hk (.inl rfl)]
      simp only [if_true]
      exact hs
    · rw [getD_set_ne false (fun e => hki e.symm)] at hl
      rw [hmap k hk (.inr hl)]
      simp only [if_neg hki]
      exact stable _ _ _ _ _ (inv.spec k hk hl) hg

theorem head_all {G : World → World → Prop} (hG : IsGr G) {Spec : Nat → List Value → Value → World → Prop} (g : Nat)
    (hsel : ∀ (j : Nat) (o : Oper) cs b, ops[j]? = some o → o.op ≠ .select cs b) (hn : n ≤ ops.size)
    (hsink : n = ops.size ∨ (Region.sinkB .any ops n = true ∧ Region.chainB .any ops n = true))
    (hlow : ∀ i, i < n → ∀ o, ops[i]? = some o → ∀ e ∈ o.after, Region.binds .any e = true → e.on < i)
    (hdl : ∀ j, j < n → ∀ k ∈ dl.getD j [], k < n ∧ k ∈ depsOf ops n j)
    (hlook : ∀ i, i < n → ∀ o, ops[i]? = some o → ∀ k, k < n → ∀ d, dstOf ops k = some d → (d ∈ o.looksAt ops → k ∈ dl.getD i [] ∨ i ∈ depsOf ops n k ∨ i = k) ∧ True)
    (hnd : ∀ j k, j < n → k < n → j ≠ k → ∀ d, dstOf ops k = some d → dstOf ops j ≠ some d)
    (stable : ∀ i L v w w', Spec i L v w → G w w' → Spec i L v w')
    (step : ∀ i o V w, ops[i]? = some o → i < n → G w0 w → (∀ k ∈ dl.getD i [], Spec k ((dl.getD k []).map V) (V k) w) → StepOk G P ops o (canon ops V a0 (dl.getD i [])) w (Spec i ((dl.getD i []).map V)))
    (fin : ∀ V listed a w, Inv G ops n dl Spec a0 w0 V listed a w → (∀ k, k < n → listed.getD k false = true) → wpAny P .any ops Q g listed a w) :
    ∀ (f : Nat) (V : Nat → Value) (listed : Array Bool) (a : Act) (w : World), left n listed = f → Inv G ops n dl Spec a0 w0 V listed a w → wpAny P .any ops Q (f + g) listed a w := by
  intro f
  induction f with
  | zero => intro V listed a w hf inv; rw [Nat.zero_add]; exact fin V listed a w inv (left_zero hf)
  | succ f ih =>
    intro V listed a w hf inv
    have hun : ∃ i, i < n ∧ listed.getD i false = false ∧ ∀ j, j < i → listed.getD j false = true := by
      have hex : ∃ i, i < n ∧ listed.getD i false = false := by
        apply Classical.byContradiction
        intro hno
        have : left n listed = 0 := by
          unfold left
          rw [List.length_eq_zero_iff, List.filter_eq_nil_iff]
          intro i hi
          cases hv : listed.getD i false with
          | true => simp
          | false => exact absurd ⟨i, List.mem_range.1 hi, hv⟩ hno
        omega
      obtain ⟨i, h1, h2⟩ := hex
      induction i using Nat.strongRecOn with
      | _ i ihi =>
        by_cases h3 : ∀ j, j < i → listed.getD j false = true
        · exact ⟨i, h1, h2, h3⟩
        · simp only [Classical.not_forall] at h3
          obtain ⟨j, hj, hj2⟩ := h3
          exact ihi j hj (by omega) (by simpa using hj2)
    obtain ⟨i0, hi0, hi0u, hi0m⟩ := hun
    have hready0 : i0 ∈ Region.ready .any ops listed := by
      rw [mem_ready]
      have hlt : i0 < ops.size := by omega
      refine ⟨getD_in (by rw [inv.head.size]; exact hlt) hi0u, ops[i0], Array.getElem?_eq_getElem hlt, fun e he hb => hi0m _ (hlow i0 hi0 _ (Array.getElem?_eq_getElem hlt) e he hb)⟩
    rw [show f + 1 + g = (f + g) + 1 by omega]
    refine ⟨fun h => (by rw [h] at hready0; cases hready0), fun i hi => ?_⟩
    obtain ⟨hiu, o, ho, hall⟩ := mem_ready.1 hi
    have hiu' := getD_both hiu
    have hilt : i < ops.size := (Array.getElem?_eq_some_iff.1 ho).1
    have hin : i < n := by
      rcases hsink with h | ⟨h1, h2⟩
      · omega
      · by_cases hns : n < ops.size
        · rcases Nat.lt_or_ge i n with h | h
          · exact h
          · exact absurd hi (tail_waits h1 h2 hns inv.head _ i0 rfl hi0 (getD_in (by rw [inv.head.size]; omega) hi0u) i h)
        · omega
    have hso := step i o V w ho hin inv.gr (fun k hk => inv.spec k (hdl i hin k hk).1 (depsOf_listed inv.head.closed n i (fun o' ho' => by rw [ho] at ho'; cases ho'; exact hall) k (hdl i hin k hk).2))
    have hlk := inv.looks ho hin hiu' hall (hdl i hin) (hlook i hin o ho) hnd
    have hw := wanted_congr (ops := ops) o hlk
    have hex := exec_congr (ops := ops) o (fun cs b => hsel i o cs b ho) hlk
    have hnext : ∀ v w', G w w' → Spec i ((dl.getD i []).map V) v w' → wpAny P .any ops Q (f + g) (listed.setIfInBounds i true) (a.put o.dst v) w' := fun v w' hg hs =>
      ih _ _ _ _ (by have := left_set (n := n) hin (by rw [inv.head.size]; exact hilt) hiu'; omega) (inv.step hG ho hin hiu' hi hdl hnd stable hg hs)
    unfold StepOk at hso
    rw [← hw] at hso
    unfold wpOp
    simp only [ho]
    by_cases hwt : Region.wanted o (yielded ops a.tmps) = true
    · rw [if_pos hwt] at hso ⊢
      refine .inl ?_
      unfold GrowAt at hso
      unfold Oper.wp
      rw [← hex] at hso
      generalize (execOp a.eval o).run P w = r at hso
      cases r with
      | halt x w' => exact hso.elim
      | ok nx w' =>
        cases nx with
        | value v => exact hnext v w' hso.1 hso.2
        | skip => exact hnext undef w' hso.1 hso.2
        | enter fn args =>
          refine hso.2.mono ?_
          rintro e w'' ⟨v, rfl, h1, h2⟩
          exact hnext v w'' (hG.trans hso.1 h1) h2
        | _ => exact hso.elim
    · rw [if_neg hwt] at hso ⊢
      exact hnext undef w (hG.refl _) hso

/-- **THE REGION**, by what each operation leaves -/
theorem region_spec {G : World → World → Prop} (hG : IsGr G) {id : Nat} {l : List Oper} {w : World} {a0 : Act} {Q : Exit → Act → World → Prop} (n : Nat) (dl : List (List Nat)) (hm : P.follows .mixedOrders = true) (hB : shapeB l.toArray n dl = true)
    (Spec : Nat → List Value → Value → World → Prop) (stable : ∀ i L v w w', Spec i L v w → G w w' → Spec i L v w')
    (step : ∀ i o V w', l[i]? = some o → i < n → G w w' → (∀ k ∈ dl.getD i [], Spec k ((dl.getD k []).map V) (V k) w') → StepOk G P l.toArray o (canon l.toArray V a0 (dl.getD i [])) w' (Spec i ((dl.getD i []).map V)))
    (fin : ∀ V w', G w w' → (∀ k, k < n → Spec k ((dl.getD k []).map V) (V k) w') → wpList P l.toArray Q (l.drop n) (canon l.toArray V a0 (List.range n)) w') :
    (Code.region id l.toArray true).wp P Q a0 w := by
  simp only [shapeB, Bool.and_eq_true, decide_eq_true_eq, Bool.or_eq_true] at hB
  obtain ⟨⟨⟨⟨⟨hsel, hn⟩, hdlen⟩, hsink⟩, hall⟩, hseq⟩ := hB
  rw [List.all_eq_true] at hall
  have hops : ∀ i, i < n → ∃ o, l.toArray[i]? = some o ∧ (∀ e ∈ o.after, Region.binds .any e = true → e.on < i) ∧ (∀ k ∈ dl.getD i [], k < n ∧ k ∈ depsOf l.toArray n i) ∧
      (∀ k, k < n → ∀ d, dstOf l.toArray k = some d → (d ∈ o.looksAt l.toArray → k ∈ dl.getD i [] ∨ i ∈ depsOf l.toArray n k ∨ i = k) ∧ (k ≠ i → dstOf l.toArray i ≠ some d)) := by
    intro i hi
    have h := hall i (List.mem_range.2 hi)
    cases ho : l.toArray[i]? with
    | none => rw [ho] at h; cases h
    | some o =>
      rw [ho] at h
      simp only [Bool.and_eq_true, List.all_eq_true] at h
      obtain ⟨⟨h1, h2⟩, h3⟩ := h
      refine ⟨o, rfl, fun e he hb => ?_, fun k hk => ?_, fun k hk d hd => ?_⟩
      · have := h1 e (by simpa using he)
        rw [hb] at this; simpa using this
      · have := h2 k hk
        simpa using this
      · have := h3 k (List.mem_range.2 hk)
        rw [hd] at this
        simp only [Bool.and_eq_true, Bool.or_eq_true, Bool.not_eq_true', beq_iff_eq, decide_eq_true_eq, List.contains_iff_mem] at this
        refine ⟨fun hm => ?_, fun hne => ?_⟩
        · rcases this.1 with ((h | h) | h) | h
          · rw [show (o.looksAt l.toArray).contains d = true from List.contains_iff_mem.2 hm] at h; cases h
          · exact .inl h
          · exact .inr (.inl h)
          · exact .inr (.inr h)
        · rcases this.2 with h | h
          · exact absurd h hne
          · exact h
  have hnd : ∀ j k, j < n → k < n → j ≠ k → ∀ d, dstOf l.toArray k = some d → dstOf l.toArray j ≠ some d := fun j k hj hk hne d hd => by
    obtain ⟨o, _, _, _, h⟩ := hops j hj
    exact (h k hk d hd).2 (fun e => hne e.symm)
  refine wp_region_any hm ?_
  have inv0 : Inv G l.toArray n dl Spec a0 w (fun _ => undef) (Array.replicate l.toArray.size false) a0 { w with drawn := w.drawn + 1 } :=
    ⟨⟨by simp, fun j oj _ hl => (by rw [getD_replicate_false] at hl; cases hl), fun t _ ht => getD_in (by simpa using ht) (getD_replicate_false _ _)⟩, rfl, rfl,
      fun k _ hl => (by rw [getD_replicate_false] at hl; cases hl), fun _ _ => rfl, fun k _ hl => (by rw [getD_replicate_false] at hl; cases hl), hG.drew _⟩
  have hleft : left n (Array.replicate l.toArray.size false) = n := by
    unfold left
    rw [List.filter_eq_self.2 (fun i _ => by rw [getD_replicate_false]; rfl)]
    simp
  have := head_all hG (P := P) (Q := Q) (Spec := Spec) (dl := dl) (a0 := a0) (w0 := w) (l.toArray.size - n) (Region.noSelect_spec hsel) hn (by rcases hsink with h | h; exact .inl h; exact .inr h)
    (fun i hi o ho e he hb => by obtain ⟨o', ho', h1, _⟩ := hops i hi; rw [ho] at ho'; cases ho'; exact h1 e he hb)
    (fun j hj => by obtain ⟨_, _, _, h, _⟩ := hops j hj; exact h)
    (fun i hi o ho k hk d hd => by obtain ⟨o', ho', _, _, h⟩ := hops i hi; rw [ho] at ho'; cases ho'; exact ⟨(h k hk d hd).1, trivial⟩)
    hnd stable (fun i o V w' ho => step i o V w' (by simpa using ho)) ?_ n _ _ _ _ hleft inv0
  · rwa [show n + (l.toArray.size - n) = l.toArray.size by omega] at this
  · intro V listed a w' inv hl
    have hld : listed = ((List.range l.toArray.size).map (fun i => decide (i < n))).toArray := by
      apply Array.ext
      · rw [inv.head.size]; simp
      · intro i h1 h2
        have hi : i < l.toArray.size := by rw [inv.head.size] at h1; exact h1
        have e2 : ((List.range l.toArray.size).map (fun i => decide (i < n))).toArray[i] = decide (i < n) := by simp
        rw [e2]
        by_cases hin : i < n
        · have := hl i hin
          simp only [hin, decide_true]
          simpa [h1] using this
        · have := inv.head.tail i (by omega) hi
          simp only [hin, decide_false]
          simpa [h1] using this
    have hact : a = canon l.toArray V a0 (List.range n) := by
      have ht : a.tmps = (canon l.toArray V a0 (List.range n)).tmps := by
        apply Array.ext_getElem?
        intro d
        by_cases hlt : d < a0.tmps.size
        · by_cases hex : ∃ k, k < n ∧ dstOf l.toArray k = some d
          · obtain ⟨k, hk, hd⟩ := hex
            rw [inv.slot k hk (hl k hk) d hd hlt, canon_in V hd _ _ (List.mem_range.2 hk) (fun j hj hjk => hnd j k (List.mem_range.1 hj) hk hjk d hd) hlt]
          · rw [inv.other d (fun k hk _ e => hex ⟨k, hk, e⟩), canon_out V _ _ (fun k hk e => hex ⟨k, List.mem_range.1 hk, e⟩)]
        · have e1 : a.tmps[d]? = none := Array.getElem?_eq_none (by rw [inv.size]; exact Nat.le_of_not_lt hlt)
          have e2 : (canon l.toArray V a0 (List.range n)).tmps[d]? = none := Array.getElem?_eq_none (by rw [size_canon]; exact Nat.le_of_not_lt hlt)
          rw [e1, e2]
      have hdf : a.defers = (canon l.toArray V a0 (List.range n)).defers := by rw [inv.defers, defers_canon]
      obtain ⟨t, d⟩ := a
      generalize canon l.toArray V a0 (List.range n) = b at ht hdf
      obtain ⟨t', d'⟩ := b
      dsimp only at ht hdf
      rw [ht, hdf]
    have hf := fin V w' inv.gr (fun k hk => inv.spec k hk (hl k hk))
    rw [← hact] at hf
    have hdl : (l.drop n).length = l.toArray.size - n := by simp
    have hsq := wpAny_of_seq (P := P) (md := .any) (Q' := Q) (l.drop n) n listed a w' (fun j => by simp [List.getElem?_drop]) (by rw [hdl, hld]; exact hseq) hf
    rwa [hdl] at hsq
/-- what an operation's operand holds: the value of an operation that it knows of, else what the slot held -/
def GrowL (G : World → World → Prop) (P : Program) (o : Oper) (ρ : Operand → Value) (w : World) (Φ : Value → World → Prop) : Prop :=
  match (execOp ρ o).run P w with
  | .ok (.value v) w' => G w w' ∧ Φ v w'
  | .ok .skip w' => G w w' ∧ Φ undef w'
  | .ok (.enter f args) w' => G w w' ∧ Calls P f args w' (fun e w'' => ∃ v, e = .returned v ∧ G w' w'' ∧ Φ v w'')
  | _ => False
theorem GrowL.value {G : World → World → Prop} {o : Oper} {ρ : Operand → Value} {w w' : World} {v : Value} {Φ : Value → World → Prop} (h : (execOp ρ o).run P w = .ok (.value v) w') (hg : G w w') (hv : Φ v w') : GrowL G P o ρ w Φ := by
  unfold GrowL; rw [h]; exact ⟨hg, hv⟩
theorem GrowL.call {G : World → World → Prop} (hG : IsGr G) {o : Oper} {ρ : Operand → Value} {w : World} {Φ : Value → World → Prop} {f : FuncId} {args : Array Value} (h : (execOp ρ o).run P w = .ok (.enter f args) w) (hc : Calls P f args w (fun e w'' => ∃ v, e = .returned v ∧ G w w'' ∧ Φ v w'')) : GrowL G P o ρ w Φ := by
  unfold GrowL; rw [h]; exact ⟨hG.refl _, hc⟩

/-- each operation by what it leaves, which may be told of what the others left -/
def genSteps (G : World → World → Prop) (P : Program) (ds : List (Option Nat)) (a0 : Act) (w : World) (dl0 : List (List Nat)) (Sp : Nat → List Value → Value → World → Prop) : List Oper → Nat → List (List Nat) → Prop
  | o :: l, i, d :: dl => (∀ (V : Nat → Value) w', G w w' → (∀ k ∈ d, Sp k ((dl0.getD k []).map V) (V k) w') → if wantB o V = true then GrowL G P o (Rs.look ds V a0 d) w' (Sp i (d.map V)) else Sp i (d.map V) undef w') ∧ genSteps G P ds a0 w dl0 Sp l (i + 1) dl
  | _, _, _ => True
theorem genSteps_get {G : World → World → Prop} {ds : List (Option Nat)} {a0 : Act} {w : World} {dl0 : List (List Nat)} {Sp : Nat → List Value → Value → World → Prop} : ∀ (l : List Oper) (i : Nat) (dl : List (List Nat)), genSteps G P ds a0 w dl0 Sp l i dl → ∀ (j : Nat) (o : Oper) (d : List Nat), l[j]? = some o → dl[j]? = some d →
    ∀ (V : Nat → Value) w', G w w' → (∀ k ∈ d, Sp k ((dl0.getD k []).map V) (V k) w') → if wantB o V = true then GrowL G P o (Rs.look ds V a0 d) w' (Sp (i + j) (d.map V)) else Sp (i + j) (d.map V) undef w'
  | [], _, _, _, j, o, d, ho, _ => by simp at ho
  | _ :: _, _, [], _, j, o, d, _, hd => by simp at hd
  | o' :: l, i, d' :: dl, h, 0, o, d, ho, hd => by simp at ho hd; subst ho; subst hd; exact h.1
  | o' :: l, i, d' :: dl, h, j + 1, o, d, ho, hd => by
    have := genSteps_get l (i + 1) dl h.2 j o d (by simpa using ho) (by simpa using hd)
    rwa [show i + (j + 1) = i + 1 + j by omega]

/-- **A region by what each of its first operations leaves**, in whatever order. -/
theorem region_gen {G : World → World → Prop} (hG : IsGr G) {id : Nat} {l : List Oper} {w : World} {a0 : Act} {Q : Exit → Act → World → Prop} (n : Nat) (dl : List (List Nat)) (ds : List (Option Nat)) (Sp : Nat → List Value → Value → World → Prop) (hm : P.follows .mixedOrders = true) (hB : shapeB l.toArray n dl = true) (hS : slotsB l.toArray n a0.tmps.size dl ds = true)
    (stable : ∀ i L v w w', Sp i L v w → G w w' → Sp i L v w')
    (step : genSteps G P ds a0 w dl Sp l 0 dl)
    (fin : ∀ V w', G w w' → (∀ k, k < n → Sp k ((dl.getD k []).map V) (V k) w') → wpList P l.toArray Q (l.drop n) (canon l.toArray V a0 (List.range n)) w') :
    (Code.region id l.toArray true).wp P Q a0 w := by
  have hB' := hB
  simp only [shapeB, Bool.and_eq_true, decide_eq_true_eq] at hB'
  obtain ⟨⟨⟨⟨⟨hsel, hn⟩, hdlen⟩, _⟩, hall⟩, _⟩ := hB'
  rw [List.all_eq_true] at hall
  unfold slotsB at hS
  rw [List.all_eq_true] at hS
  have hdst : ∀ i, i < n → dstOf l.toArray i = ds.getD i none ∧ ∀ d, dstOf l.toArray i = some d → d < a0.tmps.size := fun i hi => by
    have h := hS i (List.mem_range.2 hi)
    simp only [Bool.and_eq_true, beq_iff_eq] at h
    refine ⟨h.1.1, fun d hd => ?_⟩
    have h2 := h.1.2
    rw [← h.1.1, hd] at h2
    simpa using h2
  refine region_spec hG n dl hm hB Sp stable (fun i o V w' ho hi hg hs => ?_) fin
  have hst := genSteps_get l 0 dl step i o (dl.getD i []) ho (by simp [List.getElem?_eq_getElem (show i < dl.length by omega)]) V w' hg hs
  rw [Nat.zero_add] at hst
  have hio := hall i (List.mem_range.2 hi)
  have hoo : l.toArray[i]? = some o := by simpa using ho
  rw [hoo] at hio
  simp only [Bool.and_eq_true, List.all_eq_true] at hio
  obtain ⟨⟨_, h2⟩, h3⟩ := hio
  have hdl : ∀ k ∈ dl.getD i [], k < n := fun k hk => by have := h2 k hk; simp only [Bool.and_eq_true, decide_eq_true_eq] at this; exact this.1
  have hnd : ∀ j k, j < n → k < n → j ≠ k → ∀ d, dstOf l.toArray k = some d → dstOf l.toArray j ≠ some d := fun j k hj hk hne d hd => by
    have h := hall j (List.mem_range.2 hj)
    cases hoj : l.toArray[j]? with
    | none => rw [hoj] at h; cases h
    | some oj =>
      rw [hoj] at h
      simp only [Bool.and_eq_true, List.all_eq_true] at h
      have := h.2 k (List.mem_range.2 hk)
      rw [hd] at this
      simp only [Bool.and_eq_true, Bool.or_eq_true, beq_iff_eq, decide_eq_true_eq] at this
      rcases this.2 with h | h
      · exact absurd h.symm hne
      · exact h
  have hslot : ∀ t, (canon l.toArray V a0 (dl.getD i [])).eval (.tmp t) = Rs.look ds V a0 (dl.getD i []) (.tmp t) := fun t => by
    unfold Rs.look
    simp only
    split
    · rename_i k hk
      have hkm := List.mem_of_find?_eq_some hk
      have hkd := List.find?_some hk
      simp only [beq_iff_eq] at hkd
      have hkn := hdl k hkm
      have e : dstOf l.toArray k = some t := by rw [(hdst k hkn).1]; exact hkd
      have := canon_in (ops := l.toArray) V e (dl.getD i []) a0 hkm (fun j hj hjk => hnd j k (hdl j hj) hkn hjk t e) ((hdst k hkn).2 t e)
      simp only [Act.eval, Array.getD_eq_getD_getElem?, this, Option.getD_some]
    · rename_i hk
      have hno : ∀ k ∈ dl.getD i [], dstOf l.toArray k ≠ some t := fun k hkm e => by
        have := List.find?_eq_none.1 hk k hkm
        rw [(hdst k (hdl k hkm)).1] at e
        rw [e] at this; exact this (by simp)
      have := canon_out (ops := l.toArray) V (d := t) (dl.getD i []) a0 hno
      simp only [Act.eval, Array.getD_eq_getD_getElem?, this]
  have hex : execOp (canon l.toArray V a0 (dl.getD i [])).eval o = execOp (Rs.look ds V a0 (dl.getD i [])) o :=
    execOp_congr o (fun c b => Region.noSelect_spec hsel i o c b hoo) fun x _ => by
      cases x with
      | tmp t => exact hslot t
      | _ => rfl
  have hwant : Region.wanted o (yielded l.toArray (canon l.toArray V a0 (dl.getD i [])).tmps) = wantB o V := by
    unfold Region.wanted wantB
    cases hgd : o.guard with
    | none => rfl
    | some gb =>
      obtain ⟨g, b⟩ := gb
      have h := hS i (List.mem_range.2 hi)
      rw [hoo] at h
      simp only [Option.bind_some, hgd, Bool.and_eq_true, List.contains_iff_mem] at h
      obtain ⟨hgm, hgs⟩ := h.2
      obtain ⟨t, ht⟩ := Option.isSome_iff_exists.1 hgs
      have hgn := hdl g hgm
      have hv := canon_in (ops := l.toArray) V ht (dl.getD i []) a0 hgm (fun j hj hjk => hnd j g (hdl j hj) hgn hjk t ht) ((hdst g hgn).2 t ht)
      have hy : yielded l.toArray (canon l.toArray V a0 (dl.getD i [])).tmps g = match V g with | .bool x => some x | _ => none := by
        unfold yielded
        unfold dstOf at ht
        simp only [ht, Option.bind_some, hv]
        cases V g <;> rfl
      simp only [hy]
      cases V g <;> simp
  unfold StepOk
  rw [hwant]
  by_cases hw : wantB o V = true
  · rw [if_pos hw] at hst ⊢
    unfold GrowL at hst
    unfold GrowAt
    rw [hex]
    exact hst
  · rw [if_neg hw] at hst ⊢
    exact hst
end main
end Go.Proofs.YtadnggecnjdhiaaGreat.Rg
set_option linter.unusedSimpArgs false
set_option linter.unusedVariables false
namespace Go.Proofs.YtadnggecnjdhiaaGreat
open Go.RowKit Tx
theorem ret_int {k : IntKind} {a b : Int} (h : a = b) : Ending.returned (.int k a) = .returned (.int k b) := by rw [h]
theorem ret_bool {a b : Bool} (h : a = b) : Ending.returned (.bool a) = .returned (.bool b) := by rw [h]

theorem take_snocD {α : Type} {xs : List α} (d : α) {k : Nat} (h : k < xs.length) : xs.take (k + 1) = xs.take k ++ [xs.getD k d] := by
  rw [List.take_succ_eq_append_getElem h]; simp [h]
theorem getD_mem {α : Type} {xs : List α} (d : α) {k : Nat} (h : k < xs.length) : xs.getD k d ∈ xs := by simp [h]
theorem any_snoc {α : Type} {xs : List α} (d : α) {k : Nat} (h : k < xs.length) (p : α → Bool) (h1 : (xs.take k).any p = false) (h2 : p (xs.getD k d) = false) : (xs.take (k + 1)).any p = false := by
  rw [take_snocD d h, List.any_append, h1]; simp only [List.any_cons, h2, List.any_nil, Bool.or_self]
theorem any_hit {α : Type} {xs : List α} (d : α) {k : Nat} (h : k < xs.length) (p : α → Bool) (h2 : p (xs.getD k d) = true) : xs.any p = true := List.any_eq_true.2 ⟨_, getD_mem d h, h2⟩

set_option maxHeartbeats 400000 in
/-- the sum of numbers that aren't great -/
theorem sum_any (xs : List Int) (p : Option Addr) (c : Nat) (w : World) (hl : xs.length ≤ 1000000) (hx : ∀ x ∈ xs, -1000000 ≤ x ∧ x ≤ 1000000) (hi : Ints w p xs) :
    Calls Tryz.prog 125 #[.slice p xs.length c] w fun e w' => e = .returned (.int .i64 (isum xs)) ∧ w = w' := by
  go_enter Tryz.func125, Tryz.ntmps125
  go_wp2
  go_loop [3, 8] (fun s i => ∃ k : Nat, k ≤ xs.length ∧ i = .int .i64 k ∧ s = .int .i64 (isum (xs.take k))) (fun _ i => xs.length - (intOf i).toNat)
  case atStart => exact ⟨0, Nat.zero_le _, rfl, rfl⟩
  case round =>
    obtain ⟨k, hk, rfl, rfl⟩ := hrel
    by_cases hlt : k < xs.length
    · obtain ⟨b, o, x, rfl, hb, hxx, hc⟩ := hi.at hlt
      have hbd := isum_bd (xs.take k) (-1000000) 1000000 (fun y hy => hx y (List.mem_of_mem_take hy))
      have hlk : (xs.take k).length = k := by simp; omega
      have hb1 := hx x (by rw [hxx]; exact getD_mem 0 hlt)
      have hsum : isum (xs.take (k + 1)) = isum (xs.take k) + x := by rw [take_snocD 0 hlt, isum_snoc, hxx]
      have HS := Lib.hid hsum
      rw [hlk] at hbd
      have h1 : -1000000000000 ≤ isum (xs.take k) := by omega
      have h2 : isum (xs.take k) ≤ 1000000000000 := by omega
      clear hsum hlk hxx hbd
      go_wp2
      go_round
      case rel => exact ⟨k + 1, by omega, by go_num, by rw [HS.out]⟩
      case measure => simp [intOf]; omega
    · obtain rfl : k = xs.length := by omega
      go_wp2
      go_ret
      exact ⟨rfl, rfl⟩

/-- a closure can be entered -/
def Entered (F : FuncId) : Prop := ∀ args w, (callFunc F args).run Tryz.prog w = .ok (.enter F args) w

def errIf {α : Type} (p : α → Bool) (xs : List α) (n : Int) : Int := if xs.any p then n else 0
set_option maxHeartbeats 400000 in
theorem errIfW_any (ws : List Word) (p : Option Addr) (c : Nat) (n : Int) (w : World) (hl : ws.length ≤ 1000000) (hi : Wds w p ws) :
    Calls Tryz.prog 76 #[.slice p ws.length c, .func (.func 77) #[] #[], .int .i64 n] w fun e w' => e = .returned (.int .i64 (errIf badWord ws n)) ∧ Below w.heap.size w w' := by
  have HI := Lib.hid hi
  clear hi
  go_enter Tryz.func76, Tryz.ntmps76
  go_wp2
  go_loopw [11] (fun i wr => ∃ k : Nat, k ≤ ws.length ∧ i = .int .i64 k ∧ (ws.take k).any badWord = false ∧ Below w.heap.size w wr) (fun i _ => ws.length - (intOf i).toNat)
  case atStart => exact ⟨0, Nat.zero_le _, rfl, rfl, Below.refl _ _⟩
  case round =>
    obtain ⟨k, hk, rfl, hA, hB⟩ := hrel
    have HA := Lib.hid hA
    clear hA
    by_cases hlt : k < ws.length
    · obtain ⟨b, o, x, rfl, hb, hxx, c1, c2, c3⟩ := (HI.out.below hB).at hlt
      have HX := Lib.hid hxx
      have HB := Lib.hid hB
      clear hxx hB
      cases hbad : badWord x with
      | true =>
        have HBAD := Lib.hid hbad
        clear hbad
        go_wp2_with fail
        refine (badWord_any x _).mono ?_
        rintro e w5 ⟨rfl, hB5⟩
        rw [HBAD.out]
        go_wp2
        go_ret
        exact ⟨by rw [errIf, if_pos (any_hit default hlt _ (by rw [← HX.out]; exact HBAD.out))]; rfl, join HB.out ((below1 _ _).trans (hB5.mono (by simp)))⟩
      | false =>
        have HBAD := Lib.hid hbad
        clear hbad
        go_wp2_with fail
        refine (badWord_any x _).mono ?_
        rintro e w5 ⟨rfl, hB5⟩
        rw [HBAD.out]
        go_wp2
        go_roundw
        case rel => exact ⟨k + 1, by omega, by go_num, any_snoc default hlt _ HA.out (by rw [← HX.out]; exact HBAD.out), join HB.out ((below1 _ _).trans (hB5.mono (by simp)))⟩
        case measure => simp [intOf]; omega
    · obtain rfl : k = ws.length := by omega
      go_wp2
      go_ret
      exact ⟨by have := HA.out; rw [List.take_length] at this; rw [errIf, this]; rfl, hB⟩

/-- a closure that tells a bool of a turn, and writes nothing below -/
def AskT (F : FuncId) (caps : Array Value) (p : Turn → Bool) (w : World) : Prop := ∀ u : Turn, Calls Tryz.prog F (#[.agg #[.int .i64 u.word, .int .i64 u.lo, .int .i64 u.hi]] ++ caps) w fun e w' => e = .returned (.bool (p u)) ∧ Below w.heap.size w w'
set_option maxHeartbeats 400000 in
set_option maxRecDepth 100000 in
theorem errIfT0_any (F : FuncId) (hF : Entered F)  (q : Turn → Bool) (ts : List Turn) (p : Option Addr) (c : Nat) (n : Int) (w : World) (hl : ts.length ≤ 1000000) (hi : Tns w p ts) (hq : ∀ W, Below w.heap.size w W → AskT F #[] q W) :
    Calls Tryz.prog 78 #[.slice p ts.length c, .func (.func F) #[] #[], .int .i64 n] w fun e w' => e = .returned (.int .i64 (errIf q ts n)) ∧ Below w.heap.size w w' := by
  have HI := Lib.hid hi
  have HQ := Lib.hid hq
  clear hi hq
  go_enter Tryz.func78, Tryz.ntmps78
  go_wp2
  go_loopw [11] (fun i wr => ∃ k : Nat, k ≤ ts.length ∧ i = .int .i64 k ∧ (ts.take k).any q = false ∧ Below w.heap.size w wr) (fun i _ => ts.length - (intOf i).toNat)
  case atStart => exact ⟨0, Nat.zero_le _, rfl, rfl, Below.refl _ _⟩
  case round =>
    obtain ⟨k, hk, rfl, hA, hB⟩ := hrel
    have HA := Lib.hid hA
    clear hA
    by_cases hlt : k < ts.length
    · obtain ⟨b, o, x, rfl, hb, hxx, c1, c2, c3⟩ := (HI.out.below hB).at hlt
      have HX := Lib.hid hxx
      have HB := Lib.hid hB
      have HASK := Lib.hid (HQ.out _ (hB.trans ((below1 wr (.cells #[.int .i64 x.word, .int .i64 x.lo, .int .i64 x.hi] 63)).mono hB.size)) x)
      have HF := Lib.hid hF
      clear hxx hB hF
      go_wp2_with fail
      have hF := HF.out
      rw [hF, Oper.upon_enter]
      refine HASK.out.mono ?_
      rintro e w5 ⟨rfl, hB5⟩
      clear HASK
      cases hbad : q x with
      | true =>
        have HBAD := Lib.hid hbad
        clear hbad
        go_wp2
        go_ret
        exact ⟨by rw [errIf, if_pos (any_hit default hlt _ (by rw [← HX.out]; exact HBAD.out))]; rfl, join HB.out ((below1 _ _).trans (hB5.mono (by simp)))⟩
      | false =>
        have HBAD := Lib.hid hbad
        clear hbad
        go_wp2
        go_roundw
        case rel => exact ⟨k + 1, by omega, by go_num, any_snoc default hlt _ HA.out (by rw [← HX.out]; exact HBAD.out), join HB.out ((below1 _ _).trans (hB5.mono (by simp)))⟩
        case measure => simp [intOf]; omega
    · obtain rfl : k = ts.length := by omega
      go_wp2
      go_ret
      exact ⟨by have := HA.out; rw [List.take_length] at this; rw [errIf, this]; rfl, hB⟩
set_option maxHeartbeats 400000 in
set_option maxRecDepth 100000 in
theorem errIfT1_any (F : FuncId) (hF : Entered F) (E : Value) (q : Turn → Bool) (ts : List Turn) (p : Option Addr) (c : Nat) (n : Int) (w : World) (hl : ts.length ≤ 1000000) (hi : Tns w p ts) (hq : ∀ W, Below w.heap.size w W → AskT F #[E] q W) :
    Calls Tryz.prog 78 #[.slice p ts.length c, .func (.func F) #[] #[E], .int .i64 n] w fun e w' => e = .returned (.int .i64 (errIf q ts n)) ∧ Below w.heap.size w w' := by
  have HI := Lib.hid hi
  have HQ := Lib.hid hq
  clear hi hq
  go_enter Tryz.func78, Tryz.ntmps78
  go_wp2
  go_loopw [11] (fun i wr => ∃ k : Nat, k ≤ ts.length ∧ i = .int .i64 k ∧ (ts.take k).any q = false ∧ Below w.heap.size w wr) (fun i _ => ts.length - (intOf i).toNat)
  case atStart => exact ⟨0, Nat.zero_le _, rfl, rfl, Below.refl _ _⟩
  case round =>
    obtain ⟨k, hk, rfl, hA, hB⟩ := hrel
    have HA := Lib.hid hA
    clear hA
    by_cases hlt : k < ts.length
    · obtain ⟨b, o, x, rfl, hb, hxx, c1, c2, c3⟩ := (HI.out.below hB).at hlt
      have HX := Lib.hid hxx
      have HB := Lib.hid hB
      have HASK := Lib.hid (HQ.out _ (hB.trans ((below1 wr (.cells #[.int .i64 x.word, .int .i64 x.lo, .int .i64 x.hi] 63)).mono hB.size)) x)
      have HF := Lib.hid hF
      clear hxx hB hF
      go_wp2_with fail
      have hF := HF.out
      rw [hF, Oper.upon_enter]
      refine HASK.out.mono ?_
      rintro e w5 ⟨rfl, hB5⟩
      clear HASK
      cases hbad : q x with
      | true =>
        have HBAD := Lib.hid hbad
        clear hbad
        go_wp2
        go_ret
        exact ⟨by rw [errIf, if_pos (any_hit default hlt _ (by rw [← HX.out]; exact HBAD.out))]; rfl, join HB.out ((below1 _ _).trans (hB5.mono (by simp)))⟩
      | false =>
        have HBAD := Lib.hid hbad
        clear hbad
        go_wp2
        go_roundw
        case rel => exact ⟨k + 1, by omega, by go_num, any_snoc default hlt _ HA.out (by rw [← HX.out]; exact HBAD.out), join HB.out ((below1 _ _).trans (hB5.mono (by simp)))⟩
        case measure => simp [intOf]; omega
    · obtain rfl : k = ts.length := by omega
      go_wp2
      go_ret
      exact ⟨by have := HA.out; rw [List.take_length] at this; rw [errIf, this]; rfl, hB⟩
end Go.Proofs.YtadnggecnjdhiaaGreat
