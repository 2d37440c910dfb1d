import Derived.Test.YtimedmkpenbmkaaGreatT9
namespace Go.Proofs.YtimedmkpenbmkaaGreat
open Go.RowKit Go.Shelf
set_option linter.unusedSimpArgs false
set_option linter.unusedVariables false

/-! sets of crowds, as numbers -/
theorem wrap_nat {n : Nat} (h : n < 2 ^ 63) : IntKind.wrap .i64 (n : Int) = n := by
  have hb : IntKind.bits .i64 = 64 := rfl
  have hs : IntKind.signed .i64 = true := rfl
  unfold IntKind.wrap
  simp only [hb, hs, Bool.true_and]
  have h1 : ((n : Int) % (2 ^ 64 : Int)) = n := by omega
  rw [h1]
  rw [if_neg (by simp; omega)]
theorem ofInt_nat (n : Nat) : BitVec.ofInt 64 (n : Int) = BitVec.ofNat 64 n := by
  apply BitVec.eq_of_toNat_eq
  simp
theorem run_or {a b : Nat} (ha : a < 2 ^ 63) (hb : b < 2 ^ 63) (t : TypeId) (w : World) : (binOp .or t (.int .i64 a) (.int .i64 b)).run Tryz.prog w = .ok (.int .i64 ((a ||| b : Nat) : Int)) w := by
  have hor : a ||| b < 2 ^ 63 := Nat.or_lt_two_pow ha hb
  have h2 : (BitVec.ofNat 64 a ||| BitVec.ofNat 64 b).toNat = a ||| b := by
    rw [BitVec.toNat_or, BitVec.toNat_ofNat, BitVec.toNat_ofNat, Nat.mod_eq_of_lt (by omega), Nat.mod_eq_of_lt (by omega)]
  have h3 := wrap_nat hor
  have h4 : (binOp .or t (.int .i64 a) (.int .i64 b)).run Tryz.prog w = .ok (.int .i64 (IntKind.wrap .i64 ((BitVec.ofInt 64 (a : Int) ||| BitVec.ofInt 64 (b : Int)).toNat : Int))) w := rfl
  rw [h4, ofInt_nat, ofInt_nat, h2, h3]
theorem run_and {a b : Nat} (ha : a < 2 ^ 63) (hb : b < 2 ^ 63) (t : TypeId) (w : World) : (binOp .and t (.int .i64 a) (.int .i64 b)).run Tryz.prog w = .ok (.int .i64 ((a &&& b : Nat) : Int)) w := by
  have hor : a &&& b < 2 ^ 63 := Nat.lt_of_le_of_lt Nat.and_le_left ha
  have h2 : (BitVec.ofNat 64 a &&& BitVec.ofNat 64 b).toNat = a &&& b := by
    rw [BitVec.toNat_and, BitVec.toNat_ofNat, BitVec.toNat_ofNat, Nat.mod_eq_of_lt (by omega), Nat.mod_eq_of_lt (by omega)]
  have h3 := wrap_nat hor
  have h4 : (binOp .and t (.int .i64 a) (.int .i64 b)).run Tryz.prog w = .ok (.int .i64 (IntKind.wrap .i64 ((BitVec.ofInt 64 (a : Int) &&& BitVec.ofInt 64 (b : Int)).toNat : Int))) w := rfl
  rw [h4, ofInt_nat, ofInt_nat, h2, h3]
theorem run_shl {i : Nat} (hi : i < 63) (t : TypeId) (w : World) : (binOp .shl t (.int .i64 1) (.int .i64 (i : Int))).run Tryz.prog w = .ok (.int .i64 ((2 ^ i : Nat) : Int)) w := by
  have h3 : IntKind.wrap .i64 ((2 ^ i : Nat) : Int) = ((2 ^ i : Nat) : Int) := wrap_nat (Nat.pow_lt_pow_right (by omega) hi)
  have hn : min (i : Int).toNat (IntKind.bits .i64) = i := by
    have : IntKind.bits .i64 = 64 := rfl
    omega
  simp only [binOp, Op.shift]
  rw [if_neg (by omega)]
  simp only [hn]
  rw [show (1 : Int) * 2 ^ i = ((2 ^ i : Nat) : Int) by rw [Int.one_mul]; exact (Int.natCast_pow 2 i).symm, h3]
  rfl

/-- the set of the first k crowds that hear a stand -/
def srv (cs : List Crowd) (s : Nat) : Nat → Nat
  | 0 => 0
  | k + 1 => if ((cs.getD k ([], 0)).1.getD s false) then srv cs s k ||| 2 ^ k else srv cs s k
def srvs (cs : List Crowd) : List Nat := (List.range 30).map fun s => srv cs s cs.length
/-- how many houses the first k crowds have that are in a set -/
def mny (cs : List Crowd) (set : Nat) : Nat → Int
  | 0 => 0
  | k + 1 => if set &&& 2 ^ k ≠ 0 then mny cs set k + (cs.getD k ([], 0)).2 else mny cs set k
def bump (best thn : List Int) : List Int := best.head?.toList ++ List.zipWith max best.tail thn
/-- the memo's numbers, with so much fuel -/
def mst (cs : List Crowd) : Nat → Nat → List Int
  | 0, set => List.replicate 11 (mny cs set cs.length)
  | n + 1, set => (srvs cs).foldl (fun best m => if set ||| m = set then best else bump best (mst cs n (set ||| m))) (List.replicate 11 (mny cs set cs.length))

theorem srv_lt (cs : List Crowd) (s : Nat) : ∀ k, srv cs s k < 2 ^ k
  | 0 => by simp [srv]
  | k + 1 => by
    have h := srv_lt cs s k
    have h1 : srv cs s k < 2 ^ (k + 1) := Nat.lt_of_lt_of_le h (Nat.pow_le_pow_right (by omega) (by omega))
    rw [srv]
    split
    · exact Nat.or_lt_two_pow h1 (Nat.pow_lt_pow_right (by omega) (by omega))
    · exact h1
theorem srvs_lt (cs : List Crowd) : ∀ m ∈ srvs cs, m < 2 ^ cs.length := fun m hm => by
  unfold srvs at hm
  obtain ⟨s, _, rfl⟩ := List.mem_map.1 hm
  exact srv_lt _ _ _
theorem srvs_len (cs : List Crowd) : (srvs cs).length = 30 := by unfold srvs; simp
/-- what crowds must keep -/
structure CrOk (cs : List Crowd) : Prop where
  row : ∀ c ∈ cs, c.1.length = 30
  bd : ∀ c ∈ cs, 0 ≤ c.2 ∧ c.2 ≤ 30
  len : cs.length ≤ 30
theorem CrowdsOk.cr {cs : List Crowd} {k : Nat} (h : CrowdsOk cs k) (hk : k ≤ 30) : CrOk cs := ⟨h.row, fun c hc => by have := h.bd c hc; omega, Nat.le_trans h.len hk⟩
theorem mny_bd {cs : List Crowd} (h : CrOk cs) (set : Nat) : ∀ k, k ≤ cs.length → 0 ≤ mny cs set k ∧ mny cs set k ≤ 30 * k
  | 0, _ => by simp [mny]
  | k + 1, hk => by
    obtain ⟨a, b⟩ := mny_bd h set k (by omega)
    have hc := h.bd (cs.getD k ([], 0)) (by rw [List.getD_eq_getElem?_getD, List.getElem?_eq_getElem (by omega)]; simp)
    rw [mny]
    split <;> omega
theorem bump_len {best thn : List Int} (h : best.length = 11) (h2 : thn.length = 11) : (bump best thn).length = 11 := by
  match best, h with
  | b :: r, h => simp [bump] at h ⊢; omega
theorem fold_inv {α β : Type} (p : β → Prop) (f : β → α → β) : ∀ (l : List α) (b : β), p b → (∀ b a, a ∈ l → p b → p (f b a)) → p (l.foldl f b)
  | [], b, h, _ => h
  | a :: l, b, h, hs => fold_inv p f l _ (hs b a (by simp) h) (fun b' a' ha hb => hs b' a' (by simp [ha]) hb)
theorem mst_len (cs : List Crowd) : ∀ n set, (mst cs n set).length = 11
  | 0, set => by simp [mst]
  | n + 1, set => by
    rw [mst]
    refine fold_inv (fun b : List Int => b.length = 11) _ _ _ (by simp) fun b m _ hb => ?_
    split
    · exact hb
    · exact bump_len hb (mst_len cs n _)
theorem mem_bump {best thn : List Int} {x : Int} (h : x ∈ bump best thn) : x ∈ best ∨ x ∈ thn := by
  unfold bump at h
  rcases List.mem_append.1 h with h | h
  · left; cases best <;> simp at h ⊢; exact .inl h
  · obtain ⟨i, hi, he⟩ := List.getElem_of_mem h
    simp only [List.getElem_zipWith] at he
    rw [List.length_zipWith] at hi
    subst he
    have hi1 : i < best.tail.length := by omega
    have hi2 : i < thn.length := by omega
    rcases Int.le_total best.tail[i] thn[i] with h1 | h1
    · right; rw [Int.max_eq_right h1]; exact List.getElem_mem _
    · left; rw [Int.max_eq_left h1]; exact List.mem_of_mem_tail (List.getElem_mem _)
theorem mst_bd {cs : List Crowd} (h : CrOk cs) : ∀ n set, ∀ x ∈ mst cs n set, 0 ≤ x ∧ x ≤ 900
  | 0, set => fun x hx => by
    have := mny_bd h set cs.length (Nat.le_refl _)
    have := h.len
    rw [mst] at hx; rw [List.eq_of_mem_replicate hx]; omega
  | n + 1, set => by
    rw [mst]
    refine fold_inv (fun b : List Int => ∀ x ∈ b, 0 ≤ x ∧ x ≤ 900) _ _ _ (fun x hx => ?_) fun b m _ hb => ?_
    · have := mny_bd h set cs.length (Nat.le_refl _)
      have := h.len
      rw [List.eq_of_mem_replicate hx]; omega
    · split
      · exact hb
      · intro x hx
        rcases mem_bump hx with h1 | h1
        · exact hb x h1
        · exact mst_bd h n _ x h1
/-- how many crowds are not in a set -/
def missing (cs : List Crowd) (set : Nat) : Nat := ((List.range cs.length).filter fun i => !set.testBit i).length
theorem missing_lt {cs : List Crowd} {set m : Nat} (hm : m < 2 ^ cs.length) (hne : set ||| m ≠ set) : missing cs (set ||| m) < missing cs set := by
  obtain ⟨i, hi⟩ : ∃ i, (set ||| m).testBit i ≠ set.testBit i := by
    false_or_by_contra
    rename_i hn
    exact hne (Nat.eq_of_testBit_eq fun i => by
      false_or_by_contra
      rename_i h2
      exact hn ⟨i, h2⟩)
  rw [Nat.testBit_or] at hi
  have hs : set.testBit i = false := by cases h : set.testBit i <;> simp_all
  have hmi : m.testBit i = true := by rw [hs] at hi; simpa using hi
  have hil : i < cs.length := by
    false_or_by_contra
    rename_i h
    rw [Nat.testBit_lt_two_pow (Nat.lt_of_lt_of_le hm (Nat.pow_le_pow_right (by omega) (by omega)))] at hmi
    cases hmi
  unfold missing
  have key : ∀ l : List Nat, i ∈ l → (l.filter fun j => !(set ||| m).testBit j).length < (l.filter fun j => !set.testBit j).length := by
    intro l
    induction l with
    | nil => intro h; cases h
    | cons a l ih =>
      intro h
      have hle : ∀ l : List Nat, (l.filter fun j => !(set ||| m).testBit j).length ≤ (l.filter fun j => !set.testBit j).length := by
        intro l
        induction l with
        | nil => simp
        | cons b l ih2 =>
          simp only [List.filter_cons, Nat.testBit_or]
          cases set.testBit b <;> cases m.testBit b <;> simp [Nat.testBit_or] at ih2 ⊢ <;> omega
      by_cases ha : a = i
      · subst ha
        have := hle l
        simp only [List.filter_cons, Nat.testBit_or, hs, hmi]
        simp [Nat.testBit_or] at this ⊢; omega
      · have := ih (by simpa [Ne.symm ha] using h)
        simp only [List.filter_cons, Nat.testBit_or] at this ⊢
        cases set.testBit a <;> cases m.testBit a <;> simp [Nat.testBit_or] at this ⊢ <;> omega
  exact key _ (List.mem_range.2 hil)
/-- more fuel tells the same -/
theorem mst_stable (cs : List Crowd) : ∀ n k set, missing cs set ≤ n → missing cs set ≤ k → mst cs n set = mst cs k set := by
  have full : ∀ set, missing cs set = 0 → ∀ m ∈ srvs cs, set ||| m = set := fun set h m hm => by
    false_or_by_contra
    rename_i hn
    have := missing_lt (srvs_lt cs m hm) hn
    omega
  have foldSame : ∀ (l : List Nat) (set : Nat) (b : List Int) (f : Nat → List Int), (∀ m ∈ l, set ||| m = set) → l.foldl (fun best m => if set ||| m = set then best else bump best (f m)) b = b := by
    intro l
    induction l with
    | nil => intros; rfl
    | cons a l ih => intro set b f h; rw [List.foldl_cons, if_pos (h a (by simp)), ih set b f (fun m hm => h m (by simp [hm]))]
  have foldCongr : ∀ (l : List Nat) (set : Nat) (b : List Int) (f g : Nat → List Int), (∀ m ∈ l, set ||| m ≠ set → f m = g m) → l.foldl (fun best m => if set ||| m = set then best else bump best (f m)) b = l.foldl (fun best m => if set ||| m = set then best else bump best (g m)) b := by
    intro l
    induction l with
    | nil => intros; rfl
    | cons a l ih =>
      intro set b f g h
      rw [List.foldl_cons, List.foldl_cons]
      by_cases ha : set ||| a = set
      · rw [if_pos ha, if_pos ha]; exact ih set b f g (fun m hm => h m (by simp [hm]))
      · rw [if_neg ha, if_neg ha, h a (by simp) ha]; exact ih set _ f g (fun m hm => h m (by simp [hm]))
  intro n
  induction n with
  | zero =>
    intro k set h0 hk
    cases k with
    | zero => rfl
    | succ k => rw [mst, mst, foldSame _ _ _ (fun m => mst cs k (set ||| m)) (full set (by omega))]
  | succ n ih =>
    intro k set hn hk
    cases k with
    | zero => rw [mst, mst, foldSame _ _ _ (fun m => mst cs n (set ||| m)) (full set (by omega))]
    | succ k =>
      rw [mst, mst]
      refine foldCongr _ _ _ (fun m => mst cs n (set ||| m)) (fun m => mst cs k (set ||| m)) fun m hm hne => ?_
      have := missing_lt (srvs_lt cs m hm) hne
      exact ih k _ (by omega) (by omega)
theorem missing_le (cs : List Crowd) (set : Nat) : missing cs set ≤ cs.length := by
  unfold missing; have := List.length_filter_le (fun i => !set.testBit i) (List.range cs.length); simpa using this
end Go.Proofs.YtimedmkpenbmkaaGreat

namespace Go.Proofs.YtimedmkpenbmkaaGreat
open Go.RowKit Go.Shelf
set_option linter.unusedSimpArgs false
set_option linter.unusedVariables false

def setV (f : Nat → Nat) : Array Value := ((List.range 30).map fun s => Value.int .i64 (f s : Nat)).toArray
theorem setV_size (f : Nat → Nat) : (setV f).size = 30 := by simp [setV]
theorem setV_get (f : Nat → Nat) {j : Nat} (hj : j < 30) : (setV f)[j]? = some (.int .i64 (f j : Nat)) := by simp [setV, hj]
theorem setV_congr {f g : Nat → Nat} (h : ∀ s, s < 30 → f s = g s) : setV f = setV g := by
  unfold setV; congr 1; apply List.map_congr_left; intro s hs; rw [h s (List.mem_range.1 hs)]
theorem setV_set {f g : Nat → Nat} {j : Nat} (hj : j < 30) {n : Nat} (hn : g j = n) (h : ∀ s, s < 30 → s ≠ j → g s = f s) : (setV f).setIfInBounds j (.int .i64 (n : Nat)) = setV g := by
  apply Array.ext_getElem?
  intro i
  rw [Array.getElem?_setIfInBounds]
  by_cases hi : i < 30
  · by_cases hji : j = i
    · subst hji; rw [if_pos rfl, if_pos (by rw [setV_size]; exact hj), setV_get _ hj, hn]
    · rw [if_neg hji, setV_get _ hi, setV_get _ hi, h i hi (Ne.symm hji)]
  · rw [if_neg (by omega), Array.getElem?_eq_none (by rw [setV_size]; omega), Array.getElem?_eq_none (by rw [setV_size]; omega)]
theorem setV_one (f : Nat → Nat) : (setV f).all (·.oneCell') = true := by
  unfold setV; rw [Array.all_eq_true]; intro i hi; simp; rfl
theorem setV_zero : setV (fun _ => 0) = Array.replicate 30 (.int .i64 0) := by
  apply Array.ext_getElem?
  intro j
  by_cases hj : j < 30
  · rw [setV_get _ hj]; simp [hj]
  · rw [Array.getElem?_eq_none (by rw [setV_size]; omega)]; simp [hj]

/-- crowds, as an argument -/
def CrIn (w : World) (ob : Option Addr) (cs : List Crowd) : Prop := ∀ k c, cs[k]? = some c → ∃ g, ob = some ⟨g, 0, none⟩ ∧ g < w.heap.size ∧ w.rangeAt g (k * 31) (crowdRow c)
theorem CrIn.below {w w' : World} {B : Nat} {ob : Option Addr} {cs : List Crowd} (h : CrIn w ob cs) (hB : Below B w w') (hb : ∀ g, ob = some ⟨g, 0, none⟩ → g < B) : CrIn w' ob cs := fun k c hc => by
  obtain ⟨g, h1, h2, h3⟩ := h k c hc
  exact ⟨g, h1, Nat.lt_of_lt_of_le h2 hB.size, fun j u hu => (World.cell?_of_block (a := ⟨g, k * 31 + j, none⟩) (hB.block g (hb g h1))).trans (h3 j u hu)⟩
theorem CrIn.of_own {w : World} {base : Nat} {ob : Option Addr} {cap : Nat} {cs : List Crowd} (hr : ∀ c ∈ cs, c.1.length = 30) (h : w.ownsRow base 181 31 (.slice ob cs.length cap) cs.length (cs.flatMap crowdRow)) : CrIn w ob cs := fun k c hc => by
  rcases own_rows (fun c hc => crowdRow_len (hr c hc)) h with ⟨h1, _⟩ | ⟨g, cp, h1, hb, h2⟩
  · subst h1; simp at hc
  · injection h1 with e1 _ _; exact ⟨g, e1, h2.1, h2.2 k c hc⟩

theorem und171 : Tryz.prog.underlying 160 = some (.array 30 3) := by kernel_rfl
theorem size171 : (Tryz.prog.info? 160).map (·.size) = some 30 := by kernel_rfl
theorem und192' : ∃ f, Tryz.prog.underlying 181 = some (.struct f) := ⟨_, und192⟩
theorem size192 : (Tryz.prog.info? 181).map (·.size) = some 31 := by kernel_rfl
theorem siz4 (w : World) : (sizeOf 4).run Tryz.prog w = .ok 1 w := by kernel_rfl
theorem agg3 (w : World) : (isAgg 3).run Tryz.prog w = .ok false w := by kernel_rfl
theorem siz3 (w : World) : (sizeOf 3).run Tryz.prog w = .ok 1 w := by kernel_rfl

/-- the loop of served is at crowd k and stand j -/
def srvAt (cs : List Crowd) (k j : Nat) (s : Nat) : Nat := if s < j then srv cs s (k + 1) else srv cs s k

theorem srvAt_ne (cs : List Crowd) (k : Nat) {j s : Nat} (hs : s ≠ j) : srvAt cs k (j + 1) s = srvAt cs k j s := by
  unfold srvAt
  by_cases h : s < j
  · rw [if_pos h, if_pos (by omega)]
  · rw [if_neg h, if_neg (by omega)]

set_option maxHeartbeats 2000000 in
set_option maxRecDepth 100000 in
theorem served_any (ob : Option Addr) (cap : Nat) (cs : List Crowd) (hok : CrOk cs) (w : World) (hI : CrIn w ob cs) :
    Calls Tryz.prog 118 #[.slice ob cs.length cap] w fun e w' => e = .returned (.agg (setV fun s => srv cs s cs.length)) ∧ Below w.heap.size w w' := by
  have HI := Lib.hid hI
  have HOK := Lib.hid hok
  have hl30 := hok.len
  have hrow0 : ∀ o1 R, ((w.alloc o1).alloc (.cells R 160)).heap[w.heap.size + 1]? = some (.cells R 160 (0, 0)) := fun o1 R => by
    have := heap_alloc_last (w.alloc o1) (.cells R 160); simpa using this
  have hbox0 : ∀ R o2, ((w.alloc (.cells R 160)).alloc o2).heap[w.heap.size]? = some (.cells R 160 (0, 0)) := fun cs o2 => by
    rw [Below.heap_alloc _ _ _ (by simp)]; exact heap_alloc_last _ _
  have hbl0 : ∀ o1 o2, Below w.heap.size w ((w.alloc o1).alloc o2) := fun _ _ => al (al (Below.refl _ _) _) _
  clear hI hok
  go_enter Tryz.func118, Tryz.ntmps118
  go_wp2_with fail
  go_loopg [4, 5, 6, 7, 10] cs.length (fun gk a b c d i wr => ∃ k : Nat, gk + k = cs.length ∧ i = .int .i64 k ∧ wr.heap[w.heap.size + 1]? = some (.cells (setV fun s => srv cs s k) 160 (0, 0)) ∧ wr.heap[w.heap.size]? = some (.cells (Array.replicate 30 (.int .i64 0)) 160 (0, 0)) ∧ Below w.heap.size w wr)
  case atStart => exact ⟨0, by omega, rfl, by rw [show (fun s => srv cs s 0) = fun _ => 0 from rfl, setV_zero]; exact hrow0 _ _, hbox0 _ _, hbl0 _ _⟩
  case round =>
    clear hrow0 hbox0 hbl0
    obtain ⟨wo, rfl⟩ : ∃ wo : World, wo = wr := ⟨_, rfl⟩
    obtain ⟨go, rfl⟩ : ∃ x : Nat, x = gk := ⟨_, rfl⟩
    obtain ⟨k, hk, rfl, hrow, hres, hB⟩ := hrel
    have HROW := Lib.hid hrow
    have HRES := Lib.hid hres
    have HB := Lib.hid hB
    have hzo := hB.size
    have hslt : w.heap.size + 1 < wo.heap.size := (Array.getElem?_eq_some_iff.1 hrow).1
    by_cases hlt : k < cs.length
    · obtain ⟨c, hc⟩ : ∃ c, cs[k]? = some c := ⟨_, List.getElem?_eq_getElem hlt⟩
      have hc30 := HOK.out.row c (List.mem_of_getElem? hc)
      obtain ⟨g, rfl, hg, hrg⟩ := HI.out k c hc
      have hlt' : (k : Int) < cs.length := by omega
      have hcd : cs.getD k ([], 0) = c := by rw [List.getD_eq_getElem?_getD, hc]; rfl
      have hrg2 : wo.rangeAt g (k * 31) (crowdRow c) := fun q v hv => (World.cell?_of_block (a := ⟨g, k * 31 + q, none⟩) (hB.block g hg)).trans (hrg q v hv)
      have hgo : g < wo.heap.size := by omega
      obtain ⟨row, hrw⟩ : ∃ row, row = crowdRow c := ⟨_, rfl⟩
      rw [← hrw] at hrg2
      have hsz : (Tryz.prog.info? 181).map (·.size) = some row.length := by rw [hrw, crowdRow_len hc30]; exact size192
      have hsz2 : (Tryz.prog.info? 181).map (·.size) = some row.toArray.size := by rw [hrw, List.size_toArray, crowdRow_len hc30]; exact size192
      have hsz3 : row.toArray.size = 31 := by rw [hrw, List.size_toArray, crowdRow_len hc30]
      have hone : row.toArray.all (·.oneCell') = true := by
        rw [hrw, Array.all_eq_true]; intro i hi
        have : (crowdRow c).toArray[i] ∈ crowdRow c := by simp
        unfold crowdRow at this
        rcases List.mem_append.1 this with h | h
        · obtain ⟨b', _, hb⟩ := List.mem_map.1 h; rw [show (crowdRow c).toArray[i] = _ from hb.symm]; rfl
        · rw [show (crowdRow c).toArray[i] = _ from List.mem_singleton.1 h]; rfl
      have HRG := Lib.hid hrg2
      have HSZ := Lib.hid hsz
      have HSZ2 := Lib.hid hsz2
      have HSZ3 := Lib.hid hsz3
      have HON := Lib.hid hone
      have HRW := Lib.hid hrw
      have HCD := Lib.hid hcd
      have hes : (wo.alloc (.cells row.toArray 181)).rangeAt wo.heap.size 0 (c.1.map Value.bool) := fun q v hv => by
        rw [cell_of_row _ _ _ _ _ _ (heap_alloc_last _ _), hrw, List.getElem?_toArray, Nat.zero_add]
        unfold crowdRow; rw [List.getElem?_append_left (by have := (List.getElem?_eq_some_iff.1 hv).1; simpa using this)]; exact hv
      have HES := Lib.hid hes
      have hsc : (Tryz.prog.info? 124).map (·.size) = some (c.1.map Value.bool).length := by rw [List.length_map, hc30]; exact size128
      have HSC := Lib.hid hsc
      have hR1 : (wo.alloc (.cells row.toArray 181)).heap[w.heap.size + 1]? = some (.cells (setV (srvAt cs k 0)) 160 (0, 0)) := by
        rw [Below.heap_alloc _ _ _ hslt, hrow, show srvAt cs k 0 = fun s => srv cs s k from by funext s; unfold srvAt; rw [if_neg (by omega)]]
      have hR2 : (wo.alloc (.cells row.toArray 181)).heap[w.heap.size]? = some (.cells (Array.replicate 30 (.int .i64 0)) 160 (0, 0)) := by
        rw [Below.heap_alloc _ _ _ (by omega), hres]
      have HR1 := Lib.hid hR1
      have HR2 := Lib.hid hR2
      have HB1 := Lib.hid (al hB (.cells row.toArray 181))
      clear hc hrg hrow hres hB hcd hrg2 hrw hsz hsz2 hsz3 hone hes hsc hR1 hR2 HROW HRES HB
      go_wp2_with (first
        | (with_reducible refine wpList_load_mid rfl 181 _ rfl g (k * 31) rfl row _ HRG.out und192 rfl HSZ.out ?_)
        | (with_reducible refine wpList_store_new rfl 181 _ _ rfl _ row.toArray rfl rfl HSZ2.out ?hs HON.out ?_)
        | (with_reducible refine wpList_load_mid rfl 124 _ rfl wo.heap.size 0 rfl (c.1.map Value.bool) _ HES.out und128 rfl HSC.out ?_))
      case hs => exact (Hid.out HSZ3).symm
      obtain ⟨A, hA⟩ : ∃ A, A = (c.1.map Value.bool).toArray := ⟨_, rfl⟩
      rw [← hA]
      have HA := Lib.hid hA
      clear hA
      go_loopg [6, 7, 17] 30 (fun gk2 a b i wi => ∃ j : Nat, gk2 + j = 30 ∧ i = .int .i64 j ∧ wi.heap[w.heap.size + 1]? = some (.cells (setV (srvAt cs k j)) 160 (0, 0)) ∧ wi.heap[w.heap.size]? = some (.cells (Array.replicate 30 (.int .i64 0)) 160 (0, 0)) ∧ Below w.heap.size w wi)
      case atStart => exact ⟨0, by omega, rfl, HR1.out, HR2.out, HB1.out⟩
      case round =>
        clear HR1 HR2 HB1
        obtain ⟨j, hj, rfl, hrow, hres, hB⟩ := hrel
        have HROW := Lib.hid hrow
        have HRES := Lib.hid hres
        have HB := Lib.hid hB
        have hslt2 : w.heap.size + 1 < wr.heap.size := (Array.getElem?_eq_some_iff.1 hrow).1
        by_cases hjl : j < 30
        · obtain ⟨q, hq⟩ : ∃ q, c.1.getD j false = q := ⟨_, rfl⟩
          have hAj : A[j]? = some (.bool q) := by
            rw [HA.out, List.getElem?_toArray, List.getElem?_map, List.getElem?_eq_getElem (by omega), ← hq, List.getD_eq_getElem?_getD, List.getElem?_eq_getElem (by omega)]; rfl
          have hidx := fun W => idx_arr und128 agg4 siz4 hjl hAj W
          have hjl' : (j : Int) < 30 := by omega
          have hcell : wr.cell? ⟨w.heap.size + 1, j, none⟩ = some (.int .i64 (srv cs j k : Nat)) := by
            rw [cell_of_row _ _ _ _ _ _ hrow, setV_get _ hjl]; unfold srvAt; rw [if_neg (by omega)]
          have hfz := frozen_of_row wr (w.heap.size + 1) j _ 160 hrow
          have hq2 : (q = true → srv cs j (k + 1) = srv cs j k ||| 2 ^ k) ∧ (q = false → srv cs j (k + 1) = srv cs j k) := by rw [srv, HCD.out, hq]; exact ⟨fun h => by rw [h]; rfl, fun h => by rw [h]; rfl⟩
          have HQ := Lib.hid hq2
          have HC := Lib.hid hcell
          have hs1 := srv_lt cs j k
          have hsb : srv cs j k < 2 ^ 63 := Nat.lt_of_lt_of_le hs1 (Nat.pow_le_pow_right (by omega) (by omega))
          have hkb : 2 ^ k < 2 ^ 63 := Nat.pow_lt_pow_right (by omega) (by omega)
          have HSB := Lib.hid hsb
          have HKB := Lib.hid hkb
          clear hq hAj hrow hres hB hq2 hcell hs1 hsb hkb
          cases q with
          | true =>
            go_wp2_with fail
            refine Rs.region_det 7 [[], [0], [0, 1], [], [3], [0, 1, 2, 3, 4], [0, 1, 2, 3, 4, 5]] [some 22, some 23, some 24, some 25, some 26, some 27, some 28]
              (fun i => [.int .i64 j, .pointer (some ⟨w.heap.size + 1, j, none⟩), .int .i64 (srv cs j k : Nat), .int .i64 k, .int .i64 (2 ^ k : Nat), .int .i64 (srv cs j k ||| 2 ^ k : Nat), .pointer (some ⟨w.heap.size + 1, j, none⟩)].getD i undef) (by kernel_rfl) (by kernel_rfl) rfl ?_ ?_
            · refine ⟨.plain rfl ?_, .plain rfl ?_, .plain rfl ?_, .plain rfl ?_, .plain rfl (fun w' hG => ?_), .plain rfl (fun w' hG => ?_), .plain rfl ?_, trivial⟩
              case refine_5 => exact exec_bin .shl 3 3 _ _ rfl (u := .int .i64 1) (v := .int .i64 k) rfl rfl rfl (run_shl (by omega) _ _)
              case refine_6 => exact exec_bin .or 3 3 _ _ rfl (u := .int .i64 (srv cs j k : Nat)) (v := .int .i64 (2 ^ k : Nat)) rfl rfl rfl (run_or HSB.out HKB.out _ _)
              all_goals
                intro w' hG
                have hc2 := (hG.cell (p := ⟨w.heap.size + 1, j, none⟩) hslt2).trans HC.out
                simp [go_sem, Rs.look, hjl, hjl', hc2]
            · intro w' hG
              simp only [Rs.canon, Rs.dstOf, List.range_succ, List.range_zero, List.nil_append, List.cons_append, List.foldl_cons, List.foldl_nil, List.drop_succ_cons, List.drop_zero, List.drop_nil, List.getElem?_toArray, List.getElem?_cons_succ, List.getElem?_cons_zero, Option.bind_some, Act.put, List.getD_cons_succ, List.getD_cons_zero, List.setIfInBounds_toArray, List.set_cons_succ, List.set_cons_zero]
              obtain ⟨hcG, hfG⟩ := kept hG
              have hzG := hG.size
              have HG := Lib.hid hG
              have hc2 := (hG.cell (p := ⟨w.heap.size + 1, j, none⟩) hslt2).trans HC.out
              have hf2 : w'.frozen? ⟨w.heap.size + 1, j, none⟩ = false := frozen_of_row _ _ _ _ _ ((HG.out.block _ hslt2).trans HROW.out)
              clear hG hcG hfG
              go_wp2
              go_roundg (gk - 1)
              case rel =>
                refine ⟨j + 1, by omega, by simp, ?_, ?_, setc (join HB.out HG.out) (by show w.heap.size ≤ w.heap.size + 1; omega)⟩
                · rw [heap_set_same _ ((HG.out.block _ hslt2).trans HROW.out)]
                  rw [setV_set (g := srvAt cs k (j + 1)) hjl (by unfold srvAt; rw [if_pos (by omega)]; exact HQ.out.1 (by trivial)) (fun s _ hs => srvAt_ne cs k hs)]
                · rw [Below.heap_setCell _ _ _ _ (by show w.heap.size ≠ w.heap.size + 1; omega), HG.out.block _ (by omega)]; exact HRES.out
              case measure => omega
          | false =>
            go_wp2
            go_roundg (gk - 1)
            case rel =>
              refine ⟨j + 1, by omega, by simp, ?_, HRES.out, HB.out⟩
              rw [HROW.out, setV_congr (g := srvAt cs k (j + 1)) (fun s _ => by
                unfold srvAt
                by_cases h : s < j
                · rw [if_pos h, if_pos (by omega)]
                · by_cases h2 : s = j
                  · subst h2; rw [if_neg h, if_pos (by omega), HQ.out.2 (by trivial)]
                  · rw [if_neg h, if_neg (by omega)])]
            case measure => omega
        · have hjj : j = 30 := by omega
          subst hjj
          have hfin : wr.heap[w.heap.size + 1]? = some (.cells (setV fun s => srv cs s (k + 1)) 160 (0, 0)) := by
            rw [hrow, setV_congr (fun s hs => by unfold srvAt; rw [if_pos hs])]
          have HFIN := Lib.hid hfin
          clear hrow hres hB hfin
          go_wp2
          go_roundg (go - 1)
          case rel => exact ⟨k + 1, by omega, by simp, HFIN.out, HRES.out, HB.out⟩
          case measure => omega
    · have hkk : k = cs.length := by omega
      subst hkk
      obtain ⟨A, hA⟩ : ∃ A, A = setV fun s => srv cs s cs.length := ⟨_, rfl⟩
      rw [← hA] at hrow HROW
      have hAsz : A.size = 30 := by rw [hA, setV_size]
      have hone : A.all (·.oneCell') = true := by rw [hA]; exact setV_one _
      have hi := size171
      rw [← hAsz] at hi
      have hthere : wo.there w.heap.size 0 A.size := fun j hj => by
        rw [Nat.zero_add, cell_of_row _ _ _ _ _ _ hres, frozen_of_row _ _ _ _ _ hres]
        exact ⟨by simp; omega, rfl⟩
      have HI2 := Lib.hid hi
      have HTH := Lib.hid hthere
      have HON := Lib.hid hone
      have HSZ := Lib.hid hAsz
      have HFIN := Lib.hid hA
      clear hrow hres hi hthere hone hAsz hA hB
      go_wp2_with (first | (with_reducible refine wpList_load_row rfl 160 _ rfl (w.heap.size + 1) rfl 160 A (0, 0) _ HROW.out und171 rfl HI2.out ?_) | (with_reducible refine wpList_store_mid rfl 160 _ _ rfl w.heap.size 0 A rfl rfl HTH.out HI2.out HON.out ?_))
      have hh : (wo.setCells w.heap.size 0 A.toList).heap[w.heap.size]? = some (.cells A 160 (0, 0)) := by
        rw [heap_setCells _ _ _ _ _ _ _ HRES.out, setFrom_all _ _ (by rw [Array.length_toList, HSZ.out]; simp)]
      try rw [Exit.noGoto_ret]
      refine bodyPost_ret (results_cell_row rfl _ _ w.heap.size 160 A (0, 0) _ rfl hh und171 rfl HI2.out) rfl ⟨by rw [HFIN.out], below_setCells' (by omega) _ _ _ HB.out⟩
end Go.Proofs.YtimedmkpenbmkaaGreat

namespace Go.Proofs.YtimedmkpenbmkaaGreat
open Go.RowKit Go.Shelf
set_option linter.unusedSimpArgs false
set_option linter.unusedVariables false

set_option maxHeartbeats 2000000 in
set_option maxRecDepth 100000 in
theorem many_any (ob : Option Addr) (cap : Nat) (cs : List Crowd) (hok : CrOk cs) (set : Nat) (hset : set < 2 ^ 63) (w : World) (hI : CrIn w ob cs) :
    Calls Tryz.prog 140 #[.slice ob cs.length cap, .int .i64 set] w fun e w' => e = .returned (.int .i64 (mny cs set cs.length)) ∧ Below w.heap.size w w' := by
  have HI := Lib.hid hI
  have HOK := Lib.hid hok
  have HSET := Lib.hid hset
  have hl30 := hok.len
  clear hI hok hset
  go_enter Tryz.func140, Tryz.ntmps140
  go_wp2_with fail
  go_loopg [5, 6, 7, 10] cs.length (fun gk a b c i wr => ∃ k : Nat, gk + k = cs.length ∧ i = .int .i64 k ∧ a = .int .i64 (mny cs set k) ∧ Below w.heap.size w wr)
  case atStart => exact ⟨0, by omega, rfl, rfl, Below.refl _ _⟩
  case round =>
    obtain ⟨k, hk, rfl, rfl, hB⟩ := hrel
    have hzo := hB.size
    have HB := Lib.hid hB
    have hmb := mny_bd HOK.out set k (by omega)
    obtain ⟨n, hn⟩ : ∃ n, mny cs set k = n := ⟨_, rfl⟩
    rw [hn] at hmb
    have HN := Lib.hid hn
    rw [hn]
    by_cases hlt : k < cs.length
    · obtain ⟨c, hc⟩ : ∃ c, cs[k]? = some c := ⟨_, List.getElem?_eq_getElem hlt⟩
      have hc30 := HOK.out.row c (List.mem_of_getElem? hc)
      have hcb := HOK.out.bd c (List.mem_of_getElem? hc)
      obtain ⟨g, rfl, hg, hrg⟩ := HI.out k c hc
      have hlt' : (k : Int) < cs.length := by omega
      have hcd : cs.getD k ([], 0) = c := by rw [List.getD_eq_getElem?_getD, hc]; rfl
      have hrg2 : wr.rangeAt g (k * 31) (crowdRow c) := fun q v hv => (World.cell?_of_block (a := ⟨g, k * 31 + q, none⟩) (hB.block g hg)).trans (hrg q v hv)
      have hgo : g < wr.heap.size := by omega
      obtain ⟨row, hrw⟩ : ∃ row, row = crowdRow c := ⟨_, rfl⟩
      rw [← hrw] at hrg2
      have hsz : (Tryz.prog.info? 181).map (·.size) = some row.length := by rw [hrw, crowdRow_len hc30]; exact size192
      have hsz2 : (Tryz.prog.info? 181).map (·.size) = some row.toArray.size := by rw [hrw, List.size_toArray, crowdRow_len hc30]; exact size192
      have hsz3 : row.toArray.size = 31 := by rw [hrw, List.size_toArray, crowdRow_len hc30]
      have hone : row.toArray.all (·.oneCell') = true := by
        rw [hrw, Array.all_eq_true]; intro i hi
        have : (crowdRow c).toArray[i] ∈ crowdRow c := by simp
        unfold crowdRow at this
        rcases List.mem_append.1 this with h | h
        · obtain ⟨b', _, hb⟩ := List.mem_map.1 h; rw [show (crowdRow c).toArray[i] = _ from hb.symm]; rfl
        · rw [show (crowdRow c).toArray[i] = _ from List.mem_singleton.1 h]; rfl
      have hm2 : (wr.alloc (.cells row.toArray 181)).cell? ⟨wr.heap.size, 30, none⟩ = some (.int .i64 c.2) := by
        rw [cell_of_row _ _ _ _ _ _ (heap_alloc_last _ _), hrw, List.getElem?_toArray]; unfold crowdRow; rw [List.getElem?_append_right (by simp [hc30])]; simp [hc30]
      have HRG := Lib.hid hrg2
      have HSZ := Lib.hid hsz
      have HSZ2 := Lib.hid hsz2
      have HSZ3 := Lib.hid hsz3
      have HON := Lib.hid hone
      have HCD := Lib.hid hcd
      have HB1 := Lib.hid (al hB (.cells row.toArray 181))
      have hkb : 2 ^ k < 2 ^ 63 := Nat.pow_lt_pow_right (by omega) (by omega)
      have HKB := Lib.hid hkb
      obtain ⟨x, hx⟩ : ∃ x, x = set &&& 2 ^ k := ⟨_, rfl⟩
      have hrun : ∀ W, (binOp .and 3 (.int .i64 set) (.int .i64 (2 ^ k : Nat))).run Tryz.prog W = .ok (.int .i64 x) W := fun W => by rw [hx]; exact run_and HSET.out HKB.out 3 W
      have HRUN := Lib.hid hrun
      have hrun2 : ∀ W, (binOp .shl 3 (.int .i64 1) (.int .i64 (k : Int))).run Tryz.prog W = .ok (.int .i64 (2 ^ k : Nat)) W := fun W => run_shl (by omega) _ _
      have HRUN2 := Lib.hid hrun2
      obtain ⟨P, hP⟩ : ∃ P : Nat, P = 2 ^ k := ⟨_, rfl⟩
      rw [← hP] at HRUN HRUN2
      have HX := Lib.hid hx
      clear hc hrg hB hcd hrg2 hrw hsz hsz2 hsz3 hone hkb hn hrun hrun2 hP HKB hx
      by_cases hx0 : x = 0
      · subst hx0
        have hnx : mny cs set (k + 1) = n := by rw [mny, ← HX.out, if_neg (by simp), HN.out]
        have HNX := Lib.hid hnx
        clear hnx
        go_wp2_with (first
          | (with_reducible refine wpList_load_mid rfl 181 _ rfl g (k * 31) rfl row _ HRG.out und192 rfl HSZ.out ?_)
          | (with_reducible refine wpList_store_new rfl 181 _ _ rfl _ row.toArray rfl rfl HSZ2.out ?hs HON.out ?_)
          | (with_reducible refine wpList_bin rfl .shl 3 3 _ _ rfl (.int .i64 1) (.int .i64 (k : Int)) _ rfl rfl rfl (HRUN2.out _) ?_)
          | (with_reducible refine wpList_bin rfl .and 3 3 _ _ rfl (.int .i64 set) (.int .i64 (P : Nat)) _ rfl rfl rfl (HRUN.out _) ?_))
        case hs => exact (Hid.out HSZ3).symm
        go_roundg (gk - 1)
        case rel => exact ⟨k + 1, by omega, by simp, by rw [HNX.out], HB1.out⟩
        case measure => omega
      · have hnx : mny cs set (k + 1) = n + c.2 := by rw [mny, ← HX.out, if_pos hx0, HN.out, HCD.out]
        have HNX := Lib.hid hnx
        have hx0' : ((x : Int) != 0) = true := by simp; omega
        clear hnx
        go_wp2_with (first
          | (with_reducible refine wpList_load_mid rfl 181 _ rfl g (k * 31) rfl row _ HRG.out und192 rfl HSZ.out ?_)
          | (with_reducible refine wpList_store_new rfl 181 _ _ rfl _ row.toArray rfl rfl HSZ2.out ?hs HON.out ?_)
          | (with_reducible refine wpList_bin rfl .shl 3 3 _ _ rfl (.int .i64 1) (.int .i64 (k : Int)) _ rfl rfl rfl (HRUN2.out _) ?_)
          | (with_reducible refine wpList_bin rfl .and 3 3 _ _ rfl (.int .i64 set) (.int .i64 (P : Nat)) _ rfl rfl rfl (HRUN.out _) ?_))
        case hs => exact (Hid.out HSZ3).symm
        go_roundg (gk - 1)
        case rel => exact ⟨k + 1, by omega, by simp, by rw [HNX.out], HB1.out⟩
        case measure => omega
    · have hkk : k = cs.length := by omega
      subst hkk
      clear hB
      go_wp2
      try rw [Exit.noGoto_ret]
      go_ret
      exact ⟨by rw [HN.out]; rfl, HB.out⟩
end Go.Proofs.YtimedmkpenbmkaaGreat
