/- Contracts of the code and of the reference, part 4. -/
import Derived.Test.YtadnggecnjdhiaaMc
import Derived.Shelf.Small.Wraps
import Derived.Shelf.Slices.Turned
import Derived.Shelf.Slices.Reverse
import Derived.Shelf.Slices.Equal
import Derived.Ground.Names2Prog
import Derived.Shelf.Slices.Clone
import Derived.Shelf.Slices.SearchI
import Derived.Shelf.Slices.Delete
import Derived.Shelf.Slices.Cells
import Derived.Shelf.Slices.Empties
import Derived.Shelf.Slices.Empties2
import Derived.Ground.SlgnProg
import Derived.Shelf.SlicesE.Clone
import Derived.Test.YtadnggecnjdhiaaProg
import Derived.Laws.Rows
import Derived.Deep.CutRange
import Derived.Deep.LoopGhost
import Derived.IntWalk
namespace Go.Proofs
open Go.Shelf
def Try.lays215_ren : Go.Shelf.Ren := ⟨fun | 215 => 164 | n => n, fun | 3 => 3 | 4 => 4 | n => n, fun | n => n⟩
theorem Try.lays215 : Go.Proofs.Lays.n215 Try.prog Try.lays215_ren := {
  mixed := by kernel_rfl
  f215 := Try.func164.trans (congrArg some (by kernel_rfl))
  t3 := Try.underlying3
  a3 := Try.isAgg3
  z3 := Try.sizeOf3
  v3 := Try.zeroValue3
  t4 := Try.underlying4
  a4 := Try.isAgg4
  z4 := Try.sizeOf4
  v4 := Try.zeroValue4 }
open Go.RowKit in
/-- cmp.isNaN at int: 'x != x': false. (LAID: no walk: one application.) -/
theorem Try.cmp_isNaN_int (x : Int) (w : World) :
    Calls Try.prog 164 #[.int .i64 x] w fun e w' => e = .returned (.bool false) ∧ w' = w := Any.cmp_isNaN_int Try.lays215 x w
def Try.lays122_ren : Go.Shelf.Ren := ⟨fun | 122 => 133 | 215 => 164 | n => n, fun | 3 => 3 | 4 => 4 | n => n, fun | n => n⟩
theorem Try.lays122 : Go.Proofs.Lays.n122 Try.prog Try.lays122_ren := {
  mixed := by kernel_rfl
  f122 := Try.func133.trans (congrArg some (by kernel_rfl))
  f215 := Try.func164.trans (congrArg some (by kernel_rfl))
  t3 := Try.underlying3
  a3 := Try.isAgg3
  z3 := Try.sizeOf3
  v3 := Try.zeroValue3
  t4 := Try.underlying4
  a4 := Try.isAgg4
  z4 := Try.sizeOf4
  v4 := Try.zeroValue4 }
open Go.RowKit in
/-- cmp.Compare at int: "Compare returns -1 if x is less than y, 0 if x equals y, +1 if x is greater than y.": IT RETURNS 'Lib.compareInt x y'; the world is as it was. (LAID: no walk: one application.) -/
theorem Try.cmp_Compare_int (x y : Int) (w : World) :
    Calls Try.prog 133 #[.int .i64 x, .int .i64 y] w fun e w' => e = .returned (.int .i64 (Lib.compareInt x y)) ∧ w' = w := Any.cmp_Compare_int Try.lays122 x y w
def Try.lays108_ren : Go.Shelf.Ren := ⟨fun | 108 => 131 | n => n, fun | 28 => 28 | 3 => 3 | 0 => 0 | 4 => 4 | n => n, fun | n => n⟩
theorem Try.lays108 : Go.Proofs.Lays.n108 Try.prog Try.lays108_ren := {
  mixed := by kernel_rfl
  f108 := Try.func131.trans (congrArg some (by kernel_rfl))
  t0 := Try.underlying0
  a0 := Try.isAgg0
  z0 := Try.sizeOf0
  v0 := Try.zeroValue0
  t3 := Try.underlying3
  a3 := Try.isAgg3
  z3 := Try.sizeOf3
  v3 := Try.zeroValue3
  t4 := Try.underlying4
  a4 := Try.isAgg4
  z4 := Try.sizeOf4
  v4 := Try.zeroValue4
  t28 := Try.underlying28
  a28 := Try.isAgg28
  z28 := Try.sizeOf28
  v28 := Try.zeroValue28 }
open Go.Lib in
/-- slices.Index at []int: "Index returns the index of the first occurrence of v in s, or -1 if not present.": IT RETURNS 'Lib.idxOf (the elements) v'; the world is as it was. 'zs': what the cells behind the slice's address hold (its spare capacity too, if you have it); 'zs.take n': its elements. (LAID: no walk: one application.) -/
theorem Try.slices_Index_int (b off n c : Nat) (zs : List Int) (x : Int) (w : World) (hz : n ≤ zs.length) (hbig : n ≤ 9223372036854775807) (hc : ∀ j, j < zs.length → w.cell? ⟨b, off + j, none⟩ = some (.int .i64 (zs.getD j 0))) :
    Calls Try.prog 131 #[.slice (some ⟨b, off, none⟩) n c, .int .i64 x] w fun e w' => e = .returned (.int .i64 (Lib.idxOf (zs.take n) x)) ∧ w' = w := Any.slices_Index_int Try.lays108 b off n c zs x w hz hbig hc
open Go.Lib in
/-- The same at a slice of length 0, a nil one too: no cell is known, none is asked for. (LAID: no walk: one application.) -/
theorem Try.slices_Index_int_empty (a : Option Addr) (c : Nat) (x : Int) (w : World) :
    Calls Try.prog 131 #[.slice a 0 c, .int .i64 x] w fun e w' => e = .returned (.int .i64 (Lib.idxOf [] x)) ∧ w' = w := Any.slices_Index_int_empty Try.lays108 a c x w
def Try.lays107_ren : Go.Shelf.Ren := ⟨fun | 107 => 64 | 108 => 131 | n => n, fun | 28 => 28 | 3 => 3 | 4 => 4 | 0 => 0 | n => n, fun | n => n⟩
theorem Try.lays107 : Go.Proofs.Lays.n107 Try.prog Try.lays107_ren := {
  mixed := by kernel_rfl
  f107 := Try.func64.trans (congrArg some (by kernel_rfl))
  f108 := Try.func131.trans (congrArg some (by kernel_rfl))
  t0 := Try.underlying0
  a0 := Try.isAgg0
  z0 := Try.sizeOf0
  v0 := Try.zeroValue0
  t3 := Try.underlying3
  a3 := Try.isAgg3
  z3 := Try.sizeOf3
  v3 := Try.zeroValue3
  t4 := Try.underlying4
  a4 := Try.isAgg4
  z4 := Try.sizeOf4
  v4 := Try.zeroValue4
  t28 := Try.underlying28
  a28 := Try.isAgg28
  z28 := Try.sizeOf28
  v28 := Try.zeroValue28 }
open Go.Lib in
/-- slices.Contains at []int: "Contains reports whether v is present in s.": IT RETURNS 'elements.contains v'; the world is as it was. ITS CALLEE slices.Index IS MET BY ITS OWN CONTRACT OFF THE SHELF (lay that first): no loop is walked here. (LAID: no walk: one application.) -/
theorem Try.slices_Contains_int (b off n c : Nat) (zs : List Int) (x : Int) (w : World) (hz : n ≤ zs.length) (hbig : n ≤ 9223372036854775807) (hc : ∀ j, j < zs.length → w.cell? ⟨b, off + j, none⟩ = some (.int .i64 (zs.getD j 0))) :
    Calls Try.prog 64 #[.slice (some ⟨b, off, none⟩) n c, .int .i64 x] w fun e w' => e = .returned (.bool ((zs.take n).contains x)) ∧ w' = w := Any.slices_Contains_int Try.lays107 b off n c zs x w hz hbig hc
open Go.Lib in
/-- The same at a slice of length 0, a nil one too. (LAID: no walk: one application.) -/
theorem Try.slices_Contains_int_empty (a : Option Addr) (c : Nat) (x : Int) (w : World) :
    Calls Try.prog 64 #[.slice a 0 c, .int .i64 x] w fun e w' => e = .returned (.bool false) ∧ w' = w := Any.slices_Contains_int_empty Try.lays107 a c x w
def Try.lays112_ren : Go.Shelf.Ren := ⟨fun | 112 => 147 | n => n, fun | 28 => 28 | 3 => 3 | 4 => 4 | 0 => 0 | n => n, fun | n => n⟩
theorem Try.lays112 : Go.Proofs.Lays.n112 Try.prog Try.lays112_ren := {
  mixed := by kernel_rfl
  f112 := Try.func147.trans (congrArg some (by kernel_rfl))
  t0 := Try.underlying0
  a0 := Try.isAgg0
  z0 := Try.sizeOf0
  v0 := Try.zeroValue0
  t3 := Try.underlying3
  a3 := Try.isAgg3
  z3 := Try.sizeOf3
  v3 := Try.zeroValue3
  t4 := Try.underlying4
  a4 := Try.isAgg4
  z4 := Try.sizeOf4
  v4 := Try.zeroValue4
  t28 := Try.underlying28
  a28 := Try.isAgg28
  z28 := Try.sizeOf28
  v28 := Try.zeroValue28 }
open Go.RowKit Go.Lib Go.Sort in
/-- slices.Reverse at []int, over an array: Go's loop from the two ends inward is walked; it makes 'Sort.reverseLoop 0 (len - 1)', which is 'Array.reverse' (Derived/Lib/SlicesMore.lean). (LAID: no walk: one application.) -/
theorem Try.slices_Reverse_int_arr (blk off cap : Nat) (d : Array Int) (w : World) (hH : Holds encI w blk off d) (hsz : d.size ≤ 9223372036854775807) :
    Calls Try.prog 147 #[.slice (some ⟨blk, off, none⟩) d.size cap] w fun e w' => e = .returned (.tuple #[]) ∧ ∃ n, w' = putRow encI (Sort.ahead w n) blk off d.reverse := Any.slices_Reverse_int_arr Try.lays112 blk off cap d w hH hsz
open Go.RowKit Go.Lib Go.Sort in
/-- slices.Reverse at []int: "Reverse reverses the elements of the slice in place.": THE SLICE's CELLS HOLD 'zs.reverse' BEHIND THE CALL; all else is as it was, but for the count of draws (the exchange 's[i], s[j] = s[j], s[i]' draws its order, once a round). IN THE WORDS OF slices.Sort's CONTRACT: 'Holds': the cells hold zs and none is frozen; 'putRow': the world with those cells holding another array. A slice of length 0 that is not nil is among them ('zs = []'); nil: '.._nil'. (LAID: no walk: one application.) -/
theorem Try.slices_Reverse_int (blk off cap : Nat) (zs : List Int) (w : World) (hH : Holds (Value.int .i64) w blk off zs.toArray) (hsz : zs.length ≤ 9223372036854775807) :
    Calls Try.prog 147 #[.slice (some ⟨blk, off, none⟩) zs.length cap] w fun e w' => e = .returned (.tuple #[]) ∧ ∃ n, w' = putRow (Value.int .i64) (Sort.ahead w n) blk off zs.reverse.toArray := Any.slices_Reverse_int Try.lays112 blk off cap zs w hH hsz
open Go.RowKit Go.Lib Go.Sort in
/-- The same at a slice of length 0, a nil one too: nothing is read, nothing written, nothing drawn. (LAID: no walk: one application.) -/
theorem Try.slices_Reverse_int_empty (a : Option Addr) (cap : Nat) (w : World) :
    Calls Try.prog 147 #[.slice a 0 cap] w fun e w' => e = .returned (.tuple #[]) ∧ w' = w := Any.slices_Reverse_int_empty Try.lays112 a cap w
def Try.lays111_ren : Go.Shelf.Ren := ⟨fun | 111 => 94 | n => n, fun | 28 => 28 | 3 => 3 | 4 => 4 | 0 => 0 | n => n, fun | n => n⟩
theorem Try.lays111 : Go.Proofs.Lays.n111 Try.prog Try.lays111_ren := {
  mixed := by kernel_rfl
  f111 := Try.func94.trans (congrArg some (by kernel_rfl))
  t0 := Try.underlying0
  a0 := Try.isAgg0
  z0 := Try.sizeOf0
  v0 := Try.zeroValue0
  t3 := Try.underlying3
  a3 := Try.isAgg3
  z3 := Try.sizeOf3
  v3 := Try.zeroValue3
  t4 := Try.underlying4
  a4 := Try.isAgg4
  z4 := Try.sizeOf4
  v4 := Try.zeroValue4
  t28 := Try.underlying28
  a28 := Try.isAgg28
  z28 := Try.sizeOf28
  v28 := Try.zeroValue28 }
open Go.RowKit Go.Lib in
/-- slices.Equal at []int: "Equal reports whether two slices are equal: the same length and all elements equal. If the lengths are different, Equal returns false. Otherwise, the elements are compared in increasing index order, and the comparison stops at the first unequal pair. Empty and nil slices are considered equal.": IT RETURNS WHETHER THE TWO LISTS OF ELEMENTS ARE ONE; the world is as it was but for the count of draws (the test 's1[i] != s2[i]' has two reads, whose order the model draws, once a round). 'xs', 'ys': what the cells behind the two addresses hold (the spare capacity too, if you have it); 'xs.take n', 'ys.take m': the elements. THE TWO SLICES MAY OVERLAP. (LAID: no walk: one application.) -/
theorem Try.slices_Equal_int (b1 o1 n c b2 o2 m d : Nat) (xs ys : List Int) (w : World) (hx : n ≤ xs.length) (hy : m ≤ ys.length) (hbig : n ≤ 9223372036854775807) (hbig2 : m ≤ 9223372036854775807) (hc1 : ∀ j, j < xs.length → w.cell? ⟨b1, o1 + j, none⟩ = some (.int .i64 (xs.getD j 0))) (hc2 : ∀ j, j < ys.length → w.cell? ⟨b2, o2 + j, none⟩ = some (.int .i64 (ys.getD j 0))) :
    Calls Try.prog 94 #[.slice (some ⟨b1, o1, none⟩) n c, .slice (some ⟨b2, o2, none⟩) m d] w fun e w' => e = .returned (.bool (xs.take n == ys.take m)) ∧ ∃ q, w' = w.drewN q := Any.slices_Equal_int Try.lays111 b1 o1 n c b2 o2 m d xs ys w hx hy hbig hbig2 hc1 hc2
open Go.RowKit Go.Lib in
/-- The same where the first is of length 0 (a nil one too): no cell is asked for. (LAID: no walk: one application.) -/
theorem Try.slices_Equal_int_empty (a1 a2 : Option Addr) (c m d : Nat) (w : World) (hbig2 : m ≤ 9223372036854775807) :
    Calls Try.prog 94 #[.slice a1 0 c, .slice a2 m d] w fun e w' => e = .returned (.bool (decide (m = 0))) ∧ w' = w := Any.slices_Equal_int_empty Try.lays111 a1 a2 c m d w hbig2
def Try.laysNm215_ren : Go.Shelf.Ren := ⟨fun | 15 => 72 | n => n, fun | 22 => 28 | 3 => 3 | 4 => 4 | n => n, fun | n => n⟩
theorem Try.laysNm215 : Go.Proofs.Lays2.n15 Try.prog Try.laysNm215_ren := {
  mixed := by kernel_rfl
  f15 := Try.func72.trans (congrArg some (by kernel_rfl))
  t3 := Try.underlying3
  a3 := Try.isAgg3
  z3 := Try.sizeOf3
  v3 := Try.zeroValue3
  t4 := Try.underlying4
  a4 := Try.isAgg4
  z4 := Try.sizeOf4
  v4 := Try.zeroValue4
  t22 := Try.underlying28
  a22 := Try.isAgg28
  z22 := Try.sizeOf28
  v22 := Try.zeroValue28
  i3 := by kernel_rfl }
open Go.RowKit Go.Lib in
/-- slices.Clone at []int: "Clone returns a copy of the slice. The elements are copied using assignment, so this is a shallow clone. The result may have additional unused capacity. The result preserves the nilness of s.": OF A SLICE THAT IS NOT nil IT RETURNS A SLICE THAT IS NOT nil, OF THE SAME ELEMENTS, IN MEMORY OF THE CALL's OWN: in the how-to's words (6f): 'w'.ownsRow B e 1 v' n cells': v' begins at the head of a row among the blocks from B on (B: the heap's size at the call), not frozen, whose first cells are the elements · 'Below B w w'': below B all is as it was. The capacity is whatever the run-time gives. 'zs': what the cells behind the slice's address hold; 'zs.take n': its elements. (LAID: no walk: one application.) -/
theorem Try.slices_Clone_int (b off n c : Nat) (zs : List Int) (w : World) (hz : n ≤ zs.length) (hbig : n * 8 ≤ 140737488355328) (hc : ∀ j, j < zs.length → w.cell? ⟨b, off + j, none⟩ = some (.int .i64 (zs.getD j 0))) :
    Calls Try.prog 72 #[.slice (some ⟨b, off, none⟩) n c] w fun e w' => ∃ v', e = .returned v' ∧ w'.ownsRow w.heap.size 3 1 v' n ((zs.take n).map (Value.int .i64)) ∧ v' ≠ .slice none 0 0 ∧ Below w.heap.size w w' := Any.slices_Clone_int Try.laysNm215 b off n c zs w hz hbig hc
open Go.RowKit Go.Lib in
/-- The same at nil: nil comes back; the world is as it was. (LAID: no walk: one application.) -/
theorem Try.slices_Clone_int_nil (n c : Nat) (w : World) :
    Calls Try.prog 72 #[.slice none n c] w fun e w' => e = .returned (.slice none 0 0) ∧ w' = w := Any.slices_Clone_int_nil Try.laysNm215 n c w
open Go.RowKit Go.Lib in
/-- The same at a slice of length 0 that is not nil, WHATEVER ITS ADDRESS (no cell is asked for): a slice that is not nil and owns nothing comes back. (LAID: no walk: one application.) -/
theorem Try.slices_Clone_int_zero (a : Addr) (c : Nat) (w : World) :
    Calls Try.prog 72 #[.slice (some a) 0 c] w fun e w' => ∃ v', e = .returned v' ∧ w'.ownsRow w.heap.size 3 1 v' 0 [] ∧ v' ≠ .slice none 0 0 ∧ Below w.heap.size w w' := Any.slices_Clone_int_zero Try.laysNm215 a c w
def Try.laysNm237_ren : Go.Shelf.Ren := ⟨fun | 37 => 164 | n => n, fun | 3 => 3 | 4 => 4 | n => n, fun | n => n⟩
theorem Try.laysNm237 : Go.Proofs.Lays2.n37 Try.prog Try.laysNm237_ren := {
  mixed := by kernel_rfl
  f37 := Try.func164.trans (congrArg some (by kernel_rfl))
  t3 := Try.underlying3
  a3 := Try.isAgg3
  z3 := Try.sizeOf3
  v3 := Try.zeroValue3
  t4 := Try.underlying4
  a4 := Try.isAgg4
  z4 := Try.sizeOf4
  v4 := Try.zeroValue4 }
open Go.RowKit Go.Lib in
/-- cmp.isNaN[int]: 'x != x': false. (LAID: no walk: one application.) -/
theorem Try.cmp_isNaN_int2 (x : Int) (w : World) :
    Calls Try.prog 164 #[.int .i64 x] w fun e w' => e = .returned (.bool false) ∧ w' = w := Any.cmp_isNaN_int2 Try.laysNm237 x w
def Try.laysNm223_ren : Go.Shelf.Ren := ⟨fun | 23 => 71 | n => n, fun | 22 => 28 | 3 => 3 | 4 => 4 | 0 => 0 | n => n, fun | n => n⟩
theorem Try.laysNm223 : Go.Proofs.Lays2.n23 Try.prog Try.laysNm223_ren := {
  mixed := by kernel_rfl
  f23 := Try.func71.trans (congrArg some (by kernel_rfl))
  t0 := Try.underlying0
  a0 := Try.isAgg0
  z0 := Try.sizeOf0
  v0 := Try.zeroValue0
  t3 := Try.underlying3
  a3 := Try.isAgg3
  z3 := Try.sizeOf3
  v3 := Try.zeroValue3
  t4 := Try.underlying4
  a4 := Try.isAgg4
  z4 := Try.sizeOf4
  v4 := Try.zeroValue4
  t22 := Try.underlying28
  a22 := Try.isAgg28
  z22 := Try.sizeOf28
  v22 := Try.zeroValue28
  i3 := by kernel_rfl }
open Go.RowKit Go.Lib Go.Sort in
/-- slices.Delete at []int, over an array. (LAID: no walk: one application.) -/
theorem Try.slices_Delete_int_arr (blk off cap i j : Nat) (d : Array Int) (w : World) (hH : Holds encI w blk off d) (hcap : d.size ≤ cap) (hm : cap ≤ 9223372036854775807) (hij : i ≤ j) (hj : j ≤ d.size) :
    Calls Try.prog 71 #[.slice (some ⟨blk, off, none⟩) d.size cap, .int .i64 i, .int .i64 j] w fun e w' => e = .returned (.slice (some ⟨blk, off, none⟩) (d.size - (j - i)) cap) ∧ ∃ q, w' = putRow encI (Sort.ahead w q) blk off (d.toList.take i ++ d.toList.drop j ++ List.replicate (j - i) 0).toArray := Any.slices_Delete_int_arr Try.laysNm223 blk off cap i j d w hH hcap hm hij hj
open Go.RowKit Go.Lib Go.Sort in
/-- slices.Delete at []int: "Delete modifies s in place by removing the elements s[i:j], and returns the modified slice. Delete panics if j > len(s) or s[i:j] is not a valid slice of s. Delete is O(len(s)-i), so if many items must be deleted, it is better to make a single call deleting them all together than to delete one at a time. Delete zeroes the elements s[len(s)-(j-i):len(s)]. If the result is empty, it has the same nilness as s.": FOR i ≤ j ≤ len(s) IT RETURNS THE SLICE CUT TO len(s) - (j - i) ELEMENTS; ITS CELLS HOLD what stood ahead of i, what stood from j on, then j - i zero values; all else is as it was, but for the count of draws. IN THE WORDS OF slices.Sort's CONTRACT ('Holds', 'putRow'). It asks 'zs.length ≤ cap ≤ 2^63 - 1' (every slice's). (Outside i ≤ j ≤ len(s) it panics: no contract here.) (LAID: no walk: one application.) -/
theorem Try.slices_Delete_int (blk off cap i j : Nat) (zs : List Int) (w : World) (hH : Holds (Value.int .i64) w blk off zs.toArray) (hcap : zs.length ≤ cap) (hm : cap ≤ 9223372036854775807) (hij : i ≤ j) (hj : j ≤ zs.length) :
    Calls Try.prog 71 #[.slice (some ⟨blk, off, none⟩) zs.length cap, .int .i64 i, .int .i64 j] w fun e w' => e = .returned (.slice (some ⟨blk, off, none⟩) (zs.length - (j - i)) cap) ∧ ∃ q, w' = putRow (Value.int .i64) (Sort.ahead w q) blk off (zs.take i ++ zs.drop j ++ List.replicate (j - i) 0).toArray := Any.slices_Delete_int Try.laysNm223 blk off cap i j zs w hH hcap hm hij hj
open Go.RowKit Go.Lib Go.Sort in
/-- slices.Reverse at []int, of an argument: the n cells hold the elements in reverse. (LAID: no walk: one application.) -/
theorem Try.slices_Reverse_int_cells (b off n c : Nat) (zs : List Int) (w : World) (hz : n ≤ zs.length) (hbig : n ≤ 9223372036854775807) (hc : ∀ j, j < zs.length → w.cell? ⟨b, off + j, none⟩ = some (.int .i64 (zs.getD j 0))) (hf : ∀ j, j < n → w.frozen? ⟨b, off + j, none⟩ = false) :
    Calls Try.prog 147 #[.slice (some ⟨b, off, none⟩) n c] w fun e w' => e = .returned (.tuple #[]) ∧ ∃ q, w' = (w.drewN q).setCells b off ((zs.take n).reverse.map (Value.int .i64)) := Any.slices_Reverse_int_cells Try.lays112 b off n c zs w hz hbig hc hf
open Go.RowKit Go.Lib Go.Sort in
/-- slices.Delete at []int, of an argument, for i ≤ j ≤ n: the slice cut to n - (j - i) elements; the n cells hold what stood ahead of i, what stood from j on, then zeros. (LAID: no walk: one application.) -/
theorem Try.slices_Delete_int_cells (b off n c i j : Nat) (zs : List Int) (w : World) (hz : n ≤ zs.length) (hcap : n ≤ c) (hm : c ≤ 9223372036854775807) (hij : i ≤ j) (hj : j ≤ n) (hc : ∀ j, j < zs.length → w.cell? ⟨b, off + j, none⟩ = some (.int .i64 (zs.getD j 0))) (hf : ∀ j, j < n → w.frozen? ⟨b, off + j, none⟩ = false) :
    Calls Try.prog 71 #[.slice (some ⟨b, off, none⟩) n c, .int .i64 i, .int .i64 j] w fun e w' => e = .returned (.slice (some ⟨b, off, none⟩) (n - (j - i)) c) ∧ ∃ q, w' = (w.drewN q).setCells b off (((zs.take n).take i ++ (zs.take n).drop j ++ List.replicate (j - i) 0).map (Value.int .i64)) := Any.slices_Delete_int_cells Try.laysNm223 b off n c i j zs w hz hcap hm hij hj hc hf
open Go.RowKit Go.Lib in
/-- slices.Delete at []int of no element ('Delete(s, 0, 0)'): s comes back; the world is as it was. (LAID: no walk: one application.) -/
theorem Try.slices_Delete_int_empty (a : Option Addr) (c : Nat) (w : World) :
    Calls Try.prog 71 #[.slice a 0 c, .int .i64 0, .int .i64 0] w fun e w' => e = .returned (.slice a 0 c) ∧ w' = w := Any.slices_Delete_int_empty Try.laysNm223 a c w
open Go.RowKit Go.Lib in
theorem Try.slices_Equal_int_lens (a1 a2 : Option Addr) (n c m d : Nat) (w : World) (hnm : n ≠ m) :
    Calls Try.prog 94 #[.slice a1 n c, .slice a2 m d] w fun e w' => e = .returned (.bool false) ∧ w' = w := Any.slices_Equal_int_lens Try.lays111 a1 a2 n c m d w hnm
def Try.laysSlE041_f72_ren : Go.Shelf.Ren := ⟨fun | 41 => 72 | n => n, fun | 22 => 28 | 23 => 3 | 4 => 4 | n => n, fun | n => n⟩
theorem Try.laysSlE041_f72 : Go.Proofs.SlLaysE0.n41 Try.prog Try.laysSlE041_f72_ren := {
  mixed := by kernel_rfl
  f41 := ⟨Try.f72.name, by decide, Try.func72.trans (congrArg some (by kernel_rfl))⟩
  t4 := Try.underlying4
  a4 := Try.isAgg4
  z4 := Try.sizeOf4
  v4 := Try.zeroValue4
  t22 := Try.underlying28
  a22 := Try.isAgg28
  z22 := Try.sizeOf28
  v22 := Try.zeroValue28 }
open Go.RowKit Go.Lib in
/-- slices.Clone: "Clone returns a copy of the slice. The elements are copied using assignment, so this is a shallow clone. The result may have additional unused capacity. The result preserves the nilness of s.": OF A SLICE THAT IS NOT nil IT RETURNS A SLICE THAT IS NOT nil, OF THE SAME CELLS, IN MEMORY OF THE CALL's OWN ('ownsRow': the how-to's 6f); below the heap's size at the call all is as it was. (LAID AT THE INSTANCE 'slices.Clone[[]int,int]': no walk: one application.) -/
theorem Try.slices_Clone (i0 : TypeInfo) (z : Value) (size bytes : Nat) (hi : Try.prog.info? 3 = some i0) (hz0 : i0.zero = some z) (hz1 : i0.size = size) (hz2 : i0.bytes = bytes) (hzs : z.cells.size = size) (hsz : 0 < size) (z23 : ∀ w, (Go.sizeOf 3).run Try.prog w = .ok size w) (b off n c : Nat) (news : List Value) (w : World) (hl : news.length = n * size) (hn : n ≤ maxLen) (hbig : n * bytes ≤ 140737488355328) (hc : ∀ j u, news[j]? = some u → w.cell? ⟨b, off + j, none⟩ = some u) (h1 : ∀ u ∈ news, u.oneCell' = true) :
    Calls Try.prog 72 #[.slice (some ⟨b, off, none⟩) n c] w fun e w' => ∃ v', e = .returned v' ∧ w'.ownsRow w.heap.size 3 size v' n news ∧ v' ≠ .slice none 0 0 ∧ Below w.heap.size w w' := AnyE.slices_Clone Try.laysSlE041_f72 i0 z size bytes hi hz0 hz1 hz2 hzs hsz z23 b off n c news w hl hn hbig hc h1
open Go.RowKit Go.Lib in
/-- The same at nil: nil comes back; the world is as it was; nothing is asked of the element's type. (LAID AT THE INSTANCE 'slices.Clone[[]int,int]': no walk: one application.) -/
theorem Try.slices_Clone_nil (n c : Nat) (w : World) :
    Calls Try.prog 72 #[.slice none n c] w fun e w' => e = .returned (.slice none 0 0) ∧ w' = w := AnyE.slices_Clone_nil Try.laysSlE041_f72 n c w
end Go.Proofs
set_option linter.unusedSimpArgs false
set_option linter.unusedVariables false
namespace Go.Proofs.Ytadnggecnjdhiaa
open Go.RowKit Tx
theorem wpList_store_new {P : Program} {ops : Array Oper} {rest : List Oper} {op : Oper} {a : Act} {w : World} {Q : Exit → Act → World → Prop} (hgd : op.guard = none) (ty : TypeId) (x y : Operand) (ho : op.op = .store ty x y)
    (c c' : Array Value) (hx : a.eval x = .pointer (some ⟨w.heap.size, 0, none⟩)) (hy : a.eval y = .agg c')
    (hi : (P.info? ty).map (·.size) = some c'.size) (hs : c.size = c'.size) (h1 : c'.all (·.oneCell') = true)
    (h : wpList P ops Q rest (a.put op.dst undef) (w.alloc (.cells c' ty))) : wpList P ops Q (op :: rest) a (w.alloc (.cells c ty)) :=
  wpList_plain hgd fun K hK => by
    unfold Oper.wp execOp
    simp only [ho, hx, hy, Sem.run_bind, run_storeAt_new w ty c c' hi hs h1, Result.andThen_ok, Sem.run_pure]
    exact hK _ _ h
theorem wpList_store_new2 {P : Program} {ops : Array Oper} {rest : List Oper} {op : Oper} {a : Act} {w : World} {Q : Exit → Act → World → Prop} (hgd : op.guard = none) (ty : TypeId) (x y : Operand) (ho : op.op = .store ty x y) (b : Nat)
    (c c' : Array Value) (hx : a.eval x = .pointer (some ⟨b, 0, none⟩)) (hb : b = w.heap.size) (hy : a.eval y = .agg c')
    (hi : (P.info? ty).map (·.size) = some c'.size) (hs : c.size = c'.size) (h1 : c'.all (·.oneCell') = true)
    (h : wpList P ops Q rest (a.put op.dst undef) (w.alloc (.cells c' ty))) : wpList P ops Q (op :: rest) a (w.alloc (.cells c ty)) := by
  subst hb
  exact wpList_store_new hgd ty x y ho c c' hx hy hi hs h1 h
theorem wpList_look {P : Program} {ops : Array Oper} {rest : List Oper} {o : Oper} {a : Act} {w : World} {Q : Exit → Act → World → Prop} (hgd : o.guard = none) (t : TypeId) (m x : Operand) (b : Bool) (ho : o.op = .lookup t m x b) (u v r : Value)
    (hm : a.eval m = u) (hx : a.eval x = v) (hr : (Instr.lookup t u v b).run P w = .ok r w) (h : wpList P ops Q rest (a.put o.dst r) w) : wpList P ops Q (o :: rest) a w :=
  wpList_plain hgd fun K hK => by
    unfold Oper.wp execOp
    simp only [ho, hm, hx, Sem.run_bind, hr, Result.andThen_ok, Sem.run_pure]
    exact hK _ _ h
theorem wpList_upd {P : Program} {ops : Array Oper} {rest : List Oper} {o : Oper} {a : Act} {w w' : World} {Q : Exit → Act → World → Prop} (hgd : o.guard = none) (t : TypeId) (m x y : Operand) (ho : o.op = .mapUpdate t m x y) (u v z : Value)
    (hm : a.eval m = u) (hx : a.eval x = v) (hy : a.eval y = z) (hr : (Instr.mapUpdate t u v z).run P w = .ok () w') (h : wpList P ops Q rest (a.put o.dst undef) w') : wpList P ops Q (o :: rest) a w :=
  wpList_plain hgd fun K hK => by
    unfold Oper.wp execOp
    simp only [ho, hm, hx, hy, Sem.run_bind, hr, Result.andThen_ok, Sem.run_pure]
    exact hK _ _ h
end Go.Proofs.Ytadnggecnjdhiaa
set_option linter.unusedSimpArgs false
set_option linter.unusedVariables false
namespace Go.Proofs.Ytadnggecnjdhiaa
open Go.RowKit Tx

theorem before_lt {may : Nat → Nat → Bool} {m : Marks} {b : Nat} (h : 0 < b) : Tx.before may m b < b := by
  unfold Tx.before
  cases hf : (List.range b).find? (befP may m b) with
  | none => exact h
  | some x => exact List.mem_range.1 (List.mem_of_find?_eq_some hf)
theorem walkBack_step (may : Nat → Nat → Bool) (m : Marks) (f b : Nat) (h : 0 < b) : walkBack may m (f + 1) b = ((b : Int) - (Tx.before may m b : Int)) :: walkBack may m f (Tx.before may m b) := by
  rw [walkBack, if_neg (by omega)]
theorem walkBack_zero (may : Nat → Nat → Bool) (m : Marks) (f : Nat) : walkBack may m f 0 = [] := by cases f <;> simp [walkBack]
def spFe (pw : Option Addr) (n cw : Nat) (v1 v2 mv : Value) (BA : Array Value) (g : Bool) : Nat → List Value → Value → World → Prop
  | 0, _, v, _ => v = .agg #[.slice pw n cw, v1, v2, mv]
  | 1, _, v, _ => v = .agg BA
  | 2, _, v, _ => v = .agg #[.slice pw n cw, v1, v2, mv]
  | 3, _, v, _ => v = .int .i64 n
  | 4, _, v, _ => v = .bool g
  | 5, _, v, _ => v = .bool (!g)
  | _, _, _, _ => False
theorem spFe_stable (pw : Option Addr) (n cw : Nat) (v1 v2 mv : Value) (BA : Array Value) (g : Bool) : ∀ i L v w w', spFe pw n cw v1 v2 mv BA g i L v w → Rs.Gr w w' → spFe pw n cw v1 v2 mv BA g i L v w' := by
  intro i L v w w' h hg
  match i with
  | 0 => exact h
  | 1 => exact h
  | 2 => exact h
  | 3 => exact h
  | 4 => exact h
  | 5 => exact h

set_option maxHeartbeats 2000000 in
set_option maxRecDepth 100000 in
theorem fewest_any (may : Nat → Nat → Bool) (n cw : Nat) (hn1 : 1 ≤ n) (hn : n ≤ 12) (pw : Option Addr) (v1 v2 mv : Value) (w : World) (hMay : MayAt mv may n (fun k => k < w.heap.size) w) :
    Calls Try.prog 100 #[.agg #[.slice pw n cw, v1, v2, mv]] w fun e w' => ∃ v, e = .returned (.tuple #[v, .int .i64 (Tx.fewest may n).2]) ∧ w'.ownsRow w.heap.size 3 1 v (Tx.fewest may n).1.length ((Tx.fewest may n).1.map (Value.int .i64)) ∧ Below w.heap.size w w' := by
  obtain ⟨i0, hi0, hz0, hz1, hz2⟩ := info_parts A_infoI
  have HMAY := Lib.hid hMay
  have HSM := Lib.hid (greatest_small (may := may) hn)
  clear hMay
  have HX0 := heap_last w (.cells #[.slice pw n cw, v1, v2, mv] 125)
  have HXA := Lib.hid HX0
  have HZA : (w.alloc (.cells #[.slice pw n cw, v1, v2, mv] 125)).heap.size = w.heap.size + 1 := by simp
  clear HX0
  go_enter Try.func100, Try.ntmps100
  go_wp2_with fail
  refine (greatest_any may n cw hn pw v1 v2 mv _ ((HMAY.out.hold (.of_below (below1 _ _) (fun _ h _ => h))).mono (fun j hj _ => by simp; omega))).mono ?_
  rintro e W1 ⟨rfl, hB1⟩
  have hz1' : w.heap.size + 1 ≤ W1.heap.size := by have := hB1.size; simpa using this
  have HX1 := Lib.hid ((hB1.block w.heap.size (by simp)).trans HXA.out)
  have HB1 := Lib.hid (join (below1 _ _) hB1)
  have hsz : (arrOf (greatest may n)).size = 13 := by rw [arrOf_size]; exact HSM.out.1
  have HI := Lib.hid (size_marks hsz)
  have HON := Lib.hid (arrOf_one (greatest may n))
  have HRE := Lib.hid (fun W => reached_any (.slice pw n cw) v1 v2 mv (greatest may n) HSM.out.1 n (by omega) W)
  clear hB1 HZA HXA
  obtain ⟨BA, hBA⟩ : ∃ BA, BA = arrOf (greatest may n) := ⟨_, rfl⟩
  rw [← hBA] at HI HON HRE hsz ⊢
  have HBA := Lib.hid hBA
  have HSZ := Lib.hid hsz
  clear hBA hsz
  go_wp2_with (with_reducible refine wpList_store_new rfl 143 _ _ rfl _ BA rfl rfl HI.out ?hs HON.out ?_)
  case hs => rw [HSZ.out]; rfl
  have HM := Lib.hid (heap_last W1 (.cells BA 143))
  have HX := Lib.hid ((Below.heap_alloc W1 (.cells BA 143) _ (show w.heap.size < W1.heap.size by omega)).trans HX1.out)
  have HB2 := Lib.hid (join HB1.out (below1 W1 (.cells BA 143)))
  have hz2' : (W1.alloc (.cells BA 143)).heap.size = W1.heap.size + 1 := by simp
  generalize hW2 : W1.alloc (.cells BA 143) = W2 at HM HX HB2 hz2' ⊢
  clear hW2
  refine Rs.region_gen 6 [[], [], [], [2], [0, 1, 2, 3], [0, 1, 2, 3, 4]] [some 10, some 11, some 12, some 13, some 14, some 15] (spFe pw n cw v1 v2 mv BA (decide ((greatest may n).getD n 0 < 99))) (by kernel_rfl) (by kernel_rfl) rfl (spFe_stable _ _ _ _ _ _ _ _) ?_ ?_
  · refine ⟨fun V w' hG hs => ?_, fun V w' hG hs => ?_, fun V w' hG hs => ?_, fun V w' hG hs => ?_, fun V w' hG hs => ?_, fun V w' hG hs => ?_, trivial⟩
    all_goals
      have hm := (hG.block W1.heap.size (by omega)).trans HM.out
      have hx := (hG.block w.heap.size (by omega)).trans HX.out
      have k0 := blk_cells hx 0 _ rfl
      have k1 := blk_cells hx 1 _ rfl
      have k2 := blk_cells hx 2 _ rfl
      have k3 := blk_cells hx 3 _ rfl
    · rw [if_pos (by rfl)]
      exact Rs.GrowL.value (v := .agg #[.slice pw n cw, v1, v2, mv]) (w' := w') (by simp [go_sem, Rs.look, k0, k1, k2, k3]) (Rs.Gr.refl _) rfl
    · rw [if_pos (by rfl)]
      exact Rs.GrowL.value (v := .agg BA) (w' := w') (exec_load_row 143 _ rfl W1.heap.size rfl 143 BA (0, 0) _ hm und_marks rfl HI.out) (Rs.Gr.refl _) rfl
    · rw [if_pos (by rfl)]
      exact Rs.GrowL.value (v := .agg #[.slice pw n cw, v1, v2, mv]) (w' := w') (by simp [go_sem, Rs.look, k0, k1, k2, k3]) (Rs.Gr.refl _) rfl
    · have e2 : V 2 = .agg #[.slice pw n cw, v1, v2, mv] := hs 2 (by simp)
      rw [if_pos (by rfl)]
      refine Rs.GrowL.call (f := 104) (args := #[.agg #[.slice pw n cw, v1, v2, mv]]) (by simp [go_sem, Rs.look, e2]) ?_
      refine (end_any _ _ _ _ _ _ _).mono ?_
      rintro e w2 ⟨rfl, rfl⟩
      exact ⟨_, rfl, below1 _ _, rfl⟩
    · have e0 : V 0 = .agg #[.slice pw n cw, v1, v2, mv] := hs 0 (by simp)
      have e1 : V 1 = .agg BA := hs 1 (by simp)
      have e2 : V 2 = .agg #[.slice pw n cw, v1, v2, mv] := hs 2 (by simp)
      have e3 : V 3 = .int .i64 n := hs 3 (by simp)
      rw [if_pos (by rfl)]
      refine Rs.GrowL.call (f := 109) (args := #[.agg #[.slice pw n cw, v1, v2, mv], .agg BA, .int .i64 n]) (by simp [go_sem, Rs.look, e0, e1, e3]) ?_
      refine (HRE.out w').mono ?_
      rintro e w2 ⟨rfl, hB2⟩
      exact ⟨_, rfl, hB2, rfl⟩
    · have e0 : V 0 = .agg #[.slice pw n cw, v1, v2, mv] := hs 0 (by simp)
      have e1 : V 1 = .agg BA := hs 1 (by simp)
      have e2 : V 2 = .agg #[.slice pw n cw, v1, v2, mv] := hs 2 (by simp)
      have e3 : V 3 = .int .i64 n := hs 3 (by simp)
      have e4 : V 4 = .bool (decide ((greatest may n).getD n 0 < 99)) := hs 4 (by simp)
      rw [if_pos (by rfl)]
      exact Rs.GrowL.value (v := .bool (!(decide ((greatest may n).getD n 0 < 99)))) (w' := w') (by simp [go_sem, Rs.look, e0, e1, e2, e3, e4]) (Rs.Gr.refl _) rfl
  · intro V w' hG hs
    have e0 : V 0 = .agg #[.slice pw n cw, v1, v2, mv] := hs 0 (by omega)
    have e1 : V 1 = .agg BA := hs 1 (by omega)
    have e2 : V 2 = .agg #[.slice pw n cw, v1, v2, mv] := hs 2 (by omega)
    have e3 : V 3 = .int .i64 n := hs 3 (by omega)
    have e4 : V 4 = .bool (decide ((greatest may n).getD n 0 < 99)) := hs 4 (by omega)
    have e5 : V 5 = .bool (!(decide ((greatest may n).getD n 0 < 99))) := hs 5 (by omega)
    simp only [Rs.canon, Rs.dstOf, List.range_succ, List.range_zero, List.nil_append, List.cons_append, List.foldl_cons, List.foldl_nil, List.drop_succ_cons, List.drop_zero, List.drop_nil, List.getElem?_toArray, List.getElem?_cons_succ, List.getElem?_cons_zero, Option.bind_some, Act.put, List.getD_cons_succ, List.getD_cons_zero, List.setIfInBounds_toArray, List.set_cons_succ, List.set_cons_zero]
    rw [e0, e1, e2, e3, e4, e5]
    clear e0 e1 e2 e3 e4 e5 hs
    have HG := Lib.hid hG
    have hzg := hG.size
    have HMw := Lib.hid ((hG.block W1.heap.size (by omega)).trans HM.out)
    have hxw := (hG.block w.heap.size (by omega)).trans HX.out
    have k0 := blk_cells hxw 0 _ rfl
    have k1 := blk_cells hxw 1 _ rfl
    have k2 := blk_cells hxw 2 _ rfl
    have k3 := blk_cells hxw 3 _ rfl
    have hsw : w.heap.size < w'.heap.size ∧ W1.heap.size < w'.heap.size := by omega
    obtain ⟨hsw0, hsw1⟩ := hsw
    have HXW := Lib.hid hxw
    clear hG hxw HX HM
    by_cases hd : (greatest may n).getD n 0 < 99
    · have hfew : Tx.fewest may n = ((walkBack may (greatest may n) n n).reverse, 0) := by unfold Tx.fewest; rw [if_pos hd]
      have HFEW := Lib.hid hfew
      rw [decide_eq_true hd]
      clear hfew hd
      go_wp2_with fail
      refine (end_any _ _ _ _ _ _ _).mono ?_
      rintro e w5 ⟨rfl, hw5⟩
      have hB5 : Below w'.heap.size w' w5 := by rw [← hw5]; exact below1 _ _
      have hz5 : w'.heap.size + 1 = w5.heap.size := by rw [← hw5]; simp
      have HM5 := Lib.hid ((hB5.block _ hsw1).trans HMw.out)
      have HX5 := Lib.hid ((hB5.block _ hsw0).trans HXW.out)
      have HB5 := Lib.hid (join HB2.out (join HG.out hB5))
      clear hw5 hB5 k0 k1 k2 k3
      go_wp2_with fail
      go_loopw [5, 6] (fun v u wr => ∃ (b f : Nat) (done : List Int), u = .int .i64 b ∧ b ≤ n ∧ b ≤ f ∧ done.length + f = n ∧ done ++ walkBack may (greatest may n) f b = walkBack may (greatest may n) n n ∧
        wr.ownsRow w5.heap.size 3 1 v done.length (done.map (Value.int .i64)) ∧ Below w5.heap.size w5 wr) (fun _ u _ => (intOf u).toNat)
      case atStart => exact ⟨n, n, [], rfl, Nat.le_refl _, Nat.le_refl _, by simp, rfl, own_none _ _ _ _, Below.refl _ _⟩
      case round =>
        obtain ⟨b, f, done, rfl, hbn, hbf, hdf, hwb, hown, hBr⟩ := hrel
        have HWB := Lib.hid hwb
        have HO := Lib.hid hown
        have HBr := Lib.hid hBr
        have HDF := Lib.hid hdf
        have hzr := hBr.size
        have hdl : done.length ≤ 12 := by omega
        have HMr := Lib.hid ((hBr.block W1.heap.size (by omega)).trans HM5.out)
        have hxr := (hBr.block w.heap.size (by omega)).trans HX5.out
        have k0 := blk_cells hxr 0 _ rfl
        have k1 := blk_cells hxr 1 _ rfl
        have k2 := blk_cells hxr 2 _ rfl
        have k3 := blk_cells hxr 3 _ rfl
        have hs0 : w.heap.size < wr.heap.size := by omega
        clear hwb hown hBr hdf hxr
        by_cases hb0 : 0 < b
        · have hb0' : (0 : Int) < b := by omega
          have hbf1 : 1 ≤ f := by omega
          have hlt := before_lt (may := may) (m := greatest may n) hb0
          have HBEF := Lib.hid (before_any may n cw hn pw v1 v2 mv (greatest may n) HSM.out b hbn wr ((HMAY.out.hold (.of_below (HB5.out.trans (HBr.out.mono (by omega))) (fun _ h _ => h))).mono (fun j hj _ => by omega)))
          rw [← HBA.out] at HBEF
          generalize hbb : Tx.before may (greatest may n) b = c at hlt HBEF
          have HBB := Lib.hid hbb
          clear hbb
          go_wp2_with (with_reducible refine wpList_load_row rfl 143 _ rfl W1.heap.size rfl 143 BA (0, 0) _ HMr.out und_marks rfl HI.out ?_)
          refine HBEF.out.mono ?_
          rintro e w6 ⟨rfl, hB6⟩
          have HO6 := Lib.hid (own_below HO.out hB6)
          have hz6 := hB6.size
          have HB6 := Lib.hid (join HBr.out hB6)
          clear hB6 HBEF k0 k1 k2 k3
          go_wp2_with (at_builtin; refine wpList_append_own _ rfl _ _ 28 rfl w5.heap.size 3 i0 (.int .i64 0) 1 8 A_undI hi0 hz0 hz1 hz2 rfl (by decide) _ _ _ rfl (HO6.out.alloc _) ⟨w6.heap.size, 0, none⟩ 1 1 [.int .i64 ((b : Int) - (c : Int))] rfl rfl ?d1 ?d2 ?d3 ?d4 ?d5 ?_)
          case d1 => exact cell_one_new _ _ _
          case d2 => first | rfl | (intro u hu; simp at hu; subst hu; rfl)
          case d3 => unfold maxLen; omega
          case d4 => omega
          case d5 => first | omega | (simp; omega)
          intro v' w8 hown8 hgrow _
          have hB8 := below_grown (al2 HB6.out (by omega) _) (HO6.out.alloc _) (Nat.le_refl _) (by simp; omega) hgrow
          have HO8 := Lib.hid hown8
          have HB8 := Lib.hid hB8
          clear hgrow hown8 hB8
          go_wp2
          go_roundw
          case rel =>
            refine ⟨c, f - 1, done ++ [(b : Int) - (c : Int)], rfl, by omega, by omega, by simp; have := HDF.out; omega, ?_, by simpa using HO8.out, HB8.out⟩
            rw [← HWB.out, show f = (f - 1) + 1 by omega, walkBack_step _ _ _ _ hb0, HBB.out, List.append_assoc]; rfl
          case measure => simp [intOf]; omega
        · obtain rfl : b = 0 := by omega
          have hdone : done = walkBack may (greatest may n) n n := by rw [← HWB.out, walkBack_zero, List.append_nil]
          have hne : done ≠ [] := by
            rw [hdone, show n = (n - 1) + 1 by omega, walkBack_step _ _ _ _ (by omega)]; simp
          obtain ⟨p, c, rfl, hints, hfr, hcl, hcc⟩ := own_rd HO.out rfl
          rcases hints with h0 | ⟨g, o, rfl, hgl, hcells⟩
          · exact absurd h0 hne
          obtain ⟨hg5, rfl, hfz⟩ := hfr g o rfl
          have HREV := Lib.hid (Try.slices_Reverse_int_cells g 0 done.length c done wr (Nat.le_refl _) (by omega) hcells (fun j _ => by simpa using hfz j))
          have HDN := Lib.hid hdone
          clear hdone hne hcells hfz hfr k0 k1 k2 k3
          go_wp2_with fail
          refine HREV.out.mono ?_
          rintro e w7 ⟨rfl, q, rfl⟩
          go_wp2
          go_ret2
          refine ⟨_, by rw [HFEW.out]; rfl, ?_, ?_⟩
          · rw [HFEW.out, ← HDN.out]
            have := own_base (own_setCells (own_drewN HO.out q) (ys := (done.map (Value.int .i64)).reverse) (by simp)) (base' := w.heap.size) (by have := HB5.out.size; omega)
            simpa using this
          · have hb5 := HB5.out.size
            exact below_setCells' (by omega) _ _ _ (below_drewN' (HB5.out.trans (HBr.out.mono hb5)) q)
    · have hfew : Tx.fewest may n = ([], 6) := by unfold Tx.fewest; rw [if_neg hd]
      have HFEW := Lib.hid hfew
      rw [decide_eq_false hd]
      clear hfew hd
      go_wp2
      go_ret2
      exact ⟨_, by rw [HFEW.out]; rfl, by rw [HFEW.out]; exact own_none _ _ _ _, join HB2.out HG.out⟩

/-- a right text at work: what its closure tells -/
theorem TxAt.hold {Kp : Nat → Prop} {w w' : World} {t : Text} {pw pt : Option Addr} (h : TxAt w t pw pt) (hh : Hold Kp w w') (hk : ∀ k, k < w.heap.size → Kp k) : TxAt w' t pw pt := by
  refine ⟨?_, ?_⟩
  · rcases h.words with h | ⟨b, o, hp, hl, h⟩
    · exact .inl h
    · exact .inr ⟨b, o, hp, Nat.lt_of_lt_of_le hl hh.size, fun i hi => ⟨(hh.cell (p := ⟨b, o + i * 3, none⟩) (hk _ hl) hl).trans (h i hi).1, (hh.cell (p := ⟨b, o + i * 3 + 1, none⟩) (hk _ hl) hl).trans (h i hi).2.1, (hh.cell (p := ⟨b, o + i * 3 + 2, none⟩) (hk _ hl) hl).trans (h i hi).2.2⟩⟩
  · rcases h.turns with h | ⟨b, o, hp, hl, h⟩
    · exact .inl h
    · exact .inr ⟨b, o, hp, Nat.lt_of_lt_of_le hl hh.size, fun i hi => ⟨(hh.cell (p := ⟨b, o + i * 3, none⟩) (hk _ hl) hl).trans (h i hi).1, (hh.cell (p := ⟨b, o + i * 3 + 1, none⟩) (hk _ hl) hl).trans (h i hi).2.1, (hh.cell (p := ⟨b, o + i * 3 + 2, none⟩) (hk _ hl) hl).trans (h i hi).2.2⟩⟩
theorem entered_right : Entered 138 := fun args W => by kernel_rfl
theorem right_may (t : Text) (pw pt : Option Addr) (cw ct : Nat) (mf : Value) (w : World) (hW : WkAt w t pw pt cw) :
    MayAt (.func (.func 138) #[.agg #[.slice pw t.words.length cw, .slice pt t.turns.length ct, .int .i64 t.breath, mf]] #[]) t.right t.words.length (fun k => k < w.heap.size) w :=
  ⟨138, _, _, rfl, entered_right, fun W hH a b hab hb => right_any t pw pt cw ct mf a b (by omega) hb W ⟨hW.ok, hW.at_.hold hH (fun k hk => hk), hW.cap⟩⟩

/-- what Fewest tells -/
def fewL (t : Text) : List Int := if t.err = 0 then (Tx.fewest t.right t.words.length).1 else []
def fewE (t : Text) : Int := if t.err = 0 then (Tx.fewest t.right t.words.length).2 else t.err
def ListPost (l : List Int) (er : Int) (w : World) (e : Ending) (w' : World) : Prop := ∃ v, e = .returned (.tuple #[v, .int .i64 er]) ∧ w'.ownsRow w.heap.size 3 1 v l.length (l.map (Value.int .i64)) ∧ Below w.heap.size w w'
set_option maxHeartbeats 800000 in
theorem Fewest_any (t : Text) (hl1 : t.words.length ≤ 1000000) (hl2 : t.turns.length ≤ 1000000) (pw pt : Option Addr) (cw ct : Nat) (hcw : t.words.length ≤ cw ∧ cw ≤ maxLen) (w : World) (hW : TxAt w t pw pt) :
    Calls Try.prog 30 #[.agg #[.slice pw t.words.length cw, .slice pt t.turns.length ct, .int .i64 t.breath]] w (ListPost (fewL t) (fewE t) w) := by
  by_cases he : t.err = 0
  · have ok := err_ok he
    have h1 : fewL t = (Tx.fewest t.right t.words.length).1 := if_pos he
    have h2 : fewE t = (Tx.fewest t.right t.words.length).2 := if_pos he
    rw [h1, h2]
    have HS := Lib.hid (fun W (h : Below w.heap.size w W) => open_ok t he pw pt cw ct W (hW.below h))
    have HF := Lib.hid (fun W (h : Below w.heap.size w W) => fewest_any t.right t.words.length cw ok.n1 ok.n12 pw (.slice pt t.turns.length ct) (.int .i64 t.breath) _ W (right_may t pw pt cw ct .nilFunc W ⟨ok, hW.below h, hcw⟩))
    clear hW he h1 h2 ok
    go_enter Try.func30, Try.ntmps30
    go_wp2_with fail
    refine (HS.out _ (below1 _ _)).mono ?_
    rintro e w5 ⟨rfl, hB5⟩
    have HB5 := Lib.hid (join (below1 _ _) hB5)
    clear hB5
    go_wp2_with fail
    refine (HF.out _ (join HB5.out (below1 _ _))).mono ?_
    rintro e w6 ⟨v, rfl, hown, hB6⟩
    have HO := Lib.hid hown
    have HB6 := Lib.hid hB6
    clear hown hB6
    go_wp2
    go_ret2
    have hz := HB5.out.size
    exact ⟨_, rfl, own_base HO.out (by simp; omega), join (join HB5.out (below1 _ _)) HB6.out⟩
  · have h1 : fewL t = [] := if_neg he
    have h2 : fewE t = t.err := if_neg he
    rw [h1, h2]
    have HS := Lib.hid (fun W (h : Below w.heap.size w W) => open_bad t he hl1 hl2 pw pt cw ct W (hW.below h))
    have HE : (t.err != 0) = true := by simpa using he
    clear hW he h1 h2
    generalize t.err = er at HE HS ⊢
    go_enter Try.func30, Try.ntmps30
    go_wp2_with fail
    refine (HS.out _ (below1 _ _)).mono ?_
    rintro e w5 ⟨rfl, hB5⟩
    have HB5 := Lib.hid (join (below1 _ _) hB5)
    clear hB5
    go_wp2
    go_ret2
    exact ⟨_, rfl, own_none _ _ _ _, join HB5.out (below1 _ _)⟩
end Go.Proofs.Ytadnggecnjdhiaa
set_option linter.unusedSimpArgs false
set_option linter.unusedVariables false
namespace Go.Proofs.Ytadnggecnjdhiaa
open Go.RowKit Tx
attribute [local go_sem] Oper.semAt_some

theorem off_any (n lo hi : Int) (w : World) : Calls Try.prog 88 #[.int .i64 n, .int .i64 lo, .int .i64 hi] w fun e w' => e = .returned (.bool (!btw n lo hi)) ∧ w = w' := by
  by_cases h : n < lo
  · have HF : Hid ((!btw n lo hi) = true) := Lib.hid (by unfold btw; rw [decide_eq_false (by omega)]; rfl)
    generalize (!btw n lo hi) = b at HF ⊢
    go_enter Try.func88, Try.ntmps88
    go_wp2
    go_ret
    exact ⟨by rw [HF.out]; rfl, rfl⟩
  · by_cases h2 : hi < n
    · have HF : Hid ((!btw n lo hi) = true) := Lib.hid (by unfold btw; rw [decide_eq_false (show ¬ n ≤ hi by omega), Bool.and_false]; rfl)
      generalize (!btw n lo hi) = b at HF ⊢
      go_enter Try.func88, Try.ntmps88
      go_wp2
      go_ret
      exact ⟨by rw [HF.out]; rfl, rfl⟩
    · have HF : Hid ((!btw n lo hi) = false) := Lib.hid (by unfold btw; rw [decide_eq_true (show lo ≤ n by omega), decide_eq_true (show n ≤ hi by omega)]; rfl)
      generalize (!btw n lo hi) = b at HF ⊢
      go_enter Try.func88, Try.ntmps88
      go_wp2
      go_ret
      exact ⟨by rw [HF.out]; rfl, rfl⟩

set_option maxHeartbeats 1000000 in
set_option maxRecDepth 100000 in
theorem has_any (l : List Int) (n : Int) (hll : l.length ≤ 1000000) (p : Option Addr) (c : Nat) (w : World) (hL : Ints w p l) :
    Calls Try.prog 124 #[.slice p l.length c, .int .i64 n] w fun e w' => e = .returned (.bool (l.contains n)) ∧ Below w.heap.size w w' := by
  have HL := Lib.hid hL
  clear hL
  go_enter Try.func124, Try.ntmps124
  go_wp2
  go_loopg [5] l.length (fun g i wi => ∃ k : Nat, g + k = l.length ∧ i = .int .i64 k ∧ (∀ j, j < k → l.getD j 0 ≠ n) ∧ Below w.heap.size w wi)
  case atStart => exact ⟨0, by omega, rfl, fun j hj => by omega, Below.refl _ _⟩
  case round =>
    obtain ⟨k, hk, rfl, hE, hB⟩ := hrel
    have HE := Lib.hid hE
    have HB := Lib.hid hB
    by_cases hlt : k < l.length
    · have hlt' : (k : Int) < l.length := by omega
      obtain ⟨b, o, x, rfl, hbl, hx, hc⟩ := HL.out.at hlt
      have d1 := (hB.cell (p := ⟨b, o + k, none⟩) hbl).trans hc
      have HX := Lib.hid hx
      clear hE hB hx hc
      by_cases hxn : x = n
      · subst hxn
        go_wp2
        go_ret
        have : l.contains x = true := by
          rw [List.contains_iff_mem, HX.out, List.getD_eq_getElem?_getD, List.getElem?_eq_getElem hlt]; exact List.getElem_mem hlt
        exact ⟨by rw [this]; rfl, HB.out⟩
      · have hxn' : (x == n) = false := by simpa using hxn
        have HN := Lib.hid hxn
        clear hxn
        go_wp2
        go_roundg (gk - 1)
        case rel => exact ⟨k + 1, by omega, by simp, fun j hj => by
          rcases Nat.lt_succ_iff_lt_or_eq.1 hj with hj | rfl
          · exact HE.out j hj
          · rw [← HX.out]; exact HN.out, HB.out⟩
        case measure => omega
    · have hkk : k = l.length := by omega
      subst hkk
      clear hE hB
      go_wp2
      go_ret
      have : l.contains n = false := by
        rw [Bool.eq_false_iff]
        intro h
        rw [List.contains_iff_mem] at h
        obtain ⟨i, hi, he⟩ := List.getElem_of_mem h
        have := HE.out i hi
        rw [List.getD_eq_getElem?_getD, List.getElem?_eq_getElem hi] at this
        exact this he
      exact ⟨by rw [this]; rfl, HB.out⟩

def wordsL (a : Int) (n : Nat) : List Int := (List.range n).map fun (i : Nat) => a + (i : Int)
theorem wordsL_succ (a : Int) (n : Nat) : wordsL a (n + 1) = wordsL a n ++ [a + (n : Int)] := by unfold wordsL; rw [List.range_succ, List.map_append]; rfl
theorem wordsL_length (a : Int) (n : Nat) : (wordsL a n).length = n := by simp [wordsL]
set_option maxHeartbeats 1000000 in
set_option maxRecDepth 100000 in
theorem words_any (a b : Int) (ha : -1000000 ≤ a ∧ a ≤ 1000000) (hb : -1000000 ≤ b ∧ b ≤ 1000000) (w : World) :
    Calls Try.prog 93 #[.int .i64 a, .int .i64 b] w (RowPost (wordsL a (b - a).toNat) w) := by
  obtain ⟨i0, hi0, hz0, hz1, hz2⟩ := info_parts A_infoI
  go_enter Try.func93, Try.ntmps93
  go_wp2
  go_loopw [5, 6] (fun v i wr => ∃ k : Nat, k ≤ (b - a).toNat ∧ i = .int .i64 (a + (k : Int)) ∧ wr.ownsRow w.heap.size 3 1 v (wordsL a k).length ((wordsL a k).map (Value.int .i64)) ∧ Below w.heap.size w wr) (fun _ i _ => (b - intOf i).toNat)
  case atStart => exact ⟨0, Nat.zero_le _, by simp, own_none _ _ _ _, Below.refl _ _⟩
  case round =>
    obtain ⟨k, hk, rfl, hown, hBr⟩ := hrel
    have HO := Lib.hid hown
    have HBr := Lib.hid hBr
    have hlen : (wordsL a k).length ≤ 3000000 := by rw [wordsL_length]; omega
    have hz7 := hBr.size
    by_cases hlt : a + (k : Int) < b
    · have HK := Lib.hid hk
      have HSN := Lib.hid (wordsL_succ a k)
      have hinc : a + (k : Int) + 1 = a + ((k + 1 : Nat) : Int) := by push_cast; omega
      have HI := Lib.hid hinc
      obtain ⟨q, hq⟩ : ∃ q : Int, q = a + (k : Int) := ⟨_, rfl⟩
      have hq1 : -1000000 ≤ q ∧ q < 1000000 := by omega
      obtain ⟨hq1, hq2⟩ := hq1
      rw [← hq] at hlt HSN HI ⊢
      have HQ := Lib.hid hq
      clear hown hBr hk hinc hq
      go_wp2_with (at_builtin; refine wpList_append_own _ rfl _ _ 28 rfl w.heap.size 3 i0 (.int .i64 0) 1 8 A_undI hi0 hz0 hz1 hz2 rfl (by decide) _ _ _ rfl (HO.out.alloc _) ⟨wr.heap.size, 0, none⟩ 1 1 [.int .i64 q] rfl rfl ?d1 ?d2 ?d3 ?d4 ?d5 ?_)
      case d1 => exact cell_one_new _ _ _
      case d2 => first | rfl | (intro u hu; simp at hu; subst hu; rfl)
      case d3 => unfold maxLen; omega
      case d4 => omega
      case d5 => first | omega | (simp; omega)
      intro v' w8 hown8 hgrow _
      have hB8 := below_grown (al2 HBr.out (by omega) _) (HO.out.alloc _) (Nat.le_refl _) (by simp; omega) hgrow
      have HO8 := Lib.hid hown8
      have HB8 := Lib.hid hB8
      clear hgrow hown8 hB8
      go_wp2
      go_roundw
      case rel => exact ⟨k + 1, by have := HQ.out; omega, by rw [HI.out], by rw [HSN.out]; simpa using HO8.out, HB8.out⟩
      case measure => simp [intOf]; omega
    · obtain rfl : k = (b - a).toNat := by omega
      have HLT := Lib.hid hlt
      clear hown hBr hk
      go_wp2
      go_ret
      exact ⟨_, rfl, HO.out, HBr.out⟩
end Go.Proofs.Ytadnggecnjdhiaa
set_option linter.unusedSimpArgs false
set_option linter.unusedVariables false
namespace Go.Proofs.Ytadnggecnjdhiaa
open Go.RowKit Tx
attribute [local go_sem] Oper.semAt_some

theorem off_b (n lo hi : Int) (b : Bool) (h : (!btw n lo hi) = b) (w : World) : Calls Try.prog 88 #[.int .i64 n, .int .i64 lo, .int .i64 hi] w fun e w' => e = .returned (.bool b) ∧ w = w' := by
  rw [← h]; exact off_any n lo hi w
theorem off_q (n lo hi : Int) (b : Bool) (h : (!btw n lo hi) = b) (w : World) : Calls Try.prog 88 #[.int .i64 n, .int .i64 lo, .int .i64 hi] w fun e w' => e = .returned (.bool b) ∧ w' = w :=
  (off_b n lo hi b h w).mono fun _ _ ⟨he, hw⟩ => ⟨he, hw.symm⟩
theorem not_btw {n lo hi : Int} {b : Bool} (h : btw n lo hi = b) : (!btw n lo hi) = !b := by rw [h]
theorem badWord_def (x : Word) : badWord x = (!btw x.syl 1 9 || !btw x.wt 0 20) := rfl
theorem names_def (n : Nat) (u : Turn) : namesNo n u = (!btw u.word 0 ((n : Int) - 1) || !btw u.lo 0 ((n : Int) - 1) || !btw u.hi 0 ((n : Int) - 1)) := rfl
theorem err_c {t : Text} (h : btw (t.words.length : Int) 1 12 = false ∨ 6 < t.turns.length) : t.err = 2 := by
  unfold Text.err Text.len; rw [if_pos]
  rcases h with h | h
  · simp [btw] at h; omega
  · omega
theorem err_r {t : Text} (h1 : btw (t.words.length : Int) 1 12 = true) (h2 : t.turns.length ≤ 6) (h : btw t.breath 1 40 = false ∨ t.words.any badWord = true) : t.err = 3 := by
  unfold Text.err Text.len
  have a := btw_true h1
  rw [if_neg (by omega)]
  by_cases hb : t.breath < 1 ∨ 40 < t.breath
  · rw [if_pos hb]
  · rw [if_neg hb]
    rcases h with h | h
    · simp [btw] at h; omega
    · rw [if_pos h]
theorem err_n {t : Text} (h1 : btw (t.words.length : Int) 1 12 = true) (h2 : t.turns.length ≤ 6) (h3 : btw t.breath 1 40 = true) (h4 : t.words.any badWord = false) :
    t.err = if t.turns.any (namesNo t.words.length) then 1 else if t.turns.any endsB then 4 else if t.turns.any itself then 7 else 0 := by
  unfold Text.err Text.len
  have a := btw_true h1
  have b := btw_true h3
  rw [if_neg (by omega), if_neg (by omega), if_neg (by rw [h4]; decide)]
set_option maxHeartbeats 6000000 in
set_option maxRecDepth 100000 in
theorem rCheck_any (t : Text) (hl1 : t.words.length ≤ 1000000) (hl2 : t.turns.length ≤ 1000000) (pw pt : Option Addr) (cw ct : Nat) (w : World) (hW : TxAt w t pw pt) :
    Calls Try.prog 23 #[.agg #[.slice pw t.words.length cw, .slice pt t.turns.length ct, .int .i64 t.breath]] w fun e w' => e = .returned (.int .i64 t.err) ∧ Below w.heap.size w w' := by
  have HB := Lib.hid (below1 w (.cells #[.slice pw t.words.length cw, .slice pt t.turns.length ct, .int .i64 t.breath] 35))
  have HX := Lib.hid (heap_last w (.cells #[.slice pw t.words.length cw, .slice pt t.turns.length ct, .int .i64 t.breath] 35))
  have HW := Lib.hid (hW.below HB.out)
  clear hW
  cases hn : btw (t.words.length : Int) 1 12 with
  | false =>
    have HE := Lib.hid (err_c (.inl hn))
    have HN := Lib.hid (not_btw hn)
    obtain ⟨k0, k1, k2⟩ := blk3 HX.out
    clear hn
    go_enter Try.func23, Try.ntmps23
    go_wp2_with fail
    refine (off_b _ _ _ _ HN.out _).mono ?_
    rintro e w' ⟨rfl, rfl⟩
    go_wp2
    go_ret
    exact ⟨ret_int HE.out.symm, HB.out⟩
  | true =>
  have HN := Lib.hid (not_btw hn)
  have HN' := Lib.hid hn
  clear hn
  by_cases hm : 6 < t.turns.length
  · have HE := Lib.hid (err_c (.inr hm))
    have hm' : (6 : Int) < t.turns.length := by omega
    obtain ⟨k0, k1, k2⟩ := blk3 HX.out
    go_enter Try.func23, Try.ntmps23
    go_wp2_with fail
    refine (off_b _ _ _ _ HN.out _).mono ?_
    rintro e w' ⟨rfl, rfl⟩
    go_wp2
    go_ret
    exact ⟨ret_int HE.out.symm, HB.out⟩
  have hm' : ¬ (6 : Int) < t.turns.length := by omega
  have HM := Lib.hid (show t.turns.length ≤ 6 by omega)
  cases hb : btw t.breath 1 40 with
  | false =>
    have HE := Lib.hid (err_r HN'.out HM.out (.inl hb))
    have HBR := Lib.hid (not_btw hb)
    obtain ⟨k0, k1, k2⟩ := blk3 HX.out
    clear hm hb
    go_enter Try.func23, Try.ntmps23
    go_wp2_with fail
    refine (off_b _ _ _ _ HN.out _).mono ?_
    rintro e w' ⟨rfl, rfl⟩
    go_wp2_with fail
    refine (off_b _ _ _ _ HBR.out _).mono ?_
    rintro e w' ⟨rfl, rfl⟩
    go_wp2
    go_ret
    exact ⟨ret_int HE.out.symm, HB.out⟩
  | true =>
  have HBR := Lib.hid (not_btw hb)
  have HBR' := Lib.hid hb
  obtain ⟨k0, k1, k2⟩ := blk3 HX.out
  have HEW := Lib.hid (fun h => err_r HN'.out HM.out (.inr h))
  have HEN := Lib.hid (err_n HN'.out HM.out HBR'.out)
  have hn12 := btw_true HN'.out
  generalize hER : t.err = er at HEW HEN ⊢
  clear hm hb hER HN' HBR'
  go_enter Try.func23, Try.ntmps23
  go_wp2_with fail
  refine (off_b _ _ _ _ HN.out _).mono ?_
  rintro e w' ⟨rfl, rfl⟩
  go_wp2_with fail
  refine (off_b _ _ _ _ HBR.out _).mono ?_
  rintro e w' ⟨rfl, rfl⟩
  go_wp2_with fail
  generalize hW1 : w.alloc (.cells #[.slice pw t.words.length cw, .slice pt t.turns.length ct, .int .i64 t.breath] 35) = W1 at HB HX HW k0 k1 k2 ⊢
  clear hW1
  go_loop [4] (fun i => ∃ k : Nat, k ≤ t.words.length ∧ i = .int .i64 k ∧ (t.words.take k).any badWord = false) (fun i => t.words.length - (intOf i).toNat)
  case atStart => exact ⟨0, Nat.zero_le _, rfl, rfl⟩
  case round =>
    obtain ⟨k, hk, rfl, hA⟩ := hrel
    have HA := Lib.hid hA
    clear hA
    by_cases hlt : k < t.words.length
    · have hlt' : (k : Int) < t.words.length := by omega
      obtain ⟨b, o, x, rfl, hbl, hxx, c1, c2, c3⟩ := HW.out.words.at hlt
      have HXX := Lib.hid hxx
      have HBD := Lib.hid (badWord_def x)
      clear hxx
      obtain ⟨xs, xw, xb⟩ := x
      dsimp only at c1 c2 c3 HBD
      cases h1 : btw xs 1 9 with
      | false =>
        have H1 := Lib.hid (not_btw h1)
        have HH : Hid (badWord ⟨xs, xw, xb⟩ = true) := Lib.hid (by rw [HBD.out, h1]; rfl)
        clear h1 HBD
        go_wp2_with fail
        refine (off_b _ _ _ _ H1.out _).mono ?_
        rintro e w' ⟨rfl, rfl⟩
        go_wp2
        go_ret
        exact ⟨ret_int (HEW.out (any_hit default hlt _ (by rw [← HXX.out]; exact HH.out))).symm, HB.out⟩
      | true =>
        cases h2 : btw xw 0 20 with
        | false =>
          have H1 := Lib.hid (not_btw h1)
          have H2 := Lib.hid (not_btw h2)
          have HH : Hid (badWord ⟨xs, xw, xb⟩ = true) := Lib.hid (by rw [HBD.out, h1, h2]; rfl)
          clear h1 h2 HBD
          go_wp2_with fail
          refine (off_b _ _ _ _ H1.out _).mono ?_
          rintro e w' ⟨rfl, rfl⟩
          go_wp2_with fail
          refine (off_b _ _ _ _ H2.out _).mono ?_
          rintro e w' ⟨rfl, rfl⟩
          go_wp2
          go_ret
          exact ⟨ret_int (HEW.out (any_hit default hlt _ (by rw [← HXX.out]; exact HH.out))).symm, HB.out⟩
        | true =>
          have H1 := Lib.hid (not_btw h1)
          have H2 := Lib.hid (not_btw h2)
          have HH : Hid (badWord ⟨xs, xw, xb⟩ = false) := Lib.hid (by rw [HBD.out, h1, h2]; rfl)
          clear h1 h2 HBD
          go_wp2_with fail
          refine (off_b _ _ _ _ H1.out _).mono ?_
          rintro e w' ⟨rfl, rfl⟩
          go_wp2_with fail
          refine (off_b _ _ _ _ H2.out _).mono ?_
          rintro e w' ⟨rfl, rfl⟩
          go_wp2
          go_round
          case rel => exact ⟨k + 1, by omega, by go_num, any_snoc default hlt _ HA.out (by rw [← HXX.out]; exact HH.out)⟩
          case measure => simp [intOf]; omega
    · obtain rfl : k = t.words.length := by omega
      have HEN := Lib.hid (HEN.out (by have := HA.out; rwa [List.take_length] at this))
      clear HEW HA hlt
      go_wp2_with fail
      go_loop [5] (fun i => ∃ k : Nat, k ≤ t.turns.length ∧ i = .int .i64 k ∧ (t.turns.take k).any (namesNo t.words.length) = false) (fun i => t.turns.length - (intOf i).toNat)
      case atStart => exact ⟨0, Nat.zero_le _, rfl, rfl⟩
      case round =>
        obtain ⟨k, hk, rfl, hA⟩ := hrel
        have HA := Lib.hid hA
        clear hA
        by_cases hlt : k < t.turns.length
        · have hlt' : (k : Int) < t.turns.length := by omega
          obtain ⟨b, o, x, rfl, hbl, hxx, c1, c2, c3⟩ := HW.out.turns.at hlt
          have HXX := Lib.hid hxx
          have HBD := Lib.hid (names_def t.words.length x)
          clear hxx
          obtain ⟨uw, ul, uh⟩ := x
          dsimp only at c1 c2 c3 HBD
          cases h1 : btw uw 0 ((t.words.length : Int) - 1) with
          | false =>
            have H1 := Lib.hid (not_btw h1)
            have HH : Hid (namesNo t.words.length ⟨uw, ul, uh⟩ = true) := Lib.hid (by rw [HBD.out, h1]; rfl)
            clear h1 HBD
            go_wp2_with fail
            refine (off_b _ _ _ _ H1.out _).mono ?_
            rintro e w' ⟨rfl, rfl⟩
            go_wp2
            go_ret
            exact ⟨ret_int (by rw [HEN.out, if_pos (any_hit default hlt _ (by rw [← HXX.out]; exact HH.out))]), HB.out⟩
          | true =>
            cases h2 : btw ul 0 ((t.words.length : Int) - 1) with
            | false =>
              have H1 := Lib.hid (not_btw h1)
              have H2 := Lib.hid (not_btw h2)
              have HH : Hid (namesNo t.words.length ⟨uw, ul, uh⟩ = true) := Lib.hid (by rw [HBD.out, h1, h2]; rfl)
              clear h1 h2 HBD
              go_wp2_with fail
              refine (off_b _ _ _ _ H1.out _).mono ?_
              rintro e w' ⟨rfl, rfl⟩
              go_wp2_with fail
              refine (off_b _ _ _ _ H2.out _).mono ?_
              rintro e w' ⟨rfl, rfl⟩
              go_wp2
              go_ret
              exact ⟨ret_int (by rw [HEN.out, if_pos (any_hit default hlt _ (by rw [← HXX.out]; exact HH.out))]), HB.out⟩
            | true =>
              cases h3 : btw uh 0 ((t.words.length : Int) - 1) with
              | false =>
                have H1 := Lib.hid (not_btw h1)
                have H2 := Lib.hid (not_btw h2)
                have H3 := Lib.hid (not_btw h3)
                have HH : Hid (namesNo t.words.length ⟨uw, ul, uh⟩ = true) := Lib.hid (by rw [HBD.out, h1, h2, h3]; rfl)
                clear h1 h2 h3 HBD
                go_wp2_with fail
                refine (off_b _ _ _ _ H1.out _).mono ?_
                rintro e w' ⟨rfl, rfl⟩
                go_wp2_with fail
                refine (off_b _ _ _ _ H2.out _).mono ?_
                rintro e w' ⟨rfl, rfl⟩
                go_wp2_with fail
                refine (off_b _ _ _ _ H3.out _).mono ?_
                rintro e w' ⟨rfl, rfl⟩
                go_wp2
                go_ret
                exact ⟨ret_int (by rw [HEN.out, if_pos (any_hit default hlt _ (by rw [← HXX.out]; exact HH.out))]), HB.out⟩
              | true =>
                have H1 := Lib.hid (not_btw h1)
                have H2 := Lib.hid (not_btw h2)
                have H3 := Lib.hid (not_btw h3)
                have HH : Hid (namesNo t.words.length ⟨uw, ul, uh⟩ = false) := Lib.hid (by rw [HBD.out, h1, h2, h3]; rfl)
                clear h1 h2 h3 HBD
                go_wp2_with fail
                refine (off_b _ _ _ _ H1.out _).mono ?_
                rintro e w' ⟨rfl, rfl⟩
                go_wp2_with fail
                refine (off_b _ _ _ _ H2.out _).mono ?_
                rintro e w' ⟨rfl, rfl⟩
                go_wp2_with fail
                refine (off_b _ _ _ _ H3.out _).mono ?_
                rintro e w' ⟨rfl, rfl⟩
                go_wp2
                go_round
                case rel => exact ⟨k + 1, by omega, by go_num, any_snoc default hlt _ HA.out (by rw [← HXX.out]; exact HH.out)⟩
                case measure => simp [intOf]; omega
        · obtain rfl : k = t.turns.length := by omega
          have HEN : Hid (er = if t.turns.any endsB then 4 else if t.turns.any itself then 7 else 0) := Lib.hid (by rw [HEN.out, if_neg]; have := HA.out; rw [List.take_length] at this; rw [this]; decide)
          clear HA hlt
          go_wp2_with fail
          go_loopw [6] (fun i wr => ∃ k : Nat, k ≤ t.turns.length ∧ i = .int .i64 k ∧ (t.turns.take k).any endsB = false ∧ Below W1.heap.size W1 wr) (fun i _ => t.turns.length - (intOf i).toNat)
          case atStart => exact ⟨0, Nat.zero_le _, rfl, rfl, Below.refl _ _⟩
          case round =>
            obtain ⟨k, hk, rfl, hA, hBr⟩ := hrel
            have HA := Lib.hid hA
            have HBr := Lib.hid hBr
            obtain ⟨k0, k1, k2⟩ := blk3 ((hBr.block w.heap.size (Array.getElem?_eq_some_iff.1 HX.out).1).trans HX.out)
            clear hA hBr
            by_cases hlt : k < t.turns.length
            · have hlt' : (k : Int) < t.turns.length := by omega
              obtain ⟨b, o, x, rfl, hbl, hxx, c1, c2, c3⟩ := (HW.out.below HBr.out).turns.at hlt
              have HXX := Lib.hid hxx
              clear hxx
              obtain ⟨uw, ul, uh⟩ := x
              dsimp only at c1 c2 c3
              by_cases hgt : uh < ul
              · have HH : Hid (endsB ⟨uw, ul, uh⟩ = true) := Lib.hid (by simp [endsB, hgt])
                go_wp2
                go_quiet (fail)
                go_wp2
                go_ret
                exact ⟨ret_int (by rw [HEN.out, if_pos (any_hit default hlt _ (by rw [← HXX.out]; exact HH.out))]), join HB.out (below_drewN' HBr.out _)⟩
              · have HH : Hid (endsB ⟨uw, ul, uh⟩ = false) := Lib.hid (by simp [endsB, hgt])
                go_wp2
                go_quiet (fail)
                go_wp2
                go_roundw
                case rel => exact ⟨k + 1, by omega, by go_num, any_snoc default hlt _ HA.out (by rw [← HXX.out]; exact HH.out), below_drewN' HBr.out _⟩
                case measure => simp [intOf]; omega
            · obtain rfl : k = t.turns.length := by omega
              have HEN : Hid (er = if t.turns.any itself then 7 else 0) := Lib.hid (by rw [HEN.out, if_neg]; have := HA.out; rw [List.take_length] at this; rw [this]; decide)
              clear HA hlt
              go_wp2_with fail
              go_loopw [7] (fun i wr => ∃ k : Nat, k ≤ t.turns.length ∧ i = .int .i64 k ∧ (t.turns.take k).any itself = false ∧ Below W1.heap.size W1 wr) (fun i _ => t.turns.length - (intOf i).toNat)
              case atStart => exact ⟨0, Nat.zero_le _, rfl, rfl, HBr.out⟩
              case round =>
                rename_i wr0 _ _ _
                obtain ⟨k, hk, rfl, hA, hBr⟩ := hrel
                have HA := Lib.hid hA
                clear HBr
                have HBr := Lib.hid hBr
                obtain ⟨k0, k1, k2⟩ := blk3 ((hBr.block w.heap.size (Array.getElem?_eq_some_iff.1 HX.out).1).trans HX.out)
                clear hA hBr
                by_cases hlt : k < t.turns.length
                · have hlt' : (k : Int) < t.turns.length := by omega
                  obtain ⟨b, o, x, rfl, hbl, hxx, c1, c2, c3⟩ := (HW.out.below HBr.out).turns.at hlt
                  have HXX := Lib.hid hxx
                  clear hxx
                  obtain ⟨uw, ul, uh⟩ := x
                  dsimp only at c1 c2 c3
                  cases h1 : btw uw ul uh with
                  | true =>
                    have HH : Hid (itself ⟨uw, ul, uh⟩ = true) := Lib.hid h1
                    have H1 := Lib.hid (not_btw h1)
                    clear h1
                    go_wp2
                    go_quiet ((go_at_call 88; exact Calls.quiet_of_same (off_q _ _ _ _ H1.out _)))
                    go_wp2
                    go_ret
                    exact ⟨ret_int (by rw [HEN.out, if_pos (any_hit default hlt _ (by rw [← HXX.out]; exact HH.out))]), join HB.out (below_drewN' HBr.out _)⟩
                  | false =>
                    have HH : Hid (itself ⟨uw, ul, uh⟩ = false) := Lib.hid h1
                    have H1 := Lib.hid (not_btw h1)
                    clear h1
                    go_wp2
                    go_quiet ((go_at_call 88; exact Calls.quiet_of_same (off_q _ _ _ _ H1.out _)))
                    go_wp2
                    go_roundw
                    case rel => exact ⟨k + 1, by omega, by go_num, any_snoc default hlt _ HA.out (by rw [← HXX.out]; exact HH.out), below_drewN' HBr.out _⟩
                    case measure => simp [intOf]; omega
                · obtain rfl : k = t.turns.length := by omega
                  have HEN : Hid (er = 0) := Lib.hid (by rw [HEN.out, if_neg]; have := HA.out; rw [List.take_length] at this; rw [this]; decide)
                  clear HA hlt
                  go_wp2
                  go_ret
                  exact ⟨ret_int HEN.out.symm, join HB.out HBr.out⟩
end Go.Proofs.Ytadnggecnjdhiaa
set_option linter.unusedSimpArgs false
set_option linter.unusedVariables false
namespace Go.Proofs.Ytadnggecnjdhiaa
open Go.RowKit Tx

/-- the kind of what is wrong with a breath -/
def kindOf (t : Text) (a b : Nat) : Option Int := if t.isK 0 a b then some 0 else if t.isK 1 a b then some 1 else if t.isK 2 a b then some 2 else none
/-- the first breath of a reading that is not right, from its breath i at the place a on -/
def wrongGo (t : Text) : Nat → Nat → List Int → Int × Int × Int
  | _, _, [] => (0, 0, 6)
  | i, a, x :: l => match kindOf t a (a + x.toNat) with
    | some k => (i, k, 0)
    | none => wrongGo t (i + 1) (a + x.toNat) l
theorem isum_take_le {l : List Int} {n : Int} (h : ∀ x ∈ l, 0 ≤ x) (hs : isum l = n) (k : Nat) : 0 ≤ isum (l.take k) ∧ isum (l.take k) ≤ n := by
  have h1 : isum l = isum (l.take k) + isum (l.drop k) := by rw [← isum_append, List.take_append_drop]
  have pos : ∀ m : List Int, (∀ x ∈ m, 0 ≤ x) → 0 ≤ isum m := by
    intro m
    induction m with
    | nil => intro _; simp [isum]
    | cons x m ih => intro hm; rw [isum_cons]; have := hm x (by simp); have := ih (fun y hy => hm y (by simp [hy])); omega
  have h2 := pos (l.take k) (fun x hx => h x (List.mem_of_mem_take hx))
  have h3 := pos (l.drop k) (fun x hx => h x (List.mem_of_mem_drop hx))
  omega
theorem wrongGo_at (t : Text) (l : List Int) (k a : Nat) (h : k < l.length) : wrongGo t k a (l.drop k) = match kindOf t a (a + (l.getD k 0).toNat) with | some q => ((k : Int), q, 0) | none => wrongGo t (k + 1) (a + (l.getD k 0).toNat) (l.drop (k + 1)) := by
  rw [List.drop_eq_getElem_cons h, wrongGo]
  rw [show l[k] = l.getD k 0 from by simp [h]]

set_option maxHeartbeats 2000000 in
set_option maxRecDepth 100000 in
theorem firstWrong_any (t : Text) (l : List Int) (hx : ∀ x ∈ l, 1 ≤ x ∧ x ≤ 12) (hs : isum l = t.words.length) (pw pt pl : Option Addr) (cw ct cl : Nat) (mv : Value) (w : World) (hW : WkAt w t pw pt cw) (hL : Ints w pl l) (hll : l.length ≤ 1000000) :
    Calls Try.prog 96 #[.agg #[.slice pw t.words.length cw, .slice pt t.turns.length ct, .int .i64 t.breath, mv], .slice pl l.length cl] w fun e w' =>
      e = .returned (.tuple #[.int .i64 (wrongGo t 0 0 l).1, .int .i64 (wrongGo t 0 0 l).2.1, .int .i64 (wrongGo t 0 0 l).2.2]) ∧ Below w.heap.size w w' := by
  have HIS := Lib.hid (fun W (h : Below w.heap.size w W) (k : Nat) (hk : k ≤ 2) (a b : Nat) (hab : a ≤ b) (hb : b ≤ t.words.length) => isK_any t pw pt cw ct mv k hk a b hab hb W (hW.below h))
  have HL := Lib.hid hL
  have HX := Lib.hid hx
  have hn12 := hW.ok.n12
  have HPRE := Lib.hid (fun k => isum_take_le (fun x h => by have := hx x h; omega) hs k)
  have HS := Lib.hid hs
  have HX0 := Lib.hid (heap_last w (.cells #[.slice pw t.words.length cw, .slice pt t.turns.length ct, .int .i64 t.breath, mv] 125))
  have HB1 := Lib.hid (below1 w (.cells #[.slice pw t.words.length cw, .slice pt t.turns.length ct, .int .i64 t.breath, mv] 125))
  have hz1 : (w.alloc (.cells #[.slice pw t.words.length cw, .slice pt t.turns.length ct, .int .i64 t.breath, mv] 125)).heap.size = w.heap.size + 1 := by simp
  clear hW hL hx hs
  go_enter Try.func96, Try.ntmps96
  go_wp2_with fail
  go_step3
  go_wp2_with fail
  go_step3
  go_wp2_with fail
  generalize hW1 : w.alloc (.cells #[.slice pw t.words.length cw, .slice pt t.turns.length ct, .int .i64 t.breath, mv] 125) = W1 at HX0 HB1 hz1 ⊢
  clear hW1
  go_loopg [7, 8, 9, 10, 11, 12, 13, 16] l.length (fun gk u7 u8 u9 u10 u11 u12 u13 i wr => ∃ k a : Nat, gk + k = l.length ∧ i = .int .i64 k ∧ u7 = .int .i64 0 ∧ u8 = .int .i64 0 ∧ u9 = .int .i64 6 ∧ (a : Int) = isum (l.take k) ∧ u10 = .int .i64 a ∧ wrongGo t k a (l.drop k) = wrongGo t 0 0 l ∧ Below W1.heap.size W1 wr)
  case atStart => exact ⟨0, 0, by omega, rfl, rfl, rfl, rfl, rfl, rfl, rfl, Below.refl _ _⟩
  case round =>
    obtain ⟨wo, rfl⟩ : ∃ wo : World, wo = wr := ⟨_, rfl⟩
    obtain ⟨go, rfl⟩ : ∃ x : Nat, x = gk := ⟨_, rfl⟩
    obtain ⟨k, a, hk, rfl, rfl, rfl, rfl, ha, rfl, hwg, hB⟩ := hrel
    have hzo := hB.size
    have HWG := Lib.hid hwg
    have HB := Lib.hid hB
    have HA := Lib.hid ha
    have hapre := HPRE.out k
    rw [← ha] at hapre
    clear hwg hB ha
    by_cases hlt : k < l.length
    · have hlt' : (k : Int) < l.length := by omega
      obtain ⟨b, o, x, rfl, hb, hxx, c1⟩ := ((HL.out.below HB1.out).below HB.out).at hlt
      have hx1 := HX.out x (by rw [hxx]; exact getD_mem 0 hlt)
      obtain ⟨y, rfl⟩ := Int.eq_ofNat_of_zero_le (show 0 ≤ x by omega)
      have hsnoc : isum (l.take (k + 1)) = (a : Int) + y := by rw [take_snocD 0 hlt, isum_snoc, ← HA.out, ← hxx]
      have hpre2 := HPRE.out (k + 1)
      rw [hsnoc] at hpre2
      have HSN := Lib.hid hsnoc
      have hay : a + y ≤ t.words.length := by omega
      have hfin : wrongGo t 0 0 l = match kindOf t a (a + y) with | some q => ((k : Int), q, 0) | none => wrongGo t (k + 1) (a + y) (l.drop (k + 1)) := by
        rw [← HWG.out, wrongGo_at t l k a hlt, ← hxx]; rfl
      have HFIN := Lib.hid hfin
      have HFIN' := Lib.hid hfin
      have hx0 := (HB.out.block w.heap.size (by omega)).trans HX0.out
      have k0 := blk_cells hx0 0 _ rfl
      have k1 := blk_cells hx0 1 _ rfl
      have k2 := blk_cells hx0 2 _ rfl
      have k3 := blk_cells hx0 3 _ rfl
      have hsum : IntKind.i64.wrap ((a : Int) + (y : Int)) = ((a + y : Nat) : Int) := by rw [IntWalk.i64_in _ (by omega)]; omega
      have hs0 : w.heap.size < wo.heap.size := by omega
      have HX0o := Lib.hid hx0
      have HBo := Lib.hid (HB1.out.trans (HB.out.mono (by omega)))
      clear hsnoc hfin hxx hx0 hpre2
      go_wp2_with fail
      have h0 : ∀ W, Below w.heap.size w W → Calls Try.prog 142 #[.agg #[.slice pw t.words.length cw, .slice pt t.turns.length ct, .int .i64 t.breath, mv], .int .i64 0, .int .i64 a, .int .i64 ((a : Int) + (y : Int))] W fun e w' => e = .returned (.bool (t.isK 0 a (a + y))) ∧ Below W.heap.size W w' := fun W h => HIS.out W h 0 (by omega) a (a + y) (by omega) hay
      have h1 : ∀ W, Below w.heap.size w W → Calls Try.prog 142 #[.agg #[.slice pw t.words.length cw, .slice pt t.turns.length ct, .int .i64 t.breath, mv], .int .i64 1, .int .i64 a, .int .i64 ((a : Int) + (y : Int))] W fun e w' => e = .returned (.bool (t.isK 1 a (a + y))) ∧ Below W.heap.size W w' := fun W h => HIS.out W h 1 (by omega) a (a + y) (by omega) hay
      have h2 : ∀ W, Below w.heap.size w W → Calls Try.prog 142 #[.agg #[.slice pw t.words.length cw, .slice pt t.turns.length ct, .int .i64 t.breath, mv], .int .i64 2, .int .i64 a, .int .i64 ((a : Int) + (y : Int))] W fun e w' => e = .returned (.bool (t.isK 2 a (a + y))) ∧ Below W.heap.size W w' := fun W h => HIS.out W h 2 (by omega) a (a + y) (by omega) hay
      have G0 := Lib.hid h0
      have G1 := Lib.hid h1
      have G2 := Lib.hid h2
      clear h0 h1 h2
      refine wp_loop_rounds 4 ?_
      rw [rounds_succ]
      go_wp2_with fail
      refine (G0.out _ HBo.out).mono ?_
      rintro e w5 ⟨rfl, hB0⟩
      have HN0 := Lib.hid (join HBo.out hB0)
      have hx0 := (hB0.block w.heap.size (by omega)).trans HX0o.out
      have HXq0 := Lib.hid hx0
      have hsq0 : w.heap.size < w5.heap.size := by have := hB0.size; omega
      have HBq0 := Lib.hid (HB.out.trans (hB0.mono (by omega)))
      clear k0 k1 k2 k3
      have k0 := blk_cells hx0 0 _ rfl
      have k1 := blk_cells hx0 1 _ rfl
      have k2 := blk_cells hx0 2 _ rfl
      have k3 := blk_cells hx0 3 _ rfl
      clear hx0 hB0
      cases hk0 : t.isK 0 a (a + y) with
      | true =>
        have HK0 := Lib.hid hk0
        clear hk0
        have hko : kindOf t a (a + y) = some 0 := by unfold kindOf; simp [HK0.out]
        have HKO := Lib.hid hko
        clear hko
        go_wp2
        rw [Exit.noGoto_ret]
        go_ret3
        exact ⟨by rw [HFIN.out, HKO.out]; rfl, HN0.out⟩
      | false =>
        have HK0 := Lib.hid hk0
        clear hk0
        go_wp2_with fail
        rw [rounds_succ]
        go_wp2_with fail
        refine (G1.out _ HN0.out).mono ?_
        rintro e w6 ⟨rfl, hB1⟩
        have HN1 := Lib.hid (join HN0.out hB1)
        have hx1 := (hB1.block w.heap.size (by omega)).trans HXq0.out
        have HXq1 := Lib.hid hx1
        have hsq1 : w.heap.size < w6.heap.size := by have := hB1.size; omega
        have HBq1 := Lib.hid (HBq0.out.trans (hB1.mono (by have := HBq0.out.size; omega)))
        clear k0 k1 k2 k3
        have k0 := blk_cells hx1 0 _ rfl
        have k1 := blk_cells hx1 1 _ rfl
        have k2 := blk_cells hx1 2 _ rfl
        have k3 := blk_cells hx1 3 _ rfl
        clear hx1 hB1
        cases hk1 : t.isK 1 a (a + y) with
        | true =>
          have HK1 := Lib.hid hk1
          clear hk1
          have hko : kindOf t a (a + y) = some 1 := by unfold kindOf; simp [HK0.out, HK1.out]
          have HKO := Lib.hid hko
          clear hko
          go_wp2
          rw [Exit.noGoto_ret]
          go_ret3
          exact ⟨by rw [HFIN.out, HKO.out]; rfl, HN1.out⟩
        | false =>
          have HK1 := Lib.hid hk1
          clear hk1
          go_wp2_with fail
          rw [rounds_succ]
          go_wp2_with fail
          refine (G2.out _ HN1.out).mono ?_
          rintro e w7 ⟨rfl, hB2⟩
          have HN2 := Lib.hid (join HN1.out hB2)
          have hx2 := (hB2.block w.heap.size (by omega)).trans HXq1.out
          have HXq2 := Lib.hid hx2
          have hsq2 : w.heap.size < w7.heap.size := by have := hB2.size; omega
          have HBq2 := Lib.hid (HBq1.out.trans (hB2.mono (by have := HBq1.out.size; omega)))
          clear k0 k1 k2 k3
          have k0 := blk_cells hx2 0 _ rfl
          have k1 := blk_cells hx2 1 _ rfl
          have k2 := blk_cells hx2 2 _ rfl
          have k3 := blk_cells hx2 3 _ rfl
          clear hx2 hB2
          cases hk2 : t.isK 2 a (a + y) with
          | true =>
            have HK2 := Lib.hid hk2
            clear hk2
            have hko : kindOf t a (a + y) = some 2 := by unfold kindOf; simp [HK0.out, HK1.out, HK2.out]
            have HKO := Lib.hid hko
            clear hko
            go_wp2
            rw [Exit.noGoto_ret]
            go_ret3
            exact ⟨by rw [HFIN.out, HKO.out]; rfl, HN2.out⟩
          | false =>
            have HK2 := Lib.hid hk2
            clear hk2
            go_wp2_with fail
            have hko : kindOf t a (a + y) = none := by unfold kindOf; simp [HK0.out, HK1.out, HK2.out]
            have HKO := Lib.hid hko
            clear hko
            rw [rounds_succ]
            go_wp2
            go_roundg (go - 1)
            case rel => exact ⟨k + 1, a + y, by omega, by go_num, rfl, rfl, rfl, by rw [HSN.out]; omega, by go_num, by have := HFIN'.out; rw [HKO.out] at this; exact this.symm, HBq2.out⟩
            case measure => omega
    · obtain rfl : k = l.length := by omega
      have hfin : wrongGo t 0 0 l = (0, 0, 6) := by rw [← HWG.out, List.drop_length]; rfl
      have HFIN := Lib.hid hfin
      clear hfin
      go_wp2
      rw [Exit.noGoto_ret]
      go_ret3
      exact ⟨by rw [HFIN.out]; rfl, HB1.out.trans (HB.out.mono (by omega))⟩
end Go.Proofs.Ytadnggecnjdhiaa
set_option linter.unusedSimpArgs false
set_option linter.unusedVariables false
namespace Go.Proofs.Ytadnggecnjdhiaa
open Go.RowKit Tx

/-- the places of a reading -/
def placesL (l : List Int) : List Int := (List.range (l.length + 1)).map fun k => isum (l.take k)
def placesTo (l : List Int) (k : Nat) : List Int := (List.range (k + 1)).map fun k => isum (l.take k)
theorem placesTo_succ (l : List Int) (k : Nat) : placesTo l (k + 1) = placesTo l k ++ [isum (l.take (k + 1))] := by
  unfold placesTo; rw [List.range_succ, List.map_append]; rfl
theorem placesTo_len (l : List Int) (k : Nat) : (placesTo l k).length = k + 1 := by simp [placesTo]
theorem placesTo_last (l : List Int) (k : Nat) : (placesTo l k).getD k 0 = isum (l.take k) := by simp [placesTo]
set_option maxHeartbeats 1000000 in
theorem placesOf_any (l : List Int) (hp : ∀ k, -1000000 ≤ isum (l.take k) ∧ isum (l.take k) ≤ 1000000) (pl : Option Addr) (cl : Nat) (w : World) (hL : Ints w pl l) (hll : l.length ≤ 100000) :
    Calls Try.prog 115 #[.slice pl l.length cl] w (RowPost (placesL l) w) := by
  obtain ⟨i0, hi0, hz0, hz1, hz2⟩ := info_parts A_infoI
  have HL := Lib.hid hL
  have HP := Lib.hid hp
  clear hL hp
  go_enter Try.func115, Try.ntmps115
  go_wp2_with fail
  have hown1 : (w.alloc (.cells #[.int .i64 0] 3)).ownsRow w.heap.size 3 1 (.slice (some ⟨w.heap.size, 0, none⟩) 1 1) 1 [.int .i64 0] :=
    ⟨by simp, .inr ⟨w.heap.size, 1, _, rfl, Nat.le_refl _, heap_last _ _, by omega, by unfold maxLen; omega, by simp, by simp⟩⟩
  have HB1 := below1 w (.cells #[.int .i64 0] 3)
  go_loopw [3, 9] (fun v i wr => ∃ k : Nat, k ≤ l.length ∧ i = .int .i64 k ∧ wr.ownsRow w.heap.size 3 1 v (placesTo l k).length ((placesTo l k).map (Value.int .i64)) ∧ Below w.heap.size w wr ∧ w.heap.size + 1 ≤ wr.heap.size) (fun _ i _ => l.length - (intOf i).toNat)
  case atStart => exact ⟨0, Nat.zero_le _, rfl, hown1, HB1, by simp⟩
  case round =>
    obtain ⟨k, hk, rfl, hown, hBr, hsz⟩ := hrel
    have HO := Lib.hid hown
    have HBr := Lib.hid hBr
    clear hown1 HB1
    have hlen := placesTo_len l k
    have HLEN := Lib.hid hlen
    by_cases hlt : k < l.length
    · have hlt' : (k : Int) < l.length := by omega
      obtain ⟨b, o, x, rfl, hb, hxx, c1⟩ := (HL.out.below hBr).at hlt
      obtain ⟨p, c, rfl, hints, hfr, hcl, hcc⟩ := own_rd hown rfl
      rcases hints with h0 | ⟨g, og, rfl, hgl, hcells⟩
      · rw [h0] at hlen; simp at hlen
      have hck := hcells k (by omega)
      rw [placesTo_last] at hck
      have hsn : isum (l.take (k + 1)) = isum (l.take k) + x := by rw [take_snocD 0 hlt, isum_snoc, hxx]
      have h1 := HP.out k
      have h2 := HP.out (k + 1)
      have hps := placesTo_succ l k
      rw [hsn] at h2 hps
      have HPS := Lib.hid hps
      generalize isum (l.take k) = a at hck hsn h1 h2 HPS
      have hkl : (k : Int) < (placesTo l k).length := by rw [hlen]; omega
      clear hsn hps hxx hown hBr hfr hcells hlen
      generalize hPL : placesTo l k = PL at *
      have hPLn : PL.length ≤ 1000000 := by have := HLEN.out; omega
      clear hPL
      go_wp2_with (at_builtin; refine wpList_append_own _ rfl _ _ 28 rfl w.heap.size 3 i0 (.int .i64 0) 1 8 A_undI hi0 hz0 hz1 hz2 rfl (by decide) _ _ _ rfl (HO.out.alloc _) ⟨wr.heap.size, 0, none⟩ 1 1 [.int .i64 (a + x)] rfl rfl ?d1 ?d2 ?d3 ?d4 ?d5 ?_)
      case d1 => exact cell_one_new _ _ _
      case d2 => first | rfl | (intro u hu; simp at hu; subst hu; rfl)
      case d3 => unfold maxLen; omega
      case d4 => omega
      case d5 => first | omega | (simp; omega)
      intro v' w8 hown8 hgrow _
      have hB8 := below_grown (al2 HBr.out (by omega) _) (HO.out.alloc _) (Nat.le_refl _) (by simp; omega) hgrow
      have hs8 : w.heap.size + 1 ≤ w8.heap.size := by have := hgrow.size; simp at this; omega
      have HO8 := Lib.hid hown8
      have HB8 := Lib.hid hB8
      clear hgrow hown8 hB8
      go_wp2
      go_roundw
      case rel => exact ⟨k + 1, by omega, by go_num, by rw [HPS.out]; simpa using HO8.out, HB8.out, hs8⟩
      case measure => simp [intOf]; omega
    · obtain rfl : k = l.length := by omega
      clear hown hBr
      go_wp2
      go_ret
      exact ⟨_, rfl, HO.out, HBr.out⟩
end Go.Proofs.Ytadnggecnjdhiaa
set_option linter.unusedSimpArgs false
set_option linter.unusedVariables false
namespace Go.Proofs.Ytadnggecnjdhiaa
open Go.RowKit Tx

/-- the runs of m breaths, in order -/
def runs (m : Nat) : List (Nat × Nat) := (List.range m).flatMap fun a => (List.range' a (m - a)).map fun b => (a, b)
def runSays (P : List Int) (u : Turn) (a b : Nat) : Bool := u.says (P.getD a 0) (P.getD (b + 1) 0 - 1)
def astrayGo (P : List Int) : Nat → List Turn → Int × Int × Int × Int
  | _, [] => (0, 0, 0, 6)
  | i, u :: us => match (runs (P.length - 1)).find? (fun q => runSays P u q.1 q.2) with
    | some q => ((i : Int), (q.1 : Int), (q.2 : Int), 0)
    | none => astrayGo P (i + 1) us
theorem runs_find {p : Nat → Nat → Bool} {m a b : Nat} (hab : a ≤ b) (hb : b < m) (h1 : ∀ a' b', a' < a → a' ≤ b' → b' < m → p a' b' = false) (h2 : ∀ b', a ≤ b' → b' < b → p a b' = false) (h : p a b = true) :
    (runs m).find? (fun q => p q.1 q.2) = some (a, b) := by
  unfold runs
  rw [show m = a + (m - a - 1 + 1) by omega, List.range_add, List.flatMap_append, List.find?_append]
  rw [show ((List.range a).flatMap fun x => (List.range' x (a + (m - a - 1 + 1) - x)).map fun b => (x, b)).find? (fun q => p q.1 q.2) = none from by
    rw [List.find?_eq_none]
    intro q hq
    obtain ⟨x, hx, hq⟩ := List.mem_flatMap.1 hq
    obtain ⟨y, hy, rfl⟩ := List.mem_map.1 hq
    rw [List.mem_range'_1] at hy
    rw [h1 x y (List.mem_range.1 hx) hy.1 (by omega)]; decide]
  rw [Option.none_or, List.range_succ_eq_map, List.map_cons, List.flatMap_cons, List.find?_append]
  have hrow : ((List.range' (a + 0) (a + (m - a - 1 + 1) - (a + 0))).map fun b => (a + 0, b)).find? (fun q => p q.1 q.2) = some (a, b) := by
    rw [Nat.add_zero, show a + (m - a - 1 + 1) - a = (b - a) + (m - b) by omega, ← List.range'_append, List.map_append, List.find?_append]
    rw [show ((List.range' a (b - a)).map fun b => (a, b)).find? (fun q => p q.1 q.2) = none from by
      rw [List.find?_eq_none]
      intro q hq
      obtain ⟨y, hy, rfl⟩ := List.mem_map.1 hq
      rw [List.mem_range'_1] at hy
      rw [h2 y hy.1 (by omega)]; decide]
    rw [Option.none_or, show a + 1 * (b - a) = b by omega, show m - b = (m - b - 1) + 1 by omega, List.range'_succ, List.map_cons, List.find?_cons_of_pos (by exact h)]
  rw [hrow]; rfl
theorem runs_none {p : Nat → Nat → Bool} {m : Nat} (h1 : ∀ a' b', a' < m → a' ≤ b' → b' < m → p a' b' = false) : (runs m).find? (fun q => p q.1 q.2) = none := by
  rw [List.find?_eq_none]
  intro q hq
  unfold runs at hq
  obtain ⟨x, hx, hq⟩ := List.mem_flatMap.1 hq
  obtain ⟨y, hy, rfl⟩ := List.mem_map.1 hq
  rw [List.mem_range'_1] at hy
  have := List.mem_range.1 hx
  rw [h1 x y this hy.1 (by omega)]; decide
theorem astrayGo_at (P : List Int) (ts : List Turn) (k : Nat) (h : k < ts.length) : astrayGo P k (ts.drop k) = match (runs (P.length - 1)).find? (fun q => runSays P (ts.getD k default) q.1 q.2) with
    | some q => ((k : Int), (q.1 : Int), (q.2 : Int), 0) | none => astrayGo P (k + 1) (ts.drop (k + 1)) := by
  rw [List.drop_eq_getElem_cons h, astrayGo]
  rw [show ts[k] = ts.getD k default from by simp [h]]
def spAs (uw ul uh pa pb : Int) (gp : Nat) (og n cl a b : Nat) (r : Bool) : Nat → List Value → Value → World → Prop
  | 0, _, v, _ => v = .agg #[.int .i64 uw, .int .i64 ul, .int .i64 uh]
  | 1, _, v, _ => v = .slice (some ⟨gp, og, none⟩) n cl
  | 2, _, v, _ => v = .int .i64 a
  | 3, _, v, _ => v = .pointer (some ⟨gp, og + a, none⟩)
  | 4, _, v, _ => v = .int .i64 pa
  | 5, _, v, _ => v = .slice (some ⟨gp, og, none⟩) n cl
  | 6, _, v, _ => v = .int .i64 b
  | 7, _, v, _ => v = .int .i64 ((b : Int) + 1)
  | 8, _, v, _ => v = .pointer (some ⟨gp, og + (b + 1), none⟩)
  | 9, _, v, _ => v = .int .i64 pb
  | 10, _, v, _ => v = .agg #[.int .i64 pa, .int .i64 (pb - 1)]
  | 11, _, v, _ => v = .bool r
  | _, _, _, _ => False
theorem spAs_stable (uw ul uh pa pb : Int) (gp : Nat) (og n cl a b : Nat) (r : Bool) : ∀ i L v w w', spAs uw ul uh pa pb gp og n cl a b r i L v w → Rs.Gr w w' → spAs uw ul uh pa pb gp og n cl a b r i L v w' := by
  intro i L v w w' h hg
  match i with
  | 0 => exact h
  | 1 => exact h
  | 2 => exact h
  | 3 => exact h
  | 4 => exact h
  | 5 => exact h
  | 6 => exact h
  | 7 => exact h
  | 8 => exact h
  | 9 => exact h
  | 10 => exact h
  | 11 => exact h

set_option maxHeartbeats 2000000 in
set_option maxRecDepth 100000 in
theorem firstAstray_any (t : Text) (hm : t.turns.length ≤ 1000000) (P : List Int) (hP1 : 1 ≤ P.length) (hPl : P.length ≤ 1000000) (hPb : ∀ k, k < P.length → -1000000 ≤ P.getD k 0 ∧ P.getD k 0 ≤ 1000000) (pt pp : Option Addr) (ct cl : Nat) (v0 v2 v3 : Value) (w : World) (hT : Tns w pt t.turns) (hL : Ints w pp P) :
    Calls Try.prog 114 #[.agg #[v0, .slice pt t.turns.length ct, v2, v3], .slice pp P.length cl] w fun e w' =>
      e = .returned (.tuple #[.int .i64 (astrayGo P 0 t.turns).1, .agg #[.int .i64 (astrayGo P 0 t.turns).2.1, .int .i64 (astrayGo P 0 t.turns).2.2.1], .int .i64 (astrayGo P 0 t.turns).2.2.2]) ∧ Below w.heap.size w w' := by
  rcases hL with h0 | ⟨gp, og, rfl, hgp, hcP⟩
  · rw [h0] at hP1; simp at hP1
  have HT := Lib.hid hT
  have HCP := Lib.hid hcP
  have HPB := Lib.hid hPb
  have hB2 : Below w.heap.size w ((w.alloc (.cells #[v0, .slice pt t.turns.length ct, v2, v3] 125)).alloc (.cells #[.int .i64 0, .int .i64 0] 27)) := (below1 _ _).alloc (by simp) _
  have hres : ((w.alloc (.cells #[v0, .slice pt t.turns.length ct, v2, v3] 125)).alloc (.cells #[.int .i64 0, .int .i64 0] 27)).heap[w.heap.size + 1]? = some (.cells #[.int .i64 0, .int .i64 0] 27 (0, 0)) := by
    have := heap_last (w.alloc (.cells #[v0, .slice pt t.turns.length ct, v2, v3] 125)) (.cells #[.int .i64 0, .int .i64 0] 27)
    rwa [World.size_alloc] at this
  have hsz : ((w.alloc (.cells #[v0, .slice pt t.turns.length ct, v2, v3] 125)).alloc (.cells #[.int .i64 0, .int .i64 0] 27)).heap.size = w.heap.size + 2 := by simp
  have HB2 := Lib.hid hB2
  have HRES := Lib.hid hres
  clear hT hcP hPb hB2 hres
  go_enter Try.func114, Try.ntmps114
  go_wp2_with fail
  generalize (w.alloc (.cells #[v0, .slice pt t.turns.length ct, v2, v3] 125)).alloc (.cells #[.int .i64 0, .int .i64 0] 27) = W1 at HB2 HRES hsz ⊢
  go_loopw [7, 8, 9, 10, 15] (fun u7 u8 u9 u10 i wr => ∃ k : Nat, k ≤ t.turns.length ∧ i = .int .i64 k ∧ astrayGo P k (t.turns.drop k) = astrayGo P 0 t.turns ∧ Below W1.heap.size W1 wr) (fun _ _ _ _ i _ => t.turns.length - (intOf i).toNat)
  case atStart => exact ⟨0, Nat.zero_le _, rfl, rfl, Below.refl _ _⟩
  case round =>
    obtain ⟨w3, rfl⟩ : ∃ w3 : World, w3 = wr := ⟨_, rfl⟩
    obtain ⟨k, hk, rfl, hag, hB⟩ := hrel
    have HAG := Lib.hid hag
    have HB := Lib.hid hB
    have hz3 := hB.size
    clear hag hB
    by_cases hlt : k < t.turns.length
    · have hlt' : (k : Int) < t.turns.length := by omega
      obtain ⟨bt, ot, x, rfl, hbt, hxx, c1, c2, c3⟩ := ((HT.out.below HB2.out).below HB.out).at hlt
      obtain ⟨uw, ul, uh⟩ := x
      dsimp only at c1 c2 c3
      have HXX := Lib.hid hxx
      have HAT := Lib.hid (astrayGo_at P t.turns k hlt)
      rw [← hxx] at HAT
      have HU := Lib.hid (heap_last w3 (.cells #[.int .i64 uw, .int .i64 ul, .int .i64 uh] 80))
      have HB4 := Lib.hid (join HB.out (below1 w3 (.cells #[.int .i64 uw, .int .i64 ul, .int .i64 uh] 80)))
      have hz4 : (w3.alloc (.cells #[.int .i64 uw, .int .i64 ul, .int .i64 uh] 80)).heap.size = w3.heap.size + 1 := by simp
      obtain ⟨U, hU⟩ : ∃ U, U = w3.heap.size := ⟨_, rfl⟩
      have hUW : W1.heap.size ≤ U := by omega
      rw [← hU] at HU hz4
      clear hxx
      go_wp2_with fail
      generalize hW4 : w3.alloc (.cells #[.int .i64 uw, .int .i64 ul, .int .i64 uh] 80) = W4 at HU HB4 hz4 ⊢
      rw [← hU]
      clear hW4
      go_loopw [9, 10, 23] (fun u9 u10 j w5 => ∃ a : Nat, a ≤ P.length - 1 ∧ j = .int .i64 a ∧ (∀ a' b', a' < a → a' ≤ b' → b' < P.length - 1 → runSays P ⟨uw, ul, uh⟩ a' b' = false) ∧ Below W4.heap.size W4 w5) (fun _ _ j _ => P.length - 1 - (intOf j).toNat)
      case atStart => exact ⟨0, Nat.zero_le _, rfl, fun _ _ h => absurd h (Nat.not_lt_zero _), Below.refl _ _⟩
      case round =>
        obtain ⟨w5, rfl⟩ : ∃ w5 : World, w5 = wr := ⟨_, rfl⟩
        obtain ⟨a, ha, rfl, hA, hB5⟩ := hrel
        have HA := Lib.hid hA
        have HB5 := Lib.hid hB5
        have hz5 := hB5.size
        clear hA hB5
        by_cases hal : a < P.length - 1
        · have hal' : (a : Int) < (P.length : Int) - 1 := by omega
          go_wp2_with fail
          go_loopw [10] (fun u10 w6 => ∃ b : Nat, a ≤ b ∧ b ≤ P.length - 1 ∧ u10 = .int .i64 b ∧ (∀ b', a ≤ b' → b' < b → runSays P ⟨uw, ul, uh⟩ a b' = false) ∧ Below W4.heap.size W4 w6) (fun u _ => P.length - 1 - (intOf u).toNat)
          case atStart => exact ⟨a, Nat.le_refl _, by omega, rfl, fun b' h1 h2 => by omega, HB5.out⟩
          case round =>
            obtain ⟨w6, rfl⟩ : ∃ w6 : World, w6 = wr := ⟨_, rfl⟩
            obtain ⟨b, hab, hbl, rfl, hR, hB6⟩ := hrel
            have HR := Lib.hid hR
            have HB6 := Lib.hid hB6
            have hz6 := hB6.size
            clear hR hB6
            by_cases hbm : b < P.length - 1
            · have hbm' : (b : Int) < (P.length : Int) - 1 := by omega
              have han : (a : Int) < P.length := by omega
              have hbn : (b : Int) + 1 < P.length := by omega
              have hbn2 : 0 ≤ (b : Int) + 1 := by omega
              have hbn3 : ((b : Int) + 1).toNat = b + 1 := by omega
              have hsum : IntKind.i64.wrap ((b : Int) + 1) = (b : Int) + 1 := IntWalk.i64_in _ (by omega)
              have HBw := Lib.hid (HB2.out.trans ((HB4.out.trans (HB6.out.mono (by omega))).mono (by omega)))
              have hca := (HBw.out.cell (p := ⟨gp, og + a, none⟩) hgp).trans (HCP.out a (by omega))
              have hcb := (HBw.out.cell (p := ⟨gp, og + (b + 1), none⟩) hgp).trans (HCP.out (b + 1) (by omega))
              have hpb := HPB.out (b + 1) (by omega)
              have HRS := Lib.hid (show runSays P ⟨uw, ul, uh⟩ a b = (Turn.mk uw ul uh).says (P.getD a 0) (P.getD (b + 1) 0 - 1) from rfl)
              generalize P.getD a 0 = pa at hca HRS
              generalize P.getD (b + 1) 0 = pb at hcb hpb HRS
              have hUb := (HB6.out.block U (by omega)).trans HU.out
              have F0 := Lib.hid (blk_cells hUb 0 _ rfl)
              have F1 := Lib.hid (blk_cells hUb 1 _ rfl)
              have F2 := Lib.hid (blk_cells hUb 2 _ rfl)
              have HCA := Lib.hid hca
              have HCB := Lib.hid hcb
              have hsU : U < w6.heap.size := by omega
              have hsg : gp < w6.heap.size := by have := HBw.out.size; omega
              clear hca hcb hUb
              go_wp2_with fail
              refine Rs.region_gen 12 [[], [], [], [1, 2], [1, 2, 3], [], [], [6], [5, 6, 7], [5, 6, 7, 8], [1, 2, 3, 4, 5, 6, 7, 8, 9], [0, 1, 2, 3, 4, 5, 6, 7, 8, 9, 10]] [some 34, some 35, some 36, some 37, some 38, some 39, some 40, some 41, some 42, some 43, some 44, some 45] (spAs uw ul uh pa pb gp og P.length cl a b ((Turn.mk uw ul uh).says pa (pb - 1))) (by kernel_rfl) (by kernel_rfl) rfl (spAs_stable _ _ _ _ _ _ _ _ _ _ _ _) ?_ ?_
              · refine ⟨fun V w' hG hs => ?_, fun V w' hG hs => ?_, fun V w' hG hs => ?_, fun V w' hG hs => ?_, fun V w' hG hs => ?_, fun V w' hG hs => ?_, fun V w' hG hs => ?_, fun V w' hG hs => ?_, fun V w' hG hs => ?_, fun V w' hG hs => ?_, fun V w' hG hs => ?_, fun V w' hG hs => ?_, trivial⟩
                all_goals
                  obtain ⟨bc, _⟩ := bcell hG
                  have f0 := (bc U 0 hsU).trans F0.out
                  have f1 := (bc U 1 hsU).trans F1.out
                  have f2 := (bc U 2 hsU).trans F2.out
                  have hca := (bc gp (og + a) hsg).trans HCA.out
                  have hcb := (bc gp (og + (b + 1)) hsg).trans HCB.out
                  clear bc
                · rw [if_pos (by rfl)]
                  exact Rs.GrowL.value (v := .agg #[.int .i64 uw, .int .i64 ul, .int .i64 uh]) (w' := w') (by simp [go_sem, Rs.look, f0, f1, f2]) (Rs.Gr.refl _) rfl
                · rw [if_pos (by rfl)]
                  exact Rs.GrowL.value (v := .slice (some ⟨gp, og, none⟩) P.length cl) (w' := w') (by simp [go_sem, Rs.look]) (Rs.Gr.refl _) rfl
                · rw [if_pos (by rfl)]
                  exact Rs.GrowL.value (v := .int .i64 a) (w' := w') (by simp [go_sem, Rs.look]) (Rs.Gr.refl _) rfl
                · have e1 : V 1 = .slice (some ⟨gp, og, none⟩) P.length cl := hs 1 (by simp)
                  have e2 : V 2 = .int .i64 a := hs 2 (by simp)
                  rw [if_pos (by rfl)]
                  exact Rs.GrowL.value (v := .pointer (some ⟨gp, og + a, none⟩)) (w' := w') (by simp [go_sem, Rs.look, e1, e2, han]) (Rs.Gr.refl _) rfl
                · have e1 : V 1 = .slice (some ⟨gp, og, none⟩) P.length cl := hs 1 (by simp)
                  have e2 : V 2 = .int .i64 a := hs 2 (by simp)
                  have e3 : V 3 = .pointer (some ⟨gp, og + a, none⟩) := hs 3 (by simp)
                  rw [if_pos (by rfl)]
                  exact Rs.GrowL.value (v := .int .i64 pa) (w' := w') (by simp [go_sem, Rs.look, e1, e2, e3, hca]) (Rs.Gr.refl _) rfl
                · rw [if_pos (by rfl)]
                  exact Rs.GrowL.value (v := .slice (some ⟨gp, og, none⟩) P.length cl) (w' := w') (by simp [go_sem, Rs.look]) (Rs.Gr.refl _) rfl
                · rw [if_pos (by rfl)]
                  exact Rs.GrowL.value (v := .int .i64 b) (w' := w') (by simp [go_sem, Rs.look]) (Rs.Gr.refl _) rfl
                · have e6 : V 6 = .int .i64 b := hs 6 (by simp)
                  rw [if_pos (by rfl)]
                  exact Rs.GrowL.value (v := .int .i64 ((b : Int) + 1)) (w' := w') (by simp [go_sem, Rs.look, e6, hsum]) (Rs.Gr.refl _) rfl
                · have e5 : V 5 = .slice (some ⟨gp, og, none⟩) P.length cl := hs 5 (by simp)
                  have e6 : V 6 = .int .i64 b := hs 6 (by simp)
                  have e7 : V 7 = .int .i64 ((b : Int) + 1) := hs 7 (by simp)
                  rw [if_pos (by rfl)]
                  exact Rs.GrowL.value (v := .pointer (some ⟨gp, og + (b + 1), none⟩)) (w' := w') (by simp [go_sem, Rs.look, e5, e6, e7, hbn, hbn2, hbn3]) (Rs.Gr.refl _) rfl
                · have e5 : V 5 = .slice (some ⟨gp, og, none⟩) P.length cl := hs 5 (by simp)
                  have e6 : V 6 = .int .i64 b := hs 6 (by simp)
                  have e7 : V 7 = .int .i64 ((b : Int) + 1) := hs 7 (by simp)
                  have e8 : V 8 = .pointer (some ⟨gp, og + (b + 1), none⟩) := hs 8 (by simp)
                  rw [if_pos (by rfl)]
                  exact Rs.GrowL.value (v := .int .i64 pb) (w' := w') (by simp [go_sem, Rs.look, e5, e6, e7, e8, hcb]) (Rs.Gr.refl _) rfl
                · have e1 : V 1 = .slice (some ⟨gp, og, none⟩) P.length cl := hs 1 (by simp)
                  have e2 : V 2 = .int .i64 a := hs 2 (by simp)
                  have e3 : V 3 = .pointer (some ⟨gp, og + a, none⟩) := hs 3 (by simp)
                  have e4 : V 4 = .int .i64 pa := hs 4 (by simp)
                  have e5 : V 5 = .slice (some ⟨gp, og, none⟩) P.length cl := hs 5 (by simp)
                  have e6 : V 6 = .int .i64 b := hs 6 (by simp)
                  have e7 : V 7 = .int .i64 ((b : Int) + 1) := hs 7 (by simp)
                  have e8 : V 8 = .pointer (some ⟨gp, og + (b + 1), none⟩) := hs 8 (by simp)
                  have e9 : V 9 = .int .i64 pb := hs 9 (by simp)
                  rw [if_pos (by rfl)]
                  refine Rs.GrowL.call (f := 153) (args := #[.int .i64 pa, .int .i64 pb]) (by simp [go_sem, Rs.look, e4, e9]) ?_
                  refine (wordsBetween_any _ _ _ (by omega) (by omega)).mono ?_
                  rintro e w2 ⟨rfl, rfl⟩
                  exact ⟨_, rfl, below1 _ _, rfl⟩
                · have e0 : V 0 = .agg #[.int .i64 uw, .int .i64 ul, .int .i64 uh] := hs 0 (by simp)
                  have e1 : V 1 = .slice (some ⟨gp, og, none⟩) P.length cl := hs 1 (by simp)
                  have e2 : V 2 = .int .i64 a := hs 2 (by simp)
                  have e3 : V 3 = .pointer (some ⟨gp, og + a, none⟩) := hs 3 (by simp)
                  have e4 : V 4 = .int .i64 pa := hs 4 (by simp)
                  have e5 : V 5 = .slice (some ⟨gp, og, none⟩) P.length cl := hs 5 (by simp)
                  have e6 : V 6 = .int .i64 b := hs 6 (by simp)
                  have e7 : V 7 = .int .i64 ((b : Int) + 1) := hs 7 (by simp)
                  have e8 : V 8 = .pointer (some ⟨gp, og + (b + 1), none⟩) := hs 8 (by simp)
                  have e9 : V 9 = .int .i64 pb := hs 9 (by simp)
                  have e10 : V 10 = .agg #[.int .i64 pa, .int .i64 (pb - 1)] := hs 10 (by simp)
                  rw [if_pos (by rfl)]
                  refine Rs.GrowL.call (f := 139) (args := #[.agg #[.int .i64 uw, .int .i64 ul, .int .i64 uh], .agg #[.int .i64 pa, .int .i64 (pb - 1)]]) (by simp [go_sem, Rs.look, e0, e10]) ?_
                  refine (says_any (Turn.mk uw ul uh) _ _ _).mono ?_
                  rintro e w2 ⟨rfl, hB2⟩
                  exact ⟨_, rfl, hB2, rfl⟩
              · intro V w' hG hs
                have e0 : V 0 = .agg #[.int .i64 uw, .int .i64 ul, .int .i64 uh] := hs 0 (by omega)
                have e1 : V 1 = .slice (some ⟨gp, og, none⟩) P.length cl := hs 1 (by omega)
                have e2 : V 2 = .int .i64 a := hs 2 (by omega)
                have e3 : V 3 = .pointer (some ⟨gp, og + a, none⟩) := hs 3 (by omega)
                have e4 : V 4 = .int .i64 pa := hs 4 (by omega)
                have e5 : V 5 = .slice (some ⟨gp, og, none⟩) P.length cl := hs 5 (by omega)
                have e6 : V 6 = .int .i64 b := hs 6 (by omega)
                have e7 : V 7 = .int .i64 ((b : Int) + 1) := hs 7 (by omega)
                have e8 : V 8 = .pointer (some ⟨gp, og + (b + 1), none⟩) := hs 8 (by omega)
                have e9 : V 9 = .int .i64 pb := hs 9 (by omega)
                have e10 : V 10 = .agg #[.int .i64 pa, .int .i64 (pb - 1)] := hs 10 (by omega)
                have e11 : V 11 = .bool ((Turn.mk uw ul uh).says pa (pb - 1)) := hs 11 (by omega)
                simp only [Rs.canon, Rs.dstOf, List.range_succ, List.range_zero, List.nil_append, List.cons_append, List.foldl_cons, List.foldl_nil, List.drop_succ_cons, List.drop_zero, List.drop_nil, List.getElem?_toArray, List.getElem?_cons_succ, List.getElem?_cons_zero, Option.bind_some, Act.put, List.getD_cons_succ, List.getD_cons_zero, List.setIfInBounds_toArray, List.set_cons_succ, List.set_cons_zero]
                rw [e0, e1, e2, e3, e4, e5, e6, e7, e8, e9, e10, e11]
                clear e0 e1 e2 e3 e4 e5 e6 e7 e8 e9 e10 e11 hs
                have HG := Lib.hid hG
                clear hG
                cases hr : (Turn.mk uw ul uh).says pa (pb - 1) with
                | true =>
                  have hfd := runs_find (p := fun a b => runSays P ⟨uw, ul, uh⟩ a b) hab hbm HA.out HR.out (by show runSays P ⟨uw, ul, uh⟩ a b = true; rw [HRS.out]; exact hr)
                  have hfin : astrayGo P 0 t.turns = ((k : Int), (a : Int), (b : Int), 0) := by rw [← HAG.out, HAT.out, hfd]
                  have HFIN := Lib.hid hfin
                  have HR1 := Lib.hid hr
                  have hrb := (HG.out.block (w.heap.size + 1) (by have := HB2.out.size; omega)).trans ((HB6.out.block (w.heap.size + 1) (by omega)).trans ((HB4.out.block (w.heap.size + 1) (by omega)).trans HRES.out))
                  have r0 := blk_cells hrb 0 _ rfl
                  have r1 := blk_cells hrb 1 _ rfl
                  have z0 : w'.frozen? ⟨w.heap.size + 1, 0, none⟩ = false := by simp [World.frozen?, hrb]
                  have z1 : w'.frozen? ⟨w.heap.size + 1, 1, none⟩ = false := by simp [World.frozen?, hrb]
                  have hs1 : w.heap.size + 1 < w'.heap.size := by have := HG.out.size; omega
                  have HBW := Lib.hid (join HBw.out HG.out)
                  clear hfd hfin hr hrb
                  go_wp2
                  refine bodyPost_ret (v := .tuple #[.int .i64 k, .agg #[.int .i64 a, .int .i64 b], .int .i64 0]) (by simp [results, Try.results114, go_sem, r0, r1]) rfl ⟨by rw [HFIN.out], ?_⟩
                  repeat' (first | exact HBW.out | apply belS | apply belA | apply belD)
                  all_goals first | omega | (simp; done) | (simp; omega)
                | false =>
                  have HR1 := Lib.hid hr
                  clear hr
                  go_wp2
                  go_roundw
                  case rel =>
                    refine ⟨b + 1, by omega, by omega, by go_num, fun b' h1 h2 => ?_, join HB6.out HG.out⟩
                    by_cases hb' : b' = b
                    · subst hb'; rw [HRS.out, HR1.out]
                    · exact HR.out b' h1 (by omega)
                  case measure => simp [intOf]; omega
            · obtain rfl : b = P.length - 1 := by omega
              have hbl2 : ¬ (((P.length - 1 : Nat) : Int) < (P.length : Int) - 1) := by omega
              go_wp2
              go_roundw
              case rel =>
                refine ⟨a + 1, by omega, by go_num, fun a' b' h1 h2 h3 => ?_, HB6.out⟩
                by_cases ha' : a' = a
                · subst ha'; exact HR.out b' h2 h3
                · exact HA.out a' b' (by omega) h2 h3
              case measure => simp [intOf]; omega
        · obtain rfl : a = P.length - 1 := by omega
          have hnone := runs_none (p := fun a b => runSays P ⟨uw, ul, uh⟩ a b) HA.out
          have HN := Lib.hid hnone
          have hal' : ((P.length - 1 : Nat) : Int) = (P.length : Int) - 1 := by omega
          have hal2 : ¬ (((P.length - 1 : Nat) : Int) < (P.length : Int) - 1) := by omega
          clear hnone
          go_wp2
          go_roundw
          case rel => exact ⟨k + 1, by omega, by go_num, by have := HAT.out; rw [HN.out, HAG.out] at this; exact this.symm, HB4.out.trans (HB5.out.mono (by omega))⟩
          case measure => simp [intOf]; omega
    · obtain rfl : k = t.turns.length := by omega
      have hfin : astrayGo P 0 t.turns = (0, 0, 0, 6) := by rw [← HAG.out, List.drop_length]; rfl
      have HFIN := Lib.hid hfin
      have r0 := blk_cells ((HB.out.block (w.heap.size + 1) (by omega)).trans HRES.out) 0 _ rfl
      have r1 := blk_cells ((HB.out.block (w.heap.size + 1) (by omega)).trans HRES.out) 1 _ rfl
      have z0 : w3.frozen? ⟨w.heap.size + 1, 0, none⟩ = false := by simp [World.frozen?, (HB.out.block (w.heap.size + 1) (by omega)).trans HRES.out]
      have z1 : w3.frozen? ⟨w.heap.size + 1, 1, none⟩ = false := by simp [World.frozen?, (HB.out.block (w.heap.size + 1) (by omega)).trans HRES.out]
      have hs1 : w.heap.size + 1 < w3.heap.size := by omega
      have HBW := Lib.hid (HB2.out.trans (HB.out.mono (by omega)))
      clear hfin
      go_wp2
      refine bodyPost_ret (v := .tuple #[.int .i64 0, .agg #[.int .i64 0, .int .i64 0], .int .i64 6]) (by simp [results, Try.results114, go_sem, r0, r1]) rfl ⟨by rw [HFIN.out], ?_⟩
      repeat' (first | exact HBW.out | apply belS | apply belA | apply belD)
      all_goals first | omega | (simp; done) | (simp; omega)
end Go.Proofs.Ytadnggecnjdhiaa
