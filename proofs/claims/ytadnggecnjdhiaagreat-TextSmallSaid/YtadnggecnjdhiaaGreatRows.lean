/-
  No cell of these rows narrows 'for every input' (looked for: loops, veiled, ifaces, maps, wideKeys, modest, calm, conditions, laid).
  DERIVED. THE GIVEN ROWS OF THIS SEAT. 2 by the template 'for every input the law returns true; each argument reads behind the call as it read before'; 0 by the template 'total and deterministic' (their statements: YtadnggecnjdhiaaGreatTotals.lean).
  GIVEN WITH THE SEED: the statements are not yours to turn. If you find one false, say at which input.
  Laid BY PROGRAM, IN A SANDBOX (cutbox-rows.mjs): the forced cells as the released guide's own fill.sh prints them over the translation 729bb8ef2de36f9c… (all of the seat's roots in one cut). By AI agents, Wed Nov 11 2026. No macro, syntax, notation, axiom, sorry.
-/
import Derived.Test.YtadnggecnjdhiaaGreatChecked
import GoSem.Claim
import GoSem.ClaimJoined
import GoSem.ClaimMapViews
import Derived.JoinedTies
import Derived.KernelRfl
namespace Go.Proofs.YtadnggecnjdhiaaGreat
/- THE CELL 'sum', in the pinned program and in every row, IS THE sha256 OF THE DUMP (.gsa) THAT YtadnggecnjdhiaaGreatProg.lean LOADS. Nothing in Lean hashes anything: it is a label: what it is worth is what the hold of that sum in a sandbox is worth. -/
noncomputable def Tryz.pinned : Pinned := { name := "ytadnggecnjdhiaagreat", sum := "729bb8ef2de36f9c03d686a808c6c2345dba64d868883b56726b1b0f3c2bcd43", checked := Tryz.checked }
namespace Rows
def none {H : Type} : Left H := { results := [], args := [] }

/-- 'oyezlaw02.TextEven': WHATEVER THE INPUT: true; the input reads as it did. -/
def textEvenSpec : ChangeSpec := { name := "textEven", fn := fun _ => fun
  | [d] => { results := [.lit (.bool true)], args := [d] }
  | _ => none }
def textEvenRow : OpenClaim := { program := "ytadnggecnjdhiaagreat", sum := "729bb8ef2de36f9c03d686a808c6c2345dba64d868883b56726b1b0f3c2bcd43", func := "oyez/oyezlaw02.TextEven", spec := "textEven", unfollowed := true, recurses := true, apart := false }
def TextEvenSaid : Prop := textEvenRow.holds Tryz.pinned (OpenSpec.ofChange textEvenSpec)

/-- ITS FALSE NEIGHBOUR: 'it returns false'. Refute it at one input. -/
def textEvenWrong : ChangeSpec := { name := "textEven", fn := fun _ => fun
  | [d] => { results := [.lit (.bool false)], args := [d] }
  | _ => none }
def TextEvenWrongFalsely : Prop := textEvenRow.holds Tryz.pinned (OpenSpec.ofChange textEvenWrong)

/-- 'oyezlaw02.TextSmall': WHATEVER THE INPUT: true; the input reads as it did. -/
def textSmallSpec : ChangeSpec := { name := "textSmall", fn := fun _ => fun
  | [] => { results := [.lit (.bool true)], args := [] }
  | _ => none }
def textSmallRow : OpenClaim := { program := "ytadnggecnjdhiaagreat", sum := "729bb8ef2de36f9c03d686a808c6c2345dba64d868883b56726b1b0f3c2bcd43", func := "oyez/oyezlaw02.TextSmall", spec := "textSmall", unfollowed := true, recurses := true, apart := false }
def TextSmallSaid : Prop := textSmallRow.holds Tryz.pinned (OpenSpec.ofChange textSmallSpec)

/-- ITS FALSE NEIGHBOUR: 'it returns false'. Refute it at one input. -/
def textSmallWrong : ChangeSpec := { name := "textSmall", fn := fun _ => fun
  | [] => { results := [.lit (.bool false)], args := [] }
  | _ => none }
def TextSmallWrongFalsely : Prop := textSmallRow.holds Tryz.pinned (OpenSpec.ofChange textSmallWrong)

/- THE SECOND FORM. 'bulk': how many values and letters a reading holds, each counted each time it is reached (what is shared counts as often as it is met; a slice's spare places count too). A statement '..UptoSaid' is the law's where the arguments, and the package variables that the reading takes, are together of bulk at most 1048576: NARROWER than '..Said'. Prove '..Said' where nothing that the law and all that it calls make is longer than what came in: it says more and counts as full. Else prove '..UptoSaid'. A law counts once. -/
mutual
def uptoBulk {H : Type} : DataW H → Nat
  | .lit (.string bytes) => bytes.length + 1
  | .lit _ => 1
  | .nil => 1
  | .ptr d => uptoBulk d + 1
  | .slice elems spare => uptoBulkAll elems + uptoBulkAll spare + 1
  | .agg parts => uptoBulkAll parts + 1
  | .iface _ d => uptoBulk d + 1
  | .map entries => uptoBulkEntries entries + 1
  | .held _ => 1
def uptoBulkAll {H : Type} : List (DataW H) → Nat
  | [] => 0
  | d :: r => uptoBulk d + uptoBulkAll r
def uptoBulkEntries {H : Type} : List (Lit × DataW H) → Nat
  | [] => 0
  | x :: r => uptoBulkEntry x + uptoBulkEntries r
def uptoBulkEntry {H : Type} : Lit × DataW H → Nat
  | (.string bytes, d) => bytes.length + uptoBulk d + 1
  | (_, d) => uptoBulk d + 1
 end
def uptoSmall : (H : Type) → List (DataW H) → Bool := fun _ ds => decide (uptoBulkAll ds ≤ 1048576)
def OpenSpec.upto (s : _root_.Go.ChangeSpec) : _root_.Go.OpenSpec := { _root_.Go.OpenSpec.ofChange s with cond := some uptoSmall }

/-- 'oyezlaw02.TextEven', WHERE WHAT IT READS IS OF BULK AT MOST 1048576: true; the input reads as it did. -/
def textEvenUptoRow : OpenClaim := { program := "ytadnggecnjdhiaagreat", sum := "729bb8ef2de36f9c03d686a808c6c2345dba64d868883b56726b1b0f3c2bcd43", func := "oyez/oyezlaw02.TextEven", spec := "textEven", unfollowed := true, recurses := true, apart := false, narrowed := true }
def TextEvenUptoSaid : Prop := textEvenUptoRow.holds Tryz.pinned (OpenSpec.upto textEvenSpec)

/-- 'oyezlaw02.TextSmall', WHERE WHAT IT READS IS OF BULK AT MOST 1048576: true; the input reads as it did. -/
def textSmallUptoRow : OpenClaim := { program := "ytadnggecnjdhiaagreat", sum := "729bb8ef2de36f9c03d686a808c6c2345dba64d868883b56726b1b0f3c2bcd43", func := "oyez/oyezlaw02.TextSmall", spec := "textSmall", unfollowed := true, recurses := true, apart := false, narrowed := true }
def TextSmallUptoSaid : Prop := textSmallUptoRow.holds Tryz.pinned (OpenSpec.upto textSmallSpec)

end Rows
end Go.Proofs.YtadnggecnjdhiaaGreat
