/-
  No cell of these rows narrows 'for every input' (looked for: loops, veiled, ifaces, maps, wideKeys, modest, calm, conditions, laid).
  DERIVED. THE GIVEN ROWS OF THIS SEAT. 5 by the template 'for every input the law returns true; each argument reads behind the call as it read before'; 0 by the template 'total and deterministic' (their statements: YthahemffeagifaaTotals.lean).
  GIVEN WITH THE SEED: the statements are not yours to turn. If you find one false, say at which input.
  Laid BY PROGRAM, IN A SANDBOX (cutbox-rows.mjs): the forced cells as the released guide's own fill.sh prints them over the translation 0e7ffd6e360babb9… (all of the seat's roots in one cut). By AI agents, Wed Nov 11 2026. No macro, syntax, notation, axiom, sorry.
-/
import Derived.Test.YthahemffeagifaaChecked
import GoSem.Claim
import GoSem.ClaimJoined
import GoSem.ClaimMapViews
import Derived.JoinedTies
import Derived.KernelRfl
namespace Go.Proofs.Ythahemffeagifaa
/- THE CELL 'sum', in the pinned program and in every row, IS THE sha256 OF THE DUMP (.gsa) THAT YthahemffeagifaaProg.lean LOADS. Nothing in Lean hashes anything: it is a label: what it is worth is what the hold of that sum in a sandbox is worth. -/
noncomputable def Try.pinned : Pinned := { name := "ythahemffeagifaa", sum := "0e7ffd6e360babb960082702ce50bd35aa32f35f137d2a8205d18dd1c6bca180", checked := Try.checked }
namespace Rows
def none {H : Type} : Left H := { results := [], args := [] }

/-- 'quicksetlaw09.ExtentLast': WHATEVER THE INPUT: true; the input reads as it did. -/
def extentLastSpec : ChangeSpec := { name := "extentLast", fn := fun _ => fun
  | [d1, d2] => { results := [.lit (.bool true)], args := [d1, d2] }
  | _ => none }
def extentLastRow : OpenClaim := { program := "ythahemffeagifaa", sum := "0e7ffd6e360babb960082702ce50bd35aa32f35f137d2a8205d18dd1c6bca180", func := "quickset/quicksetlaw09.ExtentLast", spec := "extentLast", unfollowed := true, recurses := true, apart := false }
def ExtentLastSaid : Prop := extentLastRow.holds Try.pinned (OpenSpec.ofChange extentLastSpec)

/-- ITS FALSE NEIGHBOUR: 'it returns false'. Refute it at one input. -/
def extentLastWrong : ChangeSpec := { name := "extentLast", fn := fun _ => fun
  | [d1, d2] => { results := [.lit (.bool false)], args := [d1, d2] }
  | _ => none }
def ExtentLastWrongFalsely : Prop := extentLastRow.holds Try.pinned (OpenSpec.ofChange extentLastWrong)

/-- 'quicksetlaw09.ExtentParts': WHATEVER THE INPUT: true; the input reads as it did. -/
def extentPartsSpec : ChangeSpec := { name := "extentParts", fn := fun _ => fun
  | [d1, d2, d3] => { results := [.lit (.bool true)], args := [d1, d2, d3] }
  | _ => none }
def extentPartsRow : OpenClaim := { program := "ythahemffeagifaa", sum := "0e7ffd6e360babb960082702ce50bd35aa32f35f137d2a8205d18dd1c6bca180", func := "quickset/quicksetlaw09.ExtentParts", spec := "extentParts", unfollowed := true, recurses := true, apart := false }
def ExtentPartsSaid : Prop := extentPartsRow.holds Try.pinned (OpenSpec.ofChange extentPartsSpec)

/-- ITS FALSE NEIGHBOUR: 'it returns false'. Refute it at one input. -/
def extentPartsWrong : ChangeSpec := { name := "extentParts", fn := fun _ => fun
  | [d1, d2, d3] => { results := [.lit (.bool false)], args := [d1, d2, d3] }
  | _ => none }
def ExtentPartsWrongFalsely : Prop := extentPartsRow.holds Try.pinned (OpenSpec.ofChange extentPartsWrong)

/-- 'quicksetlaw09.ExtentApart': WHATEVER THE INPUT: true; the input reads as it did. -/
def extentApartSpec : ChangeSpec := { name := "extentApart", fn := fun _ => fun
  | [d1, d2, d3] => { results := [.lit (.bool true)], args := [d1, d2, d3] }
  | _ => none }
def extentApartRow : OpenClaim := { program := "ythahemffeagifaa", sum := "0e7ffd6e360babb960082702ce50bd35aa32f35f137d2a8205d18dd1c6bca180", func := "quickset/quicksetlaw09.ExtentApart", spec := "extentApart", unfollowed := true, recurses := true, apart := false }
def ExtentApartSaid : Prop := extentApartRow.holds Try.pinned (OpenSpec.ofChange extentApartSpec)

/-- ITS FALSE NEIGHBOUR: 'it returns false'. Refute it at one input. -/
def extentApartWrong : ChangeSpec := { name := "extentApart", fn := fun _ => fun
  | [d1, d2, d3] => { results := [.lit (.bool false)], args := [d1, d2, d3] }
  | _ => none }
def ExtentApartWrongFalsely : Prop := extentApartRow.holds Try.pinned (OpenSpec.ofChange extentApartWrong)

/-- 'quicksetlaw09.ExtentOrder': WHATEVER THE INPUT: true; the input reads as it did. -/
def extentOrderSpec : ChangeSpec := { name := "extentOrder", fn := fun _ => fun
  | [d1, d2] => { results := [.lit (.bool true)], args := [d1, d2] }
  | _ => none }
def extentOrderRow : OpenClaim := { program := "ythahemffeagifaa", sum := "0e7ffd6e360babb960082702ce50bd35aa32f35f137d2a8205d18dd1c6bca180", func := "quickset/quicksetlaw09.ExtentOrder", spec := "extentOrder", unfollowed := true, recurses := true, apart := false }
def ExtentOrderSaid : Prop := extentOrderRow.holds Try.pinned (OpenSpec.ofChange extentOrderSpec)

/-- ITS FALSE NEIGHBOUR: 'it returns false'. Refute it at one input. -/
def extentOrderWrong : ChangeSpec := { name := "extentOrder", fn := fun _ => fun
  | [d1, d2] => { results := [.lit (.bool false)], args := [d1, d2] }
  | _ => none }
def ExtentOrderWrongFalsely : Prop := extentOrderRow.holds Try.pinned (OpenSpec.ofChange extentOrderWrong)

/-- 'quicksetlaw09.ExtentAts': WHATEVER THE INPUT: true; the input reads as it did. -/
def extentAtsSpec : ChangeSpec := { name := "extentAts", fn := fun _ => fun
  | [d1, d2, d3, d4] => { results := [.lit (.bool true)], args := [d1, d2, d3, d4] }
  | _ => none }
def extentAtsRow : OpenClaim := { program := "ythahemffeagifaa", sum := "0e7ffd6e360babb960082702ce50bd35aa32f35f137d2a8205d18dd1c6bca180", func := "quickset/quicksetlaw09.ExtentAts", spec := "extentAts", unfollowed := true, recurses := true, apart := false }
def ExtentAtsSaid : Prop := extentAtsRow.holds Try.pinned (OpenSpec.ofChange extentAtsSpec)

/-- ITS FALSE NEIGHBOUR: 'it returns false'. Refute it at one input. -/
def extentAtsWrong : ChangeSpec := { name := "extentAts", fn := fun _ => fun
  | [d1, d2, d3, d4] => { results := [.lit (.bool false)], args := [d1, d2, d3, d4] }
  | _ => none }
def ExtentAtsWrongFalsely : Prop := extentAtsRow.holds Try.pinned (OpenSpec.ofChange extentAtsWrong)

/- THE SECOND FORM. 'bulk': how many values and letters a reading holds, each counted each time it is reached (what is shared counts as often as it is met; a slice's spare places count too). A statement '..UptoSaid' is the law's where the arguments, and the package variables that the reading takes, are together of bulk at most 1048576: NARROWER than '..Said'. Prove '..Said' where nothing that the law and all that it calls make is longer than what came in: it says more and counts as full. Else prove '..UptoSaid'. A law counts once. -/
mutual
def uptoBulk {H : Type} : DataW H → Nat
  | .lit (.string bytes) => bytes.length + 1
  | .lit _ => 1
  | .nil => 1
  | .ptr d => uptoBulk d + 1
  | .slice elems spare => uptoBulkAll elems + uptoBulkAll spare + 1
  | .agg parts => uptoBulkAll parts + 1
  | .iface _ d => uptoBulk d + 1
  | .map entries => uptoBulkEntries entries + 1
  | .held _ => 1
def uptoBulkAll {H : Type} : List (DataW H) → Nat
  | [] => 0
  | d :: r => uptoBulk d + uptoBulkAll r
def uptoBulkEntries {H : Type} : List (Lit × DataW H) → Nat
  | [] => 0
  | x :: r => uptoBulkEntry x + uptoBulkEntries r
def uptoBulkEntry {H : Type} : Lit × DataW H → Nat
  | (.string bytes, d) => bytes.length + uptoBulk d + 1
  | (_, d) => uptoBulk d + 1
 end
def uptoSmall : (H : Type) → List (DataW H) → Bool := fun _ ds => decide (uptoBulkAll ds ≤ 1048576)
def OpenSpec.upto (s : _root_.Go.ChangeSpec) : _root_.Go.OpenSpec := { _root_.Go.OpenSpec.ofChange s with cond := some uptoSmall }

/-- 'quicksetlaw09.ExtentLast', WHERE WHAT IT READS IS OF BULK AT MOST 1048576: true; the input reads as it did. -/
def extentLastUptoRow : OpenClaim := { program := "ythahemffeagifaa", sum := "0e7ffd6e360babb960082702ce50bd35aa32f35f137d2a8205d18dd1c6bca180", func := "quickset/quicksetlaw09.ExtentLast", spec := "extentLast", unfollowed := true, recurses := true, apart := false, narrowed := true }
def ExtentLastUptoSaid : Prop := extentLastUptoRow.holds Try.pinned (OpenSpec.upto extentLastSpec)

/-- 'quicksetlaw09.ExtentParts', WHERE WHAT IT READS IS OF BULK AT MOST 1048576: true; the input reads as it did. -/
def extentPartsUptoRow : OpenClaim := { program := "ythahemffeagifaa", sum := "0e7ffd6e360babb960082702ce50bd35aa32f35f137d2a8205d18dd1c6bca180", func := "quickset/quicksetlaw09.ExtentParts", spec := "extentParts", unfollowed := true, recurses := true, apart := false, narrowed := true }
def ExtentPartsUptoSaid : Prop := extentPartsUptoRow.holds Try.pinned (OpenSpec.upto extentPartsSpec)

/-- 'quicksetlaw09.ExtentApart', WHERE WHAT IT READS IS OF BULK AT MOST 1048576: true; the input reads as it did. -/
def extentApartUptoRow : OpenClaim := { program := "ythahemffeagifaa", sum := "0e7ffd6e360babb960082702ce50bd35aa32f35f137d2a8205d18dd1c6bca180", func := "quickset/quicksetlaw09.ExtentApart", spec := "extentApart", unfollowed := true, recurses := true, apart := false, narrowed := true }
def ExtentApartUptoSaid : Prop := extentApartUptoRow.holds Try.pinned (OpenSpec.upto extentApartSpec)

/-- 'quicksetlaw09.ExtentOrder', WHERE WHAT IT READS IS OF BULK AT MOST 1048576: true; the input reads as it did. -/
def extentOrderUptoRow : OpenClaim := { program := "ythahemffeagifaa", sum := "0e7ffd6e360babb960082702ce50bd35aa32f35f137d2a8205d18dd1c6bca180", func := "quickset/quicksetlaw09.ExtentOrder", spec := "extentOrder", unfollowed := true, recurses := true, apart := false, narrowed := true }
def ExtentOrderUptoSaid : Prop := extentOrderUptoRow.holds Try.pinned (OpenSpec.upto extentOrderSpec)

/-- 'quicksetlaw09.ExtentAts', WHERE WHAT IT READS IS OF BULK AT MOST 1048576: true; the input reads as it did. -/
def extentAtsUptoRow : OpenClaim := { program := "ythahemffeagifaa", sum := "0e7ffd6e360babb960082702ce50bd35aa32f35f137d2a8205d18dd1c6bca180", func := "quickset/quicksetlaw09.ExtentAts", spec := "extentAts", unfollowed := true, recurses := true, apart := false, narrowed := true }
def ExtentAtsUptoSaid : Prop := extentAtsUptoRow.holds Try.pinned (OpenSpec.upto extentAtsSpec)

end Rows
end Go.Proofs.Ythahemffeagifaa
