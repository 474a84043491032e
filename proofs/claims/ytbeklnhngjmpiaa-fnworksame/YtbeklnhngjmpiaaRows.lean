/-
  No cell of these rows narrows 'for every input' (looked for: loops, veiled, ifaces, maps, wideKeys, modest, calm, conditions, laid).
  DERIVED. THE GIVEN ROWS OF THIS SEAT. 4 by the template 'for every input the law returns true; each argument reads behind the call as it read before'; 0 by the template 'total and deterministic' (their statements: YtbeklnhngjmpiaaTotals.lean).
  GIVEN WITH THE SEED: the statements are not yours to turn. If you find one false, say at which input.
  Laid BY PROGRAM, IN A SANDBOX (cutbox-rows.mjs): the forced cells as the released guide's own fill.sh prints them over the translation 308c79486067770a… (all of the seat's roots in one cut). By AI agents, Wed Nov 11 2026. No macro, syntax, notation, axiom, sorry.
-/
import Derived.Test.YtbeklnhngjmpiaaChecked
import GoSem.Claim
import GoSem.ClaimJoined
import GoSem.ClaimMapViews
import Derived.JoinedTies
import Derived.KernelRfl
namespace Go.Proofs.Ytbeklnhngjmpiaa
/- THE CELL 'sum', in the pinned program and in every row, IS THE sha256 OF THE DUMP (.gsa) THAT YtbeklnhngjmpiaaProg.lean LOADS. Nothing in Lean hashes anything: it is a label: what it is worth is what the hold of that sum in a sandbox is worth. -/
noncomputable def Try.pinned : Pinned := { name := "ytbeklnhngjmpiaa", sum := "308c79486067770a4ad6b8f75ce2ef4faebc14174cbf0a65a04fa415564b0382", checked := Try.checked }
namespace Rows
def none {H : Type} : Left H := { results := [], args := [] }

/-- 'laws.FnExactWorkNew': WHATEVER THE INPUT: true; the input reads as it did. -/
def fnExactWorkNewSpec : ChangeSpec := { name := "fnExactWorkNew", fn := fun _ => fun
  | [d] => { results := [.lit (.bool true)], args := [d] }
  | _ => none }
def fnExactWorkNewRow : OpenClaim := { program := "ytbeklnhngjmpiaa", sum := "308c79486067770a4ad6b8f75ce2ef4faebc14174cbf0a65a04fa415564b0382", func := "loop.example/engrosser/laws.FnExactWorkNew", spec := "fnExactWorkNew", unfollowed := true, recurses := true, apart := false }
def FnExactWorkNewSaid : Prop := fnExactWorkNewRow.holds Try.pinned (OpenSpec.ofChange fnExactWorkNewSpec)

/-- ITS FALSE NEIGHBOUR: 'it returns false'. Refute it at one input. -/
def fnExactWorkNewWrong : ChangeSpec := { name := "fnExactWorkNew", fn := fun _ => fun
  | [d] => { results := [.lit (.bool false)], args := [d] }
  | _ => none }
def FnExactWorkNewWrongFalsely : Prop := fnExactWorkNewRow.holds Try.pinned (OpenSpec.ofChange fnExactWorkNewWrong)

/-- 'laws.FnExactWorkOk': WHATEVER THE INPUT: true; the input reads as it did. -/
def fnExactWorkOkSpec : ChangeSpec := { name := "fnExactWorkOk", fn := fun _ => fun
  | [d1, d2] => { results := [.lit (.bool true)], args := [d1, d2] }
  | _ => none }
def fnExactWorkOkRow : OpenClaim := { program := "ytbeklnhngjmpiaa", sum := "308c79486067770a4ad6b8f75ce2ef4faebc14174cbf0a65a04fa415564b0382", func := "loop.example/engrosser/laws.FnExactWorkOk", spec := "fnExactWorkOk", unfollowed := true, recurses := true, apart := false }
def FnExactWorkOkSaid : Prop := fnExactWorkOkRow.holds Try.pinned (OpenSpec.ofChange fnExactWorkOkSpec)

/-- ITS FALSE NEIGHBOUR: 'it returns false'. Refute it at one input. -/
def fnExactWorkOkWrong : ChangeSpec := { name := "fnExactWorkOk", fn := fun _ => fun
  | [d1, d2] => { results := [.lit (.bool false)], args := [d1, d2] }
  | _ => none }
def FnExactWorkOkWrongFalsely : Prop := fnExactWorkOkRow.holds Try.pinned (OpenSpec.ofChange fnExactWorkOkWrong)

/-- 'laws.FnExactWorkSame': WHATEVER THE INPUT: true; the input reads as it did. -/
def fnExactWorkSameSpec : ChangeSpec := { name := "fnExactWorkSame", fn := fun _ => fun
  | [d1, d2] => { results := [.lit (.bool true)], args := [d1, d2] }
  | _ => none }
def fnExactWorkSameRow : OpenClaim := { program := "ytbeklnhngjmpiaa", sum := "308c79486067770a4ad6b8f75ce2ef4faebc14174cbf0a65a04fa415564b0382", func := "loop.example/engrosser/laws.FnExactWorkSame", spec := "fnExactWorkSame", apart := false }
def FnExactWorkSameSaid : Prop := fnExactWorkSameRow.holds Try.pinned (OpenSpec.ofChange fnExactWorkSameSpec)

/-- ITS FALSE NEIGHBOUR: 'it returns false'. Refute it at one input. -/
def fnExactWorkSameWrong : ChangeSpec := { name := "fnExactWorkSame", fn := fun _ => fun
  | [d1, d2] => { results := [.lit (.bool false)], args := [d1, d2] }
  | _ => none }
def FnExactWorkSameWrongFalsely : Prop := fnExactWorkSameRow.holds Try.pinned (OpenSpec.ofChange fnExactWorkSameWrong)

/-- 'laws.FnWorkSame': WHATEVER THE INPUT: true; the input reads as it did. -/
def fnWorkSameSpec : ChangeSpec := { name := "fnWorkSame", fn := fun _ => fun
  | [d] => { results := [.lit (.bool true)], args := [d] }
  | _ => none }
def fnWorkSameRow : OpenClaim := { program := "ytbeklnhngjmpiaa", sum := "308c79486067770a4ad6b8f75ce2ef4faebc14174cbf0a65a04fa415564b0382", func := "loop.example/engrosser/laws.FnWorkSame", spec := "fnWorkSame", apart := false }
def FnWorkSameSaid : Prop := fnWorkSameRow.holds Try.pinned (OpenSpec.ofChange fnWorkSameSpec)

/-- ITS FALSE NEIGHBOUR: 'it returns false'. Refute it at one input. -/
def fnWorkSameWrong : ChangeSpec := { name := "fnWorkSame", fn := fun _ => fun
  | [d] => { results := [.lit (.bool false)], args := [d] }
  | _ => none }
def FnWorkSameWrongFalsely : Prop := fnWorkSameRow.holds Try.pinned (OpenSpec.ofChange fnWorkSameWrong)

/- THE SECOND FORM. 'bulk': how many values and letters a reading holds, each counted each time it is reached (what is shared counts as often as it is met; a slice's spare places count too). A statement '..UptoSaid' is the law's where the arguments, and the package variables that the reading takes, are together of bulk at most 1048576: NARROWER than '..Said'. Prove '..Said' where nothing that the law and all that it calls make is longer than what came in: it says more and counts as full. Else prove '..UptoSaid'. A law counts once. -/
mutual
def uptoBulk {H : Type} : DataW H → Nat
  | .lit (.string bytes) => bytes.length + 1
  | .lit _ => 1
  | .nil => 1
  | .ptr d => uptoBulk d + 1
  | .slice elems spare => uptoBulkAll elems + uptoBulkAll spare + 1
  | .agg parts => uptoBulkAll parts + 1
  | .iface _ d => uptoBulk d + 1
  | .map entries => uptoBulkEntries entries + 1
  | .held _ => 1
def uptoBulkAll {H : Type} : List (DataW H) → Nat
  | [] => 0
  | d :: r => uptoBulk d + uptoBulkAll r
def uptoBulkEntries {H : Type} : List (Lit × DataW H) → Nat
  | [] => 0
  | x :: r => uptoBulkEntry x + uptoBulkEntries r
def uptoBulkEntry {H : Type} : Lit × DataW H → Nat
  | (.string bytes, d) => bytes.length + uptoBulk d + 1
  | (_, d) => uptoBulk d + 1
 end
def uptoSmall : (H : Type) → List (DataW H) → Bool := fun _ ds => decide (uptoBulkAll ds ≤ 1048576)
def OpenSpec.upto (s : _root_.Go.ChangeSpec) : _root_.Go.OpenSpec := { _root_.Go.OpenSpec.ofChange s with cond := some uptoSmall }

/-- 'laws.FnExactWorkNew', WHERE WHAT IT READS IS OF BULK AT MOST 1048576: true; the input reads as it did. -/
def fnExactWorkNewUptoRow : OpenClaim := { program := "ytbeklnhngjmpiaa", sum := "308c79486067770a4ad6b8f75ce2ef4faebc14174cbf0a65a04fa415564b0382", func := "loop.example/engrosser/laws.FnExactWorkNew", spec := "fnExactWorkNew", unfollowed := true, recurses := true, apart := false, narrowed := true }
def FnExactWorkNewUptoSaid : Prop := fnExactWorkNewUptoRow.holds Try.pinned (OpenSpec.upto fnExactWorkNewSpec)

/-- 'laws.FnExactWorkOk', WHERE WHAT IT READS IS OF BULK AT MOST 1048576: true; the input reads as it did. -/
def fnExactWorkOkUptoRow : OpenClaim := { program := "ytbeklnhngjmpiaa", sum := "308c79486067770a4ad6b8f75ce2ef4faebc14174cbf0a65a04fa415564b0382", func := "loop.example/engrosser/laws.FnExactWorkOk", spec := "fnExactWorkOk", unfollowed := true, recurses := true, apart := false, narrowed := true }
def FnExactWorkOkUptoSaid : Prop := fnExactWorkOkUptoRow.holds Try.pinned (OpenSpec.upto fnExactWorkOkSpec)

/-- 'laws.FnExactWorkSame', WHERE WHAT IT READS IS OF BULK AT MOST 1048576: true; the input reads as it did. -/
def fnExactWorkSameUptoRow : OpenClaim := { program := "ytbeklnhngjmpiaa", sum := "308c79486067770a4ad6b8f75ce2ef4faebc14174cbf0a65a04fa415564b0382", func := "loop.example/engrosser/laws.FnExactWorkSame", spec := "fnExactWorkSame", apart := false, narrowed := true }
def FnExactWorkSameUptoSaid : Prop := fnExactWorkSameUptoRow.holds Try.pinned (OpenSpec.upto fnExactWorkSameSpec)

/-- 'laws.FnWorkSame', WHERE WHAT IT READS IS OF BULK AT MOST 1048576: true; the input reads as it did. -/
def fnWorkSameUptoRow : OpenClaim := { program := "ytbeklnhngjmpiaa", sum := "308c79486067770a4ad6b8f75ce2ef4faebc14174cbf0a65a04fa415564b0382", func := "loop.example/engrosser/laws.FnWorkSame", spec := "fnWorkSame", apart := false, narrowed := true }
def FnWorkSameUptoSaid : Prop := fnWorkSameUptoRow.holds Try.pinned (OpenSpec.upto fnWorkSameSpec)

end Rows
end Go.Proofs.Ytbeklnhngjmpiaa
