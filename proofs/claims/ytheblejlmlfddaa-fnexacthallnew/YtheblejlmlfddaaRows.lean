/-
  No cell of these rows narrows 'for every input' (looked for: loops, veiled, ifaces, maps, wideKeys, modest, calm, conditions, laid).
  DERIVED. THE GIVEN ROWS OF THIS SEAT. 3 by the template 'for every input the law returns true; each argument reads behind the call as it read before'; 0 by the template 'total and deterministic' (their statements: YtheblejlmlfddaaTotals.lean).
  GIVEN WITH THE SEED: the statements are not yours to turn. If you find one false, say at which input.
  Laid BY PROGRAM, IN A SANDBOX (cutbox-rows.mjs): the forced cells as the released guide's own fill.sh prints them over the translation 420c9f4b773546e9… (all of the seat's roots in one cut). By AI agents, Wed Nov 11 2026. No macro, syntax, notation, axiom, sorry.
-/
import Derived.Test.YtheblejlmlfddaaChecked
import GoSem.Claim
import GoSem.ClaimJoined
import GoSem.ClaimMapViews
import Derived.JoinedTies
import Derived.KernelRfl
namespace Go.Proofs.Ytheblejlmlfddaa
/- THE CELL 'sum', in the pinned program and in every row, IS THE sha256 OF THE DUMP (.gsa) THAT YtheblejlmlfddaaProg.lean LOADS. Nothing in Lean hashes anything: it is a label: what it is worth is what the hold of that sum in a sandbox is worth. -/
noncomputable def Try.pinned : Pinned := { name := "ytheblejlmlfddaa", sum := "420c9f4b773546e91bf35179a887d8874988b9cc57032ccbadc3c8f593b77807", checked := Try.checked }
namespace Rows
def none {H : Type} : Left H := { results := [], args := [] }

/-- 'laws.FnExactHallNew': WHATEVER THE INPUT: true; the input reads as it did. -/
def fnExactHallNewSpec : ChangeSpec := { name := "fnExactHallNew", fn := fun _ => fun
  | [] => { results := [.lit (.bool true)], args := [] }
  | _ => none }
def fnExactHallNewRow : OpenClaim := { program := "ytheblejlmlfddaa", sum := "420c9f4b773546e91bf35179a887d8874988b9cc57032ccbadc3c8f593b77807", func := "loop.example/engrosser/laws.FnExactHallNew", spec := "fnExactHallNew", apart := false }
def FnExactHallNewSaid : Prop := fnExactHallNewRow.holds Try.pinned (OpenSpec.ofChange fnExactHallNewSpec)

/-- ITS FALSE NEIGHBOUR: 'it returns false'. Refute it at one input. -/
def fnExactHallNewWrong : ChangeSpec := { name := "fnExactHallNew", fn := fun _ => fun
  | [] => { results := [.lit (.bool false)], args := [] }
  | _ => none }
def FnExactHallNewWrongFalsely : Prop := fnExactHallNewRow.holds Try.pinned (OpenSpec.ofChange fnExactHallNewWrong)

/-- 'laws.FnExactHallOnly': WHATEVER THE INPUT: true; the input reads as it did. -/
def fnExactHallOnlySpec : ChangeSpec := { name := "fnExactHallOnly", fn := fun _ => fun
  | [d1, d2] => { results := [.lit (.bool true)], args := [d1, d2] }
  | _ => none }
def fnExactHallOnlyRow : OpenClaim := { program := "ytheblejlmlfddaa", sum := "420c9f4b773546e91bf35179a887d8874988b9cc57032ccbadc3c8f593b77807", func := "loop.example/engrosser/laws.FnExactHallOnly", spec := "fnExactHallOnly", apart := false }
def FnExactHallOnlySaid : Prop := fnExactHallOnlyRow.holds Try.pinned (OpenSpec.ofChange fnExactHallOnlySpec)

/-- ITS FALSE NEIGHBOUR: 'it returns false'. Refute it at one input. -/
def fnExactHallOnlyWrong : ChangeSpec := { name := "fnExactHallOnly", fn := fun _ => fun
  | [d1, d2] => { results := [.lit (.bool false)], args := [d1, d2] }
  | _ => none }
def FnExactHallOnlyWrongFalsely : Prop := fnExactHallOnlyRow.holds Try.pinned (OpenSpec.ofChange fnExactHallOnlyWrong)

/-- 'laws.FnExactHallSame': WHATEVER THE INPUT: true; the input reads as it did. -/
def fnExactHallSameSpec : ChangeSpec := { name := "fnExactHallSame", fn := fun _ => fun
  | [d1, d2] => { results := [.lit (.bool true)], args := [d1, d2] }
  | _ => none }
def fnExactHallSameRow : OpenClaim := { program := "ytheblejlmlfddaa", sum := "420c9f4b773546e91bf35179a887d8874988b9cc57032ccbadc3c8f593b77807", func := "loop.example/engrosser/laws.FnExactHallSame", spec := "fnExactHallSame", unfollowed := true, recurses := true, apart := false }
def FnExactHallSameSaid : Prop := fnExactHallSameRow.holds Try.pinned (OpenSpec.ofChange fnExactHallSameSpec)

/-- ITS FALSE NEIGHBOUR: 'it returns false'. Refute it at one input. -/
def fnExactHallSameWrong : ChangeSpec := { name := "fnExactHallSame", fn := fun _ => fun
  | [d1, d2] => { results := [.lit (.bool false)], args := [d1, d2] }
  | _ => none }
def FnExactHallSameWrongFalsely : Prop := fnExactHallSameRow.holds Try.pinned (OpenSpec.ofChange fnExactHallSameWrong)

/- THE SECOND FORM. 'bulk': how many values and letters a reading holds, each counted each time it is reached (what is shared counts as often as it is met; a slice's spare places count too). A statement '..UptoSaid' is the law's where the arguments, and the package variables that the reading takes, are together of bulk at most 1048576: NARROWER than '..Said'. Prove '..Said' where nothing that the law and all that it calls make is longer than what came in: it says more and counts as full. Else prove '..UptoSaid'. A law counts once. -/
mutual
def uptoBulk {H : Type} : DataW H → Nat
  | .lit (.string bytes) => bytes.length + 1
  | .lit _ => 1
  | .nil => 1
  | .ptr d => uptoBulk d + 1
  | .slice elems spare => uptoBulkAll elems + uptoBulkAll spare + 1
  | .agg parts => uptoBulkAll parts + 1
  | .iface _ d => uptoBulk d + 1
  | .map entries => uptoBulkEntries entries + 1
  | .held _ => 1
def uptoBulkAll {H : Type} : List (DataW H) → Nat
  | [] => 0
  | d :: r => uptoBulk d + uptoBulkAll r
def uptoBulkEntries {H : Type} : List (Lit × DataW H) → Nat
  | [] => 0
  | x :: r => uptoBulkEntry x + uptoBulkEntries r
def uptoBulkEntry {H : Type} : Lit × DataW H → Nat
  | (.string bytes, d) => bytes.length + uptoBulk d + 1
  | (_, d) => uptoBulk d + 1
 end
def uptoSmall : (H : Type) → List (DataW H) → Bool := fun _ ds => decide (uptoBulkAll ds ≤ 1048576)
def OpenSpec.upto (s : _root_.Go.ChangeSpec) : _root_.Go.OpenSpec := { _root_.Go.OpenSpec.ofChange s with cond := some uptoSmall }

/-- 'laws.FnExactHallNew', WHERE WHAT IT READS IS OF BULK AT MOST 1048576: true; the input reads as it did. -/
def fnExactHallNewUptoRow : OpenClaim := { program := "ytheblejlmlfddaa", sum := "420c9f4b773546e91bf35179a887d8874988b9cc57032ccbadc3c8f593b77807", func := "loop.example/engrosser/laws.FnExactHallNew", spec := "fnExactHallNew", apart := false, narrowed := true }
def FnExactHallNewUptoSaid : Prop := fnExactHallNewUptoRow.holds Try.pinned (OpenSpec.upto fnExactHallNewSpec)

/-- 'laws.FnExactHallOnly', WHERE WHAT IT READS IS OF BULK AT MOST 1048576: true; the input reads as it did. -/
def fnExactHallOnlyUptoRow : OpenClaim := { program := "ytheblejlmlfddaa", sum := "420c9f4b773546e91bf35179a887d8874988b9cc57032ccbadc3c8f593b77807", func := "loop.example/engrosser/laws.FnExactHallOnly", spec := "fnExactHallOnly", apart := false, narrowed := true }
def FnExactHallOnlyUptoSaid : Prop := fnExactHallOnlyUptoRow.holds Try.pinned (OpenSpec.upto fnExactHallOnlySpec)

/-- 'laws.FnExactHallSame', WHERE WHAT IT READS IS OF BULK AT MOST 1048576: true; the input reads as it did. -/
def fnExactHallSameUptoRow : OpenClaim := { program := "ytheblejlmlfddaa", sum := "420c9f4b773546e91bf35179a887d8874988b9cc57032ccbadc3c8f593b77807", func := "loop.example/engrosser/laws.FnExactHallSame", spec := "fnExactHallSame", unfollowed := true, recurses := true, apart := false, narrowed := true }
def FnExactHallSameUptoSaid : Prop := fnExactHallSameUptoRow.holds Try.pinned (OpenSpec.upto fnExactHallSameSpec)

end Rows
end Go.Proofs.Ytheblejlmlfddaa
