/-
  No cell of these rows narrows 'for every input' (looked for: loops, veiled, ifaces, maps, wideKeys, modest, calm, conditions, laid).
  DERIVED. THE GIVEN ROWS OF THIS SEAT. 13 by the template 'for every input the law returns true; each argument reads behind the call as it read before'; 0 by the template 'total and deterministic' (their statements: YtbeklnhngjmpiaaGreatTotals.lean).
  GIVEN WITH THE SEED: the statements are not yours to turn. If you find one false, say at which input.
  Laid BY PROGRAM, IN A SANDBOX (cutbox-rows.mjs): the forced cells as the released guide's own fill.sh prints them over the translation b214f8f4e85964be… (all of the seat's roots in one cut). By AI agents, Wed Nov 11 2026. No macro, syntax, notation, axiom, sorry.
-/
import Derived.Test.YtbeklnhngjmpiaaGreatChecked
import GoSem.Claim
import GoSem.ClaimJoined
import GoSem.ClaimMapViews
import Derived.JoinedTies
import Derived.KernelRfl
namespace Go.Proofs.YtbeklnhngjmpiaaGreat
/- THE CELL 'sum', in the pinned program and in every row, IS THE sha256 OF THE DUMP (.gsa) THAT YtbeklnhngjmpiaaGreatProg.lean LOADS. Nothing in Lean hashes anything: it is a label: what it is worth is what the hold of that sum in a sandbox is worth. -/
noncomputable def Tryz.pinned : Pinned := { name := "ytbeklnhngjmpiaagreat", sum := "b214f8f4e85964be0ffd2337be91057cbc4f7ea4355810eca9eb2cd42c088ee5", checked := Tryz.checked }
namespace Rows
def none {H : Type} : Left H := { results := [], args := [] }

/-- 'laws.FnExactWorkRows': WHATEVER THE INPUT: true; the input reads as it did. -/
def fnExactWorkRowsSpec : ChangeSpec := { name := "fnExactWorkRows", fn := fun _ => fun
  | [d1, d2] => { results := [.lit (.bool true)], args := [d1, d2] }
  | _ => none }
def fnExactWorkRowsRow : OpenClaim := { program := "ytbeklnhngjmpiaagreat", sum := "b214f8f4e85964be0ffd2337be91057cbc4f7ea4355810eca9eb2cd42c088ee5", func := "loop.example/engrosser/laws.FnExactWorkRows", spec := "fnExactWorkRows", unfollowed := true, recurses := true, apart := false }
def FnExactWorkRowsSaid : Prop := fnExactWorkRowsRow.holds Tryz.pinned (OpenSpec.ofChange fnExactWorkRowsSpec)

/-- ITS FALSE NEIGHBOUR: 'it returns false'. Refute it at one input. -/
def fnExactWorkRowsWrong : ChangeSpec := { name := "fnExactWorkRows", fn := fun _ => fun
  | [d1, d2] => { results := [.lit (.bool false)], args := [d1, d2] }
  | _ => none }
def FnExactWorkRowsWrongFalsely : Prop := fnExactWorkRowsRow.holds Tryz.pinned (OpenSpec.ofChange fnExactWorkRowsWrong)

/-- 'laws.FnExactWorkPut': WHATEVER THE INPUT: true; the input reads as it did. -/
def fnExactWorkPutSpec : ChangeSpec := { name := "fnExactWorkPut", fn := fun _ => fun
  | [d1, d2, d3] => { results := [.lit (.bool true)], args := [d1, d2, d3] }
  | _ => none }
def fnExactWorkPutRow : OpenClaim := { program := "ytbeklnhngjmpiaagreat", sum := "b214f8f4e85964be0ffd2337be91057cbc4f7ea4355810eca9eb2cd42c088ee5", func := "loop.example/engrosser/laws.FnExactWorkPut", spec := "fnExactWorkPut", unfollowed := true, recurses := true, apart := false }
def FnExactWorkPutSaid : Prop := fnExactWorkPutRow.holds Tryz.pinned (OpenSpec.ofChange fnExactWorkPutSpec)

/-- ITS FALSE NEIGHBOUR: 'it returns false'. Refute it at one input. -/
def fnExactWorkPutWrong : ChangeSpec := { name := "fnExactWorkPut", fn := fun _ => fun
  | [d1, d2, d3] => { results := [.lit (.bool false)], args := [d1, d2, d3] }
  | _ => none }
def FnExactWorkPutWrongFalsely : Prop := fnExactWorkPutRow.holds Tryz.pinned (OpenSpec.ofChange fnExactWorkPutWrong)

/-- 'laws.FnExactWorkEnd': WHATEVER THE INPUT: true; the input reads as it did. -/
def fnExactWorkEndSpec : ChangeSpec := { name := "fnExactWorkEnd", fn := fun _ => fun
  | [d1, d2] => { results := [.lit (.bool true)], args := [d1, d2] }
  | _ => none }
def fnExactWorkEndRow : OpenClaim := { program := "ytbeklnhngjmpiaagreat", sum := "b214f8f4e85964be0ffd2337be91057cbc4f7ea4355810eca9eb2cd42c088ee5", func := "loop.example/engrosser/laws.FnExactWorkEnd", spec := "fnExactWorkEnd", unfollowed := true, recurses := true, apart := false }
def FnExactWorkEndSaid : Prop := fnExactWorkEndRow.holds Tryz.pinned (OpenSpec.ofChange fnExactWorkEndSpec)

/-- ITS FALSE NEIGHBOUR: 'it returns false'. Refute it at one input. -/
def fnExactWorkEndWrong : ChangeSpec := { name := "fnExactWorkEnd", fn := fun _ => fun
  | [d1, d2] => { results := [.lit (.bool false)], args := [d1, d2] }
  | _ => none }
def FnExactWorkEndWrongFalsely : Prop := fnExactWorkEndRow.holds Tryz.pinned (OpenSpec.ofChange fnExactWorkEndWrong)

/-- 'laws.FnWorkPut': WHATEVER THE INPUT: true; the input reads as it did. -/
def fnWorkPutSpec : ChangeSpec := { name := "fnWorkPut", fn := fun _ => fun
  | [d] => { results := [.lit (.bool true)], args := [d] }
  | _ => none }
def fnWorkPutRow : OpenClaim := { program := "ytbeklnhngjmpiaagreat", sum := "b214f8f4e85964be0ffd2337be91057cbc4f7ea4355810eca9eb2cd42c088ee5", func := "loop.example/engrosser/laws.FnWorkPut", spec := "fnWorkPut", unfollowed := true, recurses := true, apart := false }
def FnWorkPutSaid : Prop := fnWorkPutRow.holds Tryz.pinned (OpenSpec.ofChange fnWorkPutSpec)

/-- ITS FALSE NEIGHBOUR: 'it returns false'. Refute it at one input. -/
def fnWorkPutWrong : ChangeSpec := { name := "fnWorkPut", fn := fun _ => fun
  | [d] => { results := [.lit (.bool false)], args := [d] }
  | _ => none }
def FnWorkPutWrongFalsely : Prop := fnWorkPutRow.holds Tryz.pinned (OpenSpec.ofChange fnWorkPutWrong)

/-- 'laws.FnWorkSees': WHATEVER THE INPUT: true; the input reads as it did. -/
def fnWorkSeesSpec : ChangeSpec := { name := "fnWorkSees", fn := fun _ => fun
  | [d1, d2] => { results := [.lit (.bool true)], args := [d1, d2] }
  | _ => none }
def fnWorkSeesRow : OpenClaim := { program := "ytbeklnhngjmpiaagreat", sum := "b214f8f4e85964be0ffd2337be91057cbc4f7ea4355810eca9eb2cd42c088ee5", func := "loop.example/engrosser/laws.FnWorkSees", spec := "fnWorkSees", unfollowed := true, recurses := true, apart := false }
def FnWorkSeesSaid : Prop := fnWorkSeesRow.holds Tryz.pinned (OpenSpec.ofChange fnWorkSeesSpec)

/-- ITS FALSE NEIGHBOUR: 'it returns false'. Refute it at one input. -/
def fnWorkSeesWrong : ChangeSpec := { name := "fnWorkSees", fn := fun _ => fun
  | [d1, d2] => { results := [.lit (.bool false)], args := [d1, d2] }
  | _ => none }
def FnWorkSeesWrongFalsely : Prop := fnWorkSeesRow.holds Tryz.pinned (OpenSpec.ofChange fnWorkSeesWrong)

/-- 'laws.FnWorkEnd': WHATEVER THE INPUT: true; the input reads as it did. -/
def fnWorkEndSpec : ChangeSpec := { name := "fnWorkEnd", fn := fun _ => fun
  | [d] => { results := [.lit (.bool true)], args := [d] }
  | _ => none }
def fnWorkEndRow : OpenClaim := { program := "ytbeklnhngjmpiaagreat", sum := "b214f8f4e85964be0ffd2337be91057cbc4f7ea4355810eca9eb2cd42c088ee5", func := "loop.example/engrosser/laws.FnWorkEnd", spec := "fnWorkEnd", unfollowed := true, recurses := true, apart := false }
def FnWorkEndSaid : Prop := fnWorkEndRow.holds Tryz.pinned (OpenSpec.ofChange fnWorkEndSpec)

/-- ITS FALSE NEIGHBOUR: 'it returns false'. Refute it at one input. -/
def fnWorkEndWrong : ChangeSpec := { name := "fnWorkEnd", fn := fun _ => fun
  | [d] => { results := [.lit (.bool false)], args := [d] }
  | _ => none }
def FnWorkEndWrongFalsely : Prop := fnWorkEndRow.holds Tryz.pinned (OpenSpec.ofChange fnWorkEndWrong)

/-- 'laws.FnWorkLate': WHATEVER THE INPUT: true; the input reads as it did. -/
def fnWorkLateSpec : ChangeSpec := { name := "fnWorkLate", fn := fun _ => fun
  | [d] => { results := [.lit (.bool true)], args := [d] }
  | _ => none }
def fnWorkLateRow : OpenClaim := { program := "ytbeklnhngjmpiaagreat", sum := "b214f8f4e85964be0ffd2337be91057cbc4f7ea4355810eca9eb2cd42c088ee5", func := "loop.example/engrosser/laws.FnWorkLate", spec := "fnWorkLate", unfollowed := true, recurses := true, apart := false }
def FnWorkLateSaid : Prop := fnWorkLateRow.holds Tryz.pinned (OpenSpec.ofChange fnWorkLateSpec)

/-- ITS FALSE NEIGHBOUR: 'it returns false'. Refute it at one input. -/
def fnWorkLateWrong : ChangeSpec := { name := "fnWorkLate", fn := fun _ => fun
  | [d] => { results := [.lit (.bool false)], args := [d] }
  | _ => none }
def FnWorkLateWrongFalsely : Prop := fnWorkLateRow.holds Tryz.pinned (OpenSpec.ofChange fnWorkLateWrong)

/-- 'laws.FnWorkApart': WHATEVER THE INPUT: true; the input reads as it did. -/
def fnWorkApartSpec : ChangeSpec := { name := "fnWorkApart", fn := fun _ => fun
  | [d1, d2] => { results := [.lit (.bool true)], args := [d1, d2] }
  | _ => none }
def fnWorkApartRow : OpenClaim := { program := "ytbeklnhngjmpiaagreat", sum := "b214f8f4e85964be0ffd2337be91057cbc4f7ea4355810eca9eb2cd42c088ee5", func := "loop.example/engrosser/laws.FnWorkApart", spec := "fnWorkApart", unfollowed := true, recurses := true, apart := false }
def FnWorkApartSaid : Prop := fnWorkApartRow.holds Tryz.pinned (OpenSpec.ofChange fnWorkApartSpec)

/-- ITS FALSE NEIGHBOUR: 'it returns false'. Refute it at one input. -/
def fnWorkApartWrong : ChangeSpec := { name := "fnWorkApart", fn := fun _ => fun
  | [d1, d2] => { results := [.lit (.bool false)], args := [d1, d2] }
  | _ => none }
def FnWorkApartWrongFalsely : Prop := fnWorkApartRow.holds Tryz.pinned (OpenSpec.ofChange fnWorkApartWrong)

/-- 'laws.FnWorkNew': WHATEVER THE INPUT: true; the input reads as it did. -/
def fnWorkNewSpec : ChangeSpec := { name := "fnWorkNew", fn := fun _ => fun
  | [d] => { results := [.lit (.bool true)], args := [d] }
  | _ => none }
def fnWorkNewRow : OpenClaim := { program := "ytbeklnhngjmpiaagreat", sum := "b214f8f4e85964be0ffd2337be91057cbc4f7ea4355810eca9eb2cd42c088ee5", func := "loop.example/engrosser/laws.FnWorkNew", spec := "fnWorkNew", unfollowed := true, recurses := true, apart := false }
def FnWorkNewSaid : Prop := fnWorkNewRow.holds Tryz.pinned (OpenSpec.ofChange fnWorkNewSpec)

/-- ITS FALSE NEIGHBOUR: 'it returns false'. Refute it at one input. -/
def fnWorkNewWrong : ChangeSpec := { name := "fnWorkNew", fn := fun _ => fun
  | [d] => { results := [.lit (.bool false)], args := [d] }
  | _ => none }
def FnWorkNewWrongFalsely : Prop := fnWorkNewRow.holds Tryz.pinned (OpenSpec.ofChange fnWorkNewWrong)

/-- 'laws.FnWorkTwice': WHATEVER THE INPUT: true; the input reads as it did. -/
def fnWorkTwiceSpec : ChangeSpec := { name := "fnWorkTwice", fn := fun _ => fun
  | [d] => { results := [.lit (.bool true)], args := [d] }
  | _ => none }
def fnWorkTwiceRow : OpenClaim := { program := "ytbeklnhngjmpiaagreat", sum := "b214f8f4e85964be0ffd2337be91057cbc4f7ea4355810eca9eb2cd42c088ee5", func := "loop.example/engrosser/laws.FnWorkTwice", spec := "fnWorkTwice", unfollowed := true, recurses := true, apart := false }
def FnWorkTwiceSaid : Prop := fnWorkTwiceRow.holds Tryz.pinned (OpenSpec.ofChange fnWorkTwiceSpec)

/-- ITS FALSE NEIGHBOUR: 'it returns false'. Refute it at one input. -/
def fnWorkTwiceWrong : ChangeSpec := { name := "fnWorkTwice", fn := fun _ => fun
  | [d] => { results := [.lit (.bool false)], args := [d] }
  | _ => none }
def FnWorkTwiceWrongFalsely : Prop := fnWorkTwiceRow.holds Tryz.pinned (OpenSpec.ofChange fnWorkTwiceWrong)

/-- 'laws.FnWorkBent': WHATEVER THE INPUT: true; the input reads as it did. -/
def fnWorkBentSpec : ChangeSpec := { name := "fnWorkBent", fn := fun _ => fun
  | [d] => { results := [.lit (.bool true)], args := [d] }
  | _ => none }
def fnWorkBentRow : OpenClaim := { program := "ytbeklnhngjmpiaagreat", sum := "b214f8f4e85964be0ffd2337be91057cbc4f7ea4355810eca9eb2cd42c088ee5", func := "loop.example/engrosser/laws.FnWorkBent", spec := "fnWorkBent", unfollowed := true, recurses := true, apart := false }
def FnWorkBentSaid : Prop := fnWorkBentRow.holds Tryz.pinned (OpenSpec.ofChange fnWorkBentSpec)

/-- ITS FALSE NEIGHBOUR: 'it returns false'. Refute it at one input. -/
def fnWorkBentWrong : ChangeSpec := { name := "fnWorkBent", fn := fun _ => fun
  | [d] => { results := [.lit (.bool false)], args := [d] }
  | _ => none }
def FnWorkBentWrongFalsely : Prop := fnWorkBentRow.holds Tryz.pinned (OpenSpec.ofChange fnWorkBentWrong)

/-- 'laws.FnWorkUndo': WHATEVER THE INPUT: true; the input reads as it did. -/
def fnWorkUndoSpec : ChangeSpec := { name := "fnWorkUndo", fn := fun _ => fun
  | [d] => { results := [.lit (.bool true)], args := [d] }
  | _ => none }
def fnWorkUndoRow : OpenClaim := { program := "ytbeklnhngjmpiaagreat", sum := "b214f8f4e85964be0ffd2337be91057cbc4f7ea4355810eca9eb2cd42c088ee5", func := "loop.example/engrosser/laws.FnWorkUndo", spec := "fnWorkUndo", unfollowed := true, recurses := true, apart := false }
def FnWorkUndoSaid : Prop := fnWorkUndoRow.holds Tryz.pinned (OpenSpec.ofChange fnWorkUndoSpec)

/-- ITS FALSE NEIGHBOUR: 'it returns false'. Refute it at one input. -/
def fnWorkUndoWrong : ChangeSpec := { name := "fnWorkUndo", fn := fun _ => fun
  | [d] => { results := [.lit (.bool false)], args := [d] }
  | _ => none }
def FnWorkUndoWrongFalsely : Prop := fnWorkUndoRow.holds Tryz.pinned (OpenSpec.ofChange fnWorkUndoWrong)

/-- 'laws.FnWorkLast': WHATEVER THE INPUT: true; the input reads as it did. -/
def fnWorkLastSpec : ChangeSpec := { name := "fnWorkLast", fn := fun _ => fun
  | [d1, d2] => { results := [.lit (.bool true)], args := [d1, d2] }
  | _ => none }
def fnWorkLastRow : OpenClaim := { program := "ytbeklnhngjmpiaagreat", sum := "b214f8f4e85964be0ffd2337be91057cbc4f7ea4355810eca9eb2cd42c088ee5", func := "loop.example/engrosser/laws.FnWorkLast", spec := "fnWorkLast", unfollowed := true, recurses := true, apart := false }
def FnWorkLastSaid : Prop := fnWorkLastRow.holds Tryz.pinned (OpenSpec.ofChange fnWorkLastSpec)

/-- ITS FALSE NEIGHBOUR: 'it returns false'. Refute it at one input. -/
def fnWorkLastWrong : ChangeSpec := { name := "fnWorkLast", fn := fun _ => fun
  | [d1, d2] => { results := [.lit (.bool false)], args := [d1, d2] }
  | _ => none }
def FnWorkLastWrongFalsely : Prop := fnWorkLastRow.holds Tryz.pinned (OpenSpec.ofChange fnWorkLastWrong)

/- THE SECOND FORM. 'bulk': how many values and letters a reading holds, each counted each time it is reached (what is shared counts as often as it is met; a slice's spare places count too). A statement '..UptoSaid' is the law's where the arguments, and the package variables that the reading takes, are together of bulk at most 1048576: NARROWER than '..Said'. Prove '..Said' where nothing that the law and all that it calls make is longer than what came in: it says more and counts as full. Else prove '..UptoSaid'. A law counts once. -/
mutual
def uptoBulk {H : Type} : DataW H → Nat
  | .lit (.string bytes) => bytes.length + 1
  | .lit _ => 1
  | .nil => 1
  | .ptr d => uptoBulk d + 1
  | .slice elems spare => uptoBulkAll elems + uptoBulkAll spare + 1
  | .agg parts => uptoBulkAll parts + 1
  | .iface _ d => uptoBulk d + 1
  | .map entries => uptoBulkEntries entries + 1
  | .held _ => 1
def uptoBulkAll {H : Type} : List (DataW H) → Nat
  | [] => 0
  | d :: r => uptoBulk d + uptoBulkAll r
def uptoBulkEntries {H : Type} : List (Lit × DataW H) → Nat
  | [] => 0
  | x :: r => uptoBulkEntry x + uptoBulkEntries r
def uptoBulkEntry {H : Type} : Lit × DataW H → Nat
  | (.string bytes, d) => bytes.length + uptoBulk d + 1
  | (_, d) => uptoBulk d + 1
 end
def uptoSmall : (H : Type) → List (DataW H) → Bool := fun _ ds => decide (uptoBulkAll ds ≤ 1048576)
def OpenSpec.upto (s : _root_.Go.ChangeSpec) : _root_.Go.OpenSpec := { _root_.Go.OpenSpec.ofChange s with cond := some uptoSmall }

/-- 'laws.FnExactWorkRows', WHERE WHAT IT READS IS OF BULK AT MOST 1048576: true; the input reads as it did. -/
def fnExactWorkRowsUptoRow : OpenClaim := { program := "ytbeklnhngjmpiaagreat", sum := "b214f8f4e85964be0ffd2337be91057cbc4f7ea4355810eca9eb2cd42c088ee5", func := "loop.example/engrosser/laws.FnExactWorkRows", spec := "fnExactWorkRows", unfollowed := true, recurses := true, apart := false, narrowed := true }
def FnExactWorkRowsUptoSaid : Prop := fnExactWorkRowsUptoRow.holds Tryz.pinned (OpenSpec.upto fnExactWorkRowsSpec)

/-- 'laws.FnExactWorkPut', WHERE WHAT IT READS IS OF BULK AT MOST 1048576: true; the input reads as it did. -/
def fnExactWorkPutUptoRow : OpenClaim := { program := "ytbeklnhngjmpiaagreat", sum := "b214f8f4e85964be0ffd2337be91057cbc4f7ea4355810eca9eb2cd42c088ee5", func := "loop.example/engrosser/laws.FnExactWorkPut", spec := "fnExactWorkPut", unfollowed := true, recurses := true, apart := false, narrowed := true }
def FnExactWorkPutUptoSaid : Prop := fnExactWorkPutUptoRow.holds Tryz.pinned (OpenSpec.upto fnExactWorkPutSpec)

/-- 'laws.FnExactWorkEnd', WHERE WHAT IT READS IS OF BULK AT MOST 1048576: true; the input reads as it did. -/
def fnExactWorkEndUptoRow : OpenClaim := { program := "ytbeklnhngjmpiaagreat", sum := "b214f8f4e85964be0ffd2337be91057cbc4f7ea4355810eca9eb2cd42c088ee5", func := "loop.example/engrosser/laws.FnExactWorkEnd", spec := "fnExactWorkEnd", unfollowed := true, recurses := true, apart := false, narrowed := true }
def FnExactWorkEndUptoSaid : Prop := fnExactWorkEndUptoRow.holds Tryz.pinned (OpenSpec.upto fnExactWorkEndSpec)

/-- 'laws.FnWorkPut', WHERE WHAT IT READS IS OF BULK AT MOST 1048576: true; the input reads as it did. -/
def fnWorkPutUptoRow : OpenClaim := { program := "ytbeklnhngjmpiaagreat", sum := "b214f8f4e85964be0ffd2337be91057cbc4f7ea4355810eca9eb2cd42c088ee5", func := "loop.example/engrosser/laws.FnWorkPut", spec := "fnWorkPut", unfollowed := true, recurses := true, apart := false, narrowed := true }
def FnWorkPutUptoSaid : Prop := fnWorkPutUptoRow.holds Tryz.pinned (OpenSpec.upto fnWorkPutSpec)

/-- 'laws.FnWorkSees', WHERE WHAT IT READS IS OF BULK AT MOST 1048576: true; the input reads as it did. -/
def fnWorkSeesUptoRow : OpenClaim := { program := "ytbeklnhngjmpiaagreat", sum := "b214f8f4e85964be0ffd2337be91057cbc4f7ea4355810eca9eb2cd42c088ee5", func := "loop.example/engrosser/laws.FnWorkSees", spec := "fnWorkSees", unfollowed := true, recurses := true, apart := false, narrowed := true }
def FnWorkSeesUptoSaid : Prop := fnWorkSeesUptoRow.holds Tryz.pinned (OpenSpec.upto fnWorkSeesSpec)

/-- 'laws.FnWorkEnd', WHERE WHAT IT READS IS OF BULK AT MOST 1048576: true; the input reads as it did. -/
def fnWorkEndUptoRow : OpenClaim := { program := "ytbeklnhngjmpiaagreat", sum := "b214f8f4e85964be0ffd2337be91057cbc4f7ea4355810eca9eb2cd42c088ee5", func := "loop.example/engrosser/laws.FnWorkEnd", spec := "fnWorkEnd", unfollowed := true, recurses := true, apart := false, narrowed := true }
def FnWorkEndUptoSaid : Prop := fnWorkEndUptoRow.holds Tryz.pinned (OpenSpec.upto fnWorkEndSpec)

/-- 'laws.FnWorkLate', WHERE WHAT IT READS IS OF BULK AT MOST 1048576: true; the input reads as it did. -/
def fnWorkLateUptoRow : OpenClaim := { program := "ytbeklnhngjmpiaagreat", sum := "b214f8f4e85964be0ffd2337be91057cbc4f7ea4355810eca9eb2cd42c088ee5", func := "loop.example/engrosser/laws.FnWorkLate", spec := "fnWorkLate", unfollowed := true, recurses := true, apart := false, narrowed := true }
def FnWorkLateUptoSaid : Prop := fnWorkLateUptoRow.holds Tryz.pinned (OpenSpec.upto fnWorkLateSpec)

/-- 'laws.FnWorkApart', WHERE WHAT IT READS IS OF BULK AT MOST 1048576: true; the input reads as it did. -/
def fnWorkApartUptoRow : OpenClaim := { program := "ytbeklnhngjmpiaagreat", sum := "b214f8f4e85964be0ffd2337be91057cbc4f7ea4355810eca9eb2cd42c088ee5", func := "loop.example/engrosser/laws.FnWorkApart", spec := "fnWorkApart", unfollowed := true, recurses := true, apart := false, narrowed := true }
def FnWorkApartUptoSaid : Prop := fnWorkApartUptoRow.holds Tryz.pinned (OpenSpec.upto fnWorkApartSpec)

/-- 'laws.FnWorkNew', WHERE WHAT IT READS IS OF BULK AT MOST 1048576: true; the input reads as it did. -/
def fnWorkNewUptoRow : OpenClaim := { program := "ytbeklnhngjmpiaagreat", sum := "b214f8f4e85964be0ffd2337be91057cbc4f7ea4355810eca9eb2cd42c088ee5", func := "loop.example/engrosser/laws.FnWorkNew", spec := "fnWorkNew", unfollowed := true, recurses := true, apart := false, narrowed := true }
def FnWorkNewUptoSaid : Prop := fnWorkNewUptoRow.holds Tryz.pinned (OpenSpec.upto fnWorkNewSpec)

/-- 'laws.FnWorkTwice', WHERE WHAT IT READS IS OF BULK AT MOST 1048576: true; the input reads as it did. -/
def fnWorkTwiceUptoRow : OpenClaim := { program := "ytbeklnhngjmpiaagreat", sum := "b214f8f4e85964be0ffd2337be91057cbc4f7ea4355810eca9eb2cd42c088ee5", func := "loop.example/engrosser/laws.FnWorkTwice", spec := "fnWorkTwice", unfollowed := true, recurses := true, apart := false, narrowed := true }
def FnWorkTwiceUptoSaid : Prop := fnWorkTwiceUptoRow.holds Tryz.pinned (OpenSpec.upto fnWorkTwiceSpec)

/-- 'laws.FnWorkBent', WHERE WHAT IT READS IS OF BULK AT MOST 1048576: true; the input reads as it did. -/
def fnWorkBentUptoRow : OpenClaim := { program := "ytbeklnhngjmpiaagreat", sum := "b214f8f4e85964be0ffd2337be91057cbc4f7ea4355810eca9eb2cd42c088ee5", func := "loop.example/engrosser/laws.FnWorkBent", spec := "fnWorkBent", unfollowed := true, recurses := true, apart := false, narrowed := true }
def FnWorkBentUptoSaid : Prop := fnWorkBentUptoRow.holds Tryz.pinned (OpenSpec.upto fnWorkBentSpec)

/-- 'laws.FnWorkUndo', WHERE WHAT IT READS IS OF BULK AT MOST 1048576: true; the input reads as it did. -/
def fnWorkUndoUptoRow : OpenClaim := { program := "ytbeklnhngjmpiaagreat", sum := "b214f8f4e85964be0ffd2337be91057cbc4f7ea4355810eca9eb2cd42c088ee5", func := "loop.example/engrosser/laws.FnWorkUndo", spec := "fnWorkUndo", unfollowed := true, recurses := true, apart := false, narrowed := true }
def FnWorkUndoUptoSaid : Prop := fnWorkUndoUptoRow.holds Tryz.pinned (OpenSpec.upto fnWorkUndoSpec)

/-- 'laws.FnWorkLast', WHERE WHAT IT READS IS OF BULK AT MOST 1048576: true; the input reads as it did. -/
def fnWorkLastUptoRow : OpenClaim := { program := "ytbeklnhngjmpiaagreat", sum := "b214f8f4e85964be0ffd2337be91057cbc4f7ea4355810eca9eb2cd42c088ee5", func := "loop.example/engrosser/laws.FnWorkLast", spec := "fnWorkLast", unfollowed := true, recurses := true, apart := false, narrowed := true }
def FnWorkLastUptoSaid : Prop := fnWorkLastUptoRow.holds Tryz.pinned (OpenSpec.upto fnWorkLastSpec)

end Rows
end Go.Proofs.YtbeklnhngjmpiaaGreat
