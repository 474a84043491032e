/-
  NARROWER THAN 'FOR EVERY INPUT', by the rows' own cells (each row's printed sentence says how): FnLetterText: ifaces, laid · FnLetterTake: ifaces, laid · FnLetterAll: ifaces, laid · FnLetterPieces: ifaces, laid · FnLettersText: ifaces, laid · FnLetterOne: ifaces, laid · FnLetterHead: ifaces, laid · FnExactLetterTake: ifaces, laid · FnExactLetterAll: ifaces, laid.
  DERIVED. THE GIVEN ROWS OF THIS SEAT. 9 by the template 'for every input the law returns true; each argument reads behind the call as it read before'; 0 by the template 'total and deterministic' (their statements: YtilcncnhkidndaaDoorTotals.lean).
  GIVEN WITH THE SEED: the statements are not yours to turn. If you find one false, say at which input.
  Laid BY PROGRAM, IN A SANDBOX (cutbox-rows.mjs): the forced cells as the released guide's own fill.sh prints them over the translation 366abbabb08e4283… (all of the seat's roots in one cut). By AI agents, Wed Nov 11 2026. No macro, syntax, notation, axiom, sorry.
-/
import Derived.Test.YtilcncnhkidndaaDoorChecked
import GoSem.Claim
import GoSem.ClaimJoined
import GoSem.ClaimMapViews
import Derived.JoinedTies
import Derived.KernelRfl
namespace Go.Proofs.YtilcncnhkidndaaDoor
/- THE CELL 'sum', in the pinned program and in every row, IS THE sha256 OF THE DUMP (.gsa) THAT YtilcncnhkidndaaDoorProg.lean LOADS. Nothing in Lean hashes anything: it is a label: what it is worth is what the hold of that sum in a sandbox is worth. -/
noncomputable def Tryd.pinned : Pinned := { name := "ytilcncnhkidndaadoor", sum := "366abbabb08e4283950a809709e0a6b25c9f36161371d63ac8caf0b2d2d63499", checked := Tryd.checked }
namespace Rows
def none {H : Type} : Left H := { results := [], args := [] }

/- WHAT THE LISTED PACKAGE-LEVEL VARIABLES READ AS WHEN THE CALL BEGINS. Each datum BY PROGRAM (the guide's laid-datum.mjs) off the statement by which the dump's own 'gosem.cut.vars' lays the variable. In a bare row this is a premise. The card (YtilcncnhkidndaaDoorCards.lean) ties it to the program's text. -/
def laid_loop_example_engrosser_impl_errMalformed {H : Type} : DataW H := .iface "*errors.errorString" (.ptr (.agg [.lit (.string [110, 111, 32, 109, 101, 115, 115, 97, 103, 101, 32, 98, 101, 103, 105, 110, 115, 32, 119, 105, 116, 104, 32, 116, 104, 101, 115, 101, 32, 98, 121, 116, 101, 115])]))
def laid_loop_example_engrosser_impl_errUnfinished {H : Type} : DataW H := .iface "*errors.errorString" (.ptr (.agg [.lit (.string [116, 104, 101, 32, 109, 101, 115, 115, 97, 103, 101, 32, 103, 111, 101, 115, 32, 111, 110, 32, 98, 101, 104, 105, 110, 100, 32, 116, 104, 101, 115, 101, 32, 98, 121, 116, 101, 115])]))

/-- 'laws.FnLetterText': WHATEVER THE INPUT: true; the input reads as it did. -/
def fnLetterTextSpec : ChangeSpec := { name := "fnLetterText", vars := ["loop.example/engrosser/impl.errMalformed", "loop.example/engrosser/impl.errUnfinished"], fn := fun _ => fun
  | [d1, d2, g1, g2] => { results := [.lit (.bool true)], args := [d1, d2], vars := [g1, g2] }
  | _ => none }
def fnLetterTextRow : OpenClaim := { program := "ytilcncnhkidndaadoor", sum := "366abbabb08e4283950a809709e0a6b25c9f36161371d63ac8caf0b2d2d63499", func := "loop.example/engrosser/laws.FnLetterText", spec := "fnLetterText", inPlace := ["internal/reflectlite.TypeOf"], unfollowed := true, recurses := true, named := ["loop.example/engrosser/impl.errMalformed", "loop.example/engrosser/impl.errUnfinished"], ifaces := true, apart := false, laid := [("loop.example/engrosser/impl.errMalformed", laid_loop_example_engrosser_impl_errMalformed), ("loop.example/engrosser/impl.errUnfinished", laid_loop_example_engrosser_impl_errUnfinished)] }
def FnLetterTextSaid : Prop := fnLetterTextRow.holds Tryd.pinned (OpenSpec.ofChange fnLetterTextSpec)

/-- ITS FALSE NEIGHBOUR: 'it returns false'. Refute it at one input. -/
def fnLetterTextWrong : ChangeSpec := { name := "fnLetterText", vars := ["loop.example/engrosser/impl.errMalformed", "loop.example/engrosser/impl.errUnfinished"], fn := fun _ => fun
  | [d1, d2, g1, g2] => { results := [.lit (.bool false)], args := [d1, d2], vars := [g1, g2] }
  | _ => none }
def FnLetterTextWrongFalsely : Prop := fnLetterTextRow.holds Tryd.pinned (OpenSpec.ofChange fnLetterTextWrong)

/-- 'laws.FnLetterTake': WHATEVER THE INPUT: true; the input reads as it did. -/
def fnLetterTakeSpec : ChangeSpec := { name := "fnLetterTake", vars := ["loop.example/engrosser/impl.errMalformed", "loop.example/engrosser/impl.errUnfinished"], fn := fun _ => fun
  | [d1, d2, g1, g2] => { results := [.lit (.bool true)], args := [d1, d2], vars := [g1, g2] }
  | _ => none }
def fnLetterTakeRow : OpenClaim := { program := "ytilcncnhkidndaadoor", sum := "366abbabb08e4283950a809709e0a6b25c9f36161371d63ac8caf0b2d2d63499", func := "loop.example/engrosser/laws.FnLetterTake", spec := "fnLetterTake", inPlace := ["internal/reflectlite.TypeOf"], unfollowed := true, recurses := true, named := ["loop.example/engrosser/impl.errMalformed", "loop.example/engrosser/impl.errUnfinished"], ifaces := true, apart := false, laid := [("loop.example/engrosser/impl.errMalformed", laid_loop_example_engrosser_impl_errMalformed), ("loop.example/engrosser/impl.errUnfinished", laid_loop_example_engrosser_impl_errUnfinished)] }
def FnLetterTakeSaid : Prop := fnLetterTakeRow.holds Tryd.pinned (OpenSpec.ofChange fnLetterTakeSpec)

/-- ITS FALSE NEIGHBOUR: 'it returns false'. Refute it at one input. -/
def fnLetterTakeWrong : ChangeSpec := { name := "fnLetterTake", vars := ["loop.example/engrosser/impl.errMalformed", "loop.example/engrosser/impl.errUnfinished"], fn := fun _ => fun
  | [d1, d2, g1, g2] => { results := [.lit (.bool false)], args := [d1, d2], vars := [g1, g2] }
  | _ => none }
def FnLetterTakeWrongFalsely : Prop := fnLetterTakeRow.holds Tryd.pinned (OpenSpec.ofChange fnLetterTakeWrong)

/-- 'laws.FnLetterAll': WHATEVER THE INPUT: true; the input reads as it did. -/
def fnLetterAllSpec : ChangeSpec := { name := "fnLetterAll", vars := ["loop.example/engrosser/impl.errMalformed", "loop.example/engrosser/impl.errUnfinished"], fn := fun _ => fun
  | [d, g1, g2] => { results := [.lit (.bool true)], args := [d], vars := [g1, g2] }
  | _ => none }
def fnLetterAllRow : OpenClaim := { program := "ytilcncnhkidndaadoor", sum := "366abbabb08e4283950a809709e0a6b25c9f36161371d63ac8caf0b2d2d63499", func := "loop.example/engrosser/laws.FnLetterAll", spec := "fnLetterAll", inPlace := ["internal/reflectlite.TypeOf"], unfollowed := true, recurses := true, named := ["loop.example/engrosser/impl.errMalformed", "loop.example/engrosser/impl.errUnfinished"], ifaces := true, apart := false, laid := [("loop.example/engrosser/impl.errMalformed", laid_loop_example_engrosser_impl_errMalformed), ("loop.example/engrosser/impl.errUnfinished", laid_loop_example_engrosser_impl_errUnfinished)] }
def FnLetterAllSaid : Prop := fnLetterAllRow.holds Tryd.pinned (OpenSpec.ofChange fnLetterAllSpec)

/-- ITS FALSE NEIGHBOUR: 'it returns false'. Refute it at one input. -/
def fnLetterAllWrong : ChangeSpec := { name := "fnLetterAll", vars := ["loop.example/engrosser/impl.errMalformed", "loop.example/engrosser/impl.errUnfinished"], fn := fun _ => fun
  | [d, g1, g2] => { results := [.lit (.bool false)], args := [d], vars := [g1, g2] }
  | _ => none }
def FnLetterAllWrongFalsely : Prop := fnLetterAllRow.holds Tryd.pinned (OpenSpec.ofChange fnLetterAllWrong)

/-- 'laws.FnLetterPieces': WHATEVER THE INPUT: true; the input reads as it did. -/
def fnLetterPiecesSpec : ChangeSpec := { name := "fnLetterPieces", vars := ["loop.example/engrosser/impl.errMalformed", "loop.example/engrosser/impl.errUnfinished"], fn := fun _ => fun
  | [d1, d2, g1, g2] => { results := [.lit (.bool true)], args := [d1, d2], vars := [g1, g2] }
  | _ => none }
def fnLetterPiecesRow : OpenClaim := { program := "ytilcncnhkidndaadoor", sum := "366abbabb08e4283950a809709e0a6b25c9f36161371d63ac8caf0b2d2d63499", func := "loop.example/engrosser/laws.FnLetterPieces", spec := "fnLetterPieces", inPlace := ["internal/reflectlite.TypeOf"], unfollowed := true, recurses := true, named := ["loop.example/engrosser/impl.errMalformed", "loop.example/engrosser/impl.errUnfinished"], ifaces := true, apart := false, laid := [("loop.example/engrosser/impl.errMalformed", laid_loop_example_engrosser_impl_errMalformed), ("loop.example/engrosser/impl.errUnfinished", laid_loop_example_engrosser_impl_errUnfinished)] }
def FnLetterPiecesSaid : Prop := fnLetterPiecesRow.holds Tryd.pinned (OpenSpec.ofChange fnLetterPiecesSpec)

/-- ITS FALSE NEIGHBOUR: 'it returns false'. Refute it at one input. -/
def fnLetterPiecesWrong : ChangeSpec := { name := "fnLetterPieces", vars := ["loop.example/engrosser/impl.errMalformed", "loop.example/engrosser/impl.errUnfinished"], fn := fun _ => fun
  | [d1, d2, g1, g2] => { results := [.lit (.bool false)], args := [d1, d2], vars := [g1, g2] }
  | _ => none }
def FnLetterPiecesWrongFalsely : Prop := fnLetterPiecesRow.holds Tryd.pinned (OpenSpec.ofChange fnLetterPiecesWrong)

/-- 'laws.FnLettersText': WHATEVER THE INPUT: true; the input reads as it did. -/
def fnLettersTextSpec : ChangeSpec := { name := "fnLettersText", vars := ["loop.example/engrosser/impl.errMalformed", "loop.example/engrosser/impl.errUnfinished"], fn := fun _ => fun
  | [d, g1, g2] => { results := [.lit (.bool true)], args := [d], vars := [g1, g2] }
  | _ => none }
def fnLettersTextRow : OpenClaim := { program := "ytilcncnhkidndaadoor", sum := "366abbabb08e4283950a809709e0a6b25c9f36161371d63ac8caf0b2d2d63499", func := "loop.example/engrosser/laws.FnLettersText", spec := "fnLettersText", inPlace := ["internal/reflectlite.TypeOf"], unfollowed := true, recurses := true, named := ["loop.example/engrosser/impl.errMalformed", "loop.example/engrosser/impl.errUnfinished"], ifaces := true, apart := false, laid := [("loop.example/engrosser/impl.errMalformed", laid_loop_example_engrosser_impl_errMalformed), ("loop.example/engrosser/impl.errUnfinished", laid_loop_example_engrosser_impl_errUnfinished)] }
def FnLettersTextSaid : Prop := fnLettersTextRow.holds Tryd.pinned (OpenSpec.ofChange fnLettersTextSpec)

/-- ITS FALSE NEIGHBOUR: 'it returns false'. Refute it at one input. -/
def fnLettersTextWrong : ChangeSpec := { name := "fnLettersText", vars := ["loop.example/engrosser/impl.errMalformed", "loop.example/engrosser/impl.errUnfinished"], fn := fun _ => fun
  | [d, g1, g2] => { results := [.lit (.bool false)], args := [d], vars := [g1, g2] }
  | _ => none }
def FnLettersTextWrongFalsely : Prop := fnLettersTextRow.holds Tryd.pinned (OpenSpec.ofChange fnLettersTextWrong)

/-- 'laws.FnLetterOne': WHATEVER THE INPUT: true; the input reads as it did. -/
def fnLetterOneSpec : ChangeSpec := { name := "fnLetterOne", vars := ["loop.example/engrosser/impl.errMalformed", "loop.example/engrosser/impl.errUnfinished"], fn := fun _ => fun
  | [d1, d2, g1, g2] => { results := [.lit (.bool true)], args := [d1, d2], vars := [g1, g2] }
  | _ => none }
def fnLetterOneRow : OpenClaim := { program := "ytilcncnhkidndaadoor", sum := "366abbabb08e4283950a809709e0a6b25c9f36161371d63ac8caf0b2d2d63499", func := "loop.example/engrosser/laws.FnLetterOne", spec := "fnLetterOne", inPlace := ["internal/reflectlite.TypeOf"], unfollowed := true, recurses := true, named := ["loop.example/engrosser/impl.errMalformed", "loop.example/engrosser/impl.errUnfinished"], ifaces := true, apart := false, laid := [("loop.example/engrosser/impl.errMalformed", laid_loop_example_engrosser_impl_errMalformed), ("loop.example/engrosser/impl.errUnfinished", laid_loop_example_engrosser_impl_errUnfinished)] }
def FnLetterOneSaid : Prop := fnLetterOneRow.holds Tryd.pinned (OpenSpec.ofChange fnLetterOneSpec)

/-- ITS FALSE NEIGHBOUR: 'it returns false'. Refute it at one input. -/
def fnLetterOneWrong : ChangeSpec := { name := "fnLetterOne", vars := ["loop.example/engrosser/impl.errMalformed", "loop.example/engrosser/impl.errUnfinished"], fn := fun _ => fun
  | [d1, d2, g1, g2] => { results := [.lit (.bool false)], args := [d1, d2], vars := [g1, g2] }
  | _ => none }
def FnLetterOneWrongFalsely : Prop := fnLetterOneRow.holds Tryd.pinned (OpenSpec.ofChange fnLetterOneWrong)

/-- 'laws.FnLetterHead': WHATEVER THE INPUT: true; the input reads as it did. -/
def fnLetterHeadSpec : ChangeSpec := { name := "fnLetterHead", vars := ["loop.example/engrosser/impl.errMalformed", "loop.example/engrosser/impl.errUnfinished"], fn := fun _ => fun
  | [d, g1, g2] => { results := [.lit (.bool true)], args := [d], vars := [g1, g2] }
  | _ => none }
def fnLetterHeadRow : OpenClaim := { program := "ytilcncnhkidndaadoor", sum := "366abbabb08e4283950a809709e0a6b25c9f36161371d63ac8caf0b2d2d63499", func := "loop.example/engrosser/laws.FnLetterHead", spec := "fnLetterHead", inPlace := ["internal/reflectlite.TypeOf"], unfollowed := true, recurses := true, named := ["loop.example/engrosser/impl.errMalformed", "loop.example/engrosser/impl.errUnfinished"], ifaces := true, apart := false, laid := [("loop.example/engrosser/impl.errMalformed", laid_loop_example_engrosser_impl_errMalformed), ("loop.example/engrosser/impl.errUnfinished", laid_loop_example_engrosser_impl_errUnfinished)] }
def FnLetterHeadSaid : Prop := fnLetterHeadRow.holds Tryd.pinned (OpenSpec.ofChange fnLetterHeadSpec)

/-- ITS FALSE NEIGHBOUR: 'it returns false'. Refute it at one input. -/
def fnLetterHeadWrong : ChangeSpec := { name := "fnLetterHead", vars := ["loop.example/engrosser/impl.errMalformed", "loop.example/engrosser/impl.errUnfinished"], fn := fun _ => fun
  | [d, g1, g2] => { results := [.lit (.bool false)], args := [d], vars := [g1, g2] }
  | _ => none }
def FnLetterHeadWrongFalsely : Prop := fnLetterHeadRow.holds Tryd.pinned (OpenSpec.ofChange fnLetterHeadWrong)

/-- 'laws.FnExactLetterTake': WHATEVER THE INPUT: true; the input reads as it did. -/
def fnExactLetterTakeSpec : ChangeSpec := { name := "fnExactLetterTake", vars := ["loop.example/engrosser/impl.errMalformed", "loop.example/engrosser/impl.errUnfinished"], fn := fun _ => fun
  | [d, g1, g2] => { results := [.lit (.bool true)], args := [d], vars := [g1, g2] }
  | _ => none }
def fnExactLetterTakeRow : OpenClaim := { program := "ytilcncnhkidndaadoor", sum := "366abbabb08e4283950a809709e0a6b25c9f36161371d63ac8caf0b2d2d63499", func := "loop.example/engrosser/laws.FnExactLetterTake", spec := "fnExactLetterTake", inPlace := ["internal/reflectlite.TypeOf"], unfollowed := true, recurses := true, named := ["loop.example/engrosser/impl.errMalformed", "loop.example/engrosser/impl.errUnfinished"], ifaces := true, apart := false, laid := [("loop.example/engrosser/impl.errMalformed", laid_loop_example_engrosser_impl_errMalformed), ("loop.example/engrosser/impl.errUnfinished", laid_loop_example_engrosser_impl_errUnfinished)] }
def FnExactLetterTakeSaid : Prop := fnExactLetterTakeRow.holds Tryd.pinned (OpenSpec.ofChange fnExactLetterTakeSpec)

/-- ITS FALSE NEIGHBOUR: 'it returns false'. Refute it at one input. -/
def fnExactLetterTakeWrong : ChangeSpec := { name := "fnExactLetterTake", vars := ["loop.example/engrosser/impl.errMalformed", "loop.example/engrosser/impl.errUnfinished"], fn := fun _ => fun
  | [d, g1, g2] => { results := [.lit (.bool false)], args := [d], vars := [g1, g2] }
  | _ => none }
def FnExactLetterTakeWrongFalsely : Prop := fnExactLetterTakeRow.holds Tryd.pinned (OpenSpec.ofChange fnExactLetterTakeWrong)

/-- 'laws.FnExactLetterAll': WHATEVER THE INPUT: true; the input reads as it did. -/
def fnExactLetterAllSpec : ChangeSpec := { name := "fnExactLetterAll", vars := ["loop.example/engrosser/impl.errMalformed", "loop.example/engrosser/impl.errUnfinished"], fn := fun _ => fun
  | [d, g1, g2] => { results := [.lit (.bool true)], args := [d], vars := [g1, g2] }
  | _ => none }
def fnExactLetterAllRow : OpenClaim := { program := "ytilcncnhkidndaadoor", sum := "366abbabb08e4283950a809709e0a6b25c9f36161371d63ac8caf0b2d2d63499", func := "loop.example/engrosser/laws.FnExactLetterAll", spec := "fnExactLetterAll", inPlace := ["internal/reflectlite.TypeOf"], unfollowed := true, recurses := true, named := ["loop.example/engrosser/impl.errMalformed", "loop.example/engrosser/impl.errUnfinished"], ifaces := true, apart := false, laid := [("loop.example/engrosser/impl.errMalformed", laid_loop_example_engrosser_impl_errMalformed), ("loop.example/engrosser/impl.errUnfinished", laid_loop_example_engrosser_impl_errUnfinished)] }
def FnExactLetterAllSaid : Prop := fnExactLetterAllRow.holds Tryd.pinned (OpenSpec.ofChange fnExactLetterAllSpec)

/-- ITS FALSE NEIGHBOUR: 'it returns false'. Refute it at one input. -/
def fnExactLetterAllWrong : ChangeSpec := { name := "fnExactLetterAll", vars := ["loop.example/engrosser/impl.errMalformed", "loop.example/engrosser/impl.errUnfinished"], fn := fun _ => fun
  | [d, g1, g2] => { results := [.lit (.bool false)], args := [d], vars := [g1, g2] }
  | _ => none }
def FnExactLetterAllWrongFalsely : Prop := fnExactLetterAllRow.holds Tryd.pinned (OpenSpec.ofChange fnExactLetterAllWrong)

/- THE SECOND FORM. 'bulk': how many values and letters a reading holds, each counted each time it is reached (what is shared counts as often as it is met; a slice's spare places count too). A statement '..UptoSaid' is the law's where the arguments, and the package variables that the reading takes, are together of bulk at most 1048576: NARROWER than '..Said'. Prove '..Said' where nothing that the law and all that it calls make is longer than what came in: it says more and counts as full. Else prove '..UptoSaid'. A law counts once. -/
mutual
def uptoBulk {H : Type} : DataW H → Nat
  | .lit (.string bytes) => bytes.length + 1
  | .lit _ => 1
  | .nil => 1
  | .ptr d => uptoBulk d + 1
  | .slice elems spare => uptoBulkAll elems + uptoBulkAll spare + 1
  | .agg parts => uptoBulkAll parts + 1
  | .iface _ d => uptoBulk d + 1
  | .map entries => uptoBulkEntries entries + 1
  | .held _ => 1
def uptoBulkAll {H : Type} : List (DataW H) → Nat
  | [] => 0
  | d :: r => uptoBulk d + uptoBulkAll r
def uptoBulkEntries {H : Type} : List (Lit × DataW H) → Nat
  | [] => 0
  | x :: r => uptoBulkEntry x + uptoBulkEntries r
def uptoBulkEntry {H : Type} : Lit × DataW H → Nat
  | (.string bytes, d) => bytes.length + uptoBulk d + 1
  | (_, d) => uptoBulk d + 1
 end
def uptoSmall : (H : Type) → List (DataW H) → Bool := fun _ ds => decide (uptoBulkAll ds ≤ 1048576)
def OpenSpec.upto (s : _root_.Go.ChangeSpec) : _root_.Go.OpenSpec := { _root_.Go.OpenSpec.ofChange s with cond := some uptoSmall }

/-- 'laws.FnLetterText', WHERE WHAT IT READS IS OF BULK AT MOST 1048576: true; the input reads as it did. -/
def fnLetterTextUptoRow : OpenClaim := { program := "ytilcncnhkidndaadoor", sum := "366abbabb08e4283950a809709e0a6b25c9f36161371d63ac8caf0b2d2d63499", func := "loop.example/engrosser/laws.FnLetterText", spec := "fnLetterText", inPlace := ["internal/reflectlite.TypeOf"], unfollowed := true, recurses := true, named := ["loop.example/engrosser/impl.errMalformed", "loop.example/engrosser/impl.errUnfinished"], ifaces := true, apart := false, laid := [("loop.example/engrosser/impl.errMalformed", laid_loop_example_engrosser_impl_errMalformed), ("loop.example/engrosser/impl.errUnfinished", laid_loop_example_engrosser_impl_errUnfinished)], narrowed := true }
def FnLetterTextUptoSaid : Prop := fnLetterTextUptoRow.holds Tryd.pinned (OpenSpec.upto fnLetterTextSpec)

/-- 'laws.FnLetterTake', WHERE WHAT IT READS IS OF BULK AT MOST 1048576: true; the input reads as it did. -/
def fnLetterTakeUptoRow : OpenClaim := { program := "ytilcncnhkidndaadoor", sum := "366abbabb08e4283950a809709e0a6b25c9f36161371d63ac8caf0b2d2d63499", func := "loop.example/engrosser/laws.FnLetterTake", spec := "fnLetterTake", inPlace := ["internal/reflectlite.TypeOf"], unfollowed := true, recurses := true, named := ["loop.example/engrosser/impl.errMalformed", "loop.example/engrosser/impl.errUnfinished"], ifaces := true, apart := false, laid := [("loop.example/engrosser/impl.errMalformed", laid_loop_example_engrosser_impl_errMalformed), ("loop.example/engrosser/impl.errUnfinished", laid_loop_example_engrosser_impl_errUnfinished)], narrowed := true }
def FnLetterTakeUptoSaid : Prop := fnLetterTakeUptoRow.holds Tryd.pinned (OpenSpec.upto fnLetterTakeSpec)

/-- 'laws.FnLetterAll', WHERE WHAT IT READS IS OF BULK AT MOST 1048576: true; the input reads as it did. -/
def fnLetterAllUptoRow : OpenClaim := { program := "ytilcncnhkidndaadoor", sum := "366abbabb08e4283950a809709e0a6b25c9f36161371d63ac8caf0b2d2d63499", func := "loop.example/engrosser/laws.FnLetterAll", spec := "fnLetterAll", inPlace := ["internal/reflectlite.TypeOf"], unfollowed := true, recurses := true, named := ["loop.example/engrosser/impl.errMalformed", "loop.example/engrosser/impl.errUnfinished"], ifaces := true, apart := false, laid := [("loop.example/engrosser/impl.errMalformed", laid_loop_example_engrosser_impl_errMalformed), ("loop.example/engrosser/impl.errUnfinished", laid_loop_example_engrosser_impl_errUnfinished)], narrowed := true }
def FnLetterAllUptoSaid : Prop := fnLetterAllUptoRow.holds Tryd.pinned (OpenSpec.upto fnLetterAllSpec)

/-- 'laws.FnLetterPieces', WHERE WHAT IT READS IS OF BULK AT MOST 1048576: true; the input reads as it did. -/
def fnLetterPiecesUptoRow : OpenClaim := { program := "ytilcncnhkidndaadoor", sum := "366abbabb08e4283950a809709e0a6b25c9f36161371d63ac8caf0b2d2d63499", func := "loop.example/engrosser/laws.FnLetterPieces", spec := "fnLetterPieces", inPlace := ["internal/reflectlite.TypeOf"], unfollowed := true, recurses := true, named := ["loop.example/engrosser/impl.errMalformed", "loop.example/engrosser/impl.errUnfinished"], ifaces := true, apart := false, laid := [("loop.example/engrosser/impl.errMalformed", laid_loop_example_engrosser_impl_errMalformed), ("loop.example/engrosser/impl.errUnfinished", laid_loop_example_engrosser_impl_errUnfinished)], narrowed := true }
def FnLetterPiecesUptoSaid : Prop := fnLetterPiecesUptoRow.holds Tryd.pinned (OpenSpec.upto fnLetterPiecesSpec)

/-- 'laws.FnLettersText', WHERE WHAT IT READS IS OF BULK AT MOST 1048576: true; the input reads as it did. -/
def fnLettersTextUptoRow : OpenClaim := { program := "ytilcncnhkidndaadoor", sum := "366abbabb08e4283950a809709e0a6b25c9f36161371d63ac8caf0b2d2d63499", func := "loop.example/engrosser/laws.FnLettersText", spec := "fnLettersText", inPlace := ["internal/reflectlite.TypeOf"], unfollowed := true, recurses := true, named := ["loop.example/engrosser/impl.errMalformed", "loop.example/engrosser/impl.errUnfinished"], ifaces := true, apart := false, laid := [("loop.example/engrosser/impl.errMalformed", laid_loop_example_engrosser_impl_errMalformed), ("loop.example/engrosser/impl.errUnfinished", laid_loop_example_engrosser_impl_errUnfinished)], narrowed := true }
def FnLettersTextUptoSaid : Prop := fnLettersTextUptoRow.holds Tryd.pinned (OpenSpec.upto fnLettersTextSpec)

/-- 'laws.FnLetterOne', WHERE WHAT IT READS IS OF BULK AT MOST 1048576: true; the input reads as it did. -/
def fnLetterOneUptoRow : OpenClaim := { program := "ytilcncnhkidndaadoor", sum := "366abbabb08e4283950a809709e0a6b25c9f36161371d63ac8caf0b2d2d63499", func := "loop.example/engrosser/laws.FnLetterOne", spec := "fnLetterOne", inPlace := ["internal/reflectlite.TypeOf"], unfollowed := true, recurses := true, named := ["loop.example/engrosser/impl.errMalformed", "loop.example/engrosser/impl.errUnfinished"], ifaces := true, apart := false, laid := [("loop.example/engrosser/impl.errMalformed", laid_loop_example_engrosser_impl_errMalformed), ("loop.example/engrosser/impl.errUnfinished", laid_loop_example_engrosser_impl_errUnfinished)], narrowed := true }
def FnLetterOneUptoSaid : Prop := fnLetterOneUptoRow.holds Tryd.pinned (OpenSpec.upto fnLetterOneSpec)

/-- 'laws.FnLetterHead', WHERE WHAT IT READS IS OF BULK AT MOST 1048576: true; the input reads as it did. -/
def fnLetterHeadUptoRow : OpenClaim := { program := "ytilcncnhkidndaadoor", sum := "366abbabb08e4283950a809709e0a6b25c9f36161371d63ac8caf0b2d2d63499", func := "loop.example/engrosser/laws.FnLetterHead", spec := "fnLetterHead", inPlace := ["internal/reflectlite.TypeOf"], unfollowed := true, recurses := true, named := ["loop.example/engrosser/impl.errMalformed", "loop.example/engrosser/impl.errUnfinished"], ifaces := true, apart := false, laid := [("loop.example/engrosser/impl.errMalformed", laid_loop_example_engrosser_impl_errMalformed), ("loop.example/engrosser/impl.errUnfinished", laid_loop_example_engrosser_impl_errUnfinished)], narrowed := true }
def FnLetterHeadUptoSaid : Prop := fnLetterHeadUptoRow.holds Tryd.pinned (OpenSpec.upto fnLetterHeadSpec)

/-- 'laws.FnExactLetterTake', WHERE WHAT IT READS IS OF BULK AT MOST 1048576: true; the input reads as it did. -/
def fnExactLetterTakeUptoRow : OpenClaim := { program := "ytilcncnhkidndaadoor", sum := "366abbabb08e4283950a809709e0a6b25c9f36161371d63ac8caf0b2d2d63499", func := "loop.example/engrosser/laws.FnExactLetterTake", spec := "fnExactLetterTake", inPlace := ["internal/reflectlite.TypeOf"], unfollowed := true, recurses := true, named := ["loop.example/engrosser/impl.errMalformed", "loop.example/engrosser/impl.errUnfinished"], ifaces := true, apart := false, laid := [("loop.example/engrosser/impl.errMalformed", laid_loop_example_engrosser_impl_errMalformed), ("loop.example/engrosser/impl.errUnfinished", laid_loop_example_engrosser_impl_errUnfinished)], narrowed := true }
def FnExactLetterTakeUptoSaid : Prop := fnExactLetterTakeUptoRow.holds Tryd.pinned (OpenSpec.upto fnExactLetterTakeSpec)

/-- 'laws.FnExactLetterAll', WHERE WHAT IT READS IS OF BULK AT MOST 1048576: true; the input reads as it did. -/
def fnExactLetterAllUptoRow : OpenClaim := { program := "ytilcncnhkidndaadoor", sum := "366abbabb08e4283950a809709e0a6b25c9f36161371d63ac8caf0b2d2d63499", func := "loop.example/engrosser/laws.FnExactLetterAll", spec := "fnExactLetterAll", inPlace := ["internal/reflectlite.TypeOf"], unfollowed := true, recurses := true, named := ["loop.example/engrosser/impl.errMalformed", "loop.example/engrosser/impl.errUnfinished"], ifaces := true, apart := false, laid := [("loop.example/engrosser/impl.errMalformed", laid_loop_example_engrosser_impl_errMalformed), ("loop.example/engrosser/impl.errUnfinished", laid_loop_example_engrosser_impl_errUnfinished)], narrowed := true }
def FnExactLetterAllUptoSaid : Prop := fnExactLetterAllUptoRow.holds Tryd.pinned (OpenSpec.upto fnExactLetterAllSpec)

end Rows
end Go.Proofs.YtilcncnhkidndaaDoor
