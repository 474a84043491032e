/-
  No cell of these rows narrows 'for every input' (looked for: loops, veiled, ifaces, maps, wideKeys, modest, calm, conditions, laid).
  DERIVED. THE GIVEN ROWS OF THIS SEAT. 17 by the template 'for every input the law returns true; each argument reads behind the call as it read before'; 0 by the template 'total and deterministic' (their statements: YtbhdgalkedegjaaTotals.lean).
  GIVEN WITH THE SEED: the statements are not yours to turn. If you find one false, say at which input.
  Laid BY PROGRAM, IN A SANDBOX (cutbox-rows.mjs): the forced cells as the released guide's own fill.sh prints them over the translation 5fb63dc468b655e4… (all of the seat's roots in one cut). By AI agents, Wed Nov 11 2026. No macro, syntax, notation, axiom, sorry.
-/
import Derived.Test.YtbhdgalkedegjaaChecked
import GoSem.Claim
import GoSem.ClaimJoined
import GoSem.ClaimMapViews
import Derived.JoinedTies
import Derived.KernelRfl
namespace Go.Proofs.Ytbhdgalkedegjaa
/- THE CELL 'sum', in the pinned program and in every row, IS THE sha256 OF THE DUMP (.gsa) THAT YtbhdgalkedegjaaProg.lean LOADS. Nothing in Lean hashes anything: it is a label: what it is worth is what the hold of that sum in a sandbox is worth. -/
noncomputable def Try.pinned : Pinned := { name := "ytbhdgalkedegjaa", sum := "5fb63dc468b655e4cb1251d7946df5981f3c6cc2f5870dedba8f7a300ab43537", checked := Try.checked }
namespace Rows
def none {H : Type} : Left H := { results := [], args := [] }

/-- 'laws.FnExactVersOk': WHATEVER THE INPUT: true; the input reads as it did. -/
def fnExactVersOkSpec : ChangeSpec := { name := "fnExactVersOk", fn := fun _ => fun
  | [d] => { results := [.lit (.bool true)], args := [d] }
  | _ => none }
def fnExactVersOkRow : OpenClaim := { program := "ytbhdgalkedegjaa", sum := "5fb63dc468b655e4cb1251d7946df5981f3c6cc2f5870dedba8f7a300ab43537", func := "loop.example/engrosser/laws.FnExactVersOk", spec := "fnExactVersOk", unfollowed := true, recurses := true, apart := false }
def FnExactVersOkSaid : Prop := fnExactVersOkRow.holds Try.pinned (OpenSpec.ofChange fnExactVersOkSpec)

/-- ITS FALSE NEIGHBOUR: 'it returns false'. Refute it at one input. -/
def fnExactVersOkWrong : ChangeSpec := { name := "fnExactVersOk", fn := fun _ => fun
  | [d] => { results := [.lit (.bool false)], args := [d] }
  | _ => none }
def FnExactVersOkWrongFalsely : Prop := fnExactVersOkRow.holds Try.pinned (OpenSpec.ofChange fnExactVersOkWrong)

/-- 'laws.FnExactVersAt': WHATEVER THE INPUT: true; the input reads as it did. -/
def fnExactVersAtSpec : ChangeSpec := { name := "fnExactVersAt", fn := fun _ => fun
  | [d1, d2] => { results := [.lit (.bool true)], args := [d1, d2] }
  | _ => none }
def fnExactVersAtRow : OpenClaim := { program := "ytbhdgalkedegjaa", sum := "5fb63dc468b655e4cb1251d7946df5981f3c6cc2f5870dedba8f7a300ab43537", func := "loop.example/engrosser/laws.FnExactVersAt", spec := "fnExactVersAt", unfollowed := true, recurses := true, apart := false }
def FnExactVersAtSaid : Prop := fnExactVersAtRow.holds Try.pinned (OpenSpec.ofChange fnExactVersAtSpec)

/-- ITS FALSE NEIGHBOUR: 'it returns false'. Refute it at one input. -/
def fnExactVersAtWrong : ChangeSpec := { name := "fnExactVersAt", fn := fun _ => fun
  | [d1, d2] => { results := [.lit (.bool false)], args := [d1, d2] }
  | _ => none }
def FnExactVersAtWrongFalsely : Prop := fnExactVersAtRow.holds Try.pinned (OpenSpec.ofChange fnExactVersAtWrong)

/-- 'laws.FnExactVersLast': WHATEVER THE INPUT: true; the input reads as it did. -/
def fnExactVersLastSpec : ChangeSpec := { name := "fnExactVersLast", fn := fun _ => fun
  | [d1, d2] => { results := [.lit (.bool true)], args := [d1, d2] }
  | _ => none }
def fnExactVersLastRow : OpenClaim := { program := "ytbhdgalkedegjaa", sum := "5fb63dc468b655e4cb1251d7946df5981f3c6cc2f5870dedba8f7a300ab43537", func := "loop.example/engrosser/laws.FnExactVersLast", spec := "fnExactVersLast", unfollowed := true, recurses := true, apart := false }
def FnExactVersLastSaid : Prop := fnExactVersLastRow.holds Try.pinned (OpenSpec.ofChange fnExactVersLastSpec)

/-- ITS FALSE NEIGHBOUR: 'it returns false'. Refute it at one input. -/
def fnExactVersLastWrong : ChangeSpec := { name := "fnExactVersLast", fn := fun _ => fun
  | [d1, d2] => { results := [.lit (.bool false)], args := [d1, d2] }
  | _ => none }
def FnExactVersLastWrongFalsely : Prop := fnExactVersLastRow.holds Try.pinned (OpenSpec.ofChange fnExactVersLastWrong)

/-- 'laws.FnExactWritesOk': WHATEVER THE INPUT: true; the input reads as it did. -/
def fnExactWritesOkSpec : ChangeSpec := { name := "fnExactWritesOk", fn := fun _ => fun
  | [d] => { results := [.lit (.bool true)], args := [d] }
  | _ => none }
def fnExactWritesOkRow : OpenClaim := { program := "ytbhdgalkedegjaa", sum := "5fb63dc468b655e4cb1251d7946df5981f3c6cc2f5870dedba8f7a300ab43537", func := "loop.example/engrosser/laws.FnExactWritesOk", spec := "fnExactWritesOk", unfollowed := true, recurses := true, apart := false }
def FnExactWritesOkSaid : Prop := fnExactWritesOkRow.holds Try.pinned (OpenSpec.ofChange fnExactWritesOkSpec)

/-- ITS FALSE NEIGHBOUR: 'it returns false'. Refute it at one input. -/
def fnExactWritesOkWrong : ChangeSpec := { name := "fnExactWritesOk", fn := fun _ => fun
  | [d] => { results := [.lit (.bool false)], args := [d] }
  | _ => none }
def FnExactWritesOkWrongFalsely : Prop := fnExactWritesOkRow.holds Try.pinned (OpenSpec.ofChange fnExactWritesOkWrong)

/-- 'laws.FnExactVersDo': WHATEVER THE INPUT: true; the input reads as it did. -/
def fnExactVersDoSpec : ChangeSpec := { name := "fnExactVersDo", fn := fun _ => fun
  | [d1, d2] => { results := [.lit (.bool true)], args := [d1, d2] }
  | _ => none }
def fnExactVersDoRow : OpenClaim := { program := "ytbhdgalkedegjaa", sum := "5fb63dc468b655e4cb1251d7946df5981f3c6cc2f5870dedba8f7a300ab43537", func := "loop.example/engrosser/laws.FnExactVersDo", spec := "fnExactVersDo", unfollowed := true, recurses := true, apart := false }
def FnExactVersDoSaid : Prop := fnExactVersDoRow.holds Try.pinned (OpenSpec.ofChange fnExactVersDoSpec)

/-- ITS FALSE NEIGHBOUR: 'it returns false'. Refute it at one input. -/
def fnExactVersDoWrong : ChangeSpec := { name := "fnExactVersDo", fn := fun _ => fun
  | [d1, d2] => { results := [.lit (.bool false)], args := [d1, d2] }
  | _ => none }
def FnExactVersDoWrongFalsely : Prop := fnExactVersDoRow.holds Try.pinned (OpenSpec.ofChange fnExactVersDoWrong)

/-- 'laws.FnExactVersTrim': WHATEVER THE INPUT: true; the input reads as it did. -/
def fnExactVersTrimSpec : ChangeSpec := { name := "fnExactVersTrim", fn := fun _ => fun
  | [d1, d2] => { results := [.lit (.bool true)], args := [d1, d2] }
  | _ => none }
def fnExactVersTrimRow : OpenClaim := { program := "ytbhdgalkedegjaa", sum := "5fb63dc468b655e4cb1251d7946df5981f3c6cc2f5870dedba8f7a300ab43537", func := "loop.example/engrosser/laws.FnExactVersTrim", spec := "fnExactVersTrim", unfollowed := true, recurses := true, apart := false }
def FnExactVersTrimSaid : Prop := fnExactVersTrimRow.holds Try.pinned (OpenSpec.ofChange fnExactVersTrimSpec)

/-- ITS FALSE NEIGHBOUR: 'it returns false'. Refute it at one input. -/
def fnExactVersTrimWrong : ChangeSpec := { name := "fnExactVersTrim", fn := fun _ => fun
  | [d1, d2] => { results := [.lit (.bool false)], args := [d1, d2] }
  | _ => none }
def FnExactVersTrimWrongFalsely : Prop := fnExactVersTrimRow.holds Try.pinned (OpenSpec.ofChange fnExactVersTrimWrong)

/-- 'laws.FnExactVersSame': WHATEVER THE INPUT: true; the input reads as it did. -/
def fnExactVersSameSpec : ChangeSpec := { name := "fnExactVersSame", fn := fun _ => fun
  | [d1, d2] => { results := [.lit (.bool true)], args := [d1, d2] }
  | _ => none }
def fnExactVersSameRow : OpenClaim := { program := "ytbhdgalkedegjaa", sum := "5fb63dc468b655e4cb1251d7946df5981f3c6cc2f5870dedba8f7a300ab43537", func := "loop.example/engrosser/laws.FnExactVersSame", spec := "fnExactVersSame", apart := false }
def FnExactVersSameSaid : Prop := fnExactVersSameRow.holds Try.pinned (OpenSpec.ofChange fnExactVersSameSpec)

/-- ITS FALSE NEIGHBOUR: 'it returns false'. Refute it at one input. -/
def fnExactVersSameWrong : ChangeSpec := { name := "fnExactVersSame", fn := fun _ => fun
  | [d1, d2] => { results := [.lit (.bool false)], args := [d1, d2] }
  | _ => none }
def FnExactVersSameWrongFalsely : Prop := fnExactVersSameRow.holds Try.pinned (OpenSpec.ofChange fnExactVersSameWrong)

/-- 'laws.FnVersDo': WHATEVER THE INPUT: true; the input reads as it did. -/
def fnVersDoSpec : ChangeSpec := { name := "fnVersDo", fn := fun _ => fun
  | [d] => { results := [.lit (.bool true)], args := [d] }
  | _ => none }
def fnVersDoRow : OpenClaim := { program := "ytbhdgalkedegjaa", sum := "5fb63dc468b655e4cb1251d7946df5981f3c6cc2f5870dedba8f7a300ab43537", func := "loop.example/engrosser/laws.FnVersDo", spec := "fnVersDo", unfollowed := true, recurses := true, apart := false }
def FnVersDoSaid : Prop := fnVersDoRow.holds Try.pinned (OpenSpec.ofChange fnVersDoSpec)

/-- ITS FALSE NEIGHBOUR: 'it returns false'. Refute it at one input. -/
def fnVersDoWrong : ChangeSpec := { name := "fnVersDo", fn := fun _ => fun
  | [d] => { results := [.lit (.bool false)], args := [d] }
  | _ => none }
def FnVersDoWrongFalsely : Prop := fnVersDoRow.holds Try.pinned (OpenSpec.ofChange fnVersDoWrong)

/-- 'laws.FnVersLast': WHATEVER THE INPUT: true; the input reads as it did. -/
def fnVersLastSpec : ChangeSpec := { name := "fnVersLast", fn := fun _ => fun
  | [d] => { results := [.lit (.bool true)], args := [d] }
  | _ => none }
def fnVersLastRow : OpenClaim := { program := "ytbhdgalkedegjaa", sum := "5fb63dc468b655e4cb1251d7946df5981f3c6cc2f5870dedba8f7a300ab43537", func := "loop.example/engrosser/laws.FnVersLast", spec := "fnVersLast", unfollowed := true, recurses := true, apart := false }
def FnVersLastSaid : Prop := fnVersLastRow.holds Try.pinned (OpenSpec.ofChange fnVersLastSpec)

/-- ITS FALSE NEIGHBOUR: 'it returns false'. Refute it at one input. -/
def fnVersLastWrong : ChangeSpec := { name := "fnVersLast", fn := fun _ => fun
  | [d] => { results := [.lit (.bool false)], args := [d] }
  | _ => none }
def FnVersLastWrongFalsely : Prop := fnVersLastRow.holds Try.pinned (OpenSpec.ofChange fnVersLastWrong)

/-- 'laws.FnVersWrite': WHATEVER THE INPUT: true; the input reads as it did. -/
def fnVersWriteSpec : ChangeSpec := { name := "fnVersWrite", fn := fun _ => fun
  | [d] => { results := [.lit (.bool true)], args := [d] }
  | _ => none }
def fnVersWriteRow : OpenClaim := { program := "ytbhdgalkedegjaa", sum := "5fb63dc468b655e4cb1251d7946df5981f3c6cc2f5870dedba8f7a300ab43537", func := "loop.example/engrosser/laws.FnVersWrite", spec := "fnVersWrite", unfollowed := true, recurses := true, apart := false }
def FnVersWriteSaid : Prop := fnVersWriteRow.holds Try.pinned (OpenSpec.ofChange fnVersWriteSpec)

/-- ITS FALSE NEIGHBOUR: 'it returns false'. Refute it at one input. -/
def fnVersWriteWrong : ChangeSpec := { name := "fnVersWrite", fn := fun _ => fun
  | [d] => { results := [.lit (.bool false)], args := [d] }
  | _ => none }
def FnVersWriteWrongFalsely : Prop := fnVersWriteRow.holds Try.pinned (OpenSpec.ofChange fnVersWriteWrong)

/-- 'laws.FnVersTrim': WHATEVER THE INPUT: true; the input reads as it did. -/
def fnVersTrimSpec : ChangeSpec := { name := "fnVersTrim", fn := fun _ => fun
  | [d] => { results := [.lit (.bool true)], args := [d] }
  | _ => none }
def fnVersTrimRow : OpenClaim := { program := "ytbhdgalkedegjaa", sum := "5fb63dc468b655e4cb1251d7946df5981f3c6cc2f5870dedba8f7a300ab43537", func := "loop.example/engrosser/laws.FnVersTrim", spec := "fnVersTrim", unfollowed := true, recurses := true, apart := false }
def FnVersTrimSaid : Prop := fnVersTrimRow.holds Try.pinned (OpenSpec.ofChange fnVersTrimSpec)

/-- ITS FALSE NEIGHBOUR: 'it returns false'. Refute it at one input. -/
def fnVersTrimWrong : ChangeSpec := { name := "fnVersTrim", fn := fun _ => fun
  | [d] => { results := [.lit (.bool false)], args := [d] }
  | _ => none }
def FnVersTrimWrongFalsely : Prop := fnVersTrimRow.holds Try.pinned (OpenSpec.ofChange fnVersTrimWrong)

/-- 'laws.FnVersAt': WHATEVER THE INPUT: true; the input reads as it did. -/
def fnVersAtSpec : ChangeSpec := { name := "fnVersAt", fn := fun _ => fun
  | [d] => { results := [.lit (.bool true)], args := [d] }
  | _ => none }
def fnVersAtRow : OpenClaim := { program := "ytbhdgalkedegjaa", sum := "5fb63dc468b655e4cb1251d7946df5981f3c6cc2f5870dedba8f7a300ab43537", func := "loop.example/engrosser/laws.FnVersAt", spec := "fnVersAt", unfollowed := true, recurses := true, apart := false }
def FnVersAtSaid : Prop := fnVersAtRow.holds Try.pinned (OpenSpec.ofChange fnVersAtSpec)

/-- ITS FALSE NEIGHBOUR: 'it returns false'. Refute it at one input. -/
def fnVersAtWrong : ChangeSpec := { name := "fnVersAt", fn := fun _ => fun
  | [d] => { results := [.lit (.bool false)], args := [d] }
  | _ => none }
def FnVersAtWrongFalsely : Prop := fnVersAtRow.holds Try.pinned (OpenSpec.ofChange fnVersAtWrong)

/-- 'laws.FnVersSame': WHATEVER THE INPUT: true; the input reads as it did. -/
def fnVersSameSpec : ChangeSpec := { name := "fnVersSame", fn := fun _ => fun
  | [d] => { results := [.lit (.bool true)], args := [d] }
  | _ => none }
def fnVersSameRow : OpenClaim := { program := "ytbhdgalkedegjaa", sum := "5fb63dc468b655e4cb1251d7946df5981f3c6cc2f5870dedba8f7a300ab43537", func := "loop.example/engrosser/laws.FnVersSame", spec := "fnVersSame", unfollowed := true, recurses := true, apart := false }
def FnVersSameSaid : Prop := fnVersSameRow.holds Try.pinned (OpenSpec.ofChange fnVersSameSpec)

/-- ITS FALSE NEIGHBOUR: 'it returns false'. Refute it at one input. -/
def fnVersSameWrong : ChangeSpec := { name := "fnVersSame", fn := fun _ => fun
  | [d] => { results := [.lit (.bool false)], args := [d] }
  | _ => none }
def FnVersSameWrongFalsely : Prop := fnVersSameRow.holds Try.pinned (OpenSpec.ofChange fnVersSameWrong)

/-- 'laws.FnVersTwo': WHATEVER THE INPUT: true; the input reads as it did. -/
def fnVersTwoSpec : ChangeSpec := { name := "fnVersTwo", fn := fun _ => fun
  | [d1, d2] => { results := [.lit (.bool true)], args := [d1, d2] }
  | _ => none }
def fnVersTwoRow : OpenClaim := { program := "ytbhdgalkedegjaa", sum := "5fb63dc468b655e4cb1251d7946df5981f3c6cc2f5870dedba8f7a300ab43537", func := "loop.example/engrosser/laws.FnVersTwo", spec := "fnVersTwo", unfollowed := true, recurses := true, apart := false }
def FnVersTwoSaid : Prop := fnVersTwoRow.holds Try.pinned (OpenSpec.ofChange fnVersTwoSpec)

/-- ITS FALSE NEIGHBOUR: 'it returns false'. Refute it at one input. -/
def fnVersTwoWrong : ChangeSpec := { name := "fnVersTwo", fn := fun _ => fun
  | [d1, d2] => { results := [.lit (.bool false)], args := [d1, d2] }
  | _ => none }
def FnVersTwoWrongFalsely : Prop := fnVersTwoRow.holds Try.pinned (OpenSpec.ofChange fnVersTwoWrong)

/-- 'laws.FnVersNone': WHATEVER THE INPUT: true; the input reads as it did. -/
def fnVersNoneSpec : ChangeSpec := { name := "fnVersNone", fn := fun _ => fun
  | [d] => { results := [.lit (.bool true)], args := [d] }
  | _ => none }
def fnVersNoneRow : OpenClaim := { program := "ytbhdgalkedegjaa", sum := "5fb63dc468b655e4cb1251d7946df5981f3c6cc2f5870dedba8f7a300ab43537", func := "loop.example/engrosser/laws.FnVersNone", spec := "fnVersNone", unfollowed := true, recurses := true, apart := false }
def FnVersNoneSaid : Prop := fnVersNoneRow.holds Try.pinned (OpenSpec.ofChange fnVersNoneSpec)

/-- ITS FALSE NEIGHBOUR: 'it returns false'. Refute it at one input. -/
def fnVersNoneWrong : ChangeSpec := { name := "fnVersNone", fn := fun _ => fun
  | [d] => { results := [.lit (.bool false)], args := [d] }
  | _ => none }
def FnVersNoneWrongFalsely : Prop := fnVersNoneRow.holds Try.pinned (OpenSpec.ofChange fnVersNoneWrong)

/-- 'laws.FnVersBent': WHATEVER THE INPUT: true; the input reads as it did. -/
def fnVersBentSpec : ChangeSpec := { name := "fnVersBent", fn := fun _ => fun
  | [d] => { results := [.lit (.bool true)], args := [d] }
  | _ => none }
def fnVersBentRow : OpenClaim := { program := "ytbhdgalkedegjaa", sum := "5fb63dc468b655e4cb1251d7946df5981f3c6cc2f5870dedba8f7a300ab43537", func := "loop.example/engrosser/laws.FnVersBent", spec := "fnVersBent", unfollowed := true, recurses := true, apart := false }
def FnVersBentSaid : Prop := fnVersBentRow.holds Try.pinned (OpenSpec.ofChange fnVersBentSpec)

/-- ITS FALSE NEIGHBOUR: 'it returns false'. Refute it at one input. -/
def fnVersBentWrong : ChangeSpec := { name := "fnVersBent", fn := fun _ => fun
  | [d] => { results := [.lit (.bool false)], args := [d] }
  | _ => none }
def FnVersBentWrongFalsely : Prop := fnVersBentRow.holds Try.pinned (OpenSpec.ofChange fnVersBentWrong)

/-- 'laws.FnVersKeys': WHATEVER THE INPUT: true; the input reads as it did. -/
def fnVersKeysSpec : ChangeSpec := { name := "fnVersKeys", fn := fun _ => fun
  | [d] => { results := [.lit (.bool true)], args := [d] }
  | _ => none }
def fnVersKeysRow : OpenClaim := { program := "ytbhdgalkedegjaa", sum := "5fb63dc468b655e4cb1251d7946df5981f3c6cc2f5870dedba8f7a300ab43537", func := "loop.example/engrosser/laws.FnVersKeys", spec := "fnVersKeys", unfollowed := true, recurses := true, apart := false }
def FnVersKeysSaid : Prop := fnVersKeysRow.holds Try.pinned (OpenSpec.ofChange fnVersKeysSpec)

/-- ITS FALSE NEIGHBOUR: 'it returns false'. Refute it at one input. -/
def fnVersKeysWrong : ChangeSpec := { name := "fnVersKeys", fn := fun _ => fun
  | [d] => { results := [.lit (.bool false)], args := [d] }
  | _ => none }
def FnVersKeysWrongFalsely : Prop := fnVersKeysRow.holds Try.pinned (OpenSpec.ofChange fnVersKeysWrong)

/- THE SECOND FORM. 'bulk': how many values and letters a reading holds, each counted each time it is reached (what is shared counts as often as it is met; a slice's spare places count too). A statement '..UptoSaid' is the law's where the arguments, and the package variables that the reading takes, are together of bulk at most 1048576: NARROWER than '..Said'. Prove '..Said' where nothing that the law and all that it calls make is longer than what came in: it says more and counts as full. Else prove '..UptoSaid'. A law counts once. -/
mutual
def uptoBulk {H : Type} : DataW H → Nat
  | .lit (.string bytes) => bytes.length + 1
  | .lit _ => 1
  | .nil => 1
  | .ptr d => uptoBulk d + 1
  | .slice elems spare => uptoBulkAll elems + uptoBulkAll spare + 1
  | .agg parts => uptoBulkAll parts + 1
  | .iface _ d => uptoBulk d + 1
  | .map entries => uptoBulkEntries entries + 1
  | .held _ => 1
def uptoBulkAll {H : Type} : List (DataW H) → Nat
  | [] => 0
  | d :: r => uptoBulk d + uptoBulkAll r
def uptoBulkEntries {H : Type} : List (Lit × DataW H) → Nat
  | [] => 0
  | x :: r => uptoBulkEntry x + uptoBulkEntries r
def uptoBulkEntry {H : Type} : Lit × DataW H → Nat
  | (.string bytes, d) => bytes.length + uptoBulk d + 1
  | (_, d) => uptoBulk d + 1
 end
def uptoSmall : (H : Type) → List (DataW H) → Bool := fun _ ds => decide (uptoBulkAll ds ≤ 1048576)
def OpenSpec.upto (s : _root_.Go.ChangeSpec) : _root_.Go.OpenSpec := { _root_.Go.OpenSpec.ofChange s with cond := some uptoSmall }

/-- 'laws.FnExactVersOk', WHERE WHAT IT READS IS OF BULK AT MOST 1048576: true; the input reads as it did. -/
def fnExactVersOkUptoRow : OpenClaim := { program := "ytbhdgalkedegjaa", sum := "5fb63dc468b655e4cb1251d7946df5981f3c6cc2f5870dedba8f7a300ab43537", func := "loop.example/engrosser/laws.FnExactVersOk", spec := "fnExactVersOk", unfollowed := true, recurses := true, apart := false, narrowed := true }
def FnExactVersOkUptoSaid : Prop := fnExactVersOkUptoRow.holds Try.pinned (OpenSpec.upto fnExactVersOkSpec)

/-- 'laws.FnExactVersAt', WHERE WHAT IT READS IS OF BULK AT MOST 1048576: true; the input reads as it did. -/
def fnExactVersAtUptoRow : OpenClaim := { program := "ytbhdgalkedegjaa", sum := "5fb63dc468b655e4cb1251d7946df5981f3c6cc2f5870dedba8f7a300ab43537", func := "loop.example/engrosser/laws.FnExactVersAt", spec := "fnExactVersAt", unfollowed := true, recurses := true, apart := false, narrowed := true }
def FnExactVersAtUptoSaid : Prop := fnExactVersAtUptoRow.holds Try.pinned (OpenSpec.upto fnExactVersAtSpec)

/-- 'laws.FnExactVersLast', WHERE WHAT IT READS IS OF BULK AT MOST 1048576: true; the input reads as it did. -/
def fnExactVersLastUptoRow : OpenClaim := { program := "ytbhdgalkedegjaa", sum := "5fb63dc468b655e4cb1251d7946df5981f3c6cc2f5870dedba8f7a300ab43537", func := "loop.example/engrosser/laws.FnExactVersLast", spec := "fnExactVersLast", unfollowed := true, recurses := true, apart := false, narrowed := true }
def FnExactVersLastUptoSaid : Prop := fnExactVersLastUptoRow.holds Try.pinned (OpenSpec.upto fnExactVersLastSpec)

/-- 'laws.FnExactWritesOk', WHERE WHAT IT READS IS OF BULK AT MOST 1048576: true; the input reads as it did. -/
def fnExactWritesOkUptoRow : OpenClaim := { program := "ytbhdgalkedegjaa", sum := "5fb63dc468b655e4cb1251d7946df5981f3c6cc2f5870dedba8f7a300ab43537", func := "loop.example/engrosser/laws.FnExactWritesOk", spec := "fnExactWritesOk", unfollowed := true, recurses := true, apart := false, narrowed := true }
def FnExactWritesOkUptoSaid : Prop := fnExactWritesOkUptoRow.holds Try.pinned (OpenSpec.upto fnExactWritesOkSpec)

/-- 'laws.FnExactVersDo', WHERE WHAT IT READS IS OF BULK AT MOST 1048576: true; the input reads as it did. -/
def fnExactVersDoUptoRow : OpenClaim := { program := "ytbhdgalkedegjaa", sum := "5fb63dc468b655e4cb1251d7946df5981f3c6cc2f5870dedba8f7a300ab43537", func := "loop.example/engrosser/laws.FnExactVersDo", spec := "fnExactVersDo", unfollowed := true, recurses := true, apart := false, narrowed := true }
def FnExactVersDoUptoSaid : Prop := fnExactVersDoUptoRow.holds Try.pinned (OpenSpec.upto fnExactVersDoSpec)

/-- 'laws.FnExactVersTrim', WHERE WHAT IT READS IS OF BULK AT MOST 1048576: true; the input reads as it did. -/
def fnExactVersTrimUptoRow : OpenClaim := { program := "ytbhdgalkedegjaa", sum := "5fb63dc468b655e4cb1251d7946df5981f3c6cc2f5870dedba8f7a300ab43537", func := "loop.example/engrosser/laws.FnExactVersTrim", spec := "fnExactVersTrim", unfollowed := true, recurses := true, apart := false, narrowed := true }
def FnExactVersTrimUptoSaid : Prop := fnExactVersTrimUptoRow.holds Try.pinned (OpenSpec.upto fnExactVersTrimSpec)

/-- 'laws.FnExactVersSame', WHERE WHAT IT READS IS OF BULK AT MOST 1048576: true; the input reads as it did. -/
def fnExactVersSameUptoRow : OpenClaim := { program := "ytbhdgalkedegjaa", sum := "5fb63dc468b655e4cb1251d7946df5981f3c6cc2f5870dedba8f7a300ab43537", func := "loop.example/engrosser/laws.FnExactVersSame", spec := "fnExactVersSame", apart := false, narrowed := true }
def FnExactVersSameUptoSaid : Prop := fnExactVersSameUptoRow.holds Try.pinned (OpenSpec.upto fnExactVersSameSpec)

/-- 'laws.FnVersDo', WHERE WHAT IT READS IS OF BULK AT MOST 1048576: true; the input reads as it did. -/
def fnVersDoUptoRow : OpenClaim := { program := "ytbhdgalkedegjaa", sum := "5fb63dc468b655e4cb1251d7946df5981f3c6cc2f5870dedba8f7a300ab43537", func := "loop.example/engrosser/laws.FnVersDo", spec := "fnVersDo", unfollowed := true, recurses := true, apart := false, narrowed := true }
def FnVersDoUptoSaid : Prop := fnVersDoUptoRow.holds Try.pinned (OpenSpec.upto fnVersDoSpec)

/-- 'laws.FnVersLast', WHERE WHAT IT READS IS OF BULK AT MOST 1048576: true; the input reads as it did. -/
def fnVersLastUptoRow : OpenClaim := { program := "ytbhdgalkedegjaa", sum := "5fb63dc468b655e4cb1251d7946df5981f3c6cc2f5870dedba8f7a300ab43537", func := "loop.example/engrosser/laws.FnVersLast", spec := "fnVersLast", unfollowed := true, recurses := true, apart := false, narrowed := true }
def FnVersLastUptoSaid : Prop := fnVersLastUptoRow.holds Try.pinned (OpenSpec.upto fnVersLastSpec)

/-- 'laws.FnVersWrite', WHERE WHAT IT READS IS OF BULK AT MOST 1048576: true; the input reads as it did. -/
def fnVersWriteUptoRow : OpenClaim := { program := "ytbhdgalkedegjaa", sum := "5fb63dc468b655e4cb1251d7946df5981f3c6cc2f5870dedba8f7a300ab43537", func := "loop.example/engrosser/laws.FnVersWrite", spec := "fnVersWrite", unfollowed := true, recurses := true, apart := false, narrowed := true }
def FnVersWriteUptoSaid : Prop := fnVersWriteUptoRow.holds Try.pinned (OpenSpec.upto fnVersWriteSpec)

/-- 'laws.FnVersTrim', WHERE WHAT IT READS IS OF BULK AT MOST 1048576: true; the input reads as it did. -/
def fnVersTrimUptoRow : OpenClaim := { program := "ytbhdgalkedegjaa", sum := "5fb63dc468b655e4cb1251d7946df5981f3c6cc2f5870dedba8f7a300ab43537", func := "loop.example/engrosser/laws.FnVersTrim", spec := "fnVersTrim", unfollowed := true, recurses := true, apart := false, narrowed := true }
def FnVersTrimUptoSaid : Prop := fnVersTrimUptoRow.holds Try.pinned (OpenSpec.upto fnVersTrimSpec)

/-- 'laws.FnVersAt', WHERE WHAT IT READS IS OF BULK AT MOST 1048576: true; the input reads as it did. -/
def fnVersAtUptoRow : OpenClaim := { program := "ytbhdgalkedegjaa", sum := "5fb63dc468b655e4cb1251d7946df5981f3c6cc2f5870dedba8f7a300ab43537", func := "loop.example/engrosser/laws.FnVersAt", spec := "fnVersAt", unfollowed := true, recurses := true, apart := false, narrowed := true }
def FnVersAtUptoSaid : Prop := fnVersAtUptoRow.holds Try.pinned (OpenSpec.upto fnVersAtSpec)

/-- 'laws.FnVersSame', WHERE WHAT IT READS IS OF BULK AT MOST 1048576: true; the input reads as it did. -/
def fnVersSameUptoRow : OpenClaim := { program := "ytbhdgalkedegjaa", sum := "5fb63dc468b655e4cb1251d7946df5981f3c6cc2f5870dedba8f7a300ab43537", func := "loop.example/engrosser/laws.FnVersSame", spec := "fnVersSame", unfollowed := true, recurses := true, apart := false, narrowed := true }
def FnVersSameUptoSaid : Prop := fnVersSameUptoRow.holds Try.pinned (OpenSpec.upto fnVersSameSpec)

/-- 'laws.FnVersTwo', WHERE WHAT IT READS IS OF BULK AT MOST 1048576: true; the input reads as it did. -/
def fnVersTwoUptoRow : OpenClaim := { program := "ytbhdgalkedegjaa", sum := "5fb63dc468b655e4cb1251d7946df5981f3c6cc2f5870dedba8f7a300ab43537", func := "loop.example/engrosser/laws.FnVersTwo", spec := "fnVersTwo", unfollowed := true, recurses := true, apart := false, narrowed := true }
def FnVersTwoUptoSaid : Prop := fnVersTwoUptoRow.holds Try.pinned (OpenSpec.upto fnVersTwoSpec)

/-- 'laws.FnVersNone', WHERE WHAT IT READS IS OF BULK AT MOST 1048576: true; the input reads as it did. -/
def fnVersNoneUptoRow : OpenClaim := { program := "ytbhdgalkedegjaa", sum := "5fb63dc468b655e4cb1251d7946df5981f3c6cc2f5870dedba8f7a300ab43537", func := "loop.example/engrosser/laws.FnVersNone", spec := "fnVersNone", unfollowed := true, recurses := true, apart := false, narrowed := true }
def FnVersNoneUptoSaid : Prop := fnVersNoneUptoRow.holds Try.pinned (OpenSpec.upto fnVersNoneSpec)

/-- 'laws.FnVersBent', WHERE WHAT IT READS IS OF BULK AT MOST 1048576: true; the input reads as it did. -/
def fnVersBentUptoRow : OpenClaim := { program := "ytbhdgalkedegjaa", sum := "5fb63dc468b655e4cb1251d7946df5981f3c6cc2f5870dedba8f7a300ab43537", func := "loop.example/engrosser/laws.FnVersBent", spec := "fnVersBent", unfollowed := true, recurses := true, apart := false, narrowed := true }
def FnVersBentUptoSaid : Prop := fnVersBentUptoRow.holds Try.pinned (OpenSpec.upto fnVersBentSpec)

/-- 'laws.FnVersKeys', WHERE WHAT IT READS IS OF BULK AT MOST 1048576: true; the input reads as it did. -/
def fnVersKeysUptoRow : OpenClaim := { program := "ytbhdgalkedegjaa", sum := "5fb63dc468b655e4cb1251d7946df5981f3c6cc2f5870dedba8f7a300ab43537", func := "loop.example/engrosser/laws.FnVersKeys", spec := "fnVersKeys", unfollowed := true, recurses := true, apart := false, narrowed := true }
def FnVersKeysUptoSaid : Prop := fnVersKeysUptoRow.holds Try.pinned (OpenSpec.upto fnVersKeysSpec)

end Rows
end Go.Proofs.Ytbhdgalkedegjaa
