/- Closed facts on the whole translated program, shared by the claims of this seat: the translation's head read as signs, and what the row's form asks of the program as a whole. -/
import Derived.Test.YtheblejlmlfddaaRows
import Derived.WalkKit
import Derived.ProofKit
namespace Go.Proofs.Ytheblejlmlfddaa.Whole

def sp : Char := Char.ofNat 32
def word0 : List Char := [Char.ofNat 104, Char.ofNat 97, Char.ofNat 114, Char.ofNat 110, Char.ofNat 101, Char.ofNat 115, Char.ofNat 115]
def word1 : List Char :=
   [Char.ofNat 51, Char.ofNat 101, Char.ofNat 50, Char.ofNat 49, Char.ofNat 48, Char.ofNat 49, Char.ofNat 51, Char.ofNat 52, Char.ofNat 55, Char.ofNat 97, Char.ofNat 52, Char.ofNat 56,
    Char.ofNat 55, Char.ofNat 53, Char.ofNat 56, Char.ofNat 57, Char.ofNat 52, Char.ofNat 99, Char.ofNat 100, Char.ofNat 57, Char.ofNat 57, Char.ofNat 49, Char.ofNat 101, Char.ofNat
    100, Char.ofNat 100, Char.ofNat 52, Char.ofNat 56, Char.ofNat 55, Char.ofNat 55, Char.ofNat 49, Char.ofNat 53, Char.ofNat 51, Char.ofNat 99, Char.ofNat 51, Char.ofNat 53,
    Char.ofNat 48, Char.ofNat 56, Char.ofNat 55, Char.ofNat 55, Char.ofNat 52, Char.ofNat 56, Char.ofNat 56, Char.ofNat 100, Char.ofNat 48, Char.ofNat 101, Char.ofNat 99, Char.ofNat
    51, Char.ofNat 102, Char.ofNat 53, Char.ofNat 51, Char.ofNat 102, Char.ofNat 102, Char.ofNat 48, Char.ofNat 56, Char.ofNat 52, Char.ofNat 100, Char.ofNat 51, Char.ofNat 54,
    Char.ofNat 52, Char.ofNat 97, Char.ofNat 97, Char.ofNat 57, Char.ofNat 50, Char.ofNat 49]
def word2 : List Char := [Char.ofNat 99, Char.ofNat 117, Char.ofNat 116]
def rest : List Char :=
   [Char.ofNat 97, Char.ofNat 116, Char.ofNat 32, Char.ofNat 108, Char.ofNat 111, Char.ofNat 111, Char.ofNat 112, Char.ofNat 46, Char.ofNat 101, Char.ofNat 120, Char.ofNat 97,
    Char.ofNat 109, Char.ofNat 112, Char.ofNat 108, Char.ofNat 101, Char.ofNat 47, Char.ofNat 101, Char.ofNat 110, Char.ofNat 103, Char.ofNat 114, Char.ofNat 111, Char.ofNat 115,
    Char.ofNat 115, Char.ofNat 101, Char.ofNat 114, Char.ofNat 47, Char.ofNat 108, Char.ofNat 97, Char.ofNat 119, Char.ofNat 115, Char.ofNat 46, Char.ofNat 70, Char.ofNat 110,
    Char.ofNat 69, Char.ofNat 120, Char.ofNat 97, Char.ofNat 99, Char.ofNat 116, Char.ofNat 72, Char.ofNat 97, Char.ofNat 108, Char.ofNat 108, Char.ofNat 78, Char.ofNat 101, Char.ofNat
    119, Char.ofNat 32, Char.ofNat 108, Char.ofNat 111, Char.ofNat 111, Char.ofNat 112, Char.ofNat 46, Char.ofNat 101, Char.ofNat 120, Char.ofNat 97, Char.ofNat 109, Char.ofNat 112,
    Char.ofNat 108, Char.ofNat 101, Char.ofNat 47, Char.ofNat 101, Char.ofNat 110, Char.ofNat 103, Char.ofNat 114, Char.ofNat 111, Char.ofNat 115, Char.ofNat 115, Char.ofNat 101,
    Char.ofNat 114, Char.ofNat 47, Char.ofNat 108, Char.ofNat 97, Char.ofNat 119, Char.ofNat 115, Char.ofNat 46, Char.ofNat 70, Char.ofNat 110, Char.ofNat 69, Char.ofNat 120,
    Char.ofNat 97, Char.ofNat 99, Char.ofNat 116, Char.ofNat 72, Char.ofNat 97, Char.ofNat 108, Char.ofNat 108, Char.ofNat 79, Char.ofNat 110, Char.ofNat 108, Char.ofNat 121,
    Char.ofNat 32, Char.ofNat 108, Char.ofNat 111, Char.ofNat 111, Char.ofNat 112, Char.ofNat 46, Char.ofNat 101, Char.ofNat 120, Char.ofNat 97, Char.ofNat 109, Char.ofNat 112,
    Char.ofNat 108, Char.ofNat 101, Char.ofNat 47, Char.ofNat 101, Char.ofNat 110, Char.ofNat 103, Char.ofNat 114, Char.ofNat 111, Char.ofNat 115, Char.ofNat 115, Char.ofNat 101,
    Char.ofNat 114, Char.ofNat 47, Char.ofNat 108, Char.ofNat 97, Char.ofNat 119, Char.ofNat 115, Char.ofNat 46, Char.ofNat 70, Char.ofNat 110, Char.ofNat 69, Char.ofNat 120,
    Char.ofNat 97, Char.ofNat 99, Char.ofNat 116, Char.ofNat 72, Char.ofNat 97, Char.ofNat 108, Char.ofNat 108, Char.ofNat 83, Char.ofNat 97, Char.ofNat 109, Char.ofNat 101]
def headSigns : List Char := word0 ++ sp :: (word1 ++ sp :: (word2 ++ sp :: rest))

set_option maxRecDepth 100000 in
theorem head_is : Try.prog.initOrder = String.ofList headSigns := by kernel_rfl
theorem head_list : Try.prog.initOrder.toList = headSigns := by rw [head_is, String.toList_ofList]

theorem words_sp (r : List Char) : wordsSigns (sp :: r) = [] :: wordsSigns r := rfl
theorem words_other (c : Char) (r : List Char) (h : c ≠ sp) : wordsSigns (c :: r) = match wordsSigns r with | w :: ws => (c :: w) :: ws | [] => [[c]] := by
  rw [wordsSigns]
  all_goals first | rfl | exact h
theorem words_app (r : List Char) : (w : List Char) → (w.all fun c => c != sp) = true → wordsSigns (w ++ sp :: r) = w :: wordsSigns r
  | [], _ => words_sp r
  | c :: w, h => by
    simp only [List.all_cons, Bool.and_eq_true, bne_iff_ne] at h
    rw [List.cons_append, words_other _ _ h.1, words_app r w h.2]
theorem words : wordsSigns Try.prog.initOrder.toList = word0 :: word1 :: word2 :: wordsSigns rest := by
  rw [head_list, headSigns, words_app _ word0 (by kernel_rfl), words_app _ word1 (by kernel_rfl), words_app _ word2 (by kernel_rfl)]
theorem behind (t : List (List Char)) : behindMainWord (word0 :: word1 :: word2 :: t) = word2 :: t := by kernel_rfl
theorem head : behindMainWord (wordsSigns Try.prog.initOrder.toList) = word2 :: wordsSigns rest := by rw [words, behind]

theorem enter_of (P : Program) (c : List Char) (t : List (List Char)) (h : behindMainWord (wordsSigns P.initOrder.toList) = c :: t) (hl : P.laysLater = false) (hr : P.bearsReflect = false)
    (hd : P.doorFits [] = true) (hs : stripLifts liftWords (c :: t) = ([], c :: t)) (hc : (c == "cut".toList) = true) : P.mayEnter = true := by
  unfold Program.mayEnter; rw [h]; simp only [hs, List.head?_cons, hl, hr, hd]
  rw [show (some c == some "cut".toList) = true from hc]; simp
theorem lifts_of (P : Program) (c : List Char) (t : List (List Char)) (h : behindMainWord (wordsSigns P.initOrder.toList) = c :: t) (hs : stripLifts liftWords (c :: t) = ([], c :: t)) : P.headLifts = [] := by
  unfold Program.headLifts; rw [h]; simp [hs]
theorem final_of (P : Program) (c : List Char) (t : List (List Char)) (h : behindMainWord (wordsSigns P.initOrder.toList) = c :: t) (hs : P.headLifts = []) (hc : (c == "carried".toList) = false) : P.liftsFinal = false := by
  unfold Program.liftsFinal; rw [h, hs]; simp_all
theorem make_of (P : Program) (c : List Char) (t : List (List Char)) (h : behindMainWord (wordsSigns P.initOrder.toList) = c :: t) (h1 : (c == "gc".toList || c == "spec".toList) = false) (hc : (c == "cut".toList) = true) : P.make = some Make.cut := by
  unfold Program.make; rw [h]; simp only [h1, hc]; rfl
theorem strip (t : List (List Char)) : stripLifts liftWords (word2 :: t) = ([], word2 :: t) := by kernel_rfl
theorem noLater : Try.prog.laysLater = false := by kernel_rfl
theorem noReflect : Try.prog.bearsReflect = false := by kernel_rfl
theorem door : Try.prog.doorFits [] = true := by kernel_rfl
theorem isCut : (word2 == "cut".toList) = true := by kernel_rfl
theorem notCarried : (word2 == "carried".toList) = false := by kernel_rfl
theorem notWhole : (word2 == "gc".toList || word2 == "spec".toList) = false := by kernel_rfl
theorem mayEnter : Try.prog.mayEnter = true := enter_of _ _ _ head noLater noReflect door (strip _) isCut
theorem headLifts : Try.prog.headLifts = [] := lifts_of _ _ _ head (strip _)
theorem liftsFinal : Try.prog.liftsFinal = false := final_of _ _ _ head headLifts notCarried
theorem make : Try.prog.make = some Make.cut := make_of _ _ _ head notWhole isCut
theorem laidOut : laidOutB Try.prog = true := by kernel_rfl
theorem mapsRowed : mapsRowed Try.prog = true := by kernel_rfl
theorem plainKeys : Try.prog.plainKeys = true := by kernel_rfl
theorem stopsHeard : Try.prog.stopsHeard = true := by kernel_rfl
theorem stops : (Try.prog.stops == []) = true := by kernel_rfl
theorem stopKnobs : (Try.prog.stopKnobs == []) = true := by kernel_rfl
theorem own : ownKnob Try.prog.godebug = none := by kernel_rfl

/-- what the row's form asks of one law's row, besides what it asks of the whole program -/
def lawFacts (P : Program) (f : FuncId) (fn : Func) (s : ChangeSpec) (c : OpenClaim) : Bool :=
  c.wf (OpenSpec.ofChange s) && fn.params.all (P.readableRec ·) && namedTie P c.named s.vars && (c.stops == []) && (c.knobs == []) &&
  (c.inPlace == P.inPlace f) && (c.unfollowed == P.unfollowed f) && (c.recurses == P.recurses f) && (c.named == P.varsNamed f) &&
  (c.maps == (fn.params.toList ++ s.plain.varTypes P).any (P.mapsRec ·)) && (c.ifaces == (fn.params.toList ++ s.plain.varTypes P).any (P.ifacesRec ·)) && (c.mapsOut == P.mapsAmong fn.resultTypes.toList) &&
  (c.loops == (fn.params.toList ++ s.plain.varTypes P).any (P.loopsFrom ·)) && (c.wideKeys == (fn.params.toList ++ s.plain.varTypes P ++ fn.resultTypes.toList).any (P.wideKeysFrom ·)) &&
  s.vars.all (P.varReadable ·) && fn.resultTypes.all (fun t => P.readableRec t && decide (t < P.types.size)) && (c.ifacesOut == fn.resultTypes.toList.any (P.ifacesRec ·)) && (c.loopsOut == fn.resultTypes.toList.any (P.loopsFrom ·)) && (c.plainKeys == true) && c.shortTexts.isNone && (c.lifted == false) && (some Make.cut == some c.make) && (c.kinds == (if c.domain.isEmpty then [] else fn.params.toList.map fun t => match P.underlying t with | some (.int k) => some k | _ => none)) && (c.pinned == c.pinnedBy) &&
  (c.veiled == (fn.params.toList ++ s.plain.varTypes P ++ fn.resultTypes.toList).any (P.veiledRec ·)) && c.veiledFits P fn.params.toList (fn.params.toList ++ s.plain.varTypes P ++ fn.resultTypes.toList)

theorem facts_of_any {P : Program} {f : FuncId} {fn : Func} {s : ChangeSpec} {c : OpenClaim} (w1 : laidOutB P = true) (w2 : Go.mapsRowed P = true) (w3 : (P.stops == []) = true) (w4 : (P.stopKnobs == []) = true) (w5 : P.plainKeys = true)
    (w6 : P.stopsHeard = true) (w7 : P.mayEnter = true) (w8 : P.liftsFinal = false) (w9 : P.make = some Make.cut) (h : lawFacts P f fn s c = true) : joinedFacts P f fn s c = true := by
  unfold lawFacts at h
  unfold joinedFacts
  simp only [Bool.and_eq_true] at h ⊢
  rw [w5, w8, w9]
  obtain ⟨⟨⟨⟨⟨⟨⟨⟨⟨⟨⟨⟨⟨⟨⟨⟨⟨⟨⟨⟨⟨⟨⟨⟨⟨k1, k4⟩, k5⟩, k6⟩, k8⟩, k10⟩, k11⟩, k12⟩, k13⟩, k14⟩, k15⟩, k16⟩, k17⟩, k17b⟩, k18⟩, k19⟩, k20⟩, k21⟩, k22⟩, k23⟩, k24b⟩, k24c⟩, k25⟩, k26⟩, k27⟩, k28⟩ := h
  exact ⟨⟨⟨⟨⟨⟨⟨⟨⟨⟨⟨⟨⟨⟨⟨⟨⟨⟨⟨⟨⟨⟨⟨⟨⟨⟨⟨⟨⟨⟨⟨k1, w1⟩, w2⟩, k4⟩, k5⟩, k6⟩, w3⟩, k8⟩, w4⟩, k10⟩, k11⟩, k12⟩, k13⟩, k14⟩, k15⟩, k16⟩, k17⟩, k17b⟩, k18⟩, k19⟩, k20⟩, k21⟩, k22⟩, k23⟩, w6⟩, w7⟩, k24b⟩, k24c⟩, k25⟩, k26⟩, k27⟩, k28⟩
theorem facts_of {f : FuncId} {fn : Func} {s : ChangeSpec} {c : OpenClaim} (h : lawFacts Try.prog f fn s c = true) : joinedFacts Try.prog f fn s c = true :=
  facts_of_any laidOut mapsRowed stops stopKnobs plainKeys stopsHeard mayEnter liftsFinal make h

end Go.Proofs.Ytheblejlmlfddaa.Whole
