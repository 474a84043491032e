/- Chapter 4, plain mathematics: the text of what one asks, and how it is read. -/
import Derived.Test.YtjgfbcmgnjgapaaDoorAkE
namespace Go.Proofs.YtjgfbcmgnjgapaaDoor
open Go.RowKit
set_option linter.unusedVariables false

theorem emp_list : (⟨#[]⟩ : ByteArray).toList = [] := by rw [ByteArray.toList_eq]
def dg (k : Nat) : UInt8 := UInt8.ofNat (48 + k)
/-- a number of at most three digits -/
def dec3 (n : Nat) : List UInt8 := if n < 10 then [dg n] else if n < 100 then [dg (n / 10), dg (n % 10)] else [dg (n / 100), dg (n / 10 % 10), dg (n % 10)]
def decT (n : Int) : List UInt8 := if n < 0 then 45 :: dec3 (-n).toNat else dec3 n.toNat
def decB (n : Int) : ByteArray := ⟨(decT n).toArray⟩
def isD (c : UInt8) : Bool := decide (48 ≤ c.toNat) && decide (c.toNat ≤ 57)
/-- reading digits -/
def numF (t : List UInt8) : Int := t.foldl (fun n c => n * 10 + ((c.toNat : Int) - 48)) 0
def numOkL (neg : Bool) (t : List UInt8) : Bool := !(decide (t.length = 0) || decide (17 < t.length) || (decide (t.head? = some 48) && (decide (1 < t.length) || neg))) && t.all isD
def negL (s : List UInt8) : Bool := decide (s.head? = some 45)
def bodyL (s : List UInt8) : List UInt8 := if negL s then s.tail else s
def numB2 (s : List UInt8) : Bool := numOkL (negL s) (bodyL s)
def numN (s : List UInt8) : Int := if numB2 s then (if negL s then -(numF (bodyL s)) else numF (bodyL s)) else 0
def no32 (p : List UInt8) : Bool := p.all fun c => decide (c ≠ 32)
def goodN (k : Nat) : Bool := decide (numN (decT ((k : Int) - 999)) = (k : Int) - 999) && no32 (decT ((k : Int) - 999)) && decide (1 ≤ (decT ((k : Int) - 999)).length) && decide ((decT ((k : Int) - 999)).length ≤ 4)
set_option maxRecDepth 100000 in
theorem goodN_all : (List.range 1999).all goodN = true := by decide +kernel
theorem num_good {n : Int} (h : numB n = true) : numN (decT n) = n ∧ no32 (decT n) = true ∧ 1 ≤ (decT n).length ∧ (decT n).length ≤ 4 := by
 have hn : -999 ≤ n ∧ n ≤ 999 := by unfold numB at h; simpa using h
 have hg := List.all_eq_true.1 goodN_all (n + 999).toNat (List.mem_range.2 (by omega))
 unfold goodN at hg
 rw [show (((n + 999).toNat : Nat) : Int) - 999 = n from by omega] at hg
 simp only [Bool.and_eq_true, decide_eq_true_eq] at hg
 exact ⟨hg.1.1.1, hg.1.1.2, hg.1.2, hg.2⟩

/-- the pieces of a text between the bytes c -/
def splitC (c : UInt8) : List UInt8 → List (List UInt8)
 | [] => [[]]
 | x :: xs => if x = c then [] :: splitC c xs else match splitC c xs with
  | p :: ps => (x :: p) :: ps
  | [] => [[x]]
theorem split_ne (c : UInt8) : (l : List UInt8) → splitC c l ≠ []
 | [] => by simp [splitC]
 | x :: xs => by
  unfold splitC
  split
  ·
   simp
  ·
   split <;> simp
theorem split_one {c : UInt8} : (p : List UInt8) → (∀ x ∈ p, x ≠ c) → splitC c p = [p]
 | [], _ => rfl
 | x :: xs, h => by
  unfold splitC
  rw [if_neg (h x (by simp)), split_one xs fun y hy => h y (by simp [hy])]
theorem split_two {c : UInt8} {r : List UInt8} : (p : List UInt8) → (∀ x ∈ p, x ≠ c) → splitC c (p ++ c :: r) = p :: splitC c r
 | [], _ => by simp [splitC]
 | x :: xs, h => by
  have e : splitC c (x :: (xs ++ c :: r)) = if x = c then [] :: splitC c (xs ++ c :: r) else match splitC c (xs ++ c :: r) with
   | p :: ps => (x :: p) :: ps
   | [] => [[x]] := rfl
  rw [List.cons_append, e, if_neg (h x (by simp)), split_two xs fun y hy => h y (by simp [hy])]

theorem no32_iff {p : List UInt8} : no32 p = true ↔ ∀ x ∈ p, x ≠ 32 := by unfold no32; simp [List.all_eq_true]
theorem key_no32 {k : ByteArray} (h : keyB k = true) : ∀ x ∈ k.toList, x ≠ 32 := by
 unfold keyB at h
 simp only [Bool.and_eq_true, decide_eq_true_eq] at h
 intro x hx e
 rw [ByteArray.toList_eq] at hx
 have := List.all_eq_true.1 h.2 x hx
 subst e
 revert this
 decide

def spB : ByteArray := ⟨#[32]⟩
def wordK (k : Int) : ByteArray :=
 if k = 1 then ⟨#[103, 101, 116]⟩ else if k = 2 then ⟨#[97, 108, 108]⟩ else if k = 3 then ⟨#[115, 117, 109]⟩ else if k = 4 then ⟨#[112, 117, 116]⟩ else if k = 5 then ⟨#[97, 100, 100]⟩
 else if k = 6 then ⟨#[99, 117, 116]⟩ else if k = 7 then ⟨#[98, 101, 103, 105, 110]⟩ else if k = 8 then ⟨#[101, 110, 100]⟩ else if k = 9 then ⟨#[117, 110, 100, 111]⟩ else ⟨#[]⟩
def text1 (q : Q4) : ByteArray := if keyK q.kind then wordK q.kind ++ spB ++ q.key else wordK q.kind
def text2 (q : Q4) : ByteArray := if hiK q.kind then text1 q ++ spB ++ q.hi else text1 q
def text3 (q : Q4) : ByteArray := if numK q.kind then text2 q ++ spB ++ decB q.num else text2 q
/-- the text of what one asks -/
def askT (q : Q4) : ByteArray := if askB q then text3 q else ⟨#[]⟩

/-- the kind that a word tells -/
def kindOf (p : List UInt8) : Int :=
 if p = [103, 101, 116] then 1 else if p = [97, 108, 108] then 2 else if p = [115, 117, 109] then 3 else if p = [112, 117, 116] then 4 else if p = [97, 100, 100] then 5
 else if p = [99, 117, 116] then 6 else if p = [98, 101, 103, 105, 110] then 7 else if p = [101, 110, 100] then 8 else if p = [117, 110, 100, 111] then 9 else 0
def guessL (w : List (List UInt8)) : Q4 :=
 ⟨kindOf (w.getD 0 []), if keyK (kindOf (w.getD 0 [])) && decide (1 < w.length) then ⟨(w.getD 1 []).toArray⟩ else ⟨#[]⟩,
  if hiK (kindOf (w.getD 0 [])) && decide (2 < w.length) then ⟨(w.getD 2 []).toArray⟩ else ⟨#[]⟩, if numK (kindOf (w.getD 0 [])) && decide (2 < w.length) then numN (w.getD 2 []) else 0⟩
def guess (t : ByteArray) : Q4 := guessL (splitC 32 t.toList)
def zQ : Q4 := ⟨0, ⟨#[]⟩, ⟨#[]⟩, 0⟩
noncomputable def readB (t : ByteArray) : Bool := open Classical in decide (t.size ≠ 0 ∧ askT (guess t) = t)
noncomputable def readV (t : ByteArray) : Q4 := if readB t then guess t else zQ

theorem toList_app (a b : ByteArray) : (a ++ b).toList = a.toList ++ b.toList := by
 rw [ByteArray.toList_eq, ByteArray.toList_eq, ByteArray.toList_eq]
 simp
theorem toList_mk (l : List UInt8) : (⟨l.toArray⟩ : ByteArray).toList = l := by rw [ByteArray.toList_eq]
theorem mk_toList (b : ByteArray) : (⟨b.toList.toArray⟩ : ByteArray) = b := by rw [ByteArray.toList_eq]
theorem sp_list : spB.toList = [32] := toList_mk [32]
theorem emp_of {b : ByteArray} (h : b.size = 0) : b = ⟨#[]⟩ := by
 obtain ⟨d⟩ := b
 have : d = #[] := Array.eq_empty_of_size_eq_zero h
 subst this; rfl
theorem word_list {k : Int} (h1 : 1 ≤ k) (h9 : k ≤ 9) : kindOf (wordK k).toList = k ∧ (∀ x ∈ (wordK k).toList, x ≠ 32) ∧ (wordK k).size ≠ 0 := by
 have : k = 1 ∨ k = 2 ∨ k = 3 ∨ k = 4 ∨ k = 5 ∨ k = 6 ∨ k = 7 ∨ k = 8 ∨ k = 9 := by omega
 rcases this with rfl | rfl | rfl | rfl | rfl | rfl | rfl | rfl | rfl
 all_goals
  refine ⟨?_, ?_, by decide⟩
  ·
   rw [ByteArray.toList_eq]; decide
  ·
   rw [ByteArray.toList_eq]; decide
theorem text_pieces {q : Q4} (h : askB q = true) : splitC 32 (text3 q).toList = (wordK q.kind).toList :: ((if keyK q.kind then [q.key.toList] else []) ++ (if hiK q.kind then [q.hi.toList] else []) ++ (if numK q.kind then [decT q.num] else [])) := by
 obtain ⟨h1, h9, hk, hh, hn⟩ := askB_iff.1 h
 obtain ⟨-, w2, -⟩ := word_list h1 h9
 unfold keyQ at hk
 unfold hiQ at hh
 unfold numQ at hn
 unfold text3 text2 text1
 cases e1 : keyK q.kind
 ·
  have e2 : hiK q.kind = false := by
   cases e : hiK q.kind
   ·
    rfl
   ·
    exfalso; revert e1 e; unfold keyK hiK; simp; omega
  have e3 : numK q.kind = false := by
   cases e : numK q.kind
   ·
    rfl
   ·
    exfalso; revert e1 e; unfold keyK numK; simp; omega
  rw [e2, e3]
  simp only [Bool.false_eq_true, if_false, List.append_nil]
  exact split_one _ w2
 ·
  rw [e1, if_pos rfl] at hk
  have k2 := key_no32 hk
  cases e2 : hiK q.kind
  ·
   cases e3 : numK q.kind
   ·
    simp only [Bool.false_eq_true, if_false, if_true, List.append_nil]
    rw [toList_app, toList_app, sp_list, List.append_assoc, List.singleton_append, split_two _ w2, split_one _ k2]
   ·
    rw [e3, if_pos rfl] at hn
    obtain ⟨-, d2, -, -⟩ := num_good hn
    have d3 := no32_iff.1 d2
    simp only [Bool.false_eq_true, if_false, if_true, List.append_nil]
    rw [toList_app, toList_app, toList_app, toList_app, sp_list, show (decB q.num).toList = decT q.num from toList_mk _]
    simp only [List.append_assoc, List.cons_append, List.nil_append]
    rw [split_two _ w2, split_two _ k2, split_one _ d3]
  ·
   have e3 : numK q.kind = false := by
    cases e : numK q.kind
    ·
     rfl
    ·
     exfalso; revert e2 e; unfold hiK numK; simp; omega
   rw [e2, if_pos rfl] at hh
   have h2 := key_no32 hh
   rw [e3]
   simp only [Bool.false_eq_true, if_false, if_true, List.append_nil]
   rw [toList_app, toList_app, toList_app, toList_app, sp_list]
   simp only [List.append_assoc, List.cons_append, List.nil_append]
   rw [split_two _ w2, split_two _ k2, split_one _ h2]
/-- what is read from the text of what one asks is that -/
theorem guess_ask {q : Q4} (h : askB q = true) : guess (text3 q) = q := by
 obtain ⟨h1, h9, hk, hh, hn⟩ := askB_iff.1 h
 obtain ⟨w1, -, -⟩ := word_list h1 h9
 unfold guess
 rw [text_pieces h]
 unfold guessL
 obtain ⟨kind, key, hi, num⟩ := q
 simp only at w1 h1 h9 hk hh hn ⊢
 rw [List.getD_cons_zero, w1]
 unfold keyQ hiQ numQ at *
 simp only at hk hh hn
 have hcase : kind = 1 ∨ kind = 2 ∨ kind = 3 ∨ kind = 4 ∨ kind = 5 ∨ kind = 6 ∨ kind = 7 ∨ kind = 8 ∨ kind = 9 := by omega
 rcases hcase with rfl | rfl | rfl | rfl | rfl | rfl | rfl | rfl | rfl
 case inl | inr.inr.inr.inr.inr.inl =>
  have eh := emp_of (of_decide_eq_true hh)
  have en := of_decide_eq_true hn
  subst eh en
  simp [keyK, hiK, numK, mk_toList]
 case inr.inl | inr.inr.inl =>
  have en := of_decide_eq_true hn
  subst en
  simp [keyK, hiK, numK, mk_toList]
 case inr.inr.inr.inl | inr.inr.inr.inr.inl =>
  have eh := emp_of (of_decide_eq_true hh)
  subst eh
  have := (num_good hn).1
  simp [keyK, hiK, numK, mk_toList, this]
 all_goals
  have ek := emp_of (of_decide_eq_true hk)
  have eh := emp_of (of_decide_eq_true hh)
  have en := of_decide_eq_true hn
  subst ek eh en
  simp [keyK, hiK, numK]
theorem text_size {q : Q4} (h : askB q = true) : (text3 q).size ≠ 0 := by
 intro e
 have e2 := emp_of e
 have hp := text_pieces h
 rw [e2, show (⟨#[]⟩ : ByteArray).toList = [] from emp_list] at hp
 obtain ⟨h1, h9, -⟩ := askB_iff.1 h
 obtain ⟨-, -, w3⟩ := word_list h1 h9
 have h3 : [] = (wordK q.kind).toList := (List.cons.inj hp).1
 rw [ByteArray.toList_eq] at h3
 apply w3
 show (wordK q.kind).data.size = 0
 rw [← Array.length_toList, ← h3]; rfl
theorem read_ask {q : Q4} (h : askB q = true) : readB (askT q) = true ∧ readV (askT q) = q := by
 have ha : askT q = text3 q := by unfold askT; rw [h]; rfl
 have hb : readB (askT q) = true := by
  unfold readB
  rw [ha, guess_ask h, ha]
  simp [text_size h]
 exact ⟨hb, by unfold readV; rw [hb, ha, guess_ask h]; rfl⟩
theorem read_text {t : ByteArray} (h : readB t = true) : askB (readV t) = true ∧ askT (readV t) = t := by
 have h2 : t.size ≠ 0 ∧ askT (guess t) = t := by unfold readB at h; simpa using h
 have hv : readV t = guess t := by unfold readV; rw [h]; rfl
 rw [hv]
 refine ⟨?_, h2.2⟩
 cases hq : askB (guess t)
 ·
  have := h2.2
  unfold askT at this
  rw [hq] at this
  exfalso
  apply h2.1
  rw [← this]; rfl
 ·
  rfl
/-- a text is read just as what has it -/
theorem read_iff {t : ByteArray} {q : Q4} : (readB t = true ∧ readV t = q) ↔ (askB q = true ∧ askT q = t) := by
 constructor
 ·
  rintro ⟨h1, h2⟩; subst h2; exact read_text h1
 ·
  rintro ⟨h1, h2⟩; subst h2; exact read_ask h1
theorem read_no {t : ByteArray} (h : readB t = false) : readV t = zQ := by unfold readV; rw [h]; rfl
theorem read_bent {q : Q4} (h : askB q = false) : askT q = ⟨#[]⟩ ∧ readB (askT q) = false := by
 have e : askT q = ⟨#[]⟩ := by unfold askT; rw [h]; rfl
 refine ⟨e, ?_⟩
 rw [e]; unfold readB
 simp
 intro hs
 exact absurd rfl hs

end Go.Proofs.YtjgfbcmgnjgapaaDoor
