/- Plain mathematics: the words of a text, one after the other; what reading them gives. -/
import Derived.Test.YtjgfbcmgnjgapaaDoorAkT
import Derived.Lib.AtoiTie
import Derived.Lib.Bytealg
namespace Go.Proofs.YtjgfbcmgnjgapaaDoor
open Go.RowKit
set_option linter.unusedVariables false
set_option maxRecDepth 100000

/-- the first word, and what lies behind the space that ends it -/
def fstW (l : List UInt8) : List UInt8 := l.takeWhile (fun c => decide (c ≠ 32))
def rstW (l : List UInt8) : List UInt8 := (l.dropWhile (fun c => decide (c ≠ 32))).drop 1
theorem fstW_hit (l : List UInt8) : fstW (32 :: l) = [] := by simp [fstW]
theorem rstW_hit (l : List UInt8) : rstW (32 :: l) = l := by simp [rstW]
theorem fstW_on {x : UInt8} (h : x ≠ 32) (l : List UInt8) : fstW (x :: l) = x :: fstW l := by simp [fstW, h]
theorem rstW_on {x : UInt8} (h : x ≠ 32) (l : List UInt8) : rstW (x :: l) = rstW l := by simp [rstW, h]
theorem fstW_le (l : List UInt8) : (fstW l).length ≤ l.length := (List.takeWhile_sublist _).length_le
theorem rstW_le (l : List UInt8) : (rstW l).length ≤ l.length := by
 unfold rstW
 rw [List.length_drop]
 have := (List.dropWhile_sublist (p := fun c : UInt8 => decide (c ≠ 32)) (l := l)).length_le
 omega
theorem split_fst : (l : List UInt8) → ∃ T, splitC 32 l = fstW l :: T ∧ ((T = [] ∧ rstW l = []) ∨ T = splitC 32 (rstW l))
 | [] => ⟨[], rfl, .inl ⟨rfl, rfl⟩⟩
 | x :: xs => by
  by_cases hx : x = 32
  ·
   subst hx
   refine ⟨splitC 32 xs, ?_, .inr ?_⟩
   ·
    rw [fstW_hit]; simp [splitC]
   ·
    rw [rstW_hit]
  ·
   obtain ⟨T, h1, h2⟩ := split_fst xs
   refine ⟨T, ?_, ?_⟩
   ·
    rw [fstW_on hx]; unfold splitC; rw [if_neg hx, h1]
   ·
    rw [rstW_on hx]; exact h2
theorem fst_of {l p : List UInt8} {T : List (List UInt8)} (h : splitC 32 l = p :: T) : fstW l = p := by
 obtain ⟨T', h1, -⟩ := split_fst l
 rw [h1] at h
 injection h
theorem rst_of {l p p' : List UInt8} {T : List (List UInt8)} (h : splitC 32 l = p :: p' :: T) : splitC 32 (rstW l) = p' :: T := by
 obtain ⟨T', h1, h2⟩ := split_fst l
 rw [h1] at h
 injection h with e1 e2
 rcases h2 with ⟨h2, -⟩ | h2
 ·
  rw [h2] at e2; cases e2
 ·
  rw [← h2]; exact e2
/-- strings.Cut's way of finding them -/
theorem index_words : (l : List UInt8) → (Lib.indexByte l 32 = -1 ∧ fstW l = l ∧ rstW l = []) ∨ (∃ o : Nat, Lib.indexByte l 32 = o ∧ o < l.length ∧ l.take o = fstW l ∧ l.drop (o + 1) = rstW l)
 | [] => .inl ⟨rfl, rfl, rfl⟩
 | x :: xs => by
  by_cases hx : x = 32
  ·
   subst hx
   exact .inr ⟨0, by simp [Lib.indexByte], by simp, by simp [fstW_hit], by simp [rstW_hit]⟩
  ·
   have hb : (x == 32) = false := by simpa using hx
   rcases index_words xs with ⟨h1, h2, h3⟩ | ⟨o, h1, h2, h3, h4⟩
   ·
    exact .inl ⟨by simp [Lib.indexByte, hb, h1], by rw [fstW_on hx, h2], by rw [rstW_on hx, h3]⟩
   ·
    refine .inr ⟨o + 1, ?_, by simp; omega, by rw [fstW_on hx, List.take_succ_cons, h3], by rw [rstW_on hx, List.drop_succ_cons, h4]⟩
    have hn : (Lib.indexByte xs 32 == -1) = false := by rw [h1]; simp
    simp only [Lib.indexByte, hb, h1]
    simp

def w0 (t : ByteArray) : List UInt8 := fstW t.data.toList
def w1 (t : ByteArray) : List UInt8 := fstW (rstW t.data.toList)
def w2 (t : ByteArray) : List UInt8 := fstW (rstW (rstW t.data.toList))
/-- what the words tell, where the number is n -/
def candQ (t : ByteArray) (n : Int) : Q4 :=
 ⟨kindOf (w0 t), if keyK (kindOf (w0 t)) then ⟨(w1 t).toArray⟩ else ⟨#[]⟩, if hiK (kindOf (w0 t)) then ⟨(w2 t).toArray⟩ else ⟨#[]⟩, if numK (kindOf (w0 t)) then n else 0⟩
def goodA (k : Nat) : Bool := decide (Lib.atoi (decT ((k : Int) - 999)) = some ((k : Int) - 999))
set_option maxRecDepth 100000 in
theorem goodA_all : (List.range 1999).all goodA = true := by decide +kernel
theorem atoi_dec {n : Int} (h : numB n = true) : Lib.atoiAll (decT n) = .ok n := by
 have hl := (num_good h).2.2.2
 have hn : -999 ≤ n ∧ n ≤ 999 := by unfold numB at h; simpa using h
 have hg := List.all_eq_true.1 goodA_all (n + 999).toNat (List.mem_range.2 (by omega))
 unfold goodA at hg
 rw [show (((n + 999).toNat : Nat) : Int) - 999 = n from by omega] at hg
 simp only [decide_eq_true_eq] at hg
 rw [Lib.atoiAll_short _ (by omega), hg]
 rfl
theorem hi_key {k : Int} (h : hiK k = true) : keyK k = true ∧ numK k = false := by
 unfold hiK at h
 simp only [Bool.or_eq_true, decide_eq_true_eq] at h
 rcases h with rfl | rfl <;> exact ⟨by decide, by decide⟩
theorem num_key {k : Int} (h : numK k = true) : keyK k = true ∧ hiK k = false := by
 unfold numK at h
 simp only [Bool.or_eq_true, decide_eq_true_eq] at h
 rcases h with rfl | rfl <;> exact ⟨by decide, by decide⟩
theorem words_ask {q : Q4} (h : askB q = true) {t : ByteArray} (ht : askT q = t) :
  kindOf (w0 t) = q.kind ∧ (keyK q.kind = true → w1 t = q.key.toList) ∧ (hiK q.kind = true → w2 t = q.hi.toList) ∧ (numK q.kind = true → w2 t = decT q.num) := by
 obtain ⟨k1, k9, -⟩ := askB_iff.1 h
 have hp := text_pieces h
 have e : t.data.toList = (text3 q).toList := by rw [← ByteArray.toList_eq, ← ht]; unfold askT; rw [if_pos h]
 rw [← e] at hp
 unfold w0 w1 w2
 have h0 := fst_of hp
 refine ⟨by rw [h0]; exact (word_list k1 k9).1, fun hk => ?_, fun hh => ?_, fun hn => ?_⟩
 ·
  rw [if_pos hk] at hp
  exact fst_of (rst_of hp)
 ·
  obtain ⟨hk, hn⟩ := hi_key hh
  rw [if_pos hk, if_pos hh] at hp
  exact fst_of (rst_of (rst_of hp))
 ·
  obtain ⟨hk, hh⟩ := num_key hn
  rw [if_pos hk, hh, if_neg (by simp), if_pos hn] at hp
  exact fst_of (rst_of (rst_of hp))
theorem cand_ask {q : Q4} (h : askB q = true) {t : ByteArray} (ht : askT q = t) {n : Int} (hn : numK q.kind = true → n = q.num) : candQ t n = q := by
 obtain ⟨hk, h1, h2, -⟩ := words_ask h ht
 obtain ⟨-, -, ka, kb, kc⟩ := askB_iff.1 h
 unfold candQ
 rw [hk]
 obtain ⟨kind, key, hi, num⟩ := q
 unfold keyQ at ka
 unfold hiQ at kb
 unfold numQ at kc
 dsimp only at *
 congr 1
 ·
  split
  ·
   rename_i hh; rw [h1 hh]; exact mk_toList key
  ·
   rename_i hh
   rw [if_neg hh, decide_eq_true_eq] at ka
   exact (emp_of ka).symm
 ·
  split
  ·
   rename_i hh; rw [h2 hh]; exact mk_toList hi
  ·
   rename_i hh
   rw [if_neg hh, decide_eq_true_eq] at kb
   exact (emp_of kb).symm
 ·
  split
  ·
   rename_i hh; exact hn hh
  ·
   rename_i hh
   rw [if_neg hh, decide_eq_true_eq] at kc
   exact kc.symm
theorem read_not {t : ByteArray} {n : Int} (ha : numK (kindOf (w0 t)) = true → Lib.atoiAll (w2 t) = .ok n) (h : ¬ (askB (candQ t n) = true ∧ askT (candQ t n) = t)) : readB t = false := by
 cases hb : readB t
 ·
  rfl
 ·
  obtain ⟨h1, h2⟩ := read_text hb
  obtain ⟨hk, -, -, h3⟩ := words_ask h1 h2
  have hn : numK (readV t).kind = true → n = (readV t).num := fun hh => by
   have e := ha (by rw [hk]; exact hh)
   rw [h3 hh] at e
   obtain ⟨-, -, -, -, kc⟩ := askB_iff.1 h1
   unfold numQ at kc
   rw [if_pos hh] at kc
   rw [atoi_dec kc] at e
   injection e with e
   exact e.symm
  rw [cand_ask h1 h2 hn] at h
  exact absurd ⟨h1, h2⟩ h
theorem read_bad {t : ByteArray} (hk : numK (kindOf (w0 t)) = true) (ha : ∀ n, Lib.atoiAll (w2 t) ≠ .ok n) : readB t = false := by
 cases hb : readB t
 ·
  rfl
 ·
  obtain ⟨h1, h2⟩ := read_text hb
  obtain ⟨hw, -, -, h3⟩ := words_ask h1 h2
  rw [hw] at hk
  obtain ⟨-, -, -, -, kc⟩ := askB_iff.1 h1
  unfold numQ at kc
  rw [if_pos hk] at kc
  exact absurd (by rw [h3 hk]; exact atoi_dec kc) (ha (readV t).num)
end Go.Proofs.YtjgfbcmgnjgapaaDoor
