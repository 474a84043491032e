/- Letters by their bytes: what the bytes of a letter are, what bytes begin with, how bytes fall into letters. Plain mathematics, no program. -/
import Derived.Test.YtilcncnhkidndaaDoorFlLetter
namespace Go.Proofs.YtilcncnhkidndaaDoor
open Go.RowKit
set_option linter.unusedVariables false

abbrev Bs := List UInt8
def bo (x : Bs) : ByteArray := ⟨x.toArray⟩
def bs (s : ByteArray) : Bs := s.data.toList
theorem bs_bo (x : Bs) : bs (bo x) = x := by simp [bs, bo]
theorem bo_bs (s : ByteArray) : bo (bs s) = s := by cases s; simp [bs, bo]
theorem bs_inj {s t : ByteArray} (h : bs s = bs t) : s = t := by rw [← bo_bs s, h, bo_bs]
theorem bs_length (s : ByteArray) : (bs s).length = s.size := rfl
theorem bo_size (x : Bs) : (bo x).size = x.length := by rw [← bs_length, bs_bo]
theorem bs_append (a b : ByteArray) : bs (a ++ b) = bs a ++ bs b := by simp [bs]
theorem bo_append (a b : Bs) : bo (a ++ b) = bo a ++ bo b := bs_inj (by rw [bs_append, bs_bo, bs_bo, bs_bo])
theorem bs_extract (s : ByteArray) (i j : Nat) : bs (s.extract i j) = ((bs s).take j).drop i := by
 simp only [bs, ByteArray.data_extract, Array.toList_extract]
 rw [List.extract_eq_take_drop, List.drop_take]
theorem bs_empty : bs ByteArray.empty = [] := rfl

/-- a byte that may be a sign; a digit; a byte that may be said -/
def digB (c : UInt8) : Bool := decide (48 ≤ c.toNat) && decide (c.toNat ≤ 57)
def sgB (c : UInt8) : Bool := (decide (65 ≤ c.toNat) && decide (c.toNat ≤ 90)) || digB c
def bdB (c : UInt8) : Bool := decide (32 ≤ c.toNat) && decide (c.toNat ≤ 126)
def dg (c : UInt8) : Nat := c.toNat - 48
/-- the digit of a number below ten -/
def dd (n : Nat) : UInt8 := 48 + UInt8.ofNat n
theorem dd_toNat {n : Nat} (h : n < 10) : (dd n).toNat = 48 + n := by
 unfold dd
 rw [UInt8.toNat_add, UInt8.toNat_ofNat']
 show (48 + n % 256) % 256 = 48 + n
 omega
theorem dd_dig {n : Nat} (h : n < 10) : digB (dd n) = true := by unfold digB; rw [dd_toNat h]; simp; omega
theorem dg_dd {n : Nat} (h : n < 10) : dg (dd n) = n := by unfold dg; rw [dd_toNat h]; omega
theorem dd_dg {c : UInt8} (h : digB c = true) : dd (dg c) = c := by
 unfold digB at h
 simp only [Bool.and_eq_true, decide_eq_true_eq] at h
 apply UInt8.toNat_inj.1
 rw [dd_toNat (by unfold dg; omega)]
 unfold dg
 omega

/-- a letter that is one -/
def okB (l : LE) : Bool := decide (l.s.size = 1) && (bs l.s).all sgB && decide (l.b.size ≤ 40) && (bs l.b).all bdB
/-- a letter's bytes -/
def enc (l : LE) : Bs := bs l.s ++ [dd (l.b.size / 10), dd (l.b.size % 10)] ++ bs l.b
theorem enc_length {l : LE} (h : okB l = true) : (enc l).length = 3 + l.b.size := by
 unfold okB at h
 simp only [Bool.and_eq_true, decide_eq_true_eq] at h
 unfold enc
 simp only [List.length_append, List.length_cons, List.length_nil, bs_length]
 omega
/-- what is written of a letter, and of letters -/
def textL (l : LE) : Bs := if okB l then enc l else []
def catL (ls : List LE) : Bs := ls.flatMap enc
def textsL (ls : List LE) : Bs := if ls.all okB then catL ls else []
theorem catL_cons (l : LE) (ls : List LE) : catL (l :: ls) = enc l ++ catL ls := rfl
theorem catL_append (a b : List LE) : catL (a ++ b) = catL a ++ catL b := by simp [catL]
theorem catL_one (l : LE) : catL [l] = enc l := by simp [catL]

/-- byte k, or 0 -/
def bt (x : Bs) (k : Nat) : UInt8 := x.getD k 0
theorem bt_eq {x : Bs} {k : Nat} (h : k < x.length) : bt x k = x[k] := by unfold bt; simp [h]
theorem bt_app {x t : Bs} {k : Nat} (h : k < x.length) : bt (x ++ t) k = bt x k := by
 unfold bt; simp only [List.getD_eq_getElem?_getD]; rw [List.getElem?_append_left h]
theorem bt_take {x : Bs} {k n : Nat} (h : k < n) : bt (x.take n) k = bt x k := by
 unfold bt; simp only [List.getD_eq_getElem?_getD]; rw [List.getElem?_take_of_lt h]
/-- what the second and the third byte tell -/
def lenL (x : Bs) : Nat := 10 * dg (bt x 1) + dg (bt x 2)
/-- how many bytes the first letter takes -/
def needL (x : Bs) : Nat := if 3 ≤ x.length then 3 + lenL x else 3
/-- byte k may stand where it stands -/
def okAt (x : Bs) (k : Nat) : Bool :=
 if k = 0 then sgB (bt x 0) else if k = 1 then digB (bt x 1) && decide (10 * dg (bt x 1) ≤ 40)
 else if k = 2 then digB (bt x 2) && decide (lenL x ≤ 40) else bdB (bt x k)
def goodTo (x : Bs) (k : Nat) : Prop := ∀ j, j < k → okAt x j = true
instance (x : Bs) (k : Nat) : Decidable (goodTo x k) := by unfold goodTo; infer_instance
/-- how the taking of a letter ends: 0 fine, 1 wait, 2 bad -/
def codeL (x : Bs) : Nat := if goodTo x (min x.length (needL x)) then (if needL x ≤ x.length then 0 else 1) else 2
def tookL (x : Bs) : LE := if codeL x = 0 then ⟨bo (x.take 1), bo ((x.take (needL x)).drop 3)⟩ else ⟨ByteArray.empty, ByteArray.empty⟩
def cntL (x : Bs) : Nat := if codeL x = 0 then needL x else 0

theorem need_ge (x : Bs) : 3 ≤ needL x := by unfold needL; split <;> omega
theorem need_of {x : Bs} (h : 3 ≤ x.length) : needL x = 3 + lenL x := if_pos h
theorem need_short {x : Bs} (h : x.length < 3) : needL x = 3 := if_neg (by omega)
theorem goodTo.less {x : Bs} {k n : Nat} (h : goodTo x n) (hk : k ≤ n) : goodTo x k := fun j hj => h j (by omega)
theorem goodTo.succ {x : Bs} {k : Nat} (h : goodTo x k) (hk : okAt x k = true) : goodTo x (k + 1) := fun j hj => by
 rcases Nat.lt_or_ge j k with h1 | h1
 ·
  exact h j h1
 ·
  have : j = k := by omega
  subst this; exact hk
theorem goodTo.zero (x : Bs) : goodTo x 0 := fun j hj => by omega
theorem lenL_app {x t : Bs} (h : 3 ≤ x.length) : lenL (x ++ t) = lenL x := by unfold lenL; rw [bt_app (by omega), bt_app (by omega)]
theorem lenL_take {x : Bs} {n : Nat} (h : 3 ≤ n) : lenL (x.take n) = lenL x := by unfold lenL; rw [bt_take (by omega), bt_take (by omega)]
theorem need_app {x t : Bs} (h : 3 ≤ x.length) : needL (x ++ t) = needL x := by
 rw [need_of h, need_of (by simp; omega), lenL_app h]
theorem okAt_app {x t : Bs} {k : Nat} (h : k < x.length) : okAt (x ++ t) k = okAt x k := by
 unfold okAt
 by_cases h0 : k = 0
 ·
  rw [if_pos h0, if_pos h0, bt_app (by omega)]
 ·
  rw [if_neg h0, if_neg h0]
  by_cases h1 : k = 1
  ·
   rw [if_pos h1, if_pos h1, bt_app (by omega)]
  ·
   rw [if_neg h1, if_neg h1]
   by_cases h2 : k = 2
   ·
    rw [if_pos h2, if_pos h2, bt_app (by omega), lenL_app (by omega)]
   ·
    rw [if_neg h2, if_neg h2, bt_app h]
theorem okAt_take {x : Bs} {k n : Nat} (h : k < n) : okAt (x.take n) k = okAt x k := by
 unfold okAt
 by_cases h0 : k = 0
 ·
  rw [if_pos h0, if_pos h0, bt_take (by omega)]
 ·
  rw [if_neg h0, if_neg h0]
  by_cases h1 : k = 1
  ·
   rw [if_pos h1, if_pos h1, bt_take (by omega)]
  ·
   rw [if_neg h1, if_neg h1]
   by_cases h2 : k = 2
   ·
    rw [if_pos h2, if_pos h2, bt_take (by omega), lenL_take (by omega)]
   ·
    rw [if_neg h2, if_neg h2, bt_take h]

theorem code_cases (x : Bs) : (codeL x = 0 ∧ needL x ≤ x.length ∧ goodTo x (needL x)) ∨ (codeL x = 1 ∧ x.length < needL x ∧ goodTo x x.length) ∨ (codeL x = 2 ∧ ∃ j, j < x.length ∧ j < needL x ∧ okAt x j = false) := by
 unfold codeL
 by_cases h : goodTo x (min x.length (needL x))
 ·
  rw [if_pos h]
  by_cases h1 : needL x ≤ x.length
  ·
   exact .inl ⟨if_pos h1, h1, h.less (by omega)⟩
  ·
   exact .inr (.inl ⟨if_neg h1, by omega, h.less (by omega)⟩)
 ·
  rw [if_neg h]
  refine .inr (.inr ⟨rfl, ?_⟩)
  unfold goodTo at h
  obtain ⟨j, hj⟩ := Classical.not_forall.1 h
  obtain ⟨h1, h2⟩ := Classical.not_imp.1 hj
  exact ⟨j, by omega, by omega, by simpa using h2⟩
theorem code_le (x : Bs) : codeL x ≤ 2 := by rcases code_cases x with h | h | h <;> omega
theorem code_bad {x : Bs} {j : Nat} (h1 : j < x.length) (h2 : j < needL x) (h3 : okAt x j = false) : codeL x = 2 := by
 unfold codeL
 rw [if_neg]
 intro h
 have := h j (by omega)
 rw [h3] at this; cases this
theorem code_wait {x : Bs} (h1 : x.length < needL x) (h2 : goodTo x x.length) : codeL x = 1 := by
 unfold codeL
 rw [if_pos (h2.less (by omega)), if_neg (by omega)]
theorem code_fine {x : Bs} (h1 : needL x ≤ x.length) (h2 : goodTo x (needL x)) : codeL x = 0 := by
 unfold codeL
 rw [if_pos (h2.less (by omega)), if_pos h1]
theorem need_low {x t : Bs} {j : Nat} (h : j < needL x) (hx : j < x.length) : j < needL (x ++ t) := by
 by_cases h3 : 3 ≤ x.length
 ·
  rw [need_app h3]; exact h
 ·
  have := need_ge (x ++ t); omega

/-- what is bad stays bad -/
theorem bad_more {x : Bs} (h : codeL x = 2) (t : Bs) : codeL (x ++ t) = 2 := by
 rcases code_cases x with ⟨h1, _⟩ | ⟨h1, _⟩ | ⟨_, j, h1, h2, h3⟩
 ·
  omega
 ·
  omega
 ·
  exact code_bad (j := j) (by simp; omega) (need_low h2 h1) (by rw [okAt_app h1]; exact h3)
/-- a letter that can be taken can be taken with more behind it -/
theorem fine_more {x : Bs} (h : codeL x = 0) (t : Bs) : codeL (x ++ t) = 0 ∧ needL (x ++ t) = needL x ∧ tookL (x ++ t) = tookL x := by
 rcases code_cases x with ⟨_, h1, h2⟩ | ⟨h1, _⟩ | ⟨h1, _⟩
 ·
  have h3 : 3 ≤ x.length := by have := need_ge x; omega
  have hn := need_app (t := t) h3
  have hc : codeL (x ++ t) = 0 := code_fine (by rw [hn]; simp; omega) (by rw [hn]; exact fun j hj => by rw [okAt_app (by omega)]; exact h2 j hj)
  refine ⟨hc, hn, ?_⟩
  unfold tookL
  rw [if_pos hc, if_pos h, hn, List.take_append_of_le_length (by omega), List.take_append_of_le_length h1]
 ·
  omega
 ·
  omega
/-- each beginning of a letter waits -/
theorem take_wait {x : Bs} (h : codeL x = 0) {k : Nat} (hk : k < needL x) : codeL (x.take k) = 1 := by
 rcases code_cases x with ⟨_, h1, h2⟩ | ⟨h1, _⟩ | ⟨h1, _⟩
 ·
  have hl : (x.take k).length = k := by rw [List.length_take]; omega
  apply code_wait
  ·
   rw [hl]
   by_cases h3 : 3 ≤ k
   ·
    rw [need_of (by omega), lenL_take h3, ← need_of (x := x) (by omega)]; exact hk
   ·
    rw [need_short (by omega)]; omega
  ·
   rw [hl]; exact fun j hj => by rw [okAt_take hj]; exact h2 j (by omega)
 ·
  omega
 ·
  omega

theorem len_le {x : Bs} (h : codeL x = 0) : lenL x ≤ 40 ∧ needL x = 3 + lenL x ∧ needL x ≤ x.length := by
 rcases code_cases x with ⟨_, h1, h2⟩ | ⟨h1, _⟩ | ⟨h1, _⟩
 ·
  have h3 := need_ge x
  have h4 := h2 2 (by omega)
  unfold okAt at h4
  refine ⟨?_, need_of (by omega), h1⟩
  simp at h4
  exact h4.2
 ·
  omega
 ·
  omega
theorem took_size {x : Bs} (h : codeL x = 0) : (tookL x).s.size = 1 ∧ (tookL x).b.size = lenL x := by
 obtain ⟨h1, h2, h3⟩ := len_le h
 unfold tookL
 rw [if_pos h]
 simp only [bo_size, List.length_take, List.length_drop]
 omega
/-- what is taken is a letter, and has just these bytes -/
theorem took_enc {x : Bs} (h : codeL x = 0) : okB (tookL x) = true ∧ enc (tookL x) = x.take (needL x) := by
 obtain ⟨h1, h2, h3⟩ := len_le h
 obtain ⟨g1, g2⟩ := took_size h
 have hg : goodTo x (needL x) := by rcases code_cases x with ⟨_, _, h5⟩ | ⟨h5, _⟩ | ⟨h5, _⟩ <;> first | exact h5 | omega
 have a0 := hg 0 (by omega)
 have a1 := hg 1 (by omega)
 have a2 := hg 2 (by omega)
 simp only [okAt, if_true] at a0
 simp only [okAt, if_true, if_false, Nat.one_ne_zero, Bool.and_eq_true, decide_eq_true_eq] at a1
 have a2' : digB (bt x 2) = true ∧ lenL x ≤ 40 := by
  have := a2
  unfold okAt at this
  simpa using this
 match x, h3, h2 with
 | c0 :: c1 :: c2 :: r, h3, h2 =>
  have e1 : (tookL (c0 :: c1 :: c2 :: r)).s = bo [c0] := by unfold tookL; rw [if_pos h]; rfl
  have e2 : (tookL (c0 :: c1 :: c2 :: r)).b = bo (r.take (lenL (c0 :: c1 :: c2 :: r))) := by
   unfold tookL; rw [if_pos h, h2, Nat.add_comm]; rfl
  have d1 : lenL (c0 :: c1 :: c2 :: r) = 10 * dg c1 + dg c2 := rfl
  have q2 : dg c2 < 10 := by
   have := a2'.1
   change digB c2 = true at this
   unfold digB at this; unfold dg
   simp only [Bool.and_eq_true, decide_eq_true_eq] at this
   omega
  constructor
  ·
   unfold okB
   rw [g1, g2, e1, e2, bs_bo, bs_bo]
   simp only [decide_true, Bool.true_and, Bool.and_eq_true, decide_eq_true_eq, List.all_cons, List.all_nil, and_true]
   refine ⟨⟨a0, h1⟩, ?_⟩
   rw [List.all_eq_true]
   intro u hu
   obtain ⟨i, hi, rfl⟩ := List.mem_iff_getElem.1 hu
   rw [List.length_take] at hi
   have := hg (i + 3) (by omega)
   unfold okAt at this
   rw [if_neg (by omega), if_neg (by omega), if_neg (by omega), bt_eq (by simp; omega)] at this
   simpa using this
  ·
   unfold enc
   rw [g2, e1, e2, bs_bo, bs_bo, h2, d1, show (10 * dg c1 + dg c2) / 10 = dg c1 from by omega, show (10 * dg c1 + dg c2) % 10 = dg c2 from by omega, dd_dg (show digB c1 = true from a1.1), dd_dg (show digB c2 = true from a2'.1), Nat.add_comm 3]
   simp
theorem took_split {x : Bs} (h : codeL x = 0) : x = enc (tookL x) ++ x.drop (needL x) := by rw [(took_enc h).2, List.take_append_drop]

/-- of a letter's bytes the letter is taken, whatever comes behind -/
theorem enc_code {l : LE} (h : okB l = true) (t : Bs) : codeL (enc l ++ t) = 0 ∧ needL (enc l ++ t) = 3 + l.b.size ∧ tookL (enc l ++ t) = l := by
 obtain ⟨s, b⟩ := l
 have ho := h
 unfold okB at h
 simp only [Bool.and_eq_true, decide_eq_true_eq] at h
 obtain ⟨⟨⟨h1, h2⟩, h3⟩, h4⟩ := h
 obtain ⟨c, hc⟩ : ∃ c, bs s = [c] := by
  have : (bs s).length = 1 := h1
  match bs s, this with
  | [c], _ => exact ⟨c, rfl⟩
 rw [hc] at h2
 have hsg : sgB c = true := by simpa using h2
 have q1 : b.size / 10 < 10 := by omega
 have q2 : b.size % 10 < 10 := by omega
 have hx : enc ⟨s, b⟩ ++ t = c :: dd (b.size / 10) :: dd (b.size % 10) :: (bs b ++ t) := by unfold enc; rw [hc]; simp
 have hb : (bs b).length = b.size := rfl
 rw [hx]
 have hlen : lenL (c :: dd (b.size / 10) :: dd (b.size % 10) :: (bs b ++ t)) = b.size := by
  show 10 * dg (dd (b.size / 10)) + dg (dd (b.size % 10)) = b.size
  rw [dg_dd q1, dg_dd q2]; omega
 have hn : needL (c :: dd (b.size / 10) :: dd (b.size % 10) :: (bs b ++ t)) = 3 + b.size := by rw [need_of (by simp), hlen]
 have hcode : codeL (c :: dd (b.size / 10) :: dd (b.size % 10) :: (bs b ++ t)) = 0 := by
  apply code_fine
  ·
   rw [hn]; simp [hb]; omega
  ·
   rw [hn]
   intro j hj
   unfold okAt
   by_cases j0 : j = 0
   ·
    rw [if_pos j0]; exact hsg
   ·
    rw [if_neg j0]
    by_cases j1 : j = 1
    ·
     rw [if_pos j1]
     show (digB (dd (b.size / 10)) && decide (10 * dg (dd (b.size / 10)) ≤ 40)) = true
     rw [dd_dig q1, dg_dd q1]; simp; omega
    ·
     rw [if_neg j1]
     by_cases j2 : j = 2
     ·
      rw [if_pos j2, hlen]
      show (digB (dd (b.size % 10)) && decide (b.size ≤ 40)) = true
      rw [dd_dig q2]; simp; omega
     ·
      rw [if_neg j2]
      obtain ⟨i, rfl⟩ : ∃ i, j = i + 3 := ⟨j - 3, by omega⟩
      have hi : i < (bs b).length := by omega
      have : bt (c :: dd (b.size / 10) :: dd (b.size % 10) :: (bs b ++ t)) (i + 3) = (bs b)[i] := by
       rw [bt_eq (by simp; omega)]
       simp [List.getElem_append_left hi]
      rw [this]
      exact List.all_eq_true.1 h4 _ (List.getElem_mem hi)
 refine ⟨hcode, hn, ?_⟩
 unfold tookL
 rw [if_pos hcode, hn, Nat.add_comm 3]
 show (⟨bo [c], bo ((bs b ++ t).take b.size)⟩ : LE) = ⟨s, b⟩
 rw [← hc, bo_bs, ← hb, List.take_left, bo_bs]

/-- bytes fall into letters: these, what is left, and how that ended -/
def AllR (x : Bs) (ls : List LE) (r : Bs) (c : Nat) : Prop := x = catL ls ++ r ∧ (∀ l ∈ ls, okB l = true) ∧ c = (if r = [] then 0 else codeL r) ∧ (r ≠ [] → codeL r ≠ 0)
theorem AllR.nil : AllR [] [] [] 0 := ⟨rfl, fun _ h => by simp at h, rfl, fun h => absurd rfl h⟩
theorem AllR.unique : {ls ls' : List LE} → {x r r' : Bs} → {c c' : Nat} → AllR x ls r c → AllR x ls' r' c' → ls = ls' ∧ r = r' ∧ c = c'
 | [], [], x, r, r', c, c', h, h' => by
  obtain ⟨h1, _, h2, _⟩ := h
  obtain ⟨h1', _, h2', _⟩ := h'
  have : r = r' := by rw [h1] at h1'; simpa [catL] using h1'
  subst this
  exact ⟨rfl, rfl, h2.trans h2'.symm⟩
 | l :: ls, [], x, r, r', c, c', h, h' => by
  exfalso
  obtain ⟨h1, ho, _, _⟩ := h
  obtain ⟨h1', _, _, h2'⟩ := h'
  have e : r' = enc l ++ (catL ls ++ r) := by rw [h1'] at h1; simpa [catL] using h1
  have hc := (enc_code (ho l (by simp)) (catL ls ++ r)).1
  rw [← e] at hc
  refine h2' (fun e0 => ?_) hc
  have := enc_length (ho l (by simp))
  rw [e0] at e
  have e1 := congrArg List.length e
  rw [List.length_append] at e1
  simp only [List.length_nil] at e1
  omega
 | [], l :: ls, x, r, r', c, c', h, h' => by
  exfalso
  obtain ⟨h1, ho, _, _⟩ := h'
  obtain ⟨h1', _, _, h2'⟩ := h
  have e : r = enc l ++ (catL ls ++ r') := by rw [h1'] at h1; simpa [catL] using h1
  have hc := (enc_code (ho l (by simp)) (catL ls ++ r')).1
  rw [← e] at hc
  refine h2' (fun e0 => ?_) hc
  have := enc_length (ho l (by simp))
  rw [e0] at e
  have e1 := congrArg List.length e
  rw [List.length_append] at e1
  simp only [List.length_nil] at e1
  omega
 | l :: ls, l' :: ls', x, r, r', c, c', h, h' => by
  obtain ⟨h1, ho, h2, h3⟩ := h
  obtain ⟨h1', ho', h2', h3'⟩ := h'
  have a : x = enc l ++ (catL ls ++ r) := by rw [h1, catL_cons, List.append_assoc]
  have b : x = enc l' ++ (catL ls' ++ r') := by rw [h1', catL_cons, List.append_assoc]
  have e1 := (enc_code (ho l (by simp)) (catL ls ++ r)).2.2
  have e2 := (enc_code (ho' l' (by simp)) (catL ls' ++ r')).2.2
  rw [← a] at e1
  rw [← b] at e2
  have el : l = l' := e1.symm.trans e2
  subst el
  have et : catL ls ++ r = catL ls' ++ r' := List.append_cancel_left (a.symm.trans b)
  obtain ⟨k1, k2, k3⟩ := AllR.unique (x := catL ls ++ r) ⟨rfl, fun m hm => ho m (by simp [hm]), h2, h3⟩ ⟨et, fun m hm => ho' m (by simp [hm]), h2', h3'⟩
  exact ⟨by rw [k1], k2, k3⟩
theorem AllR.more {x r t : Bs} {a b : List LE} {c d : Nat} {e : Bs} (h : AllR x a r c) (k : AllR (r ++ t) b e d) : AllR (x ++ t) (a ++ b) e d :=
 ⟨by rw [h.1, catL_append, List.append_assoc, List.append_assoc, k.1], fun l hl => (List.mem_append.1 hl).elim (h.2.1 l) (k.2.1 l), k.2.2⟩
theorem AllR.badmore {x r : Bs} {a : List LE} (h : AllR x a r 2) (t : Bs) : AllR (x ++ t) a (r ++ t) 2 := by
 obtain ⟨h1, h2, h3, h4⟩ := h
 have hr : r ≠ [] := fun e => by rw [if_pos e] at h3; cases h3
 rw [if_neg hr] at h3
 have hb := bad_more h3.symm t
 exact ⟨by rw [h1, List.append_assoc], h2, by rw [if_neg (by simp [hr]), hb], fun _ => by omega⟩
theorem AllR.cat {ls : List LE} (h : ∀ l ∈ ls, okB l = true) : AllR (catL ls) ls [] 0 := ⟨by simp, h, rfl, fun h => absurd rfl h⟩
theorem AllR.rest {x r : Bs} {a : List LE} {c : Nat} (h : AllR x a r c) : (c = 0 ↔ r = []) := by
 obtain ⟨_, _, h3, h4⟩ := h
 constructor
 ·
  intro e
  by_cases hr : r = []
  ·
   exact hr
  ·
   rw [if_neg hr] at h3
   exact absurd (h3.symm.trans e) (h4 hr)
 ·
  intro e; rw [if_pos e] at h3; exact h3
theorem catL_length {ls : List LE} (h : ∀ l ∈ ls, okB l = true) : 3 * ls.length ≤ (catL ls).length := by
 induction ls with
 | nil => simp
 | cons l ls ih =>
  have h1 := enc_length (h l (by simp))
  have h2 := ih fun m hm => h m (by simp [hm])
  rw [catL_cons, List.length_append, List.length_cons]
  omega
theorem textsL_ok {ls : List LE} (h : ∀ l ∈ ls, okB l = true) : textsL ls = catL ls := if_pos (List.all_eq_true.2 h)

end Go.Proofs.YtilcncnhkidndaaDoor
