/- Where a key is in rows: the model's search and the program's. -/
import Derived.Test.YtbhdgalkedegjaaStr
import Derived.Test.YtbhdgalkedegjaaRok
import Derived.Test.YtbhdgalkedegjaaIok
import Derived.Deep.QuietTactic
import Derived.BigQuiet
namespace Go.Proofs.Ytbhdgalkedegjaa
open Go.RowKit
set_option linter.unusedVariables false

/-- k is the first place whose key is not below the key -/
structure Pos (l : List R) (key : ByteArray) (k : Nat) : Prop where
  le : k ≤ l.length
  low : ∀ i (h : i < l.length), i < k → lt l[i].1 key = true
  at_ : ∀ h : k < l.length, lt l[k].1 key = false

def posN (l : List R) (key : ByteArray) : Nat := (l.takeWhile fun r => lt r.1 key).length
theorem posN_pos : (l : List R) → (key : ByteArray) → Pos l key (posN l key)
  | [], key => ⟨by simp [posN], fun i h => by simp at h, fun h => by simp at h⟩
  | r :: l, key => by
    have ih := posN_pos l key
    cases hr : lt r.1 key
    · have e : posN (r :: l) key = 0 := by simp [posN, hr]
      rw [e]
      exact ⟨Nat.zero_le _, fun i h h0 => absurd h0 (by omega), fun h => by simpa using hr⟩
    · have e : posN (r :: l) key = posN l key + 1 := by simp [posN, hr]
      rw [e]
      refine ⟨by have := ih.le; simp; omega, fun i h h0 => ?_, fun h => ?_⟩
      · cases i with
        | zero => simpa using hr
        | succ i => simpa using ih.low i (by simpa using h) (by omega)
      · simpa using ih.at_ (by simpa using h)
theorem Pos.unique {l : List R} {key : ByteArray} {k k' : Nat} (h : Pos l key k) (h' : Pos l key k') : k = k' := by
  rcases Nat.lt_trichotomy k k' with c | c | c
  · have a := h.at_ (by have := h'.le; omega)
    rw [h'.low k _ c] at a; cases a
  · exact c
  · have a := h'.at_ (by have := h.le; omega)
    rw [h.low k' _ c] at a; cases a
theorem Pos.eq {l : List R} {key : ByteArray} {k : Nat} (h : Pos l key k) : k = posN l key := h.unique (posN_pos l key)

/-- the key is there -/
def hasB (l : List R) (key : ByteArray) : Bool := l[posN l key]?.any fun r => r.1.toList == key.toList
theorem hasB_end {l : List R} {key : ByteArray} {k : Nat} (h : Pos l key k) (hk : l.length ≤ k) : hasB l key = false := by
  unfold hasB; rw [← h.eq, List.getElem?_eq_none hk]; rfl
theorem hasB_at {l : List R} {key : ByteArray} {k : Nat} (h : Pos l key k) (hk : k < l.length) : hasB l key = (l[k].1.toList == key.toList) := by
  unfold hasB; rw [← h.eq, List.getElem?_eq_getElem hk]; rfl
theorem hasB_lt {l : List R} {key : ByteArray} (h : hasB l key = true) : posN l key < l.length := by
  rcases Nat.lt_or_ge (posN l key) l.length with c | c
  · exact c
  · rw [hasB_end (posN_pos l key) c] at h; cases h

theorem ret_pos {a b : Nat} {p q : Bool} (h : a = b) (k : p = q) : Ending.returned (.tuple #[.int .i64 (a : Int), .bool p]) = .returned (.tuple #[.int .i64 (b : Int), .bool q]) := by rw [h, k]

set_option maxRecDepth 100000 in
set_option maxHeartbeats 1000000 in
theorem specFind (A : Option Addr) (c : Nat) (l : List R) (key : ByteArray) (w : World) (hc : l.length ≤ 2097152) (hr : Rd w w.heap.size A l) :
    Calls Try.prog 124 #[.slice A l.length c, .string key] w fun e w' => e = .returned (.tuple #[.int .i64 (posN l key : Nat), .bool (hasB l key)]) ∧ ∃ n, w' = w.drewN n := by
  go_enter Try.func124, Try.ntmps124
  go_wp2
  go_loop [6] (fun i => ∃ k : Nat, k ≤ l.length ∧ i = .int .i64 k ∧ (∀ i (h : i < l.length), i < k → lt l[i].1 key = true)) (fun i => l.length - (intOf i).toNat)
  case atStart => exact ⟨0, Nat.zero_le _, rfl, fun i h h0 => absurd h0 (by omega)⟩
  case round =>
    obtain ⟨k, hk, rfl, hall⟩ := hrel
    have HALL := Lib.hid hall
    clear hall
    by_cases hkl : k < l.length
    · obtain ⟨b, o, rfl, hbB, hc1, hc2⟩ := hr.at_ hkl
      cases hlt : Op.bytesLess l[k].1.toList key.toList
      · have hp : Pos l key k := ⟨hk, HALL.out, fun h => hlt⟩
        have HP := Lib.hid hp
        have HB := Lib.hid (hasB_at hp hkl)
        clear hp
        go_wp2
        go_quiet (fail)
        go_wp2
        go_ret2
        exact ⟨ret_pos HP.out.eq HB.out.symm, _, rfl⟩
      · have HL := Lib.hid (show lt l[k].1 key = true from hlt)
        go_wp2
        go_round
        case rel => exact ⟨k + 1, by omega, by go_num, fun i h h0 => by
          by_cases e : i = k
          · subst e; exact HL.out
          · exact HALL.out i h (by omega)⟩
        case measure => simp [intOf]; omega
    · have hp : Pos l key k := ⟨hk, HALL.out, fun h => absurd h hkl⟩
      have HP := Lib.hid hp
      have HB := Lib.hid (hasB_end hp (by omega))
      clear hp
      have hd : decide ((k : Int) < (l.length : Int)) = false := by simp; omega
      have hd2 : decide (k < l.length) = false := by simp; omega
      go_wp2
      go_quiet (fail)
      go_wp2
      go_ret2
      exact ⟨ret_pos HP.out.eq HB.out.symm, _, rfl⟩

theorem asc_lt {l : List R} (ha : AscP l) : ∀ j (hj : j < l.length) i (h : i < j), lt (l[i]'(by omega)).1 l[j].1 = true := by
  intro j
  induction j with
  | zero => intro hj i h; omega
  | succ j ih =>
    intro hj i h
    by_cases e : i = j
    · subst e; exact ha i hj
    · exact lt_trans (ih (by omega) i (by omega)) (ha j hj)

set_option maxRecDepth 100000 in
set_option maxHeartbeats 1000000 in
theorem implFind (A : Option Addr) (c : Nat) (l : List R) (key : ByteArray) (w : World) (hc : l.length ≤ 2097152) (hr : Rd w w.heap.size A l) (ha : AscP l) :
    Calls Try.prog 99 #[.slice A l.length c, .string key] w fun e w' => e = .returned (.tuple #[.int .i64 (posN l key : Nat), .bool (hasB l key)]) ∧ Below w.heap.size w w' := by
  have hm := method_key
  go_enter Try.func99, Try.ntmps99
  go_wp2
  go_loopw [6, 7] (fun i j W => ∃ p q : Nat, p ≤ q ∧ q ≤ l.length ∧ i = .int .i64 p ∧ j = .int .i64 q ∧ Below w.heap.size w W ∧ (∀ i (h : i < l.length), i < p → lt l[i].1 key = true) ∧ (∀ h : q < l.length, lt l[q].1 key = false)) (fun i j _ => (intOf j).toNat - (intOf i).toNat)
  case atStart => exact ⟨0, l.length, Nat.zero_le _, Nat.le_refl _, rfl, rfl, Below.refl _ _, fun i h h0 => absurd h0 (by omega), fun h => absurd h (by omega)⟩
  case round =>
    obtain ⟨p, q, hpq, hq, rfl, rfl, hb, hlow, hhigh⟩ := hrel
    have HLOW := Lib.hid hlow
    have HHIGH := Lib.hid hhigh
    clear hlow hhigh
    by_cases hlt : p < q
    · obtain ⟨m, hmp, hmq, hme⟩ : ∃ m : Nat, p ≤ m ∧ m < q ∧ (p : Int) + ((q : Int) - (p : Int)) / 2 = (m : Int) := ⟨p + (q - p) / 2, by omega, by omega, by omega⟩
      have hml : m < l.length := by omega
      obtain ⟨b, o, rfl, hbB, hc1, hc2⟩ := (hr.below hb).at_ hml
      cases hl : Op.bytesLess l[m].1.toList key.toList
      · have HL := Lib.hid (show lt l[m].1 key = false from hl)
        go_wp2_with ((go_at_call 142; refine (sortKey_c _ _ _).mono ?_; rintro e w' ⟨rfl, hb2⟩))
        go_roundw
        case rel => exact ⟨p, m, hmp, by omega, rfl, rfl, hb.trans (hb2.mono hb.size), HLOW.out, fun _ => HL.out⟩
        case measure => simp [intOf]; omega
      · have HL := Lib.hid (show lt l[m].1 key = true from hl)
        go_wp2_with ((go_at_call 142; refine (sortKey_c _ _ _).mono ?_; rintro e w' ⟨rfl, hb2⟩))
        go_roundw
        case rel => exact ⟨m + 1, q, by omega, hq, by go_num, rfl, hb.trans (hb2.mono hb.size), fun i h h0 => by
          by_cases e : i = m
          · subst e; exact HL.out
          · exact lt_trans (asc_lt ha m hml i (by omega)) HL.out, HHIGH.out⟩
        case measure => simp [intOf]; omega
    · obtain rfl : p = q := by omega
      have hp : Pos l key p := ⟨hq, HLOW.out, HHIGH.out⟩
      have HP := Lib.hid hp
      by_cases hpl : p < l.length
      · obtain ⟨b, o, rfl, hbB, hc1, hc2⟩ := (hr.below hb).at_ hpl
        have HB := Lib.hid (hasB_at hp hpl)
        clear hp
        go_wp2_with ((go_at_call 142; refine (sortKey_c _ _ _).mono ?_; rintro e w' ⟨rfl, hb2⟩))
        go_ret2
        exact ⟨ret_pos HP.out.eq HB.out.symm, hb.trans (hb2.mono hb.size)⟩
      · have HB := Lib.hid (hasB_end hp (by omega))
        clear hp
        go_wp2
        go_ret2
        exact ⟨ret_pos HP.out.eq HB.out.symm, hb⟩

/-- the number under a key -/
noncomputable def getN (l : List R) (key : ByteArray) : Int := if rowsB l && hasB l key then (l[posN l key]?.map (·.2)).getD 0 else 0
noncomputable def getB (l : List R) (key : ByteArray) : Bool := rowsB l && hasB l key
theorem getN_no {l : List R} {key : ByteArray} (h : (rowsB l && hasB l key) = false) : getN l key = 0 := by unfold getN; rw [h]; rfl
theorem getN_yes {l : List R} {key : ByteArray} (h : (rowsB l && hasB l key) = true) (hk : posN l key < l.length) : getN l key = l[posN l key].2 := by
  unfold getN; rw [h, List.getElem?_eq_getElem hk]; rfl
theorem ret_get {a b : Int} {p q : Bool} (h : a = b) (k : p = q) : Ending.returned (.tuple #[.int .i64 a, .bool p]) = .returned (.tuple #[.int .i64 b, .bool q]) := by rw [h, k]

set_option maxRecDepth 100000 in
set_option maxHeartbeats 1000000 in
theorem implGet (A : Option Addr) (c : Nat) (l : List R) (key : ByteArray) (w : World) (hfit : FitR l) (hc : l.length ≤ 2097152) (hr : Rd w w.heap.size A l) :
    Calls Try.prog 51 #[.slice A l.length c, .string key] w fun e w' => e = .returned (.tuple #[.int .i64 (getN l key), .bool (getB l key)]) ∧ Below w.heap.size w w' := by
  cases hok : rowsB l
  · have HN := Lib.hid (getN_no (l := l) (key := key) (by rw [hok]; rfl))
    have HB := Lib.hid (show getB l key = false from by unfold getB; rw [hok]; rfl)
    go_enter Try.func51, Try.ntmps51
    go_wp2_with fail
    refine (implRowsOk A c l w hfit hc hr).mono ?_
    rintro e w1 ⟨rfl, hb1⟩
    rw [hok]
    go_wp2
    go_ret2
    exact ⟨ret_get HN.out.symm HB.out.symm, hb1⟩
  · have ha := (rowsB_iff.1 hok).asc
    cases hh : hasB l key
    · have HN := Lib.hid (getN_no (l := l) (key := key) (by rw [hok, hh]; rfl))
      have HB := Lib.hid (show getB l key = false from by unfold getB; rw [hok, hh]; rfl)
      go_enter Try.func51, Try.ntmps51
      go_wp2_with fail
      refine (implRowsOk A c l w hfit hc hr).mono ?_
      rintro e w1 ⟨rfl, hb1⟩
      rw [hok]
      have hr1 := (hr.below hb1).more hb1.size
      go_wp2_with fail
      refine (implFind A c l key w1 hc hr1 ha).mono ?_
      rintro e w2 ⟨rfl, hb2⟩
      go_wp2
      go_ret2
      exact ⟨ret_get HN.out.symm HB.out.symm, below_next hb1 hb2⟩
    · have hk := hasB_lt hh
      have HN := Lib.hid (getN_yes (l := l) (key := key) (by rw [hok, hh]; rfl) hk)
      have HB := Lib.hid (show getB l key = true from by unfold getB; rw [hok, hh]; rfl)
      generalize hp : posN l key = p at *
      have HP := Lib.hid hp
      clear hp
      go_enter Try.func51, Try.ntmps51
      go_wp2_with fail
      refine (implRowsOk A c l w hfit hc hr).mono ?_
      rintro e w1 ⟨rfl, hb1⟩
      rw [hok]
      have hr1 := (hr.below hb1).more hb1.size
      go_wp2_with fail
      refine (implFind A c l key w1 hc hr1 ha).mono ?_
      rintro e w2 ⟨rfl, hb2⟩
      rw [HP.out]
      obtain ⟨b, o, rfl, hbB, hc1, hc2⟩ := (hr1.below hb2).at_ hk
      go_wp2
      go_ret2
      exact ⟨ret_get HN.out.symm HB.out.symm, below_next hb1 hb2⟩

end Go.Proofs.Ytbhdgalkedegjaa
