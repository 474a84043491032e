/- The law's comparison of rows.
The law's own helpers over rows: sizes, copies, comparisons.
The law's copies of rows: each in new memory, known whole.
Small laws that the exact laws over rows share.
Rows that are drawn.
RowsCut: the model's and the program's.
Tables of rows as plain lists: put, cut and look-up. No program.
Valid tables under put and cut. No program.
The sum of all numbers: the model's and the program's.
The laws' comparison of rows, and the contracts by the value of rows of the call's own. -/
import Derived.Test.YtbeklnhngjmpiaaGreatA1
import Derived.Deep.RegionHeld3
import Derived.Test.YtbeklnhngjmpiaaGreatA3
import Derived.Test.YtbeklnhngjmpiaaGreatA2
import Derived.Laws.StructEq
namespace Go.Proofs.YtbeklnhngjmpiaaGreat
open Go.RowKit
set_option linter.unusedVariables false

def eqR (a b : R) : Bool := decide (a = b)
theorem eqR_yes {a b : R} (h : a = b) : eqR a b = true := decide_eq_true h
theorem eqR_no {a b : R} (h : a ≠ b) : eqR a b = false := decide_eq_false h

def eqL (a b : List R) : Bool := decide (a = b)
theorem eqL_yes {a b : List R} (h : a = b) : eqL a b = true := decide_eq_true h
theorem eqL_no {a b : List R} (h : a ≠ b) : eqL a b = false := decide_eq_false h

end Go.Proofs.YtbeklnhngjmpiaaGreat

namespace Go.Proofs.YtbeklnhngjmpiaaGreat
open Go.RowKit
set_option linter.unusedVariables false

end Go.Proofs.YtbeklnhngjmpiaaGreat

namespace Go.Proofs.YtbeklnhngjmpiaaGreat
open Go.RowKit
set_option linter.unusedVariables false

end Go.Proofs.YtbeklnhngjmpiaaGreat

namespace Go.Proofs.YtbeklnhngjmpiaaGreat
open Go.RowKit
set_option linter.unusedVariables false

theorem OwnR.kept {w w' : World} {base : Nat} {v : Value} {l : List R} {row : Option Nat} (h : OwnR w base v l) (hg : w.grownBy w' row) (hne : ∀ g, v.ownBlock = some g → some g ≠ row) : OwnR w' base v l :=
 h.keep fun g hgv => hg.block g (h.block_lt hgv).2 (hne g hgv)
end Go.Proofs.YtbeklnhngjmpiaaGreat

namespace Go.Proofs.YtbeklnhngjmpiaaGreat
open Go.RowKit
set_option linter.unusedVariables false

/-- rows of the call's own stand while the reader goes on -/
theorem OwnR.drawn {w w' : World} {base g : Nat} {v : Value} {l : List R} (h : OwnR w base v l) (hg : g < base) (hd : w.grownBy w' (some g)) : OwnR w' base v l :=
 h.kept hd fun k hk e => by have := (h.block_lt hk).1; have e2 : k = g := Option.some.inj e; omega

end Go.Proofs.YtbeklnhngjmpiaaGreat

namespace Go.Proofs.YtbeklnhngjmpiaaGreat
open Go.RowKit
set_option linter.unusedVariables false

/-- a key taken away -/
def cutL (l : List R) (key : ByteArray) : List R := if hasB l key then l.take (posN l key) ++ l.drop (posN l key + 1) else l
noncomputable def cutV (l : List R) (key : ByteArray) : List R := if rowsB l then cutL l key else []
noncomputable def cutOk (l : List R) (key : ByteArray) : Bool := rowsB l && hasB l key
theorem cutL_length (l : List R) (key : ByteArray) : (cutL l key).length ≤ l.length := by
 unfold cutL
 split
 ·
  simp; omega
 ·
  exact Nat.le_refl _
theorem cutV_length (l : List R) (key : ByteArray) : (cutV l key).length ≤ l.length := by
 unfold cutV
 split
 ·
  exact cutL_length l key
 ·
  simp

set_option maxRecDepth 100000 in
set_option maxHeartbeats 1000000 in
theorem specCut1_has (A : Option Addr) (c : Nat) (l : List R) (key : ByteArray) (w : World) (hlc : l.length ≤ c) (hc : l.length ≤ 1048576) (hr : Rd w w.heap.size A l) (hh : hasB l key = true) :
  Calls Tryz.prog 107 #[.slice A l.length c, .string key] w (RetR w (cutL l key)) := by
 have hlt := hasB_lt hh
 have HE := Lib.hid (show cutL l key = l.take (posN l key) ++ l.drop (posN l key + 1) from by unfold cutL; rw [hh]; rfl)
 generalize hp : posN l key = p at *
 have HP := Lib.hid hp
 clear hp
 rw [HE.out]
 go_enter Tryz.func107, Tryz.ntmps107
 go_wp2_with fail
 refine (specFind A c l key w (by omega) hr).mono ?_
 rintro e w1 ⟨rfl, n1, rfl⟩
 rw [HP.out, hh]
 have hb1 : Below w.heap.size w (w.drewN n1) := below_drewN (Below.refl _ _) n1
 generalize w.drewN n1 = w2 at *
 have hr2 := (hr.below hb1).more hb1.size
 go_wp2_with fail
 have hi1 : (0 : Int) ≤ (p : Int) := by omega
 have hi2 : (p : Int) ≤ (l.length : Int) := by omega
 have hi3 : (p : Int) ≤ (c : Int) := by omega
 have hi4 : (l.length : Int) ≤ (c : Int) := by omega
 have hi5 : IntKind.i64.wrap ((p : Int) + 1) = (p : Int) + 1 := IntWalk.i64_in _ (by omega)
 have hT : Below w2.heap.size w2 w2.drew := (Below.refl _ _).drew
 have hcut := runCut 30 Tryz.underlying30 A l.length c (p + 1) hlt hlc
 rw [show ((p + 1 : Nat) : Int) = (p : Int) + 1 from by omega] at hcut
 go_region_held3 (fun W => Below w2.heap.size w2 W) (first | assumption)
  (first
   | (go_at_call 141; refine (specCopyN A p c (l.take p) (by simp; omega) _ (by simp; omega) (rdTk hr2 p (by assumption))).mono ?_; rintro e wc ⟨vc, rfl, hownc, hbc⟩; have hO := ownLow (a := w2) (by assumption) hownc; have hT := below_next (a := w2) (by assumption) hbc)
   | (refine step_appR wc rfl _ _ _ _ 87 rfl Tryz.underlying30 Tryz.underlying30 w2.heap.size vc (l.take p) rfl hO (cutA A c (p + 1)) (c - (p + 1)) _ (l.length - (p + 1)) (l.drop (p + 1)) List.length_drop rfl (rdDp hr2 (p + 1) c hlc hT) (by simp; omega) hT.size ?_; intro v3 w3 hown3 hgr3 hat3; have hT := belowApp hT hO hgr3))
 all_goals
  go_wp2
  go_ret
  exact ⟨v3, rfl, ownLow hb1 hown3, below_next hb1 hT⟩

set_option maxRecDepth 100000 in
set_option maxHeartbeats 1000000 in
theorem specCut1_no (A : Option Addr) (c : Nat) (l : List R) (key : ByteArray) (w : World) (hlc : l.length ≤ c) (hc : l.length ≤ 1048576) (hr : Rd w w.heap.size A l) (hh : hasB l key = false) :
  Calls Tryz.prog 107 #[.slice A l.length c, .string key] w (RetR w (cutL l key)) := by
 have HE := Lib.hid (show cutL l key = l from by unfold cutL; rw [hh]; rfl)
 rw [HE.out]
 go_enter Tryz.func107, Tryz.ntmps107
 go_wp2_with fail
 refine (specFind A c l key w (by omega) hr).mono ?_
 rintro e w1 ⟨rfl, n1, rfl⟩
 rw [hh]
 have hb1 : Below w.heap.size w (w.drewN n1) := below_drewN (Below.refl _ _) n1
 generalize w.drewN n1 = w2 at *
 have hr2 := (hr.below hb1).more hb1.size
 go_wp2_with fail
 refine (specCopy A c l w2 (by omega) hr2).mono ?_
 rintro e w3 ⟨v3, rfl, hown3, hb3⟩
 go_wp2
 go_ret
 exact ⟨v3, rfl, ownLow hb1 hown3, below_next hb1 hb3⟩

theorem specCut1 (A : Option Addr) (c : Nat) (l : List R) (key : ByteArray) (w : World) (hlc : l.length ≤ c) (hc : l.length ≤ 1048576) (hr : Rd w w.heap.size A l) :
  Calls Tryz.prog 107 #[.slice A l.length c, .string key] w (RetR w (cutL l key)) := by
 cases hh : hasB l key
 ·
  exact specCut1_no A c l key w hlc hc hr hh
 ·
  exact specCut1_has A c l key w hlc hc hr hh

set_option maxRecDepth 100000 in
set_option maxHeartbeats 1000000 in
theorem implCut1 (A : Option Addr) (c : Nat) (l : List R) (key : ByteArray) (w : World) (hlc : l.length ≤ c) (hc : l.length ≤ 1048576) (hr : Rd w w.heap.size A l) (ha : AscP l) :
  Calls Tryz.prog 93 #[.slice A l.length c, .string key] w (RetRB w (cutL l key) (hasB l key)) := by
 have hple := (posN_pos l key).le
 cases hh : hasB l key
 ·
  have HE := Lib.hid (show cutL l key = l from by unfold cutL; rw [hh]; rfl)
  rw [HE.out]
  generalize hp : posN l key = p at *
  have HP := Lib.hid hp
  clear hp
  go_enter Tryz.func93, Tryz.ntmps93
  go_wp2_with fail
  refine (implFind A c l key w (by omega) hr ha).mono ?_
  rintro e w2 ⟨rfl, hb2⟩
  rw [HP.out, hh]
  have hr2 := (hr.below hb2).more hb2.size
  go_wp2_with fail
  refine (splice_c A c l p p none 0 0 [] rfl w2 hlc (by omega) (by omega) (Nat.le_refl _) hple hr2 Rd.nil).mono ?_
  rintro e w4 ⟨v4, rfl, hown4, hb4⟩
  go_wp2
  go_ret2
  exact ⟨v4, rfl, by simpa using ownLow hb2 hown4, below_next hb2 hb4⟩
 ·
  have hlt := hasB_lt hh
  have HE := Lib.hid (show cutL l key = l.take (posN l key) ++ l.drop (posN l key + 1) from by unfold cutL; rw [hh]; rfl)
  generalize hp : posN l key = p at *
  have HP := Lib.hid hp
  clear hp
  rw [HE.out]
  go_enter Tryz.func93, Tryz.ntmps93
  go_wp2_with fail
  refine (implFind A c l key w (by omega) hr ha).mono ?_
  rintro e w2 ⟨rfl, hb2⟩
  rw [HP.out, hh]
  have hr2 := (hr.below hb2).more hb2.size
  go_wp2_with fail
  rw [show ((p : Int) + 1) = ((p + 1 : Nat) : Int) from by omega]
  refine (splice_c A c l p (p + 1) none 0 0 [] rfl w2 hlc (by omega) (by omega) (by omega) hlt hr2 Rd.nil).mono ?_
  rintro e w4 ⟨v4, rfl, hown4, hb4⟩
  go_wp2
  go_ret2
  exact ⟨v4, rfl, by simpa using ownLow hb2 hown4, below_next hb2 hb4⟩

set_option maxRecDepth 100000 in
set_option maxHeartbeats 1000000 in
theorem implCut (A : Option Addr) (c : Nat) (l : List R) (key : ByteArray) (w : World) (hfit : FitR l) (hlc : l.length ≤ c) (hc : l.length ≤ 1048576) (hr : Rd w w.heap.size A l) :
  Calls Tryz.prog 42 #[.slice A l.length c, .string key] w (RetRB w (cutV l key) (cutOk l key)) := by
 cases hok : rowsB l
 ·
  have HV := Lib.hid (show cutV l key = [] from by unfold cutV; rw [hok]; rfl)
  have HB := Lib.hid (show cutOk l key = false from by unfold cutOk; rw [hok]; rfl)
  rw [HV.out, HB.out]
  go_enter Tryz.func42, Tryz.ntmps42
  go_wp2_with fail
  refine (implRowsOk A c l w hfit (by omega) hr).mono ?_
  rintro e w1 ⟨rfl, hb1⟩
  rw [hok]
  go_wp2
  go_ret2
  exact ⟨_, rfl, OwnR.nil _ _, hb1⟩
 ·
  have ha := (rowsB_iff.1 hok).asc
  have HV := Lib.hid (show cutV l key = cutL l key from by unfold cutV; rw [hok]; rfl)
  have HB := Lib.hid (show cutOk l key = hasB l key from by unfold cutOk; rw [hok]; rfl)
  rw [HV.out, HB.out]
  go_enter Tryz.func42, Tryz.ntmps42
  go_wp2_with fail
  refine (implRowsOk A c l w hfit (by omega) hr).mono ?_
  rintro e w1 ⟨rfl, hb1⟩
  rw [hok]
  have hr1 := (hr.below hb1).more hb1.size
  go_wp2_with fail
  refine (implCut1 A c l key w1 hlc hc hr1 ha).mono ?_
  rintro e w2 ⟨v2, rfl, hown2, hb2⟩
  go_wp2
  go_ret2
  exact ⟨v2, rfl, ownLow hb1 hown2, below_next hb1 hb2⟩

end Go.Proofs.YtbeklnhngjmpiaaGreat

namespace Go.Proofs.YtbeklnhngjmpiaaGreat
open Go.RowKit
set_option linter.unusedVariables false

def ins (key : ByteArray) (num : Int) : List R → List R
 | [] => [(key, num)]
 | r :: l => if lt r.1 key then r :: ins key num l else if r.1 = key then (key, num) :: l else (key, num) :: r :: l
def del (key : ByteArray) : List R → List R
 | [] => []
 | r :: l => if lt r.1 key then r :: del key l else if r.1 = key then l else r :: l
def look (key : ByteArray) : List R → Option Int
 | [] => none
 | r :: l => if lt r.1 key then look key l else if r.1 = key then some r.2 else none

theorem posN_lt {r : R} {l : List R} {key : ByteArray} (h : lt r.1 key = true) : posN (r :: l) key = posN l key + 1 := by simp [posN, h]
theorem posN_ge {r : R} {l : List R} {key : ByteArray} (h : lt r.1 key = false) : posN (r :: l) key = 0 := by simp [posN, h]
theorem hasB_lt' {r : R} {l : List R} {key : ByteArray} (h : lt r.1 key = true) : hasB (r :: l) key = hasB l key := by simp [hasB, posN_lt h]
theorem str_beq (s t : ByteArray) : (s.toList == t.toList) = decide (s = t) := by
 by_cases h : s = t
 ·
  subst h; simp
 ·
  rw [str_ne h]; simp [h]
theorem hasB_ge {r : R} {l : List R} {key : ByteArray} (h : lt r.1 key = false) : hasB (r :: l) key = decide (r.1 = key) := by
 simp only [hasB, posN_ge h, List.getElem?_cons_zero, Option.any_some, str_beq]

theorem putL_ins (key : ByteArray) (num : Int) : (l : List R) → putL l key num = ins key num l
 | [] => by simp [putL, ins, posN]
 | r :: l => by
  have ih := putL_ins key num l
  unfold ins
  cases h : lt r.1 key
  ·
   by_cases e : r.1 = key
   ·
    have hb : hasB (r :: l) key = true := by rw [hasB_ge h]; simp [e]
    simp [putL, hb, posN_ge h, e]
   ·
    have hb : hasB (r :: l) key = false := by rw [hasB_ge h]; simp [e]
    simp [putL, hb, posN_ge h, e]
  ·
   simp only [if_true]
   rw [← ih]
   unfold putL
   rw [hasB_lt' h, posN_lt h]
   cases hasB l key <;> simp
theorem cutL_del (key : ByteArray) : (l : List R) → cutL l key = del key l
 | [] => by simp [cutL, del]
 | r :: l => by
  have ih := cutL_del key l
  unfold del
  cases h : lt r.1 key
  ·
   by_cases e : r.1 = key
   ·
    have hb : hasB (r :: l) key = true := by rw [hasB_ge h]; simp [e]
    simp [cutL, hb, posN_ge h, e]
   ·
    have hb : hasB (r :: l) key = false := by rw [hasB_ge h]; simp [e]
    simp [cutL, hb, e]
  ·
   simp only [if_true]
   rw [← ih]
   unfold cutL
   rw [hasB_lt' h, posN_lt h]
   cases hasB l key <;> simp
theorem hasB_look (key : ByteArray) : (l : List R) → hasB l key = (look key l).isSome
 | [] => by simp [hasB, look]
 | r :: l => by
  unfold look
  cases h : lt r.1 key
  ·
   rw [hasB_ge h]
   by_cases e : r.1 = key <;> simp [e]
  ·
   rw [hasB_lt' h, hasB_look key l]; simp
theorem num_look (key : ByteArray) : (l : List R) → hasB l key = true → (l[posN l key]?.map (·.2)).getD 0 = (look key l).getD 0
 | [], h => by simp [hasB] at h
 | r :: l, hb => by
  unfold look
  cases h : lt r.1 key
  ·
   rw [hasB_ge h] at hb
   have e : r.1 = key := by simpa using hb
   rw [posN_ge h]; simp [e]
  ·
   rw [hasB_lt' h] at hb
   rw [posN_lt h]
   simpa using num_look key l hb

/-- sorted, as a relation between all pairs -/
def Srt (l : List R) : Prop := l.Pairwise fun a b => lt a.1 b.1 = true
theorem AscP.srt {l : List R} (h : AscP l) : Srt l := by
 unfold Srt
 rw [List.pairwise_iff_getElem]
 intro i j hi hj hij
 exact asc_lt h j hj i hij
theorem Srt.asc {l : List R} (h : Srt l) : AscP l := fun i hi => by
 unfold Srt at h
 rw [List.pairwise_iff_getElem] at h
 exact h i (i + 1) (by omega) hi (by omega)

theorem lt_ne {a b : ByteArray} (h : lt a b = true) : a ≠ b := by rintro rfl; rw [lt_irrefl] at h; cases h
/-- not below and not equal: above -/
theorem gt_of {a b : ByteArray} (h : lt a b = false) (e : a ≠ b) : lt b a = true := by
 cases hb : lt b a
 ·
  exact absurd (lt_tri h hb) e
 ·
  rfl

theorem look_low {l : List R} {key : ByteArray} (h : ∀ r ∈ l, lt key r.1 = true) : look key l = none := by
 cases l with
 | nil => rfl
 | cons r l =>
  have h1 := h r List.mem_cons_self
  unfold look
  have hne : r.1 ≠ key := fun e => lt_ne h1 e.symm
  rw [lt_asymm h1]
  simp [hne]
theorem ins_mem {key : ByteArray} {num : Int} : {l : List R} → ∀ r ∈ ins key num l, r = (key, num) ∨ r ∈ l
 | [], r, hr => by left; simpa [ins] using hr
 | x :: l, r, hr => by
  unfold ins at hr
  split at hr
  ·
   rcases List.mem_cons.1 hr with rfl | hr
   ·
    exact .inr List.mem_cons_self
   ·
    rcases ins_mem r hr with h | h
    ·
     exact .inl h
    ·
     exact .inr (List.mem_cons_of_mem _ h)
  ·
   split at hr
   ·
    rcases List.mem_cons.1 hr with h | h
    ·
     exact .inl h
    ·
     exact .inr (List.mem_cons_of_mem _ h)
   ·
    rcases List.mem_cons.1 hr with h | h
    ·
     exact .inl h
    ·
     exact .inr h
theorem del_mem {key : ByteArray} : {l : List R} → ∀ r ∈ del key l, r ∈ l
 | [], r, hr => hr
 | x :: l, r, hr => by
  unfold del at hr
  split at hr
  ·
   rcases List.mem_cons.1 hr with rfl | hr
   ·
    exact List.mem_cons_self
   ·
    exact List.mem_cons_of_mem _ (del_mem r hr)
  ·
   split at hr
   ·
    exact List.mem_cons_of_mem _ hr
   ·
    exact hr
theorem ins_srt {key : ByteArray} {num : Int} : {l : List R} → Srt l → Srt (ins key num l)
 | [], _ => by simp [ins, Srt]
 | x :: l, h => by
  have hx := (List.pairwise_cons.1 h)
  unfold ins
  cases hl : lt x.1 key
  ·
   by_cases e : x.1 = key
   ·
    simp only [e, if_true]
    exact List.pairwise_cons.2 ⟨fun r hr => by have := hx.1 r hr; rw [e] at this; exact this, hx.2⟩
   ·
    simp only [e, if_false]
    have hk := gt_of hl e
    refine List.pairwise_cons.2 ⟨fun r hr => ?_, h⟩
    rcases List.mem_cons.1 hr with rfl | hr
    ·
     exact hk
    ·
     exact lt_trans hk (hx.1 r hr)
  ·
   simp only [if_true]
   refine List.pairwise_cons.2 ⟨fun r hr => ?_, ins_srt hx.2⟩
   rcases ins_mem r hr with rfl | hr
   ·
    exact hl
   ·
    exact hx.1 r hr
theorem del_srt {key : ByteArray} : {l : List R} → Srt l → Srt (del key l)
 | [], h => h
 | x :: l, h => by
  have hx := (List.pairwise_cons.1 h)
  unfold del
  split
  ·
   exact List.pairwise_cons.2 ⟨fun r hr => hx.1 r (del_mem r hr), del_srt hx.2⟩
  ·
   split
   ·
    exact hx.2
   ·
    exact h
theorem look_ins {key : ByteArray} {num : Int} (k : ByteArray) : {l : List R} → Srt l → look k (ins key num l) = if k = key then some num else look k l
 | [], _ => by
  unfold ins look
  by_cases e : k = key
  ·
   subst e; simp [lt_irrefl]
  ·
   have e' : key ≠ k := fun h => e h.symm
   cases h : lt key k <;> simp [e, e', look]
 | x :: l, h => by
  have hx := (List.pairwise_cons.1 h)
  have ih := look_ins (key := key) (num := num) k hx.2
  unfold ins
  cases hl : lt x.1 key
  ·
   by_cases e : x.1 = key
   ·
    subst e
    simp only [if_true]
    by_cases ek : k = x.1
    ·
     subst ek; simp [look, lt_irrefl]
    ·
     have ek' : x.1 ≠ k := fun h => ek h.symm
     simp [look, ek, ek']
   ·
    simp only [e, if_false]
    have hk := gt_of hl e
    by_cases ek : k = key
    ·
     subst ek; simp [look, lt_irrefl]
    ·
     have ek' : key ≠ k := fun h => ek h.symm
     have e1 : look k ((key, num) :: x :: l) = if lt key k then look k (x :: l) else none := by
      rw [look]; simp [ek']
     simp only [Bool.false_eq_true, if_false, e1, ek]
     cases hkk : lt key k
     ·
      rw [look_low (l := x :: l) (fun r hr => by
       have hk2 := gt_of hkk ek'
       rcases List.mem_cons.1 hr with rfl | hr
       ·
        exact lt_trans hk2 hk
       ·
        exact lt_trans hk2 (lt_trans hk (hx.1 r hr)))]
      simp
     ·
      simp
  ·
   simp only [if_true]
   unfold look
   cases hk : lt x.1 k
   ·
    by_cases ek : x.1 = k
    ·
     subst ek
     simp [fun e : x.1 = key => lt_ne hl e]
    ·
     have hk2 := gt_of hk ek
     have : k ≠ key := fun e => by subst e; rw [hl] at hk; cases hk
     simp [ek, this]
   ·
    simp [ih]
theorem look_del {key : ByteArray} (k : ByteArray) : {l : List R} → Srt l → look k (del key l) = if k = key then none else look k l
 | [], _ => by simp [del, look]
 | x :: l, h => by
  have hx := (List.pairwise_cons.1 h)
  have ih := look_del (key := key) k hx.2
  unfold del
  cases hl : lt x.1 key
  ·
   by_cases e : x.1 = key
   ·
    subst e
    simp only [if_true]
    by_cases ek : k = x.1
    ·
     subst ek
     simp [look_low hx.1]
    ·
     have ek' : x.1 ≠ k := fun h => ek h.symm
     simp only [Bool.false_eq_true, if_false, ek]
     conv => rhs; rw [look]
     simp only [ek', if_false]
     cases hkk : lt x.1 k
     ·
      rw [look_low (fun r hr => lt_trans (gt_of hkk ek') (hx.1 r hr))]; simp
     ·
      simp
   ·
    simp only [e, if_false]
    by_cases ek : k = key
    ·
     subst ek
     have hk := gt_of hl e
     simp [look, hl, e]
    ·
     simp [ek]
  ·
   simp only [if_true]
   unfold look
   cases hk : lt x.1 k
   ·
    by_cases ek : x.1 = k
    ·
     subst ek
     simp [fun e : x.1 = key => lt_ne hl e]
    ·
     have : k ≠ key := fun e => by subst e; rw [hl] at hk; cases hk
     simp [ek, this]
   ·
    simp [ih]
theorem srt_ext : {a b : List R} → Srt a → Srt b → (∀ k, look k a = look k b) → a = b
 | [], [], _, _, _ => rfl
 | [], y :: b, _, _, h => by have := h y.1; simp [look, lt_irrefl] at this
 | x :: a, [], _, _, h => by have := h x.1; simp [look, lt_irrefl] at this
 | x :: a, y :: b, ha, hb, h => by
  have hx := (List.pairwise_cons.1 ha)
  have hy := (List.pairwise_cons.1 hb)
  have h1 := h x.1
  have h2 := h y.1
  have hk : x.1 = y.1 := by
   cases hl : lt x.1 y.1
   ·
    cases hl2 : lt y.1 x.1
    ·
     exact lt_tri hl hl2
    ·
     have e : x.1 ≠ y.1 := fun e => lt_ne hl2 e.symm
     unfold look at h2
     rw [hl, lt_irrefl] at h2
     simp [e] at h2
   ·
    have e : y.1 ≠ x.1 := fun e => lt_ne hl e.symm
    unfold look at h1
    rw [lt_irrefl, lt_asymm hl] at h1
    simp [e] at h1
  have hn : x.2 = y.2 := by
   unfold look at h1
   rw [lt_irrefl, ← hk, lt_irrefl] at h1
   simpa using h1
  have hr : ∀ k, look k a = look k b := by
   intro k
   have h3 := h k
   unfold look at h3
   rw [← hk, hn] at h3
   by_cases hlk : lt x.1 k = true
   ·
    simpa [hlk] using h3
   ·
    have hlk' : lt x.1 k = false := by simpa using hlk
    have hle : ∀ r : R, lt x.1 r.1 = true → lt k r.1 = true := fun r hr => by
     by_cases e : x.1 = k
     ·
      rw [← e]; exact hr
     ·
      exact lt_trans (gt_of hlk' e) hr
    rw [look_low (fun r hr => hle r (hx.1 r hr)), look_low (fun r hr => hle r (by rw [hk]; exact hy.1 r hr))]
  rw [srt_ext hx.2 hy.2 hr]
  congr 1
  exact Prod.ext hk hn

theorem ins_length (key : ByteArray) (num : Int) : (l : List R) → (ins key num l).length = if (look key l).isSome then l.length else l.length + 1
 | [] => by simp [ins, look]
 | x :: l => by
  have ih := ins_length key num l
  unfold ins look
  cases hl : lt x.1 key
  ·
   by_cases e : x.1 = key <;> simp [e]
  ·
   simp only [if_true, List.length_cons, ih]
   split <;> rfl
theorem del_length (key : ByteArray) : (l : List R) → (del key l).length = if (look key l).isSome then l.length - 1 else l.length
 | [] => by simp [del, look]
 | x :: l => by
  have ih := del_length key l
  unfold del look
  cases hl : lt x.1 key
  ·
   by_cases e : x.1 = key <;> simp [e]
  ·
   simp only [if_true, List.length_cons, ih]
   cases hk : look key l with
   | none => simp
   | some z =>
    have : 0 < l.length := by cases l with
     | nil => simp [look] at hk
     | cons _ _ => simp
    simp; omega

end Go.Proofs.YtbeklnhngjmpiaaGreat

namespace Go.Proofs.YtbeklnhngjmpiaaGreat
open Go.RowKit
set_option linter.unusedVariables false

theorem rowsP_iff {l : List R} : RowsP l ↔ l.length ≤ 10 ∧ (∀ r ∈ l, keyB r.1 = true ∧ numB r.2 = true) ∧ Srt l := by
 constructor
 ·
  intro h
  refine ⟨h.len, fun r hr => ?_, h.asc.srt⟩
  obtain ⟨i, hi, rfl⟩ := List.getElem_of_mem hr
  exact h.each i hi
 ·
  rintro ⟨h1, h2, h3⟩
  exact ⟨h1, fun i hi => h2 _ (List.getElem_mem hi), h3.asc⟩
theorem RowsP.srt {l : List R} (h : RowsP l) : Srt l := h.asc.srt
theorem getB_eq (l : List R) (key : ByteArray) : getB l key = (rowsB l && (look key l).isSome) := by unfold getB; rw [hasB_look]
theorem getN_eq (l : List R) (key : ByteArray) (h : rowsB l = true) : getN l key = (look key l).getD 0 := by
 unfold getN
 rw [h, Bool.true_and]
 cases hb : hasB l key
 ·
  rw [hasB_look] at hb
  cases hk : look key l with
  | none => rfl
  | some z => rw [hk] at hb; cases hb
 ·
  simp only [if_true]; exact num_look key l hb
theorem cutV_eq {l : List R} (key : ByteArray) (h : rowsB l = true) : cutV l key = del key l := by unfold cutV; rw [h, cutL_del]; rfl
theorem cutV_no {l : List R} (key : ByteArray) (h : rowsB l = false) : cutV l key = [] := by unfold cutV; rw [h]; rfl
theorem FitR.ins {l : List R} (h : FitR l) {key : ByteArray} {num : Int} (hk : FitR [(key, num)]) : FitR (ins key num l) := fun r hr => by
 rcases ins_mem r hr with rfl | hr
 ·
  exact hk _ (by simp)
 ·
  exact h r hr
theorem FitR.del {l : List R} (h : FitR l) (key : ByteArray) : FitR (del key l) := fun r hr => h r (del_mem r hr)
theorem FitR.cutV {l : List R} (h : FitR l) (key : ByteArray) : FitR (cutV l key) := by
 cases ho : rowsB l
 ·
  rw [cutV_no key ho]; exact fun r hr => by simp at hr
 ·
  rw [cutV_eq key ho]; exact h.del key
theorem look_mem : {l : List R} → {key : ByteArray} → {z : Int} → look key l = some z → (key, z) ∈ l
 | [], _, _, h => by simp [look] at h
 | x :: l, key, z, h => by
  unfold look at h
  split at h
  ·
   exact List.mem_cons_of_mem _ (look_mem h)
  ·
   split at h
   ·
    rename_i e
    have : x.2 = z := by simpa using h
    subst e this
    exact List.mem_cons_self
   ·
    cases h
theorem mem_look : {l : List R} → Srt l → {r : R} → r ∈ l → look r.1 l = some r.2
 | x :: l, hs, r, h => by
  have hx := List.pairwise_cons.1 hs
  unfold look
  rcases List.mem_cons.1 h with rfl | h
  ·
   simp [lt_irrefl]
  ·
   rw [hx.1 r h]; simp [mem_look hx.2 h]

end Go.Proofs.YtbeklnhngjmpiaaGreat

namespace Go.Proofs.YtbeklnhngjmpiaaGreat
open Go.RowKit
set_option linter.unusedVariables false

theorem num_of {n : Int} (h : numB n = true) : -999 ≤ n ∧ n ≤ 999 := by unfold numB at h; simpa using h
theorem RowsP.small {l : List R} (h : RowsP l) : ∀ r ∈ l, -999 ≤ r.2 ∧ r.2 ≤ 999 := fun r hr => by
 obtain ⟨i, hi, rfl⟩ := List.getElem_of_mem hr
 exact num_of (h.each i hi).2
end Go.Proofs.YtbeklnhngjmpiaaGreat

namespace Go.Proofs.YtbeklnhngjmpiaaGreat
open Go.RowKit
set_option linter.unusedVariables false

theorem neqRow (s t : ByteArray) (n m : Int) (w : World) : (binOp .neq 87 (.agg #[.string s, .int .i64 n]) (.agg #[.string t, .int .i64 m])).run Tryz.prog w = .ok (.bool (!eqR (s, n) (t, m))) w := by
 simp [go_sem]
 by_cases h1 : s = t
 ·
  subst h1
  by_cases h2 : n = m
  ·
   subst h2; simp [eqR]
  ·
   simp [eqR, h2]
 ·
  have h3 : s.toList ≠ t.toList := fun e => h1 (str_eq (by rw [e]; simp))
  simp [eqR, h1, h3]

set_option maxRecDepth 100000 in
set_option maxHeartbeats 400000 in
theorem wpRows_c (A A' : Option Addr) (c c' : Nat) (l l' : List R) (w : World) (hc : l.length ≤ 2097152) (hc' : l'.length ≤ 2097152) (hr : Rd w w.heap.size A l) (hr' : Rd w w.heap.size A' l') :
  Calls Tryz.prog 43 #[.slice A l.length c, .slice A' l'.length c'] w fun e w' => e = .returned (.bool (eqL l l')) ∧ ∃ n, w' = w.drewN n := by
 have hneq := neqRow
 by_cases hlen : l.length = l'.length
 ·
  have hne : ((l.length : Int) != (l'.length : Int)) = false := by simp [hlen]
  have HL := Lib.hid hlen
  have hle1 : l.length ≤ l'.length := by omega
  have hle2 : l'.length ≤ l.length := by omega
  clear hlen
  go_enter Tryz.func43, Tryz.ntmps43
  go_wp2
  go_loopw [5] (fun i W => ∃ k : Nat, k ≤ l.length ∧ i = .int .i64 k ∧ (∃ n, W = w.drewN n) ∧ l.take k = l'.take k) (fun i _ => l.length - (intOf i).toNat)
  case atStart => exact ⟨0, Nat.zero_le _, rfl, ⟨0, rfl⟩, rfl⟩
  case round =>
   obtain ⟨k, hk, rfl, ⟨nd, hW⟩, ht⟩ := hrel
   have HT := Lib.hid ht
   have HW := Lib.hid hW
   have hr1 : Rd wr w.heap.size A l := by rw [hW]; exact hr
   have hr1' : Rd wr w.heap.size A' l' := by rw [hW]; exact hr'
   clear ht hW hr hr'
   by_cases hkl : k < l.length
   ·
    have hkl' : k < l'.length := by omega
    obtain ⟨b, o, rfl, hbB, hc1, hc2⟩ := hr1.at_ hkl
    obtain ⟨b', o', rfl, hbB', hc1', hc2'⟩ := hr1'.at_ hkl'
    cases he : eqR (l[k].1, l[k].2) (l'[k].1, l'[k].2)
    ·
     have HN := Lib.hid (eqL_no fun h : l = l' => by
      have e : eqR (l[k].1, l[k].2) (l'[k].1, l'[k].2) = true := eqR_yes (by subst h; rfl)
      rw [he] at e; cases e)
     go_wp2
     go_quiet (fail)
     go_wp2
     go_ret
     exact ⟨ret_bool HN.out.symm, _, by rw [HW.out, World.drewN_drewN]⟩
    ·
     have HE := Lib.hid (show l[k] = l'[k] from by
      by_cases e : l[k] = l'[k]
      ·
       exact e
      ·
       rw [eqR_no (show (l[k].1, l[k].2) ≠ (l'[k].1, l'[k].2) from e)] at he; cases he)
     go_wp2
     go_quiet (fail)
     go_wp2
     go_roundw
     case rel => exact ⟨k + 1, by omega, by go_num, ⟨_, by rw [HW.out, World.drewN_drewN]⟩, by rw [List.take_succ_eq_append_getElem hkl, List.take_succ_eq_append_getElem hkl', HT.out, HE.out]⟩
     case measure => simp [intOf]; omega
   ·
    have HN := Lib.hid (show k = l.length from by omega)
    go_wp2
    go_ret
    refine ⟨ret_bool (eqL_yes ?_).symm, nd, HW.out⟩
    have e := HT.out
    rw [HN.out, List.take_length, HL.out, List.take_length] at e
    exact e
 ·
  have hne : ((l.length : Int) != (l'.length : Int)) = true := by simp; omega
  have HL := Lib.hid hlen
  clear hlen
  go_enter Tryz.func43, Tryz.ntmps43
  go_wp2
  go_ret
  exact ⟨ret_bool (eqL_no fun h => HL.out (congrArg List.length h)).symm, 0, rfl⟩

/-! the contracts by the value of rows of the call's own -/
theorem wpO {v v' : Value} {l l' : List R} {base base' : Nat} {w : World} (h : OwnR w base v l) (h' : OwnR w base' v' l') (hl : l.length ≤ 2097152) (hl' : l'.length ≤ 2097152) :
  Calls Tryz.prog 43 #[v, v'] w fun e w' => e = .returned (.bool (eqL l l')) ∧ Below w.heap.size w w' := by
 obtain ⟨A, c, rfl, _, _, hr⟩ := h.read
 obtain ⟨A', c', rfl, _, _, hr'⟩ := h'.read
 refine (wpRows_c A A' c c' l l' w hl hl' hr hr').mono ?_
 rintro e w' ⟨rfl, n, rfl⟩
 exact ⟨rfl, below_drewN (Below.refl _ _) n⟩
theorem specOkO {v : Value} {l : List R} {base : Nat} {w : World} (h : OwnR w base v l) (hf : FitR l) :
  Calls Tryz.prog 91 #[v] w fun e w' => e = .returned (.bool (rowsB l)) ∧ Below w.heap.size w w' := by
 obtain ⟨A, c, rfl, h1, h2, hr⟩ := h.read
 refine (specRowsOk A c l w hf h1 h2 hr).mono ?_
 rintro e w' ⟨rfl, n, rfl⟩
 exact ⟨rfl, below_drewN (Below.refl _ _) n⟩
theorem implOkO {v : Value} {l : List R} {base : Nat} {w : World} (h : OwnR w base v l) (hf : FitR l) (hl : l.length ≤ 1048576) :
  Calls Tryz.prog 90 #[v] w fun e w' => e = .returned (.bool (rowsB l)) ∧ Below w.heap.size w w' := by
 obtain ⟨A, c, rfl, h1, h2, hr⟩ := h.read
 exact implRowsOk A c l w hf (by omega) hr
theorem implGetO {v : Value} {l : List R} {base : Nat} {w : World} (key : ByteArray) (h : OwnR w base v l) (hf : FitR l) (hl : l.length ≤ 1048576) :
  Calls Tryz.prog 41 #[v, .string key] w fun e w' => e = .returned (.tuple #[.int .i64 (getN l key), .bool (getB l key)]) ∧ Below w.heap.size w w' := by
 obtain ⟨A, c, rfl, h1, h2, hr⟩ := h.read
 exact implGet A c l key w hf (by omega) hr
theorem implCutO {v : Value} {l : List R} {base : Nat} {w : World} (key : ByteArray) (h : OwnR w base v l) (hf : FitR l) (hl : l.length ≤ 1048576) :
  Calls Tryz.prog 42 #[v, .string key] w (RetRB w (cutV l key) (cutOk l key)) := by
 obtain ⟨A, c, rfl, h1, h2, hr⟩ := h.read
 exact implCut A c l key w hf h1 hl hr
end Go.Proofs.YtbeklnhngjmpiaaGreat
