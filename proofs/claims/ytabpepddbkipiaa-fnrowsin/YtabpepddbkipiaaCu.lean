/- RowsCut: the model's and the program's. -/
import Derived.Test.YtabpepddbkipiaaPc
namespace Go.Proofs.Ytabpepddbkipiaa
open Go.RowKit
set_option linter.unusedVariables false

/-- a key taken away -/
def cutL (l : List R) (key : ByteArray) : List R := if hasB l key then l.take (posN l key) ++ l.drop (posN l key + 1) else l
noncomputable def cutV (l : List R) (key : ByteArray) : List R := if rowsB l then cutL l key else []
noncomputable def cutOk (l : List R) (key : ByteArray) : Bool := rowsB l && hasB l key
theorem cutL_length (l : List R) (key : ByteArray) : (cutL l key).length ≤ l.length := by
  unfold cutL
  split
  · simp; omega
  · exact Nat.le_refl _
theorem cutV_length (l : List R) (key : ByteArray) : (cutV l key).length ≤ l.length := by
  unfold cutV
  split
  · exact cutL_length l key
  · simp

set_option maxRecDepth 100000 in
set_option maxHeartbeats 1000000 in
theorem specCut1_has (A : Option Addr) (c : Nat) (l : List R) (key : ByteArray) (w : World) (hlc : l.length ≤ c) (hc : l.length ≤ 1048576) (hr : Rd w w.heap.size A l) (hh : hasB l key = true) :
    Calls Try.prog 66 #[.slice A l.length c, .string key] w (RetR w (cutL l key)) := by
  have hlt := hasB_lt hh
  have HE := Lib.hid (show cutL l key = l.take (posN l key) ++ l.drop (posN l key + 1) from by unfold cutL; rw [hh]; rfl)
  generalize hp : posN l key = p at *
  have HP := Lib.hid hp
  clear hp
  rw [HE.out]
  go_enter Try.func66, Try.ntmps66
  go_wp2_with fail
  refine (specFind A c l key w (by omega) hr).mono ?_
  rintro e w1 ⟨rfl, n1, rfl⟩
  rw [HP.out, hh]
  have hb1 : Below w.heap.size w (w.drewN n1) := below_drewN (Below.refl _ _) n1
  generalize w.drewN n1 = w2 at *
  have hr2 := (hr.below hb1).more hb1.size
  go_wp2_with fail
  have hi1 : (0 : Int) ≤ (p : Int) := by omega
  have hi2 : (p : Int) ≤ (l.length : Int) := by omega
  have hi3 : (p : Int) ≤ (c : Int) := by omega
  have hi4 : (l.length : Int) ≤ (c : Int) := by omega
  have hi5 : IntKind.i64.wrap ((p : Int) + 1) = (p : Int) + 1 := IntWalk.i64_in _ (by omega)
  have hT : Below w2.heap.size w2 w2.drew := (Below.refl _ _).drew
  have hcut := runCut 26 Try.underlying26 A l.length c (p + 1) hlt hlc
  rw [show ((p + 1 : Nat) : Int) = (p : Int) + 1 from by omega] at hcut
  go_region_held3 (fun W => Below w2.heap.size w2 W) (first | assumption)
    (first
      | (go_at_call 62; refine (specCopyN A p c (l.take p) (by simp; omega) _ (by simp; omega) (rdTk hr2 p (by assumption))).mono ?_; rintro e wc ⟨vc, rfl, hownc, hbc⟩; have hO := ownLow (a := w2) (by assumption) hownc; have hT := below_next (a := w2) (by assumption) hbc)
      | (refine step_appR wc rfl _ _ _ _ 50 rfl Try.underlying26 Try.underlying26 w2.heap.size vc (l.take p) rfl hO (cutA A c (p + 1)) (c - (p + 1)) _ (l.length - (p + 1)) (l.drop (p + 1)) List.length_drop rfl (rdDp hr2 (p + 1) c hlc hT) (by simp; omega) hT.size ?_; intro v3 w3 hown3 hgr3 hat3; have hT := belowApp hT hO hgr3))
  all_goals
    go_wp2
    go_ret
    exact ⟨v3, rfl, ownLow hb1 hown3, below_next hb1 hT⟩

set_option maxRecDepth 100000 in
set_option maxHeartbeats 1000000 in
theorem specCut1_no (A : Option Addr) (c : Nat) (l : List R) (key : ByteArray) (w : World) (hlc : l.length ≤ c) (hc : l.length ≤ 1048576) (hr : Rd w w.heap.size A l) (hh : hasB l key = false) :
    Calls Try.prog 66 #[.slice A l.length c, .string key] w (RetR w (cutL l key)) := by
  have HE := Lib.hid (show cutL l key = l from by unfold cutL; rw [hh]; rfl)
  rw [HE.out]
  go_enter Try.func66, Try.ntmps66
  go_wp2_with fail
  refine (specFind A c l key w (by omega) hr).mono ?_
  rintro e w1 ⟨rfl, n1, rfl⟩
  rw [hh]
  have hb1 : Below w.heap.size w (w.drewN n1) := below_drewN (Below.refl _ _) n1
  generalize w.drewN n1 = w2 at *
  have hr2 := (hr.below hb1).more hb1.size
  go_wp2_with fail
  refine (specCopy A c l w2 (by omega) hr2).mono ?_
  rintro e w3 ⟨v3, rfl, hown3, hb3⟩
  go_wp2
  go_ret
  exact ⟨v3, rfl, ownLow hb1 hown3, below_next hb1 hb3⟩

theorem specCut1 (A : Option Addr) (c : Nat) (l : List R) (key : ByteArray) (w : World) (hlc : l.length ≤ c) (hc : l.length ≤ 1048576) (hr : Rd w w.heap.size A l) :
    Calls Try.prog 66 #[.slice A l.length c, .string key] w (RetR w (cutL l key)) := by
  cases hh : hasB l key
  · exact specCut1_no A c l key w hlc hc hr hh
  · exact specCut1_has A c l key w hlc hc hr hh

set_option maxRecDepth 100000 in
set_option maxHeartbeats 1000000 in
theorem specCut (A : Option Addr) (c : Nat) (l : List R) (key : ByteArray) (w : World) (hfit : FitR l) (hlc : l.length ≤ c) (hcm : c ≤ maxLen) (hc : l.length ≤ 1048576) (hr : Rd w w.heap.size A l) :
    Calls Try.prog 34 #[.slice A l.length c, .string key] w (RetRB w (cutV l key) (cutOk l key)) := by
  cases hok : rowsB l
  · have HV := Lib.hid (show cutV l key = [] from by unfold cutV; rw [hok]; rfl)
    have HB := Lib.hid (show cutOk l key = false from by unfold cutOk; rw [hok]; rfl)
    rw [HV.out, HB.out]
    go_enter Try.func34, Try.ntmps34
    go_wp2_with fail
    refine (specRowsOk A c l w hfit hlc hcm hr).mono ?_
    rintro e w1 ⟨rfl, n1, rfl⟩
    rw [hok]
    have hb1 : Below w.heap.size w (w.drewN n1) := below_drewN (Below.refl _ _) n1
    generalize w.drewN n1 = w1 at *
    go_wp2
    go_ret2
    exact ⟨_, rfl, OwnR.fresh w1 _ hb1.size, below_alloc hb1 _⟩
  · have HV := Lib.hid (show cutV l key = cutL l key from by unfold cutV; rw [hok]; rfl)
    have HB := Lib.hid (show cutOk l key = hasB l key from by unfold cutOk; rw [hok]; rfl)
    rw [HV.out, HB.out]
    go_enter Try.func34, Try.ntmps34
    go_wp2_with fail
    refine (specRowsOk A c l w hfit hlc hcm hr).mono ?_
    rintro e w1 ⟨rfl, n1, rfl⟩
    rw [hok]
    have hb1 : Below w.heap.size w (w.drewN n1) := below_drewN (Below.refl _ _) n1
    generalize w.drewN n1 = w1 at *
    have hr1 := (hr.below hb1).more hb1.size
    go_wp2_with fail
    refine (specFind A c l key w1 (by omega) hr1).mono ?_
    rintro e w2 ⟨rfl, n2, rfl⟩
    have hb2 : Below w.heap.size w (w1.drewN n2) := below_drewN hb1 n2
    generalize w1.drewN n2 = w2 at *
    have hr2 := (hr.below hb2).more hb2.size
    go_wp2_with fail
    refine (specCut1 A c l key w2 hlc hc hr2).mono ?_
    rintro e w3 ⟨v3, rfl, hown3, hb3⟩
    go_wp2
    go_ret2
    exact ⟨v3, rfl, ownLow hb2 hown3, below_next hb2 hb3⟩

set_option maxRecDepth 100000 in
set_option maxHeartbeats 1000000 in
theorem implCut1 (A : Option Addr) (c : Nat) (l : List R) (key : ByteArray) (w : World) (hlc : l.length ≤ c) (hc : l.length ≤ 1048576) (hr : Rd w w.heap.size A l) (ha : AscP l) :
    Calls Try.prog 67 #[.slice A l.length c, .string key] w (RetRB w (cutL l key) (hasB l key)) := by
  have hple := (posN_pos l key).le
  cases hh : hasB l key
  · have HE := Lib.hid (show cutL l key = l from by unfold cutL; rw [hh]; rfl)
    rw [HE.out]
    generalize hp : posN l key = p at *
    have HP := Lib.hid hp
    clear hp
    go_enter Try.func67, Try.ntmps67
    go_wp2_with fail
    refine (implFind A c l key w (by omega) hr ha).mono ?_
    rintro e w2 ⟨rfl, hb2⟩
    rw [HP.out, hh]
    have hr2 := (hr.below hb2).more hb2.size
    go_wp2_with fail
    refine (splice_c A c l p p none 0 0 [] rfl w2 hlc (by omega) (by omega) (Nat.le_refl _) hple hr2 Rd.nil).mono ?_
    rintro e w4 ⟨v4, rfl, hown4, hb4⟩
    go_wp2
    go_ret2
    exact ⟨v4, rfl, by simpa using ownLow hb2 hown4, below_next hb2 hb4⟩
  · have hlt := hasB_lt hh
    have HE := Lib.hid (show cutL l key = l.take (posN l key) ++ l.drop (posN l key + 1) from by unfold cutL; rw [hh]; rfl)
    generalize hp : posN l key = p at *
    have HP := Lib.hid hp
    clear hp
    rw [HE.out]
    go_enter Try.func67, Try.ntmps67
    go_wp2_with fail
    refine (implFind A c l key w (by omega) hr ha).mono ?_
    rintro e w2 ⟨rfl, hb2⟩
    rw [HP.out, hh]
    have hr2 := (hr.below hb2).more hb2.size
    go_wp2_with fail
    rw [show ((p : Int) + 1) = ((p + 1 : Nat) : Int) from by omega]
    refine (splice_c A c l p (p + 1) none 0 0 [] rfl w2 hlc (by omega) (by omega) (by omega) hlt hr2 Rd.nil).mono ?_
    rintro e w4 ⟨v4, rfl, hown4, hb4⟩
    go_wp2
    go_ret2
    exact ⟨v4, rfl, by simpa using ownLow hb2 hown4, below_next hb2 hb4⟩

set_option maxRecDepth 100000 in
set_option maxHeartbeats 1000000 in
theorem implCut (A : Option Addr) (c : Nat) (l : List R) (key : ByteArray) (w : World) (hfit : FitR l) (hlc : l.length ≤ c) (hc : l.length ≤ 1048576) (hr : Rd w w.heap.size A l) :
    Calls Try.prog 35 #[.slice A l.length c, .string key] w (RetRB w (cutV l key) (cutOk l key)) := by
  cases hok : rowsB l
  · have HV := Lib.hid (show cutV l key = [] from by unfold cutV; rw [hok]; rfl)
    have HB := Lib.hid (show cutOk l key = false from by unfold cutOk; rw [hok]; rfl)
    rw [HV.out, HB.out]
    go_enter Try.func35, Try.ntmps35
    go_wp2_with fail
    refine (implRowsOk A c l w hfit (by omega) hr).mono ?_
    rintro e w1 ⟨rfl, hb1⟩
    rw [hok]
    go_wp2
    go_ret2
    exact ⟨_, rfl, OwnR.nil _ _, hb1⟩
  · have ha := (rowsB_iff.1 hok).asc
    have HV := Lib.hid (show cutV l key = cutL l key from by unfold cutV; rw [hok]; rfl)
    have HB := Lib.hid (show cutOk l key = hasB l key from by unfold cutOk; rw [hok]; rfl)
    rw [HV.out, HB.out]
    go_enter Try.func35, Try.ntmps35
    go_wp2_with fail
    refine (implRowsOk A c l w hfit (by omega) hr).mono ?_
    rintro e w1 ⟨rfl, hb1⟩
    rw [hok]
    have hr1 := (hr.below hb1).more hb1.size
    go_wp2_with fail
    refine (implCut1 A c l key w1 hlc hc hr1 ha).mono ?_
    rintro e w2 ⟨v2, rfl, hown2, hb2⟩
    go_wp2
    go_ret2
    exact ⟨v2, rfl, ownLow hb1 hown2, below_next hb1 hb2⟩

end Go.Proofs.Ytabpepddbkipiaa
