/- RowsCut: the model's and the program's. -/
import Derived.Test.YtbhdgalkedegjaaPc
namespace Go.Proofs.Ytbhdgalkedegjaa
open Go.RowKit
set_option linter.unusedVariables false

/-- a key taken away -/
def cutL (l : List R) (key : ByteArray) : List R := if hasB l key then l.take (posN l key) ++ l.drop (posN l key + 1) else l
noncomputable def cutV (l : List R) (key : ByteArray) : List R := if rowsB l then cutL l key else []
noncomputable def cutOk (l : List R) (key : ByteArray) : Bool := rowsB l && hasB l key
theorem cutL_length (l : List R) (key : ByteArray) : (cutL l key).length ≤ l.length := by
  unfold cutL
  split
  · simp; omega
  · exact Nat.le_refl _
theorem cutV_length (l : List R) (key : ByteArray) : (cutV l key).length ≤ l.length := by
  unfold cutV
  split
  · exact cutL_length l key
  · simp

set_option maxRecDepth 100000 in
set_option maxHeartbeats 1000000 in
theorem implCut1 (A : Option Addr) (c : Nat) (l : List R) (key : ByteArray) (w : World) (hlc : l.length ≤ c) (hc : l.length ≤ 1048576) (hr : Rd w w.heap.size A l) (ha : AscP l) :
    Calls Try.prog 94 #[.slice A l.length c, .string key] w (RetRB w (cutL l key) (hasB l key)) := by
  have hple := (posN_pos l key).le
  cases hh : hasB l key
  · have HE := Lib.hid (show cutL l key = l from by unfold cutL; rw [hh]; rfl)
    rw [HE.out]
    generalize hp : posN l key = p at *
    have HP := Lib.hid hp
    clear hp
    go_enter Try.func94, Try.ntmps94
    go_wp2_with fail
    refine (implFind A c l key w (by omega) hr ha).mono ?_
    rintro e w2 ⟨rfl, hb2⟩
    rw [HP.out, hh]
    have hr2 := (hr.below hb2).more hb2.size
    go_wp2_with fail
    refine (splice_c A c l p p none 0 0 [] rfl w2 hlc (by omega) (by omega) (Nat.le_refl _) hple hr2 Rd.nil).mono ?_
    rintro e w4 ⟨v4, rfl, hown4, hb4⟩
    go_wp2
    go_ret2
    exact ⟨v4, rfl, by simpa using ownLow hb2 hown4, below_next hb2 hb4⟩
  · have hlt := hasB_lt hh
    have HE := Lib.hid (show cutL l key = l.take (posN l key) ++ l.drop (posN l key + 1) from by unfold cutL; rw [hh]; rfl)
    generalize hp : posN l key = p at *
    have HP := Lib.hid hp
    clear hp
    rw [HE.out]
    go_enter Try.func94, Try.ntmps94
    go_wp2_with fail
    refine (implFind A c l key w (by omega) hr ha).mono ?_
    rintro e w2 ⟨rfl, hb2⟩
    rw [HP.out, hh]
    have hr2 := (hr.below hb2).more hb2.size
    go_wp2_with fail
    rw [show ((p : Int) + 1) = ((p + 1 : Nat) : Int) from by omega]
    refine (splice_c A c l p (p + 1) none 0 0 [] rfl w2 hlc (by omega) (by omega) (by omega) hlt hr2 Rd.nil).mono ?_
    rintro e w4 ⟨v4, rfl, hown4, hb4⟩
    go_wp2
    go_ret2
    exact ⟨v4, rfl, by simpa using ownLow hb2 hown4, below_next hb2 hb4⟩

set_option maxRecDepth 100000 in
set_option maxHeartbeats 1000000 in
theorem implCut (A : Option Addr) (c : Nat) (l : List R) (key : ByteArray) (w : World) (hfit : FitR l) (hlc : l.length ≤ c) (hc : l.length ≤ 1048576) (hr : Rd w w.heap.size A l) :
    Calls Try.prog 48 #[.slice A l.length c, .string key] w (RetRB w (cutV l key) (cutOk l key)) := by
  cases hok : rowsB l
  · have HV := Lib.hid (show cutV l key = [] from by unfold cutV; rw [hok]; rfl)
    have HB := Lib.hid (show cutOk l key = false from by unfold cutOk; rw [hok]; rfl)
    rw [HV.out, HB.out]
    go_enter Try.func48, Try.ntmps48
    go_wp2_with fail
    refine (implRowsOk A c l w hfit (by omega) hr).mono ?_
    rintro e w1 ⟨rfl, hb1⟩
    rw [hok]
    go_wp2
    go_ret2
    exact ⟨_, rfl, OwnR.nil _ _, hb1⟩
  · have ha := (rowsB_iff.1 hok).asc
    have HV := Lib.hid (show cutV l key = cutL l key from by unfold cutV; rw [hok]; rfl)
    have HB := Lib.hid (show cutOk l key = hasB l key from by unfold cutOk; rw [hok]; rfl)
    rw [HV.out, HB.out]
    go_enter Try.func48, Try.ntmps48
    go_wp2_with fail
    refine (implRowsOk A c l w hfit (by omega) hr).mono ?_
    rintro e w1 ⟨rfl, hb1⟩
    rw [hok]
    have hr1 := (hr.below hb1).more hb1.size
    go_wp2_with fail
    refine (implCut1 A c l key w1 hlc hc hr1 ha).mono ?_
    rintro e w2 ⟨v2, rfl, hown2, hb2⟩
    go_wp2
    go_ret2
    exact ⟨v2, rfl, ownLow hb1 hown2, below_next hb1 hb2⟩

end Go.Proofs.Ytbhdgalkedegjaa
