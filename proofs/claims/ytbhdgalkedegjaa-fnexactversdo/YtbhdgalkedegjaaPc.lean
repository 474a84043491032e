/- RowsPut and RowsCut: the model's and the program's. -/
import Derived.Test.YtbhdgalkedegjaaSpl
namespace Go.Proofs.Ytbhdgalkedegjaa
open Go.RowKit
set_option linter.unusedVariables false

/-- the call returns rows in new memory, and a bool -/
def RetRB (w : World) (l : List R) (b : Bool) (e : Ending) (w' : World) : Prop := ∃ v, e = .returned (.tuple #[v, .bool b]) ∧ OwnR w' w.heap.size v l ∧ Below w.heap.size w w'

noncomputable def putV (l : List R) (key : ByteArray) (num : Int) : List R := if rowsB l then (if rowsB (putL l key num) then putL l key num else l) else []
noncomputable def putOk (l : List R) (key : ByteArray) (num : Int) : Bool := rowsB l && rowsB (putL l key num)

theorem FitR.putL {l : List R} (h : FitR l) {key : ByteArray} {num : Int} (hk : FitR [(key, num)]) : FitR (putL l key num) := by
  intro r hr
  unfold Proofs.Ytbhdgalkedegjaa.putL at hr
  simp only [List.append_assoc, List.mem_append] at hr
  rcases hr with hr | hr | hr
  · exact h r (List.mem_of_mem_take hr)
  · exact hk r hr
  · exact h r (List.mem_of_mem_drop hr)
theorem putL_length (l : List R) (key : ByteArray) (num : Int) : (putL l key num).length ≤ l.length + 1 := by
  have hp := (posN_pos l key).le
  unfold putL
  simp
  split <;> omega

theorem putV_length (l : List R) (key : ByteArray) (num : Int) : (putV l key num).length ≤ l.length + 1 := by
  have := putL_length l key num
  unfold putV
  split
  · split <;> omega
  · simp

set_option maxRecDepth 100000 in
set_option maxHeartbeats 1000000 in
theorem implPut (A : Option Addr) (c : Nat) (l : List R) (key : ByteArray) (num : Int) (w : World) (hfit : FitR l) (hk : FitR [(key, num)]) (hlc : l.length ≤ c) (hc : l.length ≤ 1048576) (hr : Rd w w.heap.size A l) :
    Calls Try.prog 49 #[.slice A l.length c, .string key, .int .i64 num] w (RetRB w (putV l key num) (putOk l key num)) := by
  cases hok : rowsB l
  · have HV := Lib.hid (show putV l key num = [] from by unfold putV; rw [hok]; rfl)
    have HB := Lib.hid (show putOk l key num = false from by unfold putOk; rw [hok]; rfl)
    rw [HV.out, HB.out]
    go_enter Try.func49, Try.ntmps49
    go_wp2_with fail
    refine (implRowsOk A c l w hfit (by omega) hr).mono ?_
    rintro e w1 ⟨rfl, hb1⟩
    rw [hok]
    go_wp2
    go_ret2
    exact ⟨_, rfl, OwnR.nil _ _, hb1⟩
  · have ha := (rowsB_iff.1 hok).asc
    have hlen := putL_length l key num
    have hfp := FitR.putL hfit hk
    cases hok2 : rowsB (putL l key num)
    · have HV := Lib.hid (show putV l key num = l from by unfold putV; rw [hok, hok2]; rfl)
      have HB := Lib.hid (show putOk l key num = false from by unfold putOk; rw [hok, hok2]; rfl)
      rw [HV.out, HB.out]
      go_enter Try.func49, Try.ntmps49
      go_wp2_with fail
      refine (implRowsOk A c l w hfit (by omega) hr).mono ?_
      rintro e w1 ⟨rfl, hb1⟩
      rw [hok]
      have hr1 := (hr.below hb1).more hb1.size
      go_wp2_with fail
      refine (implPut1 A c l key num w1 hlc (by omega) hr1 ha).mono ?_
      rintro e w2 ⟨v2, rfl, hown2, hb2⟩
      have hw2 := below_next hb1 hb2
      obtain ⟨A2, c2, rfl, hc2, hm2, hrd2⟩ := hown2.read
      go_wp2_with fail
      refine (implRowsOk A2 c2 (putL l key num) w2 hfp (by omega) hrd2).mono ?_
      rintro e w3 ⟨rfl, hb3⟩
      rw [hok2]
      have hw3 := below_next hw2 hb3
      have hr3 := (hr.below hw3).more hw3.size
      go_wp2_with fail
      refine (splice_c A c l 0 0 none 0 0 [] rfl w3 hlc (by omega) (by omega) (Nat.le_refl _) (Nat.zero_le _) hr3 Rd.nil).mono ?_
      rintro e w4 ⟨v4, rfl, hown4, hb4⟩
      go_wp2
      go_ret2
      exact ⟨v4, rfl, by simpa using ownLow hw3 hown4, below_next hw3 hb4⟩
    · have HV := Lib.hid (show putV l key num = putL l key num from by unfold putV; rw [hok, hok2]; rfl)
      have HB := Lib.hid (show putOk l key num = true from by unfold putOk; rw [hok, hok2]; rfl)
      rw [HV.out, HB.out]
      go_enter Try.func49, Try.ntmps49
      go_wp2_with fail
      refine (implRowsOk A c l w hfit (by omega) hr).mono ?_
      rintro e w1 ⟨rfl, hb1⟩
      rw [hok]
      have hr1 := (hr.below hb1).more hb1.size
      go_wp2_with fail
      refine (implPut1 A c l key num w1 hlc (by omega) hr1 ha).mono ?_
      rintro e w2 ⟨v2, rfl, hown2, hb2⟩
      have hw2 := below_next hb1 hb2
      have hown2' := ownLow hb1 hown2
      obtain ⟨A2, c2, rfl, hc2, hm2, hrd2⟩ := hown2.read
      go_wp2_with fail
      refine (implRowsOk A2 c2 (putL l key num) w2 hfp (by omega) hrd2).mono ?_
      rintro e w3 ⟨rfl, hb3⟩
      rw [hok2]
      go_wp2
      go_ret2
      exact ⟨_, rfl, hown2'.next hb3, below_next hw2 hb3⟩

end Go.Proofs.Ytbhdgalkedegjaa
