/- Rows put and taken away: the model's and the program's. -/
import Derived.Test.YtbhdgalkedegjaaApp
import Derived.Test.YtbhdgalkedegjaaFind
import Derived.Deep.RegionHeld3
namespace Go.Proofs.Ytbhdgalkedegjaa
open Go.RowKit
set_option linter.unusedVariables false

/-- a number put under a key -/
def putL (l : List R) (key : ByteArray) (num : Int) : List R := l.take (posN l key) ++ [(key, num)] ++ l.drop (if hasB l key then posN l key + 1 else posN l key)

set_option maxRecDepth 100000 in
set_option maxHeartbeats 1000000 in
theorem specPut1_new (A : Option Addr) (c : Nat) (l : List R) (key : ByteArray) (num : Int) (w : World) (hlc : l.length ≤ c) (hc : l.length ≤ 1048576) (hr : Rd w w.heap.size A l) (hh : hasB l key = false) :
    Calls Try.prog 120 #[.slice A l.length c, .string key, .int .i64 num] w (RetR w (putL l key num)) := by
  have hple := (posN_pos l key).le
  have HE := Lib.hid (show putL l key num = l.take (posN l key) ++ [(key, num)] ++ l.drop (posN l key) from by unfold putL; rw [hh]; rfl)
  generalize hp : posN l key = p at *
  have HP := Lib.hid hp
  clear hp
  go_enter Try.func120, Try.ntmps120
  go_wp2_with fail
  refine (specFind A c l key w (by omega) hr).mono ?_
  rintro e w1 ⟨rfl, n1, rfl⟩
  rw [HP.out, hh]
  have hb1 : Below w.heap.size w (w.drewN n1) := below_drewN (Below.refl _ _) n1
  generalize w.drewN n1 = w1 at *
  have hr1 := (hr.below hb1).more hb1.size
  go_wp2_with fail
  refine (specCopy A c l w1 (by omega) hr1).mono ?_
  rintro e w2 ⟨v2, rfl, hown2, hb2⟩
  go_wp2_with fail
  have hb12 := below_next hb1 hb2
  have hr2 := (hr.below hb12).more hb12.size
  have hi1 : (0 : Int) ≤ (p : Int) := by omega
  have hi2 : (p : Int) ≤ (l.length : Int) := by omega
  have hi3 : (p : Int) ≤ (c : Int) := by omega
  have hi4 : (l.length : Int) ≤ (c : Int) := by omega
  have hT : Below w2.heap.size w2 w2.drew := (Below.refl _ _).drew
  have hcut := runCut 33 Try.underlying33 A l.length c p hple hlc
  go_region_held3 (fun W => Below w2.heap.size w2 W) (first | assumption | exact below_alloc (by assumption) _ | exact (below_alloc (by assumption) _).drew)
    (first
      | (go_at_call 125; refine (specCopyN A p c (l.take p) (by simp; omega) _ (by simp; omega) (rdTk hr2 p (by assumption))).mono ?_; rintro e wc ⟨vc, rfl, hownc, hbc⟩; have hO := ownLow (a := w2) (by assumption) hownc; have hT := below_next (a := w2) (by assumption) hbc)
      | (refine step_appR (wc.alloc (.cells #[.string key, .int .i64 num] 90)) rfl _ _ _ _ 90 rfl Try.underlying33 Try.underlying33 w2.heap.size vc (l.take p) rfl (hO.alloc _) (some ⟨wc.heap.size, 0, none⟩) 1 _ 1 [(key, num)] rfl rfl (rdOne wc key num 90) (by simp; omega) (below_alloc hT _).size ?_; intro v3 w3 hown3 hgr3 hat3; have hT := belowApp (below_alloc hT _) (hO.alloc _) hgr3)
      | (refine step_appR wc rfl _ _ _ _ 90 rfl Try.underlying33 Try.underlying33 w2.heap.size vc (l.take p) rfl hO (some ⟨w2.heap.size, 0, none⟩) 1 _ 1 [(key, num)] rfl rfl ((rdOneD w2 key num 90).below hbc) (by simp; omega) hT.size ?_; intro v3 w3 hown3 hgr3 hat3; have hT := belowApp hT hO hgr3)
      | (refine step_appR w3 rfl _ _ _ _ 90 rfl Try.underlying33 Try.underlying33 w2.heap.size v3 (l.take p ++ [(key, num)]) rfl hown3 (cutA A c p) (c - p) _ (l.length - p) (l.drop p) (List.length_drop) rfl (rdDp hr2 p c hlc hT) (by simp; omega) hT.size ?_; intro v4 w4 hown4 hgr4 hat4; have hT := belowApp hT hown3 hgr4))
  all_goals
    go_wp2
    go_ret
    exact ⟨v4, rfl, ownLow hb12 (by rw [HE.out]; exact hown4), below_next hb12 hT⟩

/-- the number of row k of the call's own rows is set -/
theorem setNum_own {w : World} {base g cap : Nat} {cur : Array Value} {l : List R} (hb : base ≤ g) (h : Blk w g 90 cur) (hl : l.length ≤ cap) (hc : cap ≤ maxLen) (hs : cur.size = cap * 2)
    (ht : cur.toList.take (l.length * 2) = cellsR l) (k : Nat) (hk : k < l.length) (num : Int) : OwnR (w.setCell ⟨g, k * 2 + 1, none⟩ (.int .i64 num)) base (.slice (some ⟨g, 0, none⟩) l.length cap) (l.set k (l[k].1, num)) := by
  have e := OwnR.mk (l := l.set k (l[k].1, num)) hb (h.set_ (k * 2 + 1) (.int .i64 num)) (by simpa using hl) hc (by simpa using hs) (by
    apply take_ext
    · simp; omega
    · intro i r hi
      have hil : i < l.length := by have := (List.getElem?_eq_some_iff.1 hi).1; simpa using this
      have k0 := cellsR_key l i l[i] (List.getElem?_eq_getElem hil)
      have n0 := cellsR_num l i l[i] (List.getElem?_eq_getElem hil)
      rw [← ht, List.getElem?_take_of_lt (by omega)] at k0 n0
      have k1 : cur[i * 2]? = some (.string l[i].1) := by simpa using k0
      have n1 : cur[i * 2 + 1]? = some (.int .i64 l[i].2) := by simpa using n0
      by_cases e : i = k
      · subst e
        have er : r = (l[i].1, num) := by rw [List.getElem?_set_self hil] at hi; exact (Option.some.inj hi).symm
        subst er
        rw [Array.getElem?_setIfInBounds_ne (by omega), Array.getElem?_setIfInBounds_self_of_lt (by omega)]
        exact ⟨k1, rfl⟩
      · have er : r = l[i] := by rw [List.getElem?_set_ne (by omega), List.getElem?_eq_getElem hil] at hi; exact (Option.some.inj hi).symm
        subst er
        rw [Array.getElem?_setIfInBounds_ne (by omega), Array.getElem?_setIfInBounds_ne (by omega)]
        exact ⟨k1, n1⟩)
  simpa using e

theorem hasB_key {l : List R} {key : ByteArray} (h : hasB l key = true) : (l[posN l key]'(hasB_lt h)).1 = key := by
  rw [hasB_at (posN_pos l key) (hasB_lt h)] at h
  exact str_eq h
theorem putL_has {l : List R} {key : ByteArray} {num : Int} (h : hasB l key = true) : putL l key num = l.set (posN l key) ((l[posN l key]'(hasB_lt h)).1, num) := by
  unfold putL
  rw [h, hasB_key h, List.set_eq_take_append_cons_drop, if_pos (hasB_lt h)]
  simp

set_option maxRecDepth 100000 in
set_option maxHeartbeats 1000000 in
theorem specPut1_has (A : Option Addr) (c : Nat) (l : List R) (key : ByteArray) (num : Int) (w : World) (hlc : l.length ≤ c) (hc : l.length ≤ 1048576) (hr : Rd w w.heap.size A l) (hh : hasB l key = true) :
    Calls Try.prog 120 #[.slice A l.length c, .string key, .int .i64 num] w (RetR w (putL l key num)) := by
  obtain ⟨p, hlt, hp, he⟩ : ∃ p, ∃ h : p < l.length, posN l key = p ∧ putL l key num = l.set p (l[p].1, num) := ⟨posN l key, hasB_lt hh, rfl, putL_has hh⟩
  have HE := Lib.hid he
  have HP := Lib.hid hp
  clear hp he
  go_enter Try.func120, Try.ntmps120
  go_wp2_with fail
  refine (specFind A c l key w (by omega) hr).mono ?_
  rintro e w1 ⟨rfl, n1, rfl⟩
  rw [HP.out, hh]
  have hb1 : Below w.heap.size w (w.drewN n1) := below_drewN (Below.refl _ _) n1
  generalize w.drewN n1 = w1 at *
  have hr1 := (hr.below hb1).more hb1.size
  go_wp2_with fail
  refine (specCopy A c l w1 (by omega) hr1).mono ?_
  rintro e w2 ⟨v2, rfl, hown2, hb2⟩
  rcases hown2.cases with ⟨_, e0⟩ | ⟨g, cap, cur, rfl, hbg, hblk, hl, hm, hs, ht⟩
  · subst e0; simp at hlt
  have hHT := Lib.hid ht
  have hHS := Lib.hid hs
  have hs1 : p * 2 + 1 < cur.size := by rw [hs]; omega
  have hw2 := below_next hb1 hb2
  clear ht hs hown2
  have g1 : w2.cell? ⟨g, p * 2 + 1, none⟩ = some cur[p * 2 + 1] := by rw [hblk.cell]; exact Array.getElem?_eq_getElem hs1
  have g2 := hblk.free (p * 2 + 1)
  have hi1 : (p : Int) < (l.length : Int) := by omega
  go_wp2
  go_ret
  have hge := hb1.size
  exact ⟨_, rfl, by rw [HE.out]; exact (setNum_own hbg hblk hl hm hHS.out hHT.out p hlt num).low hb1.size, hw2.setCell (Nat.le_trans hge hbg) _⟩

theorem specPut1 (A : Option Addr) (c : Nat) (l : List R) (key : ByteArray) (num : Int) (w : World) (hlc : l.length ≤ c) (hc : l.length ≤ 1048576) (hr : Rd w w.heap.size A l) :
    Calls Try.prog 120 #[.slice A l.length c, .string key, .int .i64 num] w (RetR w (putL l key num)) := by
  cases hh : hasB l key
  · exact specPut1_new A c l key num w hlc hc hr hh
  · exact specPut1_has A c l key num w hlc hc hr hh

end Go.Proofs.Ytbhdgalkedegjaa
