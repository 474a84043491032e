/- The laws' comparisons of texts; marks in texts. -/
import Derived.Test.YtabpepddbkipiaaTxt
namespace Go.Proofs.Ytabpepddbkipiaa
open Go.RowKit
set_option linter.unusedVariables false

set_option maxRecDepth 100000 in
set_option maxHeartbeats 400000 in
theorem eqStringS_c (A A' : Option Addr) (c c' : Nat) (l l' : List ByteArray) (w : World) (hc : l.length ≤ 2097152) (hc' : l'.length ≤ 2097152) (hr : RdS w w.heap.size A l) (hr' : RdS w w.heap.size A' l') :
    Calls Try.prog 42 #[.slice A l.length c, .slice A' l'.length c'] w fun e w' => e = .returned (.bool (eqT l l')) ∧ ∃ n, w' = w.drewN n := by
  by_cases hlen : l.length = l'.length
  · have hne : ((l.length : Int) != (l'.length : Int)) = false := by simp [hlen]
    have HL := Lib.hid hlen
    have hle1 : l.length ≤ l'.length := by omega
    have hle2 : l'.length ≤ l.length := by omega
    clear hlen
    go_enter Try.func42, Try.ntmps42
    go_wp2
    go_loopw [5] (fun i W => ∃ k : Nat, k ≤ l.length ∧ i = .int .i64 k ∧ (∃ n, W = w.drewN n) ∧ l.take k = l'.take k) (fun i _ => l.length - (intOf i).toNat)
    case atStart => exact ⟨0, Nat.zero_le _, rfl, ⟨0, rfl⟩, rfl⟩
    case round =>
      obtain ⟨k, hk, rfl, ⟨nd, hW⟩, ht⟩ := hrel
      have HT := Lib.hid ht
      have HW := Lib.hid hW
      have hr1 : RdS wr w.heap.size A l := by rw [hW]; exact hr
      have hr1' : RdS wr w.heap.size A' l' := by rw [hW]; exact hr'
      clear ht hW hr hr'
      by_cases hkl : k < l.length
      · have hkl' : k < l'.length := by omega
        obtain ⟨b, o, rfl, hbB, hc1⟩ := hr1.at_ hkl
        obtain ⟨b', o', rfl, hbB', hc1'⟩ := hr1'.at_ hkl'
        cases he : (l[k].toList == l'[k].toList)
        · have HN := Lib.hid (eqT_no fun h : l = l' => by
            have e : (l[k].toList == l'[k].toList) = true := by subst h; simp
            rw [he] at e; cases e)
          go_wp2
          go_quiet (fail)
          go_wp2
          go_ret
          exact ⟨ret_bool HN.out.symm, _, by rw [HW.out, World.drewN_drewN]⟩
        · have HE := Lib.hid (str_eq he)
          go_wp2
          go_quiet (fail)
          go_wp2
          go_roundw
          case rel => exact ⟨k + 1, by omega, by go_num, ⟨_, by rw [HW.out, World.drewN_drewN]⟩, by rw [List.take_succ_eq_append_getElem hkl, List.take_succ_eq_append_getElem hkl', HT.out, HE.out]⟩
          case measure => simp [intOf]; omega
      · have HN := Lib.hid (show k = l.length from by omega)
        go_wp2
        go_ret
        refine ⟨ret_bool (eqT_yes ?_).symm, nd, HW.out⟩
        have e := HT.out
        rw [HN.out, List.take_length, HL.out, List.take_length] at e
        exact e
  · have hne : ((l.length : Int) != (l'.length : Int)) = true := by simp; omega
    have HL := Lib.hid hlen
    clear hlen
    go_enter Try.func42, Try.ntmps42
    go_wp2
    go_ret
    exact ⟨ret_bool (eqT_no fun h => HL.out (congrArg List.length h)).symm, 0, rfl⟩
theorem eqStringS_o {v v' : Value} {l l' : List ByteArray} {base base' : Nat} {w : World} (h : OwnS w base v l) (h' : OwnS w base' v' l') (hl : l.length ≤ 2097152) (hl' : l'.length ≤ 2097152) :
    Calls Try.prog 42 #[v, v'] w fun e w' => e = .returned (.bool (eqT l l')) ∧ Below w.heap.size w w' := by
  obtain ⟨A, c, rfl, _, _, hr⟩ := h.read
  obtain ⟨A', c', rfl, _, _, hr'⟩ := h'.read
  refine (eqStringS_c A A' c c' l l' w hl hl' hr hr').mono ?_
  rintro e w' ⟨rfl, n, rfl⟩
  exact ⟨rfl, below_drewN (Below.refl _ _) n⟩

set_option maxRecDepth 100000 in
set_option maxHeartbeats 400000 in
theorem wpTexts_c (A A' : Option Addr) (c c' : Nat) (l l' : List ByteArray) (w : World) (hc : l.length ≤ 2097152) (hc' : l'.length ≤ 2097152) (hr : RdS w w.heap.size A l) (hr' : RdS w w.heap.size A' l') :
    Calls Try.prog 51 #[.slice A l.length c, .slice A' l'.length c'] w fun e w' => e = .returned (.bool (eqT l l')) ∧ ∃ n, w' = w.drewN n := by
  by_cases hlen : l.length = l'.length
  · have hne : ((l.length : Int) != (l'.length : Int)) = false := by simp [hlen]
    have HL := Lib.hid hlen
    have hle1 : l.length ≤ l'.length := by omega
    have hle2 : l'.length ≤ l.length := by omega
    clear hlen
    go_enter Try.func51, Try.ntmps51
    go_wp2
    go_loopw [5] (fun i W => ∃ k : Nat, k ≤ l.length ∧ i = .int .i64 k ∧ (∃ n, W = w.drewN n) ∧ l.take k = l'.take k) (fun i _ => l.length - (intOf i).toNat)
    case atStart => exact ⟨0, Nat.zero_le _, rfl, ⟨0, rfl⟩, rfl⟩
    case round =>
      obtain ⟨k, hk, rfl, ⟨nd, hW⟩, ht⟩ := hrel
      have HT := Lib.hid ht
      have HW := Lib.hid hW
      have hr1 : RdS wr w.heap.size A l := by rw [hW]; exact hr
      have hr1' : RdS wr w.heap.size A' l' := by rw [hW]; exact hr'
      clear ht hW hr hr'
      by_cases hkl : k < l.length
      · have hkl' : k < l'.length := by omega
        obtain ⟨b, o, rfl, hbB, hc1⟩ := hr1.at_ hkl
        obtain ⟨b', o', rfl, hbB', hc1'⟩ := hr1'.at_ hkl'
        cases he : (l[k].toList == l'[k].toList)
        · have HN := Lib.hid (eqT_no fun h : l = l' => by
            have e : (l[k].toList == l'[k].toList) = true := by subst h; simp
            rw [he] at e; cases e)
          go_wp2
          go_quiet (fail)
          go_wp2
          go_ret
          exact ⟨ret_bool HN.out.symm, _, by rw [HW.out, World.drewN_drewN]⟩
        · have HE := Lib.hid (str_eq he)
          go_wp2
          go_quiet (fail)
          go_wp2
          go_roundw
          case rel => exact ⟨k + 1, by omega, by go_num, ⟨_, by rw [HW.out, World.drewN_drewN]⟩, by rw [List.take_succ_eq_append_getElem hkl, List.take_succ_eq_append_getElem hkl', HT.out, HE.out]⟩
          case measure => simp [intOf]; omega
      · have HN := Lib.hid (show k = l.length from by omega)
        go_wp2
        go_ret
        refine ⟨ret_bool (eqT_yes ?_).symm, nd, HW.out⟩
        have e := HT.out
        rw [HN.out, List.take_length, HL.out, List.take_length] at e
        exact e
  · have hne : ((l.length : Int) != (l'.length : Int)) = true := by simp; omega
    have HL := Lib.hid hlen
    clear hlen
    go_enter Try.func51, Try.ntmps51
    go_wp2
    go_ret
    exact ⟨ret_bool (eqT_no fun h => HL.out (congrArg List.length h)).symm, 0, rfl⟩
theorem wpTexts_o {v v' : Value} {l l' : List ByteArray} {base base' : Nat} {w : World} (h : OwnS w base v l) (h' : OwnS w base' v' l') (hl : l.length ≤ 2097152) (hl' : l'.length ≤ 2097152) :
    Calls Try.prog 51 #[v, v'] w fun e w' => e = .returned (.bool (eqT l l')) ∧ Below w.heap.size w w' := by
  obtain ⟨A, c, rfl, _, _, hr⟩ := h.read
  obtain ⟨A', c', rfl, _, _, hr'⟩ := h'.read
  refine (wpTexts_c A A' c c' l l' w hl hl' hr hr').mono ?_
  rintro e w' ⟨rfl, n, rfl⟩
  exact ⟨rfl, below_drewN (Below.refl _ _) n⟩

def marksS (n k : Nat) : List ByteArray := (List.range n).map fun i => mt (k + i)
theorem marksS_length (n k : Nat) : (marksS n k).length = n := by simp [marksS]
theorem marksS_get (n k i : Nat) (r : ByteArray) (h : (marksS n k)[i]? = some r) : i < n ∧ r = mt (k + i) := by
  have hi : i < n := by have := (List.getElem?_eq_some_iff.1 h).1; simpa [marksS_length] using this
  refine ⟨hi, ?_⟩
  unfold marksS at h
  rw [List.getElem?_map, List.getElem?_range hi] at h
  simpa using h.symm
theorem takeS_ext (l : List ByteArray) (cs : Array Value) (hs : l.length ≤ cs.size) (h : ∀ (i : Nat) (s : ByteArray), l[i]? = some s → cs[i]? = some (Value.string s)) : cs.toList.take l.length = cellsS l := by
  apply List.ext_getElem?
  intro i
  by_cases hi : i < l.length
  · rw [List.getElem?_take_of_lt hi]
    have := h i l[i] (List.getElem?_eq_getElem hi)
    simp [cellsS, List.getElem?_eq_getElem hi]
    simpa using this
  · rw [List.getElem?_eq_none (by simp; omega), List.getElem?_eq_none (by simp [cellsS_length]; omega)]

set_option maxRecDepth 100000 in
set_option maxHeartbeats 1000000 in
theorem markStringS_some (g n cap k : Nat) (cur : Array Value) (w : World) (hblk : Blk w g 9 cur) (hn : n ≤ cap) (hs : cur.size = cap) (h0 : 0 < k) (hk : k + n ≤ 8388608) :
    Calls Try.prog 43 #[.slice (some ⟨g, 0, none⟩) n cap, .int .i64 k] w fun e w' => e = .returned (.int .i64 (k + n : Nat)) ∧
      ∃ cur', Blk w' g 9 cur' ∧ cur'.size = cap ∧ cur'.toList.take n = cellsS (marksS n k) ∧ w.grownBy w' (some g) := by
  go_enter Try.func43, Try.ntmps43
  go_wp2
  go_loopw [1, 5] (fun kk i W => ∃ j : Nat, j ≤ n ∧ i = .int .i64 j ∧ kk = .int .i64 (k + j : Nat) ∧ ∃ cs : Array Value, Blk W g 9 cs ∧ cs.size = cap ∧ (∀ i, i < j → cs[i]? = some (.string (mt (k + i)))) ∧ w.grownBy W (some g)) (fun _ i _ => n - (intOf i).toNat)
  case atStart => exact ⟨0, Nat.zero_le _, rfl, rfl, cur, hblk, hs, fun i h => absurd h (by omega), World.grownBy.refl _ _⟩
  case round =>
    obtain ⟨j, hj, rfl, rfl, cs, hb, hsz, hcs, hg⟩ := hrel
    have HCS := Lib.hid hcs
    have HSZ := Lib.hid hsz
    clear hcs hsz
    by_cases hjn : j < n
    · have hs1 : j < cs.size := by rw [HSZ.out]; omega
      have hkj : 0 < k + j := by omega
      have hkj2 : k + j + 1 ≤ 8388608 := by omega
      generalize hK : k + j = K at *
      have HK := Lib.hid hK
      clear hK
      go_wp2_with ((go_at_call 65; refine (markText_c K _ hkj (by omega)).mono ?_; rintro e w' ⟨rfl, hb2⟩; have hblk2 := Lib.hid (hb.next hb2); have g1 : w'.cell? ⟨g, j, none⟩ = some cs[j] := by { rw [hblk2.out.cell]; exact Array.getElem?_eq_getElem hs1 }; have g3 := hblk2.out.free j))
      go_roundw
      case rel => exact ⟨j + 1, by omega, by go_num, by rw [← HK.out]; go_num, cs.setIfInBounds j (.string (mt K)), hblk2.out.set_ _ _, by rw [Array.size_setIfInBounds]; exact HSZ.out, fun i hi => by
        by_cases e : i = j
        · subst e
          rw [Array.getElem?_setIfInBounds_self_of_lt hs1, HK.out]
        · rw [Array.getElem?_setIfInBounds_ne (by omega)]
          exact HCS.out i (by omega), grown_set (grown_call hg hb2) _⟩
      case measure => simp [intOf]; omega
    · have hjj : j = n := by omega
      subst hjj
      go_wp2
      go_ret
      exact ⟨ret_int (by omega), cs, hb, HSZ.out, by
        have e := takeS_ext (marksS j k) cs (by rw [marksS_length, HSZ.out]; omega) fun i r hi => by
          obtain ⟨h1, rfl⟩ := marksS_get j k i r hi
          exact HCS.out i h1
        rwa [marksS_length] at e, hg⟩

set_option maxRecDepth 100000 in
set_option maxHeartbeats 1000000 in
theorem markStringS_nil (k : Nat) (w : World) :
    Calls Try.prog 43 #[.slice none 0 0, .int .i64 k] w fun e w' => e = .returned (.int .i64 k) ∧ w = w' := by
  go_enter Try.func43, Try.ntmps43
  go_wp2
  go_loop [1, 5] (fun kk i => kk = .int .i64 k ∧ i = .int .i64 0) (fun _ _ => 0)
  case atStart => exact ⟨rfl, rfl⟩
  case round =>
    obtain ⟨rfl, rfl⟩ := hrel
    go_wp2
    go_ret
    exact ⟨rfl, rfl⟩

theorem markS_c (v : Value) (l : List ByteArray) (base k : Nat) (w : World) (h : OwnS w base v l) (h0 : 0 < k) (hk : k + l.length ≤ 8388608) :
    Calls Try.prog 43 #[v, .int .i64 k] w fun e w' => e = .returned (.int .i64 (k + l.length : Nat)) ∧ OwnS w' base v (marksS l.length k) ∧ w.grownBy w' v.ownBlock := by
  rcases h.cases with ⟨rfl, rfl⟩ | ⟨g, cap, cur, rfl, hb, hblk, hl, hm, hs, ht⟩
  · refine (markStringS_nil k w).mono ?_
    rintro e w' ⟨rfl, rfl⟩
    exact ⟨rfl, OwnS.nil _ _, World.grownBy.refl _ _⟩
  · refine (markStringS_some g l.length cap k cur w hblk hl hs h0 hk).mono ?_
    rintro e w' ⟨rfl, cur', h1, h2, h3, h4⟩
    refine ⟨rfl, ?_, h4⟩
    have e := OwnS.mk (l := marksS l.length k) hb h1 (by rw [marksS_length]; exact hl) hm h2 (by rw [marksS_length]; exact h3)
    rwa [marksS_length] at e

set_option maxRecDepth 100000 in
set_option maxHeartbeats 1000000 in
theorem heldStringS_c (A : Option Addr) (c n k : Nat) (w : World) (h0 : 0 < k) (hk : k + n ≤ 8388608) (hr : RdS w w.heap.size A (marksS n k)) :
    Calls Try.prog 44 #[.slice A n c, .int .i64 k] w fun e w' => e = .returned (.int .i64 (k + n : Nat)) ∧ Below w.heap.size w w' := by
  go_enter Try.func44, Try.ntmps44
  go_wp2
  go_loopw [1, 5] (fun kk i W => ∃ j : Nat, j ≤ n ∧ i = .int .i64 j ∧ kk = .int .i64 (k + j : Nat) ∧ Below w.heap.size w W) (fun _ i _ => n - (intOf i).toNat)
  case atStart => exact ⟨0, Nat.zero_le _, rfl, rfl, Below.refl _ _⟩
  case round =>
    obtain ⟨j, hj, rfl, rfl, hb⟩ := hrel
    by_cases hjn : j < n
    · have hml : j < (marksS n k).length := by rw [marksS_length]; exact hjn
      obtain ⟨b, o, rfl, hbB, hc1⟩ := (hr.below hb).at_ hml
      have hv := (marksS_get n k j _ (List.getElem?_eq_getElem hml)).2
      rw [hv] at hc1
      clear hv
      have hkj : 0 < k + j := by omega
      have hkj2 : k + j + 1 ≤ 8388608 := by omega
      generalize hK : k + j = K at *
      have HK := Lib.hid hK
      clear hK
      have hq : b < wr.heap.size := Nat.lt_of_lt_of_le hbB hb.size
      have hbT : Below wr.heap.size wr wr.drew := (Below.refl _ _).drew
      go_wp2
      go_region_held3 (fun W => W.cell? ⟨b, o + j, none⟩ = some (.string (mt K))) (first | exact hc1 | exact (hbT.cell hq).trans hc1)
          (first | (go_at_call 65; refine (markText_c K _ hkj (by omega)).mono ?_; rintro e w' ⟨rfl, hb2⟩; have hbT := hbT.trans (hb2.mono hbT.size); clear hb2))
      go_wp2
      go_roundw
      case rel => exact ⟨j + 1, by omega, by go_num, by rw [← HK.out]; go_num, hb.trans (hbT.mono hb.size)⟩
      case measure => simp [intOf]; omega
    · have hjj : j = n := by omega
      subst hjj
      go_wp2
      go_ret
      exact ⟨ret_int (by omega), hb⟩

theorem heldS_c (v : Value) (n base k : Nat) (w : World) (h : OwnS w base v (marksS n k)) (h0 : 0 < k) (hk : k + n ≤ 8388608) :
    Calls Try.prog 44 #[v, .int .i64 k] w fun e w' => e = .returned (.int .i64 (k + n : Nat)) ∧ Below w.heap.size w w' := by
  obtain ⟨A, c, rfl, _, _, hr⟩ := h.read
  rw [marksS_length]
  exact heldStringS_c A c n k w h0 hk hr

end Go.Proofs.Ytabpepddbkipiaa
