/- The program's splice, put and cut over rows. -/
import Derived.Test.YtbhdgalkedegjaaPut
namespace Go.Proofs.Ytbhdgalkedegjaa
open Go.RowKit
set_option linter.unusedVariables false

theorem OwnR.made (w : World) (base c : Nat) (hb : base ≤ w.heap.size) (hc : c ≤ maxLen) : OwnR (w.alloc (.cells (freshR c) 90)) base (.slice (some ⟨w.heap.size, 0, none⟩) 0 c) [] :=
  OwnR.mk (l := []) hb (heap_alloc_new w _) (Nat.zero_le _) hc (freshR_size c) rfl

set_option maxRecDepth 100000 in
set_option maxHeartbeats 1000000 in
theorem splice_c (A : Option Addr) (c : Nat) (l : List R) (f t : Nat) (A2 : Option Addr) (n2 c2 : Nat) (l2 : List R) (hn2 : l2.length = n2) (w : World) (hlc : l.length ≤ c) (hc : l.length ≤ 1048576) (h2 : n2 ≤ 1048576) (hft : f ≤ t) (ht : t ≤ l.length)
    (hr : Rd w w.heap.size A l) (hr2 : Rd w w.heap.size A2 l2) :
    Calls Try.prog 96 #[.slice A l.length c, .int .i64 f, .int .i64 t, .slice A2 n2 c2] w (RetR w (l.take f ++ l2 ++ l.drop t)) := by
  have hmk := mkRt 117 Try.underlying117 0 (l.length - (t - f) + n2) (Nat.zero_le _) (by omega)
  rw [show ((l.length - (t - f) + n2 : Nat) : Int) = (l.length : Int) - ((t : Int) - (f : Int)) + (n2 : Int) from by omega, show ((0 : Nat) : Int) = 0 from rfl] at hmk
  have hO := OwnR.made w w.heap.size (l.length - (t - f) + n2) (Nat.le_refl _) (by unfold maxLen; omega)
  have hT : Below w.heap.size w (w.alloc (.cells (freshR (l.length - (t - f) + n2)) 90)) := below_alloc (Below.refl _ _) _
  generalize l.length - (t - f) + n2 = C at *
  have hcut := runCut 117 Try.underlying117 A l.length c t ht hlc
  have hi1 : (0 : Int) ≤ (f : Int) := by omega
  have hi2 : (f : Int) ≤ (c : Int) := by omega
  have hi3 : (f : Int) ≤ (t : Int) := by omega
  have hi4 : (t : Int) ≤ (l.length : Int) := by omega
  go_enter Try.func96, Try.ntmps96
  go_wp2_with (first
    | (at_builtin; refine wpList_appR (w.alloc (.cells (freshR C) 90)) rfl _ _ _ _ 90 rfl Try.underlying117 Try.underlying117 w.heap.size _ [] rfl hO A c _ f (l.take f) (by simp; omega) rfl (rdTk hr f hT) (by simp; omega) hT.size ?_; intro v3 w3 hown3 hgr3 hat3; have hT := belowApp hT hO hgr3; clear hmk)
    | (at_builtin; refine wpList_appR w3 rfl _ _ _ _ 90 rfl Try.underlying117 Try.underlying33 w.heap.size v3 ([] ++ l.take f) rfl hown3 A2 c2 _ n2 l2 hn2 rfl (hr2.below hT) (by simp; omega) hT.size ?_; intro v4 w4 hown4 hgr4 hat4; have hT := belowApp hT hown3 hgr4)
    | (at_builtin; refine wpList_appR w4 rfl _ _ _ _ 90 rfl Try.underlying117 Try.underlying117 w.heap.size v4 ([] ++ l.take f ++ l2) rfl hown4 (cutA A c t) (c - t) _ (l.length - t) (l.drop t) List.length_drop rfl (rdDp hr t c hlc hT) (by simp; omega) hT.size ?_; intro v5 w5 hown5 hgr5 hat5; have hT := belowApp hT hown4 hgr5))
  go_ret
  exact ⟨v5, rfl, by simpa using hown5, hT⟩

set_option maxRecDepth 100000 in
set_option maxHeartbeats 1000000 in
theorem implPut1 (A : Option Addr) (c : Nat) (l : List R) (key : ByteArray) (num : Int) (w : World) (hlc : l.length ≤ c) (hc : l.length ≤ 1048576) (hr : Rd w w.heap.size A l) (ha : AscP l) :
    Calls Try.prog 95 #[.slice A l.length c, .agg #[.string key, .int .i64 num]] w (RetR w (putL l key num)) := by
  have hm := method_key
  have hple := (posN_pos l key).le
  cases hh : hasB l key
  · have HE := Lib.hid (show putL l key num = l.take (posN l key) ++ [(key, num)] ++ l.drop (posN l key) from by unfold putL; rw [hh]; rfl)
    generalize hp : posN l key = p at *
    have HP := Lib.hid hp
    clear hp
    have hb0 : Below w.heap.size w (w.alloc (.cells #[.string key, .int .i64 num] 90)) := below_alloc (Below.refl _ _) _
    go_enter Try.func95, Try.ntmps95
    go_wp2_with fail
    refine (sortKey_c _ _ _).mono ?_
    rintro e w1 ⟨rfl, hb1⟩
    have hw1 := below_next hb0 hb1
    have hr1 := (hr.below hw1).more hw1.size
    have hblk : Blk (w.alloc (.cells #[.string key, .int .i64 num] 90)) w.heap.size 90 #[.string key, .int .i64 num] := heap_alloc_new _ _
    have hblk1 := hblk.next hb1
    go_wp2_with fail
    refine (implFind A c l key w1 (by omega) hr1 ha).mono ?_
    rintro e w2 ⟨rfl, hb2⟩
    have hw2 := below_next hw1 hb2
    have hblk2 := hblk1.next hb2
    rw [HP.out, hh]
    have hr2 := (hr.below hw2).more hw2.size
    have c1 : w2.cell? ⟨w.heap.size, 0, none⟩ = some (.string key) := by rw [hblk2.cell]; rfl
    have c2 : w2.cell? ⟨w.heap.size, 1, none⟩ = some (.int .i64 num) := by rw [hblk2.cell]; rfl
    go_wp2_with fail
    have hw3 := below_alloc hw2 (.cells #[.string key, .int .i64 num] 90)
    refine (splice_c A c l p p _ 1 1 [(key, num)] rfl _ hlc (by omega) (by omega) (Nat.le_refl _) hple ((hr.below hw3).more hw3.size) (rdOne w2 key num 90)).mono ?_
    rintro e w4 ⟨v4, rfl, hown4, hb4⟩
    go_wp2
    go_ret
    exact ⟨v4, rfl, ownLow hw3 (by rw [HE.out]; exact hown4), below_next hw3 hb4⟩
  · have hlt := hasB_lt hh
    have HE := Lib.hid (show putL l key num = l.take (posN l key) ++ [(key, num)] ++ l.drop (posN l key + 1) from by unfold putL; rw [hh]; rfl)
    generalize hp : posN l key = p at *
    have HP := Lib.hid hp
    clear hp
    have hb0 : Below w.heap.size w (w.alloc (.cells #[.string key, .int .i64 num] 90)) := below_alloc (Below.refl _ _) _
    go_enter Try.func95, Try.ntmps95
    go_wp2_with fail
    refine (sortKey_c _ _ _).mono ?_
    rintro e w1 ⟨rfl, hb1⟩
    have hw1 := below_next hb0 hb1
    have hr1 := (hr.below hw1).more hw1.size
    have hblk : Blk (w.alloc (.cells #[.string key, .int .i64 num] 90)) w.heap.size 90 #[.string key, .int .i64 num] := heap_alloc_new _ _
    have hblk1 := hblk.next hb1
    go_wp2_with fail
    refine (implFind A c l key w1 (by omega) hr1 ha).mono ?_
    rintro e w2 ⟨rfl, hb2⟩
    have hw2 := below_next hw1 hb2
    have hblk2 := hblk1.next hb2
    rw [HP.out, hh]
    have hr2 := (hr.below hw2).more hw2.size
    have c1 : w2.cell? ⟨w.heap.size, 0, none⟩ = some (.string key) := by rw [hblk2.cell]; rfl
    have c2 : w2.cell? ⟨w.heap.size, 1, none⟩ = some (.int .i64 num) := by rw [hblk2.cell]; rfl
    go_wp2_with fail
    have hw3 := below_alloc hw2 (.cells #[.string key, .int .i64 num] 90)
    rw [show ((p : Int) + 1) = ((p + 1 : Nat) : Int) from by omega]
    refine (splice_c A c l p (p + 1) _ 1 1 [(key, num)] rfl _ hlc (by omega) (by omega) (by omega) hlt ((hr.below hw3).more hw3.size) (rdOne w2 key num 90)).mono ?_
    rintro e w4 ⟨v4, rfl, hown4, hb4⟩
    go_wp2
    go_ret
    exact ⟨v4, rfl, ownLow hw3 (by rw [HE.out]; exact hown4), below_next hw3 hb4⟩

end Go.Proofs.Ytbhdgalkedegjaa
