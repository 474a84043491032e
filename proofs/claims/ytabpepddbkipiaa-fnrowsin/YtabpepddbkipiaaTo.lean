/- The law's copies of rows: each in new memory, known whole. -/
import Derived.Test.YtabpepddbkipiaaMem
namespace Go.Proofs.Ytabpepddbkipiaa
open Go.RowKit
set_option linter.unusedVariables false

set_option maxHeartbeats 400000 in
theorem toRow_c (s : ByteArray) (n : Int) (w : World) :
    Calls Try.prog 55 #[.agg #[.string s, .int .i64 n]] w fun e w' => e = .returned (.agg #[.string s, .int .i64 n]) ∧ Below w.heap.size w w' := by
  go_enter Try.func55, Try.ntmps55
  go_wp2
  exact bodyPost_ret (v := .agg #[.string s, .int .i64 n]) (by simp [results, Try.results55, go_sem]) rfl ⟨rfl, (((Below.refl _ _).alloc (Nat.le_refl _) _).alloc (by simp) _).alloc (by simp; omega) _⟩

set_option maxHeartbeats 400000 in
theorem toRowS_c (A : Option Addr) (c : Nat) (l : List R) (w : World) (hc : l.length ≤ c) (hcm : l.length ≤ 1048576) (hr : Rd w w.heap.size A l) :
    Calls Try.prog 25 #[.slice A l.length c] w fun e w' => ∃ g, e = .returned (.slice (some ⟨g, 0, none⟩) l.length l.length) ∧ w.heap.size ≤ g ∧ Blk w' g 50 (cellsR l).toArray ∧ Below w.heap.size w w' := by
  have hmk := mkR l.length l.length (Nat.le_refl _) (by omega)
  go_enter Try.func25, Try.ntmps25
  go_wp2
  clear hmk
  go_loopw [4] (fun i W => ∃ k : Nat, k ≤ l.length ∧ i = .int .i64 k ∧ ∃ cs : Array Value, Blk W w.heap.size 50 cs ∧ cs.size = l.length * 2 ∧ (∀ j r, j < k → l[j]? = some r → cs[j * 2]? = some (.string r.1) ∧ cs[j * 2 + 1]? = some (.int .i64 r.2)) ∧ Below w.heap.size w W) (fun i _ => l.length - (intOf i).toNat)
  case atStart => exact ⟨0, Nat.zero_le _, rfl, _, heap_alloc_new _ _, freshR_size _, fun j r h => absurd h (by omega), (Below.refl _ _).alloc (Nat.le_refl _) _⟩
  case round =>
    obtain ⟨k, hk, rfl, cs, hblk, hsz, hcs, hb⟩ := hrel
    by_cases hkl : k < l.length
    · obtain ⟨b, o, rfl, hbB, hc1, hc2⟩ := (hr.below hb).at_ hkl
      have HCS := Lib.hid hcs
      have HSZ := Lib.hid hsz
      clear hcs hsz
      have hs1 : k * 2 < cs.size := by rw [HSZ.out]; omega
      have hs2 : k * 2 + 1 < cs.size := by rw [HSZ.out]; omega
      go_wp2_with ((go_at_call 55; refine (toRow_c _ _ _).mono ?_; rintro e w' ⟨rfl, hb2⟩; have hblk2 := Lib.hid (hblk.next hb2); have g1 : w'.cell? ⟨w.heap.size, k * 2, none⟩ = some cs[k * 2] := by { rw [hblk2.out.cell]; exact Array.getElem?_eq_getElem hs1 }; have g2 : w'.cell? ⟨w.heap.size, k * 2 + 1, none⟩ = some cs[k * 2 + 1] := by { rw [hblk2.out.cell]; exact Array.getElem?_eq_getElem hs2 }; have g3 := hblk2.out.free (k * 2); have g4 := hblk2.out.free (k * 2 + 1)))
      go_roundw
      case rel => exact ⟨k + 1, by omega, by go_num, putR cs k l[k], (hblk2.out.set_ _ _).set_ _ _, (putR_size _ _ _).trans HSZ.out, putR_step l cs k hkl HSZ.out HCS.out, ((hb.trans (hb2.mono hb.size)).setCell (Nat.le_refl _) _).setCell (Nat.le_refl _) _⟩
      case measure => simp [intOf]; omega
    · have hkk : k = l.length := by omega
      have HK := Lib.hid hkk
      have HCS := Lib.hid hcs
      have HSZ := Lib.hid hsz
      clear hkk hcs hsz
      go_wp2
      go_ret
      refine ⟨_, rfl, Nat.le_refl _, ?_, hb⟩
      rw [← cellsR_ext l cs HSZ.out fun i r hi => HCS.out i r (by rw [HK.out]; exact (List.getElem?_eq_some_iff.1 hi).1) hi]
      exact hblk

end Go.Proofs.Ytabpepddbkipiaa
