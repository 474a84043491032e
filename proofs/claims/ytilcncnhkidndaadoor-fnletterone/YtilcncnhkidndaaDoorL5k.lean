/- Equal lists of letters are told to be equal. -/
import Derived.Test.YtilcncnhkidndaaDoorFlLetter
import Derived.Deep.RegionHeld3
namespace Go.Proofs.YtilcncnhkidndaaDoor
open Go.RowKit
set_option linter.unusedVariables false
set_option maxRecDepth 100000

set_option maxHeartbeats 4000000 in
theorem wpLet_c (A A' : Option Addr) (c c' : Nat) (ls : List LE) (w : World) (hl : ls.length ≤ 2097152) (hr : RdG w w.heap.size A ls) (hr' : RdG w w.heap.size A' ls) :
  Calls Tryd.prog 23 #[.slice A ls.length c, .slice A' ls.length c'] w fun e w' => e = .returned (.bool true) ∧ Below w.heap.size w w' := by
 go_enter Tryd.func23, Tryd.ntmps23
 go_wp2
 go_loopw [5] (fun i W => ∃ k : Nat, i = .int .i64 k ∧ k ≤ ls.length ∧ Below w.heap.size w W) (fun i _ => ls.length - (intOf i).toNat)
 case atStart => exact ⟨0, rfl, Nat.zero_le _, Below.refl _ _⟩
 case round =>
  obtain ⟨k, rfl, hk, hb⟩ := hrel
  by_cases hkl : k < ls.length
  ·
   have hi : (k : Int) < (ls.length : Int) := by omega
   obtain ⟨b, o, rfl, hbB, hc0, hc1⟩ := (hr.below hb).atLE hkl
   obtain ⟨b', o', rfl, hbB', hc0', hc1'⟩ := (hr'.below hb).atLE hkl
   go_wp2
   go_region
   all_goals go_wp2
   go_roundw
   case rel => exact ⟨k + 1, by go_num, by omega, hb.drew⟩
   case measure => simp [intOf]; omega
  ·
   have hi : ¬ (k : Int) < (ls.length : Int) := by omega
   go_wp2
   go_ret
   exact ⟨rfl, hb⟩
theorem wpLetOwn_c (v v' : Value) (ls : List LE) (base base' : Nat) (w : World) (h : OwnG w base v ls) (h' : OwnG w base' v' ls) (hl : ls.length ≤ 2097152) :
  Calls Tryd.prog 23 #[v, v'] w fun e w' => e = .returned (.bool true) ∧ Below w.heap.size w w' := by
 obtain ⟨A, c, rfl, _, _, hr⟩ := h.read
 obtain ⟨A', c', rfl, _, _, hr'⟩ := h'.read
 exact wpLet_c A A' c c' ls w hl hr hr'
end Go.Proofs.YtilcncnhkidndaaDoor
