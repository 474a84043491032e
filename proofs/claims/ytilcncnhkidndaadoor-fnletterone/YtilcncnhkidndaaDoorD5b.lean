/- Letters and bytes that are drawn: the draws themselves. -/
import Derived.Test.YtilcncnhkidndaaDoorD5
namespace Go.Proofs.YtilcncnhkidndaaDoor
open Go.RowKit
set_option linter.unusedVariables false
set_option maxRecDepth 100000

set_option maxHeartbeats 2000000 in
theorem dDrawLetterText (A : Option Addr) (n c : Nat) (w : World) (hc : n ≤ c) (hcm : c ≤ maxLen) (hr : RdB w w.heap.size A n) :
  Calls Tryd.prog 12 #[.slice A n c] w fun e w' => ∃ l : LE, e = .returned (.agg #[.string l.s, .string l.b]) ∧ l.s.size ≤ 2 ∧ l.b.size ≤ 10001 ∧ Below w.heap.size w w' := by
 obtain ⟨V1, eV1, -, B1, h1⟩ := al1 w rfl #[.string ⟨#[]⟩, .string ⟨#[]⟩] 24
 go_enter Tryd.func12, Tryd.ntmps12
 go_wp2_with fail
 refine (open_d A n c V1 hc hcm (hr.below h1)).mono ?_
 rintro e w2 ⟨m, rfl, hR, h2⟩
 have B2 := B1.next h2
 have hw2 := below_next h1 h2
 have lt2 := hR.lt
 have lt1 := B1.lt
 go_wp2_with fail
 refine (letter_d V1.heap.size A m c 0 w2 hR (by omega)).mono ?_
 rintro e w3 ⟨l, rfl, hs, hb, hD⟩
 have B3 : Blk w3 w.heap.size 24 #[.string ⟨#[]⟩, .string ⟨#[]⟩] := B2.grown hD.grown (by simp; omega)
 have hw3 : Below w.heap.size w w3 := hw2.grown hD.grown hw2.size (fun k hk => by injection hk with e; omega)
 have y0 := B3.c2
 have f0 := B3.free 0
 have f1 := B3.free 1
 obtain ⟨V4, eV4, B4, hc4⟩ : ∃ V, (w3.setCell ⟨w.heap.size, 0, none⟩ (.string l.s)).setCell ⟨w.heap.size, 1, none⟩ (.string l.b) = V ∧ Blk V w.heap.size 24 #[.string l.s, .string l.b] ∧ Below w.heap.size w V := ⟨_, rfl, B3.s2 _ _, (hw3.setCell (by show w.heap.size ≤ w.heap.size; omega) _).setCell (by show w.heap.size ≤ w.heap.size; omega) _⟩
 have d0 : V4.cell? ⟨w.heap.size, 0, none⟩ = some (.string l.s) := B4.cell 0
 have d1 : V4.cell? ⟨w.heap.size, 1, none⟩ = some (.string l.b) := B4.cell 1
 go_wp2
 exact bodyPost_ret (v := .agg #[.string l.s, .string l.b]) (by simp [results, Tryd.results12, go_sem, d0, d1]) rfl ⟨l, rfl, hs, hb, hc4⟩
set_option maxHeartbeats 2000000 in
theorem dDrawLetterOk (A : Option Addr) (n c : Nat) (w : World) (hc : n ≤ c) (hcm : c ≤ maxLen) (hr : RdB w w.heap.size A n) :
  Calls Tryd.prog 27 #[.slice A n c] w fun e w' => ∃ l : LE, e = .returned (.agg #[.string l.s, .string l.b]) ∧ l.s.size ≤ 2 ∧ l.b.size ≤ 10001 ∧ Below w.heap.size w w' := by
 obtain ⟨V1, eV1, -, B1, h1⟩ := al1 w rfl #[.string ⟨#[]⟩, .string ⟨#[]⟩] 24
 go_enter Tryd.func27, Tryd.ntmps27
 go_wp2_with fail
 refine (open_d A n c V1 hc hcm (hr.below h1)).mono ?_
 rintro e w2 ⟨m, rfl, hR, h2⟩
 have B2 := B1.next h2
 have hw2 := below_next h1 h2
 have lt2 := hR.lt
 have lt1 := B1.lt
 go_wp2_with fail
 refine (letter_d V1.heap.size A m c 0 w2 hR (by omega)).mono ?_
 rintro e w3 ⟨l, rfl, hs, hb, hD⟩
 have B3 : Blk w3 w.heap.size 24 #[.string ⟨#[]⟩, .string ⟨#[]⟩] := B2.grown hD.grown (by simp; omega)
 have hw3 : Below w.heap.size w w3 := hw2.grown hD.grown hw2.size (fun k hk => by injection hk with e; omega)
 have y0 := B3.c2
 have f0 := B3.free 0
 have f1 := B3.free 1
 obtain ⟨V4, eV4, B4, hc4⟩ : ∃ V, (w3.setCell ⟨w.heap.size, 0, none⟩ (.string l.s)).setCell ⟨w.heap.size, 1, none⟩ (.string l.b) = V ∧ Blk V w.heap.size 24 #[.string l.s, .string l.b] ∧ Below w.heap.size w V := ⟨_, rfl, B3.s2 _ _, (hw3.setCell (by show w.heap.size ≤ w.heap.size; omega) _).setCell (by show w.heap.size ≤ w.heap.size; omega) _⟩
 have d0 : V4.cell? ⟨w.heap.size, 0, none⟩ = some (.string l.s) := B4.cell 0
 have d1 : V4.cell? ⟨w.heap.size, 1, none⟩ = some (.string l.b) := B4.cell 1
 go_wp2
 exact bodyPost_ret (v := .agg #[.string l.s, .string l.b]) (by simp [results, Tryd.results27, go_sem, d0, d1]) rfl ⟨l, rfl, hs, hb, hc4⟩
end Go.Proofs.YtilcncnhkidndaaDoor
