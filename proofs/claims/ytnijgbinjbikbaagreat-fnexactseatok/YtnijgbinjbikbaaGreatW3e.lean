/- The model's chapter 3: its contracts by the values of the call's own. -/
import Derived.Test.YtnijgbinjbikbaaGreatW3d
namespace Go.Proofs.YtnijgbinjbikbaaGreat
open Go.RowKit
set_option linter.unusedVariables false

theorem workRows_length (z : Int) (l : List V) (a : Int) (ws : List X) : (workRows z l a ws).length ≤ 10 := by
 unfold workRows
 split
 ·
  rename_i h
  exact (rowsP_iff.1 (workB_iff.1 h).rows).1
 ·
  simp
theorem endL_length (z : Int) (l : List V) (a : Int) (ws : List X) (hl : l.length ≤ 1048576) : (endL z l a ws).length ≤ 1048577 := by
 unfold endL
 split
 ·
  split
  ·
   omega
  ·
   exact doL_len z l ws hl
 ·
  simp
theorem wputW_length (z : Int) (l : List V) (a : Int) (ws : List X) (x : X) (hl : ws.length ≤ 1048576) : (wputW z l a ws x).length ≤ 1048577 := by
 unfold wputW
 split
 ·
  rename_i hk
  split
  ·
   have h1 := putXs_length ws x
   have h2 := (workB_iff.1 hk).wr.len
   omega
  ·
   omega
 ·
  simp
theorem specWorkOkO {v u : Value} {z a : Int} {l : List V} {ws : List X} {base base' : Nat} {w : World} (h : OwnG w base v l) (h' : OwnG w base' u ws) (hf : FitVs l) (hfx : FitXs ws) (hl : l.length ≤ 1048576) (hlx : ws.length ≤ 1048576) :
  Calls Tryz.prog 29 #[.agg #[.int .i64 z, v], .agg #[.int .i64 a, u]] w fun e w' => e = .returned (.bool (workB z l a ws)) ∧ Below w.heap.size w w' := by
 obtain ⟨A, c, rfl, h1, h2, hr⟩ := h.read
 obtain ⟨B, d, rfl, h3, h4, hr'⟩ := h'.read
 exact specWorkOk z A c l a B d ws w hf h1 h2 hl hfx h3 h4 hlx hr hr'
theorem specWorkRowsO {v u : Value} {z a : Int} {l : List V} {ws : List X} {base base' : Nat} {w : World} (h : OwnG w base v l) (h' : OwnG w base' u ws) (hf : FitVs l) (hfx : FitXs ws) (hl : l.length ≤ 1048576) (hlx : ws.length ≤ 1048576) :
  Calls Tryz.prog 81 #[.agg #[.int .i64 z, v], .agg #[.int .i64 a, u]] w (RetR w (workRows z l a ws)) := by
 obtain ⟨A, c, rfl, h1, h2, hr⟩ := h.read
 obtain ⟨B, d, rfl, h3, h4, hr'⟩ := h'.read
 exact specWorkRows z A c l a B d ws w hf h1 h2 hl hfx h3 h4 hlx hr hr'
theorem specWorkNewO {v : Value} {z : Int} {l : List V} {base : Nat} {w : World} (h : OwnG w base v l) (hf : FitVs l) (hl : l.length ≤ 1048576) :
  Calls Tryz.prog 79 #[.agg #[.int .i64 z, v]] w (RetX w (newA z l) []) := by
 obtain ⟨A, c, rfl, h1, h2, hr⟩ := h.read
 exact specWorkNew z A c l w hf h1 h2 hl hr
theorem specWorkEndO {v u : Value} {z a : Int} {l : List V} {ws : List X} {base base' : Nat} {w : World} (h : OwnG w base v l) (h' : OwnG w base' u ws) (hf : FitVs l) (hfx : FitXs ws) (hl : l.length ≤ 1048576) (hlx : ws.length ≤ 1048576) :
  Calls Tryz.prog 104 #[.agg #[.int .i64 z, v], .agg #[.int .i64 a, u]] w (RetVC w (endZ z l a ws) (endL z l a ws) (endC z l a ws)) := by
 obtain ⟨A, c, rfl, h1, h2, hr⟩ := h.read
 obtain ⟨B, d, rfl, h3, h4, hr'⟩ := h'.read
 exact specWorkEnd z A c l a B d ws w hf h1 h2 hl hfx h3 h4 hlx hr hr'
theorem specWorkPutO {v u : Value} {z a : Int} {l : List V} {ws : List X} {x : X} {base base' : Nat} {w : World} (h : OwnG w base v l) (h' : OwnG w base' u ws) (hf : FitVs l) (hfx : FitXs ws) (hx : FitX x) (hl : l.length ≤ 1048576) (hlx : ws.length ≤ 1048576) :
  Calls Tryz.prog 102 #[.agg #[.int .i64 z, v], .agg #[.int .i64 a, u], .agg #[.string x.k, .int .i64 x.n, .bool x.g]] w (RetXC w (wputA z l a ws) (wputW z l a ws x) (wputC z l a ws x)) := by
 obtain ⟨A, c, rfl, h1, h2, hr⟩ := h.read
 obtain ⟨B, d, rfl, h3, h4, hr'⟩ := h'.read
 exact specWorkPut z A c l a B d ws x w hf h1 h2 hl hfx h3 h4 hlx hx hr hr'

end Go.Proofs.YtnijgbinjbikbaaGreat
