/- What is drawn off a code: some key, some number, some rows. -/
import Derived.Test.YtabpepddbkipiaaPick
import Derived.Test.YtabpepddbkipiaaPc
namespace Go.Proofs.Ytabpepddbkipiaa
open Go.RowKit
set_option linter.unusedVariables false

/-- from w to w' the reader in block g has gone on by at most K steps; nothing else that was there has turned -/
structure Dw (g : Nat) (A : Option Addr) (n c p K : Nat) (w w' : World) : Prop where
  grown : w.grownBy w' (some g)
  rdr : ∃ q, p ≤ q ∧ q ≤ p + K ∧ Rdr w' g A n c q

theorem Dw.call {g n c p K : Nat} {A : Option Addr} {w w1 w2 : World} (h : Dw g A n c p K w w1) (hb : Below w1.heap.size w1 w2) : Dw g A n c p K w w2 := by
  obtain ⟨q, h1, h2, h3⟩ := h.rdr
  exact ⟨grown_call h.grown hb, q, h1, h2, h3.next hb⟩
theorem Dw.refl {g n c p : Nat} {A : Option Addr} {w : World} (h : Rdr w g A n c p) : Dw g A n c p 0 w w := ⟨World.grownBy.refl _ _, p, Nat.le_refl _, Nat.le_refl _, h⟩
theorem Dw.more {g n c p K K' : Nat} {A : Option Addr} {w w1 : World} (h : Dw g A n c p K w w1) (hk : K ≤ K') : Dw g A n c p K' w w1 := by
  obtain ⟨q, h1, h2, h3⟩ := h.rdr
  exact ⟨h.grown, q, h1, by omega, h3⟩
theorem Dw.then_ {g n c p q K K' : Nat} {A : Option Addr} {w w1 w2 : World} (h : w.grownBy w1 (some g)) (h1 : p ≤ q) (h2 : q ≤ p + K) (k : Dw g A n c q K' w1 w2) : Dw g A n c p (K + K') w w2 := by
  obtain ⟨q', h3, h4, h5⟩ := k.rdr
  exact ⟨h.trans k.grown, q', by omega, by omega, h5⟩

/-- pick, as a step -/
theorem pick_d (g : Nat) (A : Option Addr) (n c p m : Nat) (w : World) (h : Rdr w g A n c p) (hp : p ≤ 1000000) (hm : 1 ≤ m) (hm2 : m ≤ 1000000) :
    Calls Try.prog 75 #[.pointer (some ⟨g, 0, none⟩), .int .i64 m] w fun e w' => ∃ k : Nat, e = .returned (.int .i64 k) ∧ k < m ∧ Dw g A n c p 1 w w' := by
  refine (pick_c g A n c p m w h hp hm hm2).mono ?_
  rintro e w' ⟨⟨k, rfl, hk⟩, h1, h2⟩
  exact ⟨k, rfl, hk, h2, p + 1, by omega, by omega, h1⟩

set_option maxRecDepth 100000 in
set_option maxHeartbeats 1000000 in
theorem of_d (g : Nat) (A : Option Addr) (n c p b : Nat) (ss : List ByteArray) (w : World) (h : Rdr w g A n c p) (hp : p ≤ 1000000) (hbg : b ≠ g) (hl : Blk w b 9 (ss.map Value.string).toArray) (m : Nat) (hm : ss.length = m) (hs : 1 ≤ m) (hs2 : m ≤ 1000) :
    Calls Try.prog 76 #[.pointer (some ⟨g, 0, none⟩), .slice (some ⟨b, 0, none⟩) m m] w fun e w' => ∃ s, e = .returned (.string s) ∧ s ∈ ss ∧ Dw g A n c p 1 w w' := by
  go_enter Try.func76, Try.ntmps76
  go_wp2_with fail
  refine (pick_d g A n c p m w h hp hs (by omega)).mono ?_
  rintro e w1 ⟨k, rfl, hk, hd⟩
  have hblk : Blk w1 b 9 (ss.map Value.string).toArray := (hd.grown.block b hl.lt (by simpa using hbg)).trans hl
  have hkl : k < ss.length := by omega
  have c1 : w1.cell? ⟨b, k, none⟩ = some (.string ss[k]) := by
    rw [hblk.cell]; simp [List.getElem?_eq_getElem hkl]
  have HM := Lib.hid hm
  clear hm
  go_wp2
  go_ret
  exact ⟨ss[k], rfl, List.getElem_mem hkl, hd⟩

set_option maxRecDepth 100000 in
set_option maxHeartbeats 1000000 in
theorem num_d (g : Nat) (A : Option Addr) (n c p b : Nat) (zs : List Int) (w : World) (h : Rdr w g A n c p) (hp : p ≤ 1000000) (hbg : b ≠ g) (hl : Blk w b 3 (zs.map (Value.int .i64)).toArray) (m : Nat) (hm : zs.length = m) (hs : 1 ≤ m) (hs2 : m ≤ 1000) :
    Calls Try.prog 79 #[.pointer (some ⟨g, 0, none⟩), .slice (some ⟨b, 0, none⟩) m m] w fun e w' => ∃ z, e = .returned (.int .i64 z) ∧ z ∈ zs ∧ Dw g A n c p 1 w w' := by
  go_enter Try.func79, Try.ntmps79
  go_wp2_with fail
  refine (pick_d g A n c p m w h hp hs (by omega)).mono ?_
  rintro e w1 ⟨k, rfl, hk, hd⟩
  have hblk : Blk w1 b 3 (zs.map (Value.int .i64)).toArray := (hd.grown.block b hl.lt (by simpa using hbg)).trans hl
  have hkl : k < zs.length := by omega
  have c1 : w1.cell? ⟨b, k, none⟩ = some (.int .i64 zs[k]) := by
    rw [hblk.cell]; simp [List.getElem?_eq_getElem hkl]
  have HM := Lib.hid hm
  clear hm
  go_wp2
  go_ret
  exact ⟨zs[k], rfl, List.getElem_mem hkl, hd⟩

end Go.Proofs.Ytabpepddbkipiaa
