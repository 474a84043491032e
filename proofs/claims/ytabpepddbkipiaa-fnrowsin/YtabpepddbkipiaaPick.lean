/- The reader of a code: what it picks is some number below the bound. -/
import Derived.Test.YtabpepddbkipiaaMark
import Derived.Deep.QuietTactic
import Derived.BigQuiet
import Derived.IntWalk
import Derived.Laws.BitsAllLaws
import Derived.Laws.BitsLemmas
namespace Go.Proofs.Ytabpepddbkipiaa
open Go.RowKit
set_option linter.unusedVariables false

/-- bytes that can be read, below block B -/
def RdB (w : World) (B : Nat) (A : Option Addr) (n : Nat) : Prop :=
  ∀ i, i < n → ∃ b o z, A = some ⟨b, o, none⟩ ∧ b < B ∧ w.cell? ⟨b, o + i, none⟩ = some (.int .u8 z) ∧ 0 ≤ z ∧ z ≤ 255

theorem RdB.below {w w' : World} {A : Option Addr} {n : Nat} (h : RdB w w.heap.size A n) (hb : Below w.heap.size w w') : RdB w' w'.heap.size A n := fun i hi => by
  obtain ⟨b, o, z, e, hbb, hc, hz⟩ := h i hi
  exact ⟨b, o, z, e, Nat.lt_of_lt_of_le hbb hb.size, (hb.cell (p := ⟨b, o + i, none⟩) hbb).trans hc, hz⟩

/-- the reader lies whole in block g, its bytes below -/
structure Rdr (w : World) (g : Nat) (A : Option Addr) (n c p : Nat) : Prop where
  blk : Blk w g 91 #[.slice A n c, .int .i64 p]
  len : n ≤ 2000
  bytes : RdB w g A n

theorem Rdr.next {w w' : World} {g n c p : Nat} {A : Option Addr} (h : Rdr w g A n c p) (hb : Below w.heap.size w w') : Rdr w' g A n c p :=
  ⟨h.blk.next hb, h.len, fun i hi => by
    obtain ⟨b, o, z, e, hbb, hc, hz⟩ := h.bytes i hi
    exact ⟨b, o, z, e, hbb, (hb.cell (p := ⟨b, o + i, none⟩) (Nat.lt_trans hbb h.blk.lt)).trans hc, hz⟩⟩
theorem Rdr.set {w : World} {g n c p : Nat} {A : Option Addr} (h : Rdr w g A n c p) (q : Nat) : Rdr (w.setCell ⟨g, 1, none⟩ (.int .i64 q)) g A n c q :=
  ⟨h.blk.set_ 1 _, h.len, fun i hi => by
    obtain ⟨b, o, z, e, hbb, hc, hz⟩ := h.bytes i hi
    exact ⟨b, o, z, e, hbb, (World.cell?_setCell_other w ⟨g, 1, none⟩ ⟨b, o + i, none⟩ _ (fun e => by injection e with e1; omega)).trans hc, hz⟩⟩

theorem Rdr.drewN {w : World} {g n c p : Nat} {A : Option Addr} (h : Rdr w g A n c p) (k : Nat) : Rdr (w.drewN k) g A n c p := h.next (below_drewN (Below.refl _ _) k)
theorem grown_drewN {a w : World} {row : Option Nat} (h : a.grownBy w row) (n : Nat) : a.grownBy (w.drewN n) row := ⟨h.os, h.tape, h.output, h.size, h.block⟩
theorem mod_nat (z : Int) (m : Nat) (h : 0 ≤ z) : z % (m : Int) = ((z.toNat % m : Nat) : Int) := by
  obtain ⟨k, rfl⟩ := Int.eq_ofNat_of_zero_le h
  simp
theorem bv64 (a : Nat) (ha : a < 4611686018427387904) : (BitVec.ofInt 64 (a : Int)).toNat = a := by
  rw [BitVec.ofInt_natCast, BitVec.toNat_ofNat]; exact Nat.mod_eq_of_lt (by omega)
theorem xor64 (a b : Nat) (ha : a < 4611686018427387904) (hb : b < 4611686018427387904) : bits .xor .i64 (a : Int) (b : Int) = ((a ^^^ b : Nat) : Int) := by
  have hx : a ^^^ b < 2 ^ 62 := Nat.xor_lt_two_pow (by omega) (by omega)
  show IntKind.i64.wrap ((BitVec.ofInt 64 (a : Int) ^^^ BitVec.ofInt 64 (b : Int)).toNat : Int) = _
  rw [BitVec.toNat_xor, bv64 a ha, bv64 b hb, IntKind.wrap_i64]
  omega
theorem mix_some (z1 z2 : Int) (p q : Nat) (h1 : 0 ≤ z1) (h1' : z1 ≤ 255) (h2 : 0 ≤ z2) (h2' : z2 ≤ 255) (hp : p ≤ 1000000) (hq : q ≤ 1000000) :
    ∃ X : Nat, z1 * 131 + z2 * 1117 + (p : Int) * 29 + (q : Int) * 53 = (X : Int) ∧ X ≤ 1000000000 := ⟨(z1 * 131 + z2 * 1117 + (p : Int) * 29 + (q : Int) * 53).toNat, by omega, by omega⟩

set_option maxRecDepth 100000 in
set_option maxHeartbeats 2000000 in
theorem pick_c (g : Nat) (A : Option Addr) (n c p m : Nat) (w : World) (h : Rdr w g A n c p) (hp : p ≤ 1000000) (hm : 1 ≤ m) (hm2 : m ≤ 1000000) :
    Calls Try.prog 75 #[.pointer (some ⟨g, 0, none⟩), .int .i64 m] w fun e w' => (∃ k : Nat, e = .returned (.int .i64 k) ∧ k < m) ∧ Rdr w' g A n c (p + 1) ∧ w.grownBy w' (some g) := by
  have c0 : w.cell? ⟨g, 0, none⟩ = some (.slice A n c) := by rw [h.blk.cell]; rfl
  have c1 : w.cell? ⟨g, 1, none⟩ = some (.int .i64 p) := by rw [h.blk.cell]; rfl
  have f1 := h.blk.free 1
  have hs := h.set (p + 1)
  have hg : w.grownBy (w.setCell ⟨g, 1, none⟩ (.int .i64 (p + 1 : Nat))) (some g) := grown_set (World.grownBy.refl _ _) _
  have hnl := h.len
  by_cases hn : n = 0
  · subst hn
    go_enter Try.func75, Try.ntmps75
    go_wp2
    go_ret
    exact ⟨⟨0, rfl, by omega⟩, hs, hg⟩
  · have hn0 : ((n : Int) == 0) = false := by simp; omega
    by_cases hpn : p < n
    · obtain ⟨b, o, z, rfl, hbb, hc, hz0, hz1⟩ := h.bytes p hpn
      go_enter Try.func75, Try.ntmps75
      go_wp2
      go_ret
      exact ⟨⟨z.toNat % m, ret_int (mod_nat z m hz0), Nat.mod_lt _ (by omega)⟩, hs, hg⟩
    · have hi1 : p % n < n := Nat.mod_lt _ (by omega)
      have hi2 : (p * 7 + 3) % n < n := Nat.mod_lt _ (by omega)
      obtain ⟨b, o, z1, rfl, hbb, hc1, hz0, hz1⟩ := h.bytes (p % n) hi1
      obtain ⟨b', o', z2, e', hbb', hc2, hy0, hy1⟩ := h.bytes ((p * 7 + 3) % n) hi2
      injection e' with e'
      injection e' with e1 e2
      subst e1 e2
      have t1 : (p : Int).tmod (n : Int) = ((p % n : Nat) : Int) := (Int.ofNat_tmod p n).symm
      have t2 : ((p : Int) * 7 + 3).tmod (n : Int) = (((p * 7 + 3) % n : Nat) : Int) := by rw [Int.ofNat_tmod]; rfl
      have t3 : (p : Int).tdiv (n : Int) = ((p / n : Nat) : Int) := (Int.ofNat_tdiv p n).symm
      have hd : p / n ≤ 1000000 := Nat.le_trans (Nat.div_le_self _ _) hp
      generalize p % n = i1 at *
      generalize (p * 7 + 3) % n = i2 at *
      generalize p / n = q at *
      have ne : ((n : Int) == 0) = false := hn0
      go_enter Try.func75, Try.ntmps75
      go_wp2
      obtain ⟨X, hX, hXb⟩ := mix_some z1 z2 p q hz0 hz1 hy0 hy1 hp hd
      have HX := Lib.hid hX
      clear hX
      go_quiet (fail)
      rw [HX.out]
      obtain ⟨D, hD, hDb⟩ : ∃ D : Nat, (X : Int) / 64 = (D : Int) ∧ D ≤ 1000000000 := ⟨X / 64, by omega, by omega⟩
      obtain ⟨Y, hY, hYb⟩ : ∃ Y : Nat, bits .xor .i64 (X : Int) (D : Int) = (Y : Int) ∧ Y ≤ 4611686018427387904 := ⟨X ^^^ D, xor64 X D (by omega) (by omega), by have := Nat.xor_lt_two_pow (n := 62) (x := X) (y := D) (by omega) (by omega); omega⟩
      have hYm : (0 : Int) ≤ (Y : Int) := by omega
      go_wp2
      go_ret
      exact ⟨⟨Y % m, ret_int (by simp), Nat.mod_lt _ (by omega)⟩, hs.drewN _, grown_drewN hg _⟩

end Go.Proofs.Ytabpepddbkipiaa
