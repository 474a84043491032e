/- The model: what one asks, read off a text. -/
import Derived.Test.YtjgfbcmgnjgapaaDoorAkR
import Derived.Test.YtjgfbcmgnjgapaaDoorAkN
namespace Go.Proofs.YtjgfbcmgnjgapaaDoor
open Go.RowKit
set_option linter.unusedVariables false
set_option maxRecDepth 100000

theorem split_len (c : UInt8) : (l : List UInt8) → ∀ p ∈ splitC c l, p.length ≤ l.length
 | [], p, hp => by
  simp only [splitC, List.mem_cons, List.not_mem_nil, or_false] at hp
  subst hp; simp
 | x :: xs, p, hp => by
  have ih := split_len c xs
  unfold splitC at hp
  split at hp
  ·
   rcases List.mem_cons.1 hp with rfl | hp
   ·
    simp
   ·
    have := ih p hp; rw [List.length_cons]; omega
  ·
   split at hp
   ·
    rename_i q qs he
    rw [he] at ih
    rcases List.mem_cons.1 hp with rfl | hp
    ·
     have := ih q (by simp); rw [List.length_cons, List.length_cons]; omega
    ·
     have := ih p (by simp [hp]); rw [List.length_cons]; omega
   ·
    simp only [List.mem_cons, List.not_mem_nil, or_false] at hp
    subst hp; simp
theorem split_count (c : UInt8) : (l : List UInt8) → (splitC c l).length ≤ l.length + 1
 | [] => by simp [splitC]
 | x :: xs => by
  have ih := split_count c xs
  unfold splitC
  split
  ·
   rw [List.length_cons, List.length_cons]; omega
  ·
   split
   ·
    rename_i q qs he
    rw [he, List.length_cons] at ih
    rw [List.length_cons, List.length_cons]; omega
   ·
    simp
theorem kind_word {l : List UInt8} {k : Nat} (h1 : 1 ≤ k) (h : kindOf l = (k : Int)) : mkS l = wordK (k : Int) := by
 rw [← h]
 have h0 : kindOf l ≠ 0 := by omega
 clear h
 unfold kindOf at h0 ⊢
 repeat' split
 all_goals first | (rename_i e; rw [e]; rfl) | skip
 all_goals simp_all
def kdAt (kf k : Nat) : Nat := if kf < k then kf else 0
theorem zs4 {W : World} {g : Nat} {t : TypeId} {a b c d : Value} (B : Blk W g t #[a, b, c, d]) : ∃ U, (((W.setCell ⟨g, 0, none⟩ a).setCell ⟨g, 1, none⟩ b).setCell ⟨g, 2, none⟩ c).setCell ⟨g, 3, none⟩ d = U ∧ Blk U g t #[a, b, c, d] ∧ Chg (fun k => k = g) W U := s4 B a b c d
theorem s0 {W : World} {g : Nat} {t : TypeId} {a b c d : Value} (B : Blk W g t #[a, b, c, d]) (x : Value) : ∃ U, W.setCell ⟨g, 0, none⟩ x = U ∧ Blk U g t #[x, b, c, d] ∧ Chg (fun k => k = g) W U := ⟨_, rfl, B.set_ 0 x, (Chg.refl _ _).st _ x⟩
theorem own_form {W : World} {n : Nat} {v : Value} {l : List ByteArray} (h : OwnG W n v l) (hl : 0 < l.length) : ∃ j cap, v = .slice (some ⟨j, 0, none⟩) l.length cap ∧ n ≤ j ∧ l.length ≤ cap := by
 rcases h.cases with ⟨-, h2⟩ | ⟨j, cap, cur, rfl, hj, -, hc, -⟩
 ·
  subst h2; cases hl
 ·
  exact ⟨j, cap, rfl, hj, hc⟩
theorem own_cell {W : World} {n j k cap : Nat} {l : List ByteArray} (h : OwnG W n (.slice (some ⟨j, 0, none⟩) k cap) l) {i : Nat} (hi : i < l.length) : W.cell? ⟨j, i, none⟩ = some (.string l[i]) := by
 have h1 := (OwnG.rd' h).2.2.2
 have h2 := (h1.fix rfl hi).2 0 _ rfl
 have e : 0 + i * Elt.wd ByteArray + 0 = i := by show 0 + i * 1 + 0 = i; omega
 rw [e] at h2
 exact h2
/-- what holds while the model reads -/
def StQ (w : World) (a r b : Nat) (v : Value) (P : List ByteArray) (kd : Nat) (x y : ByteArray) (n : Int) (V : World) : Prop :=
 Blk V a 24 #[.int .i64 kd, .string x, .string y, .int .i64 n] ∧ OwnG V b v P ∧ Blk V r 24 #[.int .i64 0, .string ⟨#[]⟩, .string ⟨#[]⟩, .int .i64 0] ∧ Below w.heap.size w V
theorem StQ.next {w : World} {a r b kd : Nat} {v : Value} {P : List ByteArray} {x y : ByteArray} {n : Int} {V V' : World} (h : StQ w a r b v P kd x y n V) (hb : Below V.heap.size V V') : StQ w a r b v P kd x y n V' :=
 ⟨h.1.next hb, h.2.1.next hb, h.2.2.1.next hb, below_next h.2.2.2 hb⟩
theorem StQ.set {w : World} {a r b kd : Nat} {v : Value} {P : List ByteArray} {x y : ByteArray} {n : Int} {V V' : World} {kd' : Nat} {x' y' : ByteArray} {n' : Int} (h : StQ w a r b v P kd x y n V) (hA : Blk V' a 24 #[.int .i64 kd', .string x', .string y', .int .i64 n']) (hc : Chg (fun k => k = a) V V') (hra : r < a) (hwa : w.heap.size ≤ a) (hv : ∀ k, v.ownBlock = some k → k ≠ a) : StQ w a r b v P kd' x' y' n' V' :=
 ⟨hA, h.2.1.chg hc hv, h.2.2.1.chg1 hc (by omega), belChg h.2.2.2 hc hwa⟩
end Go.Proofs.YtjgfbcmgnjgapaaDoor
