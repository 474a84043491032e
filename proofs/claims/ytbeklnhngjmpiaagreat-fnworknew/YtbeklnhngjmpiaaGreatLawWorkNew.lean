/- The law FnWorkNew: for every code that is drawn from, an empty transaction is right, sees the rows of now, and its commit changes nothing, as in the model: for every input the call returns true, and the argument reads afterwards as before. No conditions. -/
import Derived.Test.YtbeklnhngjmpiaaGreatRows
import Derived.Test.YtbeklnhngjmpiaaGreatWhole
import Derived.Test.YtbeklnhngjmpiaaGreatA1
import Derived.Test.YtbeklnhngjmpiaaGreatA4
import Derived.Test.YtbeklnhngjmpiaaGreatW3r
import Derived.Test.YtbeklnhngjmpiaaGreatX3h
import Derived.Test.YtbeklnhngjmpiaaGreatX3n
import Derived.Test.YtbeklnhngjmpiaaGreatS2s
import Derived.WalkKit
import Derived.ProofKit
import Derived.OpenShut
import Derived.ShutString
import Derived.ChangeOld
import Derived.Below
namespace Go.Proofs.YtbeklnhngjmpiaaGreat.fnWorkNew
open Go.ChangeShapes Go.WideShapes Go.ChangeAt Go.RowKit
open Go.ChangeMaps (open_string shut_string)
set_option linter.unusedVariables false

set_option maxRecDepth 100000 in
set_option maxHeartbeats 1000000 in
theorem walk (A0 : Option Addr) (n0 c0 : Nat) (w : World) (hc0 : n0 ≤ c0) (hm0 : c0 ≤ maxLen) (hr0 : RdB w w.heap.size A0 n0) :
  Calls Tryz.prog 11 #[.slice A0 n0 c0] w fun e w' => e = .returned (.bool true) ∧ Below w.heap.size w w' := by
 by_cases hn_n0 : (1048576 : Int) < (n0 : Int)
 ·
  go_enter Tryz.func11, Tryz.ntmps11
  go_wp2
  go_ret
  exact ⟨rfl, Below.refl _ _⟩
 go_enter Tryz.func11, Tryz.ntmps11
 go_wp2_with fail
 refine (drawWorkNew A0 n0 c0 w hc0 hm0 hr0).mono ?_
 rintro e w1 ⟨za, Va, la, rfl, a_n, hfa, hza, hla, hb1⟩
 obtain ⟨ada, ca, rfl, ry1_a, ry2_a, ry3_a⟩ := a_n.read
 clear ry1_a ry2_a ry3_a
 have hw_t1 := hb1
 have hs_t1 := hb1.size
 have hb_t3 := below_alloc (Below.refl _ w1) (.cells #[.int .i64 za, .slice ada la.length ca] 34)
 have Ba_t3 := blkA w1 #[.int .i64 za, .slice ada la.length ca] 34
 have hz_t3 : (w1.alloc (.cells #[.int .i64 za, .slice ada la.length ca] 34)).heap.size = w1.heap.size + 1 := World.size_alloc _ _
 have a_t4 := a_n.next hb_t3
 clear a_n
 have hw_t4 := below_next hw_t1 hb_t3
 have hs_t4 := hb_t3.size
 cases hc : versB za la
 ·
  have HN := Lib.hid (new_bad hc)
  have qBa0 : (w1.alloc (.cells #[.int .i64 za, .slice ada la.length ca] 34)).cell? ⟨w1.heap.size, 0, none⟩ = some (.int .i64 za) := by rw [Ba_t3.cell]; rfl
  have qBa1 : (w1.alloc (.cells #[.int .i64 za, .slice ada la.length ca] 34)).cell? ⟨w1.heap.size, 1, none⟩ = some (.slice ada la.length ca) := by rw [Ba_t3.cell]; rfl
  go_wp2_with fail
  clear qBa0 qBa1
  refine (implWorkNewO a_t4 hfa (by omega)).mono ?_
  rw [HN.out]
  rintro e w2 ⟨Vb, rfl, b_n, hb2⟩
  obtain ⟨bbb, nnb, ccb, rfl⟩ := b_n.slice
  have a_t6 := a_t4.next hb2
  clear a_t4
  have Ba_t6 := Ba_t3.next hb2
  clear Ba_t3
  have hw_t6 := below_next hw_t4 hb2
  have hs_t6 := hb2.size
  have hb_t8 := below_alloc (Below.refl _ w2) (.cells #[.int .i64 0, .slice bbb nnb ccb] 38)
  have Bb_t8 := blkA w2 #[.int .i64 0, .slice bbb nnb ccb] 38
  have hz_t8 : (w2.alloc (.cells #[.int .i64 0, .slice bbb nnb ccb] 38)).heap.size = w2.heap.size + 1 := World.size_alloc _ _
  have a_t9 := a_t6.next hb_t8
  clear a_t6
  have b_t9 := b_n.next hb_t8
  clear b_n
  have Ba_t9 := Ba_t6.next hb_t8
  clear Ba_t6
  have hw_t9 := below_next hw_t6 hb_t8
  have hs_t9 := hb_t8.size
  have qBa0 : (w2.alloc (.cells #[.int .i64 0, .slice bbb nnb ccb] 38)).cell? ⟨w1.heap.size, 0, none⟩ = some (.int .i64 za) := by rw [Ba_t9.cell]; rfl
  have qBa1 : (w2.alloc (.cells #[.int .i64 0, .slice bbb nnb ccb] 38)).cell? ⟨w1.heap.size, 1, none⟩ = some (.slice ada la.length ca) := by rw [Ba_t9.cell]; rfl
  have qBb0 : (w2.alloc (.cells #[.int .i64 0, .slice bbb nnb ccb] 38)).cell? ⟨w2.heap.size, 0, none⟩ = some (.int .i64 0) := by rw [Bb_t8.cell]; rfl
  have qBb1 : (w2.alloc (.cells #[.int .i64 0, .slice bbb nnb ccb] 38)).cell? ⟨w2.heap.size, 1, none⟩ = some (.slice bbb nnb ccb) := by rw [Bb_t8.cell]; rfl
  go_wp2
  clear qBa0 qBa1 qBb0 qBb1
  have hb_t11 : Below (w2.alloc (.cells #[.int .i64 0, .slice bbb nnb ccb] 38)).heap.size (w2.alloc (.cells #[.int .i64 0, .slice bbb nnb ccb] 38)) (w2.alloc (.cells #[.int .i64 0, .slice bbb nnb ccb] 38)).drew := (Below.refl _ _).drew
  have a_t12 := a_t9.next hb_t11
  clear a_t9
  have b_t12 := b_t9.next hb_t11
  clear b_t9
  have Ba_t12 := Ba_t9.next hb_t11
  clear Ba_t9
  have Bb_t12 := Bb_t8.next hb_t11
  clear Bb_t8
  have hw_t12 := below_next hw_t9 hb_t11
  have hs_t12 := hb_t11.size
  refine wp_region_held_drew (S := (fun W => W.cell? ⟨w1.heap.size, 0, none⟩ = some (.int .i64 za) ∧ W.cell? ⟨w1.heap.size, 1, none⟩ = some (.slice ada la.length ca) ∧ W.cell? ⟨w2.heap.size, 0, none⟩ = some (.int .i64 0) ∧ W.cell? ⟨w2.heap.size, 1, none⟩ = some (.slice bbb nnb ccb))) (by kernel_rfl) ?_ (fun hHeld => ?_)
  focus ((try dsimp only); (exact ⟨by rw [Ba_t12.cell]; rfl, by rw [Ba_t12.cell]; rfl, by rw [Bb_t12.cell]; rfl, by rw [Bb_t12.cell]; rfl⟩))
  refine tk 0 ?_
  refine tk 1 ?_
  (refine rd1 2 (fun K hK => ?_); go_simp; (go_at_call 53; refine (specWorkNewO a_t12 hfa (by omega)).mono ?_; rw [HN.out]; rintro e w3 ⟨Vc, rfl, c_n, hb3⟩; obtain ⟨bbc, nnc, ccc, rfl⟩ := c_n.slice; have a_t14 := a_t12.next hb3; clear a_t12; have b_t14 := b_t12.next hb3; clear b_t12; have Ba_t14 := Ba_t12.next hb3; clear Ba_t12; have Bb_t14 := Bb_t12.next hb3; clear Bb_t12; have hw_t14 := below_next hw_t12 hb3; have hs_t14 := hb3.size); go_wp2_with fail; refine hK.out _ _ ?_ (fun hHeld => ?_); (focus ((try dsimp only); (exact ⟨by rw [Ba_t14.cell]; rfl, by rw [Ba_t14.cell]; rfl, by rw [Bb_t14.cell]; rfl, by rw [Bb_t14.cell]; rfl⟩))); clear hK K; (try simp only [Act.put, pa, pb, pc]))
  (refine rd1 3 (fun K hK => ?_); go_simp; (go_at_call 38; refine (implWorkSameO b_t14 c_n (by simp) (by simp)).mono ?_; rintro e w4 ⟨rfl, hb4⟩; rw [sameW_refl]; have a_t16 := a_t14.next hb4; clear a_t14; have b_t16 := b_t14.next hb4; clear b_t14; have c_t16 := c_n.next hb4; clear c_n; have Ba_t16 := Ba_t14.next hb4; clear Ba_t14; have Bb_t16 := Bb_t14.next hb4; clear Bb_t14; have hw_t16 := below_next hw_t14 hb4; have hs_t16 := hb4.size); go_wp2_with fail; refine hK.out _ _ ?_ (fun hHeld => ?_); (focus ((try dsimp only); (exact ⟨by rw [Ba_t16.cell]; rfl, by rw [Ba_t16.cell]; rfl, by rw [Bb_t16.cell]; rfl, by rw [Bb_t16.cell]; rfl⟩))); clear hK K; (try simp only [Act.put, pa, pb, pc]))
  refine tk 4 ?_
  refine wpAnyH_done (by kernel_rfl) ?_ _
  clear c_t16
  have qBa0 : w4.cell? ⟨w1.heap.size, 0, none⟩ = some (.int .i64 za) := by rw [Ba_t16.cell]; rfl
  have qBa1 : w4.cell? ⟨w1.heap.size, 1, none⟩ = some (.slice ada la.length ca) := by rw [Ba_t16.cell]; rfl
  have qBb0 : w4.cell? ⟨w2.heap.size, 0, none⟩ = some (.int .i64 0) := by rw [Bb_t16.cell]; rfl
  have qBb1 : w4.cell? ⟨w2.heap.size, 1, none⟩ = some (.slice bbb nnb ccb) := by rw [Bb_t16.cell]; rfl
  go_wp2_with fail
  clear qBa0 qBa1 qBb0 qBb1
  refine (specVersOkO a_t16 hfa).mono ?_
  rintro e w5 ⟨rfl, hb5⟩
  rw [hc]
  have a_t18 := a_t16.next hb5
  clear a_t16
  have b_t18 := b_t16.next hb5
  clear b_t16
  have Ba_t18 := Ba_t16.next hb5
  clear Ba_t16
  have Bb_t18 := Bb_t16.next hb5
  clear Bb_t16
  have hw_t18 := below_next hw_t16 hb5
  have hs_t18 := hb5.size
  have qBa0 : w5.cell? ⟨w1.heap.size, 0, none⟩ = some (.int .i64 za) := by rw [Ba_t18.cell]; rfl
  have qBa1 : w5.cell? ⟨w1.heap.size, 1, none⟩ = some (.slice ada la.length ca) := by rw [Ba_t18.cell]; rfl
  have qBb0 : w5.cell? ⟨w2.heap.size, 0, none⟩ = some (.int .i64 0) := by rw [Bb_t18.cell]; rfl
  have qBb1 : w5.cell? ⟨w2.heap.size, 1, none⟩ = some (.slice bbb nnb ccb) := by rw [Bb_t18.cell]; rfl
  go_wp2_with fail
  clear qBa0 qBa1 qBb0 qBb1
  refine (implWorkSameO b_t18 (OwnG.nil (α := X) _ 0) (by simp) (by simp)).mono ?_
  rintro e w6 ⟨rfl, hb6⟩
  rw [sameW_refl]
  have a_t20 := a_t18.next hb6
  clear a_t18
  have b_t20 := b_t18.next hb6
  clear b_t18
  have Ba_t20 := Ba_t18.next hb6
  clear Ba_t18
  have Bb_t20 := Bb_t18.next hb6
  clear Bb_t18
  have hw_t20 := below_next hw_t18 hb6
  have hs_t20 := hb6.size
  have qBa0 : w6.cell? ⟨w1.heap.size, 0, none⟩ = some (.int .i64 za) := by rw [Ba_t20.cell]; rfl
  have qBa1 : w6.cell? ⟨w1.heap.size, 1, none⟩ = some (.slice ada la.length ca) := by rw [Ba_t20.cell]; rfl
  have qBb0 : w6.cell? ⟨w2.heap.size, 0, none⟩ = some (.int .i64 0) := by rw [Bb_t20.cell]; rfl
  have qBb1 : w6.cell? ⟨w2.heap.size, 1, none⟩ = some (.slice bbb nnb ccb) := by rw [Bb_t20.cell]; rfl
  go_wp2
  go_ret
  exact ⟨rfl, hw_t20⟩
 ·
  have HN := Lib.hid (new_end hc)
  have qBa0 : (w1.alloc (.cells #[.int .i64 za, .slice ada la.length ca] 34)).cell? ⟨w1.heap.size, 0, none⟩ = some (.int .i64 za) := by rw [Ba_t3.cell]; rfl
  have qBa1 : (w1.alloc (.cells #[.int .i64 za, .slice ada la.length ca] 34)).cell? ⟨w1.heap.size, 1, none⟩ = some (.slice ada la.length ca) := by rw [Ba_t3.cell]; rfl
  go_wp2_with fail
  clear qBa0 qBa1
  refine (implWorkNewO a_t4 hfa (by omega)).mono ?_
  rw [HN.out.1]
  rintro e w2 ⟨Vb, rfl, b_n, hb2⟩
  obtain ⟨bbb, nnb, ccb, rfl⟩ := b_n.slice
  have a_t6 := a_t4.next hb2
  clear a_t4
  have Ba_t6 := Ba_t3.next hb2
  clear Ba_t3
  have hw_t6 := below_next hw_t4 hb2
  have hs_t6 := hb2.size
  have hb_t8 := below_alloc (Below.refl _ w2) (.cells #[.int .i64 za, .slice bbb nnb ccb] 38)
  have Bb_t8 := blkA w2 #[.int .i64 za, .slice bbb nnb ccb] 38
  have hz_t8 : (w2.alloc (.cells #[.int .i64 za, .slice bbb nnb ccb] 38)).heap.size = w2.heap.size + 1 := World.size_alloc _ _
  have a_t9 := a_t6.next hb_t8
  clear a_t6
  have b_t9 := b_n.next hb_t8
  clear b_n
  have Ba_t9 := Ba_t6.next hb_t8
  clear Ba_t6
  have hw_t9 := below_next hw_t6 hb_t8
  have hs_t9 := hb_t8.size
  have qBa0 : (w2.alloc (.cells #[.int .i64 za, .slice bbb nnb ccb] 38)).cell? ⟨w1.heap.size, 0, none⟩ = some (.int .i64 za) := by rw [Ba_t9.cell]; rfl
  have qBa1 : (w2.alloc (.cells #[.int .i64 za, .slice bbb nnb ccb] 38)).cell? ⟨w1.heap.size, 1, none⟩ = some (.slice ada la.length ca) := by rw [Ba_t9.cell]; rfl
  have qBb0 : (w2.alloc (.cells #[.int .i64 za, .slice bbb nnb ccb] 38)).cell? ⟨w2.heap.size, 0, none⟩ = some (.int .i64 za) := by rw [Bb_t8.cell]; rfl
  have qBb1 : (w2.alloc (.cells #[.int .i64 za, .slice bbb nnb ccb] 38)).cell? ⟨w2.heap.size, 1, none⟩ = some (.slice bbb nnb ccb) := by rw [Bb_t8.cell]; rfl
  go_wp2
  clear qBa0 qBa1 qBb0 qBb1
  have hb_t11 : Below (w2.alloc (.cells #[.int .i64 za, .slice bbb nnb ccb] 38)).heap.size (w2.alloc (.cells #[.int .i64 za, .slice bbb nnb ccb] 38)) (w2.alloc (.cells #[.int .i64 za, .slice bbb nnb ccb] 38)).drew := (Below.refl _ _).drew
  have a_t12 := a_t9.next hb_t11
  clear a_t9
  have b_t12 := b_t9.next hb_t11
  clear b_t9
  have Ba_t12 := Ba_t9.next hb_t11
  clear Ba_t9
  have Bb_t12 := Bb_t8.next hb_t11
  clear Bb_t8
  have hw_t12 := below_next hw_t9 hb_t11
  have hs_t12 := hb_t11.size
  refine wp_region_held_drew (S := (fun W => W.cell? ⟨w1.heap.size, 0, none⟩ = some (.int .i64 za) ∧ W.cell? ⟨w1.heap.size, 1, none⟩ = some (.slice ada la.length ca) ∧ W.cell? ⟨w2.heap.size, 0, none⟩ = some (.int .i64 za) ∧ W.cell? ⟨w2.heap.size, 1, none⟩ = some (.slice bbb nnb ccb))) (by kernel_rfl) ?_ (fun hHeld => ?_)
  focus ((try dsimp only); (exact ⟨by rw [Ba_t12.cell]; rfl, by rw [Ba_t12.cell]; rfl, by rw [Bb_t12.cell]; rfl, by rw [Bb_t12.cell]; rfl⟩))
  refine tk 0 ?_
  refine tk 1 ?_
  (refine rd1 2 (fun K hK => ?_); go_simp; (go_at_call 53; refine (specWorkNewO a_t12 hfa (by omega)).mono ?_; rw [HN.out.1]; rintro e w3 ⟨Vc, rfl, c_n, hb3⟩; obtain ⟨bbc, nnc, ccc, rfl⟩ := c_n.slice; have a_t14 := a_t12.next hb3; clear a_t12; have b_t14 := b_t12.next hb3; clear b_t12; have Ba_t14 := Ba_t12.next hb3; clear Ba_t12; have Bb_t14 := Bb_t12.next hb3; clear Bb_t12; have hw_t14 := below_next hw_t12 hb3; have hs_t14 := hb3.size); go_wp2_with fail; refine hK.out _ _ ?_ (fun hHeld => ?_); (focus ((try dsimp only); (exact ⟨by rw [Ba_t14.cell]; rfl, by rw [Ba_t14.cell]; rfl, by rw [Bb_t14.cell]; rfl, by rw [Bb_t14.cell]; rfl⟩))); clear hK K; (try simp only [Act.put, pa, pb, pc]))
  (refine rd1 3 (fun K hK => ?_); go_simp; (go_at_call 38; refine (implWorkSameO b_t14 c_n (by simp) (by simp)).mono ?_; rintro e w4 ⟨rfl, hb4⟩; rw [sameW_refl]; have a_t16 := a_t14.next hb4; clear a_t14; have b_t16 := b_t14.next hb4; clear b_t14; have c_t16 := c_n.next hb4; clear c_n; have Ba_t16 := Ba_t14.next hb4; clear Ba_t14; have Bb_t16 := Bb_t14.next hb4; clear Bb_t14; have hw_t16 := below_next hw_t14 hb4; have hs_t16 := hb4.size); go_wp2_with fail; refine hK.out _ _ ?_ (fun hHeld => ?_); (focus ((try dsimp only); (exact ⟨by rw [Ba_t16.cell]; rfl, by rw [Ba_t16.cell]; rfl, by rw [Bb_t16.cell]; rfl, by rw [Bb_t16.cell]; rfl⟩))); clear hK K; (try simp only [Act.put, pa, pb, pc]))
  refine tk 4 ?_
  refine wpAnyH_done (by kernel_rfl) ?_ _
  clear c_t16
  have qBa0 : w4.cell? ⟨w1.heap.size, 0, none⟩ = some (.int .i64 za) := by rw [Ba_t16.cell]; rfl
  have qBa1 : w4.cell? ⟨w1.heap.size, 1, none⟩ = some (.slice ada la.length ca) := by rw [Ba_t16.cell]; rfl
  have qBb0 : w4.cell? ⟨w2.heap.size, 0, none⟩ = some (.int .i64 za) := by rw [Bb_t16.cell]; rfl
  have qBb1 : w4.cell? ⟨w2.heap.size, 1, none⟩ = some (.slice bbb nnb ccb) := by rw [Bb_t16.cell]; rfl
  go_wp2_with fail
  clear qBa0 qBa1 qBb0 qBb1
  refine (specVersOkO a_t16 hfa).mono ?_
  rintro e w5 ⟨rfl, hb5⟩
  rw [hc]
  have a_t18 := a_t16.next hb5
  clear a_t16
  have b_t18 := b_t16.next hb5
  clear b_t16
  have Ba_t18 := Ba_t16.next hb5
  clear Ba_t16
  have Bb_t18 := Bb_t16.next hb5
  clear Bb_t16
  have hw_t18 := below_next hw_t16 hb5
  have hs_t18 := hb5.size
  have qBa0 : w5.cell? ⟨w1.heap.size, 0, none⟩ = some (.int .i64 za) := by rw [Ba_t18.cell]; rfl
  have qBa1 : w5.cell? ⟨w1.heap.size, 1, none⟩ = some (.slice ada la.length ca) := by rw [Ba_t18.cell]; rfl
  have qBb0 : w5.cell? ⟨w2.heap.size, 0, none⟩ = some (.int .i64 za) := by rw [Bb_t18.cell]; rfl
  have qBb1 : w5.cell? ⟨w2.heap.size, 1, none⟩ = some (.slice bbb nnb ccb) := by rw [Bb_t18.cell]; rfl
  go_wp2_with fail
  clear qBa0 qBa1 qBb0 qBb1
  refine (implWorkEndO a_t18 b_t18 hfa (fun r hr => by simp at hr) (by omega) (by simp)).mono ?_
  rw [HN.out.2.2.2.2.1, HN.out.2.2.2.2.2, HN.out.2.2.2.1]
  rintro e w6 ⟨Vx, rfl, x_n, hb6⟩
  obtain ⟨adx, cx, rfl, ry1_x, ry2_x, ry3_x⟩ := x_n.read
  clear ry1_x ry2_x ry3_x
  have a_t20 := a_t18.next hb6
  clear a_t18
  have b_t20 := b_t18.next hb6
  clear b_t18
  have Ba_t20 := Ba_t18.next hb6
  clear Ba_t18
  have Bb_t20 := Bb_t18.next hb6
  clear Bb_t18
  have hw_t20 := below_next hw_t18 hb6
  have hs_t20 := hb6.size
  have hb_t22 := below_alloc (Below.refl _ w6) (.cells #[.int .i64 za, .slice adx la.length cx] 34)
  have Bx_t22 := blkA w6 #[.int .i64 za, .slice adx la.length cx] 34
  have hz_t22 : (w6.alloc (.cells #[.int .i64 za, .slice adx la.length cx] 34)).heap.size = w6.heap.size + 1 := World.size_alloc _ _
  have a_t23 := a_t20.next hb_t22
  clear a_t20
  have b_t23 := b_t20.next hb_t22
  clear b_t20
  have x_t23 := x_n.next hb_t22
  clear x_n
  have Ba_t23 := Ba_t20.next hb_t22
  clear Ba_t20
  have Bb_t23 := Bb_t20.next hb_t22
  clear Bb_t20
  have hw_t23 := below_next hw_t20 hb_t22
  have hs_t23 := hb_t22.size
  have hl_R1 := versAt_length za la za
  have hf_R1 : FitR (versAt za la za) := fitR_versAt (z := za) hfa za
  obtain ⟨R1, HR1⟩ : ∃ R1, Hid (versAt za la za = R1) := ⟨_, Lib.hid rfl⟩
  rw [HR1.out] at hl_R1 hf_R1
  have HR2 : Hid (workRows za la za [] = R1) := Lib.hid (HN.out.2.2.1.trans HR1.out)
  have qBa0 : (w6.alloc (.cells #[.int .i64 za, .slice adx la.length cx] 34)).cell? ⟨w1.heap.size, 0, none⟩ = some (.int .i64 za) := by rw [Ba_t23.cell]; rfl
  have qBa1 : (w6.alloc (.cells #[.int .i64 za, .slice adx la.length cx] 34)).cell? ⟨w1.heap.size, 1, none⟩ = some (.slice ada la.length ca) := by rw [Ba_t23.cell]; rfl
  have qBb0 : (w6.alloc (.cells #[.int .i64 za, .slice adx la.length cx] 34)).cell? ⟨w2.heap.size, 0, none⟩ = some (.int .i64 za) := by rw [Bb_t23.cell]; rfl
  have qBb1 : (w6.alloc (.cells #[.int .i64 za, .slice adx la.length cx] 34)).cell? ⟨w2.heap.size, 1, none⟩ = some (.slice bbb nnb ccb) := by rw [Bb_t23.cell]; rfl
  have qBx0 : (w6.alloc (.cells #[.int .i64 za, .slice adx la.length cx] 34)).cell? ⟨w6.heap.size, 0, none⟩ = some (.int .i64 za) := by rw [Bx_t22.cell]; rfl
  have qBx1 : (w6.alloc (.cells #[.int .i64 za, .slice adx la.length cx] 34)).cell? ⟨w6.heap.size, 1, none⟩ = some (.slice adx la.length cx) := by rw [Bx_t22.cell]; rfl
  go_wp2
  clear qBa0 qBa1 qBb0 qBb1 qBx0 qBx1
  have hb_t25 : Below (w6.alloc (.cells #[.int .i64 za, .slice adx la.length cx] 34)).heap.size (w6.alloc (.cells #[.int .i64 za, .slice adx la.length cx] 34)) (w6.alloc (.cells #[.int .i64 za, .slice adx la.length cx] 34)).drew := (Below.refl _ _).drew
  have a_t26 := a_t23.next hb_t25
  clear a_t23
  have b_t26 := b_t23.next hb_t25
  clear b_t23
  have x_t26 := x_t23.next hb_t25
  clear x_t23
  have Ba_t26 := Ba_t23.next hb_t25
  clear Ba_t23
  have Bb_t26 := Bb_t23.next hb_t25
  clear Bb_t23
  have Bx_t26 := Bx_t22.next hb_t25
  clear Bx_t22
  have hw_t26 := below_next hw_t23 hb_t25
  have hs_t26 := hb_t25.size
  refine wp_region_held_drew (S := (fun W => W.cell? ⟨w1.heap.size, 0, none⟩ = some (.int .i64 za) ∧ W.cell? ⟨w1.heap.size, 1, none⟩ = some (.slice ada la.length ca) ∧ W.cell? ⟨w2.heap.size, 0, none⟩ = some (.int .i64 za) ∧ W.cell? ⟨w2.heap.size, 1, none⟩ = some (.slice bbb nnb ccb) ∧ W.cell? ⟨w6.heap.size, 0, none⟩ = some (.int .i64 za) ∧ W.cell? ⟨w6.heap.size, 1, none⟩ = some (.slice adx la.length cx))) (by kernel_rfl) ?_ (fun hHeld => ?_)
  focus ((try dsimp only); (exact ⟨by rw [Ba_t26.cell]; rfl, by rw [Ba_t26.cell]; rfl, by rw [Bb_t26.cell]; rfl, by rw [Bb_t26.cell]; rfl, by rw [Bx_t26.cell]; rfl, by rw [Bx_t26.cell]; rfl⟩))
  refine tk 0 ?_
  refine tk 1 ?_
  (refine rd1 2 (fun K hK => ?_); go_simp; (go_at_call 39; refine (implWorkOkO a_t26 b_t26 hfa (fun r hr => by simp at hr) (by omega) (by simp)).mono ?_; rintro e w7 ⟨rfl, hb7⟩; rw [HN.out.2.1]; have a_t28 := a_t26.next hb7; clear a_t26; have b_t28 := b_t26.next hb7; clear b_t26; have x_t28 := x_t26.next hb7; clear x_t26; have Ba_t28 := Ba_t26.next hb7; clear Ba_t26; have Bb_t28 := Bb_t26.next hb7; clear Bb_t26; have Bx_t28 := Bx_t26.next hb7; clear Bx_t26; have hw_t28 := below_next hw_t26 hb7; have hs_t28 := hb7.size); go_wp2_with fail; refine hK.out _ _ ?_ (fun hHeld => ?_); (focus ((try dsimp only); (exact ⟨by rw [Ba_t28.cell]; rfl, by rw [Ba_t28.cell]; rfl, by rw [Bb_t28.cell]; rfl, by rw [Bb_t28.cell]; rfl, by rw [Bx_t28.cell]; rfl, by rw [Bx_t28.cell]; rfl⟩))); clear hK K; (try simp only [Act.put, pa, pb, pc]))
  refine tk 3 ?_
  refine tk 4 ?_
  refine tk 5 ?_
  refine tk 7 ?_
  refine tk 8 ?_
  refine tk 9 ?_
  (refine rd1 6 (fun K hK => ?_); go_simp; (go_at_call 21; refine (implWorkRowsO a_t28 b_t28 hfa (fun r hr => by simp at hr) (by omega) (by simp)).mono ?_; rw [HR2.out]; rintro e w8 ⟨Vr, rfl, r_n, hb8⟩; obtain ⟨adr, cr, rfl, ry1_r, ry2_r, ry3_r⟩ := r_n.read; clear ry1_r ry2_r ry3_r; have a_t30 := a_t28.next hb8; clear a_t28; have b_t30 := b_t28.next hb8; clear b_t28; have x_t30 := x_t28.next hb8; clear x_t28; have Ba_t30 := Ba_t28.next hb8; clear Ba_t28; have Bb_t30 := Bb_t28.next hb8; clear Bb_t28; have Bx_t30 := Bx_t28.next hb8; clear Bx_t28; have hw_t30 := below_next hw_t28 hb8; have hs_t30 := hb8.size); go_wp2_with fail; refine hK.out _ _ ?_ (fun hHeld => ?_); (focus ((try dsimp only); (exact ⟨by rw [Ba_t30.cell]; rfl, by rw [Ba_t30.cell]; rfl, by rw [Bb_t30.cell]; rfl, by rw [Bb_t30.cell]; rfl, by rw [Bx_t30.cell]; rfl, by rw [Bx_t30.cell]; rfl⟩))); clear hK K; (try simp only [Act.put, pa, pb, pc]))
  (refine rd1 10 (fun K hK => ?_); go_simp; (go_at_call 49; refine (implVersAtO za a_t30 hfa (by omega)).mono ?_; rw [HR1.out]; rintro e w9 ⟨Vq, rfl, q_n, hb9⟩; obtain ⟨adq, cq, rfl, ry1_q, ry2_q, ry3_q⟩ := q_n.read; clear ry1_q ry2_q ry3_q; have a_t32 := a_t30.next hb9; clear a_t30; have b_t32 := b_t30.next hb9; clear b_t30; have x_t32 := x_t30.next hb9; clear x_t30; have r_t32 := r_n.next hb9; clear r_n; have Ba_t32 := Ba_t30.next hb9; clear Ba_t30; have Bb_t32 := Bb_t30.next hb9; clear Bb_t30; have Bx_t32 := Bx_t30.next hb9; clear Bx_t30; have hw_t32 := below_next hw_t30 hb9; have hs_t32 := hb9.size); go_wp2_with fail; refine hK.out _ _ ?_ (fun hHeld => ?_); (focus ((try dsimp only); (exact ⟨by rw [Ba_t32.cell]; rfl, by rw [Ba_t32.cell]; rfl, by rw [Bb_t32.cell]; rfl, by rw [Bb_t32.cell]; rfl, by rw [Bx_t32.cell]; rfl, by rw [Bx_t32.cell]; rfl⟩))); clear hK K; (try simp only [Act.put, pa, pb, pc]))
  (refine rd1 11 (fun K hK => ?_); go_simp; (go_at_call 43; refine (wpO r_t32 q_n (by omega) (by omega)).mono ?_; rintro e w10 ⟨rfl, hb10⟩; rw [eqL_yes rfl]; have a_t34 := a_t32.next hb10; clear a_t32; have b_t34 := b_t32.next hb10; clear b_t32; have x_t34 := x_t32.next hb10; clear x_t32; have r_t34 := r_t32.next hb10; clear r_t32; have q_t34 := q_n.next hb10; clear q_n; have Ba_t34 := Ba_t32.next hb10; clear Ba_t32; have Bb_t34 := Bb_t32.next hb10; clear Bb_t32; have Bx_t34 := Bx_t32.next hb10; clear Bx_t32; have hw_t34 := below_next hw_t32 hb10; have hs_t34 := hb10.size); go_wp2_with fail; refine hK.out _ _ ?_ (fun hHeld => ?_); (focus ((try dsimp only); (exact ⟨by rw [Ba_t34.cell]; rfl, by rw [Ba_t34.cell]; rfl, by rw [Bb_t34.cell]; rfl, by rw [Bb_t34.cell]; rfl, by rw [Bx_t34.cell]; rfl, by rw [Bx_t34.cell]; rfl⟩))); clear hK K; (try simp only [Act.put, pa, pb, pc]))
  refine tk 12 ?_
  refine tk 13 ?_
  refine tk 14 ?_
  refine tk 15 ?_
  refine tk 16 ?_
  refine tk 17 ?_
  refine tk 18 ?_
  refine tk 19 ?_
  (refine rd1 20 (fun K hK => ?_); go_simp; (go_at_call 48; refine (implSameO x_t34 a_t34 (by omega) (by omega)).mono ?_; rintro e w11 ⟨rfl, hb11⟩; rw [sameB_refl]; have a_t36 := a_t34.next hb11; clear a_t34; have b_t36 := b_t34.next hb11; clear b_t34; have x_t36 := x_t34.next hb11; clear x_t34; have r_t36 := r_t34.next hb11; clear r_t34; have q_t36 := q_t34.next hb11; clear q_t34; have Ba_t36 := Ba_t34.next hb11; clear Ba_t34; have Bb_t36 := Bb_t34.next hb11; clear Bb_t34; have Bx_t36 := Bx_t34.next hb11; clear Bx_t34; have hw_t36 := below_next hw_t34 hb11; have hs_t36 := hb11.size); go_wp2_with fail; refine hK.out _ _ ?_ (fun hHeld => ?_); (focus ((try dsimp only); (exact ⟨by rw [Ba_t36.cell]; rfl, by rw [Ba_t36.cell]; rfl, by rw [Bb_t36.cell]; rfl, by rw [Bb_t36.cell]; rfl, by rw [Bx_t36.cell]; rfl, by rw [Bx_t36.cell]; rfl⟩))); clear hK K; (try simp only [Act.put, pa, pb, pc]))
  refine tk 21 ?_
  refine tk 22 ?_
  refine wpAnyH_done (by kernel_rfl) ?_ _
  have qBa0 : w11.cell? ⟨w1.heap.size, 0, none⟩ = some (.int .i64 za) := by rw [Ba_t36.cell]; rfl
  have qBa1 : w11.cell? ⟨w1.heap.size, 1, none⟩ = some (.slice ada la.length ca) := by rw [Ba_t36.cell]; rfl
  have qBb0 : w11.cell? ⟨w2.heap.size, 0, none⟩ = some (.int .i64 za) := by rw [Bb_t36.cell]; rfl
  have qBb1 : w11.cell? ⟨w2.heap.size, 1, none⟩ = some (.slice bbb nnb ccb) := by rw [Bb_t36.cell]; rfl
  have qBx0 : w11.cell? ⟨w6.heap.size, 0, none⟩ = some (.int .i64 za) := by rw [Bx_t36.cell]; rfl
  have qBx1 : w11.cell? ⟨w6.heap.size, 1, none⟩ = some (.slice adx la.length cx) := by rw [Bx_t36.cell]; rfl
  go_wp2
  go_ret
  exact ⟨rfl, hw_t36⟩

set_option maxRecDepth 100000 in
theorem lifted (os : Os) (started : os.Started) (H : Type) (enc : TypeId × Value → H) :
  ReturnsInHanded {} Tryz.checked os 11 .any (Rows.fnWorkNewSpec.pre6 enc Tryz.prog Tryz.f11 Rows.fnWorkNewRow.domain false) (Rows.fnWorkNewSpec.post enc Tryz.prog Tryz.f11 false true false false) := by
 refine returnsInHanded_of_change (C := Tryz.checked) Whole.own started (by kernel_rfl) Tryz.func11
  (ChangeSpec.witness6 (enc := enc) (C := Tryz.checked) false ⟨#[], #[.slice none 0 0], []⟩ 8 (by kernel_rfl) (by kernel_rfl) (by kernel_rfl) (by kernel_rfl)) ?_
 intro W base args ds gs before hval0 hW hcnd _
 have hval : ∀ (j : Nat) t v, Tryz.f11.params[j]? = some t → args[j]? = some v → Value.okWide Tryz.prog W .any base t v := hval0
 have hW' := hW
 obtain ⟨p, q, hA0, hV, rfl, hfz, hnd⟩ := hW
 have hA : DataW.TrodAll enc Tryz.prog W 0 (fun _ => true) true Tryz.f11.params.toList args.toList ds p := hA0
 rw [Tryz.params11] at hA hval
 obtain ⟨v0, vs0, d0, ds0, p0, q0, hargs, rfl, rfl, h0, r0⟩ := trodAll_cons hA
 obtain ⟨rfl, rfl, rfl⟩ := trodAll_nil r0
 obtain rfl : args = #[v0] := by cases args; simp_all
 obtain ⟨rfl, rfl⟩ := trodVars_none hV
 have k0 := h0
 have lt0 : ∀ x ∈ p0, x.block < W.heap.size := by obtain ⟨m, hm⟩ := k0; exact DataW.trod_lt m _ _ _ hm
 obtain ⟨A0, n0, c0, rfl, hc0, hm0, hr0⟩ := openBytes (hval 0 57 v0 rfl rfl) h0
 clear hA0 hval0
 refine (walk A0 n0 c0 W hc0 hm0 hr0).mono fun e W' ⟨he, bel⟩ => ?_
 subst he
 exact ⟨_, rfl, _, _, _, [], _, [], hW', trodAll_mk1 (shut_bool Tryz.underlying4 _), (trodAll_cons_mk (Below.trod Whole.laidOut (by kernel_rfl) (of_decide_eq_true (by kernel_rfl)) k0 bel lt0) trodAll_mk0), rfl, bel.frame _, fun h => by cases h⟩

theorem named : Tryz.prog.funcNamed Rows.fnWorkNewRow.func = some 11 := by kernel_rfl
theorem closed : Whole.lawFacts Tryz.prog 11 Tryz.f11 Rows.fnWorkNewSpec Rows.fnWorkNewRow = true := by kernel_rfl
theorem inst : Tryz.f11.isInstance Tryz.prog Rows.fnWorkNewRow.origin Rows.fnWorkNewRow.targs := of_decide_eq_true (by kernel_rfl)
theorem wrap : Tryz.f11.isWrapper Tryz.prog Rows.fnWorkNewRow.wrapper Rows.fnWorkNewRow.mainSum := by
 unfold Func.isWrapper; first | (rw [if_pos (by decide +kernel)]; kernel_rfl) | (rw [if_neg (by decide +kernel)]; exact ⟨rfl, rfl⟩)
theorem over : Rows.fnWorkNewRow.holds Tryz.pinned (OpenSpec.ofChange Rows.fnWorkNewSpec) :=
 OpenClaim.holds_of_wide 11 Tryz.f11 rfl rfl rfl rfl rfl rfl rfl ⟨rfl, rfl, rfl, rfl, rfl⟩ rfl rfl rfl rfl rfl named Tryz.func11 (Whole.facts_of closed)
  inst wrap (fun os started H enc _ => lifted os started H enc)

theorem proved : Rows.FnWorkNewSaid := over
#print axioms proved
end Go.Proofs.YtbeklnhngjmpiaaGreat.fnWorkNew
