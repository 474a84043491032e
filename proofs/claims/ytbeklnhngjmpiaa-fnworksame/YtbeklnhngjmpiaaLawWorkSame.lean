/- The law FnWorkSame: for every code that is drawn from, a transaction is itself, two are compared alike from both sides, and one write more is another transaction, as in the model: for every input the call returns true, and the argument reads afterwards as before. No conditions. -/
import Derived.Test.YtbeklnhngjmpiaaRows
import Derived.Test.YtbeklnhngjmpiaaWhole
import Derived.Test.YtbeklnhngjmpiaaA1
import Derived.Test.YtbeklnhngjmpiaaA4
import Derived.Test.YtbeklnhngjmpiaaDw4
import Derived.Test.YtbeklnhngjmpiaaX3n
import Derived.WalkKit
import Derived.ProofKit
import Derived.OpenShut
import Derived.ShutString
import Derived.ChangeOld
import Derived.Below
namespace Go.Proofs.Ytbeklnhngjmpiaa.fnWorkSame
open Go.ChangeShapes Go.WideShapes Go.ChangeAt Go.RowKit
open Go.ChangeMaps (open_string shut_string)
set_option linter.unusedVariables false

set_option maxRecDepth 100000 in
set_option maxHeartbeats 1000000 in
theorem walk (A0 : Option Addr) (n0 c0 : Nat) (w : World) (hc0 : n0 ≤ c0) (hm0 : c0 ≤ maxLen) (hr0 : RdB w w.heap.size A0 n0) :
    Calls Try.prog 6 #[.slice A0 n0 c0] w fun e w' => e = .returned (.bool true) ∧ Below w.heap.size w w' := by
  by_cases hn_n0 : (1048576 : Int) < (n0 : Int)
  · go_enter Try.func6, Try.ntmps6
    go_wp2
    go_ret
    exact ⟨rfl, Below.refl _ _⟩
  go_enter Try.func6, Try.ntmps6
  go_wp2_with fail
  refine (drawWorkSame A0 n0 c0 w hc0 hm0 hr0).mono ?_
  rintro e w1 ⟨za, Va, la, zb, Vb, lb, rfl, a_n, hla, b_n, hlb, hb1⟩
  obtain ⟨ada, ca, rfl, ry1_a, ry2_a, ry3_a⟩ := a_n.read
  clear ry1_a ry2_a ry3_a
  obtain ⟨adb, cb, rfl, ry1_b, ry2_b, ry3_b⟩ := b_n.read
  clear ry1_b ry2_b ry3_b
  have HAK : Hid (∀ k, (Value.slice ada la.length ca).ownBlock = some k → k < w1.heap.size) := Lib.hid (fun k hk => (a_n.block_lt hk).2)
  have hw_t1 := hb1
  have hs_t1 := hb1.size
  have hb_t3 := below_alloc (Below.refl _ w1) (.cells #[.int .i64 za, .slice ada la.length ca] 28)
  have Ba_t3 := blkA w1 #[.int .i64 za, .slice ada la.length ca] 28
  have hz_t3 : (w1.alloc (.cells #[.int .i64 za, .slice ada la.length ca] 28)).heap.size = w1.heap.size + 1 := World.size_alloc _ _
  have a_t4 := a_n.next hb_t3
  clear a_n
  have b_t4 := b_n.next hb_t3
  clear b_n
  have hw_t4 := below_next hw_t1 hb_t3
  have hs_t4 := hb_t3.size
  have hb_t6 := below_alloc (Below.refl _ (w1.alloc (.cells #[.int .i64 za, .slice ada la.length ca] 28))) (.cells #[.int .i64 zb, .slice adb lb.length cb] 28)
  have Bb_t6 := blkA (w1.alloc (.cells #[.int .i64 za, .slice ada la.length ca] 28)) #[.int .i64 zb, .slice adb lb.length cb] 28
  simp only [World.size_alloc] at Bb_t6
  have hz_t6 : ((w1.alloc (.cells #[.int .i64 za, .slice ada la.length ca] 28)).alloc (.cells #[.int .i64 zb, .slice adb lb.length cb] 28)).heap.size = (w1.alloc (.cells #[.int .i64 za, .slice ada la.length ca] 28)).heap.size + 1 := World.size_alloc _ _
  have a_t7 := a_t4.next hb_t6
  clear a_t4
  have b_t7 := b_t4.next hb_t6
  clear b_t4
  have Ba_t7 := Ba_t3.next hb_t6
  clear Ba_t3
  have hw_t7 := below_next hw_t4 hb_t6
  have hs_t7 := hb_t6.size
  obtain ⟨SB, HSB⟩ : ∃ SB, Hid (sameW za zb la lb = SB) := ⟨_, Lib.hid rfl⟩
  have HSB2 : Hid (sameW zb za lb la = SB) := Lib.hid ((sameW_symm _ _ _ _).trans HSB.out)
  have hsb : (SB != SB) = false := by cases SB <;> rfl
  have qBa0 : ((w1.alloc (.cells #[.int .i64 za, .slice ada la.length ca] 28)).alloc (.cells #[.int .i64 zb, .slice adb lb.length cb] 28)).cell? ⟨w1.heap.size, 0, none⟩ = some (.int .i64 za) := by rw [Ba_t7.cell]; rfl
  have qBa1 : ((w1.alloc (.cells #[.int .i64 za, .slice ada la.length ca] 28)).alloc (.cells #[.int .i64 zb, .slice adb lb.length cb] 28)).cell? ⟨w1.heap.size, 1, none⟩ = some (.slice ada la.length ca) := by rw [Ba_t7.cell]; rfl
  have qBb0 : ((w1.alloc (.cells #[.int .i64 za, .slice ada la.length ca] 28)).alloc (.cells #[.int .i64 zb, .slice adb lb.length cb] 28)).cell? ⟨w1.heap.size + 1, 0, none⟩ = some (.int .i64 zb) := by rw [Bb_t6.cell]; rfl
  have qBb1 : ((w1.alloc (.cells #[.int .i64 za, .slice ada la.length ca] 28)).alloc (.cells #[.int .i64 zb, .slice adb lb.length cb] 28)).cell? ⟨w1.heap.size + 1, 1, none⟩ = some (.slice adb lb.length cb) := by rw [Bb_t6.cell]; rfl
  go_wp2
  clear qBa0 qBa1 qBb0 qBb1
  have hb_t9 : Below ((w1.alloc (.cells #[.int .i64 za, .slice ada la.length ca] 28)).alloc (.cells #[.int .i64 zb, .slice adb lb.length cb] 28)).heap.size ((w1.alloc (.cells #[.int .i64 za, .slice ada la.length ca] 28)).alloc (.cells #[.int .i64 zb, .slice adb lb.length cb] 28)) ((w1.alloc (.cells #[.int .i64 za, .slice ada la.length ca] 28)).alloc (.cells #[.int .i64 zb, .slice adb lb.length cb] 28)).drew := (Below.refl _ _).drew
  have a_t10 := a_t7.next hb_t9
  clear a_t7
  have b_t10 := b_t7.next hb_t9
  clear b_t7
  have Ba_t10 := Ba_t7.next hb_t9
  clear Ba_t7
  have Bb_t10 := Bb_t6.next hb_t9
  clear Bb_t6
  have hw_t10 := below_next hw_t7 hb_t9
  have hs_t10 := hb_t9.size
  refine wp_region_held_drew (S := (fun W => W.cell? ⟨w1.heap.size, 0, none⟩ = some (.int .i64 za) ∧ W.cell? ⟨w1.heap.size, 1, none⟩ = some (.slice ada la.length ca) ∧ W.cell? ⟨w1.heap.size + 1, 0, none⟩ = some (.int .i64 zb) ∧ W.cell? ⟨w1.heap.size + 1, 1, none⟩ = some (.slice adb lb.length cb))) (by kernel_rfl) ?_ (fun hHeld => ?_)
  focus ((try dsimp only); (exact ⟨by rw [Ba_t10.cell]; rfl, by rw [Ba_t10.cell]; rfl, by rw [Bb_t10.cell]; rfl, by rw [Bb_t10.cell]; rfl⟩))
  (refine tk 0 ?_; try simp only [Act.put, pa, pb, pc])
  (refine tk 1 ?_; try simp only [Act.put, pa, pb, pc])
  (refine tk 3 ?_; try simp only [Act.put, pa, pb, pc])
  (refine tk 4 ?_; try simp only [Act.put, pa, pb, pc])
  (refine rd1 2 (fun K hK => ?_); go_simp; (go_at_call 21; refine (implWorkSameO a_t10 b_t10 (by omega) (by omega)).mono ?_; rintro e w2 ⟨rfl, hb2⟩; rw [HSB.out]; have a_t12 := a_t10.next hb2; clear a_t10; have b_t12 := b_t10.next hb2; clear b_t10; have Ba_t12 := Ba_t10.next hb2; clear Ba_t10; have Bb_t12 := Bb_t10.next hb2; clear Bb_t10; have hw_t12 := below_next hw_t10 hb2; have hs_t12 := hb2.size); go_wp2_with fail; refine hK.out _ _ ?_ (fun hHeld => ?_); (focus ((try dsimp only); (exact ⟨by rw [Ba_t12.cell]; rfl, by rw [Ba_t12.cell]; rfl, by rw [Bb_t12.cell]; rfl, by rw [Bb_t12.cell]; rfl⟩))); clear hK K; (try simp only [Act.put, pa, pb, pc]))
  (refine rd1 5 (fun K hK => ?_); go_simp; (go_at_call 20; refine (specWorkSameO a_t12 b_t12 (by omega) (by omega)).mono ?_; rintro e w3 ⟨rfl, hb3⟩; rw [HSB.out]; have a_t14 := a_t12.next hb3; clear a_t12; have b_t14 := b_t12.next hb3; clear b_t12; have Ba_t14 := Ba_t12.next hb3; clear Ba_t12; have Bb_t14 := Bb_t12.next hb3; clear Bb_t12; have hw_t14 := below_next hw_t12 hb3; have hs_t14 := hb3.size); go_wp2_with fail; refine hK.out _ _ ?_ (fun hHeld => ?_); (focus ((try dsimp only); (exact ⟨by rw [Ba_t14.cell]; rfl, by rw [Ba_t14.cell]; rfl, by rw [Bb_t14.cell]; rfl, by rw [Bb_t14.cell]; rfl⟩))); clear hK K; (try simp only [Act.put, pa, pb, pc]))
  (refine tk 6 ?_; try simp only [Act.put, pa, pb, pc])
  (refine tk 7 ?_; try simp only [Act.put, pa, pb, pc])
  (refine tk 8 ?_; try simp only [Act.put, pa, pb, pc])
  (refine tk 9 ?_; try simp only [Act.put, pa, pb, pc])
  (refine tk 11 ?_; try simp only [Act.put, pa, pb, pc])
  (refine tk 12 ?_; try simp only [Act.put, pa, pb, pc])
  (refine rd1 10 (fun K hK => ?_); go_simp; (go_at_call 21; refine (implWorkSameO a_t14 b_t14 (by omega) (by omega)).mono ?_; rintro e w4 ⟨rfl, hb4⟩; rw [HSB.out]; have a_t16 := a_t14.next hb4; clear a_t14; have b_t16 := b_t14.next hb4; clear b_t14; have Ba_t16 := Ba_t14.next hb4; clear Ba_t14; have Bb_t16 := Bb_t14.next hb4; clear Bb_t14; have hw_t16 := below_next hw_t14 hb4; have hs_t16 := hb4.size); go_wp2_with fail; refine hK.out _ _ ?_ (fun hHeld => ?_); (focus ((try dsimp only); (exact ⟨by rw [Ba_t16.cell]; rfl, by rw [Ba_t16.cell]; rfl, by rw [Bb_t16.cell]; rfl, by rw [Bb_t16.cell]; rfl⟩))); clear hK K; (try simp only [Act.put, pa, pb, pc]))
  (refine rd1 13 (fun K hK => ?_); go_simp; (go_at_call 21; refine (implWorkSameO b_t16 a_t16 (by omega) (by omega)).mono ?_; rintro e w5 ⟨rfl, hb5⟩; rw [HSB2.out]; have a_t18 := a_t16.next hb5; clear a_t16; have b_t18 := b_t16.next hb5; clear b_t16; have Ba_t18 := Ba_t16.next hb5; clear Ba_t16; have Bb_t18 := Bb_t16.next hb5; clear Bb_t16; have hw_t18 := below_next hw_t16 hb5; have hs_t18 := hb5.size); go_wp2_with fail; refine hK.out _ _ ?_ (fun hHeld => ?_); (focus ((try dsimp only); (exact ⟨by rw [Ba_t18.cell]; rfl, by rw [Ba_t18.cell]; rfl, by rw [Bb_t18.cell]; rfl, by rw [Bb_t18.cell]; rfl⟩))); clear hK K; (try simp only [Act.put, pa, pb, pc]))
  (refine tk 14 ?_; try simp only [Act.put, pa, pb, pc])
  (refine tk 15 ?_; try simp only [Act.put, pa, pb, pc])
  (refine tk 16 ?_; try simp only [Act.put, pa, pb, pc])
  (refine tk 17 ?_; try simp only [Act.put, pa, pb, pc])
  (refine tk 18 ?_; try simp only [Act.put, pa, pb, pc])
  (refine rd1 19 (fun K hK => ?_); go_simp; (go_at_call 21; refine (implWorkSameO a_t18 a_t18 (by omega) (by omega)).mono ?_; rintro e w6 ⟨rfl, hb6⟩; rw [sameW_refl]; have a_t20 := a_t18.next hb6; clear a_t18; have b_t20 := b_t18.next hb6; clear b_t18; have Ba_t20 := Ba_t18.next hb6; clear Ba_t18; have Bb_t20 := Bb_t18.next hb6; clear Bb_t18; have hw_t20 := below_next hw_t18 hb6; have hs_t20 := hb6.size); go_wp2_with fail; refine hK.out _ _ ?_ (fun hHeld => ?_); (focus ((try dsimp only); (exact ⟨by rw [Ba_t20.cell]; rfl, by rw [Ba_t20.cell]; rfl, by rw [Bb_t20.cell]; rfl, by rw [Bb_t20.cell]; rfl⟩))); clear hK K; (try simp only [Act.put, pa, pb, pc]))
  (refine tk 20 ?_; try simp only [Act.put, pa, pb, pc])
  (refine tk 21 ?_; try simp only [Act.put, pa, pb, pc])
  refine wpAnyH_done (by kernel_rfl) ?_ _
  clear hsb HSB HSB2
  clear b_t20
  have rBa0 : w6.cell? ⟨w1.heap.size, 0, none⟩ = some (.int .i64 za) := by rw [Ba_t20.cell]; rfl
  have rBa1 : w6.cell? ⟨w1.heap.size, 1, none⟩ = some (.slice ada la.length ca) := by rw [Ba_t20.cell]; rfl
  have hb_t22 := below_alloc (Below.refl _ w6) (.cells #[.int .i64 za, .slice ada la.length ca] 28)
  have Bc_t22 := blkA w6 #[.int .i64 za, .slice ada la.length ca] 28
  have hz_t22 : (w6.alloc (.cells #[.int .i64 za, .slice ada la.length ca] 28)).heap.size = w6.heap.size + 1 := World.size_alloc _ _
  have a_t23 := a_t20.next hb_t22
  clear a_t20
  have Ba_t23 := Ba_t20.next hb_t22
  clear Ba_t20
  have hw_t23 := below_next hw_t20 hb_t22
  have hs_t23 := hb_t22.size
  have hsz : (w6.alloc (.cells #[.int .i64 za, .slice ada la.length ca] 28)).heap.size = w6.heap.size + 1 := World.size_alloc _ _
  have hOf : OwnG (α := X) ((w6.alloc (.cells #[.int .i64 za, .slice ada la.length ca] 28)).alloc (.cells #[] 51)) (w6.heap.size + 1) (.slice (some ⟨w6.heap.size + 1, 0, none⟩) 0 0) [] := by
    have h := OwnG.fresh (α := X) (w6.alloc (.cells #[.int .i64 za, .slice ada la.length ca] 28)) (w6.heap.size + 1) (by omega)
    rw [hsz] at h
    exact h
  have hTf : Below (w6.alloc (.cells #[.int .i64 za, .slice ada la.length ca] 28)).heap.size (w6.alloc (.cells #[.int .i64 za, .slice ada la.length ca] 28)) ((w6.alloc (.cells #[.int .i64 za, .slice ada la.length ca] 28)).alloc (.cells #[] 51)) := below_alloc (Below.refl _ _) _
  have hrf := (a_t23.next (below_alloc (Below.refl (w6.alloc (.cells #[.int .i64 za, .slice ada la.length ca] 28)).heap.size (w6.alloc (.cells #[.int .i64 za, .slice ada la.length ca] 28))) (.cells #[] 51))).rd'.2.2.2
  have hbs : w6.heap.size + 1 ≤ ((w6.alloc (.cells #[.int .i64 za, .slice ada la.length ca] 28)).alloc (.cells #[] 51)).heap.size := by rw [World.size_alloc]; omega
  have kBa0 : ((w6.alloc (.cells #[.int .i64 za, .slice ada la.length ca] 28)).alloc (.cells #[] 51)).cell? ⟨w1.heap.size, 0, none⟩ = some (.int .i64 za) := by rw [(Ba_t23.alloc _).cell]; rfl
  have kBa1 : ((w6.alloc (.cells #[.int .i64 za, .slice ada la.length ca] 28)).alloc (.cells #[] 51)).cell? ⟨w1.heap.size, 1, none⟩ = some (.slice ada la.length ca) := by rw [(Ba_t23.alloc _).cell]; rfl
  have kBc0 : ((w6.alloc (.cells #[.int .i64 za, .slice ada la.length ca] 28)).alloc (.cells #[] 51)).cell? ⟨w6.heap.size, 0, none⟩ = some (.int .i64 za) := by rw [(Bc_t22.alloc _).cell]; rfl
  have kBc1 : ((w6.alloc (.cells #[.int .i64 za, .slice ada la.length ca] 28)).alloc (.cells #[] 51)).cell? ⟨w6.heap.size, 1, none⟩ = some (.slice ada la.length ca) := by rw [(Bc_t22.alloc _).cell]; rfl
  go_wp2_with (first
    | (at_builtin; refine wpList_appG (α := X) ((w6.alloc (.cells #[.int .i64 za, .slice ada la.length ca] 28)).alloc (.cells #[] 51)) rfl _ _ _ _ 51 rfl Try.underlying26 Try.underlying26 (w6.heap.size + 1) _ [] rfl hOf ada ca _ la.length la rfl rfl hrf (by simp; omega) hbs ?_; intro v1 x1 hown1 hgr1 hat1; have hT1 : Below (w6.alloc (.cells #[.int .i64 za, .slice ada la.length ca] 28)).heap.size (w6.alloc (.cells #[.int .i64 za, .slice ada la.length ca] 28)) x1 := hTf.grown hgr1 hTf.size (fun k hk => by have := (hOf.block_lt hk).1; omega); rw [List.nil_append] at hown1; have hs1 := hT1.size; clear hgr1 hat1 hrf)
    | (at_builtin; refine wpList_appG (α := X) (x1.alloc (.cells #[.string ⟨#[]⟩, .int .i64 0, .bool false] 51)) rfl _ _ _ _ 51 rfl Try.underlying26 Try.underlying26 (w6.heap.size + 1) v1 la rfl (hown1.alloc _) (some ⟨x1.heap.size, 0, none⟩) 1 _ 1 [(⟨⟨#[]⟩, 0, false⟩ : X)] rfl rfl (rdOneG x1 (⟨⟨#[]⟩, 0, false⟩ : X) _ _ rfl) (by simp; omega) (by rw [World.size_alloc]; omega) ?_; intro v2 x2 hown2 hgr2 hat2; have hN2 : Below (w6.alloc (.cells #[.int .i64 za, .slice ada la.length ca] 28)).heap.size (w6.alloc (.cells #[.int .i64 za, .slice ada la.length ca] 28)) x2 := (below_alloc hT1 (.cells #[.string ⟨#[]⟩, .int .i64 0, .bool false] 51)).grown hgr2 (below_alloc hT1 (.cells #[.string ⟨#[]⟩, .int .i64 0, .bool false] 51)).size (fun k hk => by have := ((hown1.alloc (.cells #[.string ⟨#[]⟩, .int .i64 0, .bool false] 51)).block_lt hk).1; omega); clear hgr2 hat2; have hA2 := Ba_t23.next hN2; have hC2 := Bc_t22.next hN2; have ha2 := a_t23.next hN2; have hw2 := below_next hw_t23 hN2; have HN2 : Hid (∀ k, v2.ownBlock = some k → k ≠ w6.heap.size) := Lib.hid (fun k hk => by have := (hown2.block_lt hk).1; omega); obtain ⟨b2, n2, c2, rfl⟩ := hown2.slice; have d0 : x2.cell? ⟨w6.heap.size, 0, none⟩ = some (.int .i64 za) := (by rw [hC2.cell]; rfl); have d1 : x2.cell? ⟨w6.heap.size, 1, none⟩ = some (.slice ada la.length ca) := (by rw [hC2.cell]; rfl); have f0 := hC2.free 0; have f1 := hC2.free 1; have hC3 : Blk (x2.setCell ⟨w6.heap.size, 1, none⟩ (.slice b2 n2 c2)) (w6.heap.size) 28 #[.int .i64 za, .slice b2 n2 c2] := (hC2.set_ 1 (.slice b2 n2 c2)).cast rfl; have hA3 := hA2.setOther (a := ⟨w6.heap.size, 1, none⟩) (show w1.heap.size ≠ w6.heap.size from by omega) (.slice b2 n2 c2); have e0 : (x2.setCell ⟨w6.heap.size, 1, none⟩ (.slice b2 n2 c2)).cell? ⟨w6.heap.size, 0, none⟩ = some (.int .i64 za) := (by rw [hC3.cell]; rfl); have e1 : (x2.setCell ⟨w6.heap.size, 1, none⟩ (.slice b2 n2 c2)).cell? ⟨w6.heap.size, 1, none⟩ = some (.slice b2 n2 c2) := (by rw [hC3.cell]; rfl); have e2 : (x2.setCell ⟨w6.heap.size, 1, none⟩ (.slice b2 n2 c2)).cell? ⟨w1.heap.size, 0, none⟩ = some (.int .i64 za) := (by rw [hA3.cell]; rfl); have e3 : (x2.setCell ⟨w6.heap.size, 1, none⟩ (.slice b2 n2 c2)).cell? ⟨w1.heap.size, 1, none⟩ = some (.slice ada la.length ca) := (by rw [hA3.cell]; rfl)))
  have hneA : ∀ k, (Value.slice ada la.length ca).ownBlock = some k → k ≠ w6.heap.size := fun k hk => by have := HAK.out k hk; omega
  have ha3 := ha2.setCell (a := ⟨w6.heap.size, 1, none⟩) hneA (.slice b2 n2 c2)
  have hy3 := hown2.setCell (a := ⟨w6.heap.size, 1, none⟩) HN2.out (.slice b2 n2 c2)
  have hw3 : Below w.heap.size w (x2.setCell ⟨w6.heap.size, 1, none⟩ (.slice b2 n2 c2)) := hw2.setCell (show w.heap.size ≤ w6.heap.size from by omega) _
  refine (implWorkSameO ha3 hy3 (by omega) (by simp; omega)).mono ?_
  rintro e w20 ⟨rfl, hb20⟩
  rw [sameW_more]
  have hw20 := below_next hw3 hb20
  go_wp2
  go_ret
  exact ⟨rfl, hw20⟩

set_option maxRecDepth 100000 in
theorem lifted (os : Os) (started : os.Started) (H : Type) (enc : TypeId × Value → H) :
    ReturnsInHanded {} Try.checked os 6 .any (Rows.fnWorkSameSpec.pre6 enc Try.prog Try.f6 Rows.fnWorkSameRow.domain false) (Rows.fnWorkSameSpec.post enc Try.prog Try.f6 false true false false) := by
  refine returnsInHanded_of_change (C := Try.checked) Whole.own started (by kernel_rfl) Try.func6
    (ChangeSpec.witness6 (enc := enc) (C := Try.checked) false ⟨#[], #[.slice none 0 0], []⟩ 8 (by kernel_rfl) (by kernel_rfl) (by kernel_rfl) (by kernel_rfl)) ?_
  intro W base args ds gs before hval0 hW hcnd _
  have hval : ∀ (j : Nat) t v, Try.f6.params[j]? = some t → args[j]? = some v → Value.okWide Try.prog W .any base t v := hval0
  have hW' := hW
  obtain ⟨p, q, hA0, hV, rfl, hfz, hnd⟩ := hW
  have hA : DataW.TrodAll enc Try.prog W 0 (fun _ => true) true Try.f6.params.toList args.toList ds p := hA0
  rw [Try.params6] at hA hval
  obtain ⟨v0, vs0, d0, ds0, p0, q0, hargs, rfl, rfl, h0, r0⟩ := trodAll_cons hA
  obtain ⟨rfl, rfl, rfl⟩ := trodAll_nil r0
  obtain rfl : args = #[v0] := by cases args; simp_all
  obtain ⟨rfl, rfl⟩ := trodVars_none hV
  have k0 := h0
  have lt0 : ∀ x ∈ p0, x.block < W.heap.size := by obtain ⟨m, hm⟩ := k0; exact DataW.trod_lt m _ _ _ hm
  obtain ⟨A0, n0, c0, rfl, hc0, hm0, hr0⟩ := openBytes (hval 0 47 v0 rfl rfl) h0
  clear hA0 hval0
  refine (walk A0 n0 c0 W hc0 hm0 hr0).mono fun e W' ⟨he, bel⟩ => ?_
  subst he
  exact ⟨_, rfl, _, _, _, [], _, [], hW', trodAll_mk1 (shut_bool Try.underlying4 _), (trodAll_cons_mk (Below.trod Whole.laidOut (by kernel_rfl) (of_decide_eq_true (by kernel_rfl)) k0 bel lt0) trodAll_mk0), rfl, bel.frame _, fun h => by cases h⟩

theorem named : Try.prog.funcNamed Rows.fnWorkSameRow.func = some 6 := by kernel_rfl
theorem closed : Whole.lawFacts Try.prog 6 Try.f6 Rows.fnWorkSameSpec Rows.fnWorkSameRow = true := by kernel_rfl
theorem inst : Try.f6.isInstance Try.prog Rows.fnWorkSameRow.origin Rows.fnWorkSameRow.targs := of_decide_eq_true (by kernel_rfl)
theorem wrap : Try.f6.isWrapper Try.prog Rows.fnWorkSameRow.wrapper Rows.fnWorkSameRow.mainSum := by
  unfold Func.isWrapper; first | (rw [if_pos (by decide +kernel)]; kernel_rfl) | (rw [if_neg (by decide +kernel)]; exact ⟨rfl, rfl⟩)
theorem over : Rows.fnWorkSameRow.holds Try.pinned (OpenSpec.ofChange Rows.fnWorkSameSpec) :=
  OpenClaim.holds_of_wide 6 Try.f6 rfl rfl rfl rfl rfl rfl rfl ⟨rfl, rfl, rfl, rfl, rfl⟩ rfl rfl rfl rfl rfl named Try.func6 (Whole.facts_of closed)
    inst wrap (fun os started H enc _ => lifted os started H enc)

theorem proved : Rows.FnWorkSameSaid := over
#print axioms proved
end Go.Proofs.Ytbeklnhngjmpiaa.fnWorkSame
