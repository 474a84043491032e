/- The model's l2Writes: writes that are drawn. -/
import Derived.Test.YtbeklnhngjmpiaaGreatDv1
namespace Go.Proofs.YtbeklnhngjmpiaaGreat
open Go.RowKit
set_option linter.unusedVariables false
set_option maxRecDepth 100000

theorem belowKeeps {a w w' : World} {g b : Nat} (h : a.grownBy w (some g)) (hb : Below b w w') (hs : a.heap.size ≤ b) : a.grownBy w' (some g) :=
 ⟨by rw [hb.os, h.os], by rw [hb.tape, h.tape], by rw [hb.output, h.output], Nat.le_trans h.size hb.size, fun k hk hn => (hb.block k (by omega)).trans (h.block k hk hn)⟩
theorem Rdr.belowR {w w' : World} {g n c p b : Nat} {A : Option Addr} (h : Rdr w g A n c p) (hb : Below b w w') (hg : g < b) : Rdr w' g A n c p :=
 ⟨(hb.block g hg).trans h.blk, h.len, fun i hi => by
  obtain ⟨b', o, z, e, hbb, hc, hz⟩ := h.bytes i hi
  exact ⟨b', o, z, e, hbb, (World.cell?_of_block (a := ⟨b', o + i, none⟩) (hb.block b' (by omega))).trans hc, hz⟩⟩

set_option maxHeartbeats 40000000 in
theorem writes_d (g : Nat) (A : Option Addr) (n c p : Nat) (A' : Option Addr) (c' : Nat) (l : List R) (w : World) (h : Rdr w g A n c p) (hp : p ≤ 990000) (hfr : FitR l) (hlr : l.length ≤ 1000) (base : Nat) (hg : g < base) (hown : OwnR w base (.slice A' l.length c') l) :
  Calls Tryz.prog 96 #[.pointer (some ⟨g, 0, none⟩), .slice A' l.length c'] w (RetDX g A n c p 40 8 w) := by
 have hgl := h.lt
 have HOWN := Lib.hid hown
 clear hown
 go_enter Tryz.func96, Tryz.ntmps96
 go_wp2_with fail
 have hr0 := (h.alloc (.cells #[] 52)).alloc (.cells #[.int .i64 1, .int .i64 2, .int .i64 1, .int .i64 3, .int .i64 0, .int .i64 5] 3)
 refine (num_d g A n c p (w.heap.size + 1) zsWrites _ hr0 (by omega) (by omega) (heap_alloc2_new w _ _) 6 rfl (by omega) (by omega)).mono ?_
 rintro e w1 ⟨z, rfl, hz, hd⟩
 obtain ⟨j0, rfl, hj0⟩ := zsWrites_small z hz
 obtain ⟨q0, hq1, hq2, hq⟩ := hd.rdr
 have hO1 := ((OwnG.fresh (α := X) w w.heap.size (Nat.le_refl _)).alloc (.cells #[.int .i64 1, .int .i64 2, .int .i64 1, .int .i64 3, .int .i64 0, .int .i64 5] 3)).drawn (by omega) hd.grown
 have hgr : w.grownBy w1 (some g) := (grown_alloc (grown_alloc (World.grownBy.refl w _) _) _).trans hd.grown
 go_wp2
 go_loopw [5, 6] (fun o i W => ∃ (j : Nat) (lo : List X), j ≤ 5 ∧ i = .int .i64 j ∧ OwnG W w.heap.size o lo ∧ FitXs lo ∧ lo.length + j ≤ 5 ∧ w.grownBy W (some g) ∧ ∃ q, p ≤ q ∧ q + 7 * j ≤ p + 36 ∧ Rdr W g A n c q) (fun _ i _ => (intOf i).toNat)
 case atStart => exact ⟨j0, [], hj0, rfl, hO1, fun r hr => by simp at hr, by simpa using hj0, hgr, q0, hq1, by omega, hq⟩
 case round =>
  clear hO1 hgr hr0 hd hq
  obtain ⟨j, lo, hj, rfl, hO, hfit, hlen, hgrw, q, hq1, hq2, hq⟩ := hrel
  by_cases hj0 : 0 < j
  ·
   have hj1 : (0 : Int) < (j : Int) := by omega
   go_wp2_with fail
   refine (near_d g A n c q A' c' l wr hq (by omega) hfr hlr base hg (HOWN.out.drawn hg hgrw)).mono ?_
   rintro e w2 ⟨s, rfl, hs, hd2⟩
   obtain ⟨q2, h21, h22, hq2'⟩ := hd2.rdr
   have hO2 := hO.drawn hgl hd2.grown
   go_wp2_with fail
   refine (value_d g A n c q2 w2 hq2' (by omega)).mono ?_
   rintro e w3 ⟨z, rfl, hz, hd3⟩
   obtain ⟨q3, h31, h32, hq3⟩ := hd3.rdr
   have hO3 := hO2.drawn hgl hd3.grown
   have hgr3 : w.grownBy w3 (some g) := (hgrw.trans hd2.grown).trans hd3.grown
   have hq3a := hq3.alloc (.cells #[.string s, .int .i64 z, .bool false] 52)
   have hO3a := hO3.alloc (.cells #[.string s, .int .i64 z, .bool false] 52)
   have hB3a := blkA w3 #[.string s, .int .i64 z, .bool false] 52
   have hgr3a := grown_alloc hgr3 (.cells #[.string s, .int .i64 z, .bool false] 52)
   obtain ⟨bx, HBX⟩ : ∃ bx, Hid (w3.heap.size = bx) := ⟨_, Lib.hid rfl⟩
   have hbg : g < bx := by have := hgr3.size; have := HBX.out; omega
   have HNE : Hid (∀ k, u5.ownBlock = some k → k ≠ bx) := fun k hk => by have := (hO3.block_lt hk).2; have := HBX.out; omega
   have hwb : w.heap.size ≤ bx := by have := hgr3.size; have := HBX.out; omega
   rw [HBX.out] at hB3a
   clear hO hO2 hO3 hq2' hq3 hd2 hd3 hgrw
   go_wp2_with fail
   refine (pick_d g A n c q3 4 _ hq3a (by omega) (by omega) (by omega)).mono ?_
   rintro e w4 ⟨k4, rfl, hk4, hd4⟩
   rw [HBX.out]
   obtain ⟨q4, h41, h42, hq4⟩ := hd4.rdr
   have hO4 := hO3a.drawn hgl hd4.grown
   have hB4 := hB3a.drawn (by omega) hd4.grown
   have hgr4 := hgr3a.trans hd4.grown
   obtain ⟨Ao, co, rfl, hlo1, hlo2, hlo3⟩ := hO4.read
   clear hlo1 hlo2 hlo3 hO3a hB3a hgr3a hd4 hq3a hq
   by_cases hk40 : k4 = 0
   ·
    have hb4 : ((k4 : Int) == 0) = true := by simp [hk40]
    clear hk40
    have t0 : w4.cell? ⟨bx, 0, none⟩ = some (.string s) := by rw [hB4.cell]; rfl
    have t1 : w4.cell? ⟨bx, 1, none⟩ = some (.int .i64 z) := by rw [hB4.cell]; rfl
    have t2 : w4.cell? ⟨bx, 2, none⟩ = some (.bool false) := by rw [hB4.cell]; rfl
    have f0 := hB4.free 0
    have f1 := hB4.free 1
    have f2 := hB4.free 2
    obtain ⟨x, HXE, hfx⟩ : ∃ x : X, Hid (s = x.k ∧ (0 : Int) = x.n ∧ true = x.g) ∧ FitX x := ⟨⟨s, 0, true⟩, Lib.hid ⟨rfl, rfl, rfl⟩, hs, by show (-9223372036854775808 : Int) ≤ 0; omega, by show (0 : Int) ≤ 9223372036854775807; omega⟩
    have hB5 : Blk (((w4.setCell ⟨bx, 0, none⟩ (.string s)).setCell ⟨bx, 1, none⟩ (.int .i64 0)).setCell ⟨bx, 2, none⟩ (.bool true)) bx 52 #[.string x.k, .int .i64 x.n, .bool x.g] := (((hB4.set_ 0 _).set_ 1 _).set_ 2 _).cast (by rw [← HXE.out.1, ← HXE.out.2.1, ← HXE.out.2.2]; rfl)
    have hO5 := ((hO4.setCell (a := ⟨bx, 0, none⟩) (fun g hg => HNE.out g hg) (.string s)).setCell (a := ⟨bx, 1, none⟩) (fun g hg => HNE.out g hg) (.int .i64 0)).setCell (a := ⟨bx, 2, none⟩) (fun g hg => HNE.out g hg) (.bool true)
    have hbS : Below bx w4 (((w4.setCell ⟨bx, 0, none⟩ (.string s)).setCell ⟨bx, 1, none⟩ (.int .i64 0)).setCell ⟨bx, 2, none⟩ (.bool true)) := (((Below.refl bx w4).setCell (Nat.le_refl _) _).setCell (Nat.le_refl _) _).setCell (Nat.le_refl _) _
    have hgr5 := belowKeeps hgr4 hbS (by have := hgr3.size; omega)
    have hq4 := hq4.belowR hbS (by omega)
    go_wp2
    go_loopw [8] (fun kk W => ∃ m : Nat, m ≤ lo.length ∧ kk = .int .i64 m ∧ Below (((w4.setCell ⟨bx, 0, none⟩ (.string s)).setCell ⟨bx, 1, none⟩ (.int .i64 0)).setCell ⟨bx, 2, none⟩ (.bool true)).heap.size (((w4.setCell ⟨bx, 0, none⟩ (.string s)).setCell ⟨bx, 1, none⟩ (.int .i64 0)).setCell ⟨bx, 2, none⟩ (.bool true)) W) (fun kk _ => lo.length - (intOf kk).toNat)
    case atStart => exact ⟨0, Nat.zero_le _, rfl, Below.refl _ _⟩
    case round =>
     obtain ⟨m, hm, rfl, hbm⟩ := hrel
     have bq : wr.cell? ⟨bx, 0, none⟩ = some (.string x.k) := by rw [(hB5.next hbm).cell]; rfl
     by_cases hml : m < lo.length
     ·
      obtain ⟨b, o, rfl, hbB, hc0, hc1, hc2⟩ := (hO5.next hbm).rd'.2.2.2.atX hml
      have hmI := lenI _ _ hml
      have hmd : decide ((m : Int) < (lo.length : Int)) = true := decide_eq_true hmI
      cases hlt : Op.bytesLess lo[m].k.toList x.k.toList
      ·
       go_wp2
       refine wp_region_held_drew (S := (fun W => W.cell? ⟨bx, 0, none⟩ = some (.string x.k) ∧ W.cell? ⟨b, o + m * 3, none⟩ = some (.string lo[m].k))) (by kernel_rfl) ?_ (fun hHeld => ?_)
       focus ((try dsimp only); (exact ⟨bq, hc0⟩))
       refine tk 0 ?_
       refine tk 1 ?_
       refine tk 2 ?_
       refine tk 3 ?_
       refine tk 4 ?_
       refine tk 5 ?_
       refine tk 6 ?_
       refine tk 7 ?_
       refine tk 8 ?_
       refine tk 9 ?_
       refine tk 10 ?_
       refine tk 11 ?_
       refine tk 12 ?_
       refine tk 13 ?_
       refine wpAnyH_done (by kernel_rfl) ?_ _
       cases he : lo[m].k.toList == x.k.toList
       ·
        go_wp2
        refine wp_region_held_drew (S := (fun W => W.cell? ⟨bx, 0, none⟩ = some (.string x.k) ∧ W.cell? ⟨b, o + m * 3, none⟩ = some (.string lo[m].k))) (by kernel_rfl) ?_ (fun hHeld => ?_)
        focus ((try dsimp only); (exact ⟨bq, hc0⟩))
        refine tk 0 ?_
        refine tk 1 ?_
        refine tk 2 ?_
        refine tk 3 ?_
        refine tk 4 ?_
        refine tk 5 ?_
        refine tk 6 ?_
        refine tk 7 ?_
        refine tk 8 ?_
        refine tk 9 ?_
        refine tk 10 ?_
        refine tk 11 ?_
        refine tk 12 ?_
        refine tk 13 ?_
        refine wpAnyH_done (by kernel_rfl) ?_ _
        obtain ⟨Ao, HAo⟩ : ∃ Ao, Hid (some ⟨b, o, none⟩ = (Ao : Option Addr)) := ⟨_, Lib.hid rfl⟩
        rw [HAo.out] at hO5
        rw [HAo.out]
        obtain ⟨ws, HWS⟩ : ∃ ws, Hid (wr.drew.drew = ws) := ⟨_, Lib.hid rfl⟩
        have hbs : Below (((w4.setCell ⟨bx, 0, none⟩ (.string s)).setCell ⟨bx, 1, none⟩ (.int .i64 0)).setCell ⟨bx, 2, none⟩ (.bool true)).heap.size (((w4.setCell ⟨bx, 0, none⟩ (.string s)).setCell ⟨bx, 1, none⟩ (.int .i64 0)).setCell ⟨bx, 2, none⟩ (.bool true)) wr.drew.drew := hbm.drew.drew
        rw [HWS.out] at hbs
        rw [HWS.out]
        clear hc0 hc1 hc2 hmI hmd bq
        have hBs := hB5.next hbs
        have hqs := hq4.next hbs
        have hOs := hO5.next hbs
        have hgrs := grown_call hgr5 hbs
        obtain ⟨hx1, hx2, hx3, hro0⟩ := hOs.rd'
        clear hx1
        have hcut := runCutG (α := X) 36 Tryz.underlying36 Ao lo.length co m hm hx2
        have hi1 : (0 : Int) ≤ (m : Int) := by omega
        have hi2 : (m : Int) ≤ (co : Int) := by omega
        have hi3 : (m : Int) ≤ (lo.length : Int) := by omega
        have hOf := OwnG.fresh (α := X) ws ws.heap.size (Nat.le_refl _)
        have hTf : Below ws.heap.size ws (ws.alloc (.cells #[] 52)) := below_alloc (Below.refl _ _) _
        have HFT : Hid (([] : List X).length + (lo.drop m).length ≤ 4194304) := by show ([] : List X).length + (lo.drop m).length ≤ 4194304; rw [List.length_drop, List.length_nil]; omega
        go_wp2_with ((at_builtin; refine wpList_appG (α := X) (ws.alloc (.cells #[] 52)) rfl _ _ _ _ 52 rfl Tryz.underlying36 Tryz.underlying36 ws.heap.size _ [] rfl hOf (cutG X Ao co m) (co - m) _ (lo.length - m) (lo.drop m) List.length_drop rfl (rdDpG hro0 m co hx2 hTf) HFT.out hTf.size ?_; intro vl wt hvl hgl0 hatl; have hTt := belowAppG hTf hOf hgl0))
        rw [List.nil_append] at hvl
        have hBx := hBs.next hTt
        have hBd : Blk wt.drew bx 52 #[.string x.k, .int .i64 x.n, .bool x.g] := hBx
        have hRt := hqs.next hTt
        have hOt := hOs.next hTt
        have hgrt := grown_call hgrs hTt
        have hro := hro0.next hTt
        obtain ⟨Al, cl, rfl, hx4, hx5, hrl⟩ := hvl.read
        clear hx4 hx5
        have HTK : Hid ((lo.take m).length = m) := by show (lo.take m).length = m; rw [List.length_take]; omega
        obtain ⟨NX, HNX⟩ : ∃ NX, Hid (NX = ([] ++ lo.take m) ++ [x] ++ lo.drop m) := ⟨_, Lib.hid rfl⟩
        have hfN : FitXs NX := by rw [HNX.out, List.nil_append]; exact fitX_put hfit hfx
        have HNL : Hid (NX.length ≤ lo.length + 1) := by show NX.length ≤ lo.length + 1; rw [HNX.out]; simp only [List.length_append, List.length_nil, List.length_take, List.length_drop, List.length_singleton]; omega
        have hsz : w.heap.size ≤ wt.heap.size := hgrt.size
        have hb0t : wt.cell? ⟨bx, 0, none⟩ = some (.string x.k) := by rw [hBx.cell]; rfl
        have hb1t : wt.cell? ⟨bx, 1, none⟩ = some (.int .i64 x.n) := by rw [hBx.cell]; rfl
        have hb2t : wt.cell? ⟨bx, 2, none⟩ = some (.bool x.g) := by rw [hBx.cell]; rfl
        clear hOf hTf hcut hOs hBs hqs
        go_wp2
        refine wp_region_held_drew (S := (fun W => W.cell? ⟨bx, 0, none⟩ = some (.string x.k) ∧ W.cell? ⟨bx, 1, none⟩ = some (.int .i64 x.n) ∧ W.cell? ⟨bx, 2, none⟩ = some (.bool x.g))) (by kernel_rfl) ?_ (fun hHeld => ?_)
        focus ((try dsimp only); (exact ⟨by rw [hBd.cell]; rfl, by rw [hBd.cell]; rfl, by rw [hBd.cell]; rfl⟩))
        refine tk 1 ?_
        refine tk 2 ?_
        refine tk 3 ?_
        refine tk 5 ?_
        refine tk 8 ?_
        refine wpAnyH_ready (rs := [0, 6]) (by kernel_rfl) (by simp) (AllReadyH.cons (by (simp only [ga, gc]; rfl)) (fun K hK => ?_) (AllReadyH.cons (by (simp only [ga, gb, gc]; rfl)) (fun K hK => ?_) AllReadyH.nil))
        ·
         have hTe : Below wt.heap.size wt (wt.alloc (.cells #[] 52)).drew := (below_alloc (Below.refl _ _) _).drew
         have hBe := hBx.next hTe
         have hEe : OwnG (α := X) (wt.alloc (.cells #[] 52)).drew wt.heap.size (.slice (some ⟨wt.heap.size, 0, none⟩) 0 0) [] := OwnG.fresh wt _ (Nat.le_refl _)
         go_simp
         refine hK.out _ _ ?_ (fun hHeld => ?_)
         focus ((try dsimp only); (exact ⟨by rw [hBe.cell]; rfl, by rw [hBe.cell]; rfl, by rw [hBe.cell]; rfl⟩))
         clear hK K
         try simp only [Act.put, pa, pb, pc]
         refine wpAnyH_ready (rs := [4, 6]) (by kernel_rfl) (by simp) (AllReadyH.cons (by (simp only [ga, gb, gc]; rfl)) (fun K hK => ?_) (AllReadyH.cons (by (simp only [ga, gb, gc]; rfl)) (fun K hK => ?_) AllReadyH.nil))
         ·
          refine step_appG (α := X) (wt.alloc (.cells #[] 52)).drew rfl _ _ _ _ 52 rfl Tryz.underlying36 Tryz.underlying36 wt.heap.size (.slice (some ⟨wt.heap.size, 0, none⟩) 0 0) ([] : List X) rfl hEe Ao co _ m (lo.take m) HTK.out rfl (rdTkG hro m hTe) (by simp only [List.length_nil, List.length_take]; omega) hTe.size ?_
          intro v4 w4 hv4 hgv4 hatv4
          have hTv4 := belowAppG hTe hEe hgv4
          have hBv4 := hBx.next hTv4
          obtain ⟨bv4, nv4, cv4, rfl⟩ := hv4.slice
          refine hK.out _ _ ?_ (fun hHeld => ?_)
          focus ((try dsimp only); (exact ⟨by rw [hBv4.cell]; rfl, by rw [hBv4.cell]; rfl, by rw [hBv4.cell]; rfl⟩))
          clear hK K
          try simp only [Act.put, pa, pb, pc]
          have hT6 : Below wt.heap.size wt (w4.alloc (.cells #[.string x.k, .int .i64 x.n, .bool x.g] 52)) := below_alloc hTv4 _
          have hB6 := hBx.next hT6
          have hE6 := hv4.alloc (.cells #[.string x.k, .int .i64 x.n, .bool x.g] 52)
          refine rd1 6 (fun K hK => ?_)
          go_simp
          refine hK.out _ _ ?_ (fun hHeld => ?_)
          focus ((try dsimp only); (exact ⟨by rw [hB6.cell]; rfl, by rw [hB6.cell]; rfl, by rw [hB6.cell]; rfl⟩))
          clear hK K
          try simp only [Act.put, pa, pb, pc]
          refine rd1 7 (fun K hK => ?_)
          refine step_appG (α := X) (w4.alloc (.cells #[.string x.k, .int .i64 x.n, .bool x.g] 52)) rfl _ _ _ _ 52 rfl Tryz.underlying36 Tryz.underlying36 wt.heap.size (.slice bv4 nv4 cv4) ([] ++ lo.take m) rfl hE6 (some ⟨w4.heap.size, 0, none⟩) 1 _ 1 [x] rfl rfl (rdOneX w4 x 52) (by simp only [List.length_append, List.length_nil, List.length_take, List.length_singleton]; omega) hT6.size ?_
          intro v7 w7 hv7 hgv7 hatv7
          have hTv7 := belowAppG hT6 hE6 hgv7
          have hBv7 := hBx.next hTv7
          obtain ⟨bv7, nv7, cv7, rfl⟩ := hv7.slice
          refine hK.out _ _ ?_ (fun hHeld => ?_)
          focus ((try dsimp only); (exact ⟨by rw [hBv7.cell]; rfl, by rw [hBv7.cell]; rfl, by rw [hBv7.cell]; rfl⟩))
          clear hK K
          try simp only [Act.put, pa, pb, pc]
          refine rd1 9 (fun K hK => ?_)
          refine step_appG (α := X) w7 rfl _ _ _ _ 52 rfl Tryz.underlying36 Tryz.underlying36 wt.heap.size (.slice bv7 nv7 cv7) (([] ++ lo.take m) ++ [x]) rfl hv7 Al cl _ (lo.length - m) (lo.drop m) List.length_drop rfl (hrl.next hTv7) (by simp only [List.length_append, List.length_nil, List.length_take, List.length_drop, List.length_singleton]; omega) hTv7.size ?_
          intro v9 w9 hv9 hgv9 hatv9
          have hTv9 := belowAppG hTv7 hv7 hgv9
          have hBv9 := hBx.next hTv9
          obtain ⟨bv9, nv9, cv9, rfl⟩ := hv9.slice
          refine hK.out _ _ ?_ (fun hHeld => ?_)
          focus ((try dsimp only); (exact ⟨by rw [hBv9.cell]; rfl, by rw [hBv9.cell]; rfl, by rw [hBv9.cell]; rfl⟩))
          clear hK K
          try simp only [Act.put, pa, pb, pc]
          refine tk 10 ?_
          refine wpAnyH_done (by kernel_rfl) ?_ _
          have hTq := hRt.next hTv9
          have hOq := (hOt.next hTv9)
          have hN9a : OwnG w9 wt.heap.size (.slice bv9 nv9 cv9) NX := by rw [HNX.out]; exact hv9
          have hN9 := hN9a.low hsz
          have hgr9 : w.grownBy w9 (some g) := grown_call hgrt hTv9
          clear hN9a hBv9 hi1 hi2 hi3 hb0t hb1t hb2t hrl hro hvl hRt hOt hBx hBd hHeld hx2 hx3 hro0 hTt
          cases hok : writesB NX
          ·
           go_wp2_with fail
           refine (specWritesOkO hN9 hfN).mono ?_
           rintro e wa ⟨rfl, hba⟩
           rw [hok]
           have hqa := hTq.next hba
           have hOa := hOq.next hba
           have hNa := hN9.next hba
           have hgra := grown_call hgr9 hba
           go_wp2_with fail
           refine (pick_d g A n c q4 20 wa hqa (by omega) (by omega) (by omega)).mono ?_
           rintro e wb ⟨k5, rfl, hk5, hd5⟩
           obtain ⟨q5, h51, h52, hq5⟩ := hd5.rdr
           have hOb := hOa.drawn hgl hd5.grown
           have hNb := hNa.drawn hgl hd5.grown
           have hgrb := hgra.trans hd5.grown
           by_cases hk50 : k5 = 0
           ·
            have hb5 : ((k5 : Int) == 0) = true := by simp [hk50]
            clear hk50
            go_wp2
            go_roundw
            case rel => exact ⟨j - 1, NX, by omega, by go_num, hNb, hfN, by have := HNL.out; omega, hgrb, q5, by omega, by omega, hq5⟩
            case measure => simp [intOf]; omega
           ·
            have hb5 : ((k5 : Int) == 0) = false := by simp; omega
            go_wp2
            go_roundw
            case rel => exact ⟨j - 1, lo, by omega, by go_num, hOb, hfit, by omega, hgrb, q5, by omega, by omega, hq5⟩
            case measure => simp [intOf]; omega
          ·
           go_wp2_with fail
           refine (specWritesOkO hN9 hfN).mono ?_
           rintro e wa ⟨rfl, hba⟩
           rw [hok]
           have hqa := hTq.next hba
           have hNa := hN9.next hba
           have hgra := grown_call hgr9 hba
           go_wp2
           go_roundw
           case rel => exact ⟨j - 1, NX, by omega, by go_num, hNa, hfN, by have := HNL.out; omega, hgra, q4, by omega, by omega, hqa⟩
           case measure => simp [intOf]; omega
         ·
          have hTx : Below wt.heap.size wt ((wt.alloc (.cells #[] 52)).alloc (.cells #[.string x.k, .int .i64 x.n, .bool x.g] 52)).drew := (below_alloc (below_alloc (Below.refl _ _) _) _).drew
          have hBxx := hBx.next hTx
          have hEx : OwnG (α := X) ((wt.alloc (.cells #[] 52)).alloc (.cells #[.string x.k, .int .i64 x.n, .bool x.g] 52)).drew wt.heap.size (.slice (some ⟨wt.heap.size, 0, none⟩) 0 0) [] := (OwnG.fresh wt _ (Nat.le_refl _)).alloc _
          have hOne : Blk ((wt.alloc (.cells #[] 52)).alloc (.cells #[.string x.k, .int .i64 x.n, .bool x.g] 52)).drew (wt.heap.size + 1) 52 #[.string x.k, .int .i64 x.n, .bool x.g] := by have := blkA (wt.alloc (.cells #[] 52)) #[.string x.k, .int .i64 x.n, .bool x.g] 52; rw [World.size_alloc] at this; exact this
          go_simp
          refine hK.out _ _ ?_ (fun hHeld => ?_)
          focus ((try dsimp only); (exact ⟨by rw [hBxx.cell]; rfl, by rw [hBxx.cell]; rfl, by rw [hBxx.cell]; rfl⟩))
          clear hK K
          try simp only [Act.put, pa, pb, pc]
          refine rd1 4 (fun K hK => ?_)
          refine step_appG (α := X) ((wt.alloc (.cells #[] 52)).alloc (.cells #[.string x.k, .int .i64 x.n, .bool x.g] 52)).drew rfl _ _ _ _ 52 rfl Tryz.underlying36 Tryz.underlying36 wt.heap.size (.slice (some ⟨wt.heap.size, 0, none⟩) 0 0) ([] : List X) rfl hEx Ao co _ m (lo.take m) HTK.out rfl (rdTkG hro m hTx) (by simp only [List.length_nil, List.length_take]; omega) hTx.size ?_
          intro v4 w4 hv4 hgv4 hatv4
          have hTv4 := belowAppG hTx hEx hgv4
          have hBv4 := hBx.next hTv4
          obtain ⟨bv4, nv4, cv4, rfl⟩ := hv4.slice
          have hOn4 := hOne.grown hgv4 (fun e => by have h : wt.heap.size + 1 = wt.heap.size := Option.some.inj e; omega)
          refine hK.out _ _ ?_ (fun hHeld => ?_)
          focus ((try dsimp only); (exact ⟨by rw [hBv4.cell]; rfl, by rw [hBv4.cell]; rfl, by rw [hBv4.cell]; rfl⟩))
          clear hK K
          try simp only [Act.put, pa, pb, pc]
          refine rd1 7 (fun K hK => ?_)
          refine step_appG (α := X) w4 rfl _ _ _ _ 52 rfl Tryz.underlying36 Tryz.underlying36 wt.heap.size (.slice bv4 nv4 cv4) ([] ++ lo.take m) rfl hv4 (some ⟨wt.heap.size + 1, 0, none⟩) 1 _ 1 [x] rfl rfl (rdBlk hOn4 rfl) (by simp only [List.length_append, List.length_nil, List.length_take, List.length_singleton]; omega) hTv4.size ?_
          intro v7 w7 hv7 hgv7 hatv7
          have hTv7 := belowAppG hTv4 hv4 hgv7
          have hBv7 := hBx.next hTv7
          obtain ⟨bv7, nv7, cv7, rfl⟩ := hv7.slice
          refine hK.out _ _ ?_ (fun hHeld => ?_)
          focus ((try dsimp only); (exact ⟨by rw [hBv7.cell]; rfl, by rw [hBv7.cell]; rfl, by rw [hBv7.cell]; rfl⟩))
          clear hK K
          try simp only [Act.put, pa, pb, pc]
          refine rd1 9 (fun K hK => ?_)
          refine step_appG (α := X) w7 rfl _ _ _ _ 52 rfl Tryz.underlying36 Tryz.underlying36 wt.heap.size (.slice bv7 nv7 cv7) (([] ++ lo.take m) ++ [x]) rfl hv7 Al cl _ (lo.length - m) (lo.drop m) List.length_drop rfl (hrl.next hTv7) (by simp only [List.length_append, List.length_nil, List.length_take, List.length_drop, List.length_singleton]; omega) hTv7.size ?_
          intro v9 w9 hv9 hgv9 hatv9
          have hTv9 := belowAppG hTv7 hv7 hgv9
          have hBv9 := hBx.next hTv9
          obtain ⟨bv9, nv9, cv9, rfl⟩ := hv9.slice
          refine hK.out _ _ ?_ (fun hHeld => ?_)
          focus ((try dsimp only); (exact ⟨by rw [hBv9.cell]; rfl, by rw [hBv9.cell]; rfl, by rw [hBv9.cell]; rfl⟩))
          clear hK K
          try simp only [Act.put, pa, pb, pc]
          refine tk 10 ?_
          refine wpAnyH_done (by kernel_rfl) ?_ _
          have hTq := hRt.next hTv9
          have hOq := (hOt.next hTv9)
          have hN9a : OwnG w9 wt.heap.size (.slice bv9 nv9 cv9) NX := by rw [HNX.out]; exact hv9
          have hN9 := hN9a.low hsz
          have hgr9 : w.grownBy w9 (some g) := grown_call hgrt hTv9
          clear hN9a hBv9 hi1 hi2 hi3 hb0t hb1t hb2t hrl hro hvl hRt hOt hBx hBd hHeld hx2 hx3 hro0 hTt
          cases hok : writesB NX
          ·
           go_wp2_with fail
           refine (specWritesOkO hN9 hfN).mono ?_
           rintro e wa ⟨rfl, hba⟩
           rw [hok]
           have hqa := hTq.next hba
           have hOa := hOq.next hba
           have hNa := hN9.next hba
           have hgra := grown_call hgr9 hba
           go_wp2_with fail
           refine (pick_d g A n c q4 20 wa hqa (by omega) (by omega) (by omega)).mono ?_
           rintro e wb ⟨k5, rfl, hk5, hd5⟩
           obtain ⟨q5, h51, h52, hq5⟩ := hd5.rdr
           have hOb := hOa.drawn hgl hd5.grown
           have hNb := hNa.drawn hgl hd5.grown
           have hgrb := hgra.trans hd5.grown
           by_cases hk50 : k5 = 0
           ·
            have hb5 : ((k5 : Int) == 0) = true := by simp [hk50]
            clear hk50
            go_wp2
            go_roundw
            case rel => exact ⟨j - 1, NX, by omega, by go_num, hNb, hfN, by have := HNL.out; omega, hgrb, q5, by omega, by omega, hq5⟩
            case measure => simp [intOf]; omega
           ·
            have hb5 : ((k5 : Int) == 0) = false := by simp; omega
            go_wp2
            go_roundw
            case rel => exact ⟨j - 1, lo, by omega, by go_num, hOb, hfit, by omega, hgrb, q5, by omega, by omega, hq5⟩
            case measure => simp [intOf]; omega
          ·
           go_wp2_with fail
           refine (specWritesOkO hN9 hfN).mono ?_
           rintro e wa ⟨rfl, hba⟩
           rw [hok]
           have hqa := hTq.next hba
           have hNa := hN9.next hba
           have hgra := grown_call hgr9 hba
           go_wp2
           go_roundw
           case rel => exact ⟨j - 1, NX, by omega, by go_num, hNa, hfN, by have := HNL.out; omega, hgra, q4, by omega, by omega, hqa⟩
           case measure => simp [intOf]; omega
        ·
         have hTe : Below wt.heap.size wt (wt.alloc (.cells #[.string x.k, .int .i64 x.n, .bool x.g] 52)).drew := (below_alloc (Below.refl _ _) _).drew
         have hBe := hBx.next hTe
         go_simp
         refine hK.out _ _ ?_ (fun hHeld => ?_)
         focus ((try dsimp only); (exact ⟨by rw [hBe.cell]; rfl, by rw [hBe.cell]; rfl, by rw [hBe.cell]; rfl⟩))
         clear hK K
         try simp only [Act.put, pa, pb, pc]
         have hTx : Below wt.heap.size wt ((wt.alloc (.cells #[.string x.k, .int .i64 x.n, .bool x.g] 52)).alloc (.cells #[] 52)).drew := (below_alloc (below_alloc (Below.refl _ _) _) _).drew
         have hBxx := hBx.next hTx
         have hEx : OwnG (α := X) ((wt.alloc (.cells #[.string x.k, .int .i64 x.n, .bool x.g] 52)).alloc (.cells #[] 52)).drew wt.heap.size (.slice (some ⟨wt.heap.size + 1, 0, none⟩) 0 0) [] := by have h := OwnG.fresh (α := X) (wt.alloc (.cells #[.string x.k, .int .i64 x.n, .bool x.g] 52)) wt.heap.size (by rw [World.size_alloc]; omega); rw [World.size_alloc] at h; exact h
         have hOne : Blk ((wt.alloc (.cells #[.string x.k, .int .i64 x.n, .bool x.g] 52)).alloc (.cells #[] 52)).drew wt.heap.size 52 #[.string x.k, .int .i64 x.n, .bool x.g] := (blkA wt #[.string x.k, .int .i64 x.n, .bool x.g] 52).alloc _
         refine rd1 0 (fun K hK => ?_)
         go_simp
         refine hK.out _ _ ?_ (fun hHeld => ?_)
         focus ((try dsimp only); (exact ⟨by rw [hBxx.cell]; rfl, by rw [hBxx.cell]; rfl, by rw [hBxx.cell]; rfl⟩))
         clear hK K
         try simp only [Act.put, pa, pb, pc]
         refine rd1 4 (fun K hK => ?_)
         refine step_appG (α := X) ((wt.alloc (.cells #[.string x.k, .int .i64 x.n, .bool x.g] 52)).alloc (.cells #[] 52)).drew rfl _ _ _ _ 52 rfl Tryz.underlying36 Tryz.underlying36 wt.heap.size (.slice (some ⟨wt.heap.size + 1, 0, none⟩) 0 0) ([] : List X) rfl hEx Ao co _ m (lo.take m) HTK.out rfl (rdTkG hro m hTx) (by simp only [List.length_nil, List.length_take]; omega) hTx.size ?_
         intro v4 w4 hv4 hgv4 hatv4
         have hTv4 := belowAppG hTx hEx hgv4
         have hBv4 := hBx.next hTv4
         obtain ⟨bv4, nv4, cv4, rfl⟩ := hv4.slice
         have hOn4 := hOne.grown hgv4 (fun e => by have h : wt.heap.size = wt.heap.size + 1 := Option.some.inj e; omega)
         refine hK.out _ _ ?_ (fun hHeld => ?_)
         focus ((try dsimp only); (exact ⟨by rw [hBv4.cell]; rfl, by rw [hBv4.cell]; rfl, by rw [hBv4.cell]; rfl⟩))
         clear hK K
         try simp only [Act.put, pa, pb, pc]
         refine rd1 7 (fun K hK => ?_)
         refine step_appG (α := X) w4 rfl _ _ _ _ 52 rfl Tryz.underlying36 Tryz.underlying36 wt.heap.size (.slice bv4 nv4 cv4) ([] ++ lo.take m) rfl hv4 (some ⟨wt.heap.size, 0, none⟩) 1 _ 1 [x] rfl rfl (rdBlk hOn4 rfl) (by simp only [List.length_append, List.length_nil, List.length_take, List.length_singleton]; omega) hTv4.size ?_
         intro v7 w7 hv7 hgv7 hatv7
         have hTv7 := belowAppG hTv4 hv4 hgv7
         have hBv7 := hBx.next hTv7
         obtain ⟨bv7, nv7, cv7, rfl⟩ := hv7.slice
         refine hK.out _ _ ?_ (fun hHeld => ?_)
         focus ((try dsimp only); (exact ⟨by rw [hBv7.cell]; rfl, by rw [hBv7.cell]; rfl, by rw [hBv7.cell]; rfl⟩))
         clear hK K
         try simp only [Act.put, pa, pb, pc]
         refine rd1 9 (fun K hK => ?_)
         refine step_appG (α := X) w7 rfl _ _ _ _ 52 rfl Tryz.underlying36 Tryz.underlying36 wt.heap.size (.slice bv7 nv7 cv7) (([] ++ lo.take m) ++ [x]) rfl hv7 Al cl _ (lo.length - m) (lo.drop m) List.length_drop rfl (hrl.next hTv7) (by simp only [List.length_append, List.length_nil, List.length_take, List.length_drop, List.length_singleton]; omega) hTv7.size ?_
         intro v9 w9 hv9 hgv9 hatv9
         have hTv9 := belowAppG hTv7 hv7 hgv9
         have hBv9 := hBx.next hTv9
         obtain ⟨bv9, nv9, cv9, rfl⟩ := hv9.slice
         refine hK.out _ _ ?_ (fun hHeld => ?_)
         focus ((try dsimp only); (exact ⟨by rw [hBv9.cell]; rfl, by rw [hBv9.cell]; rfl, by rw [hBv9.cell]; rfl⟩))
         clear hK K
         try simp only [Act.put, pa, pb, pc]
         refine tk 10 ?_
         refine wpAnyH_done (by kernel_rfl) ?_ _
         have hTq := hRt.next hTv9
         have hOq := (hOt.next hTv9)
         have hN9a : OwnG w9 wt.heap.size (.slice bv9 nv9 cv9) NX := by rw [HNX.out]; exact hv9
         have hN9 := hN9a.low hsz
         have hgr9 : w.grownBy w9 (some g) := grown_call hgrt hTv9
         clear hN9a hBv9 hi1 hi2 hi3 hb0t hb1t hb2t hrl hro hvl hRt hOt hBx hBd hHeld hx2 hx3 hro0 hTt
         cases hok : writesB NX
         ·
          go_wp2_with fail
          refine (specWritesOkO hN9 hfN).mono ?_
          rintro e wa ⟨rfl, hba⟩
          rw [hok]
          have hqa := hTq.next hba
          have hOa := hOq.next hba
          have hNa := hN9.next hba
          have hgra := grown_call hgr9 hba
          go_wp2_with fail
          refine (pick_d g A n c q4 20 wa hqa (by omega) (by omega) (by omega)).mono ?_
          rintro e wb ⟨k5, rfl, hk5, hd5⟩
          obtain ⟨q5, h51, h52, hq5⟩ := hd5.rdr
          have hOb := hOa.drawn hgl hd5.grown
          have hNb := hNa.drawn hgl hd5.grown
          have hgrb := hgra.trans hd5.grown
          by_cases hk50 : k5 = 0
          ·
           have hb5 : ((k5 : Int) == 0) = true := by simp [hk50]
           clear hk50
           go_wp2
           go_roundw
           case rel => exact ⟨j - 1, NX, by omega, by go_num, hNb, hfN, by have := HNL.out; omega, hgrb, q5, by omega, by omega, hq5⟩
           case measure => simp [intOf]; omega
          ·
           have hb5 : ((k5 : Int) == 0) = false := by simp; omega
           go_wp2
           go_roundw
           case rel => exact ⟨j - 1, lo, by omega, by go_num, hOb, hfit, by omega, hgrb, q5, by omega, by omega, hq5⟩
           case measure => simp [intOf]; omega
         ·
          go_wp2_with fail
          refine (specWritesOkO hN9 hfN).mono ?_
          rintro e wa ⟨rfl, hba⟩
          rw [hok]
          have hqa := hTq.next hba
          have hNa := hN9.next hba
          have hgra := grown_call hgr9 hba
          go_wp2
          go_roundw
          case rel => exact ⟨j - 1, NX, by omega, by go_num, hNa, hfN, by have := HNL.out; omega, hgra, q4, by omega, by omega, hqa⟩
          case measure => simp [intOf]; omega
       ·
        go_wp2
        refine wp_region_held_drew (S := (fun W => W.cell? ⟨bx, 0, none⟩ = some (.string x.k) ∧ W.cell? ⟨b, o + m * 3, none⟩ = some (.string lo[m].k))) (by kernel_rfl) ?_ (fun hHeld => ?_)
        focus ((try dsimp only); (exact ⟨bq, hc0⟩))
        refine tk 0 ?_
        refine tk 1 ?_
        refine tk 2 ?_
        refine tk 3 ?_
        refine tk 4 ?_
        refine tk 5 ?_
        refine tk 6 ?_
        refine tk 7 ?_
        refine tk 8 ?_
        refine tk 9 ?_
        refine tk 10 ?_
        refine tk 11 ?_
        refine tk 12 ?_
        refine tk 13 ?_
        refine wpAnyH_done (by kernel_rfl) ?_ _
        have hbs : Below (((w4.setCell ⟨bx, 0, none⟩ (.string s)).setCell ⟨bx, 1, none⟩ (.int .i64 0)).setCell ⟨bx, 2, none⟩ (.bool true)).heap.size (((w4.setCell ⟨bx, 0, none⟩ (.string s)).setCell ⟨bx, 1, none⟩ (.int .i64 0)).setCell ⟨bx, 2, none⟩ (.bool true)) wr.drew.drew := hbm.drew.drew
        go_wp2
        go_roundw
        case rel => exact ⟨j - 1, lo, by omega, by go_num, hO5.next hbs, hfit, by omega, grown_call hgr5 hbs, q4, by omega, by omega, hq4.next hbs⟩
        case measure => simp [intOf]; omega
      ·
       go_wp2
       refine wp_region_held_drew (S := (fun W => W.cell? ⟨bx, 0, none⟩ = some (.string x.k) ∧ W.cell? ⟨b, o + m * 3, none⟩ = some (.string lo[m].k))) (by kernel_rfl) ?_ (fun hHeld => ?_)
       focus ((try dsimp only); (exact ⟨bq, hc0⟩))
       refine tk 0 ?_
       refine tk 1 ?_
       refine tk 2 ?_
       refine tk 3 ?_
       refine tk 4 ?_
       refine tk 5 ?_
       refine tk 6 ?_
       refine tk 7 ?_
       refine tk 8 ?_
       refine tk 9 ?_
       refine tk 10 ?_
       refine tk 11 ?_
       refine tk 12 ?_
       refine tk 13 ?_
       refine wpAnyH_done (by kernel_rfl) ?_ _
       go_wp2
       go_roundw
       case rel => exact ⟨m + 1, by omega, by go_num, hbm.drew⟩
       case measure => simp [intOf]; omega
     ·
      have hmd : decide ((m : Int) < (lo.length : Int)) = false := decide_eq_false (by omega)
      go_wp2
      refine wp_region_held_drew (S := (fun W => W.cell? ⟨bx, 0, none⟩ = some (.string x.k))) (by kernel_rfl) ?_ (fun hHeld => ?_)
      focus ((try dsimp only); (exact bq))
      refine tk 0 ?_
      refine tk 1 ?_
      refine tk 2 ?_
      refine tk 3 ?_
      refine tk 4 ?_
      refine ts 5 ?_
      refine ts 6 ?_
      refine ts 7 ?_
      refine ts 8 ?_
      refine ts 9 ?_
      refine ts 10 ?_
      refine ts 11 ?_
      refine ts 12 ?_
      refine tk 13 ?_
      refine wpAnyH_done (by kernel_rfl) ?_ _
      go_wp2
      refine wp_region_held_drew (S := (fun W => W.cell? ⟨bx, 0, none⟩ = some (.string x.k))) (by kernel_rfl) ?_ (fun hHeld => ?_)
      focus ((try dsimp only); (exact bq))
      refine tk 0 ?_
      refine tk 1 ?_
      refine tk 2 ?_
      refine tk 3 ?_
      refine tk 4 ?_
      refine ts 5 ?_
      refine ts 6 ?_
      refine ts 7 ?_
      refine ts 8 ?_
      refine ts 9 ?_
      refine ts 10 ?_
      refine ts 11 ?_
      refine ts 12 ?_
      refine tk 13 ?_
      refine wpAnyH_done (by kernel_rfl) ?_ _
      obtain ⟨ws, HWS⟩ : ∃ ws, Hid (wr.drew.drew = ws) := ⟨_, Lib.hid rfl⟩
      have hbs : Below (((w4.setCell ⟨bx, 0, none⟩ (.string s)).setCell ⟨bx, 1, none⟩ (.int .i64 0)).setCell ⟨bx, 2, none⟩ (.bool true)).heap.size (((w4.setCell ⟨bx, 0, none⟩ (.string s)).setCell ⟨bx, 1, none⟩ (.int .i64 0)).setCell ⟨bx, 2, none⟩ (.bool true)) wr.drew.drew := hbm.drew.drew
      rw [HWS.out] at hbs
      rw [HWS.out]
      clear hmd bq
      have hBs := hB5.next hbs
      have hqs := hq4.next hbs
      have hOs := hO5.next hbs
      have hgrs := grown_call hgr5 hbs
      obtain ⟨hx1, hx2, hx3, hro0⟩ := hOs.rd'
      clear hx1
      have hcut := runCutG (α := X) 36 Tryz.underlying36 Ao lo.length co m hm hx2
      have hi1 : (0 : Int) ≤ (m : Int) := by omega
      have hi2 : (m : Int) ≤ (co : Int) := by omega
      have hi3 : (m : Int) ≤ (lo.length : Int) := by omega
      have hOf := OwnG.fresh (α := X) ws ws.heap.size (Nat.le_refl _)
      have hTf : Below ws.heap.size ws (ws.alloc (.cells #[] 52)) := below_alloc (Below.refl _ _) _
      have HFT : Hid (([] : List X).length + (lo.drop m).length ≤ 4194304) := by show ([] : List X).length + (lo.drop m).length ≤ 4194304; rw [List.length_drop, List.length_nil]; omega
      go_wp2_with ((at_builtin; refine wpList_appG (α := X) (ws.alloc (.cells #[] 52)) rfl _ _ _ _ 52 rfl Tryz.underlying36 Tryz.underlying36 ws.heap.size _ [] rfl hOf (cutG X Ao co m) (co - m) _ (lo.length - m) (lo.drop m) List.length_drop rfl (rdDpG hro0 m co hx2 hTf) HFT.out hTf.size ?_; intro vl wt hvl hgl0 hatl; have hTt := belowAppG hTf hOf hgl0))
      rw [List.nil_append] at hvl
      have hBx := hBs.next hTt
      have hBd : Blk wt.drew bx 52 #[.string x.k, .int .i64 x.n, .bool x.g] := hBx
      have hRt := hqs.next hTt
      have hOt := hOs.next hTt
      have hgrt := grown_call hgrs hTt
      have hro := hro0.next hTt
      obtain ⟨Al, cl, rfl, hx4, hx5, hrl⟩ := hvl.read
      clear hx4 hx5
      have HTK : Hid ((lo.take m).length = m) := by show (lo.take m).length = m; rw [List.length_take]; omega
      obtain ⟨NX, HNX⟩ : ∃ NX, Hid (NX = ([] ++ lo.take m) ++ [x] ++ lo.drop m) := ⟨_, Lib.hid rfl⟩
      have hfN : FitXs NX := by rw [HNX.out, List.nil_append]; exact fitX_put hfit hfx
      have HNL : Hid (NX.length ≤ lo.length + 1) := by show NX.length ≤ lo.length + 1; rw [HNX.out]; simp only [List.length_append, List.length_nil, List.length_take, List.length_drop, List.length_singleton]; omega
      have hsz : w.heap.size ≤ wt.heap.size := hgrt.size
      have hb0t : wt.cell? ⟨bx, 0, none⟩ = some (.string x.k) := by rw [hBx.cell]; rfl
      have hb1t : wt.cell? ⟨bx, 1, none⟩ = some (.int .i64 x.n) := by rw [hBx.cell]; rfl
      have hb2t : wt.cell? ⟨bx, 2, none⟩ = some (.bool x.g) := by rw [hBx.cell]; rfl
      clear hOf hTf hcut hOs hBs hqs
      go_wp2
      refine wp_region_held_drew (S := (fun W => W.cell? ⟨bx, 0, none⟩ = some (.string x.k) ∧ W.cell? ⟨bx, 1, none⟩ = some (.int .i64 x.n) ∧ W.cell? ⟨bx, 2, none⟩ = some (.bool x.g))) (by kernel_rfl) ?_ (fun hHeld => ?_)
      focus ((try dsimp only); (exact ⟨by rw [hBd.cell]; rfl, by rw [hBd.cell]; rfl, by rw [hBd.cell]; rfl⟩))
      refine tk 1 ?_
      refine tk 2 ?_
      refine tk 3 ?_
      refine tk 5 ?_
      refine tk 8 ?_
      refine wpAnyH_ready (rs := [0, 6]) (by kernel_rfl) (by simp) (AllReadyH.cons (by (simp only [ga, gc]; rfl)) (fun K hK => ?_) (AllReadyH.cons (by (simp only [ga, gb, gc]; rfl)) (fun K hK => ?_) AllReadyH.nil))
      ·
       have hTe : Below wt.heap.size wt (wt.alloc (.cells #[] 52)).drew := (below_alloc (Below.refl _ _) _).drew
       have hBe := hBx.next hTe
       have hEe : OwnG (α := X) (wt.alloc (.cells #[] 52)).drew wt.heap.size (.slice (some ⟨wt.heap.size, 0, none⟩) 0 0) [] := OwnG.fresh wt _ (Nat.le_refl _)
       go_simp
       refine hK.out _ _ ?_ (fun hHeld => ?_)
       focus ((try dsimp only); (exact ⟨by rw [hBe.cell]; rfl, by rw [hBe.cell]; rfl, by rw [hBe.cell]; rfl⟩))
       clear hK K
       try simp only [Act.put, pa, pb, pc]
       refine wpAnyH_ready (rs := [4, 6]) (by kernel_rfl) (by simp) (AllReadyH.cons (by (simp only [ga, gb, gc]; rfl)) (fun K hK => ?_) (AllReadyH.cons (by (simp only [ga, gb, gc]; rfl)) (fun K hK => ?_) AllReadyH.nil))
       ·
        refine step_appG (α := X) (wt.alloc (.cells #[] 52)).drew rfl _ _ _ _ 52 rfl Tryz.underlying36 Tryz.underlying36 wt.heap.size (.slice (some ⟨wt.heap.size, 0, none⟩) 0 0) ([] : List X) rfl hEe Ao co _ m (lo.take m) HTK.out rfl (rdTkG hro m hTe) (by simp only [List.length_nil, List.length_take]; omega) hTe.size ?_
        intro v4 w4 hv4 hgv4 hatv4
        have hTv4 := belowAppG hTe hEe hgv4
        have hBv4 := hBx.next hTv4
        obtain ⟨bv4, nv4, cv4, rfl⟩ := hv4.slice
        refine hK.out _ _ ?_ (fun hHeld => ?_)
        focus ((try dsimp only); (exact ⟨by rw [hBv4.cell]; rfl, by rw [hBv4.cell]; rfl, by rw [hBv4.cell]; rfl⟩))
        clear hK K
        try simp only [Act.put, pa, pb, pc]
        have hT6 : Below wt.heap.size wt (w4.alloc (.cells #[.string x.k, .int .i64 x.n, .bool x.g] 52)) := below_alloc hTv4 _
        have hB6 := hBx.next hT6
        have hE6 := hv4.alloc (.cells #[.string x.k, .int .i64 x.n, .bool x.g] 52)
        refine rd1 6 (fun K hK => ?_)
        go_simp
        refine hK.out _ _ ?_ (fun hHeld => ?_)
        focus ((try dsimp only); (exact ⟨by rw [hB6.cell]; rfl, by rw [hB6.cell]; rfl, by rw [hB6.cell]; rfl⟩))
        clear hK K
        try simp only [Act.put, pa, pb, pc]
        refine rd1 7 (fun K hK => ?_)
        refine step_appG (α := X) (w4.alloc (.cells #[.string x.k, .int .i64 x.n, .bool x.g] 52)) rfl _ _ _ _ 52 rfl Tryz.underlying36 Tryz.underlying36 wt.heap.size (.slice bv4 nv4 cv4) ([] ++ lo.take m) rfl hE6 (some ⟨w4.heap.size, 0, none⟩) 1 _ 1 [x] rfl rfl (rdOneX w4 x 52) (by simp only [List.length_append, List.length_nil, List.length_take, List.length_singleton]; omega) hT6.size ?_
        intro v7 w7 hv7 hgv7 hatv7
        have hTv7 := belowAppG hT6 hE6 hgv7
        have hBv7 := hBx.next hTv7
        obtain ⟨bv7, nv7, cv7, rfl⟩ := hv7.slice
        refine hK.out _ _ ?_ (fun hHeld => ?_)
        focus ((try dsimp only); (exact ⟨by rw [hBv7.cell]; rfl, by rw [hBv7.cell]; rfl, by rw [hBv7.cell]; rfl⟩))
        clear hK K
        try simp only [Act.put, pa, pb, pc]
        refine rd1 9 (fun K hK => ?_)
        refine step_appG (α := X) w7 rfl _ _ _ _ 52 rfl Tryz.underlying36 Tryz.underlying36 wt.heap.size (.slice bv7 nv7 cv7) (([] ++ lo.take m) ++ [x]) rfl hv7 Al cl _ (lo.length - m) (lo.drop m) List.length_drop rfl (hrl.next hTv7) (by simp only [List.length_append, List.length_nil, List.length_take, List.length_drop, List.length_singleton]; omega) hTv7.size ?_
        intro v9 w9 hv9 hgv9 hatv9
        have hTv9 := belowAppG hTv7 hv7 hgv9
        have hBv9 := hBx.next hTv9
        obtain ⟨bv9, nv9, cv9, rfl⟩ := hv9.slice
        refine hK.out _ _ ?_ (fun hHeld => ?_)
        focus ((try dsimp only); (exact ⟨by rw [hBv9.cell]; rfl, by rw [hBv9.cell]; rfl, by rw [hBv9.cell]; rfl⟩))
        clear hK K
        try simp only [Act.put, pa, pb, pc]
        refine tk 10 ?_
        refine wpAnyH_done (by kernel_rfl) ?_ _
        have hTq := hRt.next hTv9
        have hOq := (hOt.next hTv9)
        have hN9a : OwnG w9 wt.heap.size (.slice bv9 nv9 cv9) NX := by rw [HNX.out]; exact hv9
        have hN9 := hN9a.low hsz
        have hgr9 : w.grownBy w9 (some g) := grown_call hgrt hTv9
        clear hN9a hBv9 hi1 hi2 hi3 hb0t hb1t hb2t hrl hro hvl hRt hOt hBx hBd hHeld hx2 hx3 hro0 hTt
        cases hok : writesB NX
        ·
         go_wp2_with fail
         refine (specWritesOkO hN9 hfN).mono ?_
         rintro e wa ⟨rfl, hba⟩
         rw [hok]
         have hqa := hTq.next hba
         have hOa := hOq.next hba
         have hNa := hN9.next hba
         have hgra := grown_call hgr9 hba
         go_wp2_with fail
         refine (pick_d g A n c q4 20 wa hqa (by omega) (by omega) (by omega)).mono ?_
         rintro e wb ⟨k5, rfl, hk5, hd5⟩
         obtain ⟨q5, h51, h52, hq5⟩ := hd5.rdr
         have hOb := hOa.drawn hgl hd5.grown
         have hNb := hNa.drawn hgl hd5.grown
         have hgrb := hgra.trans hd5.grown
         by_cases hk50 : k5 = 0
         ·
          have hb5 : ((k5 : Int) == 0) = true := by simp [hk50]
          clear hk50
          go_wp2
          go_roundw
          case rel => exact ⟨j - 1, NX, by omega, by go_num, hNb, hfN, by have := HNL.out; omega, hgrb, q5, by omega, by omega, hq5⟩
          case measure => simp [intOf]; omega
         ·
          have hb5 : ((k5 : Int) == 0) = false := by simp; omega
          go_wp2
          go_roundw
          case rel => exact ⟨j - 1, lo, by omega, by go_num, hOb, hfit, by omega, hgrb, q5, by omega, by omega, hq5⟩
          case measure => simp [intOf]; omega
        ·
         go_wp2_with fail
         refine (specWritesOkO hN9 hfN).mono ?_
         rintro e wa ⟨rfl, hba⟩
         rw [hok]
         have hqa := hTq.next hba
         have hNa := hN9.next hba
         have hgra := grown_call hgr9 hba
         go_wp2
         go_roundw
         case rel => exact ⟨j - 1, NX, by omega, by go_num, hNa, hfN, by have := HNL.out; omega, hgra, q4, by omega, by omega, hqa⟩
         case measure => simp [intOf]; omega
       ·
        have hTx : Below wt.heap.size wt ((wt.alloc (.cells #[] 52)).alloc (.cells #[.string x.k, .int .i64 x.n, .bool x.g] 52)).drew := (below_alloc (below_alloc (Below.refl _ _) _) _).drew
        have hBxx := hBx.next hTx
        have hEx : OwnG (α := X) ((wt.alloc (.cells #[] 52)).alloc (.cells #[.string x.k, .int .i64 x.n, .bool x.g] 52)).drew wt.heap.size (.slice (some ⟨wt.heap.size, 0, none⟩) 0 0) [] := (OwnG.fresh wt _ (Nat.le_refl _)).alloc _
        have hOne : Blk ((wt.alloc (.cells #[] 52)).alloc (.cells #[.string x.k, .int .i64 x.n, .bool x.g] 52)).drew (wt.heap.size + 1) 52 #[.string x.k, .int .i64 x.n, .bool x.g] := by have := blkA (wt.alloc (.cells #[] 52)) #[.string x.k, .int .i64 x.n, .bool x.g] 52; rw [World.size_alloc] at this; exact this
        go_simp
        refine hK.out _ _ ?_ (fun hHeld => ?_)
        focus ((try dsimp only); (exact ⟨by rw [hBxx.cell]; rfl, by rw [hBxx.cell]; rfl, by rw [hBxx.cell]; rfl⟩))
        clear hK K
        try simp only [Act.put, pa, pb, pc]
        refine rd1 4 (fun K hK => ?_)
        refine step_appG (α := X) ((wt.alloc (.cells #[] 52)).alloc (.cells #[.string x.k, .int .i64 x.n, .bool x.g] 52)).drew rfl _ _ _ _ 52 rfl Tryz.underlying36 Tryz.underlying36 wt.heap.size (.slice (some ⟨wt.heap.size, 0, none⟩) 0 0) ([] : List X) rfl hEx Ao co _ m (lo.take m) HTK.out rfl (rdTkG hro m hTx) (by simp only [List.length_nil, List.length_take]; omega) hTx.size ?_
        intro v4 w4 hv4 hgv4 hatv4
        have hTv4 := belowAppG hTx hEx hgv4
        have hBv4 := hBx.next hTv4
        obtain ⟨bv4, nv4, cv4, rfl⟩ := hv4.slice
        have hOn4 := hOne.grown hgv4 (fun e => by have h : wt.heap.size + 1 = wt.heap.size := Option.some.inj e; omega)
        refine hK.out _ _ ?_ (fun hHeld => ?_)
        focus ((try dsimp only); (exact ⟨by rw [hBv4.cell]; rfl, by rw [hBv4.cell]; rfl, by rw [hBv4.cell]; rfl⟩))
        clear hK K
        try simp only [Act.put, pa, pb, pc]
        refine rd1 7 (fun K hK => ?_)
        refine step_appG (α := X) w4 rfl _ _ _ _ 52 rfl Tryz.underlying36 Tryz.underlying36 wt.heap.size (.slice bv4 nv4 cv4) ([] ++ lo.take m) rfl hv4 (some ⟨wt.heap.size + 1, 0, none⟩) 1 _ 1 [x] rfl rfl (rdBlk hOn4 rfl) (by simp only [List.length_append, List.length_nil, List.length_take, List.length_singleton]; omega) hTv4.size ?_
        intro v7 w7 hv7 hgv7 hatv7
        have hTv7 := belowAppG hTv4 hv4 hgv7
        have hBv7 := hBx.next hTv7
        obtain ⟨bv7, nv7, cv7, rfl⟩ := hv7.slice
        refine hK.out _ _ ?_ (fun hHeld => ?_)
        focus ((try dsimp only); (exact ⟨by rw [hBv7.cell]; rfl, by rw [hBv7.cell]; rfl, by rw [hBv7.cell]; rfl⟩))
        clear hK K
        try simp only [Act.put, pa, pb, pc]
        refine rd1 9 (fun K hK => ?_)
        refine step_appG (α := X) w7 rfl _ _ _ _ 52 rfl Tryz.underlying36 Tryz.underlying36 wt.heap.size (.slice bv7 nv7 cv7) (([] ++ lo.take m) ++ [x]) rfl hv7 Al cl _ (lo.length - m) (lo.drop m) List.length_drop rfl (hrl.next hTv7) (by simp only [List.length_append, List.length_nil, List.length_take, List.length_drop, List.length_singleton]; omega) hTv7.size ?_
        intro v9 w9 hv9 hgv9 hatv9
        have hTv9 := belowAppG hTv7 hv7 hgv9
        have hBv9 := hBx.next hTv9
        obtain ⟨bv9, nv9, cv9, rfl⟩ := hv9.slice
        refine hK.out _ _ ?_ (fun hHeld => ?_)
        focus ((try dsimp only); (exact ⟨by rw [hBv9.cell]; rfl, by rw [hBv9.cell]; rfl, by rw [hBv9.cell]; rfl⟩))
        clear hK K
        try simp only [Act.put, pa, pb, pc]
        refine tk 10 ?_
        refine wpAnyH_done (by kernel_rfl) ?_ _
        have hTq := hRt.next hTv9
        have hOq := (hOt.next hTv9)
        have hN9a : OwnG w9 wt.heap.size (.slice bv9 nv9 cv9) NX := by rw [HNX.out]; exact hv9
        have hN9 := hN9a.low hsz
        have hgr9 : w.grownBy w9 (some g) := grown_call hgrt hTv9
        clear hN9a hBv9 hi1 hi2 hi3 hb0t hb1t hb2t hrl hro hvl hRt hOt hBx hBd hHeld hx2 hx3 hro0 hTt
        cases hok : writesB NX
        ·
         go_wp2_with fail
         refine (specWritesOkO hN9 hfN).mono ?_
         rintro e wa ⟨rfl, hba⟩
         rw [hok]
         have hqa := hTq.next hba
         have hOa := hOq.next hba
         have hNa := hN9.next hba
         have hgra := grown_call hgr9 hba
         go_wp2_with fail
         refine (pick_d g A n c q4 20 wa hqa (by omega) (by omega) (by omega)).mono ?_
         rintro e wb ⟨k5, rfl, hk5, hd5⟩
         obtain ⟨q5, h51, h52, hq5⟩ := hd5.rdr
         have hOb := hOa.drawn hgl hd5.grown
         have hNb := hNa.drawn hgl hd5.grown
         have hgrb := hgra.trans hd5.grown
         by_cases hk50 : k5 = 0
         ·
          have hb5 : ((k5 : Int) == 0) = true := by simp [hk50]
          clear hk50
          go_wp2
          go_roundw
          case rel => exact ⟨j - 1, NX, by omega, by go_num, hNb, hfN, by have := HNL.out; omega, hgrb, q5, by omega, by omega, hq5⟩
          case measure => simp [intOf]; omega
         ·
          have hb5 : ((k5 : Int) == 0) = false := by simp; omega
          go_wp2
          go_roundw
          case rel => exact ⟨j - 1, lo, by omega, by go_num, hOb, hfit, by omega, hgrb, q5, by omega, by omega, hq5⟩
          case measure => simp [intOf]; omega
        ·
         go_wp2_with fail
         refine (specWritesOkO hN9 hfN).mono ?_
         rintro e wa ⟨rfl, hba⟩
         rw [hok]
         have hqa := hTq.next hba
         have hNa := hN9.next hba
         have hgra := grown_call hgr9 hba
         go_wp2
         go_roundw
         case rel => exact ⟨j - 1, NX, by omega, by go_num, hNa, hfN, by have := HNL.out; omega, hgra, q4, by omega, by omega, hqa⟩
         case measure => simp [intOf]; omega
      ·
       have hTe : Below wt.heap.size wt (wt.alloc (.cells #[.string x.k, .int .i64 x.n, .bool x.g] 52)).drew := (below_alloc (Below.refl _ _) _).drew
       have hBe := hBx.next hTe
       go_simp
       refine hK.out _ _ ?_ (fun hHeld => ?_)
       focus ((try dsimp only); (exact ⟨by rw [hBe.cell]; rfl, by rw [hBe.cell]; rfl, by rw [hBe.cell]; rfl⟩))
       clear hK K
       try simp only [Act.put, pa, pb, pc]
       have hTx : Below wt.heap.size wt ((wt.alloc (.cells #[.string x.k, .int .i64 x.n, .bool x.g] 52)).alloc (.cells #[] 52)).drew := (below_alloc (below_alloc (Below.refl _ _) _) _).drew
       have hBxx := hBx.next hTx
       have hEx : OwnG (α := X) ((wt.alloc (.cells #[.string x.k, .int .i64 x.n, .bool x.g] 52)).alloc (.cells #[] 52)).drew wt.heap.size (.slice (some ⟨wt.heap.size + 1, 0, none⟩) 0 0) [] := by have h := OwnG.fresh (α := X) (wt.alloc (.cells #[.string x.k, .int .i64 x.n, .bool x.g] 52)) wt.heap.size (by rw [World.size_alloc]; omega); rw [World.size_alloc] at h; exact h
       have hOne : Blk ((wt.alloc (.cells #[.string x.k, .int .i64 x.n, .bool x.g] 52)).alloc (.cells #[] 52)).drew wt.heap.size 52 #[.string x.k, .int .i64 x.n, .bool x.g] := (blkA wt #[.string x.k, .int .i64 x.n, .bool x.g] 52).alloc _
       refine rd1 0 (fun K hK => ?_)
       go_simp
       refine hK.out _ _ ?_ (fun hHeld => ?_)
       focus ((try dsimp only); (exact ⟨by rw [hBxx.cell]; rfl, by rw [hBxx.cell]; rfl, by rw [hBxx.cell]; rfl⟩))
       clear hK K
       try simp only [Act.put, pa, pb, pc]
       refine rd1 4 (fun K hK => ?_)
       refine step_appG (α := X) ((wt.alloc (.cells #[.string x.k, .int .i64 x.n, .bool x.g] 52)).alloc (.cells #[] 52)).drew rfl _ _ _ _ 52 rfl Tryz.underlying36 Tryz.underlying36 wt.heap.size (.slice (some ⟨wt.heap.size + 1, 0, none⟩) 0 0) ([] : List X) rfl hEx Ao co _ m (lo.take m) HTK.out rfl (rdTkG hro m hTx) (by simp only [List.length_nil, List.length_take]; omega) hTx.size ?_
       intro v4 w4 hv4 hgv4 hatv4
       have hTv4 := belowAppG hTx hEx hgv4
       have hBv4 := hBx.next hTv4
       obtain ⟨bv4, nv4, cv4, rfl⟩ := hv4.slice
       have hOn4 := hOne.grown hgv4 (fun e => by have h : wt.heap.size = wt.heap.size + 1 := Option.some.inj e; omega)
       refine hK.out _ _ ?_ (fun hHeld => ?_)
       focus ((try dsimp only); (exact ⟨by rw [hBv4.cell]; rfl, by rw [hBv4.cell]; rfl, by rw [hBv4.cell]; rfl⟩))
       clear hK K
       try simp only [Act.put, pa, pb, pc]
       refine rd1 7 (fun K hK => ?_)
       refine step_appG (α := X) w4 rfl _ _ _ _ 52 rfl Tryz.underlying36 Tryz.underlying36 wt.heap.size (.slice bv4 nv4 cv4) ([] ++ lo.take m) rfl hv4 (some ⟨wt.heap.size, 0, none⟩) 1 _ 1 [x] rfl rfl (rdBlk hOn4 rfl) (by simp only [List.length_append, List.length_nil, List.length_take, List.length_singleton]; omega) hTv4.size ?_
       intro v7 w7 hv7 hgv7 hatv7
       have hTv7 := belowAppG hTv4 hv4 hgv7
       have hBv7 := hBx.next hTv7
       obtain ⟨bv7, nv7, cv7, rfl⟩ := hv7.slice
       refine hK.out _ _ ?_ (fun hHeld => ?_)
       focus ((try dsimp only); (exact ⟨by rw [hBv7.cell]; rfl, by rw [hBv7.cell]; rfl, by rw [hBv7.cell]; rfl⟩))
       clear hK K
       try simp only [Act.put, pa, pb, pc]
       refine rd1 9 (fun K hK => ?_)
       refine step_appG (α := X) w7 rfl _ _ _ _ 52 rfl Tryz.underlying36 Tryz.underlying36 wt.heap.size (.slice bv7 nv7 cv7) (([] ++ lo.take m) ++ [x]) rfl hv7 Al cl _ (lo.length - m) (lo.drop m) List.length_drop rfl (hrl.next hTv7) (by simp only [List.length_append, List.length_nil, List.length_take, List.length_drop, List.length_singleton]; omega) hTv7.size ?_
       intro v9 w9 hv9 hgv9 hatv9
       have hTv9 := belowAppG hTv7 hv7 hgv9
       have hBv9 := hBx.next hTv9
       obtain ⟨bv9, nv9, cv9, rfl⟩ := hv9.slice
       refine hK.out _ _ ?_ (fun hHeld => ?_)
       focus ((try dsimp only); (exact ⟨by rw [hBv9.cell]; rfl, by rw [hBv9.cell]; rfl, by rw [hBv9.cell]; rfl⟩))
       clear hK K
       try simp only [Act.put, pa, pb, pc]
       refine tk 10 ?_
       refine wpAnyH_done (by kernel_rfl) ?_ _
       have hTq := hRt.next hTv9
       have hOq := (hOt.next hTv9)
       have hN9a : OwnG w9 wt.heap.size (.slice bv9 nv9 cv9) NX := by rw [HNX.out]; exact hv9
       have hN9 := hN9a.low hsz
       have hgr9 : w.grownBy w9 (some g) := grown_call hgrt hTv9
       clear hN9a hBv9 hi1 hi2 hi3 hb0t hb1t hb2t hrl hro hvl hRt hOt hBx hBd hHeld hx2 hx3 hro0 hTt
       cases hok : writesB NX
       ·
        go_wp2_with fail
        refine (specWritesOkO hN9 hfN).mono ?_
        rintro e wa ⟨rfl, hba⟩
        rw [hok]
        have hqa := hTq.next hba
        have hOa := hOq.next hba
        have hNa := hN9.next hba
        have hgra := grown_call hgr9 hba
        go_wp2_with fail
        refine (pick_d g A n c q4 20 wa hqa (by omega) (by omega) (by omega)).mono ?_
        rintro e wb ⟨k5, rfl, hk5, hd5⟩
        obtain ⟨q5, h51, h52, hq5⟩ := hd5.rdr
        have hOb := hOa.drawn hgl hd5.grown
        have hNb := hNa.drawn hgl hd5.grown
        have hgrb := hgra.trans hd5.grown
        by_cases hk50 : k5 = 0
        ·
         have hb5 : ((k5 : Int) == 0) = true := by simp [hk50]
         clear hk50
         go_wp2
         go_roundw
         case rel => exact ⟨j - 1, NX, by omega, by go_num, hNb, hfN, by have := HNL.out; omega, hgrb, q5, by omega, by omega, hq5⟩
         case measure => simp [intOf]; omega
        ·
         have hb5 : ((k5 : Int) == 0) = false := by simp; omega
         go_wp2
         go_roundw
         case rel => exact ⟨j - 1, lo, by omega, by go_num, hOb, hfit, by omega, hgrb, q5, by omega, by omega, hq5⟩
         case measure => simp [intOf]; omega
       ·
        go_wp2_with fail
        refine (specWritesOkO hN9 hfN).mono ?_
        rintro e wa ⟨rfl, hba⟩
        rw [hok]
        have hqa := hTq.next hba
        have hNa := hN9.next hba
        have hgra := grown_call hgr9 hba
        go_wp2
        go_roundw
        case rel => exact ⟨j - 1, NX, by omega, by go_num, hNa, hfN, by have := HNL.out; omega, hgra, q4, by omega, by omega, hqa⟩
        case measure => simp [intOf]; omega
   ·
    have hb4 : ((k4 : Int) == 0) = false := by simp; omega
    obtain ⟨x, HXE, hfx⟩ : ∃ x : X, Hid (s = x.k ∧ z = x.n ∧ false = x.g) ∧ FitX x := ⟨⟨s, z, false⟩, Lib.hid ⟨rfl, rfl, rfl⟩, hs, hz.1, hz.2⟩
    have hB5 : Blk w4 bx 52 #[.string x.k, .int .i64 x.n, .bool x.g] := hB4.cast (by rw [← HXE.out.1, ← HXE.out.2.1, ← HXE.out.2.2])
    have hO5 := hO4
    have hgr5 := hgr4
    go_wp2
    go_loopw [8] (fun kk W => ∃ m : Nat, m ≤ lo.length ∧ kk = .int .i64 m ∧ Below w4.heap.size w4 W) (fun kk _ => lo.length - (intOf kk).toNat)
    case atStart => exact ⟨0, Nat.zero_le _, rfl, Below.refl _ _⟩
    case round =>
     obtain ⟨m, hm, rfl, hbm⟩ := hrel
     have bq : wr.cell? ⟨bx, 0, none⟩ = some (.string x.k) := by rw [(hB5.next hbm).cell]; rfl
     by_cases hml : m < lo.length
     ·
      obtain ⟨b, o, rfl, hbB, hc0, hc1, hc2⟩ := (hO5.next hbm).rd'.2.2.2.atX hml
      have hmI := lenI _ _ hml
      have hmd : decide ((m : Int) < (lo.length : Int)) = true := decide_eq_true hmI
      cases hlt : Op.bytesLess lo[m].k.toList x.k.toList
      ·
       go_wp2
       refine wp_region_held_drew (S := (fun W => W.cell? ⟨bx, 0, none⟩ = some (.string x.k) ∧ W.cell? ⟨b, o + m * 3, none⟩ = some (.string lo[m].k))) (by kernel_rfl) ?_ (fun hHeld => ?_)
       focus ((try dsimp only); (exact ⟨bq, hc0⟩))
       refine tk 0 ?_
       refine tk 1 ?_
       refine tk 2 ?_
       refine tk 3 ?_
       refine tk 4 ?_
       refine tk 5 ?_
       refine tk 6 ?_
       refine tk 7 ?_
       refine tk 8 ?_
       refine tk 9 ?_
       refine tk 10 ?_
       refine tk 11 ?_
       refine tk 12 ?_
       refine tk 13 ?_
       refine wpAnyH_done (by kernel_rfl) ?_ _
       cases he : lo[m].k.toList == x.k.toList
       ·
        go_wp2
        refine wp_region_held_drew (S := (fun W => W.cell? ⟨bx, 0, none⟩ = some (.string x.k) ∧ W.cell? ⟨b, o + m * 3, none⟩ = some (.string lo[m].k))) (by kernel_rfl) ?_ (fun hHeld => ?_)
        focus ((try dsimp only); (exact ⟨bq, hc0⟩))
        refine tk 0 ?_
        refine tk 1 ?_
        refine tk 2 ?_
        refine tk 3 ?_
        refine tk 4 ?_
        refine tk 5 ?_
        refine tk 6 ?_
        refine tk 7 ?_
        refine tk 8 ?_
        refine tk 9 ?_
        refine tk 10 ?_
        refine tk 11 ?_
        refine tk 12 ?_
        refine tk 13 ?_
        refine wpAnyH_done (by kernel_rfl) ?_ _
        obtain ⟨Ao, HAo⟩ : ∃ Ao, Hid (some ⟨b, o, none⟩ = (Ao : Option Addr)) := ⟨_, Lib.hid rfl⟩
        rw [HAo.out] at hO5
        rw [HAo.out]
        obtain ⟨ws, HWS⟩ : ∃ ws, Hid (wr.drew.drew = ws) := ⟨_, Lib.hid rfl⟩
        have hbs : Below w4.heap.size w4 wr.drew.drew := hbm.drew.drew
        rw [HWS.out] at hbs
        rw [HWS.out]
        clear hc0 hc1 hc2 hmI hmd bq
        have hBs := hB5.next hbs
        have hqs := hq4.next hbs
        have hOs := hO5.next hbs
        have hgrs := grown_call hgr5 hbs
        obtain ⟨hx1, hx2, hx3, hro0⟩ := hOs.rd'
        clear hx1
        have hcut := runCutG (α := X) 36 Tryz.underlying36 Ao lo.length co m hm hx2
        have hi1 : (0 : Int) ≤ (m : Int) := by omega
        have hi2 : (m : Int) ≤ (co : Int) := by omega
        have hi3 : (m : Int) ≤ (lo.length : Int) := by omega
        have hOf := OwnG.fresh (α := X) ws ws.heap.size (Nat.le_refl _)
        have hTf : Below ws.heap.size ws (ws.alloc (.cells #[] 52)) := below_alloc (Below.refl _ _) _
        have HFT : Hid (([] : List X).length + (lo.drop m).length ≤ 4194304) := by show ([] : List X).length + (lo.drop m).length ≤ 4194304; rw [List.length_drop, List.length_nil]; omega
        go_wp2_with ((at_builtin; refine wpList_appG (α := X) (ws.alloc (.cells #[] 52)) rfl _ _ _ _ 52 rfl Tryz.underlying36 Tryz.underlying36 ws.heap.size _ [] rfl hOf (cutG X Ao co m) (co - m) _ (lo.length - m) (lo.drop m) List.length_drop rfl (rdDpG hro0 m co hx2 hTf) HFT.out hTf.size ?_; intro vl wt hvl hgl0 hatl; have hTt := belowAppG hTf hOf hgl0))
        rw [List.nil_append] at hvl
        have hBx := hBs.next hTt
        have hBd : Blk wt.drew bx 52 #[.string x.k, .int .i64 x.n, .bool x.g] := hBx
        have hRt := hqs.next hTt
        have hOt := hOs.next hTt
        have hgrt := grown_call hgrs hTt
        have hro := hro0.next hTt
        obtain ⟨Al, cl, rfl, hx4, hx5, hrl⟩ := hvl.read
        clear hx4 hx5
        have HTK : Hid ((lo.take m).length = m) := by show (lo.take m).length = m; rw [List.length_take]; omega
        obtain ⟨NX, HNX⟩ : ∃ NX, Hid (NX = ([] ++ lo.take m) ++ [x] ++ lo.drop m) := ⟨_, Lib.hid rfl⟩
        have hfN : FitXs NX := by rw [HNX.out, List.nil_append]; exact fitX_put hfit hfx
        have HNL : Hid (NX.length ≤ lo.length + 1) := by show NX.length ≤ lo.length + 1; rw [HNX.out]; simp only [List.length_append, List.length_nil, List.length_take, List.length_drop, List.length_singleton]; omega
        have hsz : w.heap.size ≤ wt.heap.size := hgrt.size
        have hb0t : wt.cell? ⟨bx, 0, none⟩ = some (.string x.k) := by rw [hBx.cell]; rfl
        have hb1t : wt.cell? ⟨bx, 1, none⟩ = some (.int .i64 x.n) := by rw [hBx.cell]; rfl
        have hb2t : wt.cell? ⟨bx, 2, none⟩ = some (.bool x.g) := by rw [hBx.cell]; rfl
        clear hOf hTf hcut hOs hBs hqs
        go_wp2
        refine wp_region_held_drew (S := (fun W => W.cell? ⟨bx, 0, none⟩ = some (.string x.k) ∧ W.cell? ⟨bx, 1, none⟩ = some (.int .i64 x.n) ∧ W.cell? ⟨bx, 2, none⟩ = some (.bool x.g))) (by kernel_rfl) ?_ (fun hHeld => ?_)
        focus ((try dsimp only); (exact ⟨by rw [hBd.cell]; rfl, by rw [hBd.cell]; rfl, by rw [hBd.cell]; rfl⟩))
        refine tk 1 ?_
        refine tk 2 ?_
        refine tk 3 ?_
        refine tk 5 ?_
        refine tk 8 ?_
        refine wpAnyH_ready (rs := [0, 6]) (by kernel_rfl) (by simp) (AllReadyH.cons (by (simp only [ga, gc]; rfl)) (fun K hK => ?_) (AllReadyH.cons (by (simp only [ga, gb, gc]; rfl)) (fun K hK => ?_) AllReadyH.nil))
        ·
         have hTe : Below wt.heap.size wt (wt.alloc (.cells #[] 52)).drew := (below_alloc (Below.refl _ _) _).drew
         have hBe := hBx.next hTe
         have hEe : OwnG (α := X) (wt.alloc (.cells #[] 52)).drew wt.heap.size (.slice (some ⟨wt.heap.size, 0, none⟩) 0 0) [] := OwnG.fresh wt _ (Nat.le_refl _)
         go_simp
         refine hK.out _ _ ?_ (fun hHeld => ?_)
         focus ((try dsimp only); (exact ⟨by rw [hBe.cell]; rfl, by rw [hBe.cell]; rfl, by rw [hBe.cell]; rfl⟩))
         clear hK K
         try simp only [Act.put, pa, pb, pc]
         refine wpAnyH_ready (rs := [4, 6]) (by kernel_rfl) (by simp) (AllReadyH.cons (by (simp only [ga, gb, gc]; rfl)) (fun K hK => ?_) (AllReadyH.cons (by (simp only [ga, gb, gc]; rfl)) (fun K hK => ?_) AllReadyH.nil))
         ·
          refine step_appG (α := X) (wt.alloc (.cells #[] 52)).drew rfl _ _ _ _ 52 rfl Tryz.underlying36 Tryz.underlying36 wt.heap.size (.slice (some ⟨wt.heap.size, 0, none⟩) 0 0) ([] : List X) rfl hEe Ao co _ m (lo.take m) HTK.out rfl (rdTkG hro m hTe) (by simp only [List.length_nil, List.length_take]; omega) hTe.size ?_
          intro v4 w4 hv4 hgv4 hatv4
          have hTv4 := belowAppG hTe hEe hgv4
          have hBv4 := hBx.next hTv4
          obtain ⟨bv4, nv4, cv4, rfl⟩ := hv4.slice
          refine hK.out _ _ ?_ (fun hHeld => ?_)
          focus ((try dsimp only); (exact ⟨by rw [hBv4.cell]; rfl, by rw [hBv4.cell]; rfl, by rw [hBv4.cell]; rfl⟩))
          clear hK K
          try simp only [Act.put, pa, pb, pc]
          have hT6 : Below wt.heap.size wt (w4.alloc (.cells #[.string x.k, .int .i64 x.n, .bool x.g] 52)) := below_alloc hTv4 _
          have hB6 := hBx.next hT6
          have hE6 := hv4.alloc (.cells #[.string x.k, .int .i64 x.n, .bool x.g] 52)
          refine rd1 6 (fun K hK => ?_)
          go_simp
          refine hK.out _ _ ?_ (fun hHeld => ?_)
          focus ((try dsimp only); (exact ⟨by rw [hB6.cell]; rfl, by rw [hB6.cell]; rfl, by rw [hB6.cell]; rfl⟩))
          clear hK K
          try simp only [Act.put, pa, pb, pc]
          refine rd1 7 (fun K hK => ?_)
          refine step_appG (α := X) (w4.alloc (.cells #[.string x.k, .int .i64 x.n, .bool x.g] 52)) rfl _ _ _ _ 52 rfl Tryz.underlying36 Tryz.underlying36 wt.heap.size (.slice bv4 nv4 cv4) ([] ++ lo.take m) rfl hE6 (some ⟨w4.heap.size, 0, none⟩) 1 _ 1 [x] rfl rfl (rdOneX w4 x 52) (by simp only [List.length_append, List.length_nil, List.length_take, List.length_singleton]; omega) hT6.size ?_
          intro v7 w7 hv7 hgv7 hatv7
          have hTv7 := belowAppG hT6 hE6 hgv7
          have hBv7 := hBx.next hTv7
          obtain ⟨bv7, nv7, cv7, rfl⟩ := hv7.slice
          refine hK.out _ _ ?_ (fun hHeld => ?_)
          focus ((try dsimp only); (exact ⟨by rw [hBv7.cell]; rfl, by rw [hBv7.cell]; rfl, by rw [hBv7.cell]; rfl⟩))
          clear hK K
          try simp only [Act.put, pa, pb, pc]
          refine rd1 9 (fun K hK => ?_)
          refine step_appG (α := X) w7 rfl _ _ _ _ 52 rfl Tryz.underlying36 Tryz.underlying36 wt.heap.size (.slice bv7 nv7 cv7) (([] ++ lo.take m) ++ [x]) rfl hv7 Al cl _ (lo.length - m) (lo.drop m) List.length_drop rfl (hrl.next hTv7) (by simp only [List.length_append, List.length_nil, List.length_take, List.length_drop, List.length_singleton]; omega) hTv7.size ?_
          intro v9 w9 hv9 hgv9 hatv9
          have hTv9 := belowAppG hTv7 hv7 hgv9
          have hBv9 := hBx.next hTv9
          obtain ⟨bv9, nv9, cv9, rfl⟩ := hv9.slice
          refine hK.out _ _ ?_ (fun hHeld => ?_)
          focus ((try dsimp only); (exact ⟨by rw [hBv9.cell]; rfl, by rw [hBv9.cell]; rfl, by rw [hBv9.cell]; rfl⟩))
          clear hK K
          try simp only [Act.put, pa, pb, pc]
          refine tk 10 ?_
          refine wpAnyH_done (by kernel_rfl) ?_ _
          have hTq := hRt.next hTv9
          have hOq := (hOt.next hTv9)
          have hN9a : OwnG w9 wt.heap.size (.slice bv9 nv9 cv9) NX := by rw [HNX.out]; exact hv9
          have hN9 := hN9a.low hsz
          have hgr9 : w.grownBy w9 (some g) := grown_call hgrt hTv9
          clear hN9a hBv9 hi1 hi2 hi3 hb0t hb1t hb2t hrl hro hvl hRt hOt hBx hBd hHeld hx2 hx3 hro0 hTt
          cases hok : writesB NX
          ·
           go_wp2_with fail
           refine (specWritesOkO hN9 hfN).mono ?_
           rintro e wa ⟨rfl, hba⟩
           rw [hok]
           have hqa := hTq.next hba
           have hOa := hOq.next hba
           have hNa := hN9.next hba
           have hgra := grown_call hgr9 hba
           go_wp2_with fail
           refine (pick_d g A n c q4 20 wa hqa (by omega) (by omega) (by omega)).mono ?_
           rintro e wb ⟨k5, rfl, hk5, hd5⟩
           obtain ⟨q5, h51, h52, hq5⟩ := hd5.rdr
           have hOb := hOa.drawn hgl hd5.grown
           have hNb := hNa.drawn hgl hd5.grown
           have hgrb := hgra.trans hd5.grown
           by_cases hk50 : k5 = 0
           ·
            have hb5 : ((k5 : Int) == 0) = true := by simp [hk50]
            clear hk50
            go_wp2
            go_roundw
            case rel => exact ⟨j - 1, NX, by omega, by go_num, hNb, hfN, by have := HNL.out; omega, hgrb, q5, by omega, by omega, hq5⟩
            case measure => simp [intOf]; omega
           ·
            have hb5 : ((k5 : Int) == 0) = false := by simp; omega
            go_wp2
            go_roundw
            case rel => exact ⟨j - 1, lo, by omega, by go_num, hOb, hfit, by omega, hgrb, q5, by omega, by omega, hq5⟩
            case measure => simp [intOf]; omega
          ·
           go_wp2_with fail
           refine (specWritesOkO hN9 hfN).mono ?_
           rintro e wa ⟨rfl, hba⟩
           rw [hok]
           have hqa := hTq.next hba
           have hNa := hN9.next hba
           have hgra := grown_call hgr9 hba
           go_wp2
           go_roundw
           case rel => exact ⟨j - 1, NX, by omega, by go_num, hNa, hfN, by have := HNL.out; omega, hgra, q4, by omega, by omega, hqa⟩
           case measure => simp [intOf]; omega
         ·
          have hTx : Below wt.heap.size wt ((wt.alloc (.cells #[] 52)).alloc (.cells #[.string x.k, .int .i64 x.n, .bool x.g] 52)).drew := (below_alloc (below_alloc (Below.refl _ _) _) _).drew
          have hBxx := hBx.next hTx
          have hEx : OwnG (α := X) ((wt.alloc (.cells #[] 52)).alloc (.cells #[.string x.k, .int .i64 x.n, .bool x.g] 52)).drew wt.heap.size (.slice (some ⟨wt.heap.size, 0, none⟩) 0 0) [] := (OwnG.fresh wt _ (Nat.le_refl _)).alloc _
          have hOne : Blk ((wt.alloc (.cells #[] 52)).alloc (.cells #[.string x.k, .int .i64 x.n, .bool x.g] 52)).drew (wt.heap.size + 1) 52 #[.string x.k, .int .i64 x.n, .bool x.g] := by have := blkA (wt.alloc (.cells #[] 52)) #[.string x.k, .int .i64 x.n, .bool x.g] 52; rw [World.size_alloc] at this; exact this
          go_simp
          refine hK.out _ _ ?_ (fun hHeld => ?_)
          focus ((try dsimp only); (exact ⟨by rw [hBxx.cell]; rfl, by rw [hBxx.cell]; rfl, by rw [hBxx.cell]; rfl⟩))
          clear hK K
          try simp only [Act.put, pa, pb, pc]
          refine rd1 4 (fun K hK => ?_)
          refine step_appG (α := X) ((wt.alloc (.cells #[] 52)).alloc (.cells #[.string x.k, .int .i64 x.n, .bool x.g] 52)).drew rfl _ _ _ _ 52 rfl Tryz.underlying36 Tryz.underlying36 wt.heap.size (.slice (some ⟨wt.heap.size, 0, none⟩) 0 0) ([] : List X) rfl hEx Ao co _ m (lo.take m) HTK.out rfl (rdTkG hro m hTx) (by simp only [List.length_nil, List.length_take]; omega) hTx.size ?_
          intro v4 w4 hv4 hgv4 hatv4
          have hTv4 := belowAppG hTx hEx hgv4
          have hBv4 := hBx.next hTv4
          obtain ⟨bv4, nv4, cv4, rfl⟩ := hv4.slice
          have hOn4 := hOne.grown hgv4 (fun e => by have h : wt.heap.size + 1 = wt.heap.size := Option.some.inj e; omega)
          refine hK.out _ _ ?_ (fun hHeld => ?_)
          focus ((try dsimp only); (exact ⟨by rw [hBv4.cell]; rfl, by rw [hBv4.cell]; rfl, by rw [hBv4.cell]; rfl⟩))
          clear hK K
          try simp only [Act.put, pa, pb, pc]
          refine rd1 7 (fun K hK => ?_)
          refine step_appG (α := X) w4 rfl _ _ _ _ 52 rfl Tryz.underlying36 Tryz.underlying36 wt.heap.size (.slice bv4 nv4 cv4) ([] ++ lo.take m) rfl hv4 (some ⟨wt.heap.size + 1, 0, none⟩) 1 _ 1 [x] rfl rfl (rdBlk hOn4 rfl) (by simp only [List.length_append, List.length_nil, List.length_take, List.length_singleton]; omega) hTv4.size ?_
          intro v7 w7 hv7 hgv7 hatv7
          have hTv7 := belowAppG hTv4 hv4 hgv7
          have hBv7 := hBx.next hTv7
          obtain ⟨bv7, nv7, cv7, rfl⟩ := hv7.slice
          refine hK.out _ _ ?_ (fun hHeld => ?_)
          focus ((try dsimp only); (exact ⟨by rw [hBv7.cell]; rfl, by rw [hBv7.cell]; rfl, by rw [hBv7.cell]; rfl⟩))
          clear hK K
          try simp only [Act.put, pa, pb, pc]
          refine rd1 9 (fun K hK => ?_)
          refine step_appG (α := X) w7 rfl _ _ _ _ 52 rfl Tryz.underlying36 Tryz.underlying36 wt.heap.size (.slice bv7 nv7 cv7) (([] ++ lo.take m) ++ [x]) rfl hv7 Al cl _ (lo.length - m) (lo.drop m) List.length_drop rfl (hrl.next hTv7) (by simp only [List.length_append, List.length_nil, List.length_take, List.length_drop, List.length_singleton]; omega) hTv7.size ?_
          intro v9 w9 hv9 hgv9 hatv9
          have hTv9 := belowAppG hTv7 hv7 hgv9
          have hBv9 := hBx.next hTv9
          obtain ⟨bv9, nv9, cv9, rfl⟩ := hv9.slice
          refine hK.out _ _ ?_ (fun hHeld => ?_)
          focus ((try dsimp only); (exact ⟨by rw [hBv9.cell]; rfl, by rw [hBv9.cell]; rfl, by rw [hBv9.cell]; rfl⟩))
          clear hK K
          try simp only [Act.put, pa, pb, pc]
          refine tk 10 ?_
          refine wpAnyH_done (by kernel_rfl) ?_ _
          have hTq := hRt.next hTv9
          have hOq := (hOt.next hTv9)
          have hN9a : OwnG w9 wt.heap.size (.slice bv9 nv9 cv9) NX := by rw [HNX.out]; exact hv9
          have hN9 := hN9a.low hsz
          have hgr9 : w.grownBy w9 (some g) := grown_call hgrt hTv9
          clear hN9a hBv9 hi1 hi2 hi3 hb0t hb1t hb2t hrl hro hvl hRt hOt hBx hBd hHeld hx2 hx3 hro0 hTt
          cases hok : writesB NX
          ·
           go_wp2_with fail
           refine (specWritesOkO hN9 hfN).mono ?_
           rintro e wa ⟨rfl, hba⟩
           rw [hok]
           have hqa := hTq.next hba
           have hOa := hOq.next hba
           have hNa := hN9.next hba
           have hgra := grown_call hgr9 hba
           go_wp2_with fail
           refine (pick_d g A n c q4 20 wa hqa (by omega) (by omega) (by omega)).mono ?_
           rintro e wb ⟨k5, rfl, hk5, hd5⟩
           obtain ⟨q5, h51, h52, hq5⟩ := hd5.rdr
           have hOb := hOa.drawn hgl hd5.grown
           have hNb := hNa.drawn hgl hd5.grown
           have hgrb := hgra.trans hd5.grown
           by_cases hk50 : k5 = 0
           ·
            have hb5 : ((k5 : Int) == 0) = true := by simp [hk50]
            clear hk50
            go_wp2
            go_roundw
            case rel => exact ⟨j - 1, NX, by omega, by go_num, hNb, hfN, by have := HNL.out; omega, hgrb, q5, by omega, by omega, hq5⟩
            case measure => simp [intOf]; omega
           ·
            have hb5 : ((k5 : Int) == 0) = false := by simp; omega
            go_wp2
            go_roundw
            case rel => exact ⟨j - 1, lo, by omega, by go_num, hOb, hfit, by omega, hgrb, q5, by omega, by omega, hq5⟩
            case measure => simp [intOf]; omega
          ·
           go_wp2_with fail
           refine (specWritesOkO hN9 hfN).mono ?_
           rintro e wa ⟨rfl, hba⟩
           rw [hok]
           have hqa := hTq.next hba
           have hNa := hN9.next hba
           have hgra := grown_call hgr9 hba
           go_wp2
           go_roundw
           case rel => exact ⟨j - 1, NX, by omega, by go_num, hNa, hfN, by have := HNL.out; omega, hgra, q4, by omega, by omega, hqa⟩
           case measure => simp [intOf]; omega
        ·
         have hTe : Below wt.heap.size wt (wt.alloc (.cells #[.string x.k, .int .i64 x.n, .bool x.g] 52)).drew := (below_alloc (Below.refl _ _) _).drew
         have hBe := hBx.next hTe
         go_simp
         refine hK.out _ _ ?_ (fun hHeld => ?_)
         focus ((try dsimp only); (exact ⟨by rw [hBe.cell]; rfl, by rw [hBe.cell]; rfl, by rw [hBe.cell]; rfl⟩))
         clear hK K
         try simp only [Act.put, pa, pb, pc]
         have hTx : Below wt.heap.size wt ((wt.alloc (.cells #[.string x.k, .int .i64 x.n, .bool x.g] 52)).alloc (.cells #[] 52)).drew := (below_alloc (below_alloc (Below.refl _ _) _) _).drew
         have hBxx := hBx.next hTx
         have hEx : OwnG (α := X) ((wt.alloc (.cells #[.string x.k, .int .i64 x.n, .bool x.g] 52)).alloc (.cells #[] 52)).drew wt.heap.size (.slice (some ⟨wt.heap.size + 1, 0, none⟩) 0 0) [] := by have h := OwnG.fresh (α := X) (wt.alloc (.cells #[.string x.k, .int .i64 x.n, .bool x.g] 52)) wt.heap.size (by rw [World.size_alloc]; omega); rw [World.size_alloc] at h; exact h
         have hOne : Blk ((wt.alloc (.cells #[.string x.k, .int .i64 x.n, .bool x.g] 52)).alloc (.cells #[] 52)).drew wt.heap.size 52 #[.string x.k, .int .i64 x.n, .bool x.g] := (blkA wt #[.string x.k, .int .i64 x.n, .bool x.g] 52).alloc _
         refine rd1 0 (fun K hK => ?_)
         go_simp
         refine hK.out _ _ ?_ (fun hHeld => ?_)
         focus ((try dsimp only); (exact ⟨by rw [hBxx.cell]; rfl, by rw [hBxx.cell]; rfl, by rw [hBxx.cell]; rfl⟩))
         clear hK K
         try simp only [Act.put, pa, pb, pc]
         refine rd1 4 (fun K hK => ?_)
         refine step_appG (α := X) ((wt.alloc (.cells #[.string x.k, .int .i64 x.n, .bool x.g] 52)).alloc (.cells #[] 52)).drew rfl _ _ _ _ 52 rfl Tryz.underlying36 Tryz.underlying36 wt.heap.size (.slice (some ⟨wt.heap.size + 1, 0, none⟩) 0 0) ([] : List X) rfl hEx Ao co _ m (lo.take m) HTK.out rfl (rdTkG hro m hTx) (by simp only [List.length_nil, List.length_take]; omega) hTx.size ?_
         intro v4 w4 hv4 hgv4 hatv4
         have hTv4 := belowAppG hTx hEx hgv4
         have hBv4 := hBx.next hTv4
         obtain ⟨bv4, nv4, cv4, rfl⟩ := hv4.slice
         have hOn4 := hOne.grown hgv4 (fun e => by have h : wt.heap.size = wt.heap.size + 1 := Option.some.inj e; omega)
         refine hK.out _ _ ?_ (fun hHeld => ?_)
         focus ((try dsimp only); (exact ⟨by rw [hBv4.cell]; rfl, by rw [hBv4.cell]; rfl, by rw [hBv4.cell]; rfl⟩))
         clear hK K
         try simp only [Act.put, pa, pb, pc]
         refine rd1 7 (fun K hK => ?_)
         refine step_appG (α := X) w4 rfl _ _ _ _ 52 rfl Tryz.underlying36 Tryz.underlying36 wt.heap.size (.slice bv4 nv4 cv4) ([] ++ lo.take m) rfl hv4 (some ⟨wt.heap.size, 0, none⟩) 1 _ 1 [x] rfl rfl (rdBlk hOn4 rfl) (by simp only [List.length_append, List.length_nil, List.length_take, List.length_singleton]; omega) hTv4.size ?_
         intro v7 w7 hv7 hgv7 hatv7
         have hTv7 := belowAppG hTv4 hv4 hgv7
         have hBv7 := hBx.next hTv7
         obtain ⟨bv7, nv7, cv7, rfl⟩ := hv7.slice
         refine hK.out _ _ ?_ (fun hHeld => ?_)
         focus ((try dsimp only); (exact ⟨by rw [hBv7.cell]; rfl, by rw [hBv7.cell]; rfl, by rw [hBv7.cell]; rfl⟩))
         clear hK K
         try simp only [Act.put, pa, pb, pc]
         refine rd1 9 (fun K hK => ?_)
         refine step_appG (α := X) w7 rfl _ _ _ _ 52 rfl Tryz.underlying36 Tryz.underlying36 wt.heap.size (.slice bv7 nv7 cv7) (([] ++ lo.take m) ++ [x]) rfl hv7 Al cl _ (lo.length - m) (lo.drop m) List.length_drop rfl (hrl.next hTv7) (by simp only [List.length_append, List.length_nil, List.length_take, List.length_drop, List.length_singleton]; omega) hTv7.size ?_
         intro v9 w9 hv9 hgv9 hatv9
         have hTv9 := belowAppG hTv7 hv7 hgv9
         have hBv9 := hBx.next hTv9
         obtain ⟨bv9, nv9, cv9, rfl⟩ := hv9.slice
         refine hK.out _ _ ?_ (fun hHeld => ?_)
         focus ((try dsimp only); (exact ⟨by rw [hBv9.cell]; rfl, by rw [hBv9.cell]; rfl, by rw [hBv9.cell]; rfl⟩))
         clear hK K
         try simp only [Act.put, pa, pb, pc]
         refine tk 10 ?_
         refine wpAnyH_done (by kernel_rfl) ?_ _
         have hTq := hRt.next hTv9
         have hOq := (hOt.next hTv9)
         have hN9a : OwnG w9 wt.heap.size (.slice bv9 nv9 cv9) NX := by rw [HNX.out]; exact hv9
         have hN9 := hN9a.low hsz
         have hgr9 : w.grownBy w9 (some g) := grown_call hgrt hTv9
         clear hN9a hBv9 hi1 hi2 hi3 hb0t hb1t hb2t hrl hro hvl hRt hOt hBx hBd hHeld hx2 hx3 hro0 hTt
         cases hok : writesB NX
         ·
          go_wp2_with fail
          refine (specWritesOkO hN9 hfN).mono ?_
          rintro e wa ⟨rfl, hba⟩
          rw [hok]
          have hqa := hTq.next hba
          have hOa := hOq.next hba
          have hNa := hN9.next hba
          have hgra := grown_call hgr9 hba
          go_wp2_with fail
          refine (pick_d g A n c q4 20 wa hqa (by omega) (by omega) (by omega)).mono ?_
          rintro e wb ⟨k5, rfl, hk5, hd5⟩
          obtain ⟨q5, h51, h52, hq5⟩ := hd5.rdr
          have hOb := hOa.drawn hgl hd5.grown
          have hNb := hNa.drawn hgl hd5.grown
          have hgrb := hgra.trans hd5.grown
          by_cases hk50 : k5 = 0
          ·
           have hb5 : ((k5 : Int) == 0) = true := by simp [hk50]
           clear hk50
           go_wp2
           go_roundw
           case rel => exact ⟨j - 1, NX, by omega, by go_num, hNb, hfN, by have := HNL.out; omega, hgrb, q5, by omega, by omega, hq5⟩
           case measure => simp [intOf]; omega
          ·
           have hb5 : ((k5 : Int) == 0) = false := by simp; omega
           go_wp2
           go_roundw
           case rel => exact ⟨j - 1, lo, by omega, by go_num, hOb, hfit, by omega, hgrb, q5, by omega, by omega, hq5⟩
           case measure => simp [intOf]; omega
         ·
          go_wp2_with fail
          refine (specWritesOkO hN9 hfN).mono ?_
          rintro e wa ⟨rfl, hba⟩
          rw [hok]
          have hqa := hTq.next hba
          have hNa := hN9.next hba
          have hgra := grown_call hgr9 hba
          go_wp2
          go_roundw
          case rel => exact ⟨j - 1, NX, by omega, by go_num, hNa, hfN, by have := HNL.out; omega, hgra, q4, by omega, by omega, hqa⟩
          case measure => simp [intOf]; omega
       ·
        go_wp2
        refine wp_region_held_drew (S := (fun W => W.cell? ⟨bx, 0, none⟩ = some (.string x.k) ∧ W.cell? ⟨b, o + m * 3, none⟩ = some (.string lo[m].k))) (by kernel_rfl) ?_ (fun hHeld => ?_)
        focus ((try dsimp only); (exact ⟨bq, hc0⟩))
        refine tk 0 ?_
        refine tk 1 ?_
        refine tk 2 ?_
        refine tk 3 ?_
        refine tk 4 ?_
        refine tk 5 ?_
        refine tk 6 ?_
        refine tk 7 ?_
        refine tk 8 ?_
        refine tk 9 ?_
        refine tk 10 ?_
        refine tk 11 ?_
        refine tk 12 ?_
        refine tk 13 ?_
        refine wpAnyH_done (by kernel_rfl) ?_ _
        have hbs : Below w4.heap.size w4 wr.drew.drew := hbm.drew.drew
        go_wp2
        go_roundw
        case rel => exact ⟨j - 1, lo, by omega, by go_num, hO5.next hbs, hfit, by omega, grown_call hgr5 hbs, q4, by omega, by omega, hq4.next hbs⟩
        case measure => simp [intOf]; omega
      ·
       go_wp2
       refine wp_region_held_drew (S := (fun W => W.cell? ⟨bx, 0, none⟩ = some (.string x.k) ∧ W.cell? ⟨b, o + m * 3, none⟩ = some (.string lo[m].k))) (by kernel_rfl) ?_ (fun hHeld => ?_)
       focus ((try dsimp only); (exact ⟨bq, hc0⟩))
       refine tk 0 ?_
       refine tk 1 ?_
       refine tk 2 ?_
       refine tk 3 ?_
       refine tk 4 ?_
       refine tk 5 ?_
       refine tk 6 ?_
       refine tk 7 ?_
       refine tk 8 ?_
       refine tk 9 ?_
       refine tk 10 ?_
       refine tk 11 ?_
       refine tk 12 ?_
       refine tk 13 ?_
       refine wpAnyH_done (by kernel_rfl) ?_ _
       go_wp2
       go_roundw
       case rel => exact ⟨m + 1, by omega, by go_num, hbm.drew⟩
       case measure => simp [intOf]; omega
     ·
      have hmd : decide ((m : Int) < (lo.length : Int)) = false := decide_eq_false (by omega)
      go_wp2
      refine wp_region_held_drew (S := (fun W => W.cell? ⟨bx, 0, none⟩ = some (.string x.k))) (by kernel_rfl) ?_ (fun hHeld => ?_)
      focus ((try dsimp only); (exact bq))
      refine tk 0 ?_
      refine tk 1 ?_
      refine tk 2 ?_
      refine tk 3 ?_
      refine tk 4 ?_
      refine ts 5 ?_
      refine ts 6 ?_
      refine ts 7 ?_
      refine ts 8 ?_
      refine ts 9 ?_
      refine ts 10 ?_
      refine ts 11 ?_
      refine ts 12 ?_
      refine tk 13 ?_
      refine wpAnyH_done (by kernel_rfl) ?_ _
      go_wp2
      refine wp_region_held_drew (S := (fun W => W.cell? ⟨bx, 0, none⟩ = some (.string x.k))) (by kernel_rfl) ?_ (fun hHeld => ?_)
      focus ((try dsimp only); (exact bq))
      refine tk 0 ?_
      refine tk 1 ?_
      refine tk 2 ?_
      refine tk 3 ?_
      refine tk 4 ?_
      refine ts 5 ?_
      refine ts 6 ?_
      refine ts 7 ?_
      refine ts 8 ?_
      refine ts 9 ?_
      refine ts 10 ?_
      refine ts 11 ?_
      refine ts 12 ?_
      refine tk 13 ?_
      refine wpAnyH_done (by kernel_rfl) ?_ _
      obtain ⟨ws, HWS⟩ : ∃ ws, Hid (wr.drew.drew = ws) := ⟨_, Lib.hid rfl⟩
      have hbs : Below w4.heap.size w4 wr.drew.drew := hbm.drew.drew
      rw [HWS.out] at hbs
      rw [HWS.out]
      clear hmd bq
      have hBs := hB5.next hbs
      have hqs := hq4.next hbs
      have hOs := hO5.next hbs
      have hgrs := grown_call hgr5 hbs
      obtain ⟨hx1, hx2, hx3, hro0⟩ := hOs.rd'
      clear hx1
      have hcut := runCutG (α := X) 36 Tryz.underlying36 Ao lo.length co m hm hx2
      have hi1 : (0 : Int) ≤ (m : Int) := by omega
      have hi2 : (m : Int) ≤ (co : Int) := by omega
      have hi3 : (m : Int) ≤ (lo.length : Int) := by omega
      have hOf := OwnG.fresh (α := X) ws ws.heap.size (Nat.le_refl _)
      have hTf : Below ws.heap.size ws (ws.alloc (.cells #[] 52)) := below_alloc (Below.refl _ _) _
      have HFT : Hid (([] : List X).length + (lo.drop m).length ≤ 4194304) := by show ([] : List X).length + (lo.drop m).length ≤ 4194304; rw [List.length_drop, List.length_nil]; omega
      go_wp2_with ((at_builtin; refine wpList_appG (α := X) (ws.alloc (.cells #[] 52)) rfl _ _ _ _ 52 rfl Tryz.underlying36 Tryz.underlying36 ws.heap.size _ [] rfl hOf (cutG X Ao co m) (co - m) _ (lo.length - m) (lo.drop m) List.length_drop rfl (rdDpG hro0 m co hx2 hTf) HFT.out hTf.size ?_; intro vl wt hvl hgl0 hatl; have hTt := belowAppG hTf hOf hgl0))
      rw [List.nil_append] at hvl
      have hBx := hBs.next hTt
      have hBd : Blk wt.drew bx 52 #[.string x.k, .int .i64 x.n, .bool x.g] := hBx
      have hRt := hqs.next hTt
      have hOt := hOs.next hTt
      have hgrt := grown_call hgrs hTt
      have hro := hro0.next hTt
      obtain ⟨Al, cl, rfl, hx4, hx5, hrl⟩ := hvl.read
      clear hx4 hx5
      have HTK : Hid ((lo.take m).length = m) := by show (lo.take m).length = m; rw [List.length_take]; omega
      obtain ⟨NX, HNX⟩ : ∃ NX, Hid (NX = ([] ++ lo.take m) ++ [x] ++ lo.drop m) := ⟨_, Lib.hid rfl⟩
      have hfN : FitXs NX := by rw [HNX.out, List.nil_append]; exact fitX_put hfit hfx
      have HNL : Hid (NX.length ≤ lo.length + 1) := by show NX.length ≤ lo.length + 1; rw [HNX.out]; simp only [List.length_append, List.length_nil, List.length_take, List.length_drop, List.length_singleton]; omega
      have hsz : w.heap.size ≤ wt.heap.size := hgrt.size
      have hb0t : wt.cell? ⟨bx, 0, none⟩ = some (.string x.k) := by rw [hBx.cell]; rfl
      have hb1t : wt.cell? ⟨bx, 1, none⟩ = some (.int .i64 x.n) := by rw [hBx.cell]; rfl
      have hb2t : wt.cell? ⟨bx, 2, none⟩ = some (.bool x.g) := by rw [hBx.cell]; rfl
      clear hOf hTf hcut hOs hBs hqs
      go_wp2
      refine wp_region_held_drew (S := (fun W => W.cell? ⟨bx, 0, none⟩ = some (.string x.k) ∧ W.cell? ⟨bx, 1, none⟩ = some (.int .i64 x.n) ∧ W.cell? ⟨bx, 2, none⟩ = some (.bool x.g))) (by kernel_rfl) ?_ (fun hHeld => ?_)
      focus ((try dsimp only); (exact ⟨by rw [hBd.cell]; rfl, by rw [hBd.cell]; rfl, by rw [hBd.cell]; rfl⟩))
      refine tk 1 ?_
      refine tk 2 ?_
      refine tk 3 ?_
      refine tk 5 ?_
      refine tk 8 ?_
      refine wpAnyH_ready (rs := [0, 6]) (by kernel_rfl) (by simp) (AllReadyH.cons (by (simp only [ga, gc]; rfl)) (fun K hK => ?_) (AllReadyH.cons (by (simp only [ga, gb, gc]; rfl)) (fun K hK => ?_) AllReadyH.nil))
      ·
       have hTe : Below wt.heap.size wt (wt.alloc (.cells #[] 52)).drew := (below_alloc (Below.refl _ _) _).drew
       have hBe := hBx.next hTe
       have hEe : OwnG (α := X) (wt.alloc (.cells #[] 52)).drew wt.heap.size (.slice (some ⟨wt.heap.size, 0, none⟩) 0 0) [] := OwnG.fresh wt _ (Nat.le_refl _)
       go_simp
       refine hK.out _ _ ?_ (fun hHeld => ?_)
       focus ((try dsimp only); (exact ⟨by rw [hBe.cell]; rfl, by rw [hBe.cell]; rfl, by rw [hBe.cell]; rfl⟩))
       clear hK K
       try simp only [Act.put, pa, pb, pc]
       refine wpAnyH_ready (rs := [4, 6]) (by kernel_rfl) (by simp) (AllReadyH.cons (by (simp only [ga, gb, gc]; rfl)) (fun K hK => ?_) (AllReadyH.cons (by (simp only [ga, gb, gc]; rfl)) (fun K hK => ?_) AllReadyH.nil))
       ·
        refine step_appG (α := X) (wt.alloc (.cells #[] 52)).drew rfl _ _ _ _ 52 rfl Tryz.underlying36 Tryz.underlying36 wt.heap.size (.slice (some ⟨wt.heap.size, 0, none⟩) 0 0) ([] : List X) rfl hEe Ao co _ m (lo.take m) HTK.out rfl (rdTkG hro m hTe) (by simp only [List.length_nil, List.length_take]; omega) hTe.size ?_
        intro v4 w4 hv4 hgv4 hatv4
        have hTv4 := belowAppG hTe hEe hgv4
        have hBv4 := hBx.next hTv4
        obtain ⟨bv4, nv4, cv4, rfl⟩ := hv4.slice
        refine hK.out _ _ ?_ (fun hHeld => ?_)
        focus ((try dsimp only); (exact ⟨by rw [hBv4.cell]; rfl, by rw [hBv4.cell]; rfl, by rw [hBv4.cell]; rfl⟩))
        clear hK K
        try simp only [Act.put, pa, pb, pc]
        have hT6 : Below wt.heap.size wt (w4.alloc (.cells #[.string x.k, .int .i64 x.n, .bool x.g] 52)) := below_alloc hTv4 _
        have hB6 := hBx.next hT6
        have hE6 := hv4.alloc (.cells #[.string x.k, .int .i64 x.n, .bool x.g] 52)
        refine rd1 6 (fun K hK => ?_)
        go_simp
        refine hK.out _ _ ?_ (fun hHeld => ?_)
        focus ((try dsimp only); (exact ⟨by rw [hB6.cell]; rfl, by rw [hB6.cell]; rfl, by rw [hB6.cell]; rfl⟩))
        clear hK K
        try simp only [Act.put, pa, pb, pc]
        refine rd1 7 (fun K hK => ?_)
        refine step_appG (α := X) (w4.alloc (.cells #[.string x.k, .int .i64 x.n, .bool x.g] 52)) rfl _ _ _ _ 52 rfl Tryz.underlying36 Tryz.underlying36 wt.heap.size (.slice bv4 nv4 cv4) ([] ++ lo.take m) rfl hE6 (some ⟨w4.heap.size, 0, none⟩) 1 _ 1 [x] rfl rfl (rdOneX w4 x 52) (by simp only [List.length_append, List.length_nil, List.length_take, List.length_singleton]; omega) hT6.size ?_
        intro v7 w7 hv7 hgv7 hatv7
        have hTv7 := belowAppG hT6 hE6 hgv7
        have hBv7 := hBx.next hTv7
        obtain ⟨bv7, nv7, cv7, rfl⟩ := hv7.slice
        refine hK.out _ _ ?_ (fun hHeld => ?_)
        focus ((try dsimp only); (exact ⟨by rw [hBv7.cell]; rfl, by rw [hBv7.cell]; rfl, by rw [hBv7.cell]; rfl⟩))
        clear hK K
        try simp only [Act.put, pa, pb, pc]
        refine rd1 9 (fun K hK => ?_)
        refine step_appG (α := X) w7 rfl _ _ _ _ 52 rfl Tryz.underlying36 Tryz.underlying36 wt.heap.size (.slice bv7 nv7 cv7) (([] ++ lo.take m) ++ [x]) rfl hv7 Al cl _ (lo.length - m) (lo.drop m) List.length_drop rfl (hrl.next hTv7) (by simp only [List.length_append, List.length_nil, List.length_take, List.length_drop, List.length_singleton]; omega) hTv7.size ?_
        intro v9 w9 hv9 hgv9 hatv9
        have hTv9 := belowAppG hTv7 hv7 hgv9
        have hBv9 := hBx.next hTv9
        obtain ⟨bv9, nv9, cv9, rfl⟩ := hv9.slice
        refine hK.out _ _ ?_ (fun hHeld => ?_)
        focus ((try dsimp only); (exact ⟨by rw [hBv9.cell]; rfl, by rw [hBv9.cell]; rfl, by rw [hBv9.cell]; rfl⟩))
        clear hK K
        try simp only [Act.put, pa, pb, pc]
        refine tk 10 ?_
        refine wpAnyH_done (by kernel_rfl) ?_ _
        have hTq := hRt.next hTv9
        have hOq := (hOt.next hTv9)
        have hN9a : OwnG w9 wt.heap.size (.slice bv9 nv9 cv9) NX := by rw [HNX.out]; exact hv9
        have hN9 := hN9a.low hsz
        have hgr9 : w.grownBy w9 (some g) := grown_call hgrt hTv9
        clear hN9a hBv9 hi1 hi2 hi3 hb0t hb1t hb2t hrl hro hvl hRt hOt hBx hBd hHeld hx2 hx3 hro0 hTt
        cases hok : writesB NX
        ·
         go_wp2_with fail
         refine (specWritesOkO hN9 hfN).mono ?_
         rintro e wa ⟨rfl, hba⟩
         rw [hok]
         have hqa := hTq.next hba
         have hOa := hOq.next hba
         have hNa := hN9.next hba
         have hgra := grown_call hgr9 hba
         go_wp2_with fail
         refine (pick_d g A n c q4 20 wa hqa (by omega) (by omega) (by omega)).mono ?_
         rintro e wb ⟨k5, rfl, hk5, hd5⟩
         obtain ⟨q5, h51, h52, hq5⟩ := hd5.rdr
         have hOb := hOa.drawn hgl hd5.grown
         have hNb := hNa.drawn hgl hd5.grown
         have hgrb := hgra.trans hd5.grown
         by_cases hk50 : k5 = 0
         ·
          have hb5 : ((k5 : Int) == 0) = true := by simp [hk50]
          clear hk50
          go_wp2
          go_roundw
          case rel => exact ⟨j - 1, NX, by omega, by go_num, hNb, hfN, by have := HNL.out; omega, hgrb, q5, by omega, by omega, hq5⟩
          case measure => simp [intOf]; omega
         ·
          have hb5 : ((k5 : Int) == 0) = false := by simp; omega
          go_wp2
          go_roundw
          case rel => exact ⟨j - 1, lo, by omega, by go_num, hOb, hfit, by omega, hgrb, q5, by omega, by omega, hq5⟩
          case measure => simp [intOf]; omega
        ·
         go_wp2_with fail
         refine (specWritesOkO hN9 hfN).mono ?_
         rintro e wa ⟨rfl, hba⟩
         rw [hok]
         have hqa := hTq.next hba
         have hNa := hN9.next hba
         have hgra := grown_call hgr9 hba
         go_wp2
         go_roundw
         case rel => exact ⟨j - 1, NX, by omega, by go_num, hNa, hfN, by have := HNL.out; omega, hgra, q4, by omega, by omega, hqa⟩
         case measure => simp [intOf]; omega
       ·
        have hTx : Below wt.heap.size wt ((wt.alloc (.cells #[] 52)).alloc (.cells #[.string x.k, .int .i64 x.n, .bool x.g] 52)).drew := (below_alloc (below_alloc (Below.refl _ _) _) _).drew
        have hBxx := hBx.next hTx
        have hEx : OwnG (α := X) ((wt.alloc (.cells #[] 52)).alloc (.cells #[.string x.k, .int .i64 x.n, .bool x.g] 52)).drew wt.heap.size (.slice (some ⟨wt.heap.size, 0, none⟩) 0 0) [] := (OwnG.fresh wt _ (Nat.le_refl _)).alloc _
        have hOne : Blk ((wt.alloc (.cells #[] 52)).alloc (.cells #[.string x.k, .int .i64 x.n, .bool x.g] 52)).drew (wt.heap.size + 1) 52 #[.string x.k, .int .i64 x.n, .bool x.g] := by have := blkA (wt.alloc (.cells #[] 52)) #[.string x.k, .int .i64 x.n, .bool x.g] 52; rw [World.size_alloc] at this; exact this
        go_simp
        refine hK.out _ _ ?_ (fun hHeld => ?_)
        focus ((try dsimp only); (exact ⟨by rw [hBxx.cell]; rfl, by rw [hBxx.cell]; rfl, by rw [hBxx.cell]; rfl⟩))
        clear hK K
        try simp only [Act.put, pa, pb, pc]
        refine rd1 4 (fun K hK => ?_)
        refine step_appG (α := X) ((wt.alloc (.cells #[] 52)).alloc (.cells #[.string x.k, .int .i64 x.n, .bool x.g] 52)).drew rfl _ _ _ _ 52 rfl Tryz.underlying36 Tryz.underlying36 wt.heap.size (.slice (some ⟨wt.heap.size, 0, none⟩) 0 0) ([] : List X) rfl hEx Ao co _ m (lo.take m) HTK.out rfl (rdTkG hro m hTx) (by simp only [List.length_nil, List.length_take]; omega) hTx.size ?_
        intro v4 w4 hv4 hgv4 hatv4
        have hTv4 := belowAppG hTx hEx hgv4
        have hBv4 := hBx.next hTv4
        obtain ⟨bv4, nv4, cv4, rfl⟩ := hv4.slice
        have hOn4 := hOne.grown hgv4 (fun e => by have h : wt.heap.size + 1 = wt.heap.size := Option.some.inj e; omega)
        refine hK.out _ _ ?_ (fun hHeld => ?_)
        focus ((try dsimp only); (exact ⟨by rw [hBv4.cell]; rfl, by rw [hBv4.cell]; rfl, by rw [hBv4.cell]; rfl⟩))
        clear hK K
        try simp only [Act.put, pa, pb, pc]
        refine rd1 7 (fun K hK => ?_)
        refine step_appG (α := X) w4 rfl _ _ _ _ 52 rfl Tryz.underlying36 Tryz.underlying36 wt.heap.size (.slice bv4 nv4 cv4) ([] ++ lo.take m) rfl hv4 (some ⟨wt.heap.size + 1, 0, none⟩) 1 _ 1 [x] rfl rfl (rdBlk hOn4 rfl) (by simp only [List.length_append, List.length_nil, List.length_take, List.length_singleton]; omega) hTv4.size ?_
        intro v7 w7 hv7 hgv7 hatv7
        have hTv7 := belowAppG hTv4 hv4 hgv7
        have hBv7 := hBx.next hTv7
        obtain ⟨bv7, nv7, cv7, rfl⟩ := hv7.slice
        refine hK.out _ _ ?_ (fun hHeld => ?_)
        focus ((try dsimp only); (exact ⟨by rw [hBv7.cell]; rfl, by rw [hBv7.cell]; rfl, by rw [hBv7.cell]; rfl⟩))
        clear hK K
        try simp only [Act.put, pa, pb, pc]
        refine rd1 9 (fun K hK => ?_)
        refine step_appG (α := X) w7 rfl _ _ _ _ 52 rfl Tryz.underlying36 Tryz.underlying36 wt.heap.size (.slice bv7 nv7 cv7) (([] ++ lo.take m) ++ [x]) rfl hv7 Al cl _ (lo.length - m) (lo.drop m) List.length_drop rfl (hrl.next hTv7) (by simp only [List.length_append, List.length_nil, List.length_take, List.length_drop, List.length_singleton]; omega) hTv7.size ?_
        intro v9 w9 hv9 hgv9 hatv9
        have hTv9 := belowAppG hTv7 hv7 hgv9
        have hBv9 := hBx.next hTv9
        obtain ⟨bv9, nv9, cv9, rfl⟩ := hv9.slice
        refine hK.out _ _ ?_ (fun hHeld => ?_)
        focus ((try dsimp only); (exact ⟨by rw [hBv9.cell]; rfl, by rw [hBv9.cell]; rfl, by rw [hBv9.cell]; rfl⟩))
        clear hK K
        try simp only [Act.put, pa, pb, pc]
        refine tk 10 ?_
        refine wpAnyH_done (by kernel_rfl) ?_ _
        have hTq := hRt.next hTv9
        have hOq := (hOt.next hTv9)
        have hN9a : OwnG w9 wt.heap.size (.slice bv9 nv9 cv9) NX := by rw [HNX.out]; exact hv9
        have hN9 := hN9a.low hsz
        have hgr9 : w.grownBy w9 (some g) := grown_call hgrt hTv9
        clear hN9a hBv9 hi1 hi2 hi3 hb0t hb1t hb2t hrl hro hvl hRt hOt hBx hBd hHeld hx2 hx3 hro0 hTt
        cases hok : writesB NX
        ·
         go_wp2_with fail
         refine (specWritesOkO hN9 hfN).mono ?_
         rintro e wa ⟨rfl, hba⟩
         rw [hok]
         have hqa := hTq.next hba
         have hOa := hOq.next hba
         have hNa := hN9.next hba
         have hgra := grown_call hgr9 hba
         go_wp2_with fail
         refine (pick_d g A n c q4 20 wa hqa (by omega) (by omega) (by omega)).mono ?_
         rintro e wb ⟨k5, rfl, hk5, hd5⟩
         obtain ⟨q5, h51, h52, hq5⟩ := hd5.rdr
         have hOb := hOa.drawn hgl hd5.grown
         have hNb := hNa.drawn hgl hd5.grown
         have hgrb := hgra.trans hd5.grown
         by_cases hk50 : k5 = 0
         ·
          have hb5 : ((k5 : Int) == 0) = true := by simp [hk50]
          clear hk50
          go_wp2
          go_roundw
          case rel => exact ⟨j - 1, NX, by omega, by go_num, hNb, hfN, by have := HNL.out; omega, hgrb, q5, by omega, by omega, hq5⟩
          case measure => simp [intOf]; omega
         ·
          have hb5 : ((k5 : Int) == 0) = false := by simp; omega
          go_wp2
          go_roundw
          case rel => exact ⟨j - 1, lo, by omega, by go_num, hOb, hfit, by omega, hgrb, q5, by omega, by omega, hq5⟩
          case measure => simp [intOf]; omega
        ·
         go_wp2_with fail
         refine (specWritesOkO hN9 hfN).mono ?_
         rintro e wa ⟨rfl, hba⟩
         rw [hok]
         have hqa := hTq.next hba
         have hNa := hN9.next hba
         have hgra := grown_call hgr9 hba
         go_wp2
         go_roundw
         case rel => exact ⟨j - 1, NX, by omega, by go_num, hNa, hfN, by have := HNL.out; omega, hgra, q4, by omega, by omega, hqa⟩
         case measure => simp [intOf]; omega
      ·
       have hTe : Below wt.heap.size wt (wt.alloc (.cells #[.string x.k, .int .i64 x.n, .bool x.g] 52)).drew := (below_alloc (Below.refl _ _) _).drew
       have hBe := hBx.next hTe
       go_simp
       refine hK.out _ _ ?_ (fun hHeld => ?_)
       focus ((try dsimp only); (exact ⟨by rw [hBe.cell]; rfl, by rw [hBe.cell]; rfl, by rw [hBe.cell]; rfl⟩))
       clear hK K
       try simp only [Act.put, pa, pb, pc]
       have hTx : Below wt.heap.size wt ((wt.alloc (.cells #[.string x.k, .int .i64 x.n, .bool x.g] 52)).alloc (.cells #[] 52)).drew := (below_alloc (below_alloc (Below.refl _ _) _) _).drew
       have hBxx := hBx.next hTx
       have hEx : OwnG (α := X) ((wt.alloc (.cells #[.string x.k, .int .i64 x.n, .bool x.g] 52)).alloc (.cells #[] 52)).drew wt.heap.size (.slice (some ⟨wt.heap.size + 1, 0, none⟩) 0 0) [] := by have h := OwnG.fresh (α := X) (wt.alloc (.cells #[.string x.k, .int .i64 x.n, .bool x.g] 52)) wt.heap.size (by rw [World.size_alloc]; omega); rw [World.size_alloc] at h; exact h
       have hOne : Blk ((wt.alloc (.cells #[.string x.k, .int .i64 x.n, .bool x.g] 52)).alloc (.cells #[] 52)).drew wt.heap.size 52 #[.string x.k, .int .i64 x.n, .bool x.g] := (blkA wt #[.string x.k, .int .i64 x.n, .bool x.g] 52).alloc _
       refine rd1 0 (fun K hK => ?_)
       go_simp
       refine hK.out _ _ ?_ (fun hHeld => ?_)
       focus ((try dsimp only); (exact ⟨by rw [hBxx.cell]; rfl, by rw [hBxx.cell]; rfl, by rw [hBxx.cell]; rfl⟩))
       clear hK K
       try simp only [Act.put, pa, pb, pc]
       refine rd1 4 (fun K hK => ?_)
       refine step_appG (α := X) ((wt.alloc (.cells #[.string x.k, .int .i64 x.n, .bool x.g] 52)).alloc (.cells #[] 52)).drew rfl _ _ _ _ 52 rfl Tryz.underlying36 Tryz.underlying36 wt.heap.size (.slice (some ⟨wt.heap.size + 1, 0, none⟩) 0 0) ([] : List X) rfl hEx Ao co _ m (lo.take m) HTK.out rfl (rdTkG hro m hTx) (by simp only [List.length_nil, List.length_take]; omega) hTx.size ?_
       intro v4 w4 hv4 hgv4 hatv4
       have hTv4 := belowAppG hTx hEx hgv4
       have hBv4 := hBx.next hTv4
       obtain ⟨bv4, nv4, cv4, rfl⟩ := hv4.slice
       have hOn4 := hOne.grown hgv4 (fun e => by have h : wt.heap.size = wt.heap.size + 1 := Option.some.inj e; omega)
       refine hK.out _ _ ?_ (fun hHeld => ?_)
       focus ((try dsimp only); (exact ⟨by rw [hBv4.cell]; rfl, by rw [hBv4.cell]; rfl, by rw [hBv4.cell]; rfl⟩))
       clear hK K
       try simp only [Act.put, pa, pb, pc]
       refine rd1 7 (fun K hK => ?_)
       refine step_appG (α := X) w4 rfl _ _ _ _ 52 rfl Tryz.underlying36 Tryz.underlying36 wt.heap.size (.slice bv4 nv4 cv4) ([] ++ lo.take m) rfl hv4 (some ⟨wt.heap.size, 0, none⟩) 1 _ 1 [x] rfl rfl (rdBlk hOn4 rfl) (by simp only [List.length_append, List.length_nil, List.length_take, List.length_singleton]; omega) hTv4.size ?_
       intro v7 w7 hv7 hgv7 hatv7
       have hTv7 := belowAppG hTv4 hv4 hgv7
       have hBv7 := hBx.next hTv7
       obtain ⟨bv7, nv7, cv7, rfl⟩ := hv7.slice
       refine hK.out _ _ ?_ (fun hHeld => ?_)
       focus ((try dsimp only); (exact ⟨by rw [hBv7.cell]; rfl, by rw [hBv7.cell]; rfl, by rw [hBv7.cell]; rfl⟩))
       clear hK K
       try simp only [Act.put, pa, pb, pc]
       refine rd1 9 (fun K hK => ?_)
       refine step_appG (α := X) w7 rfl _ _ _ _ 52 rfl Tryz.underlying36 Tryz.underlying36 wt.heap.size (.slice bv7 nv7 cv7) (([] ++ lo.take m) ++ [x]) rfl hv7 Al cl _ (lo.length - m) (lo.drop m) List.length_drop rfl (hrl.next hTv7) (by simp only [List.length_append, List.length_nil, List.length_take, List.length_drop, List.length_singleton]; omega) hTv7.size ?_
       intro v9 w9 hv9 hgv9 hatv9
       have hTv9 := belowAppG hTv7 hv7 hgv9
       have hBv9 := hBx.next hTv9
       obtain ⟨bv9, nv9, cv9, rfl⟩ := hv9.slice
       refine hK.out _ _ ?_ (fun hHeld => ?_)
       focus ((try dsimp only); (exact ⟨by rw [hBv9.cell]; rfl, by rw [hBv9.cell]; rfl, by rw [hBv9.cell]; rfl⟩))
       clear hK K
       try simp only [Act.put, pa, pb, pc]
       refine tk 10 ?_
       refine wpAnyH_done (by kernel_rfl) ?_ _
       have hTq := hRt.next hTv9
       have hOq := (hOt.next hTv9)
       have hN9a : OwnG w9 wt.heap.size (.slice bv9 nv9 cv9) NX := by rw [HNX.out]; exact hv9
       have hN9 := hN9a.low hsz
       have hgr9 : w.grownBy w9 (some g) := grown_call hgrt hTv9
       clear hN9a hBv9 hi1 hi2 hi3 hb0t hb1t hb2t hrl hro hvl hRt hOt hBx hBd hHeld hx2 hx3 hro0 hTt
       cases hok : writesB NX
       ·
        go_wp2_with fail
        refine (specWritesOkO hN9 hfN).mono ?_
        rintro e wa ⟨rfl, hba⟩
        rw [hok]
        have hqa := hTq.next hba
        have hOa := hOq.next hba
        have hNa := hN9.next hba
        have hgra := grown_call hgr9 hba
        go_wp2_with fail
        refine (pick_d g A n c q4 20 wa hqa (by omega) (by omega) (by omega)).mono ?_
        rintro e wb ⟨k5, rfl, hk5, hd5⟩
        obtain ⟨q5, h51, h52, hq5⟩ := hd5.rdr
        have hOb := hOa.drawn hgl hd5.grown
        have hNb := hNa.drawn hgl hd5.grown
        have hgrb := hgra.trans hd5.grown
        by_cases hk50 : k5 = 0
        ·
         have hb5 : ((k5 : Int) == 0) = true := by simp [hk50]
         clear hk50
         go_wp2
         go_roundw
         case rel => exact ⟨j - 1, NX, by omega, by go_num, hNb, hfN, by have := HNL.out; omega, hgrb, q5, by omega, by omega, hq5⟩
         case measure => simp [intOf]; omega
        ·
         have hb5 : ((k5 : Int) == 0) = false := by simp; omega
         go_wp2
         go_roundw
         case rel => exact ⟨j - 1, lo, by omega, by go_num, hOb, hfit, by omega, hgrb, q5, by omega, by omega, hq5⟩
         case measure => simp [intOf]; omega
       ·
        go_wp2_with fail
        refine (specWritesOkO hN9 hfN).mono ?_
        rintro e wa ⟨rfl, hba⟩
        rw [hok]
        have hqa := hTq.next hba
        have hNa := hN9.next hba
        have hgra := grown_call hgr9 hba
        go_wp2
        go_roundw
        case rel => exact ⟨j - 1, NX, by omega, by go_num, hNa, hfN, by have := HNL.out; omega, hgra, q4, by omega, by omega, hqa⟩
        case measure => simp [intOf]; omega
  ·
   have hj1 : decide ((0 : Int) < (j : Int)) = false := decide_eq_false (by omega)
   obtain ⟨Ao, co, rfl, hlo1, hlo2, hlo3⟩ := hO.read
   clear hlo1 hlo2
   by_cases hl0 : 0 < lo.length
   ·
    have hl1 : decide ((0 : Int) < (lo.length : Int)) = true := decide_eq_true (by omega)
    have hl2 : (0 : Int) < (lo.length : Int) := by omega
    go_wp2_with fail
    refine (pick_d g A n c q 30 wr hq (by omega) (by omega) (by omega)).mono ?_
    rintro e w5 ⟨k5, rfl, hk5, hd5⟩
    obtain ⟨q5, h51, h52, hq5⟩ := hd5.rdr
    have hO5 := hO.drawn hgl hd5.grown
    have hgr5 := hgrw.trans hd5.grown
    by_cases hk50 : k5 = 0
    ·
     have hb5 : ((k5 : Int) == 0) = true := by simp [hk50]
     clear hk50
     obtain ⟨b, o, rfl, hbB, hc0, hc1, hc2⟩ := hO5.rd'.2.2.2.atX hl0
     have e0 : w5.cell? ⟨b, o, none⟩ = some (.string lo[0].k) := by simpa using hc0
     have e1 : w5.cell? ⟨b, o + 1, none⟩ = some (.int .i64 lo[0].n) := by simpa using hc1
     have e2 : w5.cell? ⟨b, o + 2, none⟩ = some (.bool lo[0].g) := by simpa using hc2
     clear hc0 hc1 hc2
     obtain ⟨x, hx⟩ : ∃ x : X, Hid (lo[0] = x) := ⟨_, Lib.hid rfl⟩
     rw [hx.out] at e0 e1 e2
     have hsz5 := hgr5.size
     have hba : w.heap.size ≤ (w5.alloc (.cells #[.string x.k, .int .i64 x.n, .bool x.g] 52)).heap.size := by rw [World.size_alloc]; omega
     have HFX : Hid (FitXs (lo ++ [x])) := fun r hr => by
      rcases List.mem_append.1 hr with hr | hr
      ·
       exact hfit r hr
      ·
       rw [List.mem_singleton] at hr; subst hr; rw [← hx.out]; exact hfit _ (List.getElem_mem hl0)
     go_wp2_with ((at_builtin; refine wpList_appG (α := X) (w5.alloc (.cells #[.string x.k, .int .i64 x.n, .bool x.g] 52)) rfl _ _ _ _ 52 rfl Tryz.underlying36 Tryz.underlying36 w.heap.size _ lo rfl (hO5.alloc _) (some ⟨w5.heap.size, 0, none⟩) 1 _ 1 [x] rfl rfl (rdOneX w5 x 52) (by rw [List.length_singleton]; omega) hba ?_; intro v6 w6 hv6 hg6 hat6))
     have hbX : Below w.heap.size (w5.alloc (.cells #[.string x.k, .int .i64 x.n, .bool x.g] 52)) w6 := (Below.refl _ _).grown hg6 hba (fun k hk => (hO5.block_lt hk).1)
     go_ret
     exact ⟨v6, lo ++ [x], rfl, hv6, HFX.out, by rw [List.length_append, List.length_singleton]; omega, belowKeeps (grown_alloc hgr5 _) hbX (Nat.le_refl _), q5, by omega, by omega, (hq5.alloc _).belowR hbX hgl⟩
    ·
     have hb5 : ((k5 : Int) == 0) = false := by simp; omega
     go_wp2
     go_ret
     exact ⟨_, lo, rfl, hO5, hfit, by omega, hgr5, q5, by omega, by omega, hq5⟩
   ·
    have hl1 : decide ((0 : Int) < (lo.length : Int)) = false := decide_eq_false (by omega)
    have hl2 : decide (0 < lo.length) = false := decide_eq_false (by omega)
    go_wp2
    go_ret
    exact ⟨_, lo, rfl, hO, hfit, by omega, hgrw, q, by omega, by omega, hq⟩

end Go.Proofs.YtbeklnhngjmpiaaGreat
