/- The program's view of a transaction, whether a key is late, a copy. -/
import Derived.Test.YtnijgbinjbikbaaGreatX3d
import Derived.Test.YtnijgbinjbikbaaGreatW3e
namespace Go.Proofs.YtnijgbinjbikbaaGreat
open Go.RowKit Go.Maps Go.Shelf
set_option linter.unusedVariables false
set_option maxRecDepth 100000

theorem collect_c (ns s Bb b nn Bq Bs Bt : Nat) (z t : Int) (chs : List Ch) (ws : List X) (hl : chs.length ≤ 1048576) (hlw : ws.length ≤ 1048576) (ha : AscW ws) (hfx : FitXs ws) (w : World)
  (hBb : Blk w Bb 142 #[.map (some b)]) (hBuf : Buf w b nn ws) (hBq : Blk w Bq 114 #[.func (.func 96) #[] #[.pointer (some ⟨Bs, 0, none⟩), .pointer (some ⟨Bt, 0, none⟩)]])
  (hBs : Blk w Bs 71 #[.pointer (some ⟨s, 0, none⟩)]) (hBt : Blk w Bt 105 #[.int .i64 t]) (W0 : World) (hS : Sto W0 ns s z chs) (hk0 : KpT (fun k => ns ≤ k ∧ k < W0.heap.size) W0 w) :
  Calls Tryz.prog 87 #[.func (.func 111) #[] #[.pointer (some ⟨Bb, 0, none⟩), .pointer (some ⟨Bq, 0, none⟩)]] w (RetR w (mrg (snapL t chs) ws)) := by
 go_enter Tryz.func87, Tryz.ntmps87
 go_wp2_with fail
 refine (appendSeq_c ns s Bb b nn Bq Bs Bt z t chs ws hl hlw ha hfx w hBb hBuf hBq hBs hBt W0 hS hk0).mono ?_
 rintro e w1 ⟨v, rfl, hO, hb1⟩
 obtain ⟨A, c, rfl, _, _, _⟩ := hO.read
 go_wp2
 go_ret
 exact ⟨_, rfl, hO, hb1⟩
theorem over2_c (b Bs Bt : Nat) (w : World) :
  Calls Tryz.prog 89 #[.map (some b), .func (.func 96) #[] #[.pointer (some ⟨Bs, 0, none⟩), .pointer (some ⟨Bt, 0, none⟩)]] w fun e w' =>
   ∃ Bb Bq, e = .returned (.func (.func 111) #[] #[.pointer (some ⟨Bb, 0, none⟩), .pointer (some ⟨Bq, 0, none⟩)]) ∧ Blk w' Bb 142 #[.map (some b)] ∧
   Blk w' Bq 114 #[.func (.func 96) #[] #[.pointer (some ⟨Bs, 0, none⟩), .pointer (some ⟨Bt, 0, none⟩)]] ∧ Below w.heap.size w w' := by
 have hb0 : Below w.heap.size w ((w.alloc (.cells #[.map (some b)] 142)).alloc (.cells #[.func (.func 96) #[] #[.pointer (some ⟨Bs, 0, none⟩), .pointer (some ⟨Bt, 0, none⟩)]] 114)) := below_alloc (below_alloc (Below.refl _ _) _) _
 have hB1 := (blkA w #[.map (some b)] 142).alloc (.cells #[.func (.func 96) #[] #[.pointer (some ⟨Bs, 0, none⟩), .pointer (some ⟨Bt, 0, none⟩)]] 114)
 have hB2 := blkA (w.alloc (.cells #[.map (some b)] 142)) #[.func (.func 96) #[] #[.pointer (some ⟨Bs, 0, none⟩), .pointer (some ⟨Bt, 0, none⟩)]] 114
 simp only [World.size_alloc] at hB2
 go_enter Tryz.func89, Tryz.ntmps89
 go_wp2
 go_ret
 exact ⟨_, _, rfl, hB1, hB2, hb0⟩
theorem snap2_c (s : Nat) (t : Int) (w : World) :
  Calls Tryz.prog 63 #[.pointer (some ⟨s, 0, none⟩), .int .i64 t] w fun e w' =>
   ∃ Bs Bt, e = .returned (.func (.func 96) #[] #[.pointer (some ⟨Bs, 0, none⟩), .pointer (some ⟨Bt, 0, none⟩)]) ∧ Blk w' Bs 71 #[.pointer (some ⟨s, 0, none⟩)] ∧ Blk w' Bt 105 #[.int .i64 t] ∧ Below w.heap.size w w' := by
 refine (snapshot_c s t w).mono ?_
 rintro e w' ⟨rfl, rfl⟩
 have hBt := blkA (w.alloc (.cells #[.pointer (some ⟨s, 0, none⟩)] 71)) #[.int .i64 t] 105
 simp only [World.size_alloc] at hBt
 exact ⟨_, _, rfl, (blkA w #[.pointer (some ⟨s, 0, none⟩)] 71).alloc (.cells #[.int .i64 t] 105), hBt, below_alloc (below_alloc (Below.refl _ _) _) _⟩

set_option maxHeartbeats 4000000 in
theorem view_c (ns s : Nat) (z a : Int) (chs : List Ch) (B : Option Addr) (d : Nat) (ws : List X) (w : World) (hS : Sto w ns s z chs) (hl : chs.length ≤ 1048576) (ha : AscW ws) (hfx : FitXs ws) (hlx : ws.length ≤ 1048576) (hrx : RdG w w.heap.size B ws) :
  Calls Tryz.prog 53 #[.agg #[.int .i64 a, .slice B ws.length d], .pointer (some ⟨s, 0, none⟩)] w (RetR w (mrg (snapL a chs) ws)) := by
 have hb0 : Below w.heap.size w (w.alloc (.cells #[.int .i64 a, .slice B ws.length d] 25)) := below_alloc (Below.refl _ _) _
 have hB0 := blkA w #[.int .i64 a, .slice B ws.length d] 25
 obtain ⟨wn, HW⟩ : ∃ wn, Hid (w.alloc (.cells #[.int .i64 a, .slice B ws.length d] 25) = wn) := ⟨_, Lib.hid rfl⟩
 rw [HW.out] at hb0 hB0
 have hbn : Below w.heap.size w wn.drew := hb0.drew
 have hBx : Blk wn.drew w.heap.size 25 #[.int .i64 a, .slice B ws.length d] := hB0
 have hrn := hrx.next hbn
 go_enter Tryz.func53, Tryz.ntmps53
 go_wp2
 rw [HW.out]
 refine wp_region_held_drew (S := (fun W => W.cell? ⟨w.heap.size, 0, none⟩ = some (.int .i64 a) ∧ W.cell? ⟨w.heap.size, 1, none⟩ = some (.slice B ws.length d))) (by kernel_rfl) ?_ (fun hHeld => ?_)
 focus ((try dsimp only); (exact ⟨by rw [hBx.cell]; rfl, by rw [hBx.cell]; rfl⟩))
 refine tk 0 ?_
 refine tk 1 ?_
 refine tk 3 ?_
 refine tk 4 ?_
 refine tk 5 ?_
 obtain ⟨wd, HWD⟩ : ∃ wd, Hid (wn.drew = wd) := ⟨_, Lib.hid rfl⟩
 rw [HWD.out] at hHeld hbn hBx hrn
 rw [HWD.out]
 refine rd1 2 (fun K hK => ?_)
 go_simp
 go_at_call 88
 refine (bufferOf_c B d ws _ ha hfx hlx hrn).mono ?_
 rintro e w2 ⟨b, rfl, hbb, hBuf, hb2⟩
 have hBx2 := hBx.next hb2
 have hbw2 := below_next hbn hb2
 go_wp2_with fail
 refine hK.out _ _ ?_ (fun hHeld => ?_)
 focus ((try dsimp only); (exact ⟨by rw [hBx2.cell]; rfl, by rw [hBx2.cell]; rfl⟩))
 clear hK K
 try simp only [Act.put, pa, pb, pc]
 refine rd1 6 (fun K hK => ?_)
 go_simp
 go_at_call 63
 refine (snap2_c s a _).mono ?_
 rintro e w3 ⟨Bs, Bt, rfl, hBs3, hBt3, hb3⟩
 have hBx3 := hBx2.next hb3
 have hBuf3 := hBuf.next hb3
 have hbw3 := below_next hbw2 hb3
 clear hBx hBx2 hBuf hrn hbw2
 go_wp2_with fail
 refine hK.out _ _ ?_ (fun hHeld => ?_)
 focus ((try dsimp only); (exact ⟨by rw [hBx3.cell]; rfl, by rw [hBx3.cell]; rfl⟩))
 clear hK K
 try simp only [Act.put, pa, pb, pc]
 refine rd1 7 (fun K hK => ?_)
 go_simp
 go_at_call 89
 refine (over2_c b Bs Bt _).mono ?_
 rintro e w4 ⟨Bb, Bq, rfl, hBb4, hBq4, hb4⟩
 have hBx4 := hBx3.next hb4
 have hBs4 := hBs3.next hb4
 have hBt4 := hBt3.next hb4
 have hBuf4 := hBuf3.next hb4
 have hbw4 := below_next hbw3 hb4
 clear hBx3 hBs3 hBt3 hBuf3
 go_wp2_with fail
 refine hK.out _ _ ?_ (fun hHeld => ?_)
 focus ((try dsimp only); (exact ⟨by rw [hBx4.cell]; rfl, by rw [hBx4.cell]; rfl⟩))
 clear hK K
 try simp only [Act.put, pa, pb, pc]
 refine rd1 8 (fun K hK => ?_)
 go_simp
 go_at_call 87
 refine (collect_c ns s Bb b _ Bq Bs Bt z a chs ws hl hlx ha hfx _ hBb4 hBuf4 hBq4 hBs4 hBt4 w hS (KpT.below hbw4 (fun k hk => hk.2))).mono ?_
 rintro e w5 ⟨v, rfl, hO, hb5⟩
 have hBx5 := hBx4.next hb5
 have hbw5 := below_next hbw4 hb5
 have hO5 := hO.low hbw4.size
 obtain ⟨ao, co, rfl, _, _, _⟩ := hO.read
 go_wp2_with fail
 refine hK.out _ _ ?_ (fun hHeld => ?_)
 focus ((try dsimp only); (exact ⟨by rw [hBx5.cell]; rfl, by rw [hBx5.cell]; rfl⟩))
 clear hK K
 try simp only [Act.put, pa, pb, pc]
 refine tk 9 ?_
 refine wpAnyH_done (by kernel_rfl) ?_ _
 go_wp2
 go_ret
 exact ⟨_, rfl, hO5, hbw5⟩

/-- the chains hold these versions, in their order; some may be empty -/
structure ConsF (chs : List Ch) (l : List V) : Prop where
 flat : chs.flatMap Ch.vs = l
 each : ∀ c ∈ chs, (∀ x ∈ c.vs, x.k = c.k) ∧ Chain c.vs
 asc : Asc chs
theorem Cons.toF {chs : List Ch} {l : List V} (h : Cons chs l) (ho : Ord2 l) : ConsF chs l := ⟨h.flat, fun c hc => ⟨(h.each c hc).2, h.chain ho hc⟩, h.asc⟩
theorem ConsF.ins {chs L R : List Ch} {c : Ch} {l : List V} (h : ConsF chs l) (hA : Asc (L ++ c :: R)) (hor : chs = L ++ c :: R ∨ (chs = L ++ R ∧ c.ls = [])) : ConsF (L ++ c :: R) l := by
 rcases hor with rfl | ⟨rfl, he⟩
 ·
  exact h
 ·
  have hv : c.vs = [] := by simp [Ch.vs, he]
  refine ⟨?_, fun d hd => ?_, hA⟩
  ·
   rw [← h.flat]; simp [hv]
  ·
   rcases List.mem_append.1 hd with hd | hd
   ·
    exact h.each d (by simp [hd])
   ·
    rcases List.mem_cons.1 hd with rfl | hd
    ·
     rw [hv]; exact ⟨by simp, List.Pairwise.nil⟩
    ·
     exact h.each d (by simp [hd])
theorem ConsF.last {chs L R : List Ch} {c : Ch} {l : List V} {key : ByteArray} {z : Int} (hC : ConsF chs l) (hv : ∀ x ∈ l, verB z x = true) (hck : c.k = key) (hA : Asc (L ++ c :: R)) (hor : chs = L ++ c :: R ∨ (chs = L ++ R ∧ c.ls = [])) :
  lastL l key = lastI c.ls := by
 unfold Asc at hA
 rw [List.pairwise_append, List.pairwise_cons] at hA
 have hne : ∀ d, d ∈ L ∨ d ∈ R → ∀ x ∈ d.vs, x.k ≠ key := by
  intro d hd x hx e
  have hdm : d ∈ chs := by rcases hor with rfl | ⟨rfl, _⟩ <;> rcases hd with h | h <;> simp [h]
  have hxk := (hC.each d hdm).1 x hx
  rw [e] at hxk
  rcases hd with h | h
  ·
   have := hA.2.2 d h c (by simp)
   rw [← hxk, hck, lt_irrefl] at this; cases this
  ·
   have := hA.2.1.1 d h
   rw [← hxk, hck, lt_irrefl] at this; cases this
 have hL : ∀ x ∈ L.flatMap Ch.vs, x.k ≠ key := fun x hx => by obtain ⟨d, hd, hx⟩ := List.mem_flatMap.1 hx; exact hne d (.inl hd) x hx
 have hR : ∀ x ∈ R.flatMap Ch.vs, x.k ≠ key := fun x hx => by obtain ⟨d, hd, hx⟩ := List.mem_flatMap.1 hx; exact hne d (.inr hd) x hx
 unfold lastL
 rw [← hC.flat]
 rcases hor with rfl | ⟨rfl, he⟩
 ·
  rw [List.flatMap_append, List.flatMap_cons, List.foldl_append, List.foldl_append, foldl_key key _ _ hL, foldl_key key _ _ hR]
  refine chain_last (z := z) (hC.each c (by simp)).2 (fun x hx => by rw [← hck]; exact (hC.each c (by simp)).1 x hx) fun x hx => hv x ?_
  rw [← hC.flat]
  exact List.mem_flatMap.2 ⟨c, by simp, hx⟩
 ·
  rw [List.flatMap_append, List.foldl_append, foldl_key key _ _ hL, foldl_key key _ _ hR, he]
  rfl
def RetLate (w : World) (base s : Nat) (z : Int) (n : Nat) (l : List V) (a : Int) (key : ByteArray) (e : Ending) (w' : World) : Prop :=
 e = .returned (.bool (decide (a < lastL l key))) ∧ ∃ chs', Sto w' base s z chs' ∧ ConsF chs' l ∧ chs'.length ≤ n + 1 ∧ Below base w w'

theorem writesB_one (x : X) : writesB [x] = writeB x := by
 cases h : writeB x
 ·
  cases h2 : writesB [x]
  ·
   rfl
  ·
   have := (writesB_iff.1 h2).each 0 (by simp)
   simp [h] at this
 ·
  refine writesB_iff.2 ⟨by simp, fun i hi => ?_, ?_⟩
  ·
   have : i = 0 := by simpa using hi
   subst this; exact h
  ·
   unfold AscX; simp
end Go.Proofs.YtnijgbinjbikbaaGreat
