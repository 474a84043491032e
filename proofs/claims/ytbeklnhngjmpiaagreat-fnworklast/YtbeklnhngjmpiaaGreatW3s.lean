/- Work: the model's WorkSame and the copy of what one does. -/
import Derived.Test.YtbeklnhngjmpiaaGreatArWork
import Derived.Test.YtbeklnhngjmpiaaGreatB1
import Derived.Test.YtbeklnhngjmpiaaGreatB5
import Derived.Laws.StructEq
namespace Go.Proofs.YtbeklnhngjmpiaaGreat
open Go.RowKit
set_option linter.unusedVariables false
set_option maxRecDepth 100000

theorem neqWrite (s t : ByteArray) (a a' : Int) (b b' : Bool) (w : World) : (binOp .neq 52 (.agg #[.string s, .int .i64 a, .bool b]) (.agg #[.string t, .int .i64 a', .bool b'])).run Tryz.prog w = .ok (.bool (!eqX ⟨s, a, b⟩ ⟨t, a', b'⟩)) w := by
 simp [go_sem]
 by_cases h : (⟨s, a, b⟩ : X) = ⟨t, a', b'⟩
 ·
  rw [eqX_yes h]
  simp only [X.mk.injEq] at h
  obtain ⟨rfl, rfl, rfl⟩ := h
  simp
 ·
  rw [eqX_no h]
  simp only [X.mk.injEq] at h
  by_cases h1 : s = t
  ·
   subst h1
   by_cases h2 : a = a'
   ·
    subst h2
    by_cases h3 : b = b'
    ·
     exact absurd ⟨rfl, rfl, h3⟩ h
    ·
     simp [h3]
   ·
    simp [h2]
  ·
   have h3 : s.toList ≠ t.toList := fun e => h1 (str_eq (by rw [e]; simp))
   simp [h3]

/-- what one does is returned in new memory -/
def RetX (w : World) (a : Int) (ws : List X) (e : Ending) (w' : World) : Prop := ∃ v, e = .returned (.agg #[.int .i64 a, v]) ∧ OwnG w' w.heap.size v ws ∧ Below w.heap.size w w'
def RetXC (w : World) (a : Int) (ws : List X) (k : Int) (e : Ending) (w' : World) : Prop := ∃ v, e = .returned (.tuple #[.agg #[.int .i64 a, v], .int .i64 k]) ∧ OwnG w' w.heap.size v ws ∧ Below w.heap.size w w'
def RetVC (w : World) (z : Int) (l : List V) (k : Int) (e : Ending) (w' : World) : Prop := ∃ v, e = .returned (.tuple #[.agg #[.int .i64 z, v], .int .i64 k]) ∧ OwnG w' w.heap.size v l ∧ Below w.heap.size w w'

set_option maxHeartbeats 2000000 in
theorem l3Copy_c (z : Int) (A : Option Addr) (c : Nat) (l : List X) (w : World) (hl : l.length ≤ 2097152) (hr : RdG w w.heap.size A l) :
  Calls Tryz.prog 71 #[.agg #[.int .i64 z, .slice A l.length c]] w (RetX w z l) := by
 have hb0 : Below w.heap.size w ((w.alloc (.cells #[.int .i64 z, .slice A l.length c] 38)).alloc (.cells #[.int .i64 0, .slice none 0 0] 38)) := below_alloc (below_alloc (Below.refl _ _) _) _
 have hB0 := (blkA w #[.int .i64 z, .slice A l.length c] 38).alloc (.cells #[.int .i64 0, .slice none 0 0] 38)
 have hR0 := blkA (w.alloc (.cells #[.int .i64 z, .slice A l.length c] 38)) #[.int .i64 0, .slice none 0 0] 38
 have hsz : ((w.alloc (.cells #[.int .i64 z, .slice A l.length c] 38)).alloc (.cells #[.int .i64 0, .slice none 0 0] 38)).heap.size = w.heap.size + 2 := by simp
 simp only [World.size_alloc] at hR0
 obtain ⟨wn, HW⟩ : ∃ wn, Hid ((w.alloc (.cells #[.int .i64 z, .slice A l.length c] 38)).alloc (.cells #[.int .i64 0, .slice none 0 0] 38) = wn) := ⟨_, Lib.hid rfl⟩
 rw [HW.out] at hb0 hB0 hR0 hsz
 have q0 : wn.cell? ⟨w.heap.size, 0, none⟩ = some (.int .i64 z) := by rw [hB0.cell]; rfl
 have q1 : wn.cell? ⟨w.heap.size, 1, none⟩ = some (.slice A l.length c) := by rw [hB0.cell]; rfl
 have hrn := (hr.next hb0.drew)
 have HSZ := Lib.hid hsz
 have hBx : Blk (wn.alloc (.cells #[] 52)).drew w.heap.size 38 #[.int .i64 z, .slice A l.length c] := hB0.alloc (.cells #[] 52)
 have hRx : Blk (wn.alloc (.cells #[] 52)).drew (w.heap.size + 1) 38 #[.int .i64 0, .slice none 0 0] := hR0.alloc (.cells #[] 52)
 have hOf : OwnG (α := X) (wn.alloc (.cells #[] 52)).drew (w.heap.size + 2) (.slice (some ⟨w.heap.size + 2, 0, none⟩) 0 0) [] := by
  have h := OwnG.fresh (α := X) wn (w.heap.size + 2) (by omega)
  rw [hsz] at h
  exact h
 have HNB : Hid (some w.heap.size ≠ (Value.slice (some ⟨w.heap.size + 2, 0, none⟩) 0 0).ownBlock ∧ some (w.heap.size + 1) ≠ (Value.slice (some ⟨w.heap.size + 2, 0, none⟩) 0 0).ownBlock) := ⟨by simp [Value.ownBlock], by simp [Value.ownBlock]⟩
 have HBL : Hid (∀ w', (wn.alloc (.cells #[] 52)).drew.grownBy w' (Value.slice (some ⟨w.heap.size + 2, 0, none⟩) 0 0).ownBlock → Below w.heap.size w w') := fun w' hg => hOf.below (below_alloc hb0 _).drew hg (by omega)
 have hrx : RdG (wn.alloc (.cells #[] 52)).drew (wn.alloc (.cells #[] 52)).drew.heap.size A l := (hr.next (below_alloc hb0 (.cells #[] 52)).drew)
 have hsx : w.heap.size + 2 ≤ (wn.alloc (.cells #[] 52)).drew.heap.size := by show _ ≤ (wn.alloc (.cells #[] 52)).heap.size; rw [World.size_alloc]; omega
 go_enter Tryz.func71, Tryz.ntmps71
 go_wp2
 rw [HW.out]
 refine wp_region_held_drew (S := (fun W => W.cell? ⟨w.heap.size, 0, none⟩ = some (.int .i64 z) ∧ W.cell? ⟨w.heap.size, 1, none⟩ = some (.slice A l.length c))) (by kernel_rfl) ?_ (fun hHeld => ?_)
 focus ((try dsimp only); (exact ⟨q0, q1⟩))
 refine tk 0 ?_
 refine tk 1 ?_
 refine tk 3 ?_
 refine tk 4 ?_
 refine rd1 2 (fun K hK => ?_)
 go_simp
 refine hK.out _ _ ?_ (fun hHeld => ?_)
 focus ((try dsimp only); (exact ⟨by rw [hBx.cell]; rfl, by rw [hBx.cell]; rfl⟩))
 clear hK K
 try simp only [Act.put, pa, pb, pc]
 refine rd1 5 (fun K hK => ?_)
 refine step_appG (α := X) (wn.alloc (.cells #[] 52)).drew rfl _ _ _ _ 52 rfl Tryz.underlying36 Tryz.underlying36 (w.heap.size + 2) (.slice (some ⟨w.heap.size + 2, 0, none⟩) 0 0) [] rfl hOf A c _ l.length l rfl rfl hrx (by simp; omega) hsx ?_
 intro v' w' hown hgr hat
 rw [List.nil_append] at hown
 obtain ⟨bv, nv, cv, rfl⟩ := hown.slice
 have hBw := hBx.grown hgr HNB.out.1
 have hRw := hRx.grown hgr HNB.out.2
 have hbw : Below w.heap.size w w' := HBL.out _ hgr
 have d0 : w'.cell? ⟨w.heap.size + 1, 0, none⟩ = some (.int .i64 0) := (by rw [hRw.cell]; rfl)
 have d1 : w'.cell? ⟨w.heap.size + 1, 1, none⟩ = some (.slice none 0 0) := (by rw [hRw.cell]; rfl)
 have f0 := hRw.free 0
 have f1 := hRw.free 1
 refine hK.out _ _ ?_ (fun hHeld => ?_)
 focus ((try dsimp only); (exact ⟨by rw [hBw.cell]; rfl, by rw [hBw.cell]; rfl⟩))
 clear hK K
 try simp only [Act.put, pa, pb, pc]
 refine tk 6 ?_
 refine rd1 7 (fun K hK => ?_)
 go_simp
 refine hK.out _ _ ?_ (fun hHeld => ?_)
 focus ((try dsimp only); (exact ⟨by rw [((hBw.setOther (a := ⟨w.heap.size + 1, 0, none⟩) (show w.heap.size ≠ w.heap.size + 1 from by omega) _).setOther (a := ⟨w.heap.size + 1, 1, none⟩) (show w.heap.size ≠ w.heap.size + 1 from by omega) _).cell]; rfl, by rw [((hBw.setOther (a := ⟨w.heap.size + 1, 0, none⟩) (show w.heap.size ≠ w.heap.size + 1 from by omega) _).setOther (a := ⟨w.heap.size + 1, 1, none⟩) (show w.heap.size ≠ w.heap.size + 1 from by omega) _).cell]; rfl⟩))
 clear hK K
 try simp only [Act.put, pa, pb, pc]
 refine wpAnyH_done (by kernel_rfl) ?_ _
 go_wp2
 refine bodyPost_ret (v := .agg #[.int .i64 z, .slice bv nv cv]) (by simp [results, Tryz.results71, go_sem, d0, d1]) rfl ⟨.slice bv nv cv, rfl, ?_, ?_⟩
 ·
  have hne : ∀ g, (Value.slice bv nv cv).ownBlock = some g → g ≠ w.heap.size + 1 := fun g hg => by have := (hown.block_lt hg).1; have := HSZ.out; omega
  exact ((hown.setCell (a := ⟨w.heap.size + 1, 0, none⟩) hne _).setCell (a := ⟨w.heap.size + 1, 1, none⟩) hne _).low (by have := HSZ.out; omega)
 ·
  exact (hbw.setCell (by simp <;> omega) _).setCell (by simp <;> omega) _

end Go.Proofs.YtbeklnhngjmpiaaGreat
