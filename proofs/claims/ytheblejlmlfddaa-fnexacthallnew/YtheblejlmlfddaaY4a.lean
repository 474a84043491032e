/- The model's chapter 4: statements and seats that are right. -/
import Derived.Test.YtheblejlmlfddaaW4m
import Derived.Test.YtheblejlmlfddaaW3e
namespace Go.Proofs.Ytheblejlmlfddaa
open Go.RowKit
set_option linter.unusedVariables false
set_option maxRecDepth 100000

noncomputable def sameS (s t : S4) : Bool := (s.on == t.on) && (s.bad == t.bad) && sameW s.a t.a s.ws t.ws
def FitQ (q : Q4) : Prop := FitI q.kind ∧ q.key.size ≤ maxLen ∧ q.hi.size ≤ maxLen ∧ FitI q.num
theorem str_emp (s : ByteArray) : s.toList.isEmpty = decide (s.size = 0) := by
 rw [ByteArray.toList_eq]
 apply Bool.eq_iff_iff.2
 simp only [List.isEmpty_iff, decide_eq_true_eq]
 constructor
 ·
  intro h; show s.data.size = 0; rw [← Array.length_toList, h]; rfl
 ·
  intro h; exact List.eq_nil_of_length_eq_zero h
theorem key_full {s : ByteArray} (h : keyB s = true) : decide (s.size = 0) = false := by
 unfold keyB at h
 simp only [Bool.and_eq_true, decide_eq_true_eq] at h
 exact decide_eq_false (by omega)

set_option maxHeartbeats 2000000 in
theorem specSeatSame (on bad : Bool) (a : Int) (B : Option Addr) (d : Nat) (ws : List X) (on' bad' : Bool) (a' : Int) (B' : Option Addr) (d' : Nat) (ws' : List X) (w : World) (hl1 : ws.length ≤ 2097152) (hl2 : ws'.length ≤ 2097152) (hrx : RdG w w.heap.size B ws) (hry : RdG w w.heap.size B' ws') :
  Calls Try.prog 54 #[.agg #[.bool on, .bool bad, .int .i64 a, .slice B ws.length d], .agg #[.bool on', .bool bad', .int .i64 a', .slice B' ws'.length d']] w fun e w' => e = .returned (.bool (sameS ⟨on, bad, a, ws⟩ ⟨on', bad', a', ws'⟩)) ∧ Below w.heap.size w w' := by
 go_enter Try.func54, Try.ntmps54
 have hb_t1 := below_alloc (Below.refl _ w) (.cells #[.bool on, .bool bad, .int .i64 a, .slice B ws.length d] 54)
 have Ba_t1 := blkA w #[.bool on, .bool bad, .int .i64 a, .slice B ws.length d] 54
 have hz_t1 : (w.alloc (.cells #[.bool on, .bool bad, .int .i64 a, .slice B ws.length d] 54)).heap.size = w.heap.size + 1 := World.size_alloc _ _
 have hw_t2 := hb_t1
 have hs_t2 := hb_t1.size
 have hb_t4 := below_alloc (Below.refl _ (w.alloc (.cells #[.bool on, .bool bad, .int .i64 a, .slice B ws.length d] 54))) (.cells #[.bool on', .bool bad', .int .i64 a', .slice B' ws'.length d'] 54)
 have Bb_t4 := blkA (w.alloc (.cells #[.bool on, .bool bad, .int .i64 a, .slice B ws.length d] 54)) #[.bool on', .bool bad', .int .i64 a', .slice B' ws'.length d'] 54
 simp only [World.size_alloc] at Bb_t4
 have hz_t4 : ((w.alloc (.cells #[.bool on, .bool bad, .int .i64 a, .slice B ws.length d] 54)).alloc (.cells #[.bool on', .bool bad', .int .i64 a', .slice B' ws'.length d'] 54)).heap.size = (w.alloc (.cells #[.bool on, .bool bad, .int .i64 a, .slice B ws.length d] 54)).heap.size + 1 := World.size_alloc _ _
 have Ba_t5 := Ba_t1.next hb_t4
 clear Ba_t1
 have hw_t5 := below_next hw_t2 hb_t4
 have hs_t5 := hb_t4.size
 have x_0 := hrx.next hw_t5
 have y_0 := hry.next hw_t5
 obtain ⟨SB, HSB⟩ : ∃ SB, Hid (sameW a a' ws ws' = SB) := ⟨_, Lib.hid rfl⟩
 have HW : Hid (sameS ⟨on, bad, a, ws⟩ ⟨on', bad', a', ws'⟩ = ((on == on') && (bad == bad') && SB)) := Lib.hid (by unfold sameS; rw [← HSB.out])
 obtain ⟨e1, H1⟩ : ∃ e1, (on == on') = e1 := ⟨_, rfl⟩
 obtain ⟨e2, H2⟩ : ∃ e2, (bad == bad') = e2 := ⟨_, rfl⟩
 rw [H1, H2] at HW
 cases h1 : e1
 ·
  subst h1
  have qBa0 : ((w.alloc (.cells #[.bool on, .bool bad, .int .i64 a, .slice B ws.length d] 54)).alloc (.cells #[.bool on', .bool bad', .int .i64 a', .slice B' ws'.length d'] 54)).cell? ⟨w.heap.size, 0, none⟩ = some (.bool on) := by rw [Ba_t5.cell]; rfl
  have qBa1 : ((w.alloc (.cells #[.bool on, .bool bad, .int .i64 a, .slice B ws.length d] 54)).alloc (.cells #[.bool on', .bool bad', .int .i64 a', .slice B' ws'.length d'] 54)).cell? ⟨w.heap.size, 1, none⟩ = some (.bool bad) := by rw [Ba_t5.cell]; rfl
  have qBa2 : ((w.alloc (.cells #[.bool on, .bool bad, .int .i64 a, .slice B ws.length d] 54)).alloc (.cells #[.bool on', .bool bad', .int .i64 a', .slice B' ws'.length d'] 54)).cell? ⟨w.heap.size, 2, none⟩ = some (.int .i64 a) := by rw [Ba_t5.cell]; rfl
  have qBa3 : ((w.alloc (.cells #[.bool on, .bool bad, .int .i64 a, .slice B ws.length d] 54)).alloc (.cells #[.bool on', .bool bad', .int .i64 a', .slice B' ws'.length d'] 54)).cell? ⟨w.heap.size, 3, none⟩ = some (.slice B ws.length d) := by rw [Ba_t5.cell]; rfl
  have qBb0 : ((w.alloc (.cells #[.bool on, .bool bad, .int .i64 a, .slice B ws.length d] 54)).alloc (.cells #[.bool on', .bool bad', .int .i64 a', .slice B' ws'.length d'] 54)).cell? ⟨w.heap.size + 1, 0, none⟩ = some (.bool on') := by rw [Bb_t4.cell]; rfl
  have qBb1 : ((w.alloc (.cells #[.bool on, .bool bad, .int .i64 a, .slice B ws.length d] 54)).alloc (.cells #[.bool on', .bool bad', .int .i64 a', .slice B' ws'.length d'] 54)).cell? ⟨w.heap.size + 1, 1, none⟩ = some (.bool bad') := by rw [Bb_t4.cell]; rfl
  have qBb2 : ((w.alloc (.cells #[.bool on, .bool bad, .int .i64 a, .slice B ws.length d] 54)).alloc (.cells #[.bool on', .bool bad', .int .i64 a', .slice B' ws'.length d'] 54)).cell? ⟨w.heap.size + 1, 2, none⟩ = some (.int .i64 a') := by rw [Bb_t4.cell]; rfl
  have qBb3 : ((w.alloc (.cells #[.bool on, .bool bad, .int .i64 a, .slice B ws.length d] 54)).alloc (.cells #[.bool on', .bool bad', .int .i64 a', .slice B' ws'.length d'] 54)).cell? ⟨w.heap.size + 1, 3, none⟩ = some (.slice B' ws'.length d') := by rw [Bb_t4.cell]; rfl
  go_wp2
  go_ret
  exact ⟨ret_bool HW.out.symm, hw_t5⟩
 ·
  subst h1
  cases h2 : e2
  ·
   subst h2
   have qBa0 : ((w.alloc (.cells #[.bool on, .bool bad, .int .i64 a, .slice B ws.length d] 54)).alloc (.cells #[.bool on', .bool bad', .int .i64 a', .slice B' ws'.length d'] 54)).cell? ⟨w.heap.size, 0, none⟩ = some (.bool on) := by rw [Ba_t5.cell]; rfl
   have qBa1 : ((w.alloc (.cells #[.bool on, .bool bad, .int .i64 a, .slice B ws.length d] 54)).alloc (.cells #[.bool on', .bool bad', .int .i64 a', .slice B' ws'.length d'] 54)).cell? ⟨w.heap.size, 1, none⟩ = some (.bool bad) := by rw [Ba_t5.cell]; rfl
   have qBa2 : ((w.alloc (.cells #[.bool on, .bool bad, .int .i64 a, .slice B ws.length d] 54)).alloc (.cells #[.bool on', .bool bad', .int .i64 a', .slice B' ws'.length d'] 54)).cell? ⟨w.heap.size, 2, none⟩ = some (.int .i64 a) := by rw [Ba_t5.cell]; rfl
   have qBa3 : ((w.alloc (.cells #[.bool on, .bool bad, .int .i64 a, .slice B ws.length d] 54)).alloc (.cells #[.bool on', .bool bad', .int .i64 a', .slice B' ws'.length d'] 54)).cell? ⟨w.heap.size, 3, none⟩ = some (.slice B ws.length d) := by rw [Ba_t5.cell]; rfl
   have qBb0 : ((w.alloc (.cells #[.bool on, .bool bad, .int .i64 a, .slice B ws.length d] 54)).alloc (.cells #[.bool on', .bool bad', .int .i64 a', .slice B' ws'.length d'] 54)).cell? ⟨w.heap.size + 1, 0, none⟩ = some (.bool on') := by rw [Bb_t4.cell]; rfl
   have qBb1 : ((w.alloc (.cells #[.bool on, .bool bad, .int .i64 a, .slice B ws.length d] 54)).alloc (.cells #[.bool on', .bool bad', .int .i64 a', .slice B' ws'.length d'] 54)).cell? ⟨w.heap.size + 1, 1, none⟩ = some (.bool bad') := by rw [Bb_t4.cell]; rfl
   have qBb2 : ((w.alloc (.cells #[.bool on, .bool bad, .int .i64 a, .slice B ws.length d] 54)).alloc (.cells #[.bool on', .bool bad', .int .i64 a', .slice B' ws'.length d'] 54)).cell? ⟨w.heap.size + 1, 2, none⟩ = some (.int .i64 a') := by rw [Bb_t4.cell]; rfl
   have qBb3 : ((w.alloc (.cells #[.bool on, .bool bad, .int .i64 a, .slice B ws.length d] 54)).alloc (.cells #[.bool on', .bool bad', .int .i64 a', .slice B' ws'.length d'] 54)).cell? ⟨w.heap.size + 1, 3, none⟩ = some (.slice B' ws'.length d') := by rw [Bb_t4.cell]; rfl
   go_wp2
   go_ret
   exact ⟨ret_bool HW.out.symm, hw_t5⟩
  ·
   subst h2
   have qBa0 : ((w.alloc (.cells #[.bool on, .bool bad, .int .i64 a, .slice B ws.length d] 54)).alloc (.cells #[.bool on', .bool bad', .int .i64 a', .slice B' ws'.length d'] 54)).cell? ⟨w.heap.size, 0, none⟩ = some (.bool on) := by rw [Ba_t5.cell]; rfl
   have qBa1 : ((w.alloc (.cells #[.bool on, .bool bad, .int .i64 a, .slice B ws.length d] 54)).alloc (.cells #[.bool on', .bool bad', .int .i64 a', .slice B' ws'.length d'] 54)).cell? ⟨w.heap.size, 1, none⟩ = some (.bool bad) := by rw [Ba_t5.cell]; rfl
   have qBa2 : ((w.alloc (.cells #[.bool on, .bool bad, .int .i64 a, .slice B ws.length d] 54)).alloc (.cells #[.bool on', .bool bad', .int .i64 a', .slice B' ws'.length d'] 54)).cell? ⟨w.heap.size, 2, none⟩ = some (.int .i64 a) := by rw [Ba_t5.cell]; rfl
   have qBa3 : ((w.alloc (.cells #[.bool on, .bool bad, .int .i64 a, .slice B ws.length d] 54)).alloc (.cells #[.bool on', .bool bad', .int .i64 a', .slice B' ws'.length d'] 54)).cell? ⟨w.heap.size, 3, none⟩ = some (.slice B ws.length d) := by rw [Ba_t5.cell]; rfl
   have qBb0 : ((w.alloc (.cells #[.bool on, .bool bad, .int .i64 a, .slice B ws.length d] 54)).alloc (.cells #[.bool on', .bool bad', .int .i64 a', .slice B' ws'.length d'] 54)).cell? ⟨w.heap.size + 1, 0, none⟩ = some (.bool on') := by rw [Bb_t4.cell]; rfl
   have qBb1 : ((w.alloc (.cells #[.bool on, .bool bad, .int .i64 a, .slice B ws.length d] 54)).alloc (.cells #[.bool on', .bool bad', .int .i64 a', .slice B' ws'.length d'] 54)).cell? ⟨w.heap.size + 1, 1, none⟩ = some (.bool bad') := by rw [Bb_t4.cell]; rfl
   have qBb2 : ((w.alloc (.cells #[.bool on, .bool bad, .int .i64 a, .slice B ws.length d] 54)).alloc (.cells #[.bool on', .bool bad', .int .i64 a', .slice B' ws'.length d'] 54)).cell? ⟨w.heap.size + 1, 2, none⟩ = some (.int .i64 a') := by rw [Bb_t4.cell]; rfl
   have qBb3 : ((w.alloc (.cells #[.bool on, .bool bad, .int .i64 a, .slice B ws.length d] 54)).alloc (.cells #[.bool on', .bool bad', .int .i64 a', .slice B' ws'.length d'] 54)).cell? ⟨w.heap.size + 1, 3, none⟩ = some (.slice B' ws'.length d') := by rw [Bb_t4.cell]; rfl
   go_wp2_with fail
   clear qBa0 qBa1 qBa2 qBa3 qBb0 qBb1 qBb2 qBb3
   refine (specWorkSame a a' B B' d d' ws ws' _ hl1 hl2 x_0 y_0).mono ?_
   rintro e w1 ⟨rfl, hb1⟩
   rw [HSB.out]
   have x_t7 := x_0.next hb1
   clear x_0
   have y_t7 := y_0.next hb1
   clear y_0
   have Ba_t7 := Ba_t5.next hb1
   clear Ba_t5
   have Bb_t7 := Bb_t4.next hb1
   clear Bb_t4
   have hw_t7 := below_next hw_t5 hb1
   have hs_t7 := hb1.size
   have qBa0 : w1.cell? ⟨w.heap.size, 0, none⟩ = some (.bool on) := by rw [Ba_t7.cell]; rfl
   have qBa1 : w1.cell? ⟨w.heap.size, 1, none⟩ = some (.bool bad) := by rw [Ba_t7.cell]; rfl
   have qBa2 : w1.cell? ⟨w.heap.size, 2, none⟩ = some (.int .i64 a) := by rw [Ba_t7.cell]; rfl
   have qBa3 : w1.cell? ⟨w.heap.size, 3, none⟩ = some (.slice B ws.length d) := by rw [Ba_t7.cell]; rfl
   have qBb0 : w1.cell? ⟨w.heap.size + 1, 0, none⟩ = some (.bool on') := by rw [Bb_t7.cell]; rfl
   have qBb1 : w1.cell? ⟨w.heap.size + 1, 1, none⟩ = some (.bool bad') := by rw [Bb_t7.cell]; rfl
   have qBb2 : w1.cell? ⟨w.heap.size + 1, 2, none⟩ = some (.int .i64 a') := by rw [Bb_t7.cell]; rfl
   have qBb3 : w1.cell? ⟨w.heap.size + 1, 3, none⟩ = some (.slice B' ws'.length d') := by rw [Bb_t7.cell]; rfl
   go_wp2
   go_ret
   exact ⟨ret_bool HW.out.symm, hw_t7⟩

end Go.Proofs.Ytheblejlmlfddaa
