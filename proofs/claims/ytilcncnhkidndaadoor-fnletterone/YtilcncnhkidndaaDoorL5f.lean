/- The first letter is taken: the program, and the model. -/
import Derived.Test.YtilcncnhkidndaaDoorL5e
import Derived.Deep.RegionHeld3
namespace Go.Proofs.YtilcncnhkidndaaDoor
open Go.RowKit
set_option linter.unusedVariables false
set_option maxRecDepth 100000

/-- what LetterTake answers -/
def RetTake (w : World) (x : Bs) (e : Ending) (w' : World) : Prop :=
 e = .returned (.tuple #[.agg #[.string (tookL x).s, .string (tookL x).b], .int .i64 (cntL x), .int .i64 (codeL x)]) ∧ Below w.heap.size w w'
theorem took_none {x : Bs} (h : codeL x ≠ 0) : tookL x = ⟨⟨#[]⟩, ⟨#[]⟩⟩ := by unfold tookL; rw [if_neg h]; rfl
theorem cnt_none {x : Bs} (h : codeL x ≠ 0) : cntL x = 0 := if_neg h
theorem RetTake.no {w w' : World} {x : Bs} {c : Nat} (h : codeL x = c) (h0 : c ≠ 0) (hb : Below w.heap.size w w') : RetTake w x (.returned (.tuple #[.agg #[.string ⟨#[]⟩, .string ⟨#[]⟩], .int .i64 0, .int .i64 c])) w' := by
 refine ⟨?_, hb⟩
 rw [took_none (by omega), cnt_none (by omega), h]; rfl
theorem RetTake.fine {w w' : World} {x : Bs} {ts tb : ByteArray} {cn : Nat} (h1 : (tookL x).s = ts) (h2 : (tookL x).b = tb) (h3 : cntL x = cn) (h : codeL x = 0) (hb : Below w.heap.size w w') : RetTake w x (.returned (.tuple #[.agg #[.string ts, .string tb], .int .i64 cn, .int .i64 0])) w' := by
 refine ⟨?_, hb⟩
 rw [h1, h2, h3, h]; rfl
set_option maxHeartbeats 8000000 in
theorem implTake (s : ByteArray) (a0 a1 : Addr) (w : World) (hs : s.size ≤ maxLen) (GE : GlE w a0 a1) :
  Calls Tryd.prog 18 #[.string s] w (RetTake w (bs s)) := by
 obtain ⟨W1, e1, -, B1, h1⟩ := al1 w rfl #[.string ⟨#[]⟩, .string ⟨#[]⟩] 24
 have ltr := B1.lt
 have n0a : ¬ (0 = w.heap.size) := by have := GE.low; change 2 ≤ _ at this; omega
 have n1a : ¬ (1 = w.heap.size) := by have := GE.low; change 2 ≤ _ at this; omega
 have G1 := GE.next h1
 obtain ⟨x, HX⟩ : ∃ x, Hid (bs s = x) := ⟨_, Lib.hid rfl⟩
 have hd := decode_c s a0 a1 W1 hs G1
 rw [HX.out] at hd ⊢
 have HD := Lib.hid hd
 clear GE hd
 obtain ⟨ts, tb, HT⟩ : ∃ a b, Hid ((tookL x).s = a ∧ (tookL x).b = b) := ⟨_, _, Lib.hid ⟨rfl, rfl⟩⟩
 obtain ⟨cn, HN⟩ : ∃ n, Hid (cntL x = n) := ⟨_, Lib.hid rfl⟩
 go_enter Tryd.func18, Tryd.ntmps18
 go_wp2_with fail
 refine HD.out.mono ?_
 unfold RetDec
 rw [HT.out.1, HT.out.2, HN.out]
 rintro e w2 ⟨rfl, h2⟩
 have hw2 := below_next h1 h2
 have G2 := G1.next h2
 have B2 := B1.next h2
 have lt2 := B2.lt
 obtain ⟨U, eU, -, BU, hbU⟩ := al1 w2 rfl #[.string ts, .string tb] 24
 have hwU := below_next hw2 hbU
 have GU := G2.next hbU
 have RU := B2.next hbU
 have u0 : U.cell? ⟨w2.heap.size, 0, none⟩ = some (.string ts) := BU.cell 0
 have u1 : U.cell? ⟨w2.heap.size, 1, none⟩ = some (.string tb) := BU.cell 1
 have y0 : U.cell? ⟨w.heap.size, 0, none⟩ = some (.string ⟨#[]⟩) := RU.cell 0
 have y1 : U.cell? ⟨w.heap.size, 1, none⟩ = some (.string ⟨#[]⟩) := RU.cell 1
 have z0 := RU.free 0
 have z1 := RU.free 1
 have g0 := GU.c0
 rcases code_cases x with ⟨hc, -, -⟩ | ⟨hc, -, -⟩ | ⟨hc, -⟩
 ·
  rw [hc]
  obtain ⟨V, eV, RV, hbV⟩ : ∃ V, (U.setCell ⟨w.heap.size, 0, none⟩ (.string ts)).setCell ⟨w.heap.size, 1, none⟩ (.string tb) = V ∧ Blk V w.heap.size 24 #[.string ts, .string tb] ∧ Below w.heap.size w V := ⟨_, rfl, RU.s2 _ _, (hwU.setCell (by show w.heap.size ≤ w.heap.size; omega) _).setCell (by show w.heap.size ≤ w.heap.size; omega) _⟩
  have d0 : V.cell? ⟨w.heap.size, 0, none⟩ = some (.string ts) := RV.cell 0
  have d1 : V.cell? ⟨w.heap.size, 1, none⟩ = some (.string tb) := RV.cell 1
  have HF2 := Lib.hid (RetTake.fine HT.out.1 HT.out.2 HN.out hc hbV)
  simp only [if_true]
  clear hc
  go_wp2
  exact bodyPost_ret (v := .tuple #[.agg #[.string ts, .string tb], .int .i64 cn, .int .i64 0]) (by simp [results, Tryd.results18, go_sem, d0, d1]) rfl HF2.out
 ·
  have HC := Lib.hid hc
  rw [if_neg (by omega), if_neg (by omega)]
  clear hc
  obtain ⟨ca, ta, ha⟩ := GU.b0
  obtain ⟨cb, tb', hb'⟩ := GU.b1
  have hio := is_other a1 a0 cb ca tb' ta U (fun h => GU.ne h.symm) hb' ha
  have HIO := Lib.hid hio
  clear hio ha hb'
  go_wp2_with fail
  refine HIO.out.mono ?_
  rintro e w3 ⟨rfl, hw3⟩
  subst hw3
  go_wp2
  refine bodyPost_ret (v := .tuple #[.agg #[.string ⟨#[]⟩, .string ⟨#[]⟩], .int .i64 0, .int .i64 (1 : Nat)]) (by simp [results, Tryd.results18, go_sem, y0, y1]) rfl (RetTake.no HC.out (by omega) ?_)
  exact (by (repeat (first | exact hwU | (refine Below.setCell ?_ (by simp <;> omega) _) | (refine Below.drew ?_))))
 ·
  have HC := Lib.hid hc
  rw [if_neg (by omega), if_pos hc]
  clear hc
  have hio := is_same a0 U
  have HIO := Lib.hid hio
  clear hio
  go_wp2_with fail
  refine HIO.out.mono ?_
  rintro e w3 ⟨rfl, hw3⟩
  subst hw3
  go_wp2
  refine bodyPost_ret (v := .tuple #[.agg #[.string ⟨#[]⟩, .string ⟨#[]⟩], .int .i64 0, .int .i64 (2 : Nat)]) (by simp [results, Tryd.results18, go_sem, y0, y1]) rfl (RetTake.no HC.out (by omega) ?_)
  exact (by (repeat (first | exact hwU | (refine Below.setCell ?_ (by simp <;> omega) _) | (refine Below.drew ?_))))
end Go.Proofs.YtilcncnhkidndaaDoor
