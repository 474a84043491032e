/- HallNew, of the model and of the program. -/
import Derived.Test.YtheblejlmlfddaaHnR
namespace Go.Proofs.Ytheblejlmlfddaa
open Go.RowKit
set_option linter.unusedVariables false
set_option maxRecDepth 100000

def RetNi (w : World) (e : Ending) (w' : World) : Prop := ∃ h, e = .returned (.agg #[.int .i64 0, .slice none 0 0, .slice (some ⟨h, 0, none⟩) 3 3]) ∧ OwnG w' w.heap.size (.slice (some ⟨h, 0, none⟩) 3 3) [g0, g0, g0] ∧ Below w.heap.size w w'
def RetNs (w : World) (e : Ending) (w' : World) : Prop := ∃ A n c B m d, e = .returned (.agg #[.int .i64 0, .slice A n c, .slice B m d]) ∧ OwnG w' w.heap.size (.slice A n c) ([] : List V) ∧ OwnG w' w.heap.size (.slice B m d) [g0, g0, g0] ∧ Below w.heap.size w w'

set_option maxHeartbeats 2000000 in
theorem implHallNew (w : World) : Calls Try.prog 7 #[] w (RetNi w) := by
 obtain ⟨W1, e1, hs1, R1, hb1⟩ := al1 w rfl #[.int .i64 0, .slice none 0 0, .slice none 0 0] 27
 obtain ⟨W2, e2, hs2, B2, hb2⟩ := al1 W1 hs1 #[.bool false, .bool false, .int .i64 0, .slice none 0 0, .slice none 0 0, .bool false, .bool true, .string ⟨#[]⟩] 57
 go_enter Try.func7, Try.ntmps7
 go_wp2_with fail
 refine (repeatT (show Blk _ _ _ (csTT g0).toArray from B2)).mono ?_
 rintro e w3 ⟨h, rfl, ho, hh, hb⟩
 have R3 := (R1.next hb2).next hb
 have f3 := R3.fz
 have q3 := R3.c3
 obtain ⟨V, eV, hV, R4, c4⟩ := s3 R3 (.int .i64 0) (.slice none 0 0) (.slice (some ⟨h, 0, none⟩) 3 3)
 have r4 := R4.c3
 have ho4 := Lib.hid ((ho.chg c4 (fun k hk => by have : h = k := Option.some.inj hk; omega)).low (show w.heap.size ≤ _ by omega))
 have hbf := Lib.hid (belowChgd (below_next (below_next hb1 hb2) hb) c4 (Nat.le_refl _))
 clear ho hb hb1 hb2 c4 R1 B2
 go_wp2
 exact bodyPost_ret (v := .agg #[.int .i64 0, .slice none 0 0, .slice (some ⟨h, 0, none⟩) 3 3]) (by simp [results, Try.results7, go_sem, r4]) rfl ⟨h, rfl, ho4.out, hbf.out⟩

set_option maxHeartbeats 2000000 in
theorem specL7New (w : World) : Calls Try.prog 22 #[] w (RetNs w) := by
 obtain ⟨W1, e1, hs1, R1, hb1⟩ := al1 w rfl #[.int .i64 0, .slice none 0 0, .slice none 0 0] 27
 obtain ⟨W2, e2, hs2, B2, hb2⟩ := al1 W1 hs1 #[] 94
 obtain ⟨W3, e3, hs3, P3, hb3⟩ := al1 W2 hs2 #[.int .i64 0, .slice none 0 0, .slice none 0 0] 27
 have oE : OwnG W2 w.heap.size (.slice (some ⟨w.heap.size + 1, 0, none⟩) 0 0) ([] : List V) := by
  have := OwnG.fresh (α := V) W1 w.heap.size (by omega)
  rw [hs1] at this
  exact e2 ▸ this
 have oE3 := oE.next hb3
 have R3 := (R1.next hb2).next hb3
 have q3 := P3.c3
 have f3 := P3.fz
 obtain ⟨W4, e4, hs4, P4, c4⟩ := s3 P3 (.int .i64 0) (.slice (some ⟨w.heap.size + 1, 0, none⟩) 0 0) (.slice none 0 0)
 have oE4 := oE3.chg c4 (fun k hk => by have : w.heap.size + 1 = k := Option.some.inj hk; omega)
 have R4 := R3.chg1 c4
 have hb4 := belowChgd (below_next (below_next hb1 hb2) hb3) c4 (by omega)
 clear R1 R3 P3 oE oE3 hb1 hb2 hb3 c4
 go_enter Try.func22, Try.ntmps22
 go_wp2
 clear q3 f3
 go_loopw [2] (fun i W => ∃ k : Nat, k ≤ 3 ∧ i = .int .i64 k ∧ ∃ v, Blk W (w.heap.size + 2) 27 #[.int .i64 0, .slice (some ⟨w.heap.size + 1, 0, none⟩) 0 0, v] ∧ OwnG W (w.heap.size + 3) v (List.replicate k g0) ∧ OwnG W w.heap.size (.slice (some ⟨w.heap.size + 1, 0, none⟩) 0 0) ([] : List V) ∧ Blk W w.heap.size 27 #[.int .i64 0, .slice none 0 0, .slice none 0 0] ∧ Below w.heap.size w W ∧ w.heap.size + 3 ≤ W.heap.size) (fun i _ => 3 - (intOf i).toNat)
 case atStart => exact ⟨0, Nat.zero_le _, rfl, _, P4, OwnG.nil _ _, oE4, R4, hb4, by omega⟩
 case round =>
  clear P4 oE4 R4 hb4 e1 e2 e3 e4
  obtain ⟨k, hk, rfl, v, P, oT, oE, R, hb, hsz⟩ := hrel
  obtain ⟨b, n, c, rfl⟩ := oT.slice
  have q := P.c3
  by_cases hkl : k < 3
  ·
   have hlen : (List.replicate k g0).length + [g0].length ≤ 4194304 := by simp only [List.length_replicate, List.length_cons, List.length_nil]; omega
   obtain ⟨U, eU, hU, BU, bU⟩ := al1 wr rfl #[.bool false, .bool false, .int .i64 0, .slice none 0 0, .slice none 0 0, .bool false, .bool true, .string ⟨#[]⟩] 57
   have hbase : w.heap.size + 3 ≤ U.heap.size := by omega
   have oTU := oT.next bU
   have PU := P.next bU
   have RU := R.next bU
   have oEU := oE.next bU
   have hbU := below_next hb bU
   have hRd : RdG U U.heap.size (some ⟨wr.heap.size, 0, none⟩) [g0] := by rw [← eU]; exact rdOneG wr g0 _ _ rfl
   have HK := Lib.hid (And.intro oTU (And.intro PU (And.intro RU (And.intro oEU (And.intro hbU hRd)))))
   clear oT P R oE hb oTU PU RU oEU hbU hRd BU bU
   go_wp2_with (at_builtin; refine wpList_appG (α := TT) U rfl _ _ _ _ 57 rfl Try.underlying25 Try.underlying25 (w.heap.size + 3) _ (List.replicate k g0) rfl HK.out.1 (some ⟨wr.heap.size, 0, none⟩) 1 _ 1 [g0] rfl rfl HK.out.2.2.2.2.2 hlen hbase ?_; intro v' w' hown hgr hat; obtain ⟨b', n', c', rfl⟩ := hown.slice; have P1 := HK.out.2.1.grown hgr (HK.out.1.ne_block (by omega)); have f1 := P1.fz; have q1 := P1.c3; obtain ⟨V, eV, hV, PV, cV⟩ := s3b P1 (.slice b' n' c'); have hown2 := Lib.hid (hown.chg cV (fun j hj => by have := (hown.block_lt hj).1; omega)); have oE2 := Lib.hid ((HK.out.2.2.2.1.kept hgr (fun j hj => by { have e : w.heap.size + 1 = j := Option.some.inj hj; exact HK.out.1.ne_block (by omega) })).chg cV (fun j hj => by { have e : w.heap.size + 1 = j := Option.some.inj hj; omega })); have R2 := Lib.hid ((HK.out.2.2.1.grown hgr (HK.out.1.ne_block (by omega))).chg1 cV); have hb2 := Lib.hid (belowChgd (HK.out.1.below HK.out.2.2.2.2.1 hgr (by omega)) cV (by omega)); have hs2 := hgr.size; clear hown hgr hat cV P1)
   go_roundw
   case rel => exact ⟨k + 1, by omega, by go_num, _, PV, by rw [List.replicate_succ']; exact hown2.out, oE2.out, R2.out, hb2.out, by omega⟩
   case measure => simp [intOf]; omega
  ·
   have hkk : k = 3 := by omega
   subst hkk
   have f := R.fz
   have q0 := R.c3
   obtain ⟨V, eV, hV, R2, c2⟩ := s3 R (.int .i64 0) (.slice (some ⟨w.heap.size + 1, 0, none⟩) 0 0) (.slice b n c)
   have r2 := R2.c3
   have h1 := Lib.hid (oE.chg c2 (fun j hj => by have e : w.heap.size + 1 = j := Option.some.inj hj; omega))
   have h2 := Lib.hid ((oT.chg c2 (fun j hj => by have := (oT.block_lt hj).1; omega)).low (show w.heap.size ≤ _ by omega))
   have h3 := Lib.hid (belowChgd hb c2 (Nat.le_refl _))
   clear oE oT hb c2
   go_wp2
   exact bodyPost_ret (v := .agg #[.int .i64 0, .slice (some ⟨w.heap.size + 1, 0, none⟩) 0 0, .slice b n c]) (by simp [results, Try.results22, go_sem, r2]) rfl ⟨_, _, _, _, _, _, rfl, h1.out, h2.out, h3.out⟩

theorem specHallNew (w : World) : Calls Try.prog 6 #[] w (RetNs w) := by
 obtain ⟨W1, e1, hs1, R1, hb1⟩ := al1 w rfl #[.int .i64 0, .slice none 0 0, .slice none 0 0] 27
 go_enter Try.func6, Try.ntmps6
 go_wp2_with fail
 refine (specL7New _).mono ?_
 rintro e w3 ⟨A, n, c, B, m, d, rfl, o1, o2, hb⟩
 have R3 := R1.next hb
 have f3 := R3.fz
 have q3 := R3.c3
 obtain ⟨V, eV, hV, R4, c4⟩ := s3 R3 (.int .i64 0) (.slice A n c) (.slice B m d)
 have r4 := R4.c3
 have h1 := Lib.hid ((o1.chg c4 (fun k hk => by have := (o1.block_lt hk).1; omega)).low (show w.heap.size ≤ _ by omega))
 have h2 := Lib.hid ((o2.chg c4 (fun k hk => by have := (o2.block_lt hk).1; omega)).low (show w.heap.size ≤ _ by omega))
 have hbf := Lib.hid (belowChgd (below_next hb1 hb) c4 (Nat.le_refl _))
 clear o1 o2 hb hb1 c4 R1
 go_wp2
 exact bodyPost_ret (v := .agg #[.int .i64 0, .slice A n c, .slice B m d]) (by simp [results, Try.results6, go_sem, r4]) rfl ⟨_, _, _, _, _, _, rfl, h1.out, h2.out, hbf.out⟩
end Go.Proofs.Ytheblejlmlfddaa
