/- All letters are taken: the model. -/
import Derived.Test.YtilcncnhkidndaaDoorL5i
import Derived.Test.YtilcncnhkidndaaDoorL5h
import Derived.Deep.RegionHeld3
namespace Go.Proofs.YtilcncnhkidndaaDoor
open Go.RowKit
set_option linter.unusedVariables false
set_option maxRecDepth 100000

set_option maxHeartbeats 8000000 in
theorem specAll (s : ByteArray) (w : World) (hs : s.size ≤ maxLen) :
  Calls Tryd.prog 22 #[.string s] w (RetAll w (bs s)) := by
 by_cases hbig : 400 < s.size
 ·
  have hbi : (400 : Int) < (s.size : Int) := by omega
  obtain ⟨W0, e0, -, B0, hW0⟩ := al1 w rfl #[] 24
  have hO : OwnG W0 w.heap.size (.slice (some ⟨w.heap.size, 0, none⟩) 0 0) ([] : List LE) := OwnG.mk (cur := #[]) (Nat.le_refl _) B0 (Nat.le_refl _) (by decide) rfl rfl
  go_enter Tryd.func22, Tryd.ntmps22
  go_wp2
  refine bodyPost_ret (v := .tuple #[.slice (some ⟨w.heap.size, 0, none⟩) 0 0, .string ⟨#[]⟩, .int .i64 ((2 : Nat) : Int)]) (by simp [results, Tryd.results22, go_sem]) rfl ⟨_, [], _, 2, rfl, hO, ⟨fun _ => ⟨rfl, rfl, rfl⟩, fun h => by have : (bs s).length = s.size := rfl; omega⟩, hW0⟩
 have hbi : ¬ ((400 : Int) < (s.size : Int)) := by omega
 have hx4 : (bs s).length ≤ 400 := by have : (bs s).length = s.size := rfl; omega
 obtain ⟨x, HX⟩ : ∃ x, Hid (bs s = x) := ⟨_, Lib.hid rfl⟩
 have hst : AllS (bs s) [] s := ⟨by simp [catL], fun l hl => by simp at hl⟩
 rw [HX.out] at hst hx4
 rw [HX.out]
 have HST := Lib.hid hst
 have HX4 := Lib.hid hx4
 clear hst hx4 HX
 obtain ⟨W0, e0, -, B0, hW0⟩ := al1 w rfl #[] 24
 have hO : OwnG W0 w.heap.size (.slice (some ⟨w.heap.size, 0, none⟩) 0 0) ([] : List LE) := OwnG.mk (cur := #[]) (Nat.le_refl _) B0 (Nat.le_refl _) (by decide) rfl rfl
 have HO := Lib.hid hO
 have HW0 := Lib.hid hW0
 clear hO B0 hW0
 have hs4 : s.size ≤ 400 := by omega
 go_enter Tryd.func22, Tryd.ntmps22
 go_wp2
 go_loopw [5, 0] (fun v i W => ∃ (ls : List LE) (t : ByteArray), i = .string t ∧ OwnG W w.heap.size v ls ∧ AllS x ls t ∧ Below w.heap.size w W ∧ t.size ≤ 400) (fun _ i _ => szS i)
 case atStart => exact ⟨[], s, rfl, HO.out, HST.out, HW0.out, hs4⟩
 case round =>
  obtain ⟨ls, t, rfl, hown, hall, hb, ht4⟩ := hrel
  obtain ⟨vb, vn, vc, rfl⟩ := hown.slice
  have hsz := hb.size
  have HA := Lib.hid hall
  have HL := Lib.hid (show ls.length ≤ 134 from by have := hall.sizes; have := HX4.out; omega)
  clear hall
  by_cases hz : t.size = 0
  ·
   have HZ := Lib.hid hz
   have hz1 : ¬ (0 : Int) < (t.size : Int) := by omega
   clear hz
   go_wp2
   refine bodyPost_ret (v := .tuple #[.slice vb vn vc, .string ⟨#[]⟩, .int .i64 ((0 : Nat) : Int)]) (by simp [results, Tryd.results22, go_sem]) rfl ⟨_, ls, _, 0, rfl, hown, HA.out.done HZ.out HX4.out, hb⟩
  ·
   replace hz : 0 < t.size := by omega
   have HZ := Lib.hid hz
   have hz1 : (0 : Int) < (t.size : Int) := by omega
   clear hz
   obtain ⟨ts, tb, HT⟩ : ∃ a b, Hid (tookL (bs t) = ⟨a, b⟩) := ⟨_, _, Lib.hid rfl⟩
   obtain ⟨cn, HN⟩ : ∃ n, Hid (cntL (bs t) = n) := ⟨_, Lib.hid rfl⟩
   obtain ⟨cd, HC⟩ : ∃ n, Hid (codeL (bs t) = n) := ⟨_, Lib.hid rfl⟩
   have htm : t.size ≤ maxLen := by unfold maxLen; omega
   have HS := Lib.hid (specTake t wr htm)
   go_wp2_with fail
   refine HS.out.mono ?_
   unfold RetTake
   rw [HT.out, HN.out, HC.out]
   rintro e w1 ⟨rfl, hw1⟩
   have hO1 := hown.next hw1
   obtain ⟨V1, eV1, -, B1, hV1⟩ := al1 w1 rfl #[.string ts, .string tb] 24
   have hO2 := Lib.hid (hO1.next hV1)
   have hb2 := Lib.hid (below_next (below_next hb hw1) hV1)
   have s1 := hw1.size
   have s2 := hV1.size
   have q0 : V1.cell? ⟨w1.heap.size, 0, none⟩ = some (.string ts) := B1.cell 0
   have q1 : V1.cell? ⟨w1.heap.size, 1, none⟩ = some (.string tb) := B1.cell 1
   clear hO1 hown hb hw1 hV1 B1
   by_cases hc : cd = 0
   ·
    subst hc
    have HM := Lib.hid (HA.out.more HC.out)
    rw [HT.out, HN.out] at HM
    have HCN := Lib.hid (show 3 ≤ cn ∧ cn ≤ t.size from by have h1 : cntL (bs t) = needL (bs t) := if_pos HC.out; have h2 := need_ge (bs t); have h3 := (len_le HC.out).2.2; rw [bs_length] at h3; rw [← HN.out, h1]; omega)
    have hcn1 : (cn : Int) ≤ (t.size : Int) := by have := HCN.out; omega
    have hcn2 : cn ≤ t.size := HCN.out.2
    obtain ⟨V2, eV2, -, B2, hV2⟩ := al1 V1 rfl #[.string ts, .string tb] 24
    have hR : RdG V2 V2.heap.size (some ⟨V1.heap.size, 0, none⟩) [(⟨ts, tb⟩ : LE)] := eV2 ▸ rdOneLE V1 ⟨ts, tb⟩ _
    have HR := Lib.hid hR
    have hO3 := Lib.hid (hO2.out.next hV2)
    have hb3 := Lib.hid (below_next hb2.out hV2)
    have s3 := hV2.size
    clear hR B2 hV2
    go_wp2_with (at_builtin; refine wpList_appG (α := LE) V2 rfl _ _ 32 32 24 rfl Tryd.underlying32 Tryd.underlying32 w.heap.size _ ls rfl hO3.out _ _ _ _ [⟨ts, tb⟩] rfl rfl HR.out (by have := HL.out; simp; omega) (by omega) ?_; intro v2 w2 o2 g2 _; have b2 := Lib.hid (hO3.out.belB g2 (by omega)); have OO2 := Lib.hid o2; clear o2 g2)
    go_roundw
    case rel => exact ⟨ls ++ [⟨ts, tb⟩], t.extract cn t.size, by rfl, OO2.out, HM.out, hb3.out.trans b2.out, by simp [ByteArray.size_extract]; omega⟩
    case measure => have := HCN.out; have := HZ.out; simp [szS, ByteArray.size_extract]; omega
   ·
    have HCD := Lib.hid hc
    go_wp2
    refine bodyPost_ret (v := .tuple #[.slice vb vn vc, .string t, .int .i64 (cd : Int)]) (by simp [results, Tryd.results22, go_sem]) rfl ⟨_, ls, _, cd, rfl, hO2.out, HA.out.stop HZ.out HC.out HCD.out HX4.out, hb2.out⟩
end Go.Proofs.YtilcncnhkidndaaDoor
