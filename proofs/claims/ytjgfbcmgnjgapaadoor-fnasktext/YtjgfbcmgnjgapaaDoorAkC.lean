/- The model: the pieces of a text between its spaces. -/
import Derived.Test.YtjgfbcmgnjgapaaDoorAkM
import Derived.Test.YtjgfbcmgnjgapaaDoorF5
namespace Go.Proofs.YtjgfbcmgnjgapaaDoor
open Go.RowKit
set_option linter.unusedVariables false
set_option maxRecDepth 100000

instance elS : Elt ByteArray where
 T := 9
 wd := 1
 byt := 16
 zero := .string ByteArray.empty
 cs := fun s => [.string s]
 len := fun _ => rfl
 pos := by omega
 one := by
  intro a u hu
  simp only [List.mem_cons, List.not_mem_nil, or_false] at hu
  subst hu; rfl
 info := by kernel_rfl
 zsize := rfl
 small := by omega
theorem OwnG.belB {α : Type} [E : Elt α] {W W' : World} {base : Nat} {v : Value} {l : List α} (h : OwnG W base v l) (hg : W.grownBy W' v.ownBlock) (hB : base ≤ W.heap.size) : Below base W W' :=
 ⟨hg.os, hg.tape, hg.output, hg.size, fun k hk => hg.block k (by omega) (fun e => by have := (h.block_lt e.symm).1; omega)⟩
def mkS (p : List UInt8) : ByteArray := ⟨p.toArray⟩
theorem ext_mk (s : ByteArray) (i j : Nat) : s.extract i j = mkS ((s.data.toList.take j).drop i) := by
 unfold mkS
 apply ByteArray.ext
 apply Array.toList_inj.1
 simp [ByteArray.data_extract, Array.toList_extract, List.extract_eq_take_drop, List.drop_take]
/-- i bytes are looked at, those from fr on are a piece's beginning -/
def CutAt (L : List UInt8) (ps : List (List UInt8)) (fr i : Nat) : Prop :=
 ps.length ≤ i ∧ ((i ≤ L.length ∧ fr ≤ i ∧ (∀ x ∈ (L.take i).drop fr, x ≠ 32) ∧ splitC 32 L = ps ++ splitC 32 (L.drop fr)) ∨ (i = L.length + 1 ∧ ps = splitC 32 L))
theorem CutAt.start (L : List UInt8) : CutAt L [] 0 0 := ⟨Nat.le_refl _, .inl ⟨Nat.zero_le _, Nat.le_refl _, fun x hx => by simp at hx, by simp⟩⟩
theorem CutAt.done {L : List UInt8} {ps : List (List UInt8)} {fr i : Nat} (h : CutAt L ps fr i) (hi : ¬ i ≤ L.length) : ps = splitC 32 L := by
 rcases h.2 with h | h
 ·
  omega
 ·
  exact h.2
theorem CutAt.last {L : List UInt8} {ps : List (List UInt8)} {fr i : Nat} (h : CutAt L ps fr i) (hi : i = L.length) : CutAt L (ps ++ [(L.take i).drop fr]) (i + 1) (i + 1) := by
 rcases h with ⟨hl, ⟨h1, h2, h3, h4⟩ | h⟩
 ·
  refine ⟨by rw [List.length_append]; simp; omega, .inr ⟨by omega, ?_⟩⟩
  rw [h4]
  have e : L.take i = L := List.take_of_length_le (by omega)
  rw [e] at h3 ⊢
  rw [split_one _ h3]
 ·
  omega
theorem take_drop_succ {L : List UInt8} {fr i : Nat} (hf : fr ≤ i) (hi : i < L.length) : (L.take (i + 1)).drop fr = (L.take i).drop fr ++ [L[i]] := by
 rw [List.take_succ_eq_append_getElem hi, List.drop_append_of_le_length (by rw [List.length_take]; omega)]
theorem drop_parts {L : List UInt8} {fr i : Nat} (hf : fr ≤ i) (hi : i < L.length) : L.drop fr = (L.take i).drop fr ++ L[i] :: L.drop (i + 1) := by
 have e : L = L.take i ++ L[i] :: L.drop (i + 1) := by rw [← List.drop_eq_getElem_cons hi, List.take_append_drop]
 conv => lhs; rw [e]
 rw [List.drop_append_of_le_length (by rw [List.length_take]; omega)]
theorem CutAt.hit {L : List UInt8} {ps : List (List UInt8)} {fr i : Nat} (h : CutAt L ps fr i) (hi : i < L.length) (hc : L[i] = 32) : CutAt L (ps ++ [(L.take i).drop fr]) (i + 1) (i + 1) := by
 rcases h with ⟨hl, ⟨h1, h2, h3, h4⟩ | h⟩
 ·
  refine ⟨by rw [List.length_append]; simp; omega, .inl ⟨by omega, Nat.le_refl _, fun x hx => (by rw [List.drop_of_length_le (by rw [List.length_take]; omega)] at hx; cases hx), ?_⟩⟩
  rw [h4, drop_parts h2 hi, hc, split_two _ h3, List.append_assoc]
  rfl
 ·
  omega
theorem CutAt.on {L : List UInt8} {ps : List (List UInt8)} {fr i : Nat} (h : CutAt L ps fr i) (hi : i < L.length) (hc : L[i] ≠ 32) : CutAt L ps fr (i + 1) := by
 rcases h with ⟨hl, ⟨h1, h2, h3, h4⟩ | h⟩
 ·
  refine ⟨by omega, .inl ⟨by omega, by omega, fun x hx => ?_, h4⟩⟩
  rw [take_drop_succ h2 hi] at hx
  rcases List.mem_append.1 hx with hx | hx
  ·
   exact h3 x hx
  ·
   simp only [List.mem_cons, List.not_mem_nil, or_false] at hx
   rw [hx]; exact hc
 ·
  omega
theorem CutAt.fr_le {L : List UInt8} {ps : List (List UInt8)} {fr i : Nat} (h : CutAt L ps fr i) (hi : i ≤ L.length) : fr ≤ i := by
 rcases h.2 with h | h
 ·
  exact h.2.1
 ·
  omega
def RetS (w : World) (l : List ByteArray) (e : Ending) (w' : World) : Prop := ∃ v, e = .returned v ∧ OwnG w' w.heap.size v l ∧ Below w.heap.size w w'
set_option maxHeartbeats 8000000 in
theorem specCut (s : ByteArray) (w : World) (hs : s.size ≤ 1048576) :
  Calls Tryd.prog 35 #[.string s, .int .u8 32] w (RetS w ((splitC 32 s.data.toList).map mkS)) := by
 obtain ⟨W0, e0, -, B0, hW0⟩ := al1 w rfl #[] 9
 have hO : OwnG W0 w.heap.size (.slice (some ⟨w.heap.size, 0, none⟩) 0 0) ([] : List ByteArray) := OwnG.mk (cur := #[]) (Nat.le_refl _) B0 (Nat.le_refl _) (by decide) rfl rfl
 have HO := Lib.hid hO
 have HW0 := Lib.hid hW0
 obtain ⟨L, HL⟩ : ∃ L, Hid (s.data.toList = L) := ⟨_, Lib.hid rfl⟩
 have hLn : L.length = s.size := by rw [← HL.out]; exact Array.length_toList
 rw [HL.out]
 clear hO B0 hW0
 go_enter Tryd.func35, Tryd.ntmps35
 go_wp2
 go_loopw [5, 6, 7] (fun v f i W => ∃ (ps : List (List UInt8)) (fr k : Nat), f = .int .i64 fr ∧ i = .int .i64 k ∧ OwnG W w.heap.size v (ps.map mkS) ∧ CutAt L ps fr k ∧ k ≤ L.length + 1 ∧ Below w.heap.size w W) (fun _ _ i _ => L.length + 1 - (intOf i).toNat)
 case atStart => exact ⟨[], 0, 0, rfl, rfl, HO.out, CutAt.start L, by omega, HW0.out⟩
 case round =>
  obtain ⟨ps, fr, k, rfl, rfl, hown, hcut, hk1, hb⟩ := hrel
  obtain ⟨vb, vn, vc, rfl⟩ := hown.slice
  have HOW := Lib.hid hown
  have HCU := Lib.hid hcut
  have HBB := Lib.hid hb
  have hsz := hb.size
  have hpl := hcut.1
  clear hown hb
  by_cases hk : k ≤ L.length
  ·
   have hfr := hcut.fr_le hk
   have hi : (k : Int) ≤ (s.size : Int) := by omega
   have j1 : (fr : Int) ≤ (k : Int) := by omega
   have j2 : (k : Int) ≤ (s.size : Int) := by omega
   have app : ∀ (x : ByteArray), ∃ V, wr.alloc (.cells #[.string x] 9) = V ∧ Hid (RdG V V.heap.size (some ⟨wr.heap.size, 0, none⟩) [x]) ∧ Hid (OwnG V w.heap.size (.slice vb vn vc) (ps.map mkS)) ∧ Hid (Below w.heap.size w V) ∧ w.heap.size ≤ V.heap.size := fun x => by
    obtain ⟨V, eV, -, -, hV⟩ := al1 wr rfl #[.string x] 9
    exact ⟨V, eV, Lib.hid (eV ▸ rdOneG wr x #[.string x] 9 rfl), Lib.hid (HOW.out.next hV), Lib.hid (below_next HBB.out hV), Nat.le_trans hsz hV.size⟩
   by_cases hke : k = s.size
   ·
    have hd : ((k : Int) == (s.size : Int)) = true := beq_iff_eq.2 (by omega)
    obtain ⟨x, HX⟩ : ∃ x, Hid (s.extract fr k = x) := ⟨_, Lib.hid rfl⟩
    have hx := HX.out
    obtain ⟨V, eV, HR, HO2, HB2, hs2⟩ := app x
    have HN := Lib.hid (HCU.out.last (by omega))
    have HKE := Lib.hid hke
    clear hke
    have HXM := Lib.hid (show x = mkS ((L.take k).drop fr) from by rw [← HX.out, ← HL.out]; exact ext_mk s fr k)
    clear hcut app HOW HBB
    go_wp2_with (at_builtin; refine wpList_appG (α := ByteArray) V rfl _ _ 61 61 9 rfl Tryd.underlying61 Tryd.underlying61 w.heap.size _ (ps.map mkS) rfl HO2.out _ _ _ _ [x] rfl rfl HR.out (by simp; omega) hs2 ?_; intro v2 w2 o2 g2 _; have b2 := Lib.hid (HO2.out.belB g2 hs2); have OO2 := Lib.hid (show OwnG w2 w.heap.size v2 ((ps ++ [(L.take k).drop fr]).map mkS) from o2.cast' (by rw [HXM.out, List.map_append]; rfl)); clear o2 g2)
    go_roundw
    case rel => exact ⟨ps ++ [(L.take k).drop fr], k + 1, k + 1, by go_num, by go_num, OO2.out, HN.out, by omega, HB2.out.trans b2.out⟩
    case measure => simp [intOf]; omega
   ·
    have hd : ((k : Int) == (s.size : Int)) = false := beq_eq_false_iff_ne.2 (by omega)
    have hks : k < s.size := by omega
    have hkl : k < L.length := by omega
    have i1 : (k : Int) < (s.size : Int) := by omega
    have hLk : L[k] = s[k] := by
     have e : s.data.toList[k]? = L[k]? := by rw [HL.out]
     rw [List.getElem?_eq_getElem hkl, List.getElem?_eq_getElem (by rw [Array.length_toList]; exact hks)] at e
     have e2 := Option.some.inj e
     rw [← e2]
     rfl
    by_cases hc : s[k] = 32
    ·
     have hcb : ((s[k].toNat : Int) == 32) = true := by rw [hc]; rfl
     obtain ⟨x, HX⟩ : ∃ x, Hid (s.extract fr k = x) := ⟨_, Lib.hid rfl⟩
     have hx := HX.out
     obtain ⟨V, eV, HR, HO2, HB2, hs2⟩ := app x
     have HN := Lib.hid (HCU.out.hit hkl (hLk.trans hc))
     have HXM := Lib.hid (show x = mkS ((L.take k).drop fr) from by rw [← HX.out, ← HL.out]; exact ext_mk s fr k)
     clear hcut app HOW HBB hLk hc
     go_wp2_with (at_builtin; refine wpList_appG (α := ByteArray) V rfl _ _ 61 61 9 rfl Tryd.underlying61 Tryd.underlying61 w.heap.size _ (ps.map mkS) rfl HO2.out _ _ _ _ [x] rfl rfl HR.out (by simp; omega) hs2 ?_; intro v2 w2 o2 g2 _; have b2 := Lib.hid (HO2.out.belB g2 hs2); have OO2 := Lib.hid (show OwnG w2 w.heap.size v2 ((ps ++ [(L.take k).drop fr]).map mkS) from o2.cast' (by rw [HXM.out, List.map_append]; rfl)); clear o2 g2)
     go_roundw
     case rel => exact ⟨ps ++ [(L.take k).drop fr], k + 1, k + 1, by go_num, by go_num, OO2.out, HN.out, by omega, HB2.out.trans b2.out⟩
     case measure => simp [intOf]; omega
    ·
     have hcb : ((s[k].toNat : Int) == 32) = false := beq_eq_false_iff_ne.2 fun e => hc (UInt8.toNat_inj.1 (by have : (32 : UInt8).toNat = 32 := rfl; omega))
     have HN := Lib.hid (HCU.out.on hkl (by rw [hLk]; exact hc))
     clear hcut app hLk hc
     go_wp2
     go_roundw
     case rel => exact ⟨ps, fr, k + 1, rfl, by go_num, HOW.out, HN.out, by omega, HBB.out⟩
     case measure => simp [intOf]; omega
  ·
   have hi : ¬ (k : Int) ≤ (s.size : Int) := by omega
   have HD := Lib.hid (hcut.done hk)
   clear hcut
   go_wp2
   go_ret
   refine ⟨_, rfl, ?_, HBB.out⟩
   rw [← HD.out]
   exact HOW.out
end Go.Proofs.YtjgfbcmgnjgapaaDoor
