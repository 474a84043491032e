/- The program: the words of a text, one after the other; the kind that a word tells. -/
import Derived.Test.YtjgfbcmgnjgapaaDoorAkM
import Derived.Test.YtjgfbcmgnjgapaaDoorAkO
import Derived.Test.YtjgfbcmgnjgapaaDoorSh
import Derived.Deep.DeepCutAuto
namespace Go.Proofs.YtjgfbcmgnjgapaaDoor
open Go.RowKit
set_option linter.unusedVariables false
set_option maxRecDepth 100000

theorem ext_bs (s : ByteArray) (i j : Nat) : s.extract i j = ⟨((s.data.toList.take j).drop i).toArray⟩ := by
 apply ByteArray.ext
 apply Array.toList_inj.1
 simp [ByteArray.data_extract, Array.toList_extract, List.extract_eq_take_drop, List.drop_take]
theorem bs_eta (s : ByteArray) : (⟨s.data.toList.toArray⟩ : ByteArray) = s := by apply ByteArray.ext; simp
abbrev cutF (s : ByteArray) : ByteArray := ⟨(fstW s.data.toList).toArray⟩
abbrev cutR (s : ByteArray) : ByteArray := ⟨(rstW s.data.toList).toArray⟩
theorem cutF_le (s : ByteArray) : (cutF s).size ≤ s.size := by
 show (fstW s.data.toList).toArray.size ≤ s.data.size
 rw [List.size_toArray, ← Array.length_toList]
 exact fstW_le _
theorem cutR_le (s : ByteArray) : (cutR s).size ≤ s.size := by
 show (rstW s.data.toList).toArray.size ≤ s.data.size
 rw [List.size_toArray, ← Array.length_toList]
 exact rstW_le _
def RetCut (w : World) (s : ByteArray) (e : Ending) (w' : World) : Prop := ∃ b : Bool, e = .returned (.tuple #[.string (cutF s), .string (cutR s), .bool b]) ∧ Below w.heap.size w w'
set_option maxHeartbeats 4000000 in
theorem lcut_c (s : ByteArray) (w : World) (hs : s.size ≤ maxLen) : Calls Tryd.prog 51 #[.string s, .string ⟨#[32]⟩] w (RetCut w s) := by
 unfold maxLen at hs
 rcases index_words s.data.toList with ⟨h1, h2, h3⟩ | ⟨o, h1, h2, h3, h4⟩
 ·
  have HA := Lib.hid (show cutF s = s from by unfold cutF; rw [h2])
  have HB := Lib.hid (show cutR s = ⟨#[]⟩ from by unfold cutR; rw [h3])
  have HI := Tryd.stringslite_Index_one s 32 w
  rw [h1] at HI
  have HII := Lib.hid HI
  clear h1 h2 h3 HI
  unfold RetCut
  rw [HA.out, HB.out]
  go_enter Tryd.func51, Tryd.ntmps51
  go_wp2_with fail
  refine HII.out.mono ?_
  rintro e w' ⟨rfl, rfl⟩
  go_wp2
  exact bodyPost_ret (v := .tuple #[.string s, .string ⟨#[]⟩, .bool false]) (by simp [results, Tryd.results51, go_sem]) rfl ⟨false, rfl, Below.refl _ _⟩
 ·
  have ho : o < s.size := by have e : s.data.toList.length = s.size := Array.length_toList; omega
  have HA := Lib.hid (show cutF s = s.extract 0 o from by unfold cutF; rw [ext_bs, List.drop_zero, h3])
  have HB := Lib.hid (show cutR s = s.extract (o + 1) s.size from by
   unfold cutR; rw [ext_bs, ← h4, List.take_of_length_le (by rw [Array.length_toList]; exact Nat.le_refl _)])
  have HI := Tryd.stringslite_Index_one s 32 w
  rw [h1] at HI
  have HII := Lib.hid HI
  have i0 : (0 : Int) ≤ (o : Int) := by omega
  have i1 : (o : Int) ≤ (s.size : Int) := by omega
  have i2 : (o : Int) + 1 ≤ (s.size : Int) := by omega
  clear h1 h2 h3 h4 HI
  unfold RetCut
  rw [HA.out, HB.out]
  go_enter Tryd.func51, Tryd.ntmps51
  go_wp2_with fail
  refine HII.out.mono ?_
  rintro e w' ⟨rfl, rfl⟩
  go_wp2
  go_region
  all_goals go_wp2
  exact bodyPost_ret (v := .tuple #[.string (s.extract 0 o), .string (s.extract (o + 1) s.size), .bool true]) (by simp [results, Tryd.results51, go_sem]) rfl ⟨true, rfl, (Below.refl _ _).drew⟩
set_option maxHeartbeats 4000000 in
theorem cut_c (s : ByteArray) (w : World) (hs : s.size ≤ maxLen) : Calls Tryd.prog 39 #[.string s, .string ⟨#[32]⟩] w (RetCut w s) := by
 have HC := Lib.hid (lcut_c s w hs)
 unfold RetCut at HC ⊢
 obtain ⟨A, B, H⟩ : ∃ A B, Hid (cutF s = A ∧ cutR s = B) := ⟨_, _, Lib.hid ⟨rfl, rfl⟩⟩
 rw [H.out.1, H.out.2] at HC ⊢
 go_enter Tryd.func39, Tryd.ntmps39
 go_wp2_with fail
 refine HC.out.mono ?_
 rintro e w' ⟨b, rfl, hb⟩
 go_wp2
 exact bodyPost_ret (v := .tuple #[.string A, .string B, .bool b]) (by simp [results, Tryd.results39, go_sem]) rfl ⟨b, rfl, hb⟩
abbrev fnS (g : Nat) : Value := .func (.func 38) #[] #[.pointer (some ⟨g, 0, none⟩)]
theorem scan_new (t : ByteArray) (w : World) : Calls Tryd.prog 20 #[.string t] w fun e w' => e = .returned (fnS w.heap.size) ∧ Blk w' w.heap.size 9 #[.string t] ∧ Below w.heap.size w w' := by
 obtain ⟨V, eV, hs, B, hb⟩ := al1 w rfl #[.string t] 9
 have H := Lib.hid (And.intro B hb)
 clear hs B hb
 go_enter Tryd.func20, Tryd.ntmps20
 go_wp2
 go_ret
 exact ⟨rfl, H.out.1, H.out.2⟩
set_option maxHeartbeats 2000000 in
theorem scan_next (g : Nat) (s : ByteArray) (w : World) (B : Blk w g 9 #[.string s]) (hs : s.size ≤ maxLen) :
  Calls Tryd.prog 38 #[.pointer (some ⟨g, 0, none⟩)] w fun e w' => e = .returned (.string (cutF s)) ∧ Blk w' g 9 #[.string (cutR s)] ∧ Chg (fun k => k = g) w w' := by
 have HC := Lib.hid (cut_c s w hs)
 unfold RetCut at HC
 obtain ⟨x, y, H⟩ : ∃ x y, Hid (cutF s = x ∧ cutR s = y) := ⟨_, _, Lib.hid ⟨rfl, rfl⟩⟩
 rw [H.out.1, H.out.2] at HC ⊢
 have q := B.c1
 go_enter Tryd.func38, Tryd.ntmps38
 go_wp2_with fail
 refine HC.out.mono ?_
 rintro e w1 ⟨b, rfl, hb⟩
 have B1 := B.next hb
 have q1 := B1.c1
 have f1 := B1.free 0
 have HB := Lib.hid (B1.set_ 0 (.string y))
 have hC := Lib.hid (((Chg.of_below (S := fun k => k = g) hb)).st 0 (.string y))
 clear q B B1 hb
 go_wp2
 go_ret
 exact ⟨rfl, HB.out, hC.out⟩
theorem kind_none {s : ByteArray} (h : ∀ j : Nat, 1 ≤ j → j < 10 → wordK j ≠ s) : kindOf s.data.toList = 0 := by
 have e : ∀ (l : List UInt8), s.data.toList = l → (⟨l.toArray⟩ : ByteArray) = s := fun l hl => by rw [← hl]
 unfold kindOf
 rw [if_neg (fun k => h 1 (by omega) (by omega) (e _ k)), if_neg (fun k => h 2 (by omega) (by omega) (e _ k)), if_neg (fun k => h 3 (by omega) (by omega) (e _ k)), if_neg (fun k => h 4 (by omega) (by omega) (e _ k)), if_neg (fun k => h 5 (by omega) (by omega) (e _ k)), if_neg (fun k => h 6 (by omega) (by omega) (e _ k)), if_neg (fun k => h 7 (by omega) (by omega) (e _ k)), if_neg (fun k => h 8 (by omega) (by omega) (e _ k)), if_neg (fun k => h 9 (by omega) (by omega) (e _ k))]
theorem kind_hit {k : Nat} (h1 : 1 ≤ k) (h9 : k ≤ 9) : kindOf (wordK k).data.toList = k := by
 have := (word_list (k := (k : Int)) (by omega) (by omega)).1
 rw [ByteArray.toList_eq] at this
 exact this
theorem kind_le (l : List UInt8) : 0 ≤ kindOf l ∧ kindOf l ≤ 9 := by
 unfold kindOf
 repeat' split
 all_goals decide
theorem int_ret {a b : Int} (h : a = b) : Ending.returned (.int .i64 a) = Ending.returned (.int .i64 b) := by rw [h]
set_option maxHeartbeats 2000000 in
theorem kind_c (s : ByteArray) (w : World) (G : Glf w) : Calls Tryd.prog 21 #[.string s] w fun e w' => e = .returned (.int .i64 (kindOf s.data.toList)) ∧ w = w' := by
 have HG := Lib.hid G
 clear G
 go_enter Tryd.func21, Tryd.ntmps21
 go_wp2
 go_loop [3] (fun i => ∃ k : Nat, 1 ≤ k ∧ k ≤ 10 ∧ i = .int .i64 k ∧ ∀ j : Nat, 1 ≤ j → j < k → wordK j ≠ s) (fun i => 10 - (intOf i).toNat)
 case atStart => exact ⟨1, by omega, by omega, rfl, fun j h1 h2 => by omega⟩
 case round =>
  obtain ⟨k, hk1, hk10, rfl, hall⟩ := hrel
  have HA := Lib.hid hall
  clear hall
  by_cases hk : k ≤ 9
  ·
   have hi : (k : Int) ≤ 9 := by omega
   have hi0 : (0 : Int) ≤ (k : Int) := by omega
   have hi1 : (k : Int) < 10 := by omega
   have g0 := (HG.out.at_ hk1 hk).1
   have HK := Lib.hid (kind_hit hk1 hk)
   obtain ⟨W, HW⟩ : ∃ W, Hid (wordK (k : Int) = W) := ⟨_, Lib.hid rfl⟩
   rw [HW.out] at g0 HK
   by_cases he : W = s
   ·
    subst he
    go_wp2
    go_ret
    exact ⟨int_ret HK.out.symm, rfl⟩
   ·
    have HE := Lib.hid he
    have b1 := str_ne he
    clear he
    go_wp2
    go_round
    case rel => exact ⟨k + 1, by omega, by omega, by go_num, fun j h1 h2 => by
     by_cases hj : j = k
     ·
      subst hj; rw [HW.out]; exact HE.out
     ·
      exact HA.out j h1 (by omega)⟩
    case measure => simp [intOf]; omega
  ·
   have hi : ¬ (k : Int) ≤ 9 := by omega
   have hke : k = 10 := by omega
   subst hke
   have HN := Lib.hid (kind_none HA.out)
   go_wp2
   go_ret
   exact ⟨int_ret HN.out.symm, rfl⟩
end Go.Proofs.YtjgfbcmgnjgapaaDoor
