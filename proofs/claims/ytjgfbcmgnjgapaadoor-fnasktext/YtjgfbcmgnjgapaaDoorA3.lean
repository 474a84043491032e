/- Rows put and taken away: the model's and the program's.
The program's splice, put and cut over rows.
RowsPut and RowsCut: the model's and the program's.
What is drawn off a code: some key, some number, some rows.
Keys, numbers and rows that are drawn. -/
import Derived.Test.YtjgfbcmgnjgapaaDoorA2
import Derived.Deep.RegionHeld3
import Derived.Test.YtjgfbcmgnjgapaaDoorA1
namespace Go.Proofs.YtjgfbcmgnjgapaaDoor
open Go.RowKit
set_option linter.unusedVariables false

/-- a number put under a key -/
def putL (l : List R) (key : ByteArray) (num : Int) : List R := l.take (posN l key) ++ [(key, num)] ++ l.drop (if hasB l key then posN l key + 1 else posN l key)

set_option maxRecDepth 100000 in
set_option maxHeartbeats 1000000 in
theorem specPut1_new (A : Option Addr) (c : Nat) (l : List R) (key : ByteArray) (num : Int) (w : World) (hlc : l.length ≤ c) (hc : l.length ≤ 1048576) (hr : Rd w w.heap.size A l) (hh : hasB l key = false) :
  Calls Tryd.prog 47 #[.slice A l.length c, .string key, .int .i64 num] w (RetR w (putL l key num)) := by
 have hple := (posN_pos l key).le
 have HE := Lib.hid (show putL l key num = l.take (posN l key) ++ [(key, num)] ++ l.drop (posN l key) from by unfold putL; rw [hh]; rfl)
 generalize hp : posN l key = p at *
 have HP := Lib.hid hp
 clear hp
 go_enter Tryd.func47, Tryd.ntmps47
 go_wp2_with fail
 refine (specFind A c l key w (by omega) hr).mono ?_
 rintro e w1 ⟨rfl, n1, rfl⟩
 rw [HP.out, hh]
 have hb1 : Below w.heap.size w (w.drewN n1) := below_drewN (Below.refl _ _) n1
 generalize w.drewN n1 = w1 at *
 have hr1 := (hr.below hb1).more hb1.size
 go_wp2_with fail
 refine (specCopy A c l w1 (by omega) hr1).mono ?_
 rintro e w2 ⟨v2, rfl, hown2, hb2⟩
 go_wp2_with fail
 have hb12 := below_next hb1 hb2
 have hr2 := (hr.below hb12).more hb12.size
 have hi1 : (0 : Int) ≤ (p : Int) := by omega
 have hi2 : (p : Int) ≤ (l.length : Int) := by omega
 have hi3 : (p : Int) ≤ (c : Int) := by omega
 have hi4 : (l.length : Int) ≤ (c : Int) := by omega
 have hT : Below w2.heap.size w2 w2.drew := (Below.refl _ _).drew
 have hcut := runCut 57 Tryd.underlying57 A l.length c p hple hlc
 go_region_held3 (fun W => Below w2.heap.size w2 W) (first | assumption | exact below_alloc (by assumption) _ | exact (below_alloc (by assumption) _).drew)
  (first
   | (go_at_call 58; refine (specCopyN A p c (l.take p) (by simp; omega) _ (by simp; omega) (rdTk hr2 p (by assumption))).mono ?_; rintro e wc ⟨vc, rfl, hownc, hbc⟩; have hO := ownLow (a := w2) (by assumption) hownc; have hT := below_next (a := w2) (by assumption) hbc)
   | (refine step_appR (wc.alloc (.cells #[.string key, .int .i64 num] 85)) rfl _ _ _ _ 85 rfl Tryd.underlying57 Tryd.underlying57 w2.heap.size vc (l.take p) rfl (hO.alloc _) (some ⟨wc.heap.size, 0, none⟩) 1 _ 1 [(key, num)] rfl rfl (rdOne wc key num 85) (by simp; omega) (below_alloc hT _).size ?_; intro v3 w3 hown3 hgr3 hat3; have hT := belowApp (below_alloc hT _) (hO.alloc _) hgr3)
   | (refine step_appR wc rfl _ _ _ _ 85 rfl Tryd.underlying57 Tryd.underlying57 w2.heap.size vc (l.take p) rfl hO (some ⟨w2.heap.size, 0, none⟩) 1 _ 1 [(key, num)] rfl rfl ((rdOneD w2 key num 85).below hbc) (by simp; omega) hT.size ?_; intro v3 w3 hown3 hgr3 hat3; have hT := belowApp hT hO hgr3)
   | (refine step_appR w3 rfl _ _ _ _ 85 rfl Tryd.underlying57 Tryd.underlying57 w2.heap.size v3 (l.take p ++ [(key, num)]) rfl hown3 (cutA A c p) (c - p) _ (l.length - p) (l.drop p) (List.length_drop) rfl (rdDp hr2 p c hlc hT) (by simp; omega) hT.size ?_; intro v4 w4 hown4 hgr4 hat4; have hT := belowApp hT hown3 hgr4))
 all_goals
  go_wp2
  go_ret
  exact ⟨v4, rfl, ownLow hb12 (by rw [HE.out]; exact hown4), below_next hb12 hT⟩

/-- the number of row k of the call's own rows is set -/
theorem setNum_own {w : World} {base g cap : Nat} {cur : Array Value} {l : List R} (hb : base ≤ g) (h : Blk w g 85 cur) (hl : l.length ≤ cap) (hc : cap ≤ maxLen) (hs : cur.size = cap * 2)
  (ht : cur.toList.take (l.length * 2) = cellsR l) (k : Nat) (hk : k < l.length) (num : Int) : OwnR (w.setCell ⟨g, k * 2 + 1, none⟩ (.int .i64 num)) base (.slice (some ⟨g, 0, none⟩) l.length cap) (l.set k (l[k].1, num)) := by
 have e := OwnR.mk (l := l.set k (l[k].1, num)) hb (h.set_ (k * 2 + 1) (.int .i64 num)) (by simpa using hl) hc (by simpa using hs) (by
  apply take_ext
  ·
   simp; omega
  ·
   intro i r hi
   have hil : i < l.length := by have := (List.getElem?_eq_some_iff.1 hi).1; simpa using this
   have k0 := cellsR_key l i l[i] (List.getElem?_eq_getElem hil)
   have n0 := cellsR_num l i l[i] (List.getElem?_eq_getElem hil)
   rw [← ht, List.getElem?_take_of_lt (by omega)] at k0 n0
   have k1 : cur[i * 2]? = some (.string l[i].1) := by simpa using k0
   have n1 : cur[i * 2 + 1]? = some (.int .i64 l[i].2) := by simpa using n0
   by_cases e : i = k
   ·
    subst e
    have er : r = (l[i].1, num) := by rw [List.getElem?_set_self hil] at hi; exact (Option.some.inj hi).symm
    subst er
    rw [Array.getElem?_setIfInBounds_ne (by omega), Array.getElem?_setIfInBounds_self_of_lt (by omega)]
    exact ⟨k1, rfl⟩
   ·
    have er : r = l[i] := by rw [List.getElem?_set_ne (by omega), List.getElem?_eq_getElem hil] at hi; exact (Option.some.inj hi).symm
    subst er
    rw [Array.getElem?_setIfInBounds_ne (by omega), Array.getElem?_setIfInBounds_ne (by omega)]
    exact ⟨k1, n1⟩)
 simpa using e

theorem hasB_key {l : List R} {key : ByteArray} (h : hasB l key = true) : (l[posN l key]'(hasB_lt h)).1 = key := by
 rw [hasB_at (posN_pos l key) (hasB_lt h)] at h
 exact str_eq h
theorem putL_has {l : List R} {key : ByteArray} {num : Int} (h : hasB l key = true) : putL l key num = l.set (posN l key) ((l[posN l key]'(hasB_lt h)).1, num) := by
 unfold putL
 rw [h, hasB_key h, List.set_eq_take_append_cons_drop, if_pos (hasB_lt h)]
 simp

set_option maxRecDepth 100000 in
set_option maxHeartbeats 1000000 in
theorem specPut1_has (A : Option Addr) (c : Nat) (l : List R) (key : ByteArray) (num : Int) (w : World) (hlc : l.length ≤ c) (hc : l.length ≤ 1048576) (hr : Rd w w.heap.size A l) (hh : hasB l key = true) :
  Calls Tryd.prog 47 #[.slice A l.length c, .string key, .int .i64 num] w (RetR w (putL l key num)) := by
 obtain ⟨p, hlt, hp, he⟩ : ∃ p, ∃ h : p < l.length, posN l key = p ∧ putL l key num = l.set p (l[p].1, num) := ⟨posN l key, hasB_lt hh, rfl, putL_has hh⟩
 have HE := Lib.hid he
 have HP := Lib.hid hp
 clear hp he
 go_enter Tryd.func47, Tryd.ntmps47
 go_wp2_with fail
 refine (specFind A c l key w (by omega) hr).mono ?_
 rintro e w1 ⟨rfl, n1, rfl⟩
 rw [HP.out, hh]
 have hb1 : Below w.heap.size w (w.drewN n1) := below_drewN (Below.refl _ _) n1
 generalize w.drewN n1 = w1 at *
 have hr1 := (hr.below hb1).more hb1.size
 go_wp2_with fail
 refine (specCopy A c l w1 (by omega) hr1).mono ?_
 rintro e w2 ⟨v2, rfl, hown2, hb2⟩
 rcases hown2.cases with ⟨_, e0⟩ | ⟨g, cap, cur, rfl, hbg, hblk, hl, hm, hs, ht⟩
 ·
  subst e0; simp at hlt
 have hHT := Lib.hid ht
 have hHS := Lib.hid hs
 have hs1 : p * 2 + 1 < cur.size := by rw [hs]; omega
 have hw2 := below_next hb1 hb2
 clear ht hs hown2
 have g1 : w2.cell? ⟨g, p * 2 + 1, none⟩ = some cur[p * 2 + 1] := by rw [hblk.cell]; exact Array.getElem?_eq_getElem hs1
 have g2 := hblk.free (p * 2 + 1)
 have hi1 : (p : Int) < (l.length : Int) := by omega
 go_wp2
 go_ret
 have hge := hb1.size
 exact ⟨_, rfl, by rw [HE.out]; exact (setNum_own hbg hblk hl hm hHS.out hHT.out p hlt num).low hb1.size, hw2.setCell (Nat.le_trans hge hbg) _⟩

theorem specPut1 (A : Option Addr) (c : Nat) (l : List R) (key : ByteArray) (num : Int) (w : World) (hlc : l.length ≤ c) (hc : l.length ≤ 1048576) (hr : Rd w w.heap.size A l) :
  Calls Tryd.prog 47 #[.slice A l.length c, .string key, .int .i64 num] w (RetR w (putL l key num)) := by
 cases hh : hasB l key
 ·
  exact specPut1_new A c l key num w hlc hc hr hh
 ·
  exact specPut1_has A c l key num w hlc hc hr hh

end Go.Proofs.YtjgfbcmgnjgapaaDoor

namespace Go.Proofs.YtjgfbcmgnjgapaaDoor
open Go.RowKit
set_option linter.unusedVariables false

theorem OwnR.made (w : World) (base c : Nat) (hb : base ≤ w.heap.size) (hc : c ≤ maxLen) : OwnR (w.alloc (.cells (freshR c) 85)) base (.slice (some ⟨w.heap.size, 0, none⟩) 0 c) [] :=
 OwnR.mk (l := []) hb (heap_alloc_new w _) (Nat.zero_le _) hc (freshR_size c) rfl

end Go.Proofs.YtjgfbcmgnjgapaaDoor

namespace Go.Proofs.YtjgfbcmgnjgapaaDoor
open Go.RowKit
set_option linter.unusedVariables false

/-- the call returns rows in new memory, and a bool -/
def RetRB (w : World) (l : List R) (b : Bool) (e : Ending) (w' : World) : Prop := ∃ v, e = .returned (.tuple #[v, .bool b]) ∧ OwnR w' w.heap.size v l ∧ Below w.heap.size w w'

noncomputable def putV (l : List R) (key : ByteArray) (num : Int) : List R := if rowsB l then (if rowsB (putL l key num) then putL l key num else l) else []
noncomputable def putOk (l : List R) (key : ByteArray) (num : Int) : Bool := rowsB l && rowsB (putL l key num)

theorem FitR.putL {l : List R} (h : FitR l) {key : ByteArray} {num : Int} (hk : FitR [(key, num)]) : FitR (putL l key num) := by
 intro r hr
 unfold Proofs.YtjgfbcmgnjgapaaDoor.putL at hr
 simp only [List.append_assoc, List.mem_append] at hr
 rcases hr with hr | hr | hr
 ·
  exact h r (List.mem_of_mem_take hr)
 ·
  exact hk r hr
 ·
  exact h r (List.mem_of_mem_drop hr)
theorem putL_length (l : List R) (key : ByteArray) (num : Int) : (putL l key num).length ≤ l.length + 1 := by
 have hp := (posN_pos l key).le
 unfold putL
 simp
 split <;> omega

theorem putV_length (l : List R) (key : ByteArray) (num : Int) : (putV l key num).length ≤ l.length + 1 := by
 have := putL_length l key num
 unfold putV
 split
 ·
  split <;> omega
 ·
  simp

end Go.Proofs.YtjgfbcmgnjgapaaDoor

namespace Go.Proofs.YtjgfbcmgnjgapaaDoor
open Go.RowKit
set_option linter.unusedVariables false

/-- from w to w' the reader in block g has gone on by at most K steps; nothing else that was there has turned -/
structure Dw (g : Nat) (A : Option Addr) (n c p K : Nat) (w w' : World) : Prop where
 grown : w.grownBy w' (some g)
 rdr : ∃ q, p ≤ q ∧ q ≤ p + K ∧ Rdr w' g A n c q

theorem Dw.call {g n c p K : Nat} {A : Option Addr} {w w1 w2 : World} (h : Dw g A n c p K w w1) (hb : Below w1.heap.size w1 w2) : Dw g A n c p K w w2 := by
 obtain ⟨q, h1, h2, h3⟩ := h.rdr
 exact ⟨grown_call h.grown hb, q, h1, h2, h3.next hb⟩
theorem Dw.refl {g n c p : Nat} {A : Option Addr} {w : World} (h : Rdr w g A n c p) : Dw g A n c p 0 w w := ⟨World.grownBy.refl _ _, p, Nat.le_refl _, Nat.le_refl _, h⟩
theorem Dw.more {g n c p K K' : Nat} {A : Option Addr} {w w1 : World} (h : Dw g A n c p K w w1) (hk : K ≤ K') : Dw g A n c p K' w w1 := by
 obtain ⟨q, h1, h2, h3⟩ := h.rdr
 exact ⟨h.grown, q, h1, by omega, h3⟩
theorem Dw.then_ {g n c p q K K' : Nat} {A : Option Addr} {w w1 w2 : World} (h : w.grownBy w1 (some g)) (h1 : p ≤ q) (h2 : q ≤ p + K) (k : Dw g A n c q K' w1 w2) : Dw g A n c p (K + K') w w2 := by
 obtain ⟨q', h3, h4, h5⟩ := k.rdr
 exact ⟨h.trans k.grown, q', by omega, by omega, h5⟩

/-- pick, as a step -/
theorem pick_d (g : Nat) (A : Option Addr) (n c p m : Nat) (w : World) (h : Rdr w g A n c p) (hp : p ≤ 1000000) (hm : 1 ≤ m) (hm2 : m ≤ 1000000) :
  Calls Tryd.prog 33 #[.pointer (some ⟨g, 0, none⟩), .int .i64 m] w fun e w' => ∃ k : Nat, e = .returned (.int .i64 k) ∧ k < m ∧ Dw g A n c p 1 w w' := by
 refine (pick_c g A n c p m w h hp hm hm2).mono ?_
 rintro e w' ⟨⟨k, rfl, hk⟩, h1, h2⟩
 exact ⟨k, rfl, hk, h2, p + 1, by omega, by omega, h1⟩

set_option maxRecDepth 100000 in
set_option maxHeartbeats 1000000 in
theorem of_d (g : Nat) (A : Option Addr) (n c p b : Nat) (ss : List ByteArray) (w : World) (h : Rdr w g A n c p) (hp : p ≤ 1000000) (hbg : b ≠ g) (hl : Blk w b 9 (ss.map Value.string).toArray) (m : Nat) (hm : ss.length = m) (hs : 1 ≤ m) (hs2 : m ≤ 1000) :
  Calls Tryd.prog 34 #[.pointer (some ⟨g, 0, none⟩), .slice (some ⟨b, 0, none⟩) m m] w fun e w' => ∃ s, e = .returned (.string s) ∧ s ∈ ss ∧ Dw g A n c p 1 w w' := by
 go_enter Tryd.func34, Tryd.ntmps34
 go_wp2_with fail
 refine (pick_d g A n c p m w h hp hs (by omega)).mono ?_
 rintro e w1 ⟨k, rfl, hk, hd⟩
 have hblk : Blk w1 b 9 (ss.map Value.string).toArray := (hd.grown.block b hl.lt (by simpa using hbg)).trans hl
 have hkl : k < ss.length := by omega
 have c1 : w1.cell? ⟨b, k, none⟩ = some (.string ss[k]) := by
  rw [hblk.cell]; simp [List.getElem?_eq_getElem hkl]
 have HM := Lib.hid hm
 clear hm
 go_wp2
 go_ret
 exact ⟨ss[k], rfl, List.getElem_mem hkl, hd⟩

set_option maxRecDepth 100000 in
set_option maxHeartbeats 1000000 in
theorem num_d (g : Nat) (A : Option Addr) (n c p b : Nat) (zs : List Int) (w : World) (h : Rdr w g A n c p) (hp : p ≤ 1000000) (hbg : b ≠ g) (hl : Blk w b 3 (zs.map (Value.int .i64)).toArray) (m : Nat) (hm : zs.length = m) (hs : 1 ≤ m) (hs2 : m ≤ 1000) :
  Calls Tryd.prog 44 #[.pointer (some ⟨g, 0, none⟩), .slice (some ⟨b, 0, none⟩) m m] w fun e w' => ∃ z, e = .returned (.int .i64 z) ∧ z ∈ zs ∧ Dw g A n c p 1 w w' := by
 go_enter Tryd.func44, Tryd.ntmps44
 go_wp2_with fail
 refine (pick_d g A n c p m w h hp hs (by omega)).mono ?_
 rintro e w1 ⟨k, rfl, hk, hd⟩
 have hblk : Blk w1 b 3 (zs.map (Value.int .i64)).toArray := (hd.grown.block b hl.lt (by simpa using hbg)).trans hl
 have hkl : k < zs.length := by omega
 have c1 : w1.cell? ⟨b, k, none⟩ = some (.int .i64 zs[k]) := by
  rw [hblk.cell]; simp [List.getElem?_eq_getElem hkl]
 have HM := Lib.hid hm
 clear hm
 go_wp2
 go_ret
 exact ⟨zs[k], rfl, List.getElem_mem hkl, hd⟩

end Go.Proofs.YtjgfbcmgnjgapaaDoor

namespace Go.Proofs.YtjgfbcmgnjgapaaDoor
open Go.RowKit
set_option linter.unusedVariables false

def FitZ (z : Int) : Prop := -9223372036854775808 ≤ z ∧ z ≤ 9223372036854775807

def ssBent : List ByteArray := [⟨#[]⟩, ⟨#[97, 98, 99]⟩, ⟨#[65]⟩, ⟨#[97, 49]⟩, ⟨#[32]⟩]
def ssKeys : List ByteArray := [⟨#[97]⟩, ⟨#[98]⟩, ⟨#[99]⟩, ⟨#[100]⟩, ⟨#[97, 98]⟩, ⟨#[97, 99]⟩, ⟨#[98, 98]⟩, ⟨#[122]⟩, ⟨#[101]⟩, ⟨#[102]⟩, ⟨#[103]⟩, ⟨#[104]⟩]
theorem ssBent_small : ∀ s ∈ ssBent, s.size ≤ 3 := by
 intro s hs
 simp only [ssBent, List.mem_cons, List.not_mem_nil, or_false] at hs
 rcases hs with rfl | rfl | rfl | rfl | rfl <;> decide
theorem ssKeys_small : ∀ s ∈ ssKeys, s.size ≤ 3 := by
 intro s hs
 simp only [ssKeys, List.mem_cons, List.not_mem_nil, or_false] at hs
 rcases hs with rfl | rfl | rfl | rfl | rfl | rfl | rfl | rfl | rfl | rfl | rfl | rfl <;> decide
def zsBent : List Int := [1000, -1000, 9223372036854775807, -9223372036854775808]
def zsNums : List Int := [0, 1, 2, 3, -1, -7, 40, 500, 999, -999]
theorem zsBent_fit : ∀ z ∈ zsBent, FitZ z := by
 intro z hz
 simp only [zsBent, List.mem_cons, List.not_mem_nil, or_false] at hz
 unfold FitZ
 omega
theorem zsNums_fit : ∀ z ∈ zsNums, FitZ z := by
 intro z hz
 simp only [zsNums, List.mem_cons, List.not_mem_nil, or_false] at hz
 unfold FitZ
 omega

theorem Rdr.lt {w : World} {g n c p : Nat} {A : Option Addr} (h : Rdr w g A n c p) : g < w.heap.size := h.blk.lt
theorem Rdr.alloc {w : World} {g n c p : Nat} {A : Option Addr} (h : Rdr w g A n c p) (o : Obj) : Rdr (w.alloc o) g A n c p := h.next (below_alloc (Below.refl _ _) o)
theorem grown_alloc {a w : World} {g : Nat} (h : a.grownBy w (some g)) (o : Obj) : a.grownBy (w.alloc o) (some g) := grown_call h (below_alloc (Below.refl _ _) o)

set_option maxRecDepth 100000 in
set_option maxHeartbeats 1000000 in
theorem key_d (g : Nat) (A : Option Addr) (n c p : Nat) (w : World) (h : Rdr w g A n c p) (hp : p ≤ 999990) :
  Calls Tryd.prog 48 #[.pointer (some ⟨g, 0, none⟩)] w fun e w' => ∃ s, e = .returned (.string s) ∧ s.size ≤ 3 ∧ Dw g A n c p 2 w w' := by
 go_enter Tryd.func48, Tryd.ntmps48
 go_wp2_with fail
 refine (pick_d g A n c p 20 w h (by omega) (by omega) (by omega)).mono ?_
 rintro e w1 ⟨k, rfl, hk, hd⟩
 obtain ⟨q, hq1, hq2, hq⟩ := hd.rdr
 by_cases h0 : k = 0
 ·
  have hb : ((k : Int) == 0) = true := by simp [h0]
  go_wp2_with fail
  refine (of_d g A n c q w1.heap.size ssBent _ (hq.alloc _) (by omega) (by have := hq.lt; omega) (heap_alloc_new w1 _) 5 rfl (by omega) (by omega)).mono ?_
  rintro e w2 ⟨s, rfl, hs, hd2⟩
  go_wp2
  go_ret
  exact ⟨s, rfl, ssBent_small s hs, Dw.then_ (K := 1) (grown_alloc hd.grown _) hq1 hq2 hd2⟩
 ·
  have hb : ((k : Int) == 0) = false := by simp; omega
  go_wp2_with fail
  refine (of_d g A n c q w1.heap.size ssKeys _ (hq.alloc _) (by omega) (by have := hq.lt; omega) (heap_alloc_new w1 _) 12 rfl (by omega) (by omega)).mono ?_
  rintro e w2 ⟨s, rfl, hs, hd2⟩
  go_wp2
  go_ret
  exact ⟨s, rfl, ssKeys_small s hs, Dw.then_ (K := 1) (grown_alloc hd.grown _) hq1 hq2 hd2⟩

set_option maxRecDepth 100000 in
set_option maxHeartbeats 1000000 in
theorem value_d (g : Nat) (A : Option Addr) (n c p : Nat) (w : World) (h : Rdr w g A n c p) (hp : p ≤ 999990) :
  Calls Tryd.prog 46 #[.pointer (some ⟨g, 0, none⟩)] w fun e w' => ∃ z, e = .returned (.int .i64 z) ∧ FitZ z ∧ Dw g A n c p 2 w w' := by
 go_enter Tryd.func46, Tryd.ntmps46
 go_wp2_with fail
 refine (pick_d g A n c p 20 w h (by omega) (by omega) (by omega)).mono ?_
 rintro e w1 ⟨k, rfl, hk, hd⟩
 obtain ⟨q, hq1, hq2, hq⟩ := hd.rdr
 by_cases h0 : k = 0
 ·
  have hb : ((k : Int) == 0) = true := by simp [h0]
  go_wp2_with fail
  refine (num_d g A n c q w1.heap.size zsBent _ (hq.alloc _) (by omega) (by have := hq.lt; omega) (heap_alloc_new w1 _) 4 rfl (by omega) (by omega)).mono ?_
  rintro e w2 ⟨s, rfl, hs, hd2⟩
  go_wp2
  go_ret
  exact ⟨s, rfl, zsBent_fit s hs, Dw.then_ (K := 1) (grown_alloc hd.grown _) hq1 hq2 hd2⟩
 ·
  have hb : ((k : Int) == 0) = false := by simp; omega
  go_wp2_with fail
  refine (num_d g A n c q w1.heap.size zsNums _ (hq.alloc _) (by omega) (by have := hq.lt; omega) (heap_alloc_new w1 _) 10 rfl (by omega) (by omega)).mono ?_
  rintro e w2 ⟨s, rfl, hs, hd2⟩
  go_wp2
  go_ret
  exact ⟨s, rfl, zsNums_fit s hs, Dw.then_ (K := 1) (grown_alloc hd.grown _) hq1 hq2 hd2⟩

end Go.Proofs.YtjgfbcmgnjgapaaDoor
