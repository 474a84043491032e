/- Rows put and taken away: the model's and the program's.
The program's splice, put and cut over rows.
RowsPut and RowsCut: the model's and the program's.
What is drawn off a code: some key, some number, some rows.
Keys, numbers and rows that are drawn. -/
import Derived.Test.YtilcncnhkidndaaDoorA2
import Derived.Deep.RegionHeld3
import Derived.Test.YtilcncnhkidndaaDoorA1
namespace Go.Proofs.YtilcncnhkidndaaDoor
open Go.RowKit
set_option linter.unusedVariables false

/-- a number put under a key -/
def putL (l : List R) (key : ByteArray) (num : Int) : List R := l.take (posN l key) ++ [(key, num)] ++ l.drop (if hasB l key then posN l key + 1 else posN l key)

theorem hasB_key {l : List R} {key : ByteArray} (h : hasB l key = true) : (l[posN l key]'(hasB_lt h)).1 = key := by
 rw [hasB_at (posN_pos l key) (hasB_lt h)] at h
 exact str_eq h
theorem putL_has {l : List R} {key : ByteArray} {num : Int} (h : hasB l key = true) : putL l key num = l.set (posN l key) ((l[posN l key]'(hasB_lt h)).1, num) := by
 unfold putL
 rw [h, hasB_key h, List.set_eq_take_append_cons_drop, if_pos (hasB_lt h)]
 simp

end Go.Proofs.YtilcncnhkidndaaDoor

namespace Go.Proofs.YtilcncnhkidndaaDoor
open Go.RowKit
set_option linter.unusedVariables false

end Go.Proofs.YtilcncnhkidndaaDoor

namespace Go.Proofs.YtilcncnhkidndaaDoor
open Go.RowKit
set_option linter.unusedVariables false

noncomputable def putV (l : List R) (key : ByteArray) (num : Int) : List R := if rowsB l then (if rowsB (putL l key num) then putL l key num else l) else []
noncomputable def putOk (l : List R) (key : ByteArray) (num : Int) : Bool := rowsB l && rowsB (putL l key num)

theorem FitR.putL {l : List R} (h : FitR l) {key : ByteArray} {num : Int} (hk : FitR [(key, num)]) : FitR (putL l key num) := by
 intro r hr
 unfold Proofs.YtilcncnhkidndaaDoor.putL at hr
 simp only [List.append_assoc, List.mem_append] at hr
 rcases hr with hr | hr | hr
 ·
  exact h r (List.mem_of_mem_take hr)
 ·
  exact hk r hr
 ·
  exact h r (List.mem_of_mem_drop hr)
theorem putL_length (l : List R) (key : ByteArray) (num : Int) : (putL l key num).length ≤ l.length + 1 := by
 have hp := (posN_pos l key).le
 unfold putL
 simp
 split <;> omega

theorem putV_length (l : List R) (key : ByteArray) (num : Int) : (putV l key num).length ≤ l.length + 1 := by
 have := putL_length l key num
 unfold putV
 split
 ·
  split <;> omega
 ·
  simp

end Go.Proofs.YtilcncnhkidndaaDoor

namespace Go.Proofs.YtilcncnhkidndaaDoor
open Go.RowKit
set_option linter.unusedVariables false

/-- from w to w' the reader in block g has gone on by at most K steps; nothing else that was there has turned -/
structure Dw (g : Nat) (A : Option Addr) (n c p K : Nat) (w w' : World) : Prop where
 grown : w.grownBy w' (some g)
 rdr : ∃ q, p ≤ q ∧ q ≤ p + K ∧ Rdr w' g A n c q

theorem Dw.call {g n c p K : Nat} {A : Option Addr} {w w1 w2 : World} (h : Dw g A n c p K w w1) (hb : Below w1.heap.size w1 w2) : Dw g A n c p K w w2 := by
 obtain ⟨q, h1, h2, h3⟩ := h.rdr
 exact ⟨grown_call h.grown hb, q, h1, h2, h3.next hb⟩
theorem Dw.refl {g n c p : Nat} {A : Option Addr} {w : World} (h : Rdr w g A n c p) : Dw g A n c p 0 w w := ⟨World.grownBy.refl _ _, p, Nat.le_refl _, Nat.le_refl _, h⟩
theorem Dw.more {g n c p K K' : Nat} {A : Option Addr} {w w1 : World} (h : Dw g A n c p K w w1) (hk : K ≤ K') : Dw g A n c p K' w w1 := by
 obtain ⟨q, h1, h2, h3⟩ := h.rdr
 exact ⟨h.grown, q, h1, by omega, h3⟩
theorem Dw.then_ {g n c p q K K' : Nat} {A : Option Addr} {w w1 w2 : World} (h : w.grownBy w1 (some g)) (h1 : p ≤ q) (h2 : q ≤ p + K) (k : Dw g A n c q K' w1 w2) : Dw g A n c p (K + K') w w2 := by
 obtain ⟨q', h3, h4, h5⟩ := k.rdr
 exact ⟨h.trans k.grown, q', by omega, by omega, h5⟩

/-- pick, as a step -/
theorem pick_d (g : Nat) (A : Option Addr) (n c p m : Nat) (w : World) (h : Rdr w g A n c p) (hp : p ≤ 1000000) (hm : 1 ≤ m) (hm2 : m ≤ 1000000) :
  Calls Tryd.prog 40 #[.pointer (some ⟨g, 0, none⟩), .int .i64 m] w fun e w' => ∃ k : Nat, e = .returned (.int .i64 k) ∧ k < m ∧ Dw g A n c p 1 w w' := by
 refine (pick_c g A n c p m w h hp hm hm2).mono ?_
 rintro e w' ⟨⟨k, rfl, hk⟩, h1, h2⟩
 exact ⟨k, rfl, hk, h2, p + 1, by omega, by omega, h1⟩

set_option maxRecDepth 100000 in
set_option maxHeartbeats 1000000 in
theorem of_d (g : Nat) (A : Option Addr) (n c p b : Nat) (ss : List ByteArray) (w : World) (h : Rdr w g A n c p) (hp : p ≤ 1000000) (hbg : b ≠ g) (hl : Blk w b 9 (ss.map Value.string).toArray) (m : Nat) (hm : ss.length = m) (hs : 1 ≤ m) (hs2 : m ≤ 1000) :
  Calls Tryd.prog 48 #[.pointer (some ⟨g, 0, none⟩), .slice (some ⟨b, 0, none⟩) m m] w fun e w' => ∃ s, e = .returned (.string s) ∧ s ∈ ss ∧ Dw g A n c p 1 w w' := by
 go_enter Tryd.func48, Tryd.ntmps48
 go_wp2_with fail
 refine (pick_d g A n c p m w h hp hs (by omega)).mono ?_
 rintro e w1 ⟨k, rfl, hk, hd⟩
 have hblk : Blk w1 b 9 (ss.map Value.string).toArray := (hd.grown.block b hl.lt (by simpa using hbg)).trans hl
 have hkl : k < ss.length := by omega
 have c1 : w1.cell? ⟨b, k, none⟩ = some (.string ss[k]) := by
  rw [hblk.cell]; simp [List.getElem?_eq_getElem hkl]
 have HM := Lib.hid hm
 clear hm
 go_wp2
 go_ret
 exact ⟨ss[k], rfl, List.getElem_mem hkl, hd⟩

set_option maxRecDepth 100000 in
set_option maxHeartbeats 1000000 in
theorem num_d (g : Nat) (A : Option Addr) (n c p b : Nat) (zs : List Int) (w : World) (h : Rdr w g A n c p) (hp : p ≤ 1000000) (hbg : b ≠ g) (hl : Blk w b 3 (zs.map (Value.int .i64)).toArray) (m : Nat) (hm : zs.length = m) (hs : 1 ≤ m) (hs2 : m ≤ 1000) :
  Calls Tryd.prog 51 #[.pointer (some ⟨g, 0, none⟩), .slice (some ⟨b, 0, none⟩) m m] w fun e w' => ∃ z, e = .returned (.int .i64 z) ∧ z ∈ zs ∧ Dw g A n c p 1 w w' := by
 go_enter Tryd.func51, Tryd.ntmps51
 go_wp2_with fail
 refine (pick_d g A n c p m w h hp hs (by omega)).mono ?_
 rintro e w1 ⟨k, rfl, hk, hd⟩
 have hblk : Blk w1 b 3 (zs.map (Value.int .i64)).toArray := (hd.grown.block b hl.lt (by simpa using hbg)).trans hl
 have hkl : k < zs.length := by omega
 have c1 : w1.cell? ⟨b, k, none⟩ = some (.int .i64 zs[k]) := by
  rw [hblk.cell]; simp [List.getElem?_eq_getElem hkl]
 have HM := Lib.hid hm
 clear hm
 go_wp2
 go_ret
 exact ⟨zs[k], rfl, List.getElem_mem hkl, hd⟩

end Go.Proofs.YtilcncnhkidndaaDoor

namespace Go.Proofs.YtilcncnhkidndaaDoor
open Go.RowKit
set_option linter.unusedVariables false

def FitZ (z : Int) : Prop := -9223372036854775808 ≤ z ∧ z ≤ 9223372036854775807

def ssBent : List ByteArray := [⟨#[]⟩, ⟨#[97, 98, 99]⟩, ⟨#[65]⟩, ⟨#[97, 49]⟩, ⟨#[32]⟩]
def ssKeys : List ByteArray := [⟨#[97]⟩, ⟨#[98]⟩, ⟨#[99]⟩, ⟨#[100]⟩, ⟨#[97, 98]⟩, ⟨#[97, 99]⟩, ⟨#[98, 98]⟩, ⟨#[122]⟩, ⟨#[101]⟩, ⟨#[102]⟩, ⟨#[103]⟩, ⟨#[104]⟩]
theorem ssBent_small : ∀ s ∈ ssBent, s.size ≤ 3 := by
 intro s hs
 simp only [ssBent, List.mem_cons, List.not_mem_nil, or_false] at hs
 rcases hs with rfl | rfl | rfl | rfl | rfl <;> decide
theorem ssKeys_small : ∀ s ∈ ssKeys, s.size ≤ 3 := by
 intro s hs
 simp only [ssKeys, List.mem_cons, List.not_mem_nil, or_false] at hs
 rcases hs with rfl | rfl | rfl | rfl | rfl | rfl | rfl | rfl | rfl | rfl | rfl | rfl <;> decide
def zsBent : List Int := [1000, -1000, 9223372036854775807, -9223372036854775808]
def zsNums : List Int := [0, 1, 2, 3, -1, -7, 40, 500, 999, -999]
theorem zsBent_fit : ∀ z ∈ zsBent, FitZ z := by
 intro z hz
 simp only [zsBent, List.mem_cons, List.not_mem_nil, or_false] at hz
 unfold FitZ
 omega
theorem zsNums_fit : ∀ z ∈ zsNums, FitZ z := by
 intro z hz
 simp only [zsNums, List.mem_cons, List.not_mem_nil, or_false] at hz
 unfold FitZ
 omega

theorem Rdr.lt {w : World} {g n c p : Nat} {A : Option Addr} (h : Rdr w g A n c p) : g < w.heap.size := h.blk.lt
theorem Rdr.alloc {w : World} {g n c p : Nat} {A : Option Addr} (h : Rdr w g A n c p) (o : Obj) : Rdr (w.alloc o) g A n c p := h.next (below_alloc (Below.refl _ _) o)
theorem grown_alloc {a w : World} {g : Nat} (h : a.grownBy w (some g)) (o : Obj) : a.grownBy (w.alloc o) (some g) := grown_call h (below_alloc (Below.refl _ _) o)

end Go.Proofs.YtilcncnhkidndaaDoor
