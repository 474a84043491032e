/- Rows that are drawn and perhaps bent; a key that is often there; the whole draws. -/
import Derived.Test.YtabpepddbkipiaaDraw2
namespace Go.Proofs.Ytabpepddbkipiaa
open Go.RowKit
set_option linter.unusedVariables false

/-- the key of row k of the call's own rows is set -/
theorem setKey_own {w : World} {base g cap : Nat} {cur : Array Value} {l : List R} (hb : base ≤ g) (h : Blk w g 50 cur) (hl : l.length ≤ cap) (hc : cap ≤ maxLen) (hs : cur.size = cap * 2)
    (ht : cur.toList.take (l.length * 2) = cellsR l) (k : Nat) (hk : k < l.length) (key : ByteArray) : OwnR (w.setCell ⟨g, k * 2, none⟩ (.string key)) base (.slice (some ⟨g, 0, none⟩) l.length cap) (l.set k (key, l[k].2)) := by
  have e := OwnR.mk (l := l.set k (key, l[k].2)) hb (h.set_ (k * 2) (.string key)) (by simpa using hl) hc (by simpa using hs) (by
    apply take_ext
    · simp; omega
    · intro i r hi
      have hil : i < l.length := by have := (List.getElem?_eq_some_iff.1 hi).1; simpa using this
      have k0 := cellsR_key l i l[i] (List.getElem?_eq_getElem hil)
      have n0 := cellsR_num l i l[i] (List.getElem?_eq_getElem hil)
      rw [← ht, List.getElem?_take_of_lt (by omega)] at k0 n0
      have k1 : cur[i * 2]? = some (.string l[i].1) := by simpa using k0
      have n1 : cur[i * 2 + 1]? = some (.int .i64 l[i].2) := by simpa using n0
      by_cases e : i = k
      · subst e
        have er : r = (key, l[i].2) := by rw [List.getElem?_set_self hil] at hi; exact (Option.some.inj hi).symm
        subst er
        rw [Array.getElem?_setIfInBounds_self_of_lt (by omega), Array.getElem?_setIfInBounds_ne (by omega)]
        exact ⟨rfl, n1⟩
      · have er : r = l[i] := by rw [List.getElem?_set_ne (by omega), List.getElem?_eq_getElem hil] at hi; exact (Option.some.inj hi).symm
        subst er
        rw [Array.getElem?_setIfInBounds_ne (by omega), Array.getElem?_setIfInBounds_ne (by omega)]
        exact ⟨k1, n1⟩)
  simpa using e

theorem FitR.set {l : List R} (h : FitR l) (k : Nat) {r : R} (hr : FitR [r]) : FitR (l.set k r) := by
  intro x hx
  rcases List.mem_or_eq_of_mem_set hx with h1 | rfl
  · exact h x h1
  · exact hr x (by simp)
theorem FitR.append {l l' : List R} (h : FitR l) (h' : FitR l') : FitR (l ++ l') := by
  intro x hx
  rcases List.mem_append.1 hx with h1 | h1
  · exact h x h1
  · exact h' x h1
theorem FitR.at_ {l : List R} (h : FitR l) (k : Nat) (hk : k < l.length) : FitR [l[k]] := by
  intro x hx
  have : x = l[k] := by simpa using hx
  subst this
  exact h _ (List.getElem_mem hk)

theorem only_own {a w : World} {g b i : Nat} (h : a.grownBy w (some g)) (hb : a.heap.size ≤ b) (u : Value) : a.grownBy (w.setCell ⟨b, i, none⟩ u) (some g) :=
  ⟨h.os, h.tape, h.output, by simpa [World.setCell] using h.size, fun k hk hne => (Below.heap_setCell w ⟨b, i, none⟩ u k (by show k ≠ b; omega)).trans (h.block k hk hne)⟩
theorem Rdr.other {w : World} {g n c p b i : Nat} {A : Option Addr} (h : Rdr w g A n c p) (hb : g < b) (u : Value) : Rdr (w.setCell ⟨b, i, none⟩ u) g A n c p :=
  ⟨(Below.heap_setCell w ⟨b, i, none⟩ u g (by show g ≠ b; omega)).trans h.blk, h.len, fun j hj => by
    obtain ⟨b', o, z, e, hbb, hc, hz⟩ := h.bytes j hj
    exact ⟨b', o, z, e, hbb, (World.cell?_setCell_other w ⟨b, i, none⟩ ⟨b', o + j, none⟩ _ (fun e => by injection e with e1; omega)).trans hc, hz⟩⟩

theorem only_app {a w w' : World} {g : Nat} {row : Option Nat} (h : a.grownBy w (some g)) (hg : w.grownBy w' row) (hr : ∀ k, row = some k → a.heap.size ≤ k) : a.grownBy w' (some g) :=
  ⟨hg.os.trans h.os, hg.tape.trans h.tape, hg.output.trans h.output, Nat.le_trans h.size hg.size, fun k hk hne => (hg.block k (Nat.lt_of_lt_of_le hk h.size) (fun e => by have := hr k e.symm; omega)).trans (h.block k hk hne)⟩
theorem Rdr.app {w w' : World} {g n c p : Nat} {A : Option Addr} {row : Option Nat} (h : Rdr w g A n c p) (hg : w.grownBy w' row) (hr : row ≠ some g) (hlow : ∀ k, row = some k → g < k) : Rdr w' g A n c p :=
  ⟨(hg.block g h.blk.lt (fun e => hr e.symm)).trans h.blk, h.len, fun j hj => by
    obtain ⟨b', o, z, e, hbb, hc, hz⟩ := h.bytes j hj
    exact ⟨b', o, z, e, hbb, (World.cell?_of_block (a := ⟨b', o + j, none⟩) (hg.block b' (Nat.lt_trans hbb h.blk.lt) (fun e => by have := hlow b' e.symm; omega))).trans hc, hz⟩⟩

def lenV : Value → Nat | .slice _ n _ => n | _ => 0
theorem OwnR.lenV {w : World} {base : Nat} {v : Value} {l : List R} (h : OwnR w base v l) : lenV v = l.length := by
  obtain ⟨A, c, rfl, _⟩ := h.read
  rfl

def ssWrong : List ByteArray := [⟨#[]⟩, ⟨#[65]⟩, ⟨#[122, 122]⟩, ⟨#[97]⟩]
theorem ssWrong_small : ∀ s ∈ ssWrong, s.size ≤ 3 := by
  intro s hs
  simp only [ssWrong, List.mem_cons, List.not_mem_nil, or_false] at hs
  rcases hs with rfl | rfl | rfl | rfl <;> decide
def ssTail : List ByteArray := [⟨#[97]⟩, ⟨#[122]⟩]
theorem ssTail_small : ∀ s ∈ ssTail, s.size ≤ 3 := by
  intro s hs
  simp only [ssTail, List.mem_cons, List.not_mem_nil, or_false] at hs
  rcases hs with rfl | rfl <;> decide
def zsWrong : List Int := [1000, -9223372036854775808]
theorem zsWrong_fit : ∀ z ∈ zsWrong, FitZ z := by
  intro z hz
  simp only [zsWrong, List.mem_cons, List.not_mem_nil, or_false] at hz
  unfold FitZ
  omega
theorem fitZ0 : FitZ 0 := by unfold FitZ; omega
theorem zsize (s : ByteArray) : ((⟨#[122]⟩ : ByteArray) ++ s).size = 1 + s.size := by rw [ByteArray.size_append]; rfl

set_option maxRecDepth 100000 in
set_option maxHeartbeats 2000000 in
theorem bent_d (g : Nat) (A : Option Addr) (n c p : Nat) (A' : Option Addr) (c' : Nat) (l : List R) (w : World) (h : Rdr w g A n c p) (hp : p ≤ 999000) (hfit : FitR l) (hl : l.length ≤ 14) (hr : Rd w w.heap.size A' l) :
    Calls Try.prog 70 #[.pointer (some ⟨g, 0, none⟩), .slice A' l.length c'] w (RetD g A n c p 20 15 w) := by
  have hlt := h.lt
  go_enter Try.func70, Try.ntmps70
  go_wp2_with fail
  refine (specCopy A' c' l w (by omega) hr).mono ?_
  rintro e w1 ⟨v1, rfl, hown1, hb1⟩
  have hq1 := h.next hb1
  have hg1 : w.grownBy w1 (some g) := grown_call (World.grownBy.refl _ _) hb1
  obtain ⟨A1, c1, rfl, hc1, hm1, hrd1⟩ := hown1.read
  by_cases hn0 : l.length = 0
  · have hb0 : ((l.length : Int) == 0) = true := by simp [hn0]
    have HN := Lib.hid hn0
    clear hn0
    go_wp2
    go_ret
    exact ⟨_, l, rfl, hown1, hfit, by omega, hg1, p, Nat.le_refl _, by omega, hq1⟩
  have hb0 : ((l.length : Int) == 0) = false := beq_eq_false_iff_ne.2 (by omega)
  go_wp2_with fail
  refine (pick_d g A n c p 8 w1 hq1 (by omega) (by omega) (by omega)).mono ?_
  rintro e w2 ⟨k8, rfl, hk8, hd2⟩
  obtain ⟨q2, h21, h22, hq2⟩ := hd2.rdr
  have hown2 := hown1.drawn hlt hd2.grown
  have hg2 := hg1.trans hd2.grown
  by_cases hk80 : 0 < k8
  · have hk81 : (0 : Int) < (k8 : Int) := by omega
    go_wp2
    go_ret
    exact ⟨_, l, rfl, hown2, hfit, by omega, hg2, q2, by omega, by omega, hq2⟩
  have hk81 : decide (0 < k8) = false := decide_eq_false hk80
  have hk82 : decide ((0 : Int) < (k8 : Int)) = false := decide_eq_false (by omega)
  go_wp2_with fail
  refine (pick_d g A n c q2 l.length w2 hq2 (by omega) (by omega) (by omega)).mono ?_
  rintro e w3 ⟨k, rfl, hk, hd3⟩
  obtain ⟨q3, h31, h32, hq3⟩ := hd3.rdr
  have hown3 := hown2.drawn hlt hd3.grown
  have hg3 := hg2.trans hd3.grown
  go_wp2_with fail
  refine (pick_d g A n c q3 4 w3 hq3 (by omega) (by omega) (by omega)).mono ?_
  rintro e w4 ⟨k4, rfl, hk4, hd4⟩
  obtain ⟨q4, h41, h42, hq4⟩ := hd4.rdr
  have hown4 := hown3.drawn hlt hd4.grown
  have hg4 := hg3.trans hd4.grown
  clear hrd1 hown1 hown2 hown3 hq1 hq2 hq3 hg1 hg2 hg3 hd2 hd3 hd4 hb1 hr
  by_cases e0 : k4 = 0
  · have s0 : ((k4 : Int) == 0) = true := beq_iff_eq.2 (by omega)
    have E0 := Lib.hid e0
    clear e0
    go_wp2_with fail
    refine (of_d g A n c q4 w4.heap.size ssWrong _ (hq4.alloc _) (by omega) (by have := hq4.lt; omega) (heap_alloc_new w4 _) 4 rfl (by omega) (by omega)).mono ?_
    rintro e w5 ⟨s, rfl, hs, hd5⟩
    obtain ⟨q5, h51, h52, hq5⟩ := hd5.rdr
    have hown5 := (hown4.alloc (.cells (ssWrong.map Value.string).toArray 9)).drawn hlt hd5.grown
    have hg5 := (grown_alloc hg4 (.cells (ssWrong.map Value.string).toArray 9)).trans hd5.grown
    rcases hown5.cases with ⟨_, e1⟩ | ⟨gb, cap, cur, ev, hbg, hblk, hlc, hm, hsz, htk⟩
    · subst e1; simp at hk
    injection ev with ev1 ev2 ev3
    subst ev1 ev3
    have HT := Lib.hid htk
    have HS := Lib.hid hsz
    have hs1 : k * 2 < cur.size := by rw [hsz]; omega
    clear htk hsz hown5 hown4
    have g1 : w5.cell? ⟨gb, k * 2, none⟩ = some cur[k * 2] := by rw [hblk.cell]; exact Array.getElem?_eq_getElem hs1
    have g2 := hblk.free (k * 2)
    have hi1 : (k : Int) < (l.length : Int) := by omega
    go_wp2
    go_ret
    refine ⟨_, l.set k (s, l[k].2), rfl, setKey_own hbg hblk hlc hm HS.out HT.out k hk s, hfit.set k ?_, by simp; omega, ?_, q5, by omega, by omega, ?_⟩
    · have h2 := hfit _ (List.getElem_mem hk)
      intro x hx
      have : x = (s, l[k].2) := by simpa using hx
      subst this
      exact ⟨by have := ssWrong_small s hs; show s.size ≤ maxLen; unfold maxLen; omega, h2.2⟩
    · exact only_own hg5 hbg _
    · exact hq5.other (by omega) _
  have s0 : ((k4 : Int) == 0) = false := beq_eq_false_iff_ne.2 (by omega)
  by_cases e1 : k4 = 1
  · have s1 : ((k4 : Int) == 1) = true := beq_iff_eq.2 (by omega)
    have E1 := Lib.hid e1
    clear e1
    go_wp2_with fail
    refine (num_d g A n c q4 w4.heap.size zsWrong _ (hq4.alloc _) (by omega) (by have := hq4.lt; omega) (heap_alloc_new w4 _) 2 rfl (by omega) (by omega)).mono ?_
    rintro e w5 ⟨z, rfl, hz, hd5⟩
    obtain ⟨q5, h51, h52, hq5⟩ := hd5.rdr
    have hown5 := (hown4.alloc (.cells (zsWrong.map (Value.int .i64)).toArray 3)).drawn hlt hd5.grown
    have hg5 := (grown_alloc hg4 (.cells (zsWrong.map (Value.int .i64)).toArray 3)).trans hd5.grown
    have hzf := zsWrong_fit z hz
    clear hz
    rcases hown5.cases with ⟨_, e1⟩ | ⟨gb, cap, cur, ev, hbg, hblk, hlc, hm, hsz, htk⟩
    · subst e1; simp at hk
    injection ev with ev1 ev2 ev3
    subst ev1 ev3
    have HT := Lib.hid htk
    have HS := Lib.hid hsz
    have hs1 : k * 2 + 1 < cur.size := by rw [hsz]; omega
    clear htk hsz hown5 hown4
    have g1 : w5.cell? ⟨gb, k * 2 + 1, none⟩ = some cur[k * 2 + 1] := by rw [hblk.cell]; exact Array.getElem?_eq_getElem hs1
    have g2 := hblk.free (k * 2 + 1)
    have hi1 : (k : Int) < (l.length : Int) := by omega
    go_wp2
    go_ret
    refine ⟨_, l.set k (l[k].1, z), rfl, setNum_own hbg hblk hlc hm HS.out HT.out k hk z, hfit.set k ?_, by simp; omega, ?_, q5, by omega, by omega, ?_⟩
    · have h2 := hfit _ (List.getElem_mem hk)
      intro x hx
      have : x = (l[k].1, z) := by simpa using hx
      subst this
      exact ⟨h2.1, hzf⟩
    · exact only_own hg5 hbg _
    · exact hq5.other (by omega) _
  have s1 : ((k4 : Int) == 1) = false := beq_eq_false_iff_ne.2 (by omega)
  by_cases e2 : k4 = 2
  · have s2 : ((k4 : Int) == 2) = true := beq_iff_eq.2 (by omega)
    have E2 := Lib.hid e2
    clear e2
    obtain ⟨A4, c4, ev, hc4, hm4, hrd4⟩ := hown4.read
    injection ev with ev1 ev2 ev3
    subst ev1 ev3
    obtain ⟨b, o, rfl, hbB, hcc1, hcc2⟩ := hrd4.at_ hk
    have hi1 : (k : Int) < (l.length : Int) := by omega
    go_wp2_with ((at_builtin; refine wpList_appR (w4.alloc (.cells #[.string l[k].1, .int .i64 l[k].2] 50)) rfl _ _ _ _ 50 rfl Try.underlying26 Try.underlying26 w.heap.size _ l rfl (hown4.alloc _) (some ⟨w4.heap.size, 0, none⟩) 1 _ 1 [(l[k].1, l[k].2)] rfl rfl (rdOne w4 l[k].1 l[k].2 50) (by simp; omega) (by have := hg4.size; simp; omega) ?_; intro v5 w5 hown5 hgr5 hat5))
    go_ret
    have hblt := hown4.block_lt (g := b) rfl
    refine ⟨v5, _, rfl, hown5, hfit.append (hfit.at_ k hk), by simp; omega, ?_, q4, by omega, by omega, ?_⟩
    · exact only_app (grown_alloc hg4 _) hgr5 (fun j hj => by have : b = j := Option.some.inj hj; omega)
    · exact (hq4.alloc _).app hgr5 (fun hj => by have : b = g := Option.some.inj hj; omega) (fun j hj => by have : b = j := Option.some.inj hj; omega)
  have s2 : ((k4 : Int) == 2) = false := beq_eq_false_iff_ne.2 (by omega)
  clear e0 e1 e2
  go_wp2
  go_loopw [5] (fun o W => ∃ lo : List R, OwnR W w.heap.size o lo ∧ FitR lo ∧ lo.length ≤ 14 ∧ w.grownBy W (some g) ∧ ∃ q, p ≤ q ∧ q ≤ p + 3 + lo.length ∧ Rdr W g A n c q) (fun o _ => 11 - lenV o)
  case atStart => exact ⟨l, hown4, hfit, hl, hg4, q4, by omega, by omega, hq4⟩
  case round =>
    obtain ⟨lo, hown, hfo, hlo, hgo, q, hq1, hq2, hq⟩ := hrel
    have hlv := hown.lenV
    obtain ⟨A5, c5, rfl, hc5, hm5, hrd5⟩ := hown.read
    have HLV := Lib.hid hlv
    clear hlv hown4 hq4 hg4
    by_cases h10 : lo.length ≤ 10
    · have h10i : (lo.length : Int) ≤ 10 := by omega
      go_wp2_with fail
      refine (of_d g A n c q wr.heap.size ssTail _ (hq.alloc _) (by omega) (by have := hq.lt; omega) (heap_alloc_new wr _) 2 rfl (by omega) (by omega)).mono ?_
      rintro e w5 ⟨s, rfl, hs, hd5⟩
      obtain ⟨q5, h51, h52, hq5⟩ := hd5.rdr
      have hown5 := (hown.alloc (.cells (ssTail.map Value.string).toArray 9)).drawn hlt hd5.grown
      have hg5 := (grown_alloc hgo (.cells (ssTail.map Value.string).toArray 9)).trans hd5.grown
      have hsz := ssTail_small s hs
      have hz1 := zsize s
      have HZ := Lib.hid hz1
      clear hz1 hs
      go_wp2_with ((at_builtin; refine wpList_appR (w5.alloc (.cells #[.string (⟨#[122]⟩ ++ s), .int .i64 0] 50)) rfl _ _ _ _ 50 rfl Try.underlying26 Try.underlying26 w.heap.size _ lo rfl (hown5.alloc _) (some ⟨w5.heap.size, 0, none⟩) 1 _ 1 [(⟨#[122]⟩ ++ s, 0)] rfl rfl (rdOne w5 (⟨#[122]⟩ ++ s) 0 50) (by simp; omega) (by have := hg5.size; simp; omega) ?_; intro v6 w6 hown6 hgr6 hat6))
      have hl6 := hown6.lenV
      go_roundw
      case rel => exact ⟨lo ++ [(⟨#[122]⟩ ++ s, 0)], hown6, hfo.append (fitDrawn (by rw [HZ.out]; omega) fitZ0), by simp; omega, only_app (grown_alloc hg5 _) hgr6 (fun j hj => (hown5.block_lt hj).1), q5, by omega, by simp; omega, (hq5.alloc _).app hgr6 (fun hj => by have := (hown5.block_lt hj).1; omega) (fun j hj => by have := (hown5.block_lt hj).1; omega)⟩
      case measure => rw [hl6, HLV.out]; simp; omega
    · have h10i : ¬ ((lo.length : Int) ≤ 10) := by omega
      go_wp2
      go_ret
      exact ⟨_, lo, rfl, hown, hfo, by omega, hgo, q, by omega, by omega, hq⟩

end Go.Proofs.Ytabpepddbkipiaa
