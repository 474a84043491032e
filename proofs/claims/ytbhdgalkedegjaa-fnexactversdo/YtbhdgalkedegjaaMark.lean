/- The law's marks: texts that are written into memory and looked for again. -/
import Derived.Test.YtbhdgalkedegjaaStr
import Derived.Deep.RegionHeld3
import Derived.Laws.IdiomStrings
namespace Go.Proofs.Ytbhdgalkedegjaa
open Go.RowKit
set_option linter.unusedVariables false

/-- a slice of one byte, as the call itself has just made it, made a text -/
theorem oneByte (n : Nat) (W : World) (hn : n < 256) :
    (convert 54 9 (.slice (some ⟨W.heap.size, 0, none⟩) 1 1)).run Try.prog (W.alloc (.cells #[.int .u8 (n : Int)] 5)) = .ok (.string ⟨#[UInt8.ofNat n]⟩) (W.alloc (.cells #[.int .u8 (n : Int)] 5)) := by
  have e : (UInt8.ofNat n).toNat = n := by simp; omega
  exact run_convert_bytes_back (P := Try.prog) (W.alloc (.cells #[.int .u8 (n : Int)] 5)) 54 9 5 ⟨W.heap.size, 0, none⟩ 1 [UInt8.ofNat n] Try.underlying54 Try.underlying5 Try.underlying9 (fun j hj => by
    obtain rfl : j = 0 := by simpa using hj
    simp only [List.getElem_cons_zero, e]
    rw [show (⟨W.heap.size, 0, none⟩ : Addr).add 0 = ⟨W.heap.size, 0, none⟩ from rfl, World.cell?_alloc_at _ _ _ _ rfl]
    rfl)

/-- a digit ahead of a text -/
def digS (m : Nat) (s : ByteArray) : ByteArray := ⟨#[48 + UInt8.ofNat (m % 10)]⟩ ++ s
theorem digS_size (m : Nat) (s : ByteArray) : (digS m s).size = s.size + 1 := by
  unfold digS
  rw [ByteArray.size_append]
  show 1 + s.size = s.size + 1
  omega
/-- the digits of m ahead of a text -/
def digits : Nat → Nat → ByteArray → ByteArray
  | 0, _, s => s
  | _ + 1, 0, s => s
  | f + 1, m + 1, s => digits f ((m + 1) / 10) (digS (m + 1) s)
theorem digits_zero (f : Nat) (s : ByteArray) : digits f 0 s = s := by cases f <;> rfl
theorem digits_step (f m : Nat) (s : ByteArray) (h0 : 0 < m) (h : m ≤ f) : digits f m s = digits (f - 1) (m / 10) (digS m s) := by
  cases f with
  | zero => omega
  | succ f => cases m with
    | zero => omega
    | succ m => rfl
def mt (k : Nat) : ByteArray := ⟨#[109]⟩ ++ digits k k ByteArray.empty

theorem ret_s {a b : ByteArray} (h : a = b) : Ending.returned (.string a) = .returned (.string b) := by rw [h]

set_option maxRecDepth 100000 in
set_option maxHeartbeats 1000000 in
theorem markText_c (k : Nat) (w : World) (h0 : 0 < k) (hk : k ≤ 8388608) :
    Calls Try.prog 71 #[.int .i64 k] w fun e w' => e = .returned (.string (mt k)) ∧ Below w.heap.size w w' := by
  have hp : ¬ ((k : Int) ≤ 0) := by omega
  have hd : decide ((k : Int) ≤ 0) = false := decide_eq_false hp
  go_enter Try.func71, Try.ntmps71
  go_wp2
  go_loopw [0, 3] (fun i o W => ∃ (m : Nat) (s : ByteArray), m + s.size ≤ k ∧ i = .int .i64 m ∧ o = .string s ∧ Below w.heap.size w W ∧ ∃ f, m ≤ f ∧ digits f m s = digits k k ByteArray.empty) (fun i _ _ => (intOf i).toNat)
  case atStart => exact ⟨k, ByteArray.empty, by simp, rfl, rfl, Below.refl _ _, k, Nat.le_refl _, rfl⟩
  case round =>
    obtain ⟨m, s, hms, rfl, rfl, hb, f, hmf, hdig⟩ := hrel
    by_cases hm : 0 < m
    · have hm1 : (0 : Int) < (m : Int) := by omega
      have HD := Lib.hid (digits_step f m s hm hmf)
      have HG := Lib.hid hdig
      clear hdig
      have hcv := oneByte (48 + m % 10) wr (by omega)
      rw [show ((48 + m % 10 : Nat) : Int) = 48 + (m : Int) % 10 from by omega] at hcv
      have hsz := digS_size m s
      have HS := Lib.hid hsz
      clear hsz
      go_wp2
      go_roundw
      case rel => exact ⟨m / 10, digS m s, by rw [HS.out]; omega, by go_num, rfl, hb.alloc hb.size _, f - 1, by omega, by rw [← HD.out]; exact HG.out⟩
      case measure => simp [intOf]; omega
    · have hm0 : m = 0 := by omega
      subst hm0
      have HG := Lib.hid (show s = digits k k ByteArray.empty from by rw [← hdig, digits_zero])
      clear hdig
      have hz : ((1 : Nat) + s.size ≤ 8388609) := by omega
      go_wp2
      go_ret
      exact ⟨ret_s (by unfold mt; rw [← HG.out]), hb⟩

/-- rows in memory of the call's own -/
def OwnR (w : World) (base : Nat) (v : Value) (l : List R) : Prop := w.ownsRow base 90 2 v l.length (cellsR l)

theorem OwnR.cases {w : World} {base : Nat} {v : Value} {l : List R} (h : OwnR w base v l) : (v = .slice none 0 0 ∧ l = []) ∨
    ∃ g cap cur, v = .slice (some ⟨g, 0, none⟩) l.length cap ∧ base ≤ g ∧ Blk w g 90 cur ∧ l.length ≤ cap ∧ cap ≤ maxLen ∧ cur.size = cap * 2 ∧ cur.toList.take (l.length * 2) = cellsR l := by
  rcases h.2 with ⟨h1, h2⟩ | ⟨g, cap, cur, h1, h2, h3, h4, h5, h6, h7⟩
  · exact .inl ⟨h1, List.eq_nil_of_length_eq_zero h2⟩
  · exact .inr ⟨g, cap, cur, h1, h2, h3, h4, h5, h6, h7⟩
theorem OwnR.nil (w : World) (base : Nat) : OwnR w base (.slice none 0 0) [] := ⟨rfl, .inl ⟨rfl, rfl⟩⟩
theorem OwnR.mk {w : World} {base g cap : Nat} {cur : Array Value} {l : List R} (hb : base ≤ g) (h : Blk w g 90 cur) (hl : l.length ≤ cap) (hc : cap ≤ maxLen) (hs : cur.size = cap * 2)
    (ht : cur.toList.take (l.length * 2) = cellsR l) : OwnR w base (.slice (some ⟨g, 0, none⟩) l.length cap) l := ⟨cellsR_length l, .inr ⟨g, cap, cur, rfl, hb, h, hl, hc, hs, ht⟩⟩
theorem OwnR.of_blk {w : World} {base g : Nat} {l : List R} (hb : base ≤ g) (h : Blk w g 90 (cellsR l).toArray) (hl : l.length ≤ maxLen) : OwnR w base (.slice (some ⟨g, 0, none⟩) l.length l.length) l :=
  OwnR.mk hb h (Nat.le_refl _) hl (by simp [cellsR_length]) (by rw [List.take_of_length_le]; simp [cellsR_length])
/-- the slice's value, and how it reads -/
theorem OwnR.read {w : World} {base : Nat} {v : Value} {l : List R} (h : OwnR w base v l) : ∃ A c, v = .slice A l.length c ∧ l.length ≤ c ∧ c ≤ maxLen ∧ Rd w w.heap.size A l := by
  rcases h.cases with ⟨rfl, rfl⟩ | ⟨g, cap, cur, rfl, hb, hblk, hl, hm, hs, ht⟩
  · exact ⟨none, 0, rfl, Nat.le_refl _, by unfold maxLen; omega, Rd.nil⟩
  · refine ⟨_, cap, rfl, hl, hm, fun i r hi => ⟨g, 0, rfl, hblk.lt, ?_, ?_⟩⟩
    · have h1 := cellsR_key l i r hi
      have hil := (List.getElem?_eq_some_iff.1 hi).1
      rw [← ht, List.getElem?_take_of_lt (by omega)] at h1
      rw [hblk.cell]; simpa using h1
    · have h1 := cellsR_num l i r hi
      have hil := (List.getElem?_eq_some_iff.1 hi).1
      rw [← ht, List.getElem?_take_of_lt (by omega)] at h1
      rw [hblk.cell]; simpa using h1
theorem OwnR.keep {w w' : World} {base : Nat} {v : Value} {l : List R} (h : OwnR w base v l) (hk : ∀ g, v.ownBlock = some g → w'.heap[g]? = w.heap[g]?) : OwnR w' base v l := by
  rcases h.cases with ⟨rfl, rfl⟩ | ⟨g, cap, cur, rfl, hb, hblk, hl, hm, hs, ht⟩
  · exact OwnR.nil _ _
  · exact OwnR.mk hb ((hk g rfl).trans hblk) hl hm hs ht
theorem OwnR.block_lt {w : World} {base : Nat} {v : Value} {l : List R} (h : OwnR w base v l) {g : Nat} (hg : v.ownBlock = some g) : base ≤ g ∧ g < w.heap.size := by
  rcases h.cases with ⟨rfl, rfl⟩ | ⟨g', cap, cur, rfl, hb, hblk, _⟩
  · simp [Value.ownBlock] at hg
  · have : g' = g := by simpa [Value.ownBlock] using hg
    subst this
    exact ⟨hb, hblk.lt⟩
theorem OwnR.next {w w' : World} {base : Nat} {v : Value} {l : List R} (h : OwnR w base v l) (hb : Below w.heap.size w w') : OwnR w' base v l := h.keep fun g hg => hb.block g (h.block_lt hg).2
theorem OwnR.low {w : World} {base base' : Nat} {v : Value} {l : List R} (h : OwnR w base v l) (hb : base' ≤ base) : OwnR w base' v l := by
  rcases h.cases with ⟨rfl, rfl⟩ | ⟨g, cap, cur, rfl, hb', hblk, hl, hm, hs, ht⟩
  · exact OwnR.nil _ _
  · exact OwnR.mk (by omega) hblk hl hm hs ht

def marksR (n k : Nat) : List R := (List.range n).map fun i => (mt (k + 2 * i), ((k + 2 * i + 1 : Nat) : Int))
theorem marksR_length (n k : Nat) : (marksR n k).length = n := by simp [marksR]
theorem marksR_get (n k i : Nat) (r : R) (h : (marksR n k)[i]? = some r) : i < n ∧ r = (mt (k + 2 * i), ((k + 2 * i + 1 : Nat) : Int)) := by
  have hi : i < n := by have := (List.getElem?_eq_some_iff.1 h).1; simpa [marksR_length] using this
  refine ⟨hi, ?_⟩
  unfold marksR at h
  rw [List.getElem?_map, List.getElem?_range hi] at h
  simpa using h.symm

theorem take_ext (l : List R) (cs : Array Value) (hs : l.length * 2 ≤ cs.size) (h : ∀ i r, l[i]? = some r → cs[i * 2]? = some (.string r.1) ∧ cs[i * 2 + 1]? = some (.int .i64 r.2)) : cs.toList.take (l.length * 2) = cellsR l := by
  have e := cellsR_ext l (cs.toList.take (l.length * 2)).toArray (by simp; omega) fun i r hi => by
    have hil := (List.getElem?_eq_some_iff.1 hi).1
    obtain ⟨h1, h2⟩ := h i r hi
    constructor
    · simp only [List.getElem?_toArray]
      rw [List.getElem?_take_of_lt (by omega)]; simpa using h1
    · simp only [List.getElem?_toArray]
      rw [List.getElem?_take_of_lt (by omega)]; simpa using h2
  have := congrArg Array.toList e
  simpa using this

/-- only block g has turned; what is new is new -/
theorem grown_call {a w w' : World} {g : Nat} (h : a.grownBy w (some g)) (hb : Below w.heap.size w w') : a.grownBy w' (some g) :=
  ⟨hb.os.trans h.os, hb.tape.trans h.tape, hb.output.trans h.output, Nat.le_trans h.size hb.size, fun k hk hne => (hb.block k (Nat.lt_of_lt_of_le hk h.size)).trans (h.block k hk hne)⟩
theorem grown_set {a w : World} {g i : Nat} (h : a.grownBy w (some g)) (u : Value) : a.grownBy (w.setCell ⟨g, i, none⟩ u) (some g) :=
  ⟨h.os, h.tape, h.output, by simpa [World.setCell] using h.size, fun k hk hne => (Below.heap_setCell w ⟨g, i, none⟩ u k (by rintro rfl; exact hne rfl)).trans (h.block k hk hne)⟩

theorem mark_step (cs : Array Value) (k j K : Nat) (hK : k + 2 * j = K) (hs : j * 2 + 1 < cs.size) (h : ∀ i, i < j → cs[i * 2]? = some (.string (mt (k + 2 * i))) ∧ cs[i * 2 + 1]? = some (.int .i64 (k + 2 * i + 1 : Nat))) :
    ∀ i, i < j + 1 → (putR cs j (mt K, (K : Int) + 1))[i * 2]? = some (.string (mt (k + 2 * i))) ∧ (putR cs j (mt K, (K : Int) + 1))[i * 2 + 1]? = some (.int .i64 (k + 2 * i + 1 : Nat)) := by
  intro i hi
  unfold putR
  by_cases e : i = j
  · subst e
    rw [Array.getElem?_setIfInBounds_ne (by omega), Array.getElem?_setIfInBounds_self_of_lt (by omega), Array.getElem?_setIfInBounds_self_of_lt (by simp; omega), hK]
    exact ⟨rfl, rfl⟩
  · rw [Array.getElem?_setIfInBounds_ne (by omega), Array.getElem?_setIfInBounds_ne (by omega), Array.getElem?_setIfInBounds_ne (by omega), Array.getElem?_setIfInBounds_ne (by omega)]
    exact h i (by omega)

set_option maxRecDepth 100000 in
set_option maxHeartbeats 1000000 in
theorem markRowS_some (g n cap k : Nat) (cur : Array Value) (w : World) (hblk : Blk w g 90 cur) (hn : n ≤ cap) (hs : cur.size = cap * 2) (h0 : 0 < k) (hk : k + 2 * n ≤ 8388608) :
    Calls Try.prog 29 #[.slice (some ⟨g, 0, none⟩) n cap, .int .i64 k] w fun e w' => e = .returned (.int .i64 (k + 2 * n : Nat)) ∧
      ∃ cur', Blk w' g 90 cur' ∧ cur'.size = cap * 2 ∧ cur'.toList.take (n * 2) = cellsR (marksR n k) ∧ w.grownBy w' (some g) := by
  go_enter Try.func29, Try.ntmps29
  go_wp2
  go_loopw [1, 5] (fun kk i W => ∃ j : Nat, j ≤ n ∧ i = .int .i64 j ∧ kk = .int .i64 (k + 2 * j : Nat) ∧ ∃ cs : Array Value, Blk W g 90 cs ∧ cs.size = cap * 2 ∧ (∀ i, i < j → cs[i * 2]? = some (.string (mt (k + 2 * i))) ∧ cs[i * 2 + 1]? = some (.int .i64 (k + 2 * i + 1 : Nat))) ∧ w.grownBy W (some g)) (fun _ i _ => n - (intOf i).toNat)
  case atStart => exact ⟨0, Nat.zero_le _, rfl, rfl, cur, hblk, hs, fun i h => absurd h (by omega), World.grownBy.refl _ _⟩
  case round =>
    obtain ⟨j, hj, rfl, rfl, cs, hb, hsz, hcs, hg⟩ := hrel
    have HCS := Lib.hid hcs
    have HSZ := Lib.hid hsz
    clear hcs hsz
    by_cases hjn : j < n
    · have hs1 : j * 2 < cs.size := by rw [HSZ.out]; omega
      have hs2 : j * 2 + 1 < cs.size := by rw [HSZ.out]; omega
      have hkj : 0 < k + 2 * j := by omega
      have hkj2 : k + 2 * j + 2 ≤ 8388608 := by omega
      generalize hK : k + 2 * j = K at *
      have HK := Lib.hid hK
      clear hK
      go_wp2_with ((go_at_call 71; refine (markText_c K _ hkj (by omega)).mono ?_; rintro e w' ⟨rfl, hb2⟩; have hblk2 := Lib.hid (hb.next hb2); have g1 : w'.cell? ⟨g, j * 2, none⟩ = some cs[j * 2] := by { rw [hblk2.out.cell]; exact Array.getElem?_eq_getElem hs1 }; have g2 : w'.cell? ⟨g, j * 2 + 1, none⟩ = some cs[j * 2 + 1] := by { rw [hblk2.out.cell]; exact Array.getElem?_eq_getElem hs2 }; have g3 := hblk2.out.free (j * 2); have g4 := hblk2.out.free (j * 2 + 1)))
      go_roundw
      case rel => exact ⟨j + 1, by omega, by go_num, by rw [← HK.out]; go_num, putR cs j (mt K, (K : Int) + 1), (hblk2.out.set_ _ _).set_ _ _, (putR_size _ _ _).trans HSZ.out, mark_step cs k j K HK.out (by rw [HSZ.out]; omega) HCS.out, grown_set (grown_set (grown_call hg hb2) _) _⟩
      case measure => simp [intOf]; omega
    · have hjj : j = n := by omega
      subst hjj
      go_wp2
      go_ret
      exact ⟨ret_int (by omega), cs, hb, HSZ.out, by
        have e := take_ext (marksR j k) cs (by rw [marksR_length, HSZ.out]; omega) fun i r hi => by
          obtain ⟨h1, rfl⟩ := marksR_get j k i r hi
          exact HCS.out i h1
        rwa [marksR_length] at e, hg⟩

set_option maxRecDepth 100000 in
set_option maxHeartbeats 1000000 in
theorem markRowS_nil (k : Nat) (w : World) :
    Calls Try.prog 29 #[.slice none 0 0, .int .i64 k] w fun e w' => e = .returned (.int .i64 k) ∧ w = w' := by
  go_enter Try.func29, Try.ntmps29
  go_wp2
  go_loop [1, 5] (fun kk i => kk = .int .i64 k ∧ i = .int .i64 0) (fun _ _ => 0)
  case atStart => exact ⟨rfl, rfl⟩
  case round =>
    obtain ⟨rfl, rfl⟩ := hrel
    go_wp2
    go_ret
    exact ⟨rfl, rfl⟩

theorem markR_c (v : Value) (l : List R) (base k : Nat) (w : World) (h : OwnR w base v l) (h0 : 0 < k) (hk : k + 2 * l.length ≤ 8388608) :
    Calls Try.prog 29 #[v, .int .i64 k] w fun e w' => e = .returned (.int .i64 (k + 2 * l.length : Nat)) ∧ OwnR w' base v (marksR l.length k) ∧ w.grownBy w' v.ownBlock := by
  rcases h.cases with ⟨rfl, rfl⟩ | ⟨g, cap, cur, rfl, hb, hblk, hl, hm, hs, ht⟩
  · refine (markRowS_nil k w).mono ?_
    rintro e w' ⟨rfl, rfl⟩
    exact ⟨rfl, OwnR.nil _ _, World.grownBy.refl _ _⟩
  · refine (markRowS_some g l.length cap k cur w hblk hl hs h0 hk).mono ?_
    rintro e w' ⟨rfl, cur', h1, h2, h3, h4⟩
    refine ⟨rfl, ?_, h4⟩
    have e := OwnR.mk (l := marksR l.length k) hb h1 (by rw [marksR_length]; exact hl) hm h2 (by rw [marksR_length]; exact h3)
    rwa [marksR_length] at e

set_option maxRecDepth 100000 in
set_option maxHeartbeats 1000000 in
theorem heldRowS_c (A : Option Addr) (c n k : Nat) (w : World) (h0 : 0 < k) (hk : k + 2 * n ≤ 8388608) (hr : Rd w w.heap.size A (marksR n k)) :
    Calls Try.prog 30 #[.slice A n c, .int .i64 k] w fun e w' => e = .returned (.int .i64 (k + 2 * n : Nat)) ∧ Below w.heap.size w w' := by
  go_enter Try.func30, Try.ntmps30
  go_wp2
  go_loopw [1, 5] (fun kk i W => ∃ j : Nat, j ≤ n ∧ i = .int .i64 j ∧ kk = .int .i64 (k + 2 * j : Nat) ∧ Below w.heap.size w W) (fun _ i _ => n - (intOf i).toNat)
  case atStart => exact ⟨0, Nat.zero_le _, rfl, rfl, Below.refl _ _⟩
  case round =>
    obtain ⟨j, hj, rfl, rfl, hb⟩ := hrel
    by_cases hjn : j < n
    · have hml : j < (marksR n k).length := by rw [marksR_length]; exact hjn
      obtain ⟨b, o, rfl, hbB, hc1, hc2⟩ := (hr.below hb).at_ hml
      have hv := (marksR_get n k j _ (List.getElem?_eq_getElem hml)).2
      rw [hv] at hc1 hc2
      clear hv
      have hkj : 0 < k + 2 * j := by omega
      have hkj2 : k + 2 * j + 2 ≤ 8388608 := by omega
      generalize hK : k + 2 * j = K at *
      have HK := Lib.hid hK
      clear hK
      have hq : b < wr.heap.size := Nat.lt_of_lt_of_le hbB hb.size
      have hbT : Below wr.heap.size wr wr.drew := (Below.refl _ _).drew
      have hc2' : wr.cell? ⟨b, o + j * 2 + 1, none⟩ = some (.int .i64 ((K : Int) + 1)) := by rw [hc2]; rfl
      have HC2 := Lib.hid hc2'
      clear hc2 hc2'
      go_wp2
      go_region_held3 (fun W => W.cell? ⟨b, o + j * 2, none⟩ = some (.string (mt K))) (first | exact hc1 | exact (hbT.cell hq).trans hc1)
          (first | (go_at_call 71; refine (markText_c K _ hkj (by omega)).mono ?_; rintro e w' ⟨rfl, hb2⟩; have hbT := hbT.trans (hb2.mono hbT.size); clear hb2))
      have hc2 := (hbT.cell (p := ⟨b, o + j * 2 + 1, none⟩) hq).trans HC2.out
      go_wp2
      go_roundw
      case rel => exact ⟨j + 1, by omega, by go_num, by rw [← HK.out]; go_num, hb.trans (hbT.mono hb.size)⟩
      case measure => simp [intOf]; omega
    · have hjj : j = n := by omega
      subst hjj
      go_wp2
      go_ret
      exact ⟨ret_int (by omega), hb⟩

theorem heldR_c (v : Value) (n base k : Nat) (w : World) (h : OwnR w base v (marksR n k)) (h0 : 0 < k) (hk : k + 2 * n ≤ 8388608) :
    Calls Try.prog 30 #[v, .int .i64 k] w fun e w' => e = .returned (.int .i64 (k + 2 * n : Nat)) ∧ Below w.heap.size w w' := by
  obtain ⟨A, c, rfl, _, _, hr⟩ := h.read
  rw [marksR_length]
  exact heldRowS_c A c n k w h0 hk hr

end Go.Proofs.Ytbhdgalkedegjaa
