/- All letters are taken: the program. -/
import Derived.Test.YtilcncnhkidndaaDoorL5f
import Derived.Test.YtilcncnhkidndaaDoorL5t
import Derived.Deep.RegionHeld3
namespace Go.Proofs.YtilcncnhkidndaaDoor
open Go.RowKit
set_option linter.unusedVariables false
set_option maxRecDepth 100000

/-- what LetterAll finds in bytes -/
def AllP (x : Bs) (ls : List LE) (r : Bs) (c : Nat) : Prop := (400 < x.length → ls = [] ∧ r = [] ∧ c = 2) ∧ (x.length ≤ 400 → AllR x ls r c)
theorem AllP.unique {x r r' : Bs} {ls ls' : List LE} {c c' : Nat} (h : AllP x ls r c) (h' : AllP x ls' r' c') : ls = ls' ∧ r = r' ∧ c = c' := by
 by_cases hx : 400 < x.length
 ·
  obtain ⟨a, b, c⟩ := h.1 hx
  obtain ⟨a', b', c'⟩ := h'.1 hx
  exact ⟨a.trans a'.symm, b.trans b'.symm, c.trans c'.symm⟩
 ·
  exact (h.2 (by omega)).unique (h'.2 (by omega))
/-- what LetterAll answers -/
def RetAll (w : World) (x : Bs) (e : Ending) (w' : World) : Prop :=
 ∃ v ls t c, e = .returned (.tuple #[v, .string t, .int .i64 ((c : Nat) : Int)]) ∧ OwnG w' w.heap.size v (ls : List LE) ∧ AllP x ls (bs t) c ∧ Below w.heap.size w w'
def szS : Value → Nat
 | .string s => s.size
 | _ => 0
/-- as far as it has come: these letters, and these bytes are left -/
def AllS (x : Bs) (ls : List LE) (t : ByteArray) : Prop := x = catL ls ++ bs t ∧ (∀ l ∈ ls, okB l = true)
theorem AllS.sizes {x : Bs} {ls : List LE} {t : ByteArray} (h : AllS x ls t) : 3 * ls.length ≤ x.length ∧ t.size ≤ x.length := by
 have := catL_length h.2
 have e := congrArg List.length h.1
 rw [List.length_append, bs_length] at e
 omega
theorem AllS.more {x : Bs} {ls : List LE} {t : ByteArray} (h : AllS x ls t) (hc : codeL (bs t) = 0) : AllS x (ls ++ [tookL (bs t)]) (t.extract (cntL (bs t)) t.size) := by
 have hn : cntL (bs t) = needL (bs t) := if_pos hc
 refine ⟨?_, ?_⟩
 ·
  have hs : (bs t).take t.size = bs t := List.take_of_length_le (Nat.le_of_eq (bs_length t))
  rw [bs_extract, hs, hn, catL_append, catL_one, List.append_assoc, ← took_split hc]
  exact h.1
 ·
  intro l hl
  rcases List.mem_append.1 hl with h1 | h1
  ·
   exact h.2 l h1
  ·
   simp at h1; subst h1; exact (took_enc hc).1
theorem AllS.stop {x : Bs} {ls : List LE} {t : ByteArray} {c : Nat} (h : AllS x ls t) (h0 : 0 < t.size) (hc : codeL (bs t) = c) (h1 : c ≠ 0) (hx : x.length ≤ 400) : AllP x ls (bs t) c := by
 refine ⟨fun h => by omega, fun _ => ⟨h.1, h.2, ?_, fun _ => by omega⟩⟩
 have : bs t ≠ [] := fun e => by have h2 : (bs t).length = 0 := (by rw [e]; rfl); have h3 := bs_length t; omega
 rw [if_neg this, hc]
theorem AllS.done {x : Bs} {ls : List LE} {t : ByteArray} (h : AllS x ls t) (h0 : t.size = 0) (hx : x.length ≤ 400) : AllP x ls (bs ⟨#[]⟩) 0 := by
 have : bs t = [] := List.eq_nil_of_length_eq_zero h0
 refine ⟨fun h => by omega, fun _ => ⟨?_, h.2, rfl, fun h => absurd rfl h⟩⟩
 have h1 := h.1
 rw [this] at h1
 exact h1
theorem str_emp5 (s : ByteArray) : s.toList.isEmpty = decide (s.size = 0) := by
 rw [ByteArray.toList_eq]
 apply Bool.eq_iff_iff.2
 simp only [List.isEmpty_iff, decide_eq_true_eq]
 constructor
 ·
  intro h; show s.data.size = 0; rw [← Array.length_toList, h]; rfl
 ·
  intro h; exact List.eq_nil_of_length_eq_zero h
theorem str_ne5 {s : ByteArray} (h : 0 < s.size) : s.toList.isEmpty = false ∧ ¬ s.toList = [] := by
 have h1 : s.toList.isEmpty = false := by rw [str_emp5]; exact decide_eq_false (by omega)
 exact ⟨h1, fun e => by rw [e] at h1; cases h1⟩
theorem str_e5 {s : ByteArray} (h : s.size = 0) : s.toList.isEmpty = true ∧ s.toList = [] := by
 have h1 : s.toList.isEmpty = true := by rw [str_emp5]; exact decide_eq_true h
 exact ⟨h1, List.isEmpty_iff.1 h1⟩
set_option maxHeartbeats 8000000 in
theorem implAll (s : ByteArray) (a0 a1 : Addr) (w : World) (hs : s.size ≤ maxLen) (GE : GlE w a0 a1) :
  Calls Tryd.prog 21 #[.string s] w (RetAll w (bs s)) := by
 by_cases hbig : 400 < s.size
 ·
  have hbi : (400 : Int) < (s.size : Int) := by omega
  go_enter Tryd.func21, Tryd.ntmps21
  go_wp2
  refine bodyPost_ret (v := .tuple #[.slice none 0 0, .string ⟨#[]⟩, .int .i64 ((2 : Nat) : Int)]) (by simp [results, Tryd.results21, go_sem]) rfl ⟨_, [], _, 2, rfl, OwnG.nil _ _, ⟨fun _ => ⟨rfl, rfl, rfl⟩, fun h => by have : (bs s).length = s.size := rfl; omega⟩, Below.refl _ _⟩
 have hbi : ¬ ((400 : Int) < (s.size : Int)) := by omega
 have hx4 : (bs s).length ≤ 400 := by have : (bs s).length = s.size := rfl; omega
 obtain ⟨x, HX⟩ : ∃ x, Hid (bs s = x) := ⟨_, Lib.hid rfl⟩
 have hst : AllS (bs s) [] s := ⟨by simp [catL], fun l hl => by simp at hl⟩
 rw [HX.out] at hst hx4
 rw [HX.out]
 have HST := Lib.hid hst
 have HX4 := Lib.hid hx4
 clear hst hx4 HX
 have HG := Lib.hid GE
 clear GE
 have hs4 : s.size ≤ 400 := by omega
 go_enter Tryd.func21, Tryd.ntmps21
 go_wp2
 go_loopw [5, 6] (fun v i W => ∃ (ls : List LE) (t : ByteArray), i = .string t ∧ OwnG W w.heap.size v ls ∧ AllS x ls t ∧ Below w.heap.size w W ∧ t.size ≤ 400) (fun _ i _ => szS i)
 case atStart => exact ⟨[], s, rfl, OwnG.nil _ _, HST.out, Below.refl _ _, hs4⟩
 case round =>
  obtain ⟨ls, t, rfl, hown, hall, hb, ht4⟩ := hrel
  obtain ⟨vb, vn, vc, rfl⟩ := hown.slice
  have hsz := hb.size
  have HA := Lib.hid hall
  have HL := Lib.hid (show ls.length ≤ 134 from by have := hall.sizes; have := HX4.out; omega)
  clear hall
  by_cases hz : t.size = 0
  ·
   have HZ := Lib.hid hz
   have hz1 := (str_e5 hz).1
   have hz2 := (str_e5 hz).2
   clear hz
   go_wp2
   refine bodyPost_ret (v := .tuple #[.slice vb vn vc, .string ⟨#[]⟩, .int .i64 ((0 : Nat) : Int)]) (by simp [results, Tryd.results21, go_sem]) rfl ⟨_, ls, _, 0, rfl, hown, HA.out.done HZ.out HX4.out, hb⟩
  ·
   replace hz : 0 < t.size := by omega
   have HZ := Lib.hid hz
   have hz1 := (str_ne5 hz).1
   have hz2 := (str_ne5 hz).2
   clear hz
   obtain ⟨ts, tb, HT⟩ : ∃ a b, Hid (tookL (bs t) = ⟨a, b⟩) := ⟨_, _, Lib.hid rfl⟩
   obtain ⟨cn, HN⟩ : ∃ n, Hid (cntL (bs t) = n) := ⟨_, Lib.hid rfl⟩
   obtain ⟨cd, HC⟩ : ∃ n, Hid (codeL (bs t) = n) := ⟨_, Lib.hid rfl⟩
   have htm : t.size ≤ maxLen := by unfold maxLen; omega
   have HS := Lib.hid (implTake t a0 a1 wr htm (HG.out.below hb HG.out.low HG.out.lt.1 HG.out.lt.2))
   go_wp2_with fail
   refine HS.out.mono ?_
   unfold RetTake
   rw [HT.out, HN.out, HC.out]
   rintro e w1 ⟨rfl, hw1⟩
   have hO1 := hown.next hw1
   obtain ⟨V1, eV1, -, B1, hV1⟩ := al1 w1 rfl #[.string ts, .string tb] 24
   have hO2 := Lib.hid (hO1.next hV1)
   have hb2 := Lib.hid (below_next (below_next hb hw1) hV1)
   have s1 := hw1.size
   have s2 := hV1.size
   have q0 : V1.cell? ⟨w1.heap.size, 0, none⟩ = some (.string ts) := B1.cell 0
   have q1 : V1.cell? ⟨w1.heap.size, 1, none⟩ = some (.string tb) := B1.cell 1
   clear hO1 hown hb hw1 hV1 B1
   by_cases hc : cd = 0
   ·
    subst hc
    have HM := Lib.hid (HA.out.more HC.out)
    rw [HT.out, HN.out] at HM
    have HCN := Lib.hid (show 3 ≤ cn ∧ cn ≤ t.size from by have h1 : cntL (bs t) = needL (bs t) := if_pos HC.out; have h2 := need_ge (bs t); have h3 := (len_le HC.out).2.2; rw [bs_length] at h3; rw [← HN.out, h1]; omega)
    have hcn1 : (cn : Int) ≤ (t.size : Int) := by have := HCN.out; omega
    have hcn2 : cn ≤ t.size := HCN.out.2
    obtain ⟨V2, eV2, -, B2, hV2⟩ := al1 V1 rfl #[.string ts, .string tb] 24
    have hR : RdG V2 V2.heap.size (some ⟨V1.heap.size, 0, none⟩) [(⟨ts, tb⟩ : LE)] := eV2 ▸ rdOneLE V1 ⟨ts, tb⟩ _
    have HR := Lib.hid hR
    have hO3 := Lib.hid (hO2.out.next hV2)
    have hb3 := Lib.hid (below_next hb2.out hV2)
    have s3 := hV2.size
    clear hR B2 hV2
    go_wp2_with (at_builtin; refine wpList_appG (α := LE) V2 rfl _ _ 32 32 24 rfl Tryd.underlying32 Tryd.underlying32 w.heap.size _ ls rfl hO3.out _ _ _ _ [⟨ts, tb⟩] rfl rfl HR.out (by have := HL.out; simp; omega) (by omega) ?_; intro v2 w2 o2 g2 _; have b2 := Lib.hid (hO3.out.belB g2 (by omega)); have OO2 := Lib.hid o2; clear o2 g2)
    go_roundw
    case rel => exact ⟨ls ++ [⟨ts, tb⟩], t.extract cn t.size, by rfl, OO2.out, HM.out, hb3.out.trans b2.out, by simp [ByteArray.size_extract]; omega⟩
    case measure => have := HCN.out; have := HZ.out; simp [szS, ByteArray.size_extract]; omega
   ·
    have HCD := Lib.hid hc
    go_wp2
    refine bodyPost_ret (v := .tuple #[.slice vb vn vc, .string t, .int .i64 (cd : Int)]) (by simp [results, Tryd.results21, go_sem]) rfl ⟨_, ls, _, cd, rfl, hO2.out, HA.out.stop HZ.out HC.out HCD.out HX4.out, hb2.out⟩
end Go.Proofs.YtilcncnhkidndaaDoor
