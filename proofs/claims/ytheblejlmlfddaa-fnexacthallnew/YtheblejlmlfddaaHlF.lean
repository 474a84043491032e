/- Lists of those who talk: how they lie in memory; the laws' own copies, sizes, comparisons of them. -/
import Derived.Test.YtheblejlmlfddaaTkF
import Derived.Deep.RegionHeld3
namespace Go.Proofs.Ytheblejlmlfddaa
open Go.RowKit
set_option linter.unusedVariables false
set_option maxRecDepth 100000

/-- one who talks, and where the lists lie -/
structure TT where
 t : Tk
 A : Option Addr
 c : Nat
 B : Option Addr
 d : Nat
def csTT (x : TT) : List Value := [.bool x.t.on, .bool x.t.bad, .int .i64 x.t.a, .slice x.A x.t.ws.length x.c, .slice x.B x.t.ns.length x.d, .bool x.t.sk, .bool x.t.gn, .string x.t.inn]
instance elTT : Elt TT where
 T := 57
 wd := 8
 byt := 88
 zero := .agg #[.bool false, .bool false, .int .i64 0, .slice none 0 0, .slice none 0 0, .bool false, .bool false, .string ByteArray.empty]
 cs := csTT
 len := fun _ => rfl
 pos := by omega
 one := by
  intro a u hu
  simp only [csTT, List.mem_cons, List.not_mem_nil, or_false] at hu
  rcases hu with rfl | rfl | rfl | rfl | rfl | rfl | rfl | rfl <;> rfl
 info := by kernel_rfl
 zsize := rfl
 small := by omega
section
variable {w w' : World} {B : Nat} {A : Option Addr} {l : List TT}
theorem RdG.atTT (h : RdG w B A l) {i : Nat} (hi : i < l.length) : ∃ b o, A = some ⟨b, o, none⟩ ∧ b < B ∧ w.cell? ⟨b, o + i * 8, none⟩ = some (.bool l[i].t.on) ∧ w.cell? ⟨b, o + i * 8 + 1, none⟩ = some (.bool l[i].t.bad) ∧ w.cell? ⟨b, o + i * 8 + 2, none⟩ = some (.int .i64 l[i].t.a) ∧ w.cell? ⟨b, o + i * 8 + 3, none⟩ = some (.slice l[i].A l[i].t.ws.length l[i].c) ∧ w.cell? ⟨b, o + i * 8 + 4, none⟩ = some (.slice l[i].B l[i].t.ns.length l[i].d) ∧ w.cell? ⟨b, o + i * 8 + 5, none⟩ = some (.bool l[i].t.sk) ∧ w.cell? ⟨b, o + i * 8 + 6, none⟩ = some (.bool l[i].t.gn) ∧ w.cell? ⟨b, o + i * 8 + 7, none⟩ = some (.string l[i].t.inn) := by
 obtain ⟨b, o, e, hb, h1⟩ := h.at_ hi
 exact ⟨b, o, e, hb, h1 0 _ rfl, h1 1 _ rfl, h1 2 _ rfl, h1 3 _ rfl, h1 4 _ rfl, h1 5 _ rfl, h1 6 _ rfl, h1 7 _ rfl⟩
end
/-- the lists of one are read -/
def RdTT (w : World) (B : Nat) (x : TT) : Prop := x.t.ws.length ≤ x.c ∧ x.c ≤ maxLen ∧ x.t.ns.length ≤ x.d ∧ x.d ≤ maxLen ∧ RdG w B x.A x.t.ws ∧ RdG w B x.B x.t.ns
/-- the lists of one are the call's own -/
def OwTT (w : World) (base : Nat) (x : TT) : Prop := OwnG w base (.slice x.A x.t.ws.length x.c) x.t.ws ∧ OwnG w base (.slice x.B x.t.ns.length x.d) x.t.ns
def ofTT (l : List TT) : List Tk := l.map TT.t
theorem ofTT_len (l : List TT) : (ofTT l).length = l.length := List.length_map ..
theorem ofTT_get {l l' : List TT} (h : ofTT l = ofTT l') {k : Nat} (hk : k < l.length) (hk' : k < l'.length) : l[k].t = l'[k].t := by
 have h1 : (ofTT l)[k]'(by rw [ofTT_len]; exact hk) = (ofTT l')[k]'(by rw [ofTT_len]; exact hk') := by simp only [h]
 simpa [ofTT] using h1
section
variable {w w' : World} {base : Nat} {x : TT} {l l' : List TT}
theorem RdTT.next (h : RdTT w w.heap.size x) (hb : Below w.heap.size w w') : RdTT w' w'.heap.size x := ⟨h.1, h.2.1, h.2.2.1, h.2.2.2.1, h.2.2.2.2.1.next hb, h.2.2.2.2.2.next hb⟩
theorem OwTT.next (h : OwTT w base x) (hb : Below w.heap.size w w') : OwTT w' base x := ⟨h.1.next hb, h.2.next hb⟩
theorem OwTT.low {base' : Nat} (h : OwTT w base x) (hb : base' ≤ base) : OwTT w base' x := ⟨h.1.low hb, h.2.low hb⟩
theorem OwTT.chg {g : Nat} (h : OwTT w base x) (k : Chg (fun k => k = g) w w') (hg : g < base) : OwTT w' base x :=
 ⟨h.1.chg k fun j hj => by have := (h.1.block_lt hj).1; omega, h.2.chg k fun j hj => by have := (h.2.block_lt hj).1; omega⟩

/-- values and letters of a list of those who talk -/
def totTk (t : Tk) : Nat := totalX t.ws + totalN5 t.ns + t.inn.size
def totalTT (l : List TT) : Nat := (l.map fun r => totTk r.t + 1).sum
theorem totalTT_take_succ (l : List TT) (k : Nat) (h : k < l.length) : totalTT (l.take (k + 1)) = totalTT (l.take k) + (totTk l[k].t + 1) := by
 unfold totalTT; rw [List.take_succ_eq_append_getElem h, List.map_append, List.sum_append]; simp
theorem totalTT_take_ge (l : List TT) (k : Nat) : totalTT (l.take k) + (l.length - k) ≤ totalTT l := by
 have h2 : (l.drop k).length ≤ totalTT (l.drop k) := by
  generalize l.drop k = m
  induction m with
  | nil => simp
  | cons a m ih => unfold totalTT at ih ⊢; simp only [List.map_cons, List.sum_cons, List.length_cons]; omega
 have h3 : totalTT l = totalTT (l.take k) + totalTT (l.drop k) := by
  conv => lhs; rw [← List.take_append_drop k l]
  unfold totalTT; rw [List.map_append, List.sum_append]
 rw [List.length_drop] at h2
 omega
theorem totalTT_len (l : List TT) : l.length ≤ totalTT l := by have := totalTT_take_ge l 0; simp [totalTT] at this ⊢; omega
theorem totTk_le {l : List TT} (k : Nat) (h : k < l.length) : totTk l[k].t ≤ totalTT l := by
 have h1 := totalTT_take_succ l k h
 have h2 := totalTT_take_ge l (k + 1)
 omega
/-- each fits, and its lists are read -/
def FitTTs (w : World) (B : Nat) (l : List TT) : Prop := ∀ x ∈ l, FitTk x.t ∧ RdTT w B x

set_option maxHeartbeats 2000000 in
theorem szTalkS_c (A : Option Addr) (c : Nat) (l : List TT) (left : Int) (w : World) (hfit : FitTTs w w.heap.size l) (hc : l.length ≤ c) (hcm : c ≤ maxLen) (h0 : 0 ≤ left) (h1 : left ≤ 1048576) (hr : RdG w w.heap.size A l) :
  Calls Try.prog 35 #[.slice A l.length c, .int .i64 left] w fun e w' => e = .returned (.int .i64 (szR left (totalTT l))) ∧ Below w.heap.size w w' := by
 unfold maxLen at hcm
 have htl := totalTT_len l
 by_cases h : left < (l.length : Int)
 ·
  have hd : decide (left - (l.length : Int) < 0) = true := by simp; omega
  have HN := Lib.hid (szR_neg (left := left) (k := totalTT l) (by omega))
  go_enter Try.func35, Try.ntmps35
  go_wp2
  go_ret
  exact ⟨ret_int HN.out.symm, Below.refl _ _⟩
 ·
  have hd : decide (left - (l.length : Int) < 0) = false := by simp; omega
  go_enter Try.func35, Try.ntmps35
  go_wp2
  go_loopw [1, 5] (fun lf i W => ∃ k : Nat, k ≤ l.length ∧ i = .int .i64 k ∧ ∃ z : Int, lf = .int .i64 z ∧ z = left - l.length - totalTT (l.take k) + k ∧ 0 ≤ z ∧ z ≤ 1048576 ∧ Below w.heap.size w W) (fun _ i _ => l.length - (intOf i).toNat)
  case atStart => exact ⟨0, Nat.zero_le _, rfl, _, rfl, by simp [totalTT], by omega, by omega, Below.refl _ _⟩
  case round =>
   obtain ⟨k, hk, rfl, z, rfl, hz, hz0, hz1, hb⟩ := hrel
   by_cases hkl : k < l.length
   ·
    obtain ⟨b, o, rfl, hbB, hc0, hc1, hc2, hc3, hc4, hc5, hc6, hc7⟩ := (hr.below hb).atTT hkl
    obtain ⟨hf, hrd⟩ := hfit _ (List.getElem_mem hkl)
    have HRD := Lib.hid (hrd.next hb)
    have ht := totalTT_take_succ l k hkl
    unfold totTk at ht
    have hge := totalTT_take_ge l (k + 1)
    have HZ := Lib.hid hz
    have HT := Lib.hid ht
    clear hz ht hrd
    by_cases hlo : z < ((totalX l[k].t.ws + totalN5 l[k].t.ns + l[k].t.inn.size : Nat) : Int)
    ·
     go_wp2_with ((go_at_call 53; refine (szTalk_c (t := l[k].t) z hf HRD.out.1 HRD.out.2.1 HRD.out.2.2.1 HRD.out.2.2.2.1 hz0 hz1 HRD.out.2.2.2.2.1 HRD.out.2.2.2.2.2).mono ?_; rintro e w' ⟨rfl, hb2⟩; rw [szR_neg hlo]))
     go_ret
     exact ⟨ret_int (szR_neg (by have := HZ.out; have := HT.out; omega)).symm, hb.trans (hb2.mono hb.size)⟩
    ·
     have hlo' : ((totalX l[k].t.ws + totalN5 l[k].t.ns + l[k].t.inn.size : Nat) : Int) ≤ z := by omega
     go_wp2_with ((go_at_call 53; refine (szTalk_c (t := l[k].t) z hf HRD.out.1 HRD.out.2.1 HRD.out.2.2.1 HRD.out.2.2.2.1 hz0 hz1 HRD.out.2.2.2.2.1 HRD.out.2.2.2.2.2).mono ?_; rintro e w' ⟨rfl, hb2⟩; rw [szR_pos hlo']))
     go_roundw
     case rel => exact ⟨k + 1, by omega, by go_num, _, rfl, by have := HZ.out; have := HT.out; omega, by omega, by omega, hb.trans (hb2.mono hb.size)⟩
     case measure => simp [intOf]; omega
   ·
    have hkk : k = l.length := by omega
    have HK := Lib.hid hkk
    have HZ := Lib.hid hz
    clear hkk hz
    go_wp2
    go_ret
    refine ⟨ret_int ?_, hb⟩
    have e1 := HZ.out
    rw [HK.out, List.take_length] at e1
    rw [szR_pos (by omega)]
    omega

theorem st8 {W : World} {g : Nat} {t : TypeId} {cs : Array Value} (B : Blk W g t cs) (o : Nat) (a b c d e f h i : Value) : ∃ V, (((((((W.setCell ⟨g, o, none⟩ a).setCell ⟨g, o + 1, none⟩ b).setCell ⟨g, o + 2, none⟩ c).setCell ⟨g, o + 3, none⟩ d).setCell ⟨g, o + 4, none⟩ e).setCell ⟨g, o + 5, none⟩ f).setCell ⟨g, o + 6, none⟩ h).setCell ⟨g, o + 7, none⟩ i = V ∧ V.heap.size = W.heap.size ∧ Blk V g t (putC cs o [a, b, c, d, e, f, h, i]) ∧ Chg (fun k => k = g) W V :=
 ⟨_, rfl, by simp [World.setCell], (((((((B.set_ o a).set_ _ b).set_ _ c).set_ _ d).set_ _ e).set_ _ f).set_ _ h).set_ _ i, ((((((((Chg.refl _ _).st _ a).st _ b).st _ c).st _ d).st _ e).st _ f).st _ h).st _ i⟩
theorem FillG.snoc {l : List TT} {c : Array Value} {k : Nat} (h : FillG l c k) (hl : l.length = k) (x : TT) (hs : (k + 1) * 8 ≤ c.size) : FillG (l ++ [x]) (putC c (k * 8) (csTT x)) (k + 1) := by
 refine FillG.step (l := l ++ [x]) ?_ (by simp; omega) (by simp [hl]; exact hs) x (by rw [List.getElem?_append_right (by omega), hl]; simp)
 intro j r hj hr m u hu
 rw [List.getElem?_append_left (by omega)] at hr
 exact h j r hj hr m u hu

set_option maxHeartbeats 4000000 in
theorem toTalkS_c (A : Option Addr) (c : Nat) (l : List TT) (w : World) (hfit : FitTTs w w.heap.size l) (hc : l.length ≤ c) (hcm : totalTT l ≤ 1048576) (hr : RdG w w.heap.size A l) :
  Calls Try.prog 39 #[.slice A l.length c] w fun e w' => ∃ g rs, e = .returned (.slice (some ⟨g, 0, none⟩) l.length l.length) ∧ ofTT rs = ofTT l ∧ OwnG w' w.heap.size (.slice (some ⟨g, 0, none⟩) l.length l.length) rs ∧ (∀ x ∈ rs, OwTT w' (g + 1) x) ∧ w.heap.size ≤ g ∧ g < w'.heap.size ∧ Below w.heap.size w w' := by
 have hlen := totalTT_len l
 have hmk := mkG (α := TT) 25 Try.underlying25 l.length l.length (Nat.le_refl _) (by omega)
 go_enter Try.func39, Try.ntmps39
 go_wp2
 clear hmk
 go_loopw [4] (fun i W => ∃ k : Nat, k ≤ l.length ∧ i = .int .i64 k ∧ ∃ rs : List TT, rs.length = k ∧ ofTT rs = ofTT (l.take k) ∧ (∀ x ∈ rs, OwTT W (w.heap.size + 1) x) ∧ ∃ c : Array Value, Blk W w.heap.size 57 c ∧ c.size = l.length * 8 ∧ FillG rs c k ∧ Below w.heap.size w W) (fun i _ => l.length - (intOf i).toNat)
 case atStart => exact ⟨0, Nat.zero_le _, rfl, [], rfl, rfl, fun x hx => by simp at hx, _, heap_alloc_new _ _, freshG_size (α := TT) _, FillG.zero _ _, (Below.refl _ _).alloc (Nat.le_refl _) _⟩
 case round =>
  obtain ⟨k, hk, rfl, rs, hrs, hof, how, cs, hblk, hsz, hcs, hb⟩ := hrel
  have HOF := Lib.hid hof
  have HCS := Lib.hid hcs
  have HSZ := Lib.hid hsz
  have HOW := Lib.hid how
  have HRS := Lib.hid hrs
  clear hcs hsz hof how hrs
  by_cases hkl : k < l.length
  ·
   obtain ⟨b, o, rfl, hbB, hc0, hc1, hc2, hc3, hc4, hc5, hc6, hc7⟩ := (hr.below hb).atTT hkl
   obtain ⟨hf, hrd⟩ := hfit _ (List.getElem_mem hkl)
   have HRD := Lib.hid (hrd.next hb)
   clear hrd
   have htk := totTk_le k hkl
   unfold totTk at htk
   have hx1 := totalX_len l[k].t.ws
   have hx2 := totalN5_len l[k].t.ns
   have hlt := hblk.lt
   go_wp2_with fail
   refine (toTalk_c (t := l[k].t) HRD.out.1 (by omega) HRD.out.2.2.1 (by omega) HRD.out.2.2.2.2.1 HRD.out.2.2.2.2.2).mono ?_
   rintro e w' ⟨g, h, rfl, og, oh, lg, -, lh, -, hb2⟩
   unfold agT
   have B2 := hblk.next hb2
   have hs8 : k * 8 + 8 ≤ cs.size := by rw [HSZ.out]; omega
   have g0 : w'.cell? ⟨w.heap.size, k * 8, none⟩ = some cs[k * 8] := by { rw [B2.cell]; exact Array.getElem?_eq_getElem (by omega) }
   have g1 : w'.cell? ⟨w.heap.size, k * 8 + 1, none⟩ = some cs[k * 8 + 1] := by { rw [B2.cell]; exact Array.getElem?_eq_getElem (by omega) }
   have g2 : w'.cell? ⟨w.heap.size, k * 8 + 2, none⟩ = some cs[k * 8 + 2] := by { rw [B2.cell]; exact Array.getElem?_eq_getElem (by omega) }
   have g3 : w'.cell? ⟨w.heap.size, k * 8 + 3, none⟩ = some cs[k * 8 + 3] := by { rw [B2.cell]; exact Array.getElem?_eq_getElem (by omega) }
   have g4 : w'.cell? ⟨w.heap.size, k * 8 + 4, none⟩ = some cs[k * 8 + 4] := by { rw [B2.cell]; exact Array.getElem?_eq_getElem (by omega) }
   have g5 : w'.cell? ⟨w.heap.size, k * 8 + 5, none⟩ = some cs[k * 8 + 5] := by { rw [B2.cell]; exact Array.getElem?_eq_getElem (by omega) }
   have g6 : w'.cell? ⟨w.heap.size, k * 8 + 6, none⟩ = some cs[k * 8 + 6] := by { rw [B2.cell]; exact Array.getElem?_eq_getElem (by omega) }
   have g7 : w'.cell? ⟨w.heap.size, k * 8 + 7, none⟩ = some cs[k * 8 + 7] := by { rw [B2.cell]; exact Array.getElem?_eq_getElem (by omega) }
   have hfz := B2.fz
   obtain ⟨V, eV, hV, BV, cV⟩ := st8 B2 (k * 8) (.bool l[k].t.on) (.bool l[k].t.bad) (.int .i64 l[k].t.a) (.slice (some ⟨g, 0, none⟩) l[k].t.ws.length l[k].t.ws.length) (.slice (some ⟨h, 0, none⟩) l[k].t.ns.length l[k].t.ns.length) (.bool l[k].t.sk) (.bool l[k].t.gn) (.string l[k].t.inn)
   obtain ⟨X, HX, HBV, HO⟩ : ∃ X : TT, Hid (X.t = l[k].t) ∧ Hid (Blk V w.heap.size 57 (putC cs (k * 8) (csTT X))) ∧ Hid (OwTT w' (w.heap.size + 1) X) :=
    ⟨⟨l[k].t, some ⟨g, 0, none⟩, l[k].t.ws.length, some ⟨h, 0, none⟩, l[k].t.ns.length⟩, Lib.hid rfl, Lib.hid BV, Lib.hid ⟨og.low (by omega), oh.low (by omega)⟩⟩
   have HCV := Lib.hid cV
   have HB2 := Lib.hid hb2
   clear B2 BV cV hb2 og oh
   go_wp2
   go_roundw
   case rel =>
    have e2 : Below w.heap.size w w' := hb.trans (HB2.out.mono hb.size)
    have f1 : FillG (rs ++ [X]) (putC cs (k * 8) (csTT X)) (k + 1) := FillG.snoc HCS.out HRS.out X (by rw [HSZ.out]; omega)
    have f2 : (putC cs (k * 8) (csTT X)).size = l.length * 8 := (putC_size _ _ _).trans HSZ.out
    have f3 : ∀ x ∈ rs ++ [X], OwTT V (w.heap.size + 1) x := by
     intro x hx
     rcases List.mem_append.1 hx with hx | hx
     ·
      exact ((HOW.out x hx).next HB2.out).chg HCV.out (by omega)
     ·
      obtain rfl := List.mem_singleton.1 hx
      exact HO.out.chg HCV.out (by omega)
    have f4 : ofTT (rs ++ [X]) = ofTT (l.take (k + 1)) := by
     rw [List.take_succ_eq_append_getElem hkl]
     have := HOF.out
     have hXt := HX.out
     unfold ofTT at this ⊢
     rw [List.map_append, List.map_append, this]
     simp [hXt]
    exact ⟨k + 1, by omega, by go_num, rs ++ [X], by simp [HRS.out], f4, f3, _, HBV.out, f2, f1, belowChgd e2 HCV.out (Nat.le_refl _)⟩
   case measure => simp [intOf]; omega
  ·
   have hkk : k = l.length := by omega
   have HK := Lib.hid hkk
   clear hkk
   go_wp2
   go_ret
   have h1 := HRS.out
   have h2 := HOF.out
   rw [HK.out, List.take_length] at h2
   rw [HK.out] at h1
   have h3 := HCS.out
   rw [HK.out] at h3
   refine ⟨w.heap.size, rs, rfl, h2, ?_, HOW.out, Nat.le_refl _, hblk.lt, hb⟩
   exact OwnG.of_fill rs h1 (Nat.le_refl _) hblk (Nat.le_refl _) (by unfold maxLen; omega) HSZ.out h3

set_option maxHeartbeats 4000000 in
theorem eqTalkS_c (A A' : Option Addr) (c c' : Nat) (l l' : List TT) (w : World) {b1 b2 : Nat} (he : ofTT l' = ofTT l) (hcm : totalTT l ≤ 1048576) (hr : RdG w w.heap.size A l) (hr' : RdG w w.heap.size A' l') (ho : ∀ x ∈ l, OwTT w b1 x) (ho' : ∀ x ∈ l', OwTT w b2 x) :
  Calls Try.prog 25 #[.slice A l.length c, .slice A' l'.length c'] w fun e w' => e = .returned (.bool true) ∧ Below w.heap.size w w' := by
 have hlen : l'.length = l.length := by rw [← ofTT_len l', he, ofTT_len]
 have HE := Lib.hid he
 clear he
 have hne : ((l.length : Int) != (l'.length : Int)) = false := by simp [hlen]
 have HL := Lib.hid hlen
 have hle1 : l.length ≤ l'.length := by omega
 clear hlen
 have hll := totalTT_len l
 go_enter Try.func25, Try.ntmps25
 go_wp2
 go_loopw [5] (fun i W => ∃ k : Nat, k ≤ l.length ∧ i = .int .i64 k ∧ Below w.heap.size w W) (fun i _ => l.length - (intOf i).toNat)
 case atStart => exact ⟨0, Nat.zero_le _, rfl, Below.refl _ _⟩
 case round =>
  obtain ⟨k, hk, rfl, hb⟩ := hrel
  by_cases hkl : k < l.length
  ·
   have hkl' : k < l'.length := by omega
   have et := ofTT_get HE.out hkl' hkl
   obtain ⟨b, o, rfl, hbB, hc0, hc1, hc2, hc3, hc4, hc5, hc6, hc7⟩ := (hr.below hb).atTT hkl
   obtain ⟨b', o', rfl, hbB', hd0, hd1, hd2, hd3, hd4, hd5, hd6, hd7⟩ := (hr'.below hb).atTT hkl'
   have p1 := (ho _ (List.getElem_mem hkl)).next hb
   have p2 := (ho' _ (List.getElem_mem hkl')).next hb
   unfold OwTT at p1 p2
   rw [et] at hd0 hd1 hd2 hd3 hd4 hd5 hd6 hd7 p2
   have HP := Lib.hid (And.intro p1 p2)
   clear p1 p2 et
   have htk := totTk_le k hkl
   unfold totTk at htk
   have hx1 := totalX_len l[k].t.ws
   have hx2 := totalN5_len l[k].t.ns
   have hbd : Below wr.heap.size wr wr.drew := (Below.refl _ _).drew
   have hq : b < wr.heap.size := Nat.lt_of_lt_of_le hbB hb.size
   have hq' : b' < wr.heap.size := Nat.lt_of_lt_of_le hbB' hb.size
   go_wp2
   go_region_held3 (fun W => W.cell? ⟨b, o + k * 8, none⟩ = some (.bool l[k].t.on) ∧ W.cell? ⟨b, o + k * 8 + 1, none⟩ = some (.bool l[k].t.bad) ∧ W.cell? ⟨b, o + k * 8 + 2, none⟩ = some (.int .i64 l[k].t.a) ∧ W.cell? ⟨b, o + k * 8 + 3, none⟩ = some (.slice l[k].A l[k].t.ws.length l[k].c) ∧ W.cell? ⟨b, o + k * 8 + 4, none⟩ = some (.slice l[k].B l[k].t.ns.length l[k].d) ∧ W.cell? ⟨b, o + k * 8 + 5, none⟩ = some (.bool l[k].t.sk) ∧ W.cell? ⟨b, o + k * 8 + 6, none⟩ = some (.bool l[k].t.gn) ∧ W.cell? ⟨b, o + k * 8 + 7, none⟩ = some (.string l[k].t.inn) ∧ W.cell? ⟨b', o' + k * 8, none⟩ = some (.bool l[k].t.on) ∧ W.cell? ⟨b', o' + k * 8 + 1, none⟩ = some (.bool l[k].t.bad) ∧ W.cell? ⟨b', o' + k * 8 + 2, none⟩ = some (.int .i64 l[k].t.a) ∧ W.cell? ⟨b', o' + k * 8 + 3, none⟩ = some (.slice l'[k].A l[k].t.ws.length l'[k].c) ∧ W.cell? ⟨b', o' + k * 8 + 4, none⟩ = some (.slice l'[k].B l[k].t.ns.length l'[k].d) ∧ W.cell? ⟨b', o' + k * 8 + 5, none⟩ = some (.bool l[k].t.sk) ∧ W.cell? ⟨b', o' + k * 8 + 6, none⟩ = some (.bool l[k].t.gn) ∧ W.cell? ⟨b', o' + k * 8 + 7, none⟩ = some (.string l[k].t.inn)) (first | exact ⟨hc0, hc1, hc2, hc3, hc4, hc5, hc6, hc7, hd0, hd1, hd2, hd3, hd4, hd5, hd6, hd7⟩ | exact ⟨(hb2.cell hq).trans hc0, (hb2.cell hq).trans hc1, (hb2.cell hq).trans hc2, (hb2.cell hq).trans hc3, (hb2.cell hq).trans hc4, (hb2.cell hq).trans hc5, (hb2.cell hq).trans hc6, (hb2.cell hq).trans hc7, (hb2.cell hq').trans hd0, (hb2.cell hq').trans hd1, (hb2.cell hq').trans hd2, (hb2.cell hq').trans hd3, (hb2.cell hq').trans hd4, (hb2.cell hq').trans hd5, (hb2.cell hq').trans hd6, (hb2.cell hq').trans hd7⟩)
    (first | (go_at_call 45; refine (eqTalk_c (t := l[k].t) (HP.out.1.1.next hbd) (HP.out.2.1.next hbd) (HP.out.1.2.next hbd) (HP.out.2.2.next hbd) (by omega) (by omega)).mono ?_; rintro e w' ⟨rfl, hb2⟩))
   go_wp2
   go_roundw
   case rel => exact ⟨k + 1, by omega, by go_num, hb.trans ((Below.drew (Below.refl _ _)).trans (hb2.mono hb.size))⟩
   case measure => simp [intOf]; omega
  ·
   go_wp2
   go_ret
   exact ⟨rfl, hb⟩
end
end Go.Proofs.Ytheblejlmlfddaa
