/- What one asks, and texts, are drawn. -/
import Derived.Test.YtjgfbcmgnjgapaaDoorAkD
namespace Go.Proofs.YtjgfbcmgnjgapaaDoor
open Go.RowKit
set_option linter.unusedVariables false
set_option maxRecDepth 100000

theorem askT_size (q : Q4) : (askT q).size ≤ 300 := by
 unfold askT
 split
 ·
  rename_i h
  obtain ⟨k1, k9, hk, hh, hn⟩ := askB_iff.1 h
  have s1 := keyQ_size hk
  have s2 := hiQ_size hh
  have s3 := word_size q.kind
  have s4 : spB.size = 1 := rfl
  have s5 : numK q.kind = true → (decB q.num).size ≤ 4 := fun e => by
   unfold numQ at hn; rw [if_pos e] at hn; exact dec_size hn
  unfold text3 text2 text1
  split
  ·
   rename_i e
   have := s5 e
   split <;> split <;> first | (simp only [ByteArray.size_append]; omega) | omega
  ·
   split <;> split <;> first | (simp only [ByteArray.size_append]; omega) | omega
 ·
  decide
theorem rd_gl {w w1 : World} {g n c p K : Nat} {A : Option Addr} (h : Dw g A n c p K w w1) : g < w1.heap.size := h.rlt
set_option maxHeartbeats 4000000 in
theorem drawAskOk (A : Option Addr) (n c : Nat) (w : World) (hc : n ≤ c) (hcm : c ≤ maxLen) (hr : RdB w w.heap.size A n) :
  Calls Tryd.prog 18 #[.slice A n c] w fun e w' => ∃ q : Q4, e = .returned (.agg #[.int .i64 q.kind, .string q.key, .string q.hi, .int .i64 q.num]) ∧ FitQ q ∧ Below w.heap.size w w' := by
 obtain ⟨u1, e1, -, R1, hb1⟩ := al1 w rfl #[.int .i64 0, .string ⟨#[]⟩, .string ⟨#[]⟩, .int .i64 0] 24
 obtain ⟨r, hr'⟩ : ∃ r, w.heap.size = r := ⟨_, rfl⟩
 have hrl := R1.lt
 rw [hr'] at R1 hrl
 go_enter Tryd.func18, Tryd.ntmps18
 go_wp2_with fail
 refine (open_d A n c u1 hc hcm (hr.below hb1)).mono ?_
 rintro e u2 ⟨m, rfl, hR, hb2⟩
 clear e1
 obtain ⟨g, hg⟩ : ∃ g, u1.heap.size = g := ⟨_, rfl⟩
 rw [hg] at hR hrl ⊢
 have R2 := R1.next hb2
 have hw2 := below_next hb1 hb2
 have hgl := hR.lt
 go_wp2_with fail
 refine (rows_d g A m c 0 u2 hR (by omega)).mono ?_
 rintro e u3 ⟨v, l, rfl, ov, hfit, hln, hd3⟩
 obtain ⟨q3, -, h32, hR3⟩ := hd3.rdr
 have R3 := R2.drawn (by omega) hd3.grown
 have hw3 : Below w.heap.size w u3 := hw2.grown hd3.grown hw2.size (fun k hk => by injection hk with e; omega)
 obtain ⟨A', c', rfl, hlc, hcm', hrd⟩ := ov.read
 have OV := Lib.hid ov
 clear ov hrd
 go_wp2_with fail
 refine (ask_d g A m c q3 A' c' l u3 hR3 (by omega) hfit (by omega) u2.heap.size hgl OV.out).mono ?_
 rintro e u4 ⟨q, rfl, hq, hd4⟩
 have R4 := R3.drawn (by omega) hd4.grown
 have hw4 : Below w.heap.size w u4 := hw3.grown hd4.grown hw3.size (fun k hk => by injection hk with e; omega)
 obtain ⟨qk, qx, qy, qn⟩ := q
 obtain ⟨U, eU, RU, hcU⟩ : ∃ U, (((u4.setCell ⟨r, 0, none⟩ (.int .i64 qk)).setCell ⟨r, 1, none⟩ (.string qx)).setCell ⟨r, 2, none⟩ (.string qy)).setCell ⟨r, 3, none⟩ (.int .i64 qn) = U ∧ Blk U r 24 #[.int .i64 qk, .string qx, .string qy, .int .i64 qn] ∧ Chg (fun k => k = r) u4 U := d4 R4 _ _ _ _
 have z4 := R4.c4
 have zf := R4.fz
 have z0 := zf 0
 have z1 := zf 1
 have z2 := zf 2
 have z3 := zf 3
 have zU := RU.c4
 have hwU : Below w.heap.size w U := hw4.trans (hcU.toBelow hw4.size fun k hk => by omega)
 clear zf
 go_wp2
 exact bodyPost_ret (v := .agg #[.int .i64 qk, .string qx, .string qy, .int .i64 qn]) (by simp [results, Tryd.results18, go_sem, zU]) rfl ⟨⟨qk, qx, qy, qn⟩, rfl, hq, hwU⟩
set_option maxHeartbeats 4000000 in
theorem drawAskText (A : Option Addr) (n c : Nat) (w : World) (hc : n ≤ c) (hcm : c ≤ maxLen) (hr : RdB w w.heap.size A n) :
  Calls Tryd.prog 7 #[.slice A n c] w fun e w' => ∃ q : Q4, e = .returned (.agg #[.int .i64 q.kind, .string q.key, .string q.hi, .int .i64 q.num]) ∧ FitQ q ∧ Below w.heap.size w w' := by
 obtain ⟨u1, e1, -, R1, hb1⟩ := al1 w rfl #[.int .i64 0, .string ⟨#[]⟩, .string ⟨#[]⟩, .int .i64 0] 24
 obtain ⟨r, hr'⟩ : ∃ r, w.heap.size = r := ⟨_, rfl⟩
 rw [hr'] at R1
 go_enter Tryd.func7, Tryd.ntmps7
 go_wp2_with fail
 refine (drawAskOk A n c u1 hc hcm (hr.below hb1)).mono ?_
 rintro e u4 ⟨q, rfl, hq, hb2⟩
 clear e1
 have R4 := R1.next hb2
 have hw4 := below_next hb1 hb2
 obtain ⟨qk, qx, qy, qn⟩ := q
 obtain ⟨U, eU, RU, hcU⟩ : ∃ U, (((u4.setCell ⟨r, 0, none⟩ (.int .i64 qk)).setCell ⟨r, 1, none⟩ (.string qx)).setCell ⟨r, 2, none⟩ (.string qy)).setCell ⟨r, 3, none⟩ (.int .i64 qn) = U ∧ Blk U r 24 #[.int .i64 qk, .string qx, .string qy, .int .i64 qn] ∧ Chg (fun k => k = r) u4 U := d4 R4 _ _ _ _
 have z4 := R4.c4
 have zf := R4.fz
 have z0 := zf 0
 have z1 := zf 1
 have z2 := zf 2
 have z3 := zf 3
 have zU := RU.c4
 have hwU : Below w.heap.size w U := hw4.trans (hcU.toBelow hw4.size fun k hk => by omega)
 clear zf
 go_wp2
 exact bodyPost_ret (v := .agg #[.int .i64 qk, .string qx, .string qy, .int .i64 qn]) (by simp [results, Tryd.results7, go_sem, zU]) rfl ⟨⟨qk, qx, qy, qn⟩, rfl, hq, hwU⟩
set_option maxHeartbeats 4000000 in
theorem drawAskRead (A : Option Addr) (n c : Nat) (w : World) (hc : n ≤ c) (hcm : c ≤ maxLen) (hr : RdB w w.heap.size A n) :
  Calls Tryd.prog 13 #[.slice A n c] w fun e w' => ∃ t : ByteArray, e = .returned (.string t) ∧ t.size ≤ 1000 ∧ Below w.heap.size w w' := by
 go_enter Tryd.func13, Tryd.ntmps13
 go_wp2_with fail
 refine (open_d A n c w hc hcm hr).mono ?_
 rintro e u2 ⟨m, rfl, hR, hw2⟩
 obtain ⟨g, hg⟩ : ∃ g, w.heap.size = g := ⟨_, rfl⟩
 rw [hg] at hR ⊢
 have hgl := hR.lt
 go_wp2_with fail
 refine (rows_d g A m c 0 u2 hR (by omega)).mono ?_
 rintro e u3 ⟨v, l, rfl, ov, hfit, hln, hd3⟩
 obtain ⟨q3, -, h32, hR3⟩ := hd3.rdr
 have hw3 : Below w.heap.size w u3 := hw2.grown hd3.grown hw2.size (fun k hk => by injection hk with e; omega)
 obtain ⟨A', c', rfl, hlc, hcm', hrd⟩ := ov.read
 have OV := Lib.hid ov
 clear ov hrd
 go_wp2_with fail
 refine (ask_d g A m c q3 A' c' l u3 hR3 (by omega) hfit (by omega) u2.heap.size hgl OV.out).mono ?_
 rintro e u4 ⟨q, rfl, hq, hd4⟩
 obtain ⟨q4, h41, h42, hR4⟩ := hd4.rdr
 have hw4 : Below w.heap.size w u4 := hw3.grown hd4.grown hw3.size (fun k hk => by injection hk with e; omega)
 obtain ⟨s, HS⟩ : ∃ s, Hid (askT q = s) := ⟨_, Lib.hid rfl⟩
 have hs300 : s.size ≤ 300 := by rw [← HS.out]; exact askT_size q
 have HT := Lib.hid (specAskText q u4 hq)
 rw [HS.out] at HT
 go_wp2_with fail
 refine HT.out.mono ?_
 rintro e u5 ⟨rfl, hb5⟩
 have hw5 := below_next hw4 hb5
 have hR5 : Rdr u5 g A m c q4 := hR4.low (hb5.mono hR4.lt)
 clear HT OV hd3 hd4 hb5
 obtain ⟨T, HTT, hT0, hT3⟩ : ∃ T, Hid ((if s.size = 0 then (⟨#[112, 117, 116, 32, 97, 98, 32, 45, 55]⟩ : ByteArray) else s) = T) ∧ 0 < T.size ∧ T.size ≤ 300 := ⟨_, Lib.hid rfl, by
  split
  ·
   decide
  ·
   omega, by
  split
  ·
   decide
  ·
   exact hs300⟩
 go_upto_if 14 with fail
 go_cut [4] (fun x V => x = .string T ∧ V = u5)
 case first =>
  have es := str_emp s
  by_cases h0 : s.size = 0
  ·
   have es1 : s.toList.isEmpty = true := by rw [es]; exact decide_eq_true h0
   have es2 : s.toList = [] := List.isEmpty_iff.1 es1
   have es3 : ¬ (s.toList.isEmpty = false) := by rw [es1]; simp
   have e : (⟨#[112, 117, 116, 32, 97, 98, 32, 45, 55]⟩ : ByteArray) = T := by rw [← HTT.out, if_pos h0]
   have HE := Lib.hid e
   clear es h0 e
   go_wp2
   go_meet
   exact ⟨by rw [HE.out], rfl⟩
  ·
   have es1 : s.toList.isEmpty = false := by rw [es]; exact decide_eq_false h0
   have es2 : ¬ s.toList = [] := fun e => by rw [e] at es1; cases es1
   have es3 : ¬ (s.toList.isEmpty = true) := by rw [es1]; simp
   have e : s = T := by rw [← HTT.out, if_neg h0]
   have HE := Lib.hid e
   clear es h0 e
   go_wp2
   go_meet
   exact ⟨by rw [HE.out], rfl⟩
 case rest =>
  obtain ⟨rfl, rfl⟩ := hcut
  have HPK := Lib.hid (pick_d g A m c q4 2 wc hR5 (by omega) (by omega) (by omega))
  go_wp2_with fail
  refine HPK.out.mono ?_
  rintro e u6 ⟨k, rfl, hk, hd6⟩
  obtain ⟨q6, h61, h62, hR6⟩ := hd6.rdr
  have hw6 : Below w.heap.size w u6 := hw5.grown hd6.grown hw5.size (fun k hk => by injection hk with e; omega)
  clear HPK hd6
  by_cases hk0 : k = 0
  ·
   subst hk0
   go_wp2
   go_ret
   exact ⟨T, rfl, by omega, hw6⟩
  ·
   have b0 : ((k : Int) == 0) = false := beq_eq_false_iff_ne.2 (by omega)
   have HPK := Lib.hid (pick_d g A m c q6 T.size u6 hR6 (by omega) (by omega) (by omega))
   go_wp2_with fail
   refine HPK.out.mono ?_
   rintro e u7 ⟨j, rfl, hj, hd7⟩
   obtain ⟨q7, h71, h72, hR7⟩ := hd7.rdr
   have hw7 : Below w.heap.size w u7 := hw6.grown hd7.grown hw6.size (fun k hk => by injection hk with e; omega)
   have i1 : (j : Int) ≤ (T.size : Int) := by omega
   have HW := Lib.hid hw7
   clear HPK hd7 b0
   have F : Fr (fun _ => True) (fun _ => True) u7 := fun _ _ => trivial
   have hcr := F.hc fun V h => h
   go_wp2
   refine reg F fun wd hd F1 => ?_
   have hRd : Rdr wd g A m c q7 := hR7.low (hd.mono hR7.lt)
   have hwd := below_next hw7 hd
   clear F F1 hd
   have F : Fr (fun _ => True) (fun _ => True) wd := fun _ _ => trivial
   refine tkc F hcr 0 ?_
   refine tkc F hcr 1 ?_
   refine tkc F hcr 2 ?_
   refine tkc F hcr 3 ?_
   refine tkc F hcr 7 ?_
   refine tkc F hcr 8 ?_
   refine tkc F hcr 9 ?_
   refine rdo 4 (fun K hK => ?_)
   go_simp
   refine fnA hK F (fun V gx hgx hgs hb b2 => ?_)
   rw [hgx]
   have hRV : Rdr V g A m c q7 := hRd.low (hb.mono hRd.lt)
   have hwV := below_next hwd hb
   have hgg : gx ≠ g := by have := hRd.lt; omega
   clear hK K F hb hgs hgx
   have F : Fr (fun _ => True) (fun _ => True) V := fun _ _ => trivial
   refine rdo 5 (fun K hK => ?_)
   go_simp
   go_at_call 34
   refine (of_d g A m c q7 gx ssAsk V hRV (by omega) hgg b2 8 rfl (by omega) (by omega)).mono ?_
   rintro e u9 ⟨x, rfl, hx, hd9⟩
   obtain ⟨q9, h91, h92, hR9⟩ := hd9.rdr
   have hw9 : Below w.heap.size w u9 := hwV.grown hd9.grown hwV.size (fun k hk => by injection hk with e; omega)
   have hxs := ssAsk_s x hx
   have hsz1 : (T.extract 0 j).size ≤ 300 := by rw [ByteArray.size_extract]; omega
   have y1 : ¬ (9223372036854775807 < min j T.size + x.size) := by omega
   clear F
   have F : Fr (fun _ => True) (fun _ => True) u9 := fun _ _ => trivial
   go_wp2_with fail
   refine fn hK F ?_
   clear hK K hd9 b2
   refine tkc F hcr 6 ?_
   refine rdo 10 (fun K hK => ?_)
   go_simp
   go_at_call 33
   refine (pick_d g A m c q9 2 u9 hR9 (by omega) (by omega) (by omega)).mono ?_
   rintro e u10 ⟨j2, rfl, hj2, hd10⟩
   have hw10 : Below w.heap.size w u10 := hw9.grown hd10.grown hw9.size (fun k hk => by injection hk with e; omega)
   clear F
   have F : Fr (fun _ => True) (fun _ => True) u10 := fun _ _ => trivial
   obtain ⟨m2, hm2⟩ : ∃ m2, j + j2 = m2 := ⟨_, rfl⟩
   have hwr : IntKind.i64.wrap ((j : Int) + (j2 : Int)) = (m2 : Int) := by rw [IntWalk.i64_left, IntWalk.wrap64_in _ (by omega)]; omega
   have i2 : (m2 : Int) ≤ (T.size : Int) := by omega
   have y2 : ¬ (9223372036854775807 < min j T.size + x.size + (T.size - m2)) := by omega
   have HM := Lib.hid hm2
   clear hm2
   go_wp2_with fail
   refine fn hK F ?_
   clear hK K hd10
   refine tkc F hcr 11 ?_
   refine tkc F hcr 12 ?_
   refine tkc F hcr 13 ?_
   refine tkc F hcr 14 ?_
   refine wpAnyH_done (by kernel_rfl) ?_ _
   go_wp2
   go_ret
   exact ⟨_, rfl, by rw [ByteArray.size_append, ByteArray.size_append, ByteArray.size_extract, ByteArray.size_extract]; omega, hw10⟩
end Go.Proofs.YtjgfbcmgnjgapaaDoor
