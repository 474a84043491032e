/- The model: what one asks, read off a text: the walk. -/
import Derived.Test.YtjgfbcmgnjgapaaDoorAkQ
namespace Go.Proofs.YtjgfbcmgnjgapaaDoor
open Go.RowKit
set_option linter.unusedVariables false
set_option maxRecDepth 100000

theorem getD_le {P : List ByteArray} {n i : Nat} {c : Bool} {x : ByteArray} (h : ∀ i (h : i < P.length), P[i].size ≤ n) (hn : n ≤ 1048576) (hx : (if c then P.getD i ⟨#[]⟩ else ⟨#[]⟩) = x) : x.size ≤ 1048576 := by
 rw [← hx]
 split
 ·
  by_cases hi : i < P.length
  ·
   have := h i hi
   simp [hi]
   omega
  ·
   simp [Nat.le_of_not_lt hi]; exact emp_le
 ·
  exact emp_le
theorem guess_eq {t : ByteArray} {L : List UInt8} {P : List ByteArray} {kf : Nat} {KK HKy NK c1 c2 c3 : Bool} {X1 X2 : ByteArray} {X3 : Int} (hL : t.data.toList = L) (hP : (splitC 32 L).map mkS = P) (hk : kindOf (w0 t) = (kf : Int)) (hS : keyK (kf : Int) = KK ∧ hiK (kf : Int) = HKy ∧ numK (kf : Int) = NK)
  (h1 : (KK && decide (1 < P.length)) = c1) (h2 : (HKy && decide (2 < P.length)) = c2) (h3 : (NK && decide (2 < P.length)) = c3) (x1 : (if c1 then P.getD 1 ⟨#[]⟩ else ⟨#[]⟩) = X1) (x2 : (if c2 then P.getD 2 ⟨#[]⟩ else ⟨#[]⟩) = X2) (x3 : (if c3 then numN (P.getD 2 ⟨#[]⟩).data.toList else 0) = X3) :
  guess t = ⟨(kf : Int), X1, X2, X3⟩ := by
 have hl : P.length = (splitC 32 L).length := by rw [← hP, List.length_map]
 have hg : ∀ i, P.getD i ⟨#[]⟩ = mkS ((splitC 32 L).getD i []) := fun i => by
  rw [← hP]
  simp only [List.getD_eq_getElem?_getD, List.getElem?_map]
  cases (splitC 32 L)[i]? <;> rfl
 have h0 : kindOf ((splitC 32 L).getD 0 []) = (kf : Int) := by
  obtain ⟨T, e, -⟩ := split_fst L
  rw [e, ← hk, ← hL]
  rfl
 unfold guess guessL
 rw [ByteArray.toList_eq, hL, h0, hS.1, hS.2.1, hS.2.2, ← x1, ← x2, ← x3, ← h1, ← h2, ← h3, hl, hg 1, hg 2, mk_data]
 rfl
set_option maxHeartbeats 16000000 in
theorem specAskRead (t : ByteArray) (w : World) (ht : t.size ≤ 1048576) : Calls Tryd.prog 14 #[.string t] w (RetRead w t) := by
 obtain ⟨u1, e1, -, R1, hb1⟩ := al1 w rfl #[.int .i64 0, .string ⟨#[]⟩, .string ⟨#[]⟩, .int .i64 0] 24
 obtain ⟨r, hr⟩ : ∃ r, w.heap.size = r := ⟨_, rfl⟩
 have hrl := R1.lt
 rw [hr] at R1 hrl
 obtain ⟨L, HL⟩ : ∃ L, Hid (t.data.toList = L) := ⟨_, Lib.hid rfl⟩
 have hLn : L.length = t.size := by rw [← HL.out]; exact Array.length_toList
 obtain ⟨P, HP⟩ : ∃ P, Hid ((splitC 32 L).map mkS = P) := ⟨_, Lib.hid rfl⟩
 have HPn := Lib.hid (show P.length = (splitC 32 L).length from by rw [← HP.out, List.length_map])
 have hP1 : 0 < P.length := by rw [HPn.out]; exact List.length_pos_iff.2 (split_ne 32 L)
 have hPm : P.length ≤ 1048577 := by rw [HPn.out]; have := split_count 32 L; omega
 have HPs := Lib.hid (show ∀ i (h : i < P.length), P[i].size ≤ t.size from fun i h => by
  have e : P[i] ∈ (splitC 32 L).map mkS := by rw [HP.out]; exact List.getElem_mem h
  obtain ⟨p, hp, hpe⟩ := List.mem_map.1 e
  rw [← hpe, mk_size, ← hLn]
  exact split_len 32 L p hp)
 obtain ⟨kf, HK, hk9⟩ : ∃ k : Nat, Hid (kindOf (w0 t) = (k : Int)) ∧ k ≤ 9 := ⟨(kindOf (w0 t)).toNat, Lib.hid (by have := kind_le (w0 t); omega), by have := kind_le (w0 t); omega⟩
 have HP0 := Lib.hid (show P[0] = mkS (w0 t) from by
  obtain ⟨T, h1, -⟩ := split_fst L
  have e : P = mkS (fstW L) :: T.map mkS := by rw [← HP.out, h1]; rfl
  have e2 : P[0]? = some (mkS (fstW L)) := by rw [e]; rfl
  rw [List.getElem?_eq_getElem hP1] at e2
  rw [Option.some.inj e2, ← HL.out]
  rfl)
 have HSC := Lib.hid (specCut t u1 ht)
 unfold RetS at HSC
 rw [HL.out, HP.out] at HSC
 go_enter Tryd.func14, Tryd.ntmps14
 go_wp2_with fail
 refine HSC.out.mono ?_
 rintro e u2 ⟨v, rfl, o2, hb2⟩
 obtain ⟨j, cap, rfl, hj, hcap⟩ := own_form o2 hP1
 have R2 := R1.next hb2
 have hw2 := below_next hb1 hb2
 have hu1 : u1.heap.size ≤ u2.heap.size := hb2.size
 obtain ⟨a, ha⟩ : ∃ a, u2.heap.size = a := ⟨_, rfl⟩
 obtain ⟨u3, e3, -, A3, hb3⟩ := al1 u2 ha #[.int .i64 0, .string ⟨#[]⟩, .string ⟨#[]⟩, .int .i64 0] 24
 obtain ⟨u4, e4, A4, hc4⟩ := zs4 A3
 have hjl : j < a := by have := (o2.block_lt (g := j) rfl).2; omega
 have hra : r < a := by omega
 have hwa : w.heap.size ≤ a := by omega
 have HNV : ∀ k, (Value.slice (some ⟨j, 0, none⟩) P.length cap).ownBlock = some k → k ≠ a := fun k hk => by
  have : j = k := by simpa [Value.ownBlock] using hk
  omega
 have ST4 := Lib.hid (show StQ w a r u1.heap.size (.slice (some ⟨j, 0, none⟩) P.length cap) P (kdAt kf 1) ⟨#[]⟩ ⟨#[]⟩ 0 u4 from
  (show StQ w a r u1.heap.size (.slice (some ⟨j, 0, none⟩) P.length cap) P 0 ⟨#[]⟩ ⟨#[]⟩ 0 u3 from ⟨A3, o2.next hb3, R2.next hb3, below_next hw2 hb3⟩).set (by
   have : kdAt kf 1 = 0 := by unfold kdAt; split <;> omega
   rw [this]; exact A4) hc4 hra hwa HNV)
 have c3 := A3.c4
 have c3f := A3.fz
 have c3a := c3f 0
 have c3b := c3f 1
 have c3c := c3f 2
 have c3d := c3f 3
 have HV := Lib.hid HNV
 clear c3f HNV R1 R2 A3 A4 hb1 hb2 hb3 hc4 hw2 o2
 go_wp2
 clear c3 c3a c3b c3c c3d e1 e3 e4 ha
 go_loopw [6] (fun i W => ∃ k : Nat, 1 ≤ k ∧ k ≤ 10 ∧ i = .int .i64 k ∧ StQ w a r u1.heap.size (.slice (some ⟨j, 0, none⟩) P.length cap) P (kdAt kf k) ⟨#[]⟩ ⟨#[]⟩ 0 W) (fun i _ => 10 - (intOf i).toNat)
 case atStart => exact ⟨1, by omega, by omega, rfl, ST4.out⟩
 case round =>
  obtain ⟨k, hk1, hk10, rfl, hST⟩ := hrel
  have ST := Lib.hid hST
  clear hST
  by_cases hk : k ≤ 9
  ·
   have hi : (k : Int) ≤ 9 := by omega
   have hlp : (0 : Int) < (P.length : Int) := by omega
   have HW := Lib.hid (fun V => specWord (k : Int) V (by omega) (by omega))
   obtain ⟨W, HWK⟩ : ∃ W, Hid (wordK (k : Int) = W) := ⟨_, Lib.hid rfl⟩
   rw [HWK.out] at HW
   obtain ⟨P0, HP00⟩ : ∃ x, Hid (P[0] = x) := ⟨_, Lib.hid rfl⟩
   have alw := ST.out.1.lt
   have rlw := ST.out.2.2.1.lt
   have F := ((((Fr.bel (p := wr.heap.size) (q := wr.heap.size) ST.out.2.2.2 ST.out.2.2.2.size).blk ST.out.1 (.inl (by omega))).blk ST.out.2.2.1 (.inl (by omega))).neG ST.out.2.1 fun k hk => .inl (ST.out.2.1.block_lt hk).2).cut
   have hcr := F.hc fun V h => show V.cell? ⟨j, 0, none⟩ = some (.string P0) from HP00.out ▸ own_cell h.1.2 hP1
   go_wp2
   refine reg F fun d1 hd F1 => ?_
   clear F hd
   have F := F1
   clear F1
   refine tkc F hcr 0 ?_
   refine tkc F hcr 2 ?_
   refine tkc F hcr 3 ?_
   refine tkc F hcr 4 ?_
   refine rdo 1 (fun K hK => ?_)
   go_simp
   go_at_call 24
   refine (HW.out _).mono ?_
   rintro e w3 ⟨rfl, hb3⟩
   replace F := F.next hb3
   go_wp2_with fail
   refine fn hK F ?_
   clear hK K hb3
   have STn := Lib.hid (show StQ w a r u1.heap.size (.slice (some ⟨j, 0, none⟩) P.length cap) P (kdAt kf k) ⟨#[]⟩ ⟨#[]⟩ 0 w3 from ⟨F.now.1.1.1.2, F.now.1.2, F.now.1.1.2, F.now.1.1.1.1⟩)
   by_cases he : W = P0
   ·
    have hkk : kf = k := by
     have e1 := kind_hit hk1 hk
     have e2 : wordK (k : Int) = mkS (w0 t) := by rw [HWK.out, he, ← HP00.out, HP0.out]
     rw [e2, mk_data, HK.out] at e1
     omega
    have HKK := Lib.hid hkk
    subst he
    refine tkc F hcr 5 ?_
    refine wpAnyH_done (by kernel_rfl) ?_ _
    obtain ⟨U, eU, AU, hcU⟩ := s0 STn.out.1 (.int .i64 k)
    have STU := Lib.hid (show StQ w a r u1.heap.size (.slice (some ⟨j, 0, none⟩) P.length cap) P (kdAt kf (k + 1)) ⟨#[]⟩ ⟨#[]⟩ 0 U from STn.out.set (by
     have : kdAt kf (k + 1) = k := by unfold kdAt; rw [if_pos (by omega)]; exact hkk
     rw [this]; exact AU) hcU hra hwa HV.out)
    have c3 := STn.out.1.c4
    have c3f := STn.out.1.free 0
    clear hkk F hcr AU hcU
    go_wp2
    go_roundw
    case rel => exact ⟨k + 1, by omega, by omega, by go_num, STU.out⟩
    case measure => simp [intOf]; omega
   ·
    have hne : kf ≠ k := fun e => he (by
     have e1 := kind_word hk1 (HK.out.trans (by rw [e]))
     rw [← HWK.out, ← e1, ← HP00.out, HP0.out])
    have b1 := str_ne he
    have STm := Lib.hid (show StQ w a r u1.heap.size (.slice (some ⟨j, 0, none⟩) P.length cap) P (kdAt kf (k + 1)) ⟨#[]⟩ ⟨#[]⟩ 0 w3 from by
     have : kdAt kf (k + 1) = kdAt kf k := by
      unfold kdAt
      by_cases h : kf < k
      ·
       rw [if_pos h, if_pos (by omega)]
      ·
       rw [if_neg h, if_neg (by omega)]
     rw [this]; exact STn.out)
    clear he hne
    refine tkc F hcr 5 ?_
    refine wpAnyH_done (by kernel_rfl) ?_ _
    clear F hcr
    go_wp2
    go_roundw
    case rel => exact ⟨k + 1, by omega, by omega, by go_num, STm.out⟩
    case measure => simp [intOf]; omega
  ·
   have hi : ¬ (k : Int) ≤ 9 := by omega
   have hke : k = 10 := by omega
   subst hke
   have hkd : kdAt kf 10 = kf := by unfold kdAt; rw [if_pos (by omega)]
   rw [hkd] at ST
   clear hkd
   obtain ⟨KK, HKy, NK, HS⟩ : ∃ a b c, Hid (keyK (kf : Int) = a ∧ hiK (kf : Int) = b ∧ numK (kf : Int) = c) := ⟨_, _, _, Lib.hid ⟨rfl, rfl, rfl⟩⟩
   have HSH := Lib.hid (fun V => shape_c (kf : Int) V)
   rw [HS.out.1, HS.out.2.1, HS.out.2.2] at HSH
   have c := ST.out.1.c4
   go_wp2_with fail
   clear c
   refine (HSH.out _).mono ?_
   rintro e wc ⟨rfl, hb5⟩
   replace ST := Lib.hid (ST.out.next hb5)
   clear hb5 ST4
   obtain ⟨c1, HC1⟩ : ∃ b, Hid ((KK && decide (1 < P.length)) = b) := ⟨_, Lib.hid rfl⟩
   go_upto_region 9 with fail
   go_cut [37] (fun z V => z = .bool c1 ∧ V = wc)
   case first =>
    have hd : decide ((1 : Int) < (P.length : Int)) = decide (1 < P.length) := decide_eq_decide.2 (by omega)
    obtain ⟨o, HO⟩ : ∃ b, Hid (decide (1 < P.length) = b) := ⟨_, Lib.hid rfl⟩
    rw [HO.out] at hd
    have HE := HC1.out
    rw [HO.out] at HE
    cases KK
    ·
     have e : false = c1 := by simpa using HE
     subst e
     clear HE
     go_wp2
     go_meet
     exact ⟨rfl, rfl⟩
    ·
     have e : o = c1 := by simpa using HE
     subst e
     clear HE
     go_wp2
     go_meet
     exact ⟨rfl, rfl⟩
   case rest =>
    obtain ⟨rfl, rfl⟩ := hcut
    go_upto_if 37 with fail
    obtain ⟨X1, HX1⟩ : ∃ x, Hid ((if c1 then P.getD 1 ⟨#[]⟩ else ⟨#[]⟩) = x) := ⟨_, Lib.hid rfl⟩
    go_cut [7] (fun z V => z = .bool KK ∧ StQ w a r u1.heap.size (.slice (some ⟨j, 0, none⟩) P.length cap) P kf X1 ⟨#[]⟩ 0 V)
    case first =>
     cases c1
     ·
      have e : X1 = ⟨#[]⟩ := by rw [← HX1.out]; rfl
      subst e
      go_wp2
      go_meet
      exact ⟨rfl, ST.out⟩
     ·
      have h1 : 1 < P.length := by have := HC1.out; simp at this; exact this.2
      have hi : (1 : Int) < (P.length : Int) := by omega
      have c := own_cell ST.out.2.1 h1
      have e : X1 = P[1] := by rw [← HX1.out, if_pos rfl]; simp [h1]
      rw [← e] at c
      obtain ⟨U, eU, AU, hcU⟩ := s1 ST.out.1 (.string X1)
      have STU := Lib.hid (show StQ w a r u1.heap.size (.slice (some ⟨j, 0, none⟩) P.length cap) P kf X1 ⟨#[]⟩ 0 U from ST.out.set AU hcU hra hwa HV.out)
      have cA := ST.out.1.free 1
      have cB := ST.out.1.c4
      clear e AU hcU
      go_wp2
      go_meet
      exact ⟨rfl, STU.out⟩
    case rest =>
     obtain ⟨rfl, hST⟩ := hcut
     replace ST := Lib.hid hST
     clear hST
     obtain ⟨c2, HC2⟩ : ∃ b, Hid ((HKy && decide (2 < P.length)) = b) := ⟨_, Lib.hid rfl⟩
     go_upto_region 11 with fail
     go_cut [47] (fun z V => z = .bool c2 ∧ V = wc)
     case first =>
      have hd : decide ((2 : Int) < (P.length : Int)) = decide (2 < P.length) := decide_eq_decide.2 (by omega)
      obtain ⟨o, HO⟩ : ∃ b, Hid (decide (2 < P.length) = b) := ⟨_, Lib.hid rfl⟩
      rw [HO.out] at hd
      have HE := HC2.out
      rw [HO.out] at HE
      cases HKy
      ·
       have e : false = c2 := by simpa using HE
       subst e
       clear HE
       go_wp2
       go_meet
       exact ⟨rfl, rfl⟩
      ·
       have e : o = c2 := by simpa using HE
       subst e
       clear HE
       go_wp2
       go_meet
       exact ⟨rfl, rfl⟩
     case rest =>
      obtain ⟨rfl, rfl⟩ := hcut
      go_upto_if 47 with fail
      obtain ⟨X2, HX2⟩ : ∃ x, Hid ((if c2 then P.getD 2 ⟨#[]⟩ else ⟨#[]⟩) = x) := ⟨_, Lib.hid rfl⟩
      go_cut [8] (fun z V => z = .bool HKy ∧ StQ w a r u1.heap.size (.slice (some ⟨j, 0, none⟩) P.length cap) P kf X1 X2 0 V)
      case first =>
       cases c2
       ·
        have e : X2 = ⟨#[]⟩ := by rw [← HX2.out]; rfl
        subst e
        go_wp2
        go_meet
        exact ⟨rfl, ST.out⟩
       ·
        have h1 : 2 < P.length := by have := HC2.out; simp at this; exact this.2
        have hi : (2 : Int) < (P.length : Int) := by omega
        have c := own_cell ST.out.2.1 h1
        have e : X2 = P[2] := by rw [← HX2.out, if_pos rfl]; simp [h1]
        rw [← e] at c
        obtain ⟨U, eU, AU, hcU⟩ := s2 ST.out.1 (.string X2)
        have STU := Lib.hid (show StQ w a r u1.heap.size (.slice (some ⟨j, 0, none⟩) P.length cap) P kf X1 X2 0 U from ST.out.set AU hcU hra hwa HV.out)
        have cA := ST.out.1.free 2
        have cB := ST.out.1.c4
        clear e AU hcU
        go_wp2
        go_meet
        exact ⟨rfl, STU.out⟩
      case rest =>
       obtain ⟨rfl, hST⟩ := hcut
       replace ST := Lib.hid hST
       clear hST
       obtain ⟨c3, HC3⟩ : ∃ b, Hid ((NK && decide (2 < P.length)) = b) := ⟨_, Lib.hid rfl⟩
       go_upto_region 13 with fail
       go_cut [57] (fun z V => z = .bool c3 ∧ V = wc)
       case first =>
        have hd : decide ((2 : Int) < (P.length : Int)) = decide (2 < P.length) := decide_eq_decide.2 (by omega)
        obtain ⟨o, HO⟩ : ∃ b, Hid (decide (2 < P.length) = b) := ⟨_, Lib.hid rfl⟩
        rw [HO.out] at hd
        have HE := HC3.out
        rw [HO.out] at HE
        cases NK
        ·
         have e : false = c3 := by simpa using HE
         subst e
         clear HE
         go_wp2
         go_meet
         exact ⟨rfl, rfl⟩
        ·
         have e : o = c3 := by simpa using HE
         subst e
         clear HE
         go_wp2
         go_meet
         exact ⟨rfl, rfl⟩
       case rest =>
        obtain ⟨rfl, rfl⟩ := hcut
        go_upto_if 57 with fail
        obtain ⟨X3, HX3⟩ : ∃ x, Hid ((if c3 then numN (P.getD 2 ⟨#[]⟩).data.toList else 0) = x) := ⟨_, Lib.hid rfl⟩
        go_cut [9] (fun z V => z = .bool NK ∧ StQ w a r u1.heap.size (.slice (some ⟨j, 0, none⟩) P.length cap) P kf X1 X2 X3 V)
        case first =>
         cases c3
         ·
          have e : X3 = 0 := by rw [← HX3.out]; rfl
          subst e
          go_wp2
          go_meet
          exact ⟨rfl, ST.out⟩
         ·
          have h1 : 2 < P.length := by have := HC3.out; simp at this; exact this.2
          have hi : (2 : Int) < (P.length : Int) := by omega
          have c := own_cell ST.out.2.1 h1
          have e : P.getD 2 ⟨#[]⟩ = P[2] := by simp [h1]
          obtain ⟨Z, HZ⟩ : ∃ z, Hid (P[2] = z) := ⟨_, Lib.hid rfl⟩
          rw [HZ.out] at c e
          have HNU := Lib.hid (fun V => specNumR Z V (by have := HPs.out 2 h1; rw [HZ.out] at this; omega))
          have e2 : numN Z.data.toList = X3 := by rw [← HX3.out, if_pos rfl, e]
          unfold RetNum at HNU
          rw [e2] at HNU
          obtain ⟨bb, HBB⟩ : ∃ b, Hid (numB2 Z.data.toList = b) := ⟨_, Lib.hid rfl⟩
          rw [HBB.out] at HNU
          obtain ⟨U, eU, AU, hcU⟩ := s3 ST.out.1 (.int .i64 X3)
          have STU := Lib.hid (show StQ w a r u1.heap.size (.slice (some ⟨j, 0, none⟩) P.length cap) P kf X1 X2 X3 U from ST.out.set AU hcU hra hwa HV.out)
          have cA := ST.out.1.free 3
          have cB := ST.out.1.c4
          clear e e2 AU hcU
          go_wp2_with fail
          refine (HNU.out _).mono ?_
          rintro e u6 ⟨rfl, rfl⟩
          go_wp2
          go_meet
          exact ⟨rfl, STU.out⟩
        case rest =>
         obtain ⟨rfl, hST⟩ := hcut
         replace ST := Lib.hid hST
         clear hST
         have HQ := Lib.hid (show guess t = ⟨(kf : Int), X1, X2, X3⟩ from guess_eq HL.out HP.out HK.out HS.out HC1.out HC2.out HC3.out HX1.out HX2.out HX3.out)
         have HF := Lib.hid (show FitQ ⟨(kf : Int), X1, X2, X3⟩ from fit_mk hk9 (getD_le HPs.out ht HX1.out) (getD_le HPs.out ht HX2.out) (by
          rw [← HX3.out]
          split
          ·
           have := numN_bd (P.getD 2 ⟨#[]⟩).data.toList; omega
          ·
           omega))
         obtain ⟨Y, HY⟩ : ∃ y, Hid (askT ⟨(kf : Int), X1, X2, X3⟩ = y) := ⟨_, Lib.hid rfl⟩
         have es := str_emp t
         by_cases h0 : t.size = 0
         ·
          have es1 : t.toList.isEmpty = true := by rw [es]; exact decide_eq_true h0
          have es2 : t.toList = [] := List.isEmpty_iff.1 es1
          have H0 := Lib.hid h0
          clear es h0
          have HB := Lib.hid (show readB t = false from by unfold readB; exact decide_eq_false (fun h => h.1 H0.out))
          obtain ⟨U, eU, RU, hcU⟩ := s4 ST.out.2.2.1 (.int .i64 0) (.string ⟨#[]⟩) (.string ⟨#[]⟩) (.int .i64 0)
          have z := ST.out.2.2.1.c4
          have zf := ST.out.2.2.1.fz
          have z0 := zf 0
          have z1 := zf 1
          have z2 := zf 2
          have z3 := zf 3
          have zU := RU.c4
          have hwU := belChg ST.out.2.2.2 hcU (by omega)
          clear zf
          go_wp2
          exact bodyPost_ret (v := .tuple #[.agg #[.int .i64 0, .string ⟨#[]⟩, .string ⟨#[]⟩, .int .i64 0], .bool false]) (by simp [results, Tryd.results14, go_sem, zU]) rfl ⟨by rw [read_no HB.out, HB.out]; rfl, hwU⟩
         ·
          have es1 : t.toList.isEmpty = false := by rw [es]; exact decide_eq_false h0
          have es2 : ¬ t.toList = [] := fun e => by rw [e] at es1; cases es1
          have H0 := Lib.hid h0
          have HX := Lib.hid (fun V => specAskText ⟨(kf : Int), X1, X2, X3⟩ V HF.out)
          rw [HY.out] at HX
          clear es h0
          have c := ST.out.1.c4
          go_wp2_with fail
          clear c
          refine (HX.out _).mono ?_
          rintro e u7 ⟨rfl, hb7⟩
          replace ST := Lib.hid (ST.out.next hb7)
          clear hb7
          by_cases hy : Y = t
          ·
           have HRB := Lib.hid (show readB t = true from by unfold readB; rw [HQ.out]; exact decide_eq_true ⟨H0.out, HY.out.trans hy⟩)
           have HRV := Lib.hid (show readV t = ⟨(kf : Int), X1, X2, X3⟩ from by unfold readV; rw [HRB.out, if_pos rfl, HQ.out])
           subst hy
           obtain ⟨U, eU, RU, hcU⟩ := s4 ST.out.2.2.1 (.int .i64 kf) (.string X1) (.string X2) (.int .i64 X3)
           have z := ST.out.2.2.1.c4
           have zf := ST.out.2.2.1.fz
           have z0 := zf 0
           have z1 := zf 1
           have z2 := zf 2
           have z3 := zf 3
           have zU := RU.c4
           have qA := ST.out.1.c4
           have hwU := belChg ST.out.2.2.2 hcU (by omega)
           clear zf
           go_wp2
           exact bodyPost_ret (v := .tuple #[.agg #[.int .i64 kf, .string X1, .string X2, .int .i64 X3], .bool true]) (by simp [results, Tryd.results14, go_sem, zU]) rfl ⟨by rw [HRB.out, HRV.out], hwU⟩
          ·
           have b1 := str_ne hy
           have HNE := Lib.hid hy
           clear hy
           have HB := Lib.hid (show readB t = false from by unfold readB; rw [HQ.out]; exact decide_eq_false (fun h => HNE.out (HY.out.symm.trans h.2)))
           obtain ⟨U, eU, RU, hcU⟩ := s4 ST.out.2.2.1 (.int .i64 0) (.string ⟨#[]⟩) (.string ⟨#[]⟩) (.int .i64 0)
           have z := ST.out.2.2.1.c4
           have zf := ST.out.2.2.1.fz
           have z0 := zf 0
           have z1 := zf 1
           have z2 := zf 2
           have z3 := zf 3
           have zU := RU.c4
           have hwU := belChg ST.out.2.2.2 hcU (by omega)
           clear zf
           go_wp2
           exact bodyPost_ret (v := .tuple #[.agg #[.int .i64 0, .string ⟨#[]⟩, .string ⟨#[]⟩, .int .i64 0], .bool false]) (by simp [results, Tryd.results14, go_sem, zU]) rfl ⟨by rw [read_no HB.out, HB.out]; rfl, hwU⟩
end Go.Proofs.YtjgfbcmgnjgapaaDoor
