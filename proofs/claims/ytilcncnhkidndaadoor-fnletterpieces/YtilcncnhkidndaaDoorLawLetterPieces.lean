/- The law FnLetterPieces: for every code that is drawn from, letters taken in pieces are those taken at once, as the model: for every input the call returns true, and the arguments read afterwards as before. No conditions. -/
import Derived.Test.YtilcncnhkidndaaDoorRows
import Derived.Test.YtilcncnhkidndaaDoorCards
import Derived.Test.YtilcncnhkidndaaDoorTie
import Derived.Test.YtilcncnhkidndaaDoorWhole
import Derived.Test.YtilcncnhkidndaaDoorGlO
import Derived.Test.YtilcncnhkidndaaDoorFlLetter
import Derived.Test.YtilcncnhkidndaaDoorL5j
import Derived.Test.YtilcncnhkidndaaDoorL5k
import Derived.Test.YtilcncnhkidndaaDoorD5d
import Derived.WalkKit
import Derived.ProofKit
import Derived.OpenShut
import Derived.ShutString
import Derived.ChangeOld
import Derived.Below
import Derived.LaidMore
import Derived.SevenTiedAt
import Derived.Stop.Joined
namespace Go.Proofs.YtilcncnhkidndaaDoor.fnLetterPieces
open Go.ChangeShapes Go.WideShapes Go.ChangeAt Go.RowKit
open Go.ChangeMaps (open_string shut_string)
set_option linter.unusedVariables false

theorem ok_total {ls : List LE} (h : ∀ l ∈ ls, okB l = true) : totalLE ls ≤ 42 * ls.length := by
 induction ls with
 | nil => simp [totalLE]
 | cons x l ih =>
  have h1 : x.s.size = 1 ∧ x.b.size ≤ 40 := by have := h x (by simp); unfold okB at this; simp only [Bool.and_eq_true, decide_eq_true_eq] at this; omega
  have h2 := ih fun y hy => h y (by simp [hy])
  have h3 : totalLE (x :: l) = (x.s.size + x.b.size + 1) + totalLE l := by simp [totalLE]
  rw [h3, List.length_cons]
  omega
theorem ok_fit {ls : List LE} (h : ∀ l ∈ ls, okB l = true) : FitLEs ls := fun l hl => by
 have h1 : l.s.size = 1 ∧ l.b.size ≤ 40 := by have := h l hl; unfold okB at this; simp only [Bool.and_eq_true, decide_eq_true_eq] at this; omega
 exact ⟨by unfold maxLen; omega, by unfold maxLen; omega⟩
theorem all_len {s : ByteArray} {ls : List LE} {r : Bs} {c : Nat} (hP : AllP (bs s) ls r c) : ls.length ≤ 400 := by
 by_cases hx : 400 < (bs s).length
 ·
  rw [(hP.1 hx).1]; simp
 ·
  have h1 := hP.2 (by omega)
  have h2 := catL_length h1.2.1
  have h3 := congrArg List.length h1.1
  rw [List.length_append] at h3
  omega
section
variable {α : Type} [E : Elt α]
theorem wpList_appGw {ops : Array Oper} {rest : List Oper} {o : Oper} {a : Act} {Q : Exit → Act → World → Prop} (w : World) (hw : Region.wanted o (yielded ops a.tmps) = true) (s x : Operand) (t t' e' : TypeId)
  (ho : o.op = .call { callee := .builtin .append, args := #[s, x], argTypes := #[t, t'] }) (ht : Tryd.prog.underlying t = some (.slice (Elt.T α))) (ht' : Tryd.prog.underlying t' = some (.slice e'))
  (base : Nat) (v : Value) (l : List α) (hs : a.eval s = v) (hown : OwnG w base v l) (A : Option Addr) (c B n2 : Nat) (l2 : List α) (hn2 : l2.length = n2) (hx : a.eval x = .slice A n2 c) (hr : RdG w B A l2) (hlen : l.length + l2.length ≤ 4194304) (hbase : base ≤ w.heap.size)
  (h : ∀ v' w', OwnG w' base v' (l ++ l2) → w.grownBy w' v.ownBlock → (v'.ownBlock = v.ownBlock ∨ v'.ownBlock = some w.heap.size) → wpList Tryd.prog ops Q rest (a.put o.dst v') w') : wpList Tryd.prog ops Q (o :: rest) a w :=
 wpList_step fun K hK => by rw [if_pos hw]; exact wp_appG w s x t t' e' ho ht ht' base v l hs hown A c B n2 l2 hn2 hx hr hlen hbase fun v' w' h2 h3 h4 => hK _ _ (h v' w' h2 h3 h4)
end

set_option maxRecDepth 100000 in
set_option maxHeartbeats 4000000 in
theorem walk (A0 : Option Addr) (n0 c0 : Nat) (A1 : Option Addr) (n1 c1 : Nat) (a0 a1 : Addr) (w : World) (hc0 : n0 ≤ c0) (hm0 : c0 ≤ maxLen) (hr0 : RdB w w.heap.size A0 n0) (hc1 : n1 ≤ c1) (hm1 : c1 ≤ maxLen) (hr1 : RdB w w.heap.size A1 n1) (GE : GlE w a0 a1) :
  Calls Tryd.prog 6 #[.slice A0 n0 c0, .slice A1 n1 c1] w fun e w' => e = .returned (.bool true) ∧ Below w.heap.size w w' := by
 by_cases hbig : 1048576 < n0
 ·
  have hbi : decide ((1048576 : Int) < (n0 : Int)) = true := decide_eq_true (by omega)
  go_enter Tryd.func6, Tryd.ntmps6
  go_wp2
  go_ret
  exact ⟨rfl, Below.refl _ _⟩
 have hbi : decide ((1048576 : Int) < (n0 : Int)) = false := decide_eq_false (by omega)
 by_cases hbig1 : 1048576 < n1
 ·
  have hbi1 : decide ((1048576 : Int) < (n1 : Int)) = true := decide_eq_true (by omega)
  go_enter Tryd.func6, Tryd.ntmps6
  go_wp2
  go_ret
  exact ⟨rfl, Below.refl _ _⟩
 have hbi1 : decide ((1048576 : Int) < (n1 : Int)) = false := decide_eq_false (by omega)
 have HG := Lib.hid GE
 clear GE
 go_enter Tryd.func6, Tryd.ntmps6
 go_wp2_with fail
 refine (dDrawLetterAll A0 n0 c0 w hc0 hm0 hr0).mono ?_
 rintro e w1 ⟨s, rfl, hs, hw1⟩
 have hsm : s.size ≤ maxLen := by unfold maxLen; omega
 have HG1 := Lib.hid (HG.out.next hw1)
 clear HG
 go_wp2_with fail
 refine (implAll s a0 a1 w1 hsm HG1.out).mono ?_
 rintro e w2 ⟨v, ls, t, cd, rfl, o2, hP, hb2⟩
 have O2 := Lib.hid o2
 have HP := Lib.hid hP
 have hlen := all_len hP
 have HG2 := Lib.hid (HG1.out.next hb2)
 have hw2 := below_next hw1 hb2
 clear hP o2 hb2 HG1
 go_wp2_with fail
 refine (specAll s w2 hsm).mono ?_
 rintro e w3 ⟨v', ls', t', cd', rfl, o3, hP', hb3⟩
 obtain ⟨rfl, ht, rfl⟩ := HP.out.unique hP'
 obtain rfl := bs_inj ht
 have O3 := Lib.hid (O2.out.next hb3)
 have HG3 := Lib.hid (HG2.out.next hb3)
 have hw3 := below_next hw2 hb3
 clear hP' ht o3 hb3 O2 HG2
 by_cases h4 : 400 < s.size
 ·
  have h5 : (400 : Int) < (s.size : Int) := by omega
  go_wp2
  go_ret
  exact ⟨rfl, hw3⟩
 have h5 : ¬ (400 : Int) < (s.size : Int) := by omega
 have hxl : (bs s).length = s.size := rfl
 have HR := Lib.hid (HP.out.2 (by omega))
 obtain ⟨k, hk⟩ : ∃ k, n1 % (s.size + 1) = k := ⟨_, rfl⟩
 have hks : k ≤ s.size := by have := Nat.mod_lt n1 (show 0 < s.size + 1 by omega); omega
 have r1 : (n1 : Int).tmod ((s.size : Int) + 1) = (k : Int) := by rw [← hk, Int.ofNat_tmod]; rfl
 have r2 : (n1 : Int) % ((s.size : Int) + 1) = (k : Int) := by rw [← hk]; rfl
 have i1 : (k : Int) ≤ (s.size : Int) := by omega
 have HK := Lib.hid (show bs (s.extract 0 k) = (bs s).take k from by rw [bs_extract, List.drop_zero])
 have HD := Lib.hid (show bs (s.extract k s.size) = (bs s).drop k from by rw [bs_extract, List.take_of_length_le (Nat.le_of_eq hxl)])
 have hes : (s.extract 0 k).size ≤ 400 := by rw [ByteArray.size_extract]; omega
 clear hk hxl
 go_wp2_with fail
 refine (implAll (s.extract 0 k) a0 a1 w3 (by unfold maxLen; omega) HG3.out).mono ?_
 rintro e w5 ⟨v5, la, t5, d, rfl, o5, hP5, hb5⟩
 have HR5 := Lib.hid (hP5.2 (by have : (bs (s.extract 0 k)).length = (s.extract 0 k).size := rfl; omega))
 have O5 := Lib.hid o5
 have OL5 := Lib.hid (O3.out.next hb5)
 have HG5 := Lib.hid (HG3.out.next hb5)
 have hw5 := below_next hw3 hb5
 clear o5 hP5 hb5 O3 HG3
 by_cases hd : d = 2
 ·
  subst hd
  have hm := HR5.out.badmore ((bs s).drop k)
  rw [HK.out, List.take_append_drop] at hm
  obtain ⟨rfl, -, rfl⟩ := hm.unique HR.out
  go_wp2_with fail
  refine (wpLetOwn_c _ _ _ _ _ _ O5.out OL5.out (by omega)).mono ?_
  rintro e w6 ⟨rfl, hb6⟩
  have hw6 := below_next hw5 hb6
  go_wp2
  go_ret
  exact ⟨rfl, hw6⟩
 ·
  have hd1 : ((d : Int) == 2) = false := beq_eq_false_iff_ne.2 (by omega)
  have HT5 := Lib.hid (show t5.size ≤ 400 from by have h1 := congrArg List.length HR5.out.1; rw [List.length_append] at h1; have h2 : (bs (s.extract 0 k)).length = (s.extract 0 k).size := rfl; have h3 : (bs t5).length = t5.size := rfl; omega)
  have ht5 : t5.size ≤ 400 := HT5.out
  have y1 : ¬ (9223372036854775807 < t5.size + (s.size - k)) := by omega
  go_wp2_with fail
  refine (implAll (t5 ++ s.extract k s.size) a0 a1 w5 (by rw [ByteArray.size_append, ByteArray.size_extract]; unfold maxLen; omega) HG5.out).mono ?_
  rintro e w6 ⟨v6, lb, t6, d6, rfl, o6, hP6, hb6⟩
  have hsz6 : (bs (t5 ++ s.extract k s.size)).length ≤ 400 := by
   have h1 := congrArg List.length HR5.out.1
   rw [List.length_append, HK.out, List.length_take] at h1
   have h2 : (bs s).length = s.size := rfl
   have h3 : (bs t5).length = t5.size := rfl
   have h4 : (bs (t5 ++ s.extract k s.size)).length = (t5 ++ s.extract k s.size).size := rfl
   rw [h4, ByteArray.size_append, ByteArray.size_extract]
   omega
  have hR6 := hP6.2 hsz6
  rw [bs_append, HD.out] at hR6
  have hm := HR5.out.more hR6
  rw [HK.out, List.take_append_drop] at hm
  obtain ⟨hab, ht6, rfl⟩ := hm.unique HR.out
  obtain rfl := bs_inj ht6
  have HAB := Lib.hid hab
  have O6 := Lib.hid o6
  have O56 := Lib.hid (O5.out.next hb6)
  have OL6 := Lib.hid (OL5.out.next hb6)
  have hw6 := below_next hw5 hb6
  clear hR6 hm hab ht6 o6 hP6 hb6 hsz6
  obtain ⟨A5, c5, rfl, hl5, hm5, -⟩ := O56.out.read
  obtain ⟨A6, c6, rfl, hl6, hm6, -⟩ := O6.out.read
  have hlab : la.length + lb.length ≤ 400 := by rw [← List.length_append, HAB.out]; exact hlen
  obtain ⟨W7, eW7, -, -, hW7⟩ := al1 w6 rfl #[] 24
  have hO : OwnG W7 w6.heap.size (.slice (some ⟨w6.heap.size, 0, none⟩) 0 0) ([] : List LE) := by rw [← eW7]; exact OwnG.fresh w6 w6.heap.size (Nat.le_refl _)
  have H5 := Lib.hid ((O56.out.rd').2.2.2.below hW7)
  have H6 := Lib.hid ((O6.out.rd').2.2.2.below hW7)
  have HO := Lib.hid hO
  have HW7 := Lib.hid hW7
  have hsz7 := hW7.size
  clear hO hW7 hl5 hm5 hl6 hm6
  go_wp2_with (first
   | (at_builtin; refine wpList_appGw (α := LE) W7 (by rfl) (.tmp 94) (.tmp 95) 32 32 24 rfl Tryd.underlying32 Tryd.underlying32 w6.heap.size (.slice (some ⟨w6.heap.size, 0, none⟩) 0 0) [] rfl HO.out A5 c5 w6.heap.size _ la rfl rfl H5.out (by simp; omega) hsz7 ?_; rintro v8 w8 o8 g8 -; have hw8 := Lib.hid (HO.out.belB g8 hsz7); have H68 := Lib.hid (H6.out.below (HO.out.belB g8 hsz7)); have O8 := Lib.hid o8; have hsz8 : w6.heap.size ≤ w8.heap.size := Nat.le_trans hsz7 g8.size; clear o8 g8)
   | (at_builtin; refine wpList_appGw (α := LE) w8 (by rfl) (.tmp 96) (.tmp 97) 32 32 24 rfl Tryd.underlying32 Tryd.underlying32 w6.heap.size v8 ([] ++ la) rfl O8.out A6 c6 w6.heap.size _ lb rfl rfl H68.out (by simp; omega) hsz8 ?_; rintro v9 w9 o9 g9 -; have hb9 := Lib.hid ((HW7.out.trans hw8.out).trans (O8.out.belB g9 hsz8)); have O9 := Lib.hid (show OwnG w9 w6.heap.size v9 ls from o9.cast' (by rw [List.nil_append]; exact HAB.out)); have OL9 := Lib.hid (OL6.out.next hb9.out); have hw9 := below_next hw6 hb9.out; clear o9 g9)
   | fail)
  refine (wpLetOwn_c _ _ _ _ _ _ O9.out OL9.out (by omega)).mono ?_
  rintro e w10 ⟨rfl, hb10⟩
  have hw10 := below_next hw9 hb10
  go_wp2
  go_ret
  exact ⟨rfl, hw10⟩

set_option maxRecDepth 100000 in
theorem lifted (os : Os) (started : os.Started) (H : Type) (enc : TypeId × Value → H) :
  ReturnsInHanded {} Tryd.checked os 6 .any (fun w args => (Rows.fnLetterPiecesSpec.pre enc Tryd.prog Tryd.f6 [] false w args ∧ laidMetH Tryd.prog laidE w) ∧ sizedMet enc Tryd.prog Tryd.f6 (OpenSpec.ofChange Rows.fnLetterPiecesSpec) false w args)
   (Rows.fnLetterPiecesSpec.post enc Tryd.prog Tryd.f6 false true false false) := by
 refine returnsInHanded_of_change_and (C := Tryd.checked) (X := fun w _ => laidMetH Tryd.prog laidE w) (fun _ _ _ hh h => h.of_heap hh) Whole.own started (by kernel_rfl) Tryd.func6
  (ChangeSpec.witness_shaped (enc := enc) (C := Tryd.checked) (os := os) (X := fun w _ => laidMetH Tryd.prog laidE w) false (World.doorLaid Tryd.prog 47 os) #[.slice none 0 0, .slice none 0 0] 8 rfl (World.shaped_of_RefB (by kernel_rfl) (by kernel_rfl)) (by kernel_rfl) (by kernel_rfl) (by kernel_rfl) (e_door os _)) ?_
 intro W base args ds gs before hval0 hW _ _ hL _
 have hval : ∀ (j : Nat) t v, Tryd.f6.params[j]? = some t → args[j]? = some v → Value.okWide Tryd.prog W .any base t v := hval0
 have hW' := hW
 obtain ⟨p, q, hA0, hV0, rfl, hfz, hnd⟩ := hW
 have hA : DataW.TrodAll enc Tryd.prog W 0 (fun _ => true) true Tryd.f6.params.toList args.toList ds p := hA0
 have hV : DataW.TrodVars enc Tryd.prog W (fun _ => true) [n0, n1] gs q := hV0
 rw [Tryd.params6] at hA hval
 obtain ⟨v0, vs0, d0, ds0, p0, q0, hargs, rfl, rfl, h0, r0⟩ := trodAll_cons hA
 obtain ⟨v1, vs1, d1, ds1, p1, q1, rfl, rfl, rfl, h1, r1⟩ := trodAll_cons r0
 obtain ⟨rfl, rfl, rfl⟩ := trodAll_nil r1
 obtain rfl : args = #[v0, v1] := by cases args; simp_all
 obtain ⟨a0, a1, hv0, hv1, GE⟩ := e_open (e_plain hL)
 obtain ⟨rfl, rfl⟩ := hV.unique (e_read enc hv0 hv1 trivial trivial _)
 have k0 := h0
 have lt0 : ∀ x ∈ p0, x.block < W.heap.size := by obtain ⟨m, hm⟩ := k0; exact DataW.trod_lt m _ _ _ hm
 obtain ⟨A0, n0, c0, rfl, hc0, hm0, hr0⟩ := openBytes (hval 0 22 v0 rfl rfl) h0
 have k1 := h1
 have lt1 : ∀ x ∈ p1, x.block < W.heap.size := by obtain ⟨m, hm⟩ := k1; exact DataW.trod_lt m _ _ _ hm
 obtain ⟨A1, n1, c1, rfl, hc1, hm1, hr1⟩ := openBytes (hval 1 22 v1 rfl rfl) h1
 clear hA0 hval0 hV0
 refine (walk A0 n0 c0 A1 n1 c1 a0 a1 W hc0 hm0 hr0 hc1 hm1 hr1 GE).mono fun e W' ⟨he, bel⟩ => ?_
 subst he
 exact ⟨_, rfl, _, _, _, [], _, [.cell 0 0, .cell 1 0], hW', trodAll_mk1 (shut_bool Tryd.underlying4 _), (trodAll_cons_mk (Below.trod Whole.laidOut (by kernel_rfl) (of_decide_eq_true (by kernel_rfl)) k0 bel lt0) (trodAll_cons_mk (Below.trod Whole.laidOut (by kernel_rfl) (of_decide_eq_true (by kernel_rfl)) k1 bel lt1) trodAll_mk0)), e_read enc (var_below e_g0 bel hv0) (var_below e_g1 bel hv1) trivial trivial _, bel.frame _, fun h => by cases h⟩

theorem named : Tryd.prog.funcNamed Rows.fnLetterPiecesRow.func = some 6 := by kernel_rfl
theorem closed : Whole.lawFacts Tryd.prog 6 Tryd.f6 Rows.fnLetterPiecesSpec Rows.fnLetterPiecesRow = true := by kernel_rfl
theorem inst : Tryd.f6.isInstance Tryd.prog Rows.fnLetterPiecesRow.origin Rows.fnLetterPiecesRow.targs := of_decide_eq_true (by kernel_rfl)
theorem wrap : Tryd.f6.isWrapper Tryd.prog Rows.fnLetterPiecesRow.wrapper Rows.fnLetterPiecesRow.mainSum := by
 unfold Func.isWrapper; first | (rw [if_pos (by decide +kernel)]; kernel_rfl) | (rw [if_neg (by decide +kernel)]; exact ⟨rfl, rfl⟩)
theorem over : Rows.fnLetterPiecesRow.holds Tryd.pinned (OpenSpec.ofChange Rows.fnLetterPiecesSpec) :=
 OpenClaim.holds_of_wide 6 Tryd.f6 rfl rfl rfl rfl rfl rfl rfl ⟨rfl, rfl, rfl, rfl, rfl⟩ rfl rfl rfl rfl rfl named Tryd.func6 (Whole.facts_of closed)
  inst wrap (fun os started H enc _ => lifted os started H enc)

theorem proved : Rows.FnLetterPiecesCardSaid :=
 Claim7.holds_tied_plain_at .later [] [.sentinel, .sentinel] true (true, "f355c901a8b8506d89c9f4b274f0813ef8c12415e439c0c7a2efd621187a51cb") true
  over (fun _ h => by cases h) (by kernel_rfl) (fun _ h => by cases h) fnLetterPieces_row_tie rfl ⟨rfl, rfl⟩ (by kernel_rfl) rfl
  (fun f fn hf hfn => by
   obtain rfl : f = 6 := Option.some.inj (named.symm.trans hf) |>.symm
   obtain rfl : fn = Tryd.f6 := (Option.some.inj (Tryd.func6.symm.trans hfn)).symm
   exact ⟨by kernel_rfl, fun j t ht => by
    rw [Tryd.params6] at ht
    have hm : t ∈ [22] := by have := Array.mem_of_getElem? ht; simp at this ⊢; omega
    have hall : ([22].all fun u => !Tryd.prog.wantsStandIn u) = true := by kernel_rfl
    exact (show Tryd.prog.wantsStandIn t = false by simpa using List.all_eq_true.1 hall t hm)⟩)
  (by kernel_rfl)
#print axioms proved
end Go.Proofs.YtilcncnhkidndaaDoor.fnLetterPieces
