/- The model: what may be asked. -/
import Derived.Test.YtjgfbcmgnjgapaaDoorAkF
namespace Go.Proofs.YtjgfbcmgnjgapaaDoor
open Go.RowKit
set_option linter.unusedVariables false
set_option maxRecDepth 100000

def keyK (k : Int) : Bool := decide (1 ≤ k) && decide (k ≤ 6)
def hiK (k : Int) : Bool := decide (k = 2) || decide (k = 3)
def numK (k : Int) : Bool := decide (k = 4) || decide (k = 5)
def keyQ (q : Q4) : Bool := if keyK q.kind then keyB q.key else decide (q.key.size = 0)
def hiQ (q : Q4) : Bool := if hiK q.kind then keyB q.hi else decide (q.hi.size = 0)
def numQ (q : Q4) : Bool := if numK q.kind then numB q.num else decide (q.num = 0)
def askB (q : Q4) : Bool := decide (1 ≤ q.kind) && decide (q.kind ≤ 9) && keyQ q && hiQ q && numQ q
theorem askB_iff {q : Q4} : askB q = true ↔ 1 ≤ q.kind ∧ q.kind ≤ 9 ∧ keyQ q = true ∧ hiQ q = true ∧ numQ q = true := by
 unfold askB
 simp only [Bool.and_eq_true, decide_eq_true_eq]
 exact ⟨fun ⟨⟨⟨⟨a, b⟩, c⟩, d⟩, e⟩ => ⟨a, b, c, d, e⟩, fun ⟨a, b, c, d, e⟩ => ⟨⟨⟨⟨a, b⟩, c⟩, d⟩, e⟩⟩
theorem keyQ_key {q : Q4} (h : keyQ q = true) (h1 : 1 ≤ q.kind) (h2 : q.kind ≤ 6) : keyB q.key = true := by
 unfold keyQ keyK at h
 rw [decide_eq_true h1, decide_eq_true h2] at h
 exact h
theorem specKey1 (s : ByteArray) (w : World) (hs : s.size ≤ maxLen) : Calls Tryd.prog 28 #[.string s] w fun e w' => e = .returned (.bool (keyB s)) ∧ Below w.heap.size w w' :=
 (specKey s w hs).mono fun e w' ⟨he, hw⟩ => ⟨he, hw ▸ Below.refl _ _⟩
theorem specNum1 (n : Int) (w : World) : Calls Tryd.prog 29 #[.int .i64 n] w fun e w' => e = .returned (.bool (numB n)) ∧ Below w.heap.size w w' :=
 (specNum n w).mono fun e w' ⟨he, hw⟩ => ⟨he, hw ▸ Below.refl _ _⟩
theorem str_emp (s : ByteArray) : s.toList.isEmpty = decide (s.size = 0) := by
 rw [ByteArray.toList_eq]
 apply Bool.eq_iff_iff.2
 simp only [List.isEmpty_iff, decide_eq_true_eq]
 constructor
 ·
  intro h; show s.data.size = 0; rw [← Array.length_toList, h]; rfl
 ·
  intro h; exact List.eq_nil_of_length_eq_zero h
theorem key_full {s : ByteArray} (h : keyB s = true) : decide (s.size = 0) = false := by
 unfold keyB at h
 simp only [Bool.and_eq_true, decide_eq_true_eq] at h
 exact decide_eq_false (by omega)
set_option maxHeartbeats 1000000 in
theorem shape_c (k : Int) (w : World) : Calls Tryd.prog 23 #[.int .i64 k] w fun e w' => e = .returned (.tuple #[.bool (keyK k), .bool (hiK k), .bool (numK k)]) ∧ Below w.heap.size w w' := by
 by_cases h1 : k = 1
 ·
  subst h1
  go_enter Tryd.func23, Tryd.ntmps23
  go_wp2
  exact bodyPost_ret (v := .tuple #[.bool true, .bool false, .bool false]) (by simp [results, Tryd.results23, go_sem]) rfl ⟨rfl, Below.refl _ _⟩
 by_cases h6 : k = 6
 ·
  subst h6
  go_enter Tryd.func23, Tryd.ntmps23
  go_wp2
  exact bodyPost_ret (v := .tuple #[.bool true, .bool false, .bool false]) (by simp [results, Tryd.results23, go_sem]) rfl ⟨rfl, Below.refl _ _⟩
 by_cases h2 : k = 2
 ·
  subst h2
  go_enter Tryd.func23, Tryd.ntmps23
  go_wp2
  exact bodyPost_ret (v := .tuple #[.bool true, .bool true, .bool false]) (by simp [results, Tryd.results23, go_sem]) rfl ⟨rfl, Below.refl _ _⟩
 by_cases h3 : k = 3
 ·
  subst h3
  go_enter Tryd.func23, Tryd.ntmps23
  go_wp2
  exact bodyPost_ret (v := .tuple #[.bool true, .bool true, .bool false]) (by simp [results, Tryd.results23, go_sem]) rfl ⟨rfl, Below.refl _ _⟩
 by_cases h4 : k = 4
 ·
  subst h4
  go_enter Tryd.func23, Tryd.ntmps23
  go_wp2
  exact bodyPost_ret (v := .tuple #[.bool true, .bool false, .bool true]) (by simp [results, Tryd.results23, go_sem]) rfl ⟨rfl, Below.refl _ _⟩
 by_cases h5 : k = 5
 ·
  subst h5
  go_enter Tryd.func23, Tryd.ntmps23
  go_wp2
  exact bodyPost_ret (v := .tuple #[.bool true, .bool false, .bool true]) (by simp [results, Tryd.results23, go_sem]) rfl ⟨rfl, Below.refl _ _⟩
 have e1 : (k == 1) = false := by simp; exact h1
 have e6 : (k == 6) = false := by simp; exact h6
 have e2 : (k == 2) = false := by simp; exact h2
 have e3 : (k == 3) = false := by simp; exact h3
 have e4 : (k == 4) = false := by simp; exact h4
 have e5 : (k == 5) = false := by simp; exact h5
 have ek : keyK k = false := by unfold keyK; simp; omega
 have eh : hiK k = false := by unfold hiK; simp; omega
 have en : numK k = false := by unfold numK; simp; omega
 rw [ek, eh, en]
 clear ek eh en h1 h6 h2 h3 h4 h5
 go_enter Tryd.func23, Tryd.ntmps23
 go_wp2
 exact bodyPost_ret (v := .tuple #[.bool false, .bool false, .bool false]) (by simp [results, Tryd.results23, go_sem]) rfl ⟨rfl, Below.refl _ _⟩
set_option maxHeartbeats 2000000 in
theorem specAskOk (q : Q4) (w : World) (hq1 : FitQ q)  :
  Calls Tryd.prog 12 #[.agg #[.int .i64 q.kind, .string q.key, .string q.hi, .int .i64 q.num]] w fun e w' => e = .returned (.bool (askB q)) ∧ Below w.heap.size w w' := by
 go_enter Tryd.func12, Tryd.ntmps12
 have hb_t1 := below_alloc (Below.refl _ w) (.cells #[.int .i64 q.kind, .string q.key, .string q.hi, .int .i64 q.num] 24)
 have Bq_t1 := blkA w #[.int .i64 q.kind, .string q.key, .string q.hi, .int .i64 q.num] 24
 have hz_t1 : (w.alloc (.cells #[.int .i64 q.kind, .string q.key, .string q.hi, .int .i64 q.num] 24)).heap.size = w.heap.size + 1 := World.size_alloc _ _
 have hw_t2 := hb_t1
 have hs_t2 := hb_t1.size
 by_cases hlo : q.kind < 1
 ·
  have hd1 : decide (q.kind < 1) = true := decide_eq_true hlo
  have HW : Hid (askB q = false) := Lib.hid (by unfold askB; rw [decide_eq_false (show ¬ 1 ≤ q.kind from by omega)]; rfl)
  have qBq0 : (w.alloc (.cells #[.int .i64 q.kind, .string q.key, .string q.hi, .int .i64 q.num] 24)).cell? ⟨w.heap.size, 0, none⟩ = some (.int .i64 q.kind) := by rw [Bq_t1.cell]; rfl
  have qBq1 : (w.alloc (.cells #[.int .i64 q.kind, .string q.key, .string q.hi, .int .i64 q.num] 24)).cell? ⟨w.heap.size, 1, none⟩ = some (.string q.key) := by rw [Bq_t1.cell]; rfl
  have qBq2 : (w.alloc (.cells #[.int .i64 q.kind, .string q.key, .string q.hi, .int .i64 q.num] 24)).cell? ⟨w.heap.size, 2, none⟩ = some (.string q.hi) := by rw [Bq_t1.cell]; rfl
  have qBq3 : (w.alloc (.cells #[.int .i64 q.kind, .string q.key, .string q.hi, .int .i64 q.num] 24)).cell? ⟨w.heap.size, 3, none⟩ = some (.int .i64 q.num) := by rw [Bq_t1.cell]; rfl
  go_wp2
  go_ret
  exact ⟨ret_bool (HW.out).symm, hw_t2⟩
 ·
  have hd1 : decide (q.kind < 1) = false := decide_eq_false hlo
  by_cases hhi : 9 < q.kind
  ·
   have hd2 : decide (9 < q.kind) = true := decide_eq_true hhi
   have HW : Hid (askB q = false) := Lib.hid (by unfold askB; rw [decide_eq_false (show ¬ q.kind ≤ 9 from by omega)]; simp)
   have qBq0 : (w.alloc (.cells #[.int .i64 q.kind, .string q.key, .string q.hi, .int .i64 q.num] 24)).cell? ⟨w.heap.size, 0, none⟩ = some (.int .i64 q.kind) := by rw [Bq_t1.cell]; rfl
   have qBq1 : (w.alloc (.cells #[.int .i64 q.kind, .string q.key, .string q.hi, .int .i64 q.num] 24)).cell? ⟨w.heap.size, 1, none⟩ = some (.string q.key) := by rw [Bq_t1.cell]; rfl
   have qBq2 : (w.alloc (.cells #[.int .i64 q.kind, .string q.key, .string q.hi, .int .i64 q.num] 24)).cell? ⟨w.heap.size, 2, none⟩ = some (.string q.hi) := by rw [Bq_t1.cell]; rfl
   have qBq3 : (w.alloc (.cells #[.int .i64 q.kind, .string q.key, .string q.hi, .int .i64 q.num] 24)).cell? ⟨w.heap.size, 3, none⟩ = some (.int .i64 q.num) := by rw [Bq_t1.cell]; rfl
   go_wp2
   go_ret
   exact ⟨ret_bool (HW.out).symm, hw_t2⟩
  ·
   have hd2 : decide (9 < q.kind) = false := decide_eq_false hhi
   have HA : Hid (askB q = (keyQ q && hiQ q && numQ q)) := Lib.hid (by unfold askB; rw [decide_eq_true (show 1 ≤ q.kind from by omega), decide_eq_true (show q.kind ≤ 9 from by omega)]; simp)
   have HQ : Hid (keyQ q = (if keyK q.kind then keyB q.key else decide (q.key.size = 0)) ∧ hiQ q = (if hiK q.kind then keyB q.hi else decide (q.hi.size = 0)) ∧ numQ q = (if numK q.kind then numB q.num else decide (q.num = 0))) := Lib.hid ⟨rfl, rfl, rfl⟩
   obtain ⟨KK, HK, NK, HKK⟩ : ∃ KK HK NK, Hid (keyK q.kind = KK ∧ hiK q.kind = HK ∧ numK q.kind = NK) := ⟨_, _, _, Lib.hid ⟨rfl, rfl, rfl⟩⟩
   rw [HKK.out.1, HKK.out.2.1, HKK.out.2.2] at HQ
   have eK := str_emp q.key
   have eH := str_emp q.hi
   obtain ⟨kB, HkB⟩ : ∃ kB, Hid (keyB q.key = kB) := ⟨_, Lib.hid rfl⟩
   obtain ⟨hB, HhB⟩ : ∃ hB, Hid (keyB q.hi = hB) := ⟨_, Lib.hid rfl⟩
   obtain ⟨nB, HnB⟩ : ∃ nB, Hid (numB q.num = nB) := ⟨_, Lib.hid rfl⟩
   have HkE : Hid (kB = true → decide (q.key.size = 0) = false) := Lib.hid (fun h => key_full (HkB.out.trans h))
   have HhE : Hid (hB = true → decide (q.hi.size = 0) = false) := Lib.hid (fun h => key_full (HhB.out.trans h))
   rw [HkB.out, HhB.out, HnB.out] at HQ
   obtain ⟨ke, Hke⟩ : ∃ ke, Hid (decide (q.key.size = 0) = ke) := ⟨_, Lib.hid rfl⟩
   obtain ⟨he, Hhe⟩ : ∃ he, Hid (decide (q.hi.size = 0) = he) := ⟨_, Lib.hid rfl⟩
   obtain ⟨nz, Hnz⟩ : ∃ nz, Hid (decide (q.num = 0) = nz) := ⟨_, Lib.hid rfl⟩
   rw [Hke.out] at eK HkE HQ
   rw [Hhe.out] at eH HhE HQ
   rw [Hnz.out] at HQ
   have eN : (q.num == 0) = nz := by rw [← Hnz.out]; rfl
   have qBq0 : (w.alloc (.cells #[.int .i64 q.kind, .string q.key, .string q.hi, .int .i64 q.num] 24)).cell? ⟨w.heap.size, 0, none⟩ = some (.int .i64 q.kind) := by rw [Bq_t1.cell]; rfl
   have qBq1 : (w.alloc (.cells #[.int .i64 q.kind, .string q.key, .string q.hi, .int .i64 q.num] 24)).cell? ⟨w.heap.size, 1, none⟩ = some (.string q.key) := by rw [Bq_t1.cell]; rfl
   have qBq2 : (w.alloc (.cells #[.int .i64 q.kind, .string q.key, .string q.hi, .int .i64 q.num] 24)).cell? ⟨w.heap.size, 2, none⟩ = some (.string q.hi) := by rw [Bq_t1.cell]; rfl
   have qBq3 : (w.alloc (.cells #[.int .i64 q.kind, .string q.key, .string q.hi, .int .i64 q.num] 24)).cell? ⟨w.heap.size, 3, none⟩ = some (.int .i64 q.num) := by rw [Bq_t1.cell]; rfl
   go_wp2_with fail
   clear qBq0 qBq1 qBq2 qBq3
   refine (shape_c q.kind _).mono ?_
   rw [HKK.out.1, HKK.out.2.1, HKK.out.2.2]
   rintro e w1 ⟨rfl, hb1⟩
   have Bq_t4 := Bq_t1.next hb1
   clear Bq_t1
   have hw_t4 := below_next hw_t2 hb1
   have hs_t4 := hb1.size
   clear HKK
   cases hK : KK
   ·
    subst hK
    cases hE : ke
    ·
     subst hE
     have p_eK : ¬ q.key.toList = [] := fun h => by rw [h] at eK; cases eK
     have hkq := HQ.out.1
     rw [if_neg (by simp)] at hkq
     have HW : Hid (askB q = false) := Lib.hid (by rw [HA.out, hkq]; simp)
     clear HA HQ HkE HhE HkB HhB HnB Hke Hhe Hnz
     have qBq0 : w1.cell? ⟨w.heap.size, 0, none⟩ = some (.int .i64 q.kind) := by rw [Bq_t4.cell]; rfl
     have qBq1 : w1.cell? ⟨w.heap.size, 1, none⟩ = some (.string q.key) := by rw [Bq_t4.cell]; rfl
     have qBq2 : w1.cell? ⟨w.heap.size, 2, none⟩ = some (.string q.hi) := by rw [Bq_t4.cell]; rfl
     have qBq3 : w1.cell? ⟨w.heap.size, 3, none⟩ = some (.int .i64 q.num) := by rw [Bq_t4.cell]; rfl
     go_wp2
     go_ret
     exact ⟨ret_bool (HW.out).symm, hw_t4⟩
    ·
     subst hE
     have p_eK : q.key.toList = [] := List.isEmpty_iff.1 eK
     have hkq := HQ.out.1
     rw [if_neg (by simp)] at hkq
     cases hK : HK
     ·
      subst hK
      cases hE : he
      ·
       subst hE
       have p_eH : ¬ q.hi.toList = [] := fun h => by rw [h] at eH; cases eH
       have hhq := HQ.out.2.1
       rw [if_neg (by simp)] at hhq
       have HW : Hid (askB q = false) := Lib.hid (by rw [HA.out, hhq]; simp)
       clear HA HQ HkE HhE HkB HhB HnB Hke Hhe Hnz
       have qBq0 : w1.cell? ⟨w.heap.size, 0, none⟩ = some (.int .i64 q.kind) := by rw [Bq_t4.cell]; rfl
       have qBq1 : w1.cell? ⟨w.heap.size, 1, none⟩ = some (.string q.key) := by rw [Bq_t4.cell]; rfl
       have qBq2 : w1.cell? ⟨w.heap.size, 2, none⟩ = some (.string q.hi) := by rw [Bq_t4.cell]; rfl
       have qBq3 : w1.cell? ⟨w.heap.size, 3, none⟩ = some (.int .i64 q.num) := by rw [Bq_t4.cell]; rfl
       go_wp2
       go_ret
       exact ⟨ret_bool (HW.out).symm, hw_t4⟩
      ·
       subst hE
       have p_eH : q.hi.toList = [] := List.isEmpty_iff.1 eH
       have hhq := HQ.out.2.1
       rw [if_neg (by simp)] at hhq
       cases hN : NK
       ·
        subst hN
        have HW : Hid (askB q = nz) := Lib.hid (by rw [HA.out, hkq, hhq, HQ.out.2.2]; simp)
        clear HA HQ HkE HhE HkB HhB HnB Hke Hhe Hnz hkq hhq
        cases hnz : nz
        ·
         subst hnz
         have qBq0 : w1.cell? ⟨w.heap.size, 0, none⟩ = some (.int .i64 q.kind) := by rw [Bq_t4.cell]; rfl
         have qBq1 : w1.cell? ⟨w.heap.size, 1, none⟩ = some (.string q.key) := by rw [Bq_t4.cell]; rfl
         have qBq2 : w1.cell? ⟨w.heap.size, 2, none⟩ = some (.string q.hi) := by rw [Bq_t4.cell]; rfl
         have qBq3 : w1.cell? ⟨w.heap.size, 3, none⟩ = some (.int .i64 q.num) := by rw [Bq_t4.cell]; rfl
         go_wp2
         go_ret
         exact ⟨ret_bool (HW.out).symm, hw_t4⟩
        ·
         subst hnz
         have qBq0 : w1.cell? ⟨w.heap.size, 0, none⟩ = some (.int .i64 q.kind) := by rw [Bq_t4.cell]; rfl
         have qBq1 : w1.cell? ⟨w.heap.size, 1, none⟩ = some (.string q.key) := by rw [Bq_t4.cell]; rfl
         have qBq2 : w1.cell? ⟨w.heap.size, 2, none⟩ = some (.string q.hi) := by rw [Bq_t4.cell]; rfl
         have qBq3 : w1.cell? ⟨w.heap.size, 3, none⟩ = some (.int .i64 q.num) := by rw [Bq_t4.cell]; rfl
         go_wp2
         go_ret
         exact ⟨ret_bool (HW.out).symm, hw_t4⟩
       ·
        subst hN
        have HW : Hid (askB q = nB) := Lib.hid (by rw [HA.out, hkq, hhq, HQ.out.2.2]; simp)
        cases hnb : nB
        ·
         subst hnb
         have qBq0 : w1.cell? ⟨w.heap.size, 0, none⟩ = some (.int .i64 q.kind) := by rw [Bq_t4.cell]; rfl
         have qBq1 : w1.cell? ⟨w.heap.size, 1, none⟩ = some (.string q.key) := by rw [Bq_t4.cell]; rfl
         have qBq2 : w1.cell? ⟨w.heap.size, 2, none⟩ = some (.string q.hi) := by rw [Bq_t4.cell]; rfl
         have qBq3 : w1.cell? ⟨w.heap.size, 3, none⟩ = some (.int .i64 q.num) := by rw [Bq_t4.cell]; rfl
         go_wp2_with fail
         clear qBq0 qBq1 qBq2 qBq3
         refine (specNum1 q.num _).mono ?_
         rintro e w2 ⟨rfl, hb2⟩
         rw [HnB.out]
         have Bq_t6 := Bq_t4.next hb2
         clear Bq_t4
         have hw_t6 := below_next hw_t4 hb2
         have hs_t6 := hb2.size
         have qBq0 : w2.cell? ⟨w.heap.size, 0, none⟩ = some (.int .i64 q.kind) := by rw [Bq_t6.cell]; rfl
         have qBq1 : w2.cell? ⟨w.heap.size, 1, none⟩ = some (.string q.key) := by rw [Bq_t6.cell]; rfl
         have qBq2 : w2.cell? ⟨w.heap.size, 2, none⟩ = some (.string q.hi) := by rw [Bq_t6.cell]; rfl
         have qBq3 : w2.cell? ⟨w.heap.size, 3, none⟩ = some (.int .i64 q.num) := by rw [Bq_t6.cell]; rfl
         go_wp2
         go_ret
         exact ⟨ret_bool (HW.out).symm, hw_t6⟩
        ·
         subst hnb
         have qBq0 : w1.cell? ⟨w.heap.size, 0, none⟩ = some (.int .i64 q.kind) := by rw [Bq_t4.cell]; rfl
         have qBq1 : w1.cell? ⟨w.heap.size, 1, none⟩ = some (.string q.key) := by rw [Bq_t4.cell]; rfl
         have qBq2 : w1.cell? ⟨w.heap.size, 2, none⟩ = some (.string q.hi) := by rw [Bq_t4.cell]; rfl
         have qBq3 : w1.cell? ⟨w.heap.size, 3, none⟩ = some (.int .i64 q.num) := by rw [Bq_t4.cell]; rfl
         go_wp2_with fail
         clear qBq0 qBq1 qBq2 qBq3
         refine (specNum1 q.num _).mono ?_
         rintro e w2 ⟨rfl, hb2⟩
         rw [HnB.out]
         have Bq_t6 := Bq_t4.next hb2
         clear Bq_t4
         have hw_t6 := below_next hw_t4 hb2
         have hs_t6 := hb2.size
         have qBq0 : w2.cell? ⟨w.heap.size, 0, none⟩ = some (.int .i64 q.kind) := by rw [Bq_t6.cell]; rfl
         have qBq1 : w2.cell? ⟨w.heap.size, 1, none⟩ = some (.string q.key) := by rw [Bq_t6.cell]; rfl
         have qBq2 : w2.cell? ⟨w.heap.size, 2, none⟩ = some (.string q.hi) := by rw [Bq_t6.cell]; rfl
         have qBq3 : w2.cell? ⟨w.heap.size, 3, none⟩ = some (.int .i64 q.num) := by rw [Bq_t6.cell]; rfl
         go_wp2
         go_ret
         exact ⟨ret_bool (HW.out).symm, hw_t6⟩
     ·
      subst hK
      cases hE : he
      ·
       subst hE
       have p_eH : ¬ q.hi.toList = [] := fun h => by rw [h] at eH; cases eH
       cases hB : hB
       ·
        subst hB
        have hhq := HQ.out.2.1
        rw [if_pos rfl] at hhq
        have qBq0 : w1.cell? ⟨w.heap.size, 0, none⟩ = some (.int .i64 q.kind) := by rw [Bq_t4.cell]; rfl
        have qBq1 : w1.cell? ⟨w.heap.size, 1, none⟩ = some (.string q.key) := by rw [Bq_t4.cell]; rfl
        have qBq2 : w1.cell? ⟨w.heap.size, 2, none⟩ = some (.string q.hi) := by rw [Bq_t4.cell]; rfl
        have qBq3 : w1.cell? ⟨w.heap.size, 3, none⟩ = some (.int .i64 q.num) := by rw [Bq_t4.cell]; rfl
        go_wp2_with fail
        clear qBq0 qBq1 qBq2 qBq3
        refine (specKey1 q.hi _ hq1.2.2.1).mono ?_
        rintro e w2 ⟨rfl, hb2⟩
        rw [HhB.out]
        have Bq_t6 := Bq_t4.next hb2
        clear Bq_t4
        have hw_t6 := below_next hw_t4 hb2
        have hs_t6 := hb2.size
        have HW : Hid (askB q = false) := Lib.hid (by rw [HA.out, hhq]; simp)
        clear HA HQ HkE HhE HkB HhB HnB Hke Hhe Hnz
        have qBq0 : w2.cell? ⟨w.heap.size, 0, none⟩ = some (.int .i64 q.kind) := by rw [Bq_t6.cell]; rfl
        have qBq1 : w2.cell? ⟨w.heap.size, 1, none⟩ = some (.string q.key) := by rw [Bq_t6.cell]; rfl
        have qBq2 : w2.cell? ⟨w.heap.size, 2, none⟩ = some (.string q.hi) := by rw [Bq_t6.cell]; rfl
        have qBq3 : w2.cell? ⟨w.heap.size, 3, none⟩ = some (.int .i64 q.num) := by rw [Bq_t6.cell]; rfl
        go_wp2
        go_ret
        exact ⟨ret_bool (HW.out).symm, hw_t6⟩
       ·
        subst hB
        have hhq := HQ.out.2.1
        rw [if_pos rfl] at hhq
        have qBq0 : w1.cell? ⟨w.heap.size, 0, none⟩ = some (.int .i64 q.kind) := by rw [Bq_t4.cell]; rfl
        have qBq1 : w1.cell? ⟨w.heap.size, 1, none⟩ = some (.string q.key) := by rw [Bq_t4.cell]; rfl
        have qBq2 : w1.cell? ⟨w.heap.size, 2, none⟩ = some (.string q.hi) := by rw [Bq_t4.cell]; rfl
        have qBq3 : w1.cell? ⟨w.heap.size, 3, none⟩ = some (.int .i64 q.num) := by rw [Bq_t4.cell]; rfl
        go_wp2_with fail
        clear qBq0 qBq1 qBq2 qBq3
        refine (specKey1 q.hi _ hq1.2.2.1).mono ?_
        rintro e w2 ⟨rfl, hb2⟩
        rw [HhB.out]
        have Bq_t6 := Bq_t4.next hb2
        clear Bq_t4
        have hw_t6 := below_next hw_t4 hb2
        have hs_t6 := hb2.size
        cases hN : NK
        ·
         subst hN
         have HW : Hid (askB q = nz) := Lib.hid (by rw [HA.out, hkq, hhq, HQ.out.2.2]; simp)
         clear HA HQ HkE HhE HkB HhB HnB Hke Hhe Hnz hkq hhq
         cases hnz : nz
         ·
          subst hnz
          have qBq0 : w2.cell? ⟨w.heap.size, 0, none⟩ = some (.int .i64 q.kind) := by rw [Bq_t6.cell]; rfl
          have qBq1 : w2.cell? ⟨w.heap.size, 1, none⟩ = some (.string q.key) := by rw [Bq_t6.cell]; rfl
          have qBq2 : w2.cell? ⟨w.heap.size, 2, none⟩ = some (.string q.hi) := by rw [Bq_t6.cell]; rfl
          have qBq3 : w2.cell? ⟨w.heap.size, 3, none⟩ = some (.int .i64 q.num) := by rw [Bq_t6.cell]; rfl
          go_wp2
          go_ret
          exact ⟨ret_bool (HW.out).symm, hw_t6⟩
         ·
          subst hnz
          have qBq0 : w2.cell? ⟨w.heap.size, 0, none⟩ = some (.int .i64 q.kind) := by rw [Bq_t6.cell]; rfl
          have qBq1 : w2.cell? ⟨w.heap.size, 1, none⟩ = some (.string q.key) := by rw [Bq_t6.cell]; rfl
          have qBq2 : w2.cell? ⟨w.heap.size, 2, none⟩ = some (.string q.hi) := by rw [Bq_t6.cell]; rfl
          have qBq3 : w2.cell? ⟨w.heap.size, 3, none⟩ = some (.int .i64 q.num) := by rw [Bq_t6.cell]; rfl
          go_wp2
          go_ret
          exact ⟨ret_bool (HW.out).symm, hw_t6⟩
        ·
         subst hN
         have HW : Hid (askB q = nB) := Lib.hid (by rw [HA.out, hkq, hhq, HQ.out.2.2]; simp)
         cases hnb : nB
         ·
          subst hnb
          have qBq0 : w2.cell? ⟨w.heap.size, 0, none⟩ = some (.int .i64 q.kind) := by rw [Bq_t6.cell]; rfl
          have qBq1 : w2.cell? ⟨w.heap.size, 1, none⟩ = some (.string q.key) := by rw [Bq_t6.cell]; rfl
          have qBq2 : w2.cell? ⟨w.heap.size, 2, none⟩ = some (.string q.hi) := by rw [Bq_t6.cell]; rfl
          have qBq3 : w2.cell? ⟨w.heap.size, 3, none⟩ = some (.int .i64 q.num) := by rw [Bq_t6.cell]; rfl
          go_wp2_with fail
          clear qBq0 qBq1 qBq2 qBq3
          refine (specNum1 q.num _).mono ?_
          rintro e w3 ⟨rfl, hb3⟩
          rw [HnB.out]
          have Bq_t8 := Bq_t6.next hb3
          clear Bq_t6
          have hw_t8 := below_next hw_t6 hb3
          have hs_t8 := hb3.size
          have qBq0 : w3.cell? ⟨w.heap.size, 0, none⟩ = some (.int .i64 q.kind) := by rw [Bq_t8.cell]; rfl
          have qBq1 : w3.cell? ⟨w.heap.size, 1, none⟩ = some (.string q.key) := by rw [Bq_t8.cell]; rfl
          have qBq2 : w3.cell? ⟨w.heap.size, 2, none⟩ = some (.string q.hi) := by rw [Bq_t8.cell]; rfl
          have qBq3 : w3.cell? ⟨w.heap.size, 3, none⟩ = some (.int .i64 q.num) := by rw [Bq_t8.cell]; rfl
          go_wp2
          go_ret
          exact ⟨ret_bool (HW.out).symm, hw_t8⟩
         ·
          subst hnb
          have qBq0 : w2.cell? ⟨w.heap.size, 0, none⟩ = some (.int .i64 q.kind) := by rw [Bq_t6.cell]; rfl
          have qBq1 : w2.cell? ⟨w.heap.size, 1, none⟩ = some (.string q.key) := by rw [Bq_t6.cell]; rfl
          have qBq2 : w2.cell? ⟨w.heap.size, 2, none⟩ = some (.string q.hi) := by rw [Bq_t6.cell]; rfl
          have qBq3 : w2.cell? ⟨w.heap.size, 3, none⟩ = some (.int .i64 q.num) := by rw [Bq_t6.cell]; rfl
          go_wp2_with fail
          clear qBq0 qBq1 qBq2 qBq3
          refine (specNum1 q.num _).mono ?_
          rintro e w3 ⟨rfl, hb3⟩
          rw [HnB.out]
          have Bq_t8 := Bq_t6.next hb3
          clear Bq_t6
          have hw_t8 := below_next hw_t6 hb3
          have hs_t8 := hb3.size
          have qBq0 : w3.cell? ⟨w.heap.size, 0, none⟩ = some (.int .i64 q.kind) := by rw [Bq_t8.cell]; rfl
          have qBq1 : w3.cell? ⟨w.heap.size, 1, none⟩ = some (.string q.key) := by rw [Bq_t8.cell]; rfl
          have qBq2 : w3.cell? ⟨w.heap.size, 2, none⟩ = some (.string q.hi) := by rw [Bq_t8.cell]; rfl
          have qBq3 : w3.cell? ⟨w.heap.size, 3, none⟩ = some (.int .i64 q.num) := by rw [Bq_t8.cell]; rfl
          go_wp2
          go_ret
          exact ⟨ret_bool (HW.out).symm, hw_t8⟩
      ·
       subst hE
       have p_eH : q.hi.toList = [] := List.isEmpty_iff.1 eH
       have hbf : hB = false := Bool.eq_false_iff.2 (fun h => by have h2 := HhE.out h; cases h2)
       have hhq := HQ.out.2.1
       rw [if_pos rfl, hbf] at hhq
       have HW : Hid (askB q = false) := Lib.hid (by rw [HA.out, hhq]; simp)
       clear HA HQ HkE HhE HkB HhB HnB Hke Hhe Hnz
       have qBq0 : w1.cell? ⟨w.heap.size, 0, none⟩ = some (.int .i64 q.kind) := by rw [Bq_t4.cell]; rfl
       have qBq1 : w1.cell? ⟨w.heap.size, 1, none⟩ = some (.string q.key) := by rw [Bq_t4.cell]; rfl
       have qBq2 : w1.cell? ⟨w.heap.size, 2, none⟩ = some (.string q.hi) := by rw [Bq_t4.cell]; rfl
       have qBq3 : w1.cell? ⟨w.heap.size, 3, none⟩ = some (.int .i64 q.num) := by rw [Bq_t4.cell]; rfl
       go_wp2
       go_ret
       exact ⟨ret_bool (HW.out).symm, hw_t4⟩
   ·
    subst hK
    cases hE : ke
    ·
     subst hE
     have p_eK : ¬ q.key.toList = [] := fun h => by rw [h] at eK; cases eK
     cases hB : kB
     ·
      subst hB
      have hkq := HQ.out.1
      rw [if_pos rfl] at hkq
      have qBq0 : w1.cell? ⟨w.heap.size, 0, none⟩ = some (.int .i64 q.kind) := by rw [Bq_t4.cell]; rfl
      have qBq1 : w1.cell? ⟨w.heap.size, 1, none⟩ = some (.string q.key) := by rw [Bq_t4.cell]; rfl
      have qBq2 : w1.cell? ⟨w.heap.size, 2, none⟩ = some (.string q.hi) := by rw [Bq_t4.cell]; rfl
      have qBq3 : w1.cell? ⟨w.heap.size, 3, none⟩ = some (.int .i64 q.num) := by rw [Bq_t4.cell]; rfl
      go_wp2_with fail
      clear qBq0 qBq1 qBq2 qBq3
      refine (specKey1 q.key _ hq1.2.1).mono ?_
      rintro e w2 ⟨rfl, hb2⟩
      rw [HkB.out]
      have Bq_t6 := Bq_t4.next hb2
      clear Bq_t4
      have hw_t6 := below_next hw_t4 hb2
      have hs_t6 := hb2.size
      have HW : Hid (askB q = false) := Lib.hid (by rw [HA.out, hkq]; simp)
      clear HA HQ HkE HhE HkB HhB HnB Hke Hhe Hnz
      have qBq0 : w2.cell? ⟨w.heap.size, 0, none⟩ = some (.int .i64 q.kind) := by rw [Bq_t6.cell]; rfl
      have qBq1 : w2.cell? ⟨w.heap.size, 1, none⟩ = some (.string q.key) := by rw [Bq_t6.cell]; rfl
      have qBq2 : w2.cell? ⟨w.heap.size, 2, none⟩ = some (.string q.hi) := by rw [Bq_t6.cell]; rfl
      have qBq3 : w2.cell? ⟨w.heap.size, 3, none⟩ = some (.int .i64 q.num) := by rw [Bq_t6.cell]; rfl
      go_wp2
      go_ret
      exact ⟨ret_bool (HW.out).symm, hw_t6⟩
     ·
      subst hB
      have hkq := HQ.out.1
      rw [if_pos rfl] at hkq
      have qBq0 : w1.cell? ⟨w.heap.size, 0, none⟩ = some (.int .i64 q.kind) := by rw [Bq_t4.cell]; rfl
      have qBq1 : w1.cell? ⟨w.heap.size, 1, none⟩ = some (.string q.key) := by rw [Bq_t4.cell]; rfl
      have qBq2 : w1.cell? ⟨w.heap.size, 2, none⟩ = some (.string q.hi) := by rw [Bq_t4.cell]; rfl
      have qBq3 : w1.cell? ⟨w.heap.size, 3, none⟩ = some (.int .i64 q.num) := by rw [Bq_t4.cell]; rfl
      go_wp2_with fail
      clear qBq0 qBq1 qBq2 qBq3
      refine (specKey1 q.key _ hq1.2.1).mono ?_
      rintro e w2 ⟨rfl, hb2⟩
      rw [HkB.out]
      have Bq_t6 := Bq_t4.next hb2
      clear Bq_t4
      have hw_t6 := below_next hw_t4 hb2
      have hs_t6 := hb2.size
      cases hK : HK
      ·
       subst hK
       cases hE : he
       ·
        subst hE
        have p_eH : ¬ q.hi.toList = [] := fun h => by rw [h] at eH; cases eH
        have hhq := HQ.out.2.1
        rw [if_neg (by simp)] at hhq
        have HW : Hid (askB q = false) := Lib.hid (by rw [HA.out, hhq]; simp)
        clear HA HQ HkE HhE HkB HhB HnB Hke Hhe Hnz
        have qBq0 : w2.cell? ⟨w.heap.size, 0, none⟩ = some (.int .i64 q.kind) := by rw [Bq_t6.cell]; rfl
        have qBq1 : w2.cell? ⟨w.heap.size, 1, none⟩ = some (.string q.key) := by rw [Bq_t6.cell]; rfl
        have qBq2 : w2.cell? ⟨w.heap.size, 2, none⟩ = some (.string q.hi) := by rw [Bq_t6.cell]; rfl
        have qBq3 : w2.cell? ⟨w.heap.size, 3, none⟩ = some (.int .i64 q.num) := by rw [Bq_t6.cell]; rfl
        go_wp2
        go_ret
        exact ⟨ret_bool (HW.out).symm, hw_t6⟩
       ·
        subst hE
        have p_eH : q.hi.toList = [] := List.isEmpty_iff.1 eH
        have hhq := HQ.out.2.1
        rw [if_neg (by simp)] at hhq
        cases hN : NK
        ·
         subst hN
         have HW : Hid (askB q = nz) := Lib.hid (by rw [HA.out, hkq, hhq, HQ.out.2.2]; simp)
         clear HA HQ HkE HhE HkB HhB HnB Hke Hhe Hnz hkq hhq
         cases hnz : nz
         ·
          subst hnz
          have qBq0 : w2.cell? ⟨w.heap.size, 0, none⟩ = some (.int .i64 q.kind) := by rw [Bq_t6.cell]; rfl
          have qBq1 : w2.cell? ⟨w.heap.size, 1, none⟩ = some (.string q.key) := by rw [Bq_t6.cell]; rfl
          have qBq2 : w2.cell? ⟨w.heap.size, 2, none⟩ = some (.string q.hi) := by rw [Bq_t6.cell]; rfl
          have qBq3 : w2.cell? ⟨w.heap.size, 3, none⟩ = some (.int .i64 q.num) := by rw [Bq_t6.cell]; rfl
          go_wp2
          go_ret
          exact ⟨ret_bool (HW.out).symm, hw_t6⟩
         ·
          subst hnz
          have qBq0 : w2.cell? ⟨w.heap.size, 0, none⟩ = some (.int .i64 q.kind) := by rw [Bq_t6.cell]; rfl
          have qBq1 : w2.cell? ⟨w.heap.size, 1, none⟩ = some (.string q.key) := by rw [Bq_t6.cell]; rfl
          have qBq2 : w2.cell? ⟨w.heap.size, 2, none⟩ = some (.string q.hi) := by rw [Bq_t6.cell]; rfl
          have qBq3 : w2.cell? ⟨w.heap.size, 3, none⟩ = some (.int .i64 q.num) := by rw [Bq_t6.cell]; rfl
          go_wp2
          go_ret
          exact ⟨ret_bool (HW.out).symm, hw_t6⟩
        ·
         subst hN
         have HW : Hid (askB q = nB) := Lib.hid (by rw [HA.out, hkq, hhq, HQ.out.2.2]; simp)
         cases hnb : nB
         ·
          subst hnb
          have qBq0 : w2.cell? ⟨w.heap.size, 0, none⟩ = some (.int .i64 q.kind) := by rw [Bq_t6.cell]; rfl
          have qBq1 : w2.cell? ⟨w.heap.size, 1, none⟩ = some (.string q.key) := by rw [Bq_t6.cell]; rfl
          have qBq2 : w2.cell? ⟨w.heap.size, 2, none⟩ = some (.string q.hi) := by rw [Bq_t6.cell]; rfl
          have qBq3 : w2.cell? ⟨w.heap.size, 3, none⟩ = some (.int .i64 q.num) := by rw [Bq_t6.cell]; rfl
          go_wp2_with fail
          clear qBq0 qBq1 qBq2 qBq3
          refine (specNum1 q.num _).mono ?_
          rintro e w3 ⟨rfl, hb3⟩
          rw [HnB.out]
          have Bq_t8 := Bq_t6.next hb3
          clear Bq_t6
          have hw_t8 := below_next hw_t6 hb3
          have hs_t8 := hb3.size
          have qBq0 : w3.cell? ⟨w.heap.size, 0, none⟩ = some (.int .i64 q.kind) := by rw [Bq_t8.cell]; rfl
          have qBq1 : w3.cell? ⟨w.heap.size, 1, none⟩ = some (.string q.key) := by rw [Bq_t8.cell]; rfl
          have qBq2 : w3.cell? ⟨w.heap.size, 2, none⟩ = some (.string q.hi) := by rw [Bq_t8.cell]; rfl
          have qBq3 : w3.cell? ⟨w.heap.size, 3, none⟩ = some (.int .i64 q.num) := by rw [Bq_t8.cell]; rfl
          go_wp2
          go_ret
          exact ⟨ret_bool (HW.out).symm, hw_t8⟩
         ·
          subst hnb
          have qBq0 : w2.cell? ⟨w.heap.size, 0, none⟩ = some (.int .i64 q.kind) := by rw [Bq_t6.cell]; rfl
          have qBq1 : w2.cell? ⟨w.heap.size, 1, none⟩ = some (.string q.key) := by rw [Bq_t6.cell]; rfl
          have qBq2 : w2.cell? ⟨w.heap.size, 2, none⟩ = some (.string q.hi) := by rw [Bq_t6.cell]; rfl
          have qBq3 : w2.cell? ⟨w.heap.size, 3, none⟩ = some (.int .i64 q.num) := by rw [Bq_t6.cell]; rfl
          go_wp2_with fail
          clear qBq0 qBq1 qBq2 qBq3
          refine (specNum1 q.num _).mono ?_
          rintro e w3 ⟨rfl, hb3⟩
          rw [HnB.out]
          have Bq_t8 := Bq_t6.next hb3
          clear Bq_t6
          have hw_t8 := below_next hw_t6 hb3
          have hs_t8 := hb3.size
          have qBq0 : w3.cell? ⟨w.heap.size, 0, none⟩ = some (.int .i64 q.kind) := by rw [Bq_t8.cell]; rfl
          have qBq1 : w3.cell? ⟨w.heap.size, 1, none⟩ = some (.string q.key) := by rw [Bq_t8.cell]; rfl
          have qBq2 : w3.cell? ⟨w.heap.size, 2, none⟩ = some (.string q.hi) := by rw [Bq_t8.cell]; rfl
          have qBq3 : w3.cell? ⟨w.heap.size, 3, none⟩ = some (.int .i64 q.num) := by rw [Bq_t8.cell]; rfl
          go_wp2
          go_ret
          exact ⟨ret_bool (HW.out).symm, hw_t8⟩
      ·
       subst hK
       cases hE : he
       ·
        subst hE
        have p_eH : ¬ q.hi.toList = [] := fun h => by rw [h] at eH; cases eH
        cases hB : hB
        ·
         subst hB
         have hhq := HQ.out.2.1
         rw [if_pos rfl] at hhq
         have qBq0 : w2.cell? ⟨w.heap.size, 0, none⟩ = some (.int .i64 q.kind) := by rw [Bq_t6.cell]; rfl
         have qBq1 : w2.cell? ⟨w.heap.size, 1, none⟩ = some (.string q.key) := by rw [Bq_t6.cell]; rfl
         have qBq2 : w2.cell? ⟨w.heap.size, 2, none⟩ = some (.string q.hi) := by rw [Bq_t6.cell]; rfl
         have qBq3 : w2.cell? ⟨w.heap.size, 3, none⟩ = some (.int .i64 q.num) := by rw [Bq_t6.cell]; rfl
         go_wp2_with fail
         clear qBq0 qBq1 qBq2 qBq3
         refine (specKey1 q.hi _ hq1.2.2.1).mono ?_
         rintro e w3 ⟨rfl, hb3⟩
         rw [HhB.out]
         have Bq_t8 := Bq_t6.next hb3
         clear Bq_t6
         have hw_t8 := below_next hw_t6 hb3
         have hs_t8 := hb3.size
         have HW : Hid (askB q = false) := Lib.hid (by rw [HA.out, hhq]; simp)
         clear HA HQ HkE HhE HkB HhB HnB Hke Hhe Hnz
         have qBq0 : w3.cell? ⟨w.heap.size, 0, none⟩ = some (.int .i64 q.kind) := by rw [Bq_t8.cell]; rfl
         have qBq1 : w3.cell? ⟨w.heap.size, 1, none⟩ = some (.string q.key) := by rw [Bq_t8.cell]; rfl
         have qBq2 : w3.cell? ⟨w.heap.size, 2, none⟩ = some (.string q.hi) := by rw [Bq_t8.cell]; rfl
         have qBq3 : w3.cell? ⟨w.heap.size, 3, none⟩ = some (.int .i64 q.num) := by rw [Bq_t8.cell]; rfl
         go_wp2
         go_ret
         exact ⟨ret_bool (HW.out).symm, hw_t8⟩
        ·
         subst hB
         have hhq := HQ.out.2.1
         rw [if_pos rfl] at hhq
         have qBq0 : w2.cell? ⟨w.heap.size, 0, none⟩ = some (.int .i64 q.kind) := by rw [Bq_t6.cell]; rfl
         have qBq1 : w2.cell? ⟨w.heap.size, 1, none⟩ = some (.string q.key) := by rw [Bq_t6.cell]; rfl
         have qBq2 : w2.cell? ⟨w.heap.size, 2, none⟩ = some (.string q.hi) := by rw [Bq_t6.cell]; rfl
         have qBq3 : w2.cell? ⟨w.heap.size, 3, none⟩ = some (.int .i64 q.num) := by rw [Bq_t6.cell]; rfl
         go_wp2_with fail
         clear qBq0 qBq1 qBq2 qBq3
         refine (specKey1 q.hi _ hq1.2.2.1).mono ?_
         rintro e w3 ⟨rfl, hb3⟩
         rw [HhB.out]
         have Bq_t8 := Bq_t6.next hb3
         clear Bq_t6
         have hw_t8 := below_next hw_t6 hb3
         have hs_t8 := hb3.size
         cases hN : NK
         ·
          subst hN
          have HW : Hid (askB q = nz) := Lib.hid (by rw [HA.out, hkq, hhq, HQ.out.2.2]; simp)
          clear HA HQ HkE HhE HkB HhB HnB Hke Hhe Hnz hkq hhq
          cases hnz : nz
          ·
           subst hnz
           have qBq0 : w3.cell? ⟨w.heap.size, 0, none⟩ = some (.int .i64 q.kind) := by rw [Bq_t8.cell]; rfl
           have qBq1 : w3.cell? ⟨w.heap.size, 1, none⟩ = some (.string q.key) := by rw [Bq_t8.cell]; rfl
           have qBq2 : w3.cell? ⟨w.heap.size, 2, none⟩ = some (.string q.hi) := by rw [Bq_t8.cell]; rfl
           have qBq3 : w3.cell? ⟨w.heap.size, 3, none⟩ = some (.int .i64 q.num) := by rw [Bq_t8.cell]; rfl
           go_wp2
           go_ret
           exact ⟨ret_bool (HW.out).symm, hw_t8⟩
          ·
           subst hnz
           have qBq0 : w3.cell? ⟨w.heap.size, 0, none⟩ = some (.int .i64 q.kind) := by rw [Bq_t8.cell]; rfl
           have qBq1 : w3.cell? ⟨w.heap.size, 1, none⟩ = some (.string q.key) := by rw [Bq_t8.cell]; rfl
           have qBq2 : w3.cell? ⟨w.heap.size, 2, none⟩ = some (.string q.hi) := by rw [Bq_t8.cell]; rfl
           have qBq3 : w3.cell? ⟨w.heap.size, 3, none⟩ = some (.int .i64 q.num) := by rw [Bq_t8.cell]; rfl
           go_wp2
           go_ret
           exact ⟨ret_bool (HW.out).symm, hw_t8⟩
         ·
          subst hN
          have HW : Hid (askB q = nB) := Lib.hid (by rw [HA.out, hkq, hhq, HQ.out.2.2]; simp)
          cases hnb : nB
          ·
           subst hnb
           have qBq0 : w3.cell? ⟨w.heap.size, 0, none⟩ = some (.int .i64 q.kind) := by rw [Bq_t8.cell]; rfl
           have qBq1 : w3.cell? ⟨w.heap.size, 1, none⟩ = some (.string q.key) := by rw [Bq_t8.cell]; rfl
           have qBq2 : w3.cell? ⟨w.heap.size, 2, none⟩ = some (.string q.hi) := by rw [Bq_t8.cell]; rfl
           have qBq3 : w3.cell? ⟨w.heap.size, 3, none⟩ = some (.int .i64 q.num) := by rw [Bq_t8.cell]; rfl
           go_wp2_with fail
           clear qBq0 qBq1 qBq2 qBq3
           refine (specNum1 q.num _).mono ?_
           rintro e w4 ⟨rfl, hb4⟩
           rw [HnB.out]
           have Bq_t10 := Bq_t8.next hb4
           clear Bq_t8
           have hw_t10 := below_next hw_t8 hb4
           have hs_t10 := hb4.size
           have qBq0 : w4.cell? ⟨w.heap.size, 0, none⟩ = some (.int .i64 q.kind) := by rw [Bq_t10.cell]; rfl
           have qBq1 : w4.cell? ⟨w.heap.size, 1, none⟩ = some (.string q.key) := by rw [Bq_t10.cell]; rfl
           have qBq2 : w4.cell? ⟨w.heap.size, 2, none⟩ = some (.string q.hi) := by rw [Bq_t10.cell]; rfl
           have qBq3 : w4.cell? ⟨w.heap.size, 3, none⟩ = some (.int .i64 q.num) := by rw [Bq_t10.cell]; rfl
           go_wp2
           go_ret
           exact ⟨ret_bool (HW.out).symm, hw_t10⟩
          ·
           subst hnb
           have qBq0 : w3.cell? ⟨w.heap.size, 0, none⟩ = some (.int .i64 q.kind) := by rw [Bq_t8.cell]; rfl
           have qBq1 : w3.cell? ⟨w.heap.size, 1, none⟩ = some (.string q.key) := by rw [Bq_t8.cell]; rfl
           have qBq2 : w3.cell? ⟨w.heap.size, 2, none⟩ = some (.string q.hi) := by rw [Bq_t8.cell]; rfl
           have qBq3 : w3.cell? ⟨w.heap.size, 3, none⟩ = some (.int .i64 q.num) := by rw [Bq_t8.cell]; rfl
           go_wp2_with fail
           clear qBq0 qBq1 qBq2 qBq3
           refine (specNum1 q.num _).mono ?_
           rintro e w4 ⟨rfl, hb4⟩
           rw [HnB.out]
           have Bq_t10 := Bq_t8.next hb4
           clear Bq_t8
           have hw_t10 := below_next hw_t8 hb4
           have hs_t10 := hb4.size
           have qBq0 : w4.cell? ⟨w.heap.size, 0, none⟩ = some (.int .i64 q.kind) := by rw [Bq_t10.cell]; rfl
           have qBq1 : w4.cell? ⟨w.heap.size, 1, none⟩ = some (.string q.key) := by rw [Bq_t10.cell]; rfl
           have qBq2 : w4.cell? ⟨w.heap.size, 2, none⟩ = some (.string q.hi) := by rw [Bq_t10.cell]; rfl
           have qBq3 : w4.cell? ⟨w.heap.size, 3, none⟩ = some (.int .i64 q.num) := by rw [Bq_t10.cell]; rfl
           go_wp2
           go_ret
           exact ⟨ret_bool (HW.out).symm, hw_t10⟩
       ·
        subst hE
        have p_eH : q.hi.toList = [] := List.isEmpty_iff.1 eH
        have hbf : hB = false := Bool.eq_false_iff.2 (fun h => by have h2 := HhE.out h; cases h2)
        have hhq := HQ.out.2.1
        rw [if_pos rfl, hbf] at hhq
        have HW : Hid (askB q = false) := Lib.hid (by rw [HA.out, hhq]; simp)
        clear HA HQ HkE HhE HkB HhB HnB Hke Hhe Hnz
        have qBq0 : w2.cell? ⟨w.heap.size, 0, none⟩ = some (.int .i64 q.kind) := by rw [Bq_t6.cell]; rfl
        have qBq1 : w2.cell? ⟨w.heap.size, 1, none⟩ = some (.string q.key) := by rw [Bq_t6.cell]; rfl
        have qBq2 : w2.cell? ⟨w.heap.size, 2, none⟩ = some (.string q.hi) := by rw [Bq_t6.cell]; rfl
        have qBq3 : w2.cell? ⟨w.heap.size, 3, none⟩ = some (.int .i64 q.num) := by rw [Bq_t6.cell]; rfl
        go_wp2
        go_ret
        exact ⟨ret_bool (HW.out).symm, hw_t6⟩
    ·
     subst hE
     have p_eK : q.key.toList = [] := List.isEmpty_iff.1 eK
     have hbf : kB = false := Bool.eq_false_iff.2 (fun h => by have h2 := HkE.out h; cases h2)
     have hkq := HQ.out.1
     rw [if_pos rfl, hbf] at hkq
     have HW : Hid (askB q = false) := Lib.hid (by rw [HA.out, hkq]; simp)
     clear HA HQ HkE HhE HkB HhB HnB Hke Hhe Hnz
     have qBq0 : w1.cell? ⟨w.heap.size, 0, none⟩ = some (.int .i64 q.kind) := by rw [Bq_t4.cell]; rfl
     have qBq1 : w1.cell? ⟨w.heap.size, 1, none⟩ = some (.string q.key) := by rw [Bq_t4.cell]; rfl
     have qBq2 : w1.cell? ⟨w.heap.size, 2, none⟩ = some (.string q.hi) := by rw [Bq_t4.cell]; rfl
     have qBq3 : w1.cell? ⟨w.heap.size, 3, none⟩ = some (.int .i64 q.num) := by rw [Bq_t4.cell]; rfl
     go_wp2
     go_ret
     exact ⟨ret_bool (HW.out).symm, hw_t4⟩
end Go.Proofs.YtjgfbcmgnjgapaaDoor
