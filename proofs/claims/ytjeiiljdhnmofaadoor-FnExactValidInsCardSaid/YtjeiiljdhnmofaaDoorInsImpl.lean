/- Contract: ValidIns of the program. Condition: the tables hold what the program's text lays. -/
import Derived.Test.YtjeiiljdhnmofaaDoorInsPlain
namespace Go.Proofs.YtjeiiljdhnmofaaDoor
open Go Go.RowKit

theorem chas_num {j : Nat} (h : j < 9) (w : World) : Calls Tryd.prog 52 #[.agg #[.string (cwordK j), .string (cpartsK j)], .int .i32 78] w fun e w' => e = .returned (.bool (ctlNum j)) ∧ Below w.heap.size w w' := by rw [← (cparts_facts j h).1]; exact formHas_any _ _ 78 w (by decide) (by decide)
theorem chas_name {j : Nat} (h : j < 9) (w : World) : Calls Tryd.prog 52 #[.agg #[.string (cwordK j), .string (cpartsK j)], .int .i32 88] w fun e w' => e = .returned (.bool (ctlName j)) ∧ Below w.heap.size w w' := by rw [← (cparts_facts j h).2]; exact formHas_any _ _ 88 w (by decide) (by decide)

set_option maxHeartbeats 4000000 in
set_option maxRecDepth 100000 in
theorem impl_ValidIns_any (op n : Int) (t : ByteArray) (W : World) (hs : t.size ≤ maxLen) (hT : Classes W) (hF : Forms W) (hC : Cforms W) :
    Calls Tryd.prog 18 #[.agg #[.int .i64 op, .int .i64 n, .string t]] W fun e w' => e = .returned (.bool (insOk op n t)) ∧ Below W.heap.size W w' := by
  have HS := Lib.hid hs
  unfold maxLen at hs
  have HT := Lib.hid hT
  have HF := Lib.hid hF
  have HCF := Lib.hid hC
  clear hT hF hC
  by_cases hk : 31 ≤ op ∧ op ≤ 39
  · have HK : Hid (decide (31 ≤ op ∧ op ≤ 39) = true) := by show _ = _; simp [hk]
    obtain ⟨j, hj⟩ := Int.eq_ofNat_of_zero_le (show 0 ≤ op - 31 by omega)
    obtain rfl : op = 31 + (j : Int) := by omega
    have hj9 : j < 9 := by omega
    rw [show insOk (31 + (j : Int)) n t = (if ctlName j = true then (n == 0) && isNameB t else (t.size == 0) && decide (0 ≤ n ∧ n ≤ (if ctlNum j = true then 12999 else 0))) from by
      unfold insOk
      rw [if_pos hk, show (31 + (j : Int) - 31).toNat = j from by omega]
      rfl]
    clear hj hk
    have HC := Lib.hid (fun X (e : X = W.alloc (.cells #[.int .i64 (31 + (j : Int)), .int .i64 n, .string t] 37)) => (show RW 37 X W.heap.size #[.int .i64 (31 + (j : Int)), .int .i64 n, .string t] ∧ Below W.heap.size W X ∧ W.heap.size < X.heap.size from by rw [e]; exact ⟨RW.new _ _ _, below_alloc _ _, lt_alloc _ _⟩))
    have HQ := Lib.hid (fun X hX => controlForm_any j hj9 X hX)
    have HX := Lib.hid (fun w => chas_name hj9 w)
    have HN := Lib.hid (fun w => chas_num hj9 w)
    clear hj9
    generalize cwordK j = a at HQ HX HN
    generalize cpartsK j = p at HQ HX HN
    generalize ctlName j = x at HX ⊢
    generalize ctlNum j = u at HN ⊢
    have tk1 : True := trivial
    cases x
    · rw [if_neg (by decide)]
      cases u
      · rw [if_neg (by decide)]
        by_cases ht : t.size = 0
        · have e1 := nil_of_size ht
          have e2 := isEmpty_of_size ht
          rw [show (t.size == 0) = true from by simp [ht]]
          clear ht
          rw [Bool.true_and]
          obtain ⟨z, hz⟩ : ∃ z, decide (0 ≤ n ∧ n ≤ 0) = z := ⟨_, rfl⟩
          have HI := Lib.hid hz
          rw [hz]
          clear hz
          go_enter Tryd.func18, Tryd.ntmps18
          go_wp2_with (first
            | (go_at_call 49; refine (isControl_any _ _).mono ?_; rintro e w1 ⟨rfl, rfl⟩; rw [HK.out])
            | (go_at_call 51; obtain ⟨g0, g1, g2⟩ := HC.out _ rfl; refine (HQ.out _ (HCF.out.go g1)).mono ?_; rintro e w2 ⟨rfl, hb⟩; have HR2 := Lib.hid (g0.below hb g2); have HB2 := Lib.hid (g1.trans (hb.mono g1.size)); clear g0 g1 g2 hb)
            | (go_at_call 52; have tk := tk1; refine (HX.out _).mono ?_; rintro e w3 ⟨rfl, hb⟩; have HR3 := Lib.hid ((HR2.out.alloc _).below hb (HR2.out.alloc _).lt); have HG3 := Lib.hid ((RW.new w2 #[.string a, .string p] 71).below hb (lt_alloc _ _)); have HB3 := Lib.hid (HB2.out.trans (((below_alloc w2 _).trans (hb.mono (by simp))).mono HB2.out.size)); have q1 : w3.cell? ⟨W.heap.size, 1, none⟩ = some (.int .i64 n) := HR3.out.cell 1; have q2 : w3.cell? ⟨W.heap.size, 2, none⟩ = some (.string t) := HR3.out.cell 2; have r0 : w3.cell? ⟨w2.heap.size, 0, none⟩ = some (.string a) := HG3.out.cell 0; have r1 : w3.cell? ⟨w2.heap.size, 1, none⟩ = some (.string p) := HG3.out.cell 1; clear tk tk1 hb)
            | (go_at_call 52; refine (HN.out _).mono ?_; rintro e w5 ⟨rfl, hb⟩; have HB5 := Lib.hid (HB3.out.trans (hb.mono HB3.out.size)); have q51 : w5.cell? ⟨W.heap.size, 1, none⟩ = some (.int .i64 n) := (HR3.out.below hb HR3.out.lt).cell 1; have q52 : w5.cell? ⟨W.heap.size, 2, none⟩ = some (.string t) := (HR3.out.below hb HR3.out.lt).cell 2; clear hb)
            | (go_at_call 54; refine (withinB_i64 _ _ _ _).mono ?_; rintro e w6 ⟨rfl, rfl⟩; rw [HI.out]))
          go_ret
          exact ⟨rfl, HB5.out⟩
        · have hp : 0 < t.size := by omega
          have e1 := ne_nil_of_size hp
          have e2 := not_isEmpty_of_size hp
          rw [show (t.size == 0) = false from by simp [ht]]
          clear ht hp
          rw [Bool.false_and]
          go_enter Tryd.func18, Tryd.ntmps18
          go_wp2_with (first
            | (go_at_call 49; refine (isControl_any _ _).mono ?_; rintro e w1 ⟨rfl, rfl⟩; rw [HK.out])
            | (go_at_call 51; obtain ⟨g0, g1, g2⟩ := HC.out _ rfl; refine (HQ.out _ (HCF.out.go g1)).mono ?_; rintro e w2 ⟨rfl, hb⟩; have HR2 := Lib.hid (g0.below hb g2); have HB2 := Lib.hid (g1.trans (hb.mono g1.size)); clear g0 g1 g2 hb)
            | (go_at_call 52; have tk := tk1; refine (HX.out _).mono ?_; rintro e w3 ⟨rfl, hb⟩; have HR3 := Lib.hid ((HR2.out.alloc _).below hb (HR2.out.alloc _).lt); have HG3 := Lib.hid ((RW.new w2 #[.string a, .string p] 71).below hb (lt_alloc _ _)); have HB3 := Lib.hid (HB2.out.trans (((below_alloc w2 _).trans (hb.mono (by simp))).mono HB2.out.size)); have q1 : w3.cell? ⟨W.heap.size, 1, none⟩ = some (.int .i64 n) := HR3.out.cell 1; have q2 : w3.cell? ⟨W.heap.size, 2, none⟩ = some (.string t) := HR3.out.cell 2; have r0 : w3.cell? ⟨w2.heap.size, 0, none⟩ = some (.string a) := HG3.out.cell 0; have r1 : w3.cell? ⟨w2.heap.size, 1, none⟩ = some (.string p) := HG3.out.cell 1; clear tk tk1 hb)
            | (go_at_call 52; refine (HN.out _).mono ?_; rintro e w5 ⟨rfl, hb⟩; have HB5 := Lib.hid (HB3.out.trans (hb.mono HB3.out.size)); have q51 : w5.cell? ⟨W.heap.size, 1, none⟩ = some (.int .i64 n) := (HR3.out.below hb HR3.out.lt).cell 1; have q52 : w5.cell? ⟨W.heap.size, 2, none⟩ = some (.string t) := (HR3.out.below hb HR3.out.lt).cell 2; clear hb))
          go_ret
          exact ⟨rfl, HB5.out⟩
      · rw [if_pos rfl]
        by_cases ht : t.size = 0
        · have e1 := nil_of_size ht
          have e2 := isEmpty_of_size ht
          rw [show (t.size == 0) = true from by simp [ht]]
          clear ht
          rw [Bool.true_and]
          obtain ⟨z, hz⟩ : ∃ z, decide (0 ≤ n ∧ n ≤ 12999) = z := ⟨_, rfl⟩
          have HI := Lib.hid hz
          rw [hz]
          clear hz
          go_enter Tryd.func18, Tryd.ntmps18
          go_wp2_with (first
            | (go_at_call 49; refine (isControl_any _ _).mono ?_; rintro e w1 ⟨rfl, rfl⟩; rw [HK.out])
            | (go_at_call 51; obtain ⟨g0, g1, g2⟩ := HC.out _ rfl; refine (HQ.out _ (HCF.out.go g1)).mono ?_; rintro e w2 ⟨rfl, hb⟩; have HR2 := Lib.hid (g0.below hb g2); have HB2 := Lib.hid (g1.trans (hb.mono g1.size)); clear g0 g1 g2 hb)
            | (go_at_call 52; have tk := tk1; refine (HX.out _).mono ?_; rintro e w3 ⟨rfl, hb⟩; have HR3 := Lib.hid ((HR2.out.alloc _).below hb (HR2.out.alloc _).lt); have HG3 := Lib.hid ((RW.new w2 #[.string a, .string p] 71).below hb (lt_alloc _ _)); have HB3 := Lib.hid (HB2.out.trans (((below_alloc w2 _).trans (hb.mono (by simp))).mono HB2.out.size)); have q1 : w3.cell? ⟨W.heap.size, 1, none⟩ = some (.int .i64 n) := HR3.out.cell 1; have q2 : w3.cell? ⟨W.heap.size, 2, none⟩ = some (.string t) := HR3.out.cell 2; have r0 : w3.cell? ⟨w2.heap.size, 0, none⟩ = some (.string a) := HG3.out.cell 0; have r1 : w3.cell? ⟨w2.heap.size, 1, none⟩ = some (.string p) := HG3.out.cell 1; clear tk tk1 hb)
            | (go_at_call 52; refine (HN.out _).mono ?_; rintro e w5 ⟨rfl, hb⟩; have HB5 := Lib.hid (HB3.out.trans (hb.mono HB3.out.size)); have q51 : w5.cell? ⟨W.heap.size, 1, none⟩ = some (.int .i64 n) := (HR3.out.below hb HR3.out.lt).cell 1; have q52 : w5.cell? ⟨W.heap.size, 2, none⟩ = some (.string t) := (HR3.out.below hb HR3.out.lt).cell 2; clear hb)
            | (go_at_call 54; refine (withinB_i64 _ _ _ _).mono ?_; rintro e w6 ⟨rfl, rfl⟩; rw [HI.out]))
          go_ret
          exact ⟨rfl, HB5.out⟩
        · have hp : 0 < t.size := by omega
          have e1 := ne_nil_of_size hp
          have e2 := not_isEmpty_of_size hp
          rw [show (t.size == 0) = false from by simp [ht]]
          clear ht hp
          rw [Bool.false_and]
          go_enter Tryd.func18, Tryd.ntmps18
          go_wp2_with (first
            | (go_at_call 49; refine (isControl_any _ _).mono ?_; rintro e w1 ⟨rfl, rfl⟩; rw [HK.out])
            | (go_at_call 51; obtain ⟨g0, g1, g2⟩ := HC.out _ rfl; refine (HQ.out _ (HCF.out.go g1)).mono ?_; rintro e w2 ⟨rfl, hb⟩; have HR2 := Lib.hid (g0.below hb g2); have HB2 := Lib.hid (g1.trans (hb.mono g1.size)); clear g0 g1 g2 hb)
            | (go_at_call 52; have tk := tk1; refine (HX.out _).mono ?_; rintro e w3 ⟨rfl, hb⟩; have HR3 := Lib.hid ((HR2.out.alloc _).below hb (HR2.out.alloc _).lt); have HG3 := Lib.hid ((RW.new w2 #[.string a, .string p] 71).below hb (lt_alloc _ _)); have HB3 := Lib.hid (HB2.out.trans (((below_alloc w2 _).trans (hb.mono (by simp))).mono HB2.out.size)); have q1 : w3.cell? ⟨W.heap.size, 1, none⟩ = some (.int .i64 n) := HR3.out.cell 1; have q2 : w3.cell? ⟨W.heap.size, 2, none⟩ = some (.string t) := HR3.out.cell 2; have r0 : w3.cell? ⟨w2.heap.size, 0, none⟩ = some (.string a) := HG3.out.cell 0; have r1 : w3.cell? ⟨w2.heap.size, 1, none⟩ = some (.string p) := HG3.out.cell 1; clear tk tk1 hb)
            | (go_at_call 52; refine (HN.out _).mono ?_; rintro e w5 ⟨rfl, hb⟩; have HB5 := Lib.hid (HB3.out.trans (hb.mono HB3.out.size)); have q51 : w5.cell? ⟨W.heap.size, 1, none⟩ = some (.int .i64 n) := (HR3.out.below hb HR3.out.lt).cell 1; have q52 : w5.cell? ⟨W.heap.size, 2, none⟩ = some (.string t) := (HR3.out.below hb HR3.out.lt).cell 2; clear hb))
          go_ret
          exact ⟨rfl, HB5.out⟩
    · rw [if_pos rfl]
      obtain ⟨z2, h2⟩ : ∃ z, (n == 0) = z := ⟨_, rfl⟩
      rw [h2]
      cases z2
      · rw [Bool.false_and]
        go_enter Tryd.func18, Tryd.ntmps18
        go_wp2_with (first
          | (go_at_call 49; refine (isControl_any _ _).mono ?_; rintro e w1 ⟨rfl, rfl⟩; rw [HK.out])
          | (go_at_call 51; obtain ⟨g0, g1, g2⟩ := HC.out _ rfl; refine (HQ.out _ (HCF.out.go g1)).mono ?_; rintro e w2 ⟨rfl, hb⟩; have HR2 := Lib.hid (g0.below hb g2); have HB2 := Lib.hid (g1.trans (hb.mono g1.size)); clear g0 g1 g2 hb)
          | (go_at_call 52; have tk := tk1; refine (HX.out _).mono ?_; rintro e w3 ⟨rfl, hb⟩; have HR3 := Lib.hid ((HR2.out.alloc _).below hb (HR2.out.alloc _).lt); have HG3 := Lib.hid ((RW.new w2 #[.string a, .string p] 71).below hb (lt_alloc _ _)); have HB3 := Lib.hid (HB2.out.trans (((below_alloc w2 _).trans (hb.mono (by simp))).mono HB2.out.size)); have q1 : w3.cell? ⟨W.heap.size, 1, none⟩ = some (.int .i64 n) := HR3.out.cell 1; have q2 : w3.cell? ⟨W.heap.size, 2, none⟩ = some (.string t) := HR3.out.cell 2; have r0 : w3.cell? ⟨w2.heap.size, 0, none⟩ = some (.string a) := HG3.out.cell 0; have r1 : w3.cell? ⟨w2.heap.size, 1, none⟩ = some (.string p) := HG3.out.cell 1; clear tk tk1 hb))
        go_ret
        exact ⟨rfl, HB3.out⟩
      · rw [Bool.true_and]
        obtain ⟨z, hz⟩ : ∃ z, isNameB t = z := ⟨_, rfl⟩
        have HZ := Lib.hid hz
        rw [hz]
        clear hz
        go_enter Tryd.func18, Tryd.ntmps18
        go_wp2_with (first
          | (go_at_call 49; refine (isControl_any _ _).mono ?_; rintro e w1 ⟨rfl, rfl⟩; rw [HK.out])
          | (go_at_call 51; obtain ⟨g0, g1, g2⟩ := HC.out _ rfl; refine (HQ.out _ (HCF.out.go g1)).mono ?_; rintro e w2 ⟨rfl, hb⟩; have HR2 := Lib.hid (g0.below hb g2); have HB2 := Lib.hid (g1.trans (hb.mono g1.size)); clear g0 g1 g2 hb)
          | (go_at_call 52; have tk := tk1; refine (HX.out _).mono ?_; rintro e w3 ⟨rfl, hb⟩; have HR3 := Lib.hid ((HR2.out.alloc _).below hb (HR2.out.alloc _).lt); have HG3 := Lib.hid ((RW.new w2 #[.string a, .string p] 71).below hb (lt_alloc _ _)); have HB3 := Lib.hid (HB2.out.trans (((below_alloc w2 _).trans (hb.mono (by simp))).mono HB2.out.size)); have q1 : w3.cell? ⟨W.heap.size, 1, none⟩ = some (.int .i64 n) := HR3.out.cell 1; have q2 : w3.cell? ⟨W.heap.size, 2, none⟩ = some (.string t) := HR3.out.cell 2; have r0 : w3.cell? ⟨w2.heap.size, 0, none⟩ = some (.string a) := HG3.out.cell 0; have r1 : w3.cell? ⟨w2.heap.size, 1, none⟩ = some (.string p) := HG3.out.cell 1; clear tk tk1 hb)
          | (go_at_call 53; refine Calls.mono (impl_IsName_any _ _ HS.out (classes_go HT.out HB3.out)) ?_; rintro e w4 ⟨rfl, hb⟩; rw [HZ.out]; have HB4 := Lib.hid (HB3.out.trans (hb.mono HB3.out.size)); clear hb))
        go_ret
        exact ⟨rfl, HB4.out⟩
  · have HK : Hid (decide (31 ≤ op ∧ op ≤ 39) = false) := by show _ = _; simp only [decide_eq_false_iff_not]; exact hk
    rw [show insOk op n t = (Pt.node op n t []).proper from by rw [insOk, if_neg hk]]
    clear hk
    have HC := Lib.hid (fun X (e : X = W.alloc (.cells #[.int .i64 op, .int .i64 n, .string t] 37)) => (show Below W.heap.size W X from by rw [e]; exact below_alloc _ _))
    obtain ⟨P, hP⟩ : ∃ P, (Pt.node op n t []).proper = P := ⟨_, rfl⟩
    have HP := Lib.hid hP
    rw [hP]
    clear hP
    go_enter Tryd.func18, Tryd.ntmps18
    go_wp2_with (first
      | (go_at_call 49; refine (isControl_any _ _).mono ?_; rintro e w1 ⟨rfl, rfl⟩; rw [HK.out])
      | (go_at_call 50; have g := HC.out _ rfl; refine (leafOf_any _ _ _ _).mono ?_; rintro e w2 ⟨rfl, hb⟩; have HB2 := Lib.hid (g.trans (hb.mono g.size)); clear g hb)
      | (go_at_call 44; refine (hasFieldsOfKind_any op n t [] none 0 0 _ HS.out rfl (Nat.zero_le _) (classes_go HT.out HB2.out) (HF.out.go HB2.out)).mono ?_; rintro e w3 ⟨rfl, hb⟩; rw [HP.out]; have HB3 := Lib.hid (HB2.out.trans (hb.mono HB2.out.size)); clear hb))
    go_ret
    exact ⟨rfl, HB3.out⟩
end Go.Proofs.YtjeiiljdhnmofaaDoor
