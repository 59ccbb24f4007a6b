/- Contracts: (patternForm).has, isTextOfKind, hasFieldsOfKind of the program. Condition: the tables hold what the program's text lays. -/
import Derived.Test.YtjeiiljdhnmofaaDoorPtPlain
import Derived.Test.YtjeiiljdhnmofaaDoorWithin
import Derived.Test.YtjeiiljdhnmofaaDoorShelf
import Derived.Lib.QuietBelow
namespace Go.Proofs.YtjeiiljdhnmofaaDoor
open Go Go.RowKit

theorem formHas_any (a p : ByteArray) (r : Int) (W : World) (h0 : 0 ≤ r) (h1 : r < 128) :
    Calls Tryd.prog 52 #[.agg #[.string a, .string p], .int .i32 r] W fun e w' => e = .returned (.bool (decide (0 ≤ Lib.indexByte p.data.toList r.toNat.toUInt8))) ∧ Below W.heap.size W w' := by
  obtain ⟨P, hP⟩ : ∃ P, decide (0 ≤ Lib.indexByte p.data.toList r.toNat.toUInt8) = P := ⟨_, rfl⟩
  have HP := Lib.hid hP
  rw [hP]
  have HC := Lib.hid (fun w => Tryd.strings_ContainsRune_ascii p r w h0 h1)
  clear h0 h1 hP
  go_enter Tryd.func52, Tryd.ntmps52
  go_wp2_with (go_at_call 74; refine (HC.out _).mono ?_; rintro e w1 ⟨rfl, rfl⟩; rw [HP.out])
  go_ret
  exact ⟨rfl, below_alloc _ _⟩

/-- What 'has' answers of the form of a kind. -/
def HasAt (j : Nat) (r : Int) (z : Bool) : Prop := ∀ w, Calls Tryd.prog 52 #[.agg #[.string (wordK j), .string (partsK j)], .int .i32 r] w fun e w' => e = .returned (.bool z) ∧ Below w.heap.size w w'
theorem has_num {j : Nat} (h : j < 25) : HasAt j 78 (hasNum j) := fun w => by rw [← (parts_facts j h).2.1]; exact formHas_any _ _ 78 w (by decide) (by decide)
theorem has_name {j : Nat} (h : j < 25) : HasAt j 88 (hasName j) := fun w => by rw [← (parts_facts j h).2.2.1]; exact formHas_any _ _ 88 w (by decide) (by decide)
theorem has_lit {j : Nat} (h : j < 25) : HasAt j 76 (hasLit j) := fun w => by rw [← (parts_facts j h).2.2.2]; exact formHas_any _ _ 76 w (by decide) (by decide)
theorem count_parts {j : Nat} (h : j < 25) (w : World) : Calls Tryd.prog 70 #[.string (partsK j), .string ⟨#[80]⟩] w fun e w' => e = .returned (.int .i64 (kidsK j)) ∧ w' = w := by
  rw [← (parts_facts j h).1]
  exact Tryd.strings_Count_one _ _ w

set_option maxHeartbeats 2000000 in
set_option maxRecDepth 100000 in
theorem isTextOfKind_any (j : Nat) (t : ByteArray) (W : World) (hj : j < 25) (hs : t.size ≤ maxLen) (hT : Classes W) (hF : Forms W) :
    Calls Tryd.prog 71 #[.int .i64 (j : Int), .string t] W fun e w' => e = .returned (.bool (textFits j t)) ∧ Below W.heap.size W w' := by
  have HS := Lib.hid hs
  unfold maxLen at hs
  have HT := Lib.hid hT
  obtain ⟨c0, c1⟩ := hF.at_ hj
  have hlt : 0 < W.heap.size := hF.lt
  have b0 : (0 : Int) ≤ (j : Int) := by omega
  have b1 : (j : Int) < 25 := by omega
  have HX := Lib.hid (has_name hj)
  have HL := Lib.hid (has_lit hj)
  unfold HasAt at HX HL
  clear hT hF
  obtain ⟨x, hx⟩ : ∃ x, hasName j = x := ⟨_, rfl⟩
  obtain ⟨l, hl⟩ : ∃ l, hasLit j = l := ⟨_, rfl⟩
  rw [show textFits j t = (if x = true then isNameB t else if l = true then decide (t.size ≤ 200) && (!(t.size == 0) || ((j : Int) == 1)) else t.size == 0) from by rw [← hx, ← hl]; rfl]
  rw [hx] at HX
  rw [hl] at HL
  clear hx hl hj
  generalize wordK j = a at c0 HX HL
  generalize partsK j = p at c1 HX HL
  have tk1 : True := trivial
  have HC := Lib.hid (fun X (e : X = W.alloc (.cells #[.string a, .string p] 71)) => (show RW 71 X W.heap.size #[.string a, .string p] ∧ Below W.heap.size W X ∧ W.heap.size < X.heap.size from by rw [e]; exact ⟨RW.new _ _ _, below_alloc _ _, lt_alloc _ _⟩))
  cases x
  · rw [if_neg (by decide)]
    cases l
    · rw [if_neg (by decide)]
      by_cases ht : t.size = 0
      · have e1 := nil_of_size ht
        have e2 := isEmpty_of_size ht
        rw [show (t.size == 0) = true from by simp [ht]]
        clear ht
        go_enter Tryd.func71, Tryd.ntmps71
        go_wp2_with (first
          | (go_at_call 52; have tk := tk1; refine (HX.out _).mono ?_; rintro e w1 ⟨rfl, hb⟩; obtain ⟨g0, g1, g2⟩ := HC.out _ rfl; have HR1 := Lib.hid (g0.below hb g2); have HB1 := Lib.hid (g1.trans (hb.mono g1.size)); have q0 : w1.cell? ⟨W.heap.size, 0, none⟩ = some (.string a) := HR1.out.cell 0; have q1 : w1.cell? ⟨W.heap.size, 1, none⟩ = some (.string p) := HR1.out.cell 1; clear tk tk1 hb g0 g1 g2)
          | (go_at_call 52; refine (HL.out _).mono ?_; rintro e w2 ⟨rfl, hb⟩; have HB2 := Lib.hid (HB1.out.trans (hb.mono HB1.out.size)); clear hb))
        go_ret
        exact ⟨rfl, HB2.out⟩
      · have hp : 0 < t.size := by omega
        have e1 := ne_nil_of_size hp
        have e2 := not_isEmpty_of_size hp
        rw [show (t.size == 0) = false from by simp [ht]]
        clear ht hp
        go_enter Tryd.func71, Tryd.ntmps71
        go_wp2_with (first
          | (go_at_call 52; have tk := tk1; refine (HX.out _).mono ?_; rintro e w1 ⟨rfl, hb⟩; obtain ⟨g0, g1, g2⟩ := HC.out _ rfl; have HR1 := Lib.hid (g0.below hb g2); have HB1 := Lib.hid (g1.trans (hb.mono g1.size)); have q0 : w1.cell? ⟨W.heap.size, 0, none⟩ = some (.string a) := HR1.out.cell 0; have q1 : w1.cell? ⟨W.heap.size, 1, none⟩ = some (.string p) := HR1.out.cell 1; clear tk tk1 hb g0 g1 g2)
          | (go_at_call 52; refine (HL.out _).mono ?_; rintro e w2 ⟨rfl, hb⟩; have HB2 := Lib.hid (HB1.out.trans (hb.mono HB1.out.size)); clear hb))
        go_ret
        exact ⟨rfl, HB2.out⟩
    · rw [if_pos rfl]
      by_cases hz : t.size ≤ 200
      · have d1 : decide ((t.size : Int) ≤ 200) = true := by simp; omega
        rw [show decide (t.size ≤ 200) = true from by simp [hz], Bool.true_and]
        clear hz
        by_cases ht : t.size = 0
        · have e1 := nil_of_size ht
          have e2 := isEmpty_of_size ht
          rw [show (t.size == 0) = true from by simp [ht]]
          clear ht
          rw [Bool.not_true, Bool.false_or]
          obtain ⟨z, hz⟩ : ∃ z, ((j : Int) == 1) = z := ⟨_, rfl⟩
          rw [hz]
          cases z
          all_goals
            go_enter Tryd.func71, Tryd.ntmps71
            go_wp2_with (first
              | (go_at_call 52; have tk := tk1; refine (HX.out _).mono ?_; rintro e w1 ⟨rfl, hb⟩; obtain ⟨g0, g1, g2⟩ := HC.out _ rfl; have HR1 := Lib.hid (g0.below hb g2); have HB1 := Lib.hid (g1.trans (hb.mono g1.size)); have q0 : w1.cell? ⟨W.heap.size, 0, none⟩ = some (.string a) := HR1.out.cell 0; have q1 : w1.cell? ⟨W.heap.size, 1, none⟩ = some (.string p) := HR1.out.cell 1; clear tk tk1 hb g0 g1 g2)
              | (go_at_call 52; refine (HL.out _).mono ?_; rintro e w2 ⟨rfl, hb⟩; have HB2 := Lib.hid (HB1.out.trans (hb.mono HB1.out.size)); clear hb))
            go_ret
            exact ⟨rfl, HB2.out⟩
        · have hp : 0 < t.size := by omega
          have e1 := ne_nil_of_size hp
          have e2 := not_isEmpty_of_size hp
          rw [show (t.size == 0) = false from by simp [ht]]
          clear ht hp
          rw [Bool.not_false, Bool.true_or]
          go_enter Tryd.func71, Tryd.ntmps71
          go_wp2_with (first
            | (go_at_call 52; have tk := tk1; refine (HX.out _).mono ?_; rintro e w1 ⟨rfl, hb⟩; obtain ⟨g0, g1, g2⟩ := HC.out _ rfl; have HR1 := Lib.hid (g0.below hb g2); have HB1 := Lib.hid (g1.trans (hb.mono g1.size)); have q0 : w1.cell? ⟨W.heap.size, 0, none⟩ = some (.string a) := HR1.out.cell 0; have q1 : w1.cell? ⟨W.heap.size, 1, none⟩ = some (.string p) := HR1.out.cell 1; clear tk tk1 hb g0 g1 g2)
            | (go_at_call 52; refine (HL.out _).mono ?_; rintro e w2 ⟨rfl, hb⟩; have HB2 := Lib.hid (HB1.out.trans (hb.mono HB1.out.size)); clear hb))
          go_ret
          exact ⟨rfl, HB2.out⟩
      · have d1 : decide ((t.size : Int) ≤ 200) = false := by simp; omega
        rw [show decide (t.size ≤ 200) = false from by simp [hz], Bool.false_and]
        clear hz
        go_enter Tryd.func71, Tryd.ntmps71
        go_wp2_with (first
          | (go_at_call 52; have tk := tk1; refine (HX.out _).mono ?_; rintro e w1 ⟨rfl, hb⟩; obtain ⟨g0, g1, g2⟩ := HC.out _ rfl; have HR1 := Lib.hid (g0.below hb g2); have HB1 := Lib.hid (g1.trans (hb.mono g1.size)); have q0 : w1.cell? ⟨W.heap.size, 0, none⟩ = some (.string a) := HR1.out.cell 0; have q1 : w1.cell? ⟨W.heap.size, 1, none⟩ = some (.string p) := HR1.out.cell 1; clear tk tk1 hb g0 g1 g2)
          | (go_at_call 52; refine (HL.out _).mono ?_; rintro e w2 ⟨rfl, hb⟩; have HB2 := Lib.hid (HB1.out.trans (hb.mono HB1.out.size)); clear hb))
        go_ret
        exact ⟨rfl, HB2.out⟩
  · rw [if_pos rfl]
    obtain ⟨z, hz⟩ : ∃ z, isNameB t = z := ⟨_, rfl⟩
    have HZ := Lib.hid hz
    rw [hz]
    clear hz
    go_enter Tryd.func71, Tryd.ntmps71
    go_wp2_with (first
      | (go_at_call 52; have tk := tk1; refine (HX.out _).mono ?_; rintro e w1 ⟨rfl, hb⟩; obtain ⟨g0, g1, g2⟩ := HC.out _ rfl; have HR1 := Lib.hid (g0.below hb g2); have HB1 := Lib.hid (g1.trans (hb.mono g1.size)); have q0 : w1.cell? ⟨W.heap.size, 0, none⟩ = some (.string a) := HR1.out.cell 0; have q1 : w1.cell? ⟨W.heap.size, 1, none⟩ = some (.string p) := HR1.out.cell 1; clear tk tk1 hb g0 g1 g2)
      | (go_at_call 53; refine Calls.mono (impl_IsName_any _ _ HS.out (classes_go HT.out HB1.out)) ?_; rintro e w3 ⟨rfl, hb⟩; rw [HZ.out]; have HB3 := Lib.hid (HB1.out.trans (hb.mono HB1.out.size)); clear hb))
    go_ret
    exact ⟨rfl, HB3.out⟩

end Go.Proofs.YtjeiiljdhnmofaaDoor
