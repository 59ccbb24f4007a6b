/- Contracts: CaptureText of both. Conditions: bounds on the capture; for the program's the tables that conversions read. -/
import Derived.Test.YtdlhoakcpdaboaaDoorLit
import Derived.Test.YtdlhoakcpdaboaaDoorDig16
import Derived.Test.YtdlhoakcpdaboaaDoorQuoteI
import Derived.Test.YtdlhoakcpdaboaaDoorPow0
import Derived.Test.YtdlhoakcpdaboaaDoorCap1
import Derived.Lib.AppendIntMem
namespace Go.Proofs.YtdlhoakcpdaboaaDoor
open Go Go.RowKit

/-- What CaptureText answers. -/
def capT (nm tx : ByteArray) (cu k : Int) : ByteArray := if k = 3 then nm ++ ⟨#[58]⟩ ++ itoaE cu else if k = 1 ∨ k = 2 then nm ++ ⟨#[58]⟩ ++ litE tx else ByteArray.empty
theorem itoa_short {n : Int} (h0 : -9223372036854775808 ≤ n) (h1 : n ≤ 9223372036854775807) : (itoaE n).size ≤ 30 := by
  obtain ⟨u, hu⟩ : ∃ u : Nat, n = u ∨ (n = -(u : Int) ∧ 0 < u) := by
    by_cases h : 0 ≤ n
    · exact ⟨n.toNat, .inl (by omega)⟩
    · exact ⟨n.natAbs, .inr (by omega)⟩
  have hd := dec_len u (by omega)
  rcases hu with rfl | ⟨rfl, hu0⟩
  · rw [itoa_pos, size_mk]; omega
  · rw [itoa_neg u hu0, ByteArray.size_append]
    have e : (⟨#[45]⟩ : ByteArray).size = 1 := rfl
    have e2 := size_mk (Lib.decDigits u)
    omega
theorem lit_size (s : ByteArray) : (litE s).size ≤ 2 * s.size + 2 := by
  have := dblE_size s
  unfold litE
  rw [ByteArray.size_append, ByteArray.size_append]
  have e1 : (⟨#[34]⟩ : ByteArray).size = 1 := rfl
  omega
/-- A capture's box. -/
def Cx (W : World) (nm tx : ByteArray) (cu k : Int) (w : World) : Prop := RW 26 w W.heap.size #[.string nm, .string tx, .int .i64 cu, .int .i64 k] ∧ Below W.heap.size W w
theorem Cx.grow {W w w' : World} {nm tx : ByteArray} {cu k : Int} (h : Cx W nm tx cu k w) (hb : Below w.heap.size w w') : Cx W nm tx cu k w' :=
  ⟨h.1.below hb h.1.lt, h.2.trans (hb.mono h.2.size)⟩
theorem Cx.new (W : World) (nm tx : ByteArray) (cu k : Int) : Cx W nm tx cu k (W.alloc (.cells #[.string nm, .string tx, .int .i64 cu, .int .i64 k] 26)) := ⟨RW.new _ _ _, below_alloc _ _⟩
abbrev FlatCx (W : World) (nm tx : ByteArray) (cu k : Int) (w : World) : Prop :=
  (w.cell? ⟨W.heap.size, 0, none⟩ = some (.string nm) ∧ w.cell? ⟨W.heap.size, 1, none⟩ = some (.string tx) ∧ w.cell? ⟨W.heap.size, 2, none⟩ = some (.int .i64 cu) ∧ w.cell? ⟨W.heap.size, 3, none⟩ = some (.int .i64 k)) ∧ Cx W nm tx cu k w
theorem Cx.flat {W w : World} {nm tx : ByteArray} {cu k : Int} (h : Cx W nm tx cu k w) : FlatCx W nm tx cu k w := ⟨⟨h.1.cell 0, h.1.cell 1, h.1.cell 2, h.1.cell 3⟩, h⟩

set_option maxHeartbeats 2000000 in
set_option maxRecDepth 100000 in
theorem spec_CaptureText_any (nm tx : ByteArray) (cu k : Int) (W : World) (hn : nm.size ≤ 1048576) (ht : tx.size ≤ 1048576) (h0 : -9223372036854775808 ≤ cu) (h1 : cu ≤ 9223372036854775807) :
    Calls Tryd.prog 5 #[.agg #[.string nm, .string tx, .int .i64 cu, .int .i64 k]] W fun e w' => e = .returned (.string (capT nm tx cu k)) ∧ Below W.heap.size W w' := by
  have HDG := Lib.hid (fun w => l16Digits_any cu w h0 h1)
  have HLT := Lib.hid (fun w => l11Literal_any tx w ht)
  have hz1 := itoa_short h0 h1
  have hz2 := lit_size tx
  have HB := Lib.hid ((Cx.new W nm tx cu k).grow (Below.refl _ _).drew)
  clear h0 h1
  by_cases e3 : k = 3
  · subst e3
    have HE : Hid (capT nm tx cu 3 = nm ++ ⟨#[58]⟩ ++ itoaE cu) := by show _ = _; simp [capT]
    have n1 : ¬ 9223372036854775807 < nm.size + 1 := by omega
    have n2 : ¬ 9223372036854775807 < nm.size + 1 + (itoaE cu).size := by omega
    generalize itoaE cu = y at *
    generalize capT nm tx cu 3 = x at *
    go_enter Tryd.func5, Tryd.ntmps5
    go_wp2_with fail
    go_region_held3 (fun w => FlatCx W nm tx cu 3 w)
      (first | exact HB.out.flat | exact H1.out.flat | go_keep)
      ((go_at_call 8; refine Calls.mono (HDG.out _) ?_; rintro e w1 ⟨rfl, hb⟩; have H1 := Lib.hid (HB.out.grow hb); clear hb))
    go_split_ands
    go_wp2_with fail
    go_ret
    exact ⟨str_ret HE.out.symm, H1.out.2⟩
  by_cases e1 : k = 1
  · subst e1
    have HE : Hid (capT nm tx cu 1 = nm ++ ⟨#[58]⟩ ++ litE tx) := by show _ = _; simp [capT]
    have n1 : ¬ 9223372036854775807 < nm.size + 1 := by omega
    have n2 : ¬ 9223372036854775807 < nm.size + 1 + (litE tx).size := by omega
    generalize litE tx = y at *
    generalize capT nm tx cu 1 = x at *
    go_enter Tryd.func5, Tryd.ntmps5
    go_wp2_with fail
    go_region_held3 (fun w => FlatCx W nm tx cu 1 w)
      (first | exact HB.out.flat | exact H1.out.flat | go_keep)
      ((go_at_call 9; refine Calls.mono (HLT.out _) ?_; rintro e w1 ⟨rfl, hb⟩; have H1 := Lib.hid (HB.out.grow hb); clear hb))
    go_split_ands
    go_wp2_with fail
    go_ret
    exact ⟨str_ret HE.out.symm, H1.out.2⟩
  by_cases e2 : k = 2
  · subst e2
    have HE : Hid (capT nm tx cu 2 = nm ++ ⟨#[58]⟩ ++ litE tx) := by show _ = _; simp [capT]
    have n1 : ¬ 9223372036854775807 < nm.size + 1 := by omega
    have n2 : ¬ 9223372036854775807 < nm.size + 1 + (litE tx).size := by omega
    generalize litE tx = y at *
    generalize capT nm tx cu 2 = x at *
    go_enter Tryd.func5, Tryd.ntmps5
    go_wp2_with fail
    go_region_held3 (fun w => FlatCx W nm tx cu 2 w)
      (first | exact HB.out.flat | exact H1.out.flat | go_keep)
      ((go_at_call 9; refine Calls.mono (HLT.out _) ?_; rintro e w1 ⟨rfl, hb⟩; have H1 := Lib.hid (HB.out.grow hb); clear hb))
    go_split_ands
    go_wp2_with fail
    go_ret
    exact ⟨str_ret HE.out.symm, H1.out.2⟩
  have HE : Hid (capT nm tx cu k = ByteArray.empty) := by show _ = _; simp [capT, e1, e2, e3]
  have q1 : (k == 1) = false := by simpa using e1
  have q2 : (k == 2) = false := by simpa using e2
  have q3 : (k == 3) = false := by simpa using e3
  generalize capT nm tx cu k = x at *
  go_enter Tryd.func5, Tryd.ntmps5
  go_wp2_with fail
  go_ret
  exact ⟨str_ret HE.out.symm, below_alloc _ _⟩

set_option maxHeartbeats 2000000 in
set_option maxRecDepth 100000 in
theorem impl_CaptureText_any (nm tx : ByteArray) (cu k : Int) (W : World) (hn : nm.size ≤ 1048576) (ht : tx.size ≤ 1048576) (h0 : -9223372036854775808 ≤ cu) (h1 : cu ≤ 9223372036854775807) (m : Int) (hm : W.cell? ⟨3, 0, none⟩ = some (.int .i64 m)) (hg : 3 < W.heap.size) (hP : PowTab W) (hgp : 0 < W.heap.size) :
    Calls Tryd.prog 7 #[.agg #[.string nm, .string tx, .int .i64 cu, .int .i64 k]] W fun e w' => e = .returned (.string (capT nm tx cu k)) ∧ Below W.heap.size W w' := by
  have HDG : Hid (∀ w, Below W.heap.size W w → Calls Tryd.prog 11 #[.int .i64 cu, .int .i64 10] w fun e w' => e = .returned (.string (itoaE cu)) ∧ Below w.heap.size w w') := fun w hb =>
    (Tryd.strconv_FormatInt_10 cu h0 h1 w (var?_below hb gPow hgp hP)).mono fun e w' ⟨he, k, os, hw⟩ => ⟨he, by rw [hw]; exact Lib.below_grow _ w (Nat.le_refl _) k os⟩
  have HLT : Hid (∀ w, Below W.heap.size W w → Calls Tryd.prog 10 #[.string tx] w fun e w' => e = .returned (.string (litE tx)) ∧ Below w.heap.size w w') := fun w hb => impl_QuoteText_any tx m w ht ((hb.cell (p := ⟨3, 0, none⟩) hg).trans hm)
  have hz1 := itoa_short h0 h1
  have hz2 := lit_size tx
  have HB := Lib.hid ((Cx.new W nm tx cu k).grow (Below.refl _ _).drew)
  clear h0 h1 hm hg hP hgp
  by_cases e3 : k = 3
  · subst e3
    have HE : Hid (capT nm tx cu 3 = nm ++ ⟨#[58]⟩ ++ itoaE cu) := by show _ = _; simp [capT]
    have n1 : ¬ 9223372036854775807 < nm.size + 1 := by omega
    have n2 : ¬ 9223372036854775807 < nm.size + 1 + (itoaE cu).size := by omega
    generalize itoaE cu = y at *
    generalize capT nm tx cu 3 = x at *
    go_enter Tryd.func7, Tryd.ntmps7
    go_wp2_with fail
    go_region_held3 (fun w => FlatCx W nm tx cu 3 w)
      (first | exact HB.out.flat | exact H1.out.flat | go_keep)
      ((go_at_call 11; refine Calls.mono (HDG.out _ HB.out.2) ?_; rintro e w1 ⟨rfl, hb⟩; have H1 := Lib.hid (HB.out.grow hb); clear hb))
    go_split_ands
    go_wp2_with fail
    go_ret
    exact ⟨str_ret HE.out.symm, H1.out.2⟩
  by_cases e1 : k = 1
  · subst e1
    have HE : Hid (capT nm tx cu 1 = nm ++ ⟨#[58]⟩ ++ litE tx) := by show _ = _; simp [capT]
    have n1 : ¬ 9223372036854775807 < nm.size + 1 := by omega
    have n2 : ¬ 9223372036854775807 < nm.size + 1 + (litE tx).size := by omega
    generalize litE tx = y at *
    generalize capT nm tx cu 1 = x at *
    go_enter Tryd.func7, Tryd.ntmps7
    go_wp2_with fail
    go_region_held3 (fun w => FlatCx W nm tx cu 1 w)
      (first | exact HB.out.flat | exact H1.out.flat | go_keep)
      ((go_at_call 10; refine Calls.mono (HLT.out _ HB.out.2) ?_; rintro e w1 ⟨rfl, hb⟩; have H1 := Lib.hid (HB.out.grow hb); clear hb))
    go_split_ands
    go_wp2_with fail
    go_ret
    exact ⟨str_ret HE.out.symm, H1.out.2⟩
  by_cases e2 : k = 2
  · subst e2
    have HE : Hid (capT nm tx cu 2 = nm ++ ⟨#[58]⟩ ++ litE tx) := by show _ = _; simp [capT]
    have n1 : ¬ 9223372036854775807 < nm.size + 1 := by omega
    have n2 : ¬ 9223372036854775807 < nm.size + 1 + (litE tx).size := by omega
    generalize litE tx = y at *
    generalize capT nm tx cu 2 = x at *
    go_enter Tryd.func7, Tryd.ntmps7
    go_wp2_with fail
    go_region_held3 (fun w => FlatCx W nm tx cu 2 w)
      (first | exact HB.out.flat | exact H1.out.flat | go_keep)
      ((go_at_call 10; refine Calls.mono (HLT.out _ HB.out.2) ?_; rintro e w1 ⟨rfl, hb⟩; have H1 := Lib.hid (HB.out.grow hb); clear hb))
    go_split_ands
    go_wp2_with fail
    go_ret
    exact ⟨str_ret HE.out.symm, H1.out.2⟩
  have HE : Hid (capT nm tx cu k = ByteArray.empty) := by show _ = _; simp [capT, e1, e2, e3]
  have q1 : (k == 1) = false := by simpa using e1
  have q2 : (k == 2) = false := by simpa using e2
  have q3 : (k == 3) = false := by simpa using e3
  generalize capT nm tx cu k = x at *
  go_enter Tryd.func7, Tryd.ntmps7
  go_wp2_with fail
  go_ret
  exact ⟨str_ret HE.out.symm, below_alloc _ _⟩
end Go.Proofs.YtdlhoakcpdaboaaDoor
