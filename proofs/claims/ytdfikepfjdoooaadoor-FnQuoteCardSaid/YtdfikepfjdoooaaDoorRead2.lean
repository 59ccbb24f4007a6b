/- Contracts of the scanner's readers of marks and of nothing. Conditions: the scanner's block, the table. -/
import Derived.Test.YtdfikepfjdoooaaDoorRead
namespace Go.Proofs.YtdfikepfjdoooaaDoor
open Go Go.RowKit

theorem below_of {W w : World} {g : Nat} (h : W.grownBy w (some g)) (hg : g ≤ W.heap.size) : Below g W w :=
  ⟨h.os, h.tape, h.output, h.size, fun j hj => h.block j (Nat.lt_of_lt_of_le hj hg) (by simp; omega)⟩

set_option maxHeartbeats 1000000 in
set_option maxRecDepth 100000 in
theorem readNothing_any (g : Nat) (W : World) (hg : g < W.heap.size) :
    Calls Tryd.prog 117 #[.pointer (some ⟨g, 0, none⟩)] W fun e w' => e = TokRes 0 0 ⟨#[]⟩ false ∧ Below W.heap.size W w' := by
  go_enter Tryd.func117, Tryd.ntmps117
  go_wp2_with fail
  obtain ⟨c0, c1, c2, c3, c4⟩ := (Five.new W (.int .i64 0) (.int .i64 0) (.string ⟨#[]⟩) (.bool false) (.bool false)).c
  refine bodyPost_ret (v := .tuple #[.agg #[.int .i64 0, .int .i64 0, .string ⟨#[]⟩, .bool false, .bool false], .bool false]) (by rw [results_cell_tmp rfl]; go_simp) rfl ⟨rfl, (Below.refl _ _).alloc (Nat.le_refl _) _⟩

set_option maxHeartbeats 1000000 in
set_option maxRecDepth 100000 in
theorem readMark_any (g k : Nat) (s : ByteArray) (W : World) (hs : Scan W g s k) (hk : k < s.size) (hl : s.size ≤ 1048576) (hT : Classes W) (hg : 0 < g) :
    Calls Tryd.prog 118 #[.pointer (some ⟨g, 0, none⟩)] W fun e w' => e = TokRes (cls (PlainAid.bt s k)) 0 ⟨#[]⟩ true ∧ Hid (Scan w' g s (k + 1) ∧ W.grownBy w' (some g)) := by
  have HT := Lib.hid hT
  have HS := Lib.hid hs
  have HA : Hid (Scan (W.alloc (.cells #[.int .i64 0, .int .i64 0, .string ⟨#[]⟩, .bool false, .bool false] 46)) g s k) := hs.alloc _
  have h0 := HA.out.c0
  have h1 := HA.out.c1
  have f1 := HA.out.f1
  clear hs hT
  have hb := PlainAid.get_bt s
  obtain ⟨x, hx⟩ : ∃ x, PlainAid.bt s k = x := ⟨_, rfl⟩
  have hx0 : 0 ≤ x ∧ x ≤ 255 := by rw [← hx]; exact ⟨PlainAid.bt_nonneg s k, PlainAid.bt_le s k⟩
  have ix : IntKind.i32.wrap x = x := IntWalk.i32_in _ (by omega)
  obtain ⟨v, hv⟩ : ∃ v, cls x = v := ⟨_, rfl⟩
  have hv0 : 0 ≤ v ∧ v ≤ 11 := by rw [← hv]; exact cls_bd x
  have iv : IntKind.i64.wrap v = v := IntWalk.i64_in _ (by omega)
  rw [hx, hv]
  have HV := Lib.hid hv
  clear hv
  have i0 : (0 : Int) ≤ (k : Int) := by omega
  have i1 : (k : Int) < (s.size : Int) := by omega
  have i2 : (k : Int) + 1 ≤ (s.size : Int) := by omega
  go_enter Tryd.func118, Tryd.ntmps118
  go_wp2_with fail
  have hB := HA.out.set
  have hF : Five _ W.heap.size _ _ _ _ _ := (Five.new W (.int .i64 0) (.int .i64 0) (.string ⟨#[]⟩) (.bool false) (.bool false)).set (g := g) (u := .int .i64 ((k : Int) + 1)) (Nat.ne_of_gt HS.out.lt) 1
  have hG : W.grownBy _ (some g) := only_trans (World.grownBy_alloc W (.cells #[.int .i64 0, .int .i64 0, .string ⟨#[]⟩, .bool false, .bool false] 46) (some g)) (only_cell _ g 1 (.int .i64 ((k : Int) + 1)))
  clear h0 h1 f1 HA
  generalize ((W.alloc (.cells #[.int .i64 0, .int .i64 0, .string ⟨#[]⟩, .bool false, .bool false] 46)).setCell ⟨g, 1, none⟩ (.int .i64 ((k : Int) + 1))) = w1 at hB hF hG ⊢
  have h0 := hB.c0
  have h1 := hB.c1
  change w1.cell? ⟨g, 1, none⟩ = some (.int .i64 ((k : Int) + 1)) at h1
  have hGd : W.grownBy w1.drew (some g) := only_trans hG (only_draw _ g 1)
  have hC : Calls Tryd.prog 92 #[.int .i32 x] w1.drew fun e w' => e = .returned (.int .u8 v) ∧ w' = w1.drew :=
    (classOf_any x w1.drew (HT.out.below (below_of hGd (Nat.le_of_lt HS.out.lt)) hg)).mono fun e w' h => ⟨h.1.trans (by rw [HV.out]), h.2.symm⟩
  have HC := Lib.hid hC
  clear hC hGd
  have HB := Lib.hid hB
  have HF := Lib.hid hF
  have HG := Lib.hid hG
  clear hB hF hG
  have i3 : (k : Int) + 1 - 1 = (k : Int) := by omega
  have iw : IntKind.i64.wrap (k : Int) = (k : Int) := IntWalk.i64_in _ (by omega)
  have i4 : (k : Int) ≤ (k : Int) + 1 := by omega
  have i5 : ((k : Int) + 1).toNat = k + 1 := by omega
  go_still_tail 14, (by kernel_rfl)
  still_call HC.out
  repeat still_step
  refine wpStill_nil ?_
  change wpList _ _ _ _ _ w1.drew
  have hF2 : Five w1.drew W.heap.size _ _ _ _ _ := HF.out
  have hB2 : Scan w1.drew g s (k + 1) := HB.out
  have hG2 : W.grownBy w1.drew (some g) := only_trans HG.out (only_draw _ g 1)
  clear h0 h1 HB HF HG HC
  generalize w1.drew = w2 at hF2 hB2 hG2 ⊢
  obtain ⟨c0, c1, c2, c3, c4⟩ := hF2.c
  have e0 := hF2.f 0
  have e1 := hF2.f 1
  have e2 := hF2.f 2
  have e3 := hF2.f 3
  have e4 := hF2.f 4
  have HB := Lib.hid hB2
  have HF := Lib.hid hF2
  have HG := Lib.hid hG2
  clear hF2 hB2 hG2 i3 iw i4 i5
  go_wp2_with fail
  have hF := HF.out.put (.int .i64 v) (.int .i64 0) (.string ⟨#[]⟩) (.bool false) (.bool false)
  have hB := HB.out.put (Nat.ne_of_lt HS.out.lt) (.int .i64 v) (.int .i64 0) (.string ⟨#[]⟩) (.bool false) (.bool false)
  have hG := only_new HG.out (Nat.le_refl _) (grown_put5 w2 W.heap.size (.int .i64 v) (.int .i64 0) (.string ⟨#[]⟩) (.bool false) (.bool false))
  clear c0 c1 c2 c3 c4 e0 e1 e2 e3 e4 HB HF HG
  change bodyPost _ _ _ _ _ (put5 w2 W.heap.size (.int .i64 v) (.int .i64 0) (.string ⟨#[]⟩) (.bool false) (.bool false))
  generalize put5 w2 W.heap.size (.int .i64 v) (.int .i64 0) (.string ⟨#[]⟩) (.bool false) (.bool false) = w3 at hF hB hG ⊢
  obtain ⟨c0, c1, c2, c3, c4⟩ := hF.c
  refine bodyPost_ret (v := .tuple #[.agg #[.int .i64 v, .int .i64 0, .string ⟨#[]⟩, .bool false, .bool false], .bool true]) (by rw [results_cell_tmp rfl]; go_simp) rfl ⟨rfl, Lib.hid ⟨hB, hG⟩⟩
end Go.Proofs.YtdfikepfjdoooaaDoor
