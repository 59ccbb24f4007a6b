/- Contract of the scanner's reader of strings. Conditions: the scanner's block. -/
import Derived.Test.YtdfikepfjdoooaaDoorRead4
import Derived.Test.YtdfikepfjdoooaaDoorShelf
namespace Go.Proofs.YtdfikepfjdoooaaDoor
open Go Go.RowKit

set_option maxHeartbeats 2000000 in
set_option maxRecDepth 100000 in
theorem readString_ok (g k r : Nat) (s : ByteArray) (W : World) (hs : Scan W g s k) (hk : k + 1 + r < s.size) (hr : r ≤ 200) (hl : s.size ≤ 1048576)
    (hC : ∀ w, Calls Tryd.prog 123 #[.string (s.extract (k + 1) s.size), .int .u8 (PlainAid.bt s k)] w fun e w' => e = .returned (.int .i64 (r : Int)) ∧ w' = w) :
    Calls Tryd.prog 115 #[.pointer (some ⟨g, 0, none⟩)] W fun e w' =>
      e = TokRes 3 0 ((s.extract (k + 1) s.size).extract 0 r) true ∧ Hid (Scan w' g s (k + (r + 2)) ∧ W.grownBy w' (some g)) := by
  have HC := Lib.hid hC
  have HS := Lib.hid hs
  have HA : Hid (Scan (W.alloc (.cells #[.int .i64 0, .int .i64 0, .string ⟨#[]⟩, .bool false, .bool false] 46)) g s k) := hs.alloc _
  have HG0 : Hid (W.grownBy (W.alloc (.cells #[.int .i64 0, .int .i64 0, .string ⟨#[]⟩, .bool false, .bool false] 46)) (some g)) := World.grownBy_alloc W _ _
  have HF : Hid (Five (W.alloc (.cells #[.int .i64 0, .int .i64 0, .string ⟨#[]⟩, .bool false, .bool false] 46)) W.heap.size (.int .i64 0) (.int .i64 0) (.string ⟨#[]⟩) (.bool false) (.bool false)) := Five.new W _ _ _ _ _
  have HN : Hid (W.heap.size ≠ g) := Nat.ne_of_gt hs.lt
  have h0 := HA.out.c0
  have h1 := HA.out.c1
  have f1 := HA.out.f1
  clear hs hC
  have hb := PlainAid.get_bt s
  have i0 : (0 : Int) ≤ (k : Int) := by omega
  have i1 : (k : Int) < (s.size : Int) := by omega
  have i2 : (k : Int) + 1 ≤ (s.size : Int) := by omega
  have hw1 : IntKind.i64.wrap ((k : Int) + 1) = (k : Int) + 1 := IntWalk.i64_in _ (by omega)
  have d1 : decide ((r : Int) < 0) = false := by simp
  have d2 : decide (200 < (r : Int)) = false := by simp; omega
  have HM : Hid (k + 1 + r < s.size) := hk
  clear hk
  go_enter Tryd.func115, Tryd.ntmps115
  go_wp2_with fail
  go_quiet (fail)
  have hA2 : Scan ((W.alloc (.cells #[.int .i64 0, .int .i64 0, .string ⟨#[]⟩, .bool false, .bool false] 46)).drewN nq) g s k := HA.out
  have hG2 : W.grownBy ((W.alloc (.cells #[.int .i64 0, .int .i64 0, .string ⟨#[]⟩, .bool false, .bool false] 46)).drewN nq) (some g) := only_trans HG0.out (only_draw _ g nq)
  have hF2 : Five ((W.alloc (.cells #[.int .i64 0, .int .i64 0, .string ⟨#[]⟩, .bool false, .bool false] 46)).drewN nq) W.heap.size (.int .i64 0) (.int .i64 0) (.string ⟨#[]⟩) (.bool false) (.bool false) := HF.out
  clear h0 h1 f1 HA HF HG0
  generalize (W.alloc (.cells #[.int .i64 0, .int .i64 0, .string ⟨#[]⟩, .bool false, .bool false] 46)).drewN nq = w1 at hA2 hG2 hF2 ⊢
  have h0 := hA2.c0
  have h1 := hA2.c1
  have HA := Lib.hid hA2
  have HG0 := Lib.hid hG2
  have HF := Lib.hid hF2
  clear hA2 hG2 hF2
  go_wp2_with fail
  go_quiet ((go_at_call 123; exact Calls.quiet_of_same (HC.out _)))
  have hA2 : Scan (w1.drewN nq) g s k := HA.out
  have hG2 : W.grownBy (w1.drewN nq) (some g) := only_trans HG0.out (only_draw _ g nq)
  have hF2 : Five (w1.drewN nq) W.heap.size (.int .i64 0) (.int .i64 0) (.string ⟨#[]⟩) (.bool false) (.bool false) := HF.out
  clear h0 h1 HA HF HG0
  generalize w1.drewN nq = w2 at hA2 hG2 hF2 ⊢
  have h0 := hA2.c0
  have h1 := hA2.c1
  have f1 := hA2.f1
  obtain ⟨y, hy⟩ : ∃ y, s.extract (k + 1) s.size = y := ⟨_, rfl⟩
  have hys : r ≤ y.size := by rw [← hy]; simp; have := HM.out; omega
  obtain ⟨m, hm⟩ : ∃ m, k + (r + 2) = m := ⟨_, rfl⟩
  have m0 : (k : Int) + ((r : Int) + 2) = (m : Int) := by omega
  have m1 : IntKind.i64.wrap (m : Int) = (m : Int) := IntWalk.i64_in _ (by have := HM.out; omega)
  have m2 : IntKind.i64.wrap ((r : Int) + 2) = (r : Int) + 2 := IntWalk.i64_in _ (by omega)
  have m3 : (r : Int) ≤ (y.size : Int) := by omega
  have m4 : (0 : Int) ≤ (r : Int) := by omega
  rw [hy]
  have HK := Lib.hid hm
  have HB3 : Hid (Scan (w2.setCell ⟨g, 1, none⟩ (.int .i64 (m : Int))) g s m) := hA2.move 0 0 m
  have HG3 : Hid (W.grownBy (w2.setCell ⟨g, 1, none⟩ (.int .i64 (m : Int))) (some g)) := only_trans hG2 (only_cell w2 g 1 (.int .i64 (m : Int)))
  have hF3 : Five (w2.setCell ⟨g, 1, none⟩ (.int .i64 (m : Int))) W.heap.size (.int .i64 0) (.int .i64 0) (.string ⟨#[]⟩) (.bool false) (.bool false) := hF2.set HN.out 1
  have HF3 := Lib.hid hF3
  clear hys hm hA2 hG2 hF2 hF3
  obtain ⟨c0, c1, c2, c3, c4⟩ := HF3.out.c
  have e0 := HF3.out.f 0
  have e1 := HF3.out.f 1
  have e2 := HF3.out.f 2
  have e3 := HF3.out.f 3
  have e4 := HF3.out.f 4
  go_wp2_with fail
  have hF := HF3.out.put (.int .i64 3) (.int .i64 0) (.string (y.extract 0 r)) (.bool false) (.bool false)
  have hB := HB3.out.put (Ne.symm HN.out) (.int .i64 3) (.int .i64 0) (.string (y.extract 0 r)) (.bool false) (.bool false)
  have hG := only_new HG3.out (Nat.le_refl _) (grown_put5 (w2.setCell ⟨g, 1, none⟩ (.int .i64 (m : Int))) W.heap.size (.int .i64 3) (.int .i64 0) (.string (y.extract 0 r)) (.bool false) (.bool false))
  clear c0 c1 c2 c3 c4 e0 e1 e2 e3 e4 HB3 HF3 HG3 h0 h1 f1
  change bodyPost _ _ _ _ _ (put5 (w2.setCell ⟨g, 1, none⟩ (.int .i64 (m : Int))) W.heap.size (.int .i64 3) (.int .i64 0) (.string (y.extract 0 r)) (.bool false) (.bool false))
  generalize put5 (w2.setCell ⟨g, 1, none⟩ (.int .i64 (m : Int))) W.heap.size (.int .i64 3) (.int .i64 0) (.string (y.extract 0 r)) (.bool false) (.bool false) = w3 at hF hB hG ⊢
  obtain ⟨c0, c1, c2, c3, c4⟩ := hF.c
  refine bodyPost_ret (v := .tuple #[.agg #[.int .i64 3, .int .i64 0, .string (y.extract 0 r), .bool false, .bool false], .bool true]) (by rw [results_cell_tmp rfl]; go_simp) rfl ⟨by rw [hy]; rfl, by rw [HK.out]; exact Lib.hid ⟨hB, hG⟩⟩
end Go.Proofs.YtdfikepfjdoooaaDoor
