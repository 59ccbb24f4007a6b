/- Contract of the scanner's reader of strings, where there is none. Conditions: the scanner's block. -/
import Derived.Test.YtdfikepfjdoooaaDoorRead5
namespace Go.Proofs.YtdfikepfjdoooaaDoor
open Go Go.RowKit

set_option maxHeartbeats 2000000 in
set_option maxRecDepth 100000 in
theorem readString_no (g k : Nat) (r : Int) (s : ByteArray) (W : World) (hs : Scan W g s k) (hk : k + 1 ≤ s.size) (hr : r < 0 ∨ 200 < r) (hl : s.size ≤ 1048576)
    (hC : ∀ w, Calls Tryd.prog 123 #[.string (s.extract (k + 1) s.size), .int .u8 (PlainAid.bt s k)] w fun e w' => e = .returned (.int .i64 r) ∧ w' = w) :
    Calls Tryd.prog 115 #[.pointer (some ⟨g, 0, none⟩)] W fun e w' =>
      e = TokRes 0 0 ⟨#[]⟩ false ∧ Hid (W.grownBy w' (some g)) := by
  have HC := Lib.hid hC
  have HS := Lib.hid hs
  have HA : Hid (Scan (W.alloc (.cells #[.int .i64 0, .int .i64 0, .string ⟨#[]⟩, .bool false, .bool false] 46)) g s k) := hs.alloc _
  have HG0 : Hid (W.grownBy (W.alloc (.cells #[.int .i64 0, .int .i64 0, .string ⟨#[]⟩, .bool false, .bool false] 46)) (some g)) := World.grownBy_alloc W _ _
  have HF : Hid (Five (W.alloc (.cells #[.int .i64 0, .int .i64 0, .string ⟨#[]⟩, .bool false, .bool false] 46)) W.heap.size (.int .i64 0) (.int .i64 0) (.string ⟨#[]⟩) (.bool false) (.bool false)) := Five.new W _ _ _ _ _
  have HN : Hid (W.heap.size ≠ g) := Nat.ne_of_gt hs.lt
  have h0 := HA.out.c0
  have h1 := HA.out.c1
  have f1 := HA.out.f1
  clear hs hC
  have hb := PlainAid.get_bt s
  have i0 : (0 : Int) ≤ (k : Int) := by omega
  have i1 : (k : Int) < (s.size : Int) := by omega
  have i2 : (k : Int) + 1 ≤ (s.size : Int) := by omega
  have hw1 : IntKind.i64.wrap ((k : Int) + 1) = (k : Int) + 1 := IntWalk.i64_in _ (by omega)
  by_cases hn : r < 0
  · have d1 : decide (r < 0) = true := by simpa using hn
    clear hr hn hk
    go_enter Tryd.func115, Tryd.ntmps115
    go_wp2_with fail
    go_quiet (fail)
    have hA2 : Scan ((W.alloc (.cells #[.int .i64 0, .int .i64 0, .string ⟨#[]⟩, .bool false, .bool false] 46)).drewN nq) g s k := HA.out
    have hG2 : W.grownBy ((W.alloc (.cells #[.int .i64 0, .int .i64 0, .string ⟨#[]⟩, .bool false, .bool false] 46)).drewN nq) (some g) := only_trans HG0.out (only_draw _ g nq)
    have hF2 : Five ((W.alloc (.cells #[.int .i64 0, .int .i64 0, .string ⟨#[]⟩, .bool false, .bool false] 46)).drewN nq) W.heap.size (.int .i64 0) (.int .i64 0) (.string ⟨#[]⟩) (.bool false) (.bool false) := HF.out
    clear h0 h1 f1 HA HF HG0
    generalize (W.alloc (.cells #[.int .i64 0, .int .i64 0, .string ⟨#[]⟩, .bool false, .bool false] 46)).drewN nq = w1 at hA2 hG2 hF2 ⊢
    have h0 := hA2.c0
    have h1 := hA2.c1
    have HA := Lib.hid hA2
    have HG0 := Lib.hid hG2
    have HF := Lib.hid hF2
    clear hA2 hG2 hF2
    go_wp2_with fail
    go_quiet ((go_at_call 123; exact Calls.quiet_of_same (HC.out _)))
    have hA2 : Scan (w1.drewN nq) g s k := HA.out
    have hG2 : W.grownBy (w1.drewN nq) (some g) := only_trans HG0.out (only_draw _ g nq)
    have hF2 : Five (w1.drewN nq) W.heap.size (.int .i64 0) (.int .i64 0) (.string ⟨#[]⟩) (.bool false) (.bool false) := HF.out
    clear h0 h1 HA HF HG0
    generalize w1.drewN nq = w2 at hA2 hG2 hF2 ⊢
    have h0 := hA2.c0
    have h1 := hA2.c1
    obtain ⟨c0, c1, c2, c3, c4⟩ := hF2.c
    have e0 := hF2.f 0
    have e1 := hF2.f 1
    have e2 := hF2.f 2
    have e3 := hF2.f 3
    have e4 := hF2.f 4
    have HF := Lib.hid hF2
    have HG := Lib.hid hG2
    clear hF2 hG2 hA2
    go_wp2_with fail
    have hF := HF.out.put (.int .i64 0) (.int .i64 0) (.string ⟨#[]⟩) (.bool false) (.bool false)
    have hG := only_new HG.out (Nat.le_refl _) (grown_put5 w2 W.heap.size (.int .i64 0) (.int .i64 0) (.string ⟨#[]⟩) (.bool false) (.bool false))
    clear c0 c1 c2 c3 c4 e0 e1 e2 e3 e4 HF HG h0 h1
    change bodyPost _ _ _ _ _ (put5 w2 W.heap.size (.int .i64 0) (.int .i64 0) (.string ⟨#[]⟩) (.bool false) (.bool false))
    generalize put5 w2 W.heap.size (.int .i64 0) (.int .i64 0) (.string ⟨#[]⟩) (.bool false) (.bool false) = w3 at hF hG ⊢
    obtain ⟨c0, c1, c2, c3, c4⟩ := hF.c
    refine bodyPost_ret (v := .tuple #[.agg #[.int .i64 0, .int .i64 0, .string ⟨#[]⟩, .bool false, .bool false], .bool false]) (by rw [results_cell_tmp rfl]; go_simp) rfl ⟨rfl, Lib.hid hG⟩
  · have d1 : decide (r < 0) = false := by simpa using hn
    have d2 : decide (200 < r) = true := by simp; omega
    clear hr hn hk
    go_enter Tryd.func115, Tryd.ntmps115
    go_wp2_with fail
    go_quiet (fail)
    have hA2 : Scan ((W.alloc (.cells #[.int .i64 0, .int .i64 0, .string ⟨#[]⟩, .bool false, .bool false] 46)).drewN nq) g s k := HA.out
    have hG2 : W.grownBy ((W.alloc (.cells #[.int .i64 0, .int .i64 0, .string ⟨#[]⟩, .bool false, .bool false] 46)).drewN nq) (some g) := only_trans HG0.out (only_draw _ g nq)
    have hF2 : Five ((W.alloc (.cells #[.int .i64 0, .int .i64 0, .string ⟨#[]⟩, .bool false, .bool false] 46)).drewN nq) W.heap.size (.int .i64 0) (.int .i64 0) (.string ⟨#[]⟩) (.bool false) (.bool false) := HF.out
    clear h0 h1 f1 HA HF HG0
    generalize (W.alloc (.cells #[.int .i64 0, .int .i64 0, .string ⟨#[]⟩, .bool false, .bool false] 46)).drewN nq = w1 at hA2 hG2 hF2 ⊢
    have h0 := hA2.c0
    have h1 := hA2.c1
    have HA := Lib.hid hA2
    have HG0 := Lib.hid hG2
    have HF := Lib.hid hF2
    clear hA2 hG2 hF2
    go_wp2_with fail
    go_quiet ((go_at_call 123; exact Calls.quiet_of_same (HC.out _)))
    have hA2 : Scan (w1.drewN nq) g s k := HA.out
    have hG2 : W.grownBy (w1.drewN nq) (some g) := only_trans HG0.out (only_draw _ g nq)
    have hF2 : Five (w1.drewN nq) W.heap.size (.int .i64 0) (.int .i64 0) (.string ⟨#[]⟩) (.bool false) (.bool false) := HF.out
    clear h0 h1 HA HF HG0
    generalize w1.drewN nq = w2 at hA2 hG2 hF2 ⊢
    have h0 := hA2.c0
    have h1 := hA2.c1
    obtain ⟨c0, c1, c2, c3, c4⟩ := hF2.c
    have e0 := hF2.f 0
    have e1 := hF2.f 1
    have e2 := hF2.f 2
    have e3 := hF2.f 3
    have e4 := hF2.f 4
    have HF := Lib.hid hF2
    have HG := Lib.hid hG2
    clear hF2 hG2 hA2
    go_wp2_with fail
    have hF := HF.out.put (.int .i64 0) (.int .i64 0) (.string ⟨#[]⟩) (.bool false) (.bool false)
    have hG := only_new HG.out (Nat.le_refl _) (grown_put5 w2 W.heap.size (.int .i64 0) (.int .i64 0) (.string ⟨#[]⟩) (.bool false) (.bool false))
    clear c0 c1 c2 c3 c4 e0 e1 e2 e3 e4 HF HG h0 h1
    change bodyPost _ _ _ _ _ (put5 w2 W.heap.size (.int .i64 0) (.int .i64 0) (.string ⟨#[]⟩) (.bool false) (.bool false))
    generalize put5 w2 W.heap.size (.int .i64 0) (.int .i64 0) (.string ⟨#[]⟩) (.bool false) (.bool false) = w3 at hF hG ⊢
    obtain ⟨c0, c1, c2, c3, c4⟩ := hF.c
    refine bodyPost_ret (v := .tuple #[.agg #[.int .i64 0, .int .i64 0, .string ⟨#[]⟩, .bool false, .bool false], .bool false]) (by rw [results_cell_tmp rfl]; go_simp) rfl ⟨rfl, Lib.hid hG⟩
end Go.Proofs.YtdfikepfjdoooaaDoor
