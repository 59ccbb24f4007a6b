/- Contract of the scanner's read, over the chosen reader's contract. Conditions: the scanner's block, the table. -/
import Derived.Test.YtdfikepfjdoooaaDoorRead7
namespace Go.Proofs.YtdfikepfjdoooaaDoor
open Go Go.RowKit

set_option maxHeartbeats 2000000 in
set_option maxRecDepth 100000 in
theorem read_of (g k k' : Nat) (kk nn : Int) (tt : ByteArray) (ok : Bool) (s : ByteArray) (W : World) (hs : Scan W g s k) (hk : k < s.size) (hl : s.size ≤ 1048576) (hT : Classes W) (hg : 0 < g)
    (hf : ∀ (a : Array Value) (w : World), (callFunc (readerFn (cls (PlainAid.bt s k))) a).run Tryd.prog w = .ok (.enter (readerFn (cls (PlainAid.bt s k))) a) w)
    (hR : ∀ w, Scan w g s k → Classes w → Calls Tryd.prog (readerFn (cls (PlainAid.bt s k))) #[.pointer (some ⟨g, 0, none⟩)] w fun e w' => e = TokRes kk nn tt ok ∧ Hid ((ok = true → Scan w' g s k') ∧ w.grownBy w' (some g))) :
    Calls Tryd.prog 53 #[.pointer (some ⟨g, 0, none⟩)] W fun e w' => e = TokRes kk nn tt ok ∧ Hid ((ok = true → Scan w' g s k') ∧ W.grownBy w' (some g)) := by
  have HN : Hid (W.heap.size ≠ g) := Nat.ne_of_gt hs.lt
  have HS := Lib.hid hs.lt
  obtain ⟨w1, hw1⟩ : ∃ w1, W.alloc (.cells #[.int .i64 0, .int .i64 0, .string ⟨#[]⟩, .bool false, .bool false] 46) = w1 := ⟨_, rfl⟩
  have HA : Hid (Scan w1 g s k) := by rw [← hw1]; exact hs.alloc _
  have HG0 : Hid (W.grownBy w1 (some g)) := by rw [← hw1]; exact World.grownBy_alloc W _ _
  have HF : Hid (Five w1 W.heap.size (.int .i64 0) (.int .i64 0) (.string ⟨#[]⟩) (.bool false) (.bool false)) := by rw [← hw1]; exact Five.new W _ _ _ _ _
  have HT : Hid (Classes w1) := hT.below (below_of HG0.out (Nat.le_of_lt hs.lt)) hg
  clear hs hT
  have hb := PlainAid.get_bt s
  obtain ⟨x, hx⟩ : ∃ x, PlainAid.bt s k = x := ⟨_, rfl⟩
  have hx0 : 0 ≤ x ∧ x ≤ 255 := by rw [← hx]; exact ⟨PlainAid.bt_nonneg s k, PlainAid.bt_le s k⟩
  have ix : IntKind.i32.wrap x = x := IntWalk.i32_in _ (by omega)
  rw [hx] at hf hR
  have hv0 := cls_bd x
  obtain ⟨v, hv⟩ : ∃ v, cls x = v := ⟨_, rfl⟩
  rw [hv] at hf hR hv0
  have HC : Hid (∀ n, Calls Tryd.prog 92 #[.int .i32 x] (w1.drewN n) fun e w' => e = .returned (.int .u8 v) ∧ w' = w1.drewN n) := fun n =>
    (classOf_any x (w1.drewN n) HT.out).mono fun e w' h => ⟨h.1.trans (by rw [hv]), h.2.symm⟩
  obtain ⟨F, hF⟩ : ∃ F, readerFn v = F := ⟨_, rfl⟩
  have HD : Hid (∀ w, Calls Tryd.prog 91 #[.pointer (some ⟨g, 0, none⟩), .int .u8 v] w fun e w' => e = .returned (.func (Fn.func F) #[.pointer (some ⟨g, 0, none⟩)] #[]) ∧ w' = w) := fun w => by
    rw [← hF]
    exact readerOf_any g v w hv0.1 hv0.2
  rw [hF] at hf hR
  have HR := Lib.hid hR
  clear hv hv0 hx0 hF hR
  have h0 := HA.out.c0
  have h1 := HA.out.c1
  have i0 : (0 : Int) ≤ (k : Int) := by omega
  have i1 : (k : Int) < (s.size : Int) := by omega
  go_enter Tryd.func53, Tryd.ntmps53
  go_wp2_with fail
  try rw [hw1]
  go_quiet ((first | (go_at_call 92; exact Calls.quiet_of_same (HC.out _)) | (go_at_call 91; exact Calls.quiet_of_same (HD.out _))))
  have hA2 : Scan (w1.drewN nq) g s k := HA.out
  have hT2 : Classes (w1.drewN nq) := HT.out
  have hG2 : W.grownBy (w1.drewN nq) (some g) := only_trans HG0.out (only_draw _ g nq)
  have hF2 : Five (w1.drewN nq) W.heap.size (.int .i64 0) (.int .i64 0) (.string ⟨#[]⟩) (.bool false) (.bool false) := HF.out
  clear h0 h1 HA HF HG0 HT hw1 HC HD
  generalize w1.drewN nq = w2 at hA2 hG2 hF2 hT2 ⊢
  have HC := Lib.hid (HR.out w2 hA2 hT2)
  have HF := Lib.hid hF2
  have HG := Lib.hid hG2
  clear hA2 hG2 hF2 hT2 HR
  go_wp2_with (refine HC.out.mono ?_; rintro e w' ⟨rfl, HW⟩; simp only [TokRes]; have HF1 := Lib.hid (HF.out.kept HW.out.2 HN.out); obtain ⟨c0, c1, c2, c3, c4⟩ := HF1.out.c; have e0 := HF1.out.f 0; have e1 := HF1.out.f 1; have e2 := HF1.out.f 2; have e3 := HF1.out.f 3; have e4 := HF1.out.f 4)
  have hF := HF1.out.put (.int .i64 kk) (.int .i64 nn) (.string tt) (.bool false) (.bool false)
  have hB := fun h => (HW.out.1 h).put (Ne.symm HN.out) (.int .i64 kk) (.int .i64 nn) (.string tt) (.bool false) (.bool false)
  have hG := only_new (only_trans HG.out HW.out.2) (Nat.le_refl _) (grown_put5 w' W.heap.size (.int .i64 kk) (.int .i64 nn) (.string tt) (.bool false) (.bool false))
  clear c0 c1 c2 c3 c4 e0 e1 e2 e3 e4
  change bodyPost _ _ _ _ _ (put5 w' W.heap.size (.int .i64 kk) (.int .i64 nn) (.string tt) (.bool false) (.bool false))
  generalize put5 w' W.heap.size (.int .i64 kk) (.int .i64 nn) (.string tt) (.bool false) (.bool false) = w3 at hF hB hG ⊢
  obtain ⟨c0, c1, c2, c3, c4⟩ := hF.c
  refine bodyPost_ret (v := .tuple #[.agg #[.int .i64 kk, .int .i64 nn, .string tt, .bool false, .bool false], .bool ok]) (by rw [results_cell_tmp rfl]; go_simp) rfl ⟨rfl, Lib.hid ⟨hB, hG⟩⟩
end Go.Proofs.YtdfikepfjdoooaaDoor
