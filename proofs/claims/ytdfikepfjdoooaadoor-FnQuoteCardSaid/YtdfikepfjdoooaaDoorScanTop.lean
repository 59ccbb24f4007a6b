/- Contract of the model's ScanTokens. No condition. -/
import Derived.Test.YtdfikepfjdoooaaDoorScanSpec
namespace Go.Proofs.YtdfikepfjdoooaaDoor
open Go Go.RowKit

theorem tokensT_yes {s : ByteArray} (h : s.size ≤ 4000) (h2 : allB (prnB false) s = true) : tokensT s = scanT s 0 [] := by unfold tokensT; rw [if_pos ⟨h, h2⟩]
theorem tokensT_no {s : ByteArray} (h : ¬ (s.size ≤ 4000 ∧ allB (prnB false) s = true)) : tokensT s = ([], 0, 1) := by unfold tokensT; rw [if_neg h]
theorem retsT_more {W w w' : World} {r : List Tok × Nat × Int} {e : Ending} (hb : Below W.heap.size W w) (h : RetsT w r e w') : RetsT W r e w' := by
  obtain ⟨A, c, he, hr, hw⟩ := h
  refine ⟨A, c, he, fun hn => ?_, hb.trans (hw.mono hb.size)⟩
  obtain ⟨g, cs, e1, h1, h2⟩ := hr hn
  exact ⟨g, cs, e1, Nat.le_trans hb.size h1, h2⟩

set_option maxHeartbeats 1000000 in
set_option maxRecDepth 100000 in
theorem spec_ScanTokens_any (s : ByteArray) (W : World) (hl : s.size ≤ 1048576) :
    Calls Tryd.prog 13 #[.string s] W (RetsT W (tokensT s)) := by
  have HZ : Hid (s.size ≤ maxLen) := by show _ ≤ _; unfold maxLen; omega
  by_cases h : s.size ≤ 4000
  · have i0 : decide (4000 < (s.size : Int)) = false := decide_eq_false (by omega)
    obtain ⟨p, hp⟩ : ∃ p, allB (prnB false) s = p := ⟨_, rfl⟩
    have HP := Lib.hid hp
    cases p
    · rw [tokensT_no (fun h2 => by rw [hp] at h2; cases h2.2)]
      clear hp h
      go_enter Tryd.func13, Tryd.ntmps13
      go_wp2_with (go_at_call 49; refine (l01Printable_any _ _ _ HZ.out).mono ?_; rintro e w1 ⟨rfl, rfl⟩; rw [HP.out])
      refine bodyPost_ret (v := .tuple #[.slice (some ⟨W.heap.size, 0, none⟩) 0 0, .int .i64 0, .int .i64 1]) (by simp [results, Tryd.results13, go_sem]) rfl ?_
      exact retsT_nil (n := 0) ((Below.refl _ _).alloc (Nat.le_refl _) _)
    · rw [tokensT_yes h hp]
      clear hp h
      have HS := Lib.hid (fun w => l02Scan_any s w hl)
      go_enter Tryd.func13, Tryd.ntmps13
      go_wp2_with (first
        | (go_at_call 49; refine (l01Printable_any _ _ _ HZ.out).mono ?_; rintro e w1 ⟨rfl, rfl⟩; rw [HP.out])
        | (go_at_call 50; refine (HS.out _).mono ?_; rintro e w1 ⟨A, c, rfl, hr, hb⟩))
      refine bodyPost_ret (v := .tuple #[.slice A (scanT s 0 []).1.length c, .int .i64 ((scanT s 0 []).2.1 : Int), .int .i64 (scanT s 0 []).2.2]) (by simp [results, Tryd.results13, go_sem]) rfl ?_
      exact ⟨A, c, rfl, hr, hb⟩
  · have i0 : decide (4000 < (s.size : Int)) = true := decide_eq_true (by omega)
    rw [tokensT_no (fun h2 => h h2.1)]
    clear h
    go_enter Tryd.func13, Tryd.ntmps13
    go_wp2_with fail
    refine bodyPost_ret (v := .tuple #[.slice (some ⟨W.heap.size, 0, none⟩) 0 0, .int .i64 0, .int .i64 1]) (by simp [results, Tryd.results13, go_sem]) rfl ?_
    exact retsT_nil (n := 0) ((Below.refl _ _).alloc (Nat.le_refl _) _)
end Go.Proofs.YtdfikepfjdoooaaDoor
