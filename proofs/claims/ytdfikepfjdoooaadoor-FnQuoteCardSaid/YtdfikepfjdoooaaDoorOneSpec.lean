/- Contract of the model's reader of one token. No condition. -/
import Derived.Test.YtdfikepfjdoooaaDoorScanPlain
import Derived.Laws.ResultCell
namespace Go.Proofs.YtdfikepfjdoooaaDoor
open Go Go.RowKit

/-- A token read and where it ends. -/
def OneRes (k n : Int) (t : ByteArray) (z : Int) : Ending := .returned (.tuple #[.agg #[.int .i64 k, .int .i64 n, .string t, .bool false, .bool false], .int .i64 z])
/-- What l02One answers. -/
def oneE (s : ByteArray) (k : Nat) : Ending := match oneT s k with | some (a, n, t, k') => OneRes a n t k' | none => OneRes 0 0 ⟨#[]⟩ (-1)
theorem oneE_some {s : ByteArray} {k k' : Nat} {a n : Int} {t : ByteArray} (h : oneT s k = some (a, n, t, k')) : oneE s k = OneRes a n t k' := by unfold oneE; rw [h]
theorem oneE_none {s : ByteArray} {k : Nat} (h : oneT s k = none) : oneE s k = OneRes 0 0 ⟨#[]⟩ (-1) := by unfold oneE; rw [h]

theorem not_byte {c q : Int} (h : cls q ≠ cls c) : (c == q) = false := by
  have : ¬ c = q := fun e => h (by rw [e])
  simpa using this

set_option maxHeartbeats 800000 in
set_option maxRecDepth 100000 in
theorem l02One_letter (s : ByteArray) (k : Nat) (W : World) (hk : k < s.size) (hl : s.size ≤ 1048576) (hv : cls (PlainAid.bt s k) = 1) :
    Calls Tryd.prog 89 #[.string s, .int .i64 k] W fun e w' => e = oneE s k ∧ Below W.heap.size W w' := by
  have hb := PlainAid.get_bt s
  have b0 := PlainAid.bt_nonneg s k
  have b1 := PlainAid.bt_le s k
  have i0 : (0 : Int) ≤ (k : Int) := by omega
  have i1 : (k : Int) < (s.size : Int) := by omega
  have HL : Hid (letterB (PlainAid.bt s k) = true) := by show _ = _; unfold letterB; rw [hv]; rfl
  have HZ : Hid (s.size ≤ maxLen) := by show _ ≤ _; unfold maxLen; omega
  have HK : Hid (k ≤ s.size) := Nat.le_of_lt hk
  have HN : Hid (nameEnd s k = runEnd contB s k) := nameEnd_yes hk HL.out
  have h5 := runEnd_le (p := contB) (Nat.le_of_lt hk)
  have h6 := runEnd_ge contB s k
  have HE : Hid (oneE s k = if runEnd contB s k - k ≤ 12 then OneRes 1 0 (s.extract k (runEnd contB s k)) (runEnd contB s k : Nat) else OneRes 0 0 ⟨#[]⟩ (-1)) := by
    show _ = _
    by_cases h : runEnd contB s k - k ≤ 12
    · rw [if_pos h]; exact oneE_some (by unfold oneT; rw [if_pos hv, if_pos h])
    · rw [if_neg h]; exact oneE_none (by unfold oneT; rw [if_pos hv, if_neg h])
  rw [HE.out]
  generalize runEnd contB s k = m at HN h5 h6 ⊢
  have i2 : (k : Int) ≤ (m : Int) := by omega
  have i3 : (m : Int) ≤ (s.size : Int) := by omega
  clear hv HE
  by_cases h : m - k ≤ 12
  · rw [if_pos h]
    have i4 : decide (12 < (m : Int) - (k : Int)) = false := by simp; omega
    clear h
    go_enter Tryd.func89, Tryd.ntmps89
    go_wp2_with (first | (go_at_call 110; refine (l02Letter_any _ _ b0 b1).mono ?_; rintro e w' ⟨rfl, rfl⟩; rw [HL.out]) | (go_at_call 109; refine (l02NameEnd_any _ _ _ HZ.out HK.out).mono ?_; rintro e w' ⟨rfl, rfl⟩; rw [HN.out]))
    have hF := Five.new W (.int .i64 1) (.int .i64 0) (.string (s.extract k m)) (.bool false) (.bool false)
    have hG : Below W.heap.size W (W.alloc (.cells #[.int .i64 1, .int .i64 0, .string (s.extract k m), .bool false, .bool false] 46)) := (Below.refl W.heap.size W).alloc (Nat.le_refl _) _
    change bodyPost _ _ _ _ _ (W.alloc (.cells #[.int .i64 1, .int .i64 0, .string (s.extract k m), .bool false, .bool false] 46))
    generalize W.alloc (.cells #[.int .i64 1, .int .i64 0, .string (s.extract k m), .bool false, .bool false] 46) = w3 at hF hG ⊢
    obtain ⟨c0, c1, c2, c3, c4⟩ := hF.c
    exact bodyPost_ret (v := .tuple #[.agg #[.int .i64 1, .int .i64 0, .string (s.extract k m), .bool false, .bool false], .int .i64 (m : Int)]) (by rw [results_cell_tmp rfl]; go_simp) rfl ⟨rfl, hG⟩
  · rw [if_neg h]
    have i4 : decide (12 < (m : Int) - (k : Int)) = true := by simp; omega
    clear h
    go_enter Tryd.func89, Tryd.ntmps89
    go_wp2_with (first | (go_at_call 110; refine (l02Letter_any _ _ b0 b1).mono ?_; rintro e w' ⟨rfl, rfl⟩; rw [HL.out]) | (go_at_call 109; refine (l02NameEnd_any _ _ _ HZ.out HK.out).mono ?_; rintro e w' ⟨rfl, rfl⟩; rw [HN.out]))
    have hF := Five.new W (.int .i64 0) (.int .i64 0) (.string ⟨#[]⟩) (.bool false) (.bool false)
    have hG : Below W.heap.size W (W.alloc (.cells #[.int .i64 0, .int .i64 0, .string ⟨#[]⟩, .bool false, .bool false] 46)) := (Below.refl W.heap.size W).alloc (Nat.le_refl _) _
    change bodyPost _ _ _ _ _ (W.alloc (.cells #[.int .i64 0, .int .i64 0, .string ⟨#[]⟩, .bool false, .bool false] 46))
    generalize W.alloc (.cells #[.int .i64 0, .int .i64 0, .string ⟨#[]⟩, .bool false, .bool false] 46) = w3 at hF hG ⊢
    obtain ⟨c0, c1, c2, c3, c4⟩ := hF.c
    exact bodyPost_ret (v := .tuple #[.agg #[.int .i64 0, .int .i64 0, .string ⟨#[]⟩, .bool false, .bool false], .int .i64 (-1)]) (by rw [results_cell_tmp rfl]; go_simp) rfl ⟨rfl, hG⟩

set_option maxHeartbeats 800000 in
set_option maxRecDepth 100000 in
theorem l02One_op (s : ByteArray) (k : Nat) (W : World) (hk : k < s.size) (hl : s.size ≤ 1048576) (hv : cls (PlainAid.bt s k) = 4) :
    Calls Tryd.prog 89 #[.string s, .int .i64 k] W fun e w' => e = oneE s k ∧ Below W.heap.size W w' := by
  have hb := PlainAid.get_bt s
  have b0 := PlainAid.bt_nonneg s k
  have b1 := PlainAid.bt_le s k
  have i0 : (0 : Int) ≤ (k : Int) := by omega
  have i1 : (k : Int) < (s.size : Int) := by omega
  have HL : Hid (letterB (PlainAid.bt s k) = false) := by show _ = _; unfold letterB; rw [hv]; rfl
  have HD : Hid (digitB (PlainAid.bt s k) = false) := by show _ = _; unfold digitB; rw [hv]; rfl
  have HO : Hid (opB (PlainAid.bt s k) = true) := by show _ = _; unfold opB; rw [hv]; rfl
  have d1 : (PlainAid.bt s k == 39) = false := not_byte (by rw [hv]; decide +kernel)
  have d2 : (PlainAid.bt s k == 34) = false := not_byte (by rw [hv]; decide +kernel)
  have HE : Hid (oneE s k = OneRes 4 0 (s.extract k (k + 1)) (k + 1 : Nat)) := oneE_some (by unfold oneT; rw [if_neg (by rw [hv]; decide), if_neg (by rw [hv]; decide), if_neg (by rw [hv]; decide), if_pos hv])
  have i2 : (k : Int) + 1 ≤ (s.size : Int) := by omega
  have i5 : ((k : Int) + 1).toNat = k + 1 := by omega
  have i6 : (k : Int) ≤ (k : Int) + 1 := by omega
  rw [HE.out]
  clear hv HE
  go_enter Tryd.func89, Tryd.ntmps89
  go_wp2_with (first | (go_at_call 110; refine (l02Letter_any _ _ b0 b1).mono ?_; rintro e w' ⟨rfl, rfl⟩; rw [HL.out]) | (go_at_call 111; refine (l02Digit_any _ _ b0 b1).mono ?_; rintro e w' ⟨rfl, rfl⟩; rw [HD.out]) | (go_at_call 112; refine (l02Operator_any _ _ b0 b1).mono ?_; rintro e w' ⟨rfl, rfl⟩; rw [HO.out]))
  have hF := Five.new W (.int .i64 4) (.int .i64 0) (.string (s.extract k (k + 1))) (.bool false) (.bool false)
  have hG : Below W.heap.size W (W.alloc (.cells #[.int .i64 4, .int .i64 0, .string (s.extract k (k + 1)), .bool false, .bool false] 46)) := (Below.refl W.heap.size W).alloc (Nat.le_refl _) _
  change bodyPost _ _ _ _ _ (W.alloc (.cells #[.int .i64 4, .int .i64 0, .string (s.extract k (k + 1)), .bool false, .bool false] 46))
  generalize W.alloc (.cells #[.int .i64 4, .int .i64 0, .string (s.extract k (k + 1)), .bool false, .bool false] 46) = w3 at hF hG ⊢
  obtain ⟨c0, c1, c2, c3, c4⟩ := hF.c
  exact bodyPost_ret (v := .tuple #[.agg #[.int .i64 4, .int .i64 0, .string (s.extract k (k + 1)), .bool false, .bool false], .int .i64 ((k + 1 : Nat) : Int)]) (by rw [results_cell_tmp rfl]; go_simp) rfl ⟨rfl, hG⟩
end Go.Proofs.YtdfikepfjdoooaaDoor
