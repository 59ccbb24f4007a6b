/- Contracts: l11Word, l11Form of the model. No condition. -/
import Derived.Test.YtjeiiljdhnmofaaDoorPtPlain
namespace Go.Proofs.YtjeiiljdhnmofaaDoor
open Go Go.RowKit

def argsL : List (List UInt8) := [[], [115], [115], [115], [115], [115], [110], [110], [110], [110], [110], [], [], [], [], [], [], [], [112, 112], [112, 112], [112], [112, 120], [112, 120], [120], [120]]
def argsK (j : Nat) : ByteArray := ⟨((argsL[j]?).getD []).toArray⟩
/-- What the parentheses have besides patterns. -/
def restK (j : Nat) : ByteArray := if j ≤ 5 then ⟨#[115]⟩ else if j ≤ 10 then ⟨#[110]⟩ else if 21 ≤ j then ⟨#[120]⟩ else ⟨#[]⟩

theorem l11Word_2 (W : World) : Calls Tryd.prog 87 #[.int .i64 2] W fun e w' => e = .returned (.tuple #[.string (wordK 2), .string ⟨#[115]⟩]) ∧ W = w' := by
  go_enter Tryd.func87, Tryd.ntmps87
  go_wp2
  exact bodyPost_ret (v := .tuple #[.string (wordK 2), .string ⟨#[115]⟩]) (by simp [results, Tryd.results87, go_sem]; rfl) rfl ⟨rfl, rfl⟩
theorem l11Word_3 (W : World) : Calls Tryd.prog 87 #[.int .i64 3] W fun e w' => e = .returned (.tuple #[.string (wordK 3), .string ⟨#[115]⟩]) ∧ W = w' := by
  go_enter Tryd.func87, Tryd.ntmps87
  go_wp2
  exact bodyPost_ret (v := .tuple #[.string (wordK 3), .string ⟨#[115]⟩]) (by simp [results, Tryd.results87, go_sem]; rfl) rfl ⟨rfl, rfl⟩
theorem l11Word_4 (W : World) : Calls Tryd.prog 87 #[.int .i64 4] W fun e w' => e = .returned (.tuple #[.string (wordK 4), .string ⟨#[115]⟩]) ∧ W = w' := by
  go_enter Tryd.func87, Tryd.ntmps87
  go_wp2
  exact bodyPost_ret (v := .tuple #[.string (wordK 4), .string ⟨#[115]⟩]) (by simp [results, Tryd.results87, go_sem]; rfl) rfl ⟨rfl, rfl⟩
theorem l11Word_5 (W : World) : Calls Tryd.prog 87 #[.int .i64 5] W fun e w' => e = .returned (.tuple #[.string (wordK 5), .string ⟨#[115]⟩]) ∧ W = w' := by
  go_enter Tryd.func87, Tryd.ntmps87
  go_wp2
  exact bodyPost_ret (v := .tuple #[.string (wordK 5), .string ⟨#[115]⟩]) (by simp [results, Tryd.results87, go_sem]; rfl) rfl ⟨rfl, rfl⟩
theorem l11Word_6 (W : World) : Calls Tryd.prog 87 #[.int .i64 6] W fun e w' => e = .returned (.tuple #[.string (wordK 6), .string ⟨#[110]⟩]) ∧ W = w' := by
  go_enter Tryd.func87, Tryd.ntmps87
  go_wp2
  exact bodyPost_ret (v := .tuple #[.string (wordK 6), .string ⟨#[110]⟩]) (by simp [results, Tryd.results87, go_sem]; rfl) rfl ⟨rfl, rfl⟩
theorem l11Word_7 (W : World) : Calls Tryd.prog 87 #[.int .i64 7] W fun e w' => e = .returned (.tuple #[.string (wordK 7), .string ⟨#[110]⟩]) ∧ W = w' := by
  go_enter Tryd.func87, Tryd.ntmps87
  go_wp2
  exact bodyPost_ret (v := .tuple #[.string (wordK 7), .string ⟨#[110]⟩]) (by simp [results, Tryd.results87, go_sem]; rfl) rfl ⟨rfl, rfl⟩
theorem l11Word_8 (W : World) : Calls Tryd.prog 87 #[.int .i64 8] W fun e w' => e = .returned (.tuple #[.string (wordK 8), .string ⟨#[110]⟩]) ∧ W = w' := by
  go_enter Tryd.func87, Tryd.ntmps87
  go_wp2
  exact bodyPost_ret (v := .tuple #[.string (wordK 8), .string ⟨#[110]⟩]) (by simp [results, Tryd.results87, go_sem]; rfl) rfl ⟨rfl, rfl⟩
theorem l11Word_9 (W : World) : Calls Tryd.prog 87 #[.int .i64 9] W fun e w' => e = .returned (.tuple #[.string (wordK 9), .string ⟨#[110]⟩]) ∧ W = w' := by
  go_enter Tryd.func87, Tryd.ntmps87
  go_wp2
  exact bodyPost_ret (v := .tuple #[.string (wordK 9), .string ⟨#[110]⟩]) (by simp [results, Tryd.results87, go_sem]; rfl) rfl ⟨rfl, rfl⟩
theorem l11Word_10 (W : World) : Calls Tryd.prog 87 #[.int .i64 10] W fun e w' => e = .returned (.tuple #[.string (wordK 10), .string ⟨#[110]⟩]) ∧ W = w' := by
  go_enter Tryd.func87, Tryd.ntmps87
  go_wp2
  exact bodyPost_ret (v := .tuple #[.string (wordK 10), .string ⟨#[110]⟩]) (by simp [results, Tryd.results87, go_sem]; rfl) rfl ⟨rfl, rfl⟩
theorem l11Word_11 (W : World) : Calls Tryd.prog 87 #[.int .i64 11] W fun e w' => e = .returned (.tuple #[.string (wordK 11), .string ⟨#[]⟩]) ∧ W = w' := by
  go_enter Tryd.func87, Tryd.ntmps87
  go_wp2
  exact bodyPost_ret (v := .tuple #[.string (wordK 11), .string ⟨#[]⟩]) (by simp [results, Tryd.results87, go_sem]; rfl) rfl ⟨rfl, rfl⟩
theorem l11Word_12 (W : World) : Calls Tryd.prog 87 #[.int .i64 12] W fun e w' => e = .returned (.tuple #[.string (wordK 12), .string ⟨#[]⟩]) ∧ W = w' := by
  go_enter Tryd.func87, Tryd.ntmps87
  go_wp2
  exact bodyPost_ret (v := .tuple #[.string (wordK 12), .string ⟨#[]⟩]) (by simp [results, Tryd.results87, go_sem]; rfl) rfl ⟨rfl, rfl⟩
theorem l11Word_13 (W : World) : Calls Tryd.prog 87 #[.int .i64 13] W fun e w' => e = .returned (.tuple #[.string (wordK 13), .string ⟨#[]⟩]) ∧ W = w' := by
  go_enter Tryd.func87, Tryd.ntmps87
  go_wp2
  exact bodyPost_ret (v := .tuple #[.string (wordK 13), .string ⟨#[]⟩]) (by simp [results, Tryd.results87, go_sem]; rfl) rfl ⟨rfl, rfl⟩
theorem l11Word_14 (W : World) : Calls Tryd.prog 87 #[.int .i64 14] W fun e w' => e = .returned (.tuple #[.string (wordK 14), .string ⟨#[]⟩]) ∧ W = w' := by
  go_enter Tryd.func87, Tryd.ntmps87
  go_wp2
  exact bodyPost_ret (v := .tuple #[.string (wordK 14), .string ⟨#[]⟩]) (by simp [results, Tryd.results87, go_sem]; rfl) rfl ⟨rfl, rfl⟩
theorem l11Word_15 (W : World) : Calls Tryd.prog 87 #[.int .i64 15] W fun e w' => e = .returned (.tuple #[.string (wordK 15), .string ⟨#[]⟩]) ∧ W = w' := by
  go_enter Tryd.func87, Tryd.ntmps87
  go_wp2
  exact bodyPost_ret (v := .tuple #[.string (wordK 15), .string ⟨#[]⟩]) (by simp [results, Tryd.results87, go_sem]; rfl) rfl ⟨rfl, rfl⟩
theorem l11Word_16 (W : World) : Calls Tryd.prog 87 #[.int .i64 16] W fun e w' => e = .returned (.tuple #[.string (wordK 16), .string ⟨#[]⟩]) ∧ W = w' := by
  go_enter Tryd.func87, Tryd.ntmps87
  go_wp2
  exact bodyPost_ret (v := .tuple #[.string (wordK 16), .string ⟨#[]⟩]) (by simp [results, Tryd.results87, go_sem]; rfl) rfl ⟨rfl, rfl⟩
theorem l11Word_17 (W : World) : Calls Tryd.prog 87 #[.int .i64 17] W fun e w' => e = .returned (.tuple #[.string (wordK 17), .string ⟨#[]⟩]) ∧ W = w' := by
  go_enter Tryd.func87, Tryd.ntmps87
  go_wp2
  exact bodyPost_ret (v := .tuple #[.string (wordK 17), .string ⟨#[]⟩]) (by simp [results, Tryd.results87, go_sem]; rfl) rfl ⟨rfl, rfl⟩
theorem l11Word_18 (W : World) : Calls Tryd.prog 87 #[.int .i64 18] W fun e w' => e = .returned (.tuple #[.string (wordK 18), .string ⟨#[112, 112]⟩]) ∧ W = w' := by
  go_enter Tryd.func87, Tryd.ntmps87
  go_wp2
  exact bodyPost_ret (v := .tuple #[.string (wordK 18), .string ⟨#[112, 112]⟩]) (by simp [results, Tryd.results87, go_sem]; rfl) rfl ⟨rfl, rfl⟩
theorem l11Word_19 (W : World) : Calls Tryd.prog 87 #[.int .i64 19] W fun e w' => e = .returned (.tuple #[.string (wordK 19), .string ⟨#[112, 112]⟩]) ∧ W = w' := by
  go_enter Tryd.func87, Tryd.ntmps87
  go_wp2
  exact bodyPost_ret (v := .tuple #[.string (wordK 19), .string ⟨#[112, 112]⟩]) (by simp [results, Tryd.results87, go_sem]; rfl) rfl ⟨rfl, rfl⟩
theorem l11Word_20 (W : World) : Calls Tryd.prog 87 #[.int .i64 20] W fun e w' => e = .returned (.tuple #[.string (wordK 20), .string ⟨#[112]⟩]) ∧ W = w' := by
  go_enter Tryd.func87, Tryd.ntmps87
  go_wp2
  exact bodyPost_ret (v := .tuple #[.string (wordK 20), .string ⟨#[112]⟩]) (by simp [results, Tryd.results87, go_sem]; rfl) rfl ⟨rfl, rfl⟩
theorem l11Word_21 (W : World) : Calls Tryd.prog 87 #[.int .i64 21] W fun e w' => e = .returned (.tuple #[.string (wordK 21), .string ⟨#[112, 120]⟩]) ∧ W = w' := by
  go_enter Tryd.func87, Tryd.ntmps87
  go_wp2
  exact bodyPost_ret (v := .tuple #[.string (wordK 21), .string ⟨#[112, 120]⟩]) (by simp [results, Tryd.results87, go_sem]; rfl) rfl ⟨rfl, rfl⟩
theorem l11Word_22 (W : World) : Calls Tryd.prog 87 #[.int .i64 22] W fun e w' => e = .returned (.tuple #[.string (wordK 22), .string ⟨#[112, 120]⟩]) ∧ W = w' := by
  go_enter Tryd.func87, Tryd.ntmps87
  go_wp2
  exact bodyPost_ret (v := .tuple #[.string (wordK 22), .string ⟨#[112, 120]⟩]) (by simp [results, Tryd.results87, go_sem]; rfl) rfl ⟨rfl, rfl⟩
theorem l11Word_23 (W : World) : Calls Tryd.prog 87 #[.int .i64 23] W fun e w' => e = .returned (.tuple #[.string (wordK 23), .string ⟨#[120]⟩]) ∧ W = w' := by
  go_enter Tryd.func87, Tryd.ntmps87
  go_wp2
  exact bodyPost_ret (v := .tuple #[.string (wordK 23), .string ⟨#[120]⟩]) (by simp [results, Tryd.results87, go_sem]; rfl) rfl ⟨rfl, rfl⟩
theorem l11Word_24 (W : World) : Calls Tryd.prog 87 #[.int .i64 24] W fun e w' => e = .returned (.tuple #[.string (wordK 24), .string ⟨#[120]⟩]) ∧ W = w' := by
  go_enter Tryd.func87, Tryd.ntmps87
  go_wp2
  exact bodyPost_ret (v := .tuple #[.string (wordK 24), .string ⟨#[120]⟩]) (by simp [results, Tryd.results87, go_sem]; rfl) rfl ⟨rfl, rfl⟩
theorem l11Form_1 (W : World) : Calls Tryd.prog 73 #[.int .i64 1] W fun e w' => e = .returned (.tuple #[.int .i64 0, .string ⟨#[115]⟩]) ∧ W = w' := by
  go_enter Tryd.func73, Tryd.ntmps73
  go_wp2
  exact bodyPost_ret (v := .tuple #[.int .i64 0, .string ⟨#[115]⟩]) (by simp [results, Tryd.results73, go_sem]) rfl ⟨rfl, rfl⟩
set_option maxHeartbeats 1000000 in
theorem l11Form_2 (W : World) : Calls Tryd.prog 73 #[.int .i64 2] W fun e w' => e = .returned (.tuple #[.int .i64 0, .string ⟨#[115]⟩]) ∧ W = w' := by
  go_enter Tryd.func73, Tryd.ntmps73
  go_wp2_with (go_at_call 87; refine (l11Word_2 _).mono ?_; rintro e w1 ⟨rfl, rfl⟩)
  go_loopw [6, 7, 8] (fun q r i wr => W = wr ∧ ((i = .int .i64 0 ∧ q = .int .i64 0 ∧ r = .string ⟨#[]⟩) ∨ (i = .int .i64 1 ∧ q = .int .i64 0 ∧ r = .string ⟨#[115]⟩))) (fun _ _ i _ => 1 - (intOf i).toNat)
  case atStart => exact ⟨rfl, .inl ⟨rfl, rfl, rfl⟩⟩
  case round =>
    obtain ⟨rfl, ⟨rfl, rfl, rfl⟩ | ⟨rfl, rfl, rfl⟩⟩ := hrel
    · go_wp2_with fail
      go_roundw
      case rel => first | (simp; done) | exact ⟨trivial, .inr (⟨rfl, rfl, rfl⟩)⟩ | exact ⟨rfl, .inr (⟨rfl, rfl, rfl⟩)⟩ | (refine ⟨trivial, .inr (⟨?_, ?_, ?_⟩)⟩ <;> rfl)
      case measure => simp [intOf]
    · go_wp2_with fail
      exact bodyPost_ret (v := .tuple #[.int .i64 0, .string ⟨#[115]⟩]) (by simp [results, Tryd.results73, go_sem]) rfl ⟨rfl, rfl⟩
set_option maxHeartbeats 1000000 in
theorem l11Form_3 (W : World) : Calls Tryd.prog 73 #[.int .i64 3] W fun e w' => e = .returned (.tuple #[.int .i64 0, .string ⟨#[115]⟩]) ∧ W = w' := by
  go_enter Tryd.func73, Tryd.ntmps73
  go_wp2_with (go_at_call 87; refine (l11Word_3 _).mono ?_; rintro e w1 ⟨rfl, rfl⟩)
  go_loopw [6, 7, 8] (fun q r i wr => W = wr ∧ ((i = .int .i64 0 ∧ q = .int .i64 0 ∧ r = .string ⟨#[]⟩) ∨ (i = .int .i64 1 ∧ q = .int .i64 0 ∧ r = .string ⟨#[115]⟩))) (fun _ _ i _ => 1 - (intOf i).toNat)
  case atStart => exact ⟨rfl, .inl ⟨rfl, rfl, rfl⟩⟩
  case round =>
    obtain ⟨rfl, ⟨rfl, rfl, rfl⟩ | ⟨rfl, rfl, rfl⟩⟩ := hrel
    · go_wp2_with fail
      go_roundw
      case rel => first | (simp; done) | exact ⟨trivial, .inr (⟨rfl, rfl, rfl⟩)⟩ | exact ⟨rfl, .inr (⟨rfl, rfl, rfl⟩)⟩ | (refine ⟨trivial, .inr (⟨?_, ?_, ?_⟩)⟩ <;> rfl)
      case measure => simp [intOf]
    · go_wp2_with fail
      exact bodyPost_ret (v := .tuple #[.int .i64 0, .string ⟨#[115]⟩]) (by simp [results, Tryd.results73, go_sem]) rfl ⟨rfl, rfl⟩
set_option maxHeartbeats 1000000 in
theorem l11Form_4 (W : World) : Calls Tryd.prog 73 #[.int .i64 4] W fun e w' => e = .returned (.tuple #[.int .i64 0, .string ⟨#[115]⟩]) ∧ W = w' := by
  go_enter Tryd.func73, Tryd.ntmps73
  go_wp2_with (go_at_call 87; refine (l11Word_4 _).mono ?_; rintro e w1 ⟨rfl, rfl⟩)
  go_loopw [6, 7, 8] (fun q r i wr => W = wr ∧ ((i = .int .i64 0 ∧ q = .int .i64 0 ∧ r = .string ⟨#[]⟩) ∨ (i = .int .i64 1 ∧ q = .int .i64 0 ∧ r = .string ⟨#[115]⟩))) (fun _ _ i _ => 1 - (intOf i).toNat)
  case atStart => exact ⟨rfl, .inl ⟨rfl, rfl, rfl⟩⟩
  case round =>
    obtain ⟨rfl, ⟨rfl, rfl, rfl⟩ | ⟨rfl, rfl, rfl⟩⟩ := hrel
    · go_wp2_with fail
      go_roundw
      case rel => first | (simp; done) | exact ⟨trivial, .inr (⟨rfl, rfl, rfl⟩)⟩ | exact ⟨rfl, .inr (⟨rfl, rfl, rfl⟩)⟩ | (refine ⟨trivial, .inr (⟨?_, ?_, ?_⟩)⟩ <;> rfl)
      case measure => simp [intOf]
    · go_wp2_with fail
      exact bodyPost_ret (v := .tuple #[.int .i64 0, .string ⟨#[115]⟩]) (by simp [results, Tryd.results73, go_sem]) rfl ⟨rfl, rfl⟩
set_option maxHeartbeats 1000000 in
theorem l11Form_5 (W : World) : Calls Tryd.prog 73 #[.int .i64 5] W fun e w' => e = .returned (.tuple #[.int .i64 0, .string ⟨#[115]⟩]) ∧ W = w' := by
  go_enter Tryd.func73, Tryd.ntmps73
  go_wp2_with (go_at_call 87; refine (l11Word_5 _).mono ?_; rintro e w1 ⟨rfl, rfl⟩)
  go_loopw [6, 7, 8] (fun q r i wr => W = wr ∧ ((i = .int .i64 0 ∧ q = .int .i64 0 ∧ r = .string ⟨#[]⟩) ∨ (i = .int .i64 1 ∧ q = .int .i64 0 ∧ r = .string ⟨#[115]⟩))) (fun _ _ i _ => 1 - (intOf i).toNat)
  case atStart => exact ⟨rfl, .inl ⟨rfl, rfl, rfl⟩⟩
  case round =>
    obtain ⟨rfl, ⟨rfl, rfl, rfl⟩ | ⟨rfl, rfl, rfl⟩⟩ := hrel
    · go_wp2_with fail
      go_roundw
      case rel => first | (simp; done) | exact ⟨trivial, .inr (⟨rfl, rfl, rfl⟩)⟩ | exact ⟨rfl, .inr (⟨rfl, rfl, rfl⟩)⟩ | (refine ⟨trivial, .inr (⟨?_, ?_, ?_⟩)⟩ <;> rfl)
      case measure => simp [intOf]
    · go_wp2_with fail
      exact bodyPost_ret (v := .tuple #[.int .i64 0, .string ⟨#[115]⟩]) (by simp [results, Tryd.results73, go_sem]) rfl ⟨rfl, rfl⟩
set_option maxHeartbeats 1000000 in
theorem l11Form_6 (W : World) : Calls Tryd.prog 73 #[.int .i64 6] W fun e w' => e = .returned (.tuple #[.int .i64 0, .string ⟨#[110]⟩]) ∧ W = w' := by
  go_enter Tryd.func73, Tryd.ntmps73
  go_wp2_with (go_at_call 87; refine (l11Word_6 _).mono ?_; rintro e w1 ⟨rfl, rfl⟩)
  go_loopw [6, 7, 8] (fun q r i wr => W = wr ∧ ((i = .int .i64 0 ∧ q = .int .i64 0 ∧ r = .string ⟨#[]⟩) ∨ (i = .int .i64 1 ∧ q = .int .i64 0 ∧ r = .string ⟨#[110]⟩))) (fun _ _ i _ => 1 - (intOf i).toNat)
  case atStart => exact ⟨rfl, .inl ⟨rfl, rfl, rfl⟩⟩
  case round =>
    obtain ⟨rfl, ⟨rfl, rfl, rfl⟩ | ⟨rfl, rfl, rfl⟩⟩ := hrel
    · go_wp2_with fail
      go_roundw
      case rel => first | (simp; done) | exact ⟨trivial, .inr (⟨rfl, rfl, rfl⟩)⟩ | exact ⟨rfl, .inr (⟨rfl, rfl, rfl⟩)⟩ | (refine ⟨trivial, .inr (⟨?_, ?_, ?_⟩)⟩ <;> rfl)
      case measure => simp [intOf]
    · go_wp2_with fail
      exact bodyPost_ret (v := .tuple #[.int .i64 0, .string ⟨#[110]⟩]) (by simp [results, Tryd.results73, go_sem]) rfl ⟨rfl, rfl⟩
set_option maxHeartbeats 1000000 in
theorem l11Form_7 (W : World) : Calls Tryd.prog 73 #[.int .i64 7] W fun e w' => e = .returned (.tuple #[.int .i64 0, .string ⟨#[110]⟩]) ∧ W = w' := by
  go_enter Tryd.func73, Tryd.ntmps73
  go_wp2_with (go_at_call 87; refine (l11Word_7 _).mono ?_; rintro e w1 ⟨rfl, rfl⟩)
  go_loopw [6, 7, 8] (fun q r i wr => W = wr ∧ ((i = .int .i64 0 ∧ q = .int .i64 0 ∧ r = .string ⟨#[]⟩) ∨ (i = .int .i64 1 ∧ q = .int .i64 0 ∧ r = .string ⟨#[110]⟩))) (fun _ _ i _ => 1 - (intOf i).toNat)
  case atStart => exact ⟨rfl, .inl ⟨rfl, rfl, rfl⟩⟩
  case round =>
    obtain ⟨rfl, ⟨rfl, rfl, rfl⟩ | ⟨rfl, rfl, rfl⟩⟩ := hrel
    · go_wp2_with fail
      go_roundw
      case rel => first | (simp; done) | exact ⟨trivial, .inr (⟨rfl, rfl, rfl⟩)⟩ | exact ⟨rfl, .inr (⟨rfl, rfl, rfl⟩)⟩ | (refine ⟨trivial, .inr (⟨?_, ?_, ?_⟩)⟩ <;> rfl)
      case measure => simp [intOf]
    · go_wp2_with fail
      exact bodyPost_ret (v := .tuple #[.int .i64 0, .string ⟨#[110]⟩]) (by simp [results, Tryd.results73, go_sem]) rfl ⟨rfl, rfl⟩
set_option maxHeartbeats 1000000 in
theorem l11Form_8 (W : World) : Calls Tryd.prog 73 #[.int .i64 8] W fun e w' => e = .returned (.tuple #[.int .i64 0, .string ⟨#[110]⟩]) ∧ W = w' := by
  go_enter Tryd.func73, Tryd.ntmps73
  go_wp2_with (go_at_call 87; refine (l11Word_8 _).mono ?_; rintro e w1 ⟨rfl, rfl⟩)
  go_loopw [6, 7, 8] (fun q r i wr => W = wr ∧ ((i = .int .i64 0 ∧ q = .int .i64 0 ∧ r = .string ⟨#[]⟩) ∨ (i = .int .i64 1 ∧ q = .int .i64 0 ∧ r = .string ⟨#[110]⟩))) (fun _ _ i _ => 1 - (intOf i).toNat)
  case atStart => exact ⟨rfl, .inl ⟨rfl, rfl, rfl⟩⟩
  case round =>
    obtain ⟨rfl, ⟨rfl, rfl, rfl⟩ | ⟨rfl, rfl, rfl⟩⟩ := hrel
    · go_wp2_with fail
      go_roundw
      case rel => first | (simp; done) | exact ⟨trivial, .inr (⟨rfl, rfl, rfl⟩)⟩ | exact ⟨rfl, .inr (⟨rfl, rfl, rfl⟩)⟩ | (refine ⟨trivial, .inr (⟨?_, ?_, ?_⟩)⟩ <;> rfl)
      case measure => simp [intOf]
    · go_wp2_with fail
      exact bodyPost_ret (v := .tuple #[.int .i64 0, .string ⟨#[110]⟩]) (by simp [results, Tryd.results73, go_sem]) rfl ⟨rfl, rfl⟩
set_option maxHeartbeats 1000000 in
theorem l11Form_9 (W : World) : Calls Tryd.prog 73 #[.int .i64 9] W fun e w' => e = .returned (.tuple #[.int .i64 0, .string ⟨#[110]⟩]) ∧ W = w' := by
  go_enter Tryd.func73, Tryd.ntmps73
  go_wp2_with (go_at_call 87; refine (l11Word_9 _).mono ?_; rintro e w1 ⟨rfl, rfl⟩)
  go_loopw [6, 7, 8] (fun q r i wr => W = wr ∧ ((i = .int .i64 0 ∧ q = .int .i64 0 ∧ r = .string ⟨#[]⟩) ∨ (i = .int .i64 1 ∧ q = .int .i64 0 ∧ r = .string ⟨#[110]⟩))) (fun _ _ i _ => 1 - (intOf i).toNat)
  case atStart => exact ⟨rfl, .inl ⟨rfl, rfl, rfl⟩⟩
  case round =>
    obtain ⟨rfl, ⟨rfl, rfl, rfl⟩ | ⟨rfl, rfl, rfl⟩⟩ := hrel
    · go_wp2_with fail
      go_roundw
      case rel => first | (simp; done) | exact ⟨trivial, .inr (⟨rfl, rfl, rfl⟩)⟩ | exact ⟨rfl, .inr (⟨rfl, rfl, rfl⟩)⟩ | (refine ⟨trivial, .inr (⟨?_, ?_, ?_⟩)⟩ <;> rfl)
      case measure => simp [intOf]
    · go_wp2_with fail
      exact bodyPost_ret (v := .tuple #[.int .i64 0, .string ⟨#[110]⟩]) (by simp [results, Tryd.results73, go_sem]) rfl ⟨rfl, rfl⟩
set_option maxHeartbeats 1000000 in
theorem l11Form_10 (W : World) : Calls Tryd.prog 73 #[.int .i64 10] W fun e w' => e = .returned (.tuple #[.int .i64 0, .string ⟨#[110]⟩]) ∧ W = w' := by
  go_enter Tryd.func73, Tryd.ntmps73
  go_wp2_with (go_at_call 87; refine (l11Word_10 _).mono ?_; rintro e w1 ⟨rfl, rfl⟩)
  go_loopw [6, 7, 8] (fun q r i wr => W = wr ∧ ((i = .int .i64 0 ∧ q = .int .i64 0 ∧ r = .string ⟨#[]⟩) ∨ (i = .int .i64 1 ∧ q = .int .i64 0 ∧ r = .string ⟨#[110]⟩))) (fun _ _ i _ => 1 - (intOf i).toNat)
  case atStart => exact ⟨rfl, .inl ⟨rfl, rfl, rfl⟩⟩
  case round =>
    obtain ⟨rfl, ⟨rfl, rfl, rfl⟩ | ⟨rfl, rfl, rfl⟩⟩ := hrel
    · go_wp2_with fail
      go_roundw
      case rel => first | (simp; done) | exact ⟨trivial, .inr (⟨rfl, rfl, rfl⟩)⟩ | exact ⟨rfl, .inr (⟨rfl, rfl, rfl⟩)⟩ | (refine ⟨trivial, .inr (⟨?_, ?_, ?_⟩)⟩ <;> rfl)
      case measure => simp [intOf]
    · go_wp2_with fail
      exact bodyPost_ret (v := .tuple #[.int .i64 0, .string ⟨#[110]⟩]) (by simp [results, Tryd.results73, go_sem]) rfl ⟨rfl, rfl⟩
set_option maxHeartbeats 1000000 in
theorem l11Form_11 (W : World) : Calls Tryd.prog 73 #[.int .i64 11] W fun e w' => e = .returned (.tuple #[.int .i64 0, .string ⟨#[]⟩]) ∧ W = w' := by
  go_enter Tryd.func73, Tryd.ntmps73
  go_wp2_with (go_at_call 87; refine (l11Word_11 _).mono ?_; rintro e w1 ⟨rfl, rfl⟩)
  go_loopw [6, 7, 8] (fun q r i wr => W = wr ∧ ((i = .int .i64 0 ∧ q = .int .i64 0 ∧ r = .string ⟨#[]⟩))) (fun _ _ i _ => 0 - (intOf i).toNat)
  case atStart => exact ⟨rfl, ⟨rfl, rfl, rfl⟩⟩
  case round =>
    obtain ⟨rfl, ⟨rfl, rfl, rfl⟩⟩ := hrel
    · go_wp2_with fail
      exact bodyPost_ret (v := .tuple #[.int .i64 0, .string ⟨#[]⟩]) (by simp [results, Tryd.results73, go_sem]) rfl ⟨rfl, rfl⟩
set_option maxHeartbeats 1000000 in
theorem l11Form_12 (W : World) : Calls Tryd.prog 73 #[.int .i64 12] W fun e w' => e = .returned (.tuple #[.int .i64 0, .string ⟨#[]⟩]) ∧ W = w' := by
  go_enter Tryd.func73, Tryd.ntmps73
  go_wp2_with (go_at_call 87; refine (l11Word_12 _).mono ?_; rintro e w1 ⟨rfl, rfl⟩)
  go_loopw [6, 7, 8] (fun q r i wr => W = wr ∧ ((i = .int .i64 0 ∧ q = .int .i64 0 ∧ r = .string ⟨#[]⟩))) (fun _ _ i _ => 0 - (intOf i).toNat)
  case atStart => exact ⟨rfl, ⟨rfl, rfl, rfl⟩⟩
  case round =>
    obtain ⟨rfl, ⟨rfl, rfl, rfl⟩⟩ := hrel
    · go_wp2_with fail
      exact bodyPost_ret (v := .tuple #[.int .i64 0, .string ⟨#[]⟩]) (by simp [results, Tryd.results73, go_sem]) rfl ⟨rfl, rfl⟩
set_option maxHeartbeats 1000000 in
theorem l11Form_13 (W : World) : Calls Tryd.prog 73 #[.int .i64 13] W fun e w' => e = .returned (.tuple #[.int .i64 0, .string ⟨#[]⟩]) ∧ W = w' := by
  go_enter Tryd.func73, Tryd.ntmps73
  go_wp2_with (go_at_call 87; refine (l11Word_13 _).mono ?_; rintro e w1 ⟨rfl, rfl⟩)
  go_loopw [6, 7, 8] (fun q r i wr => W = wr ∧ ((i = .int .i64 0 ∧ q = .int .i64 0 ∧ r = .string ⟨#[]⟩))) (fun _ _ i _ => 0 - (intOf i).toNat)
  case atStart => exact ⟨rfl, ⟨rfl, rfl, rfl⟩⟩
  case round =>
    obtain ⟨rfl, ⟨rfl, rfl, rfl⟩⟩ := hrel
    · go_wp2_with fail
      exact bodyPost_ret (v := .tuple #[.int .i64 0, .string ⟨#[]⟩]) (by simp [results, Tryd.results73, go_sem]) rfl ⟨rfl, rfl⟩
set_option maxHeartbeats 1000000 in
theorem l11Form_14 (W : World) : Calls Tryd.prog 73 #[.int .i64 14] W fun e w' => e = .returned (.tuple #[.int .i64 0, .string ⟨#[]⟩]) ∧ W = w' := by
  go_enter Tryd.func73, Tryd.ntmps73
  go_wp2_with (go_at_call 87; refine (l11Word_14 _).mono ?_; rintro e w1 ⟨rfl, rfl⟩)
  go_loopw [6, 7, 8] (fun q r i wr => W = wr ∧ ((i = .int .i64 0 ∧ q = .int .i64 0 ∧ r = .string ⟨#[]⟩))) (fun _ _ i _ => 0 - (intOf i).toNat)
  case atStart => exact ⟨rfl, ⟨rfl, rfl, rfl⟩⟩
  case round =>
    obtain ⟨rfl, ⟨rfl, rfl, rfl⟩⟩ := hrel
    · go_wp2_with fail
      exact bodyPost_ret (v := .tuple #[.int .i64 0, .string ⟨#[]⟩]) (by simp [results, Tryd.results73, go_sem]) rfl ⟨rfl, rfl⟩
set_option maxHeartbeats 1000000 in
theorem l11Form_15 (W : World) : Calls Tryd.prog 73 #[.int .i64 15] W fun e w' => e = .returned (.tuple #[.int .i64 0, .string ⟨#[]⟩]) ∧ W = w' := by
  go_enter Tryd.func73, Tryd.ntmps73
  go_wp2_with (go_at_call 87; refine (l11Word_15 _).mono ?_; rintro e w1 ⟨rfl, rfl⟩)
  go_loopw [6, 7, 8] (fun q r i wr => W = wr ∧ ((i = .int .i64 0 ∧ q = .int .i64 0 ∧ r = .string ⟨#[]⟩))) (fun _ _ i _ => 0 - (intOf i).toNat)
  case atStart => exact ⟨rfl, ⟨rfl, rfl, rfl⟩⟩
  case round =>
    obtain ⟨rfl, ⟨rfl, rfl, rfl⟩⟩ := hrel
    · go_wp2_with fail
      exact bodyPost_ret (v := .tuple #[.int .i64 0, .string ⟨#[]⟩]) (by simp [results, Tryd.results73, go_sem]) rfl ⟨rfl, rfl⟩
set_option maxHeartbeats 1000000 in
theorem l11Form_16 (W : World) : Calls Tryd.prog 73 #[.int .i64 16] W fun e w' => e = .returned (.tuple #[.int .i64 0, .string ⟨#[]⟩]) ∧ W = w' := by
  go_enter Tryd.func73, Tryd.ntmps73
  go_wp2_with (go_at_call 87; refine (l11Word_16 _).mono ?_; rintro e w1 ⟨rfl, rfl⟩)
  go_loopw [6, 7, 8] (fun q r i wr => W = wr ∧ ((i = .int .i64 0 ∧ q = .int .i64 0 ∧ r = .string ⟨#[]⟩))) (fun _ _ i _ => 0 - (intOf i).toNat)
  case atStart => exact ⟨rfl, ⟨rfl, rfl, rfl⟩⟩
  case round =>
    obtain ⟨rfl, ⟨rfl, rfl, rfl⟩⟩ := hrel
    · go_wp2_with fail
      exact bodyPost_ret (v := .tuple #[.int .i64 0, .string ⟨#[]⟩]) (by simp [results, Tryd.results73, go_sem]) rfl ⟨rfl, rfl⟩
set_option maxHeartbeats 1000000 in
theorem l11Form_17 (W : World) : Calls Tryd.prog 73 #[.int .i64 17] W fun e w' => e = .returned (.tuple #[.int .i64 0, .string ⟨#[]⟩]) ∧ W = w' := by
  go_enter Tryd.func73, Tryd.ntmps73
  go_wp2_with (go_at_call 87; refine (l11Word_17 _).mono ?_; rintro e w1 ⟨rfl, rfl⟩)
  go_loopw [6, 7, 8] (fun q r i wr => W = wr ∧ ((i = .int .i64 0 ∧ q = .int .i64 0 ∧ r = .string ⟨#[]⟩))) (fun _ _ i _ => 0 - (intOf i).toNat)
  case atStart => exact ⟨rfl, ⟨rfl, rfl, rfl⟩⟩
  case round =>
    obtain ⟨rfl, ⟨rfl, rfl, rfl⟩⟩ := hrel
    · go_wp2_with fail
      exact bodyPost_ret (v := .tuple #[.int .i64 0, .string ⟨#[]⟩]) (by simp [results, Tryd.results73, go_sem]) rfl ⟨rfl, rfl⟩
set_option maxHeartbeats 1000000 in
theorem l11Form_18 (W : World) : Calls Tryd.prog 73 #[.int .i64 18] W fun e w' => e = .returned (.tuple #[.int .i64 2, .string ⟨#[]⟩]) ∧ W = w' := by
  go_enter Tryd.func73, Tryd.ntmps73
  go_wp2_with (go_at_call 87; refine (l11Word_18 _).mono ?_; rintro e w1 ⟨rfl, rfl⟩)
  go_loopw [6, 7, 8] (fun q r i wr => W = wr ∧ ((i = .int .i64 0 ∧ q = .int .i64 0 ∧ r = .string ⟨#[]⟩) ∨ (i = .int .i64 1 ∧ q = .int .i64 1 ∧ r = .string ⟨#[]⟩) ∨ (i = .int .i64 2 ∧ q = .int .i64 2 ∧ r = .string ⟨#[]⟩))) (fun _ _ i _ => 2 - (intOf i).toNat)
  case atStart => exact ⟨rfl, .inl ⟨rfl, rfl, rfl⟩⟩
  case round =>
    obtain ⟨rfl, ⟨rfl, rfl, rfl⟩ | ⟨rfl, rfl, rfl⟩ | ⟨rfl, rfl, rfl⟩⟩ := hrel
    · go_wp2_with fail
      go_roundw
      case rel => first | (simp; done) | exact ⟨trivial, .inr (.inl ⟨rfl, rfl, rfl⟩)⟩ | exact ⟨rfl, .inr (.inl ⟨rfl, rfl, rfl⟩)⟩ | (refine ⟨trivial, .inr (.inl ⟨?_, ?_, ?_⟩)⟩ <;> rfl)
      case measure => simp [intOf]
    · go_wp2_with fail
      go_roundw
      case rel => first | (simp; done) | exact ⟨trivial, .inr (.inr (⟨rfl, rfl, rfl⟩))⟩ | exact ⟨rfl, .inr (.inr (⟨rfl, rfl, rfl⟩))⟩ | (refine ⟨trivial, .inr (.inr (⟨?_, ?_, ?_⟩))⟩ <;> rfl)
      case measure => simp [intOf]
    · go_wp2_with fail
      exact bodyPost_ret (v := .tuple #[.int .i64 2, .string ⟨#[]⟩]) (by simp [results, Tryd.results73, go_sem]) rfl ⟨rfl, rfl⟩
set_option maxHeartbeats 1000000 in
theorem l11Form_19 (W : World) : Calls Tryd.prog 73 #[.int .i64 19] W fun e w' => e = .returned (.tuple #[.int .i64 2, .string ⟨#[]⟩]) ∧ W = w' := by
  go_enter Tryd.func73, Tryd.ntmps73
  go_wp2_with (go_at_call 87; refine (l11Word_19 _).mono ?_; rintro e w1 ⟨rfl, rfl⟩)
  go_loopw [6, 7, 8] (fun q r i wr => W = wr ∧ ((i = .int .i64 0 ∧ q = .int .i64 0 ∧ r = .string ⟨#[]⟩) ∨ (i = .int .i64 1 ∧ q = .int .i64 1 ∧ r = .string ⟨#[]⟩) ∨ (i = .int .i64 2 ∧ q = .int .i64 2 ∧ r = .string ⟨#[]⟩))) (fun _ _ i _ => 2 - (intOf i).toNat)
  case atStart => exact ⟨rfl, .inl ⟨rfl, rfl, rfl⟩⟩
  case round =>
    obtain ⟨rfl, ⟨rfl, rfl, rfl⟩ | ⟨rfl, rfl, rfl⟩ | ⟨rfl, rfl, rfl⟩⟩ := hrel
    · go_wp2_with fail
      go_roundw
      case rel => first | (simp; done) | exact ⟨trivial, .inr (.inl ⟨rfl, rfl, rfl⟩)⟩ | exact ⟨rfl, .inr (.inl ⟨rfl, rfl, rfl⟩)⟩ | (refine ⟨trivial, .inr (.inl ⟨?_, ?_, ?_⟩)⟩ <;> rfl)
      case measure => simp [intOf]
    · go_wp2_with fail
      go_roundw
      case rel => first | (simp; done) | exact ⟨trivial, .inr (.inr (⟨rfl, rfl, rfl⟩))⟩ | exact ⟨rfl, .inr (.inr (⟨rfl, rfl, rfl⟩))⟩ | (refine ⟨trivial, .inr (.inr (⟨?_, ?_, ?_⟩))⟩ <;> rfl)
      case measure => simp [intOf]
    · go_wp2_with fail
      exact bodyPost_ret (v := .tuple #[.int .i64 2, .string ⟨#[]⟩]) (by simp [results, Tryd.results73, go_sem]) rfl ⟨rfl, rfl⟩
set_option maxHeartbeats 1000000 in
theorem l11Form_20 (W : World) : Calls Tryd.prog 73 #[.int .i64 20] W fun e w' => e = .returned (.tuple #[.int .i64 1, .string ⟨#[]⟩]) ∧ W = w' := by
  go_enter Tryd.func73, Tryd.ntmps73
  go_wp2_with (go_at_call 87; refine (l11Word_20 _).mono ?_; rintro e w1 ⟨rfl, rfl⟩)
  go_loopw [6, 7, 8] (fun q r i wr => W = wr ∧ ((i = .int .i64 0 ∧ q = .int .i64 0 ∧ r = .string ⟨#[]⟩) ∨ (i = .int .i64 1 ∧ q = .int .i64 1 ∧ r = .string ⟨#[]⟩))) (fun _ _ i _ => 1 - (intOf i).toNat)
  case atStart => exact ⟨rfl, .inl ⟨rfl, rfl, rfl⟩⟩
  case round =>
    obtain ⟨rfl, ⟨rfl, rfl, rfl⟩ | ⟨rfl, rfl, rfl⟩⟩ := hrel
    · go_wp2_with fail
      go_roundw
      case rel => first | (simp; done) | exact ⟨trivial, .inr (⟨rfl, rfl, rfl⟩)⟩ | exact ⟨rfl, .inr (⟨rfl, rfl, rfl⟩)⟩ | (refine ⟨trivial, .inr (⟨?_, ?_, ?_⟩)⟩ <;> rfl)
      case measure => simp [intOf]
    · go_wp2_with fail
      exact bodyPost_ret (v := .tuple #[.int .i64 1, .string ⟨#[]⟩]) (by simp [results, Tryd.results73, go_sem]) rfl ⟨rfl, rfl⟩
set_option maxHeartbeats 1000000 in
theorem l11Form_21 (W : World) : Calls Tryd.prog 73 #[.int .i64 21] W fun e w' => e = .returned (.tuple #[.int .i64 1, .string ⟨#[120]⟩]) ∧ W = w' := by
  go_enter Tryd.func73, Tryd.ntmps73
  go_wp2_with (go_at_call 87; refine (l11Word_21 _).mono ?_; rintro e w1 ⟨rfl, rfl⟩)
  go_loopw [6, 7, 8] (fun q r i wr => W = wr ∧ ((i = .int .i64 0 ∧ q = .int .i64 0 ∧ r = .string ⟨#[]⟩) ∨ (i = .int .i64 1 ∧ q = .int .i64 1 ∧ r = .string ⟨#[]⟩) ∨ (i = .int .i64 2 ∧ q = .int .i64 1 ∧ r = .string ⟨#[120]⟩))) (fun _ _ i _ => 2 - (intOf i).toNat)
  case atStart => exact ⟨rfl, .inl ⟨rfl, rfl, rfl⟩⟩
  case round =>
    obtain ⟨rfl, ⟨rfl, rfl, rfl⟩ | ⟨rfl, rfl, rfl⟩ | ⟨rfl, rfl, rfl⟩⟩ := hrel
    · go_wp2_with fail
      go_roundw
      case rel => first | (simp; done) | exact ⟨trivial, .inr (.inl ⟨rfl, rfl, rfl⟩)⟩ | exact ⟨rfl, .inr (.inl ⟨rfl, rfl, rfl⟩)⟩ | (refine ⟨trivial, .inr (.inl ⟨?_, ?_, ?_⟩)⟩ <;> rfl)
      case measure => simp [intOf]
    · go_wp2_with fail
      go_roundw
      case rel => first | (simp; done) | exact ⟨trivial, .inr (.inr (⟨rfl, rfl, rfl⟩))⟩ | exact ⟨rfl, .inr (.inr (⟨rfl, rfl, rfl⟩))⟩ | (refine ⟨trivial, .inr (.inr (⟨?_, ?_, ?_⟩))⟩ <;> rfl)
      case measure => simp [intOf]
    · go_wp2_with fail
      exact bodyPost_ret (v := .tuple #[.int .i64 1, .string ⟨#[120]⟩]) (by simp [results, Tryd.results73, go_sem]) rfl ⟨rfl, rfl⟩
set_option maxHeartbeats 1000000 in
theorem l11Form_22 (W : World) : Calls Tryd.prog 73 #[.int .i64 22] W fun e w' => e = .returned (.tuple #[.int .i64 1, .string ⟨#[120]⟩]) ∧ W = w' := by
  go_enter Tryd.func73, Tryd.ntmps73
  go_wp2_with (go_at_call 87; refine (l11Word_22 _).mono ?_; rintro e w1 ⟨rfl, rfl⟩)
  go_loopw [6, 7, 8] (fun q r i wr => W = wr ∧ ((i = .int .i64 0 ∧ q = .int .i64 0 ∧ r = .string ⟨#[]⟩) ∨ (i = .int .i64 1 ∧ q = .int .i64 1 ∧ r = .string ⟨#[]⟩) ∨ (i = .int .i64 2 ∧ q = .int .i64 1 ∧ r = .string ⟨#[120]⟩))) (fun _ _ i _ => 2 - (intOf i).toNat)
  case atStart => exact ⟨rfl, .inl ⟨rfl, rfl, rfl⟩⟩
  case round =>
    obtain ⟨rfl, ⟨rfl, rfl, rfl⟩ | ⟨rfl, rfl, rfl⟩ | ⟨rfl, rfl, rfl⟩⟩ := hrel
    · go_wp2_with fail
      go_roundw
      case rel => first | (simp; done) | exact ⟨trivial, .inr (.inl ⟨rfl, rfl, rfl⟩)⟩ | exact ⟨rfl, .inr (.inl ⟨rfl, rfl, rfl⟩)⟩ | (refine ⟨trivial, .inr (.inl ⟨?_, ?_, ?_⟩)⟩ <;> rfl)
      case measure => simp [intOf]
    · go_wp2_with fail
      go_roundw
      case rel => first | (simp; done) | exact ⟨trivial, .inr (.inr (⟨rfl, rfl, rfl⟩))⟩ | exact ⟨rfl, .inr (.inr (⟨rfl, rfl, rfl⟩))⟩ | (refine ⟨trivial, .inr (.inr (⟨?_, ?_, ?_⟩))⟩ <;> rfl)
      case measure => simp [intOf]
    · go_wp2_with fail
      exact bodyPost_ret (v := .tuple #[.int .i64 1, .string ⟨#[120]⟩]) (by simp [results, Tryd.results73, go_sem]) rfl ⟨rfl, rfl⟩
set_option maxHeartbeats 1000000 in
theorem l11Form_23 (W : World) : Calls Tryd.prog 73 #[.int .i64 23] W fun e w' => e = .returned (.tuple #[.int .i64 0, .string ⟨#[120]⟩]) ∧ W = w' := by
  go_enter Tryd.func73, Tryd.ntmps73
  go_wp2_with (go_at_call 87; refine (l11Word_23 _).mono ?_; rintro e w1 ⟨rfl, rfl⟩)
  go_loopw [6, 7, 8] (fun q r i wr => W = wr ∧ ((i = .int .i64 0 ∧ q = .int .i64 0 ∧ r = .string ⟨#[]⟩) ∨ (i = .int .i64 1 ∧ q = .int .i64 0 ∧ r = .string ⟨#[120]⟩))) (fun _ _ i _ => 1 - (intOf i).toNat)
  case atStart => exact ⟨rfl, .inl ⟨rfl, rfl, rfl⟩⟩
  case round =>
    obtain ⟨rfl, ⟨rfl, rfl, rfl⟩ | ⟨rfl, rfl, rfl⟩⟩ := hrel
    · go_wp2_with fail
      go_roundw
      case rel => first | (simp; done) | exact ⟨trivial, .inr (⟨rfl, rfl, rfl⟩)⟩ | exact ⟨rfl, .inr (⟨rfl, rfl, rfl⟩)⟩ | (refine ⟨trivial, .inr (⟨?_, ?_, ?_⟩)⟩ <;> rfl)
      case measure => simp [intOf]
    · go_wp2_with fail
      exact bodyPost_ret (v := .tuple #[.int .i64 0, .string ⟨#[120]⟩]) (by simp [results, Tryd.results73, go_sem]) rfl ⟨rfl, rfl⟩
set_option maxHeartbeats 1000000 in
theorem l11Form_24 (W : World) : Calls Tryd.prog 73 #[.int .i64 24] W fun e w' => e = .returned (.tuple #[.int .i64 0, .string ⟨#[120]⟩]) ∧ W = w' := by
  go_enter Tryd.func73, Tryd.ntmps73
  go_wp2_with (go_at_call 87; refine (l11Word_24 _).mono ?_; rintro e w1 ⟨rfl, rfl⟩)
  go_loopw [6, 7, 8] (fun q r i wr => W = wr ∧ ((i = .int .i64 0 ∧ q = .int .i64 0 ∧ r = .string ⟨#[]⟩) ∨ (i = .int .i64 1 ∧ q = .int .i64 0 ∧ r = .string ⟨#[120]⟩))) (fun _ _ i _ => 1 - (intOf i).toNat)
  case atStart => exact ⟨rfl, .inl ⟨rfl, rfl, rfl⟩⟩
  case round =>
    obtain ⟨rfl, ⟨rfl, rfl, rfl⟩ | ⟨rfl, rfl, rfl⟩⟩ := hrel
    · go_wp2_with fail
      go_roundw
      case rel => first | (simp; done) | exact ⟨trivial, .inr (⟨rfl, rfl, rfl⟩)⟩ | exact ⟨rfl, .inr (⟨rfl, rfl, rfl⟩)⟩ | (refine ⟨trivial, .inr (⟨?_, ?_, ?_⟩)⟩ <;> rfl)
      case measure => simp [intOf]
    · go_wp2_with fail
      exact bodyPost_ret (v := .tuple #[.int .i64 0, .string ⟨#[120]⟩]) (by simp [results, Tryd.results73, go_sem]) rfl ⟨rfl, rfl⟩
theorem l11Form_any (j : Nat) (h1 : 1 ≤ j) (h2 : j ≤ 24) (W : World) : Calls Tryd.prog 73 #[.int .i64 (j : Int)] W fun e w' => e = .returned (.tuple #[.int .i64 (kidsK j), .string (restK j)]) ∧ W = w' := by
  obtain rfl | rfl | rfl | rfl | rfl | rfl | rfl | rfl | rfl | rfl | rfl | rfl | rfl | rfl | rfl | rfl | rfl | rfl | rfl | rfl | rfl | rfl | rfl | rfl : j = 1 ∨ j = 2 ∨ j = 3 ∨ j = 4 ∨ j = 5 ∨ j = 6 ∨ j = 7 ∨ j = 8 ∨ j = 9 ∨ j = 10 ∨ j = 11 ∨ j = 12 ∨ j = 13 ∨ j = 14 ∨ j = 15 ∨ j = 16 ∨ j = 17 ∨ j = 18 ∨ j = 19 ∨ j = 20 ∨ j = 21 ∨ j = 22 ∨ j = 23 ∨ j = 24 := by omega
  · exact l11Form_1 W
  · exact l11Form_2 W
  · exact l11Form_3 W
  · exact l11Form_4 W
  · exact l11Form_5 W
  · exact l11Form_6 W
  · exact l11Form_7 W
  · exact l11Form_8 W
  · exact l11Form_9 W
  · exact l11Form_10 W
  · exact l11Form_11 W
  · exact l11Form_12 W
  · exact l11Form_13 W
  · exact l11Form_14 W
  · exact l11Form_15 W
  · exact l11Form_16 W
  · exact l11Form_17 W
  · exact l11Form_18 W
  · exact l11Form_19 W
  · exact l11Form_20 W
  · exact l11Form_21 W
  · exact l11Form_22 W
  · exact l11Form_23 W
  · exact l11Form_24 W
end Go.Proofs.YtjeiiljdhnmofaaDoor
