/- Contracts: ifValid, IntegerValue of the program. Condition: the table holds what the program's text lays. -/
import Derived.Test.YtpjjpfjnjhahcaaGreatDoorValImpl
import Derived.Laws.ResultCell
namespace Go.Proofs.YtpjjpfjnjhahcaaGreatDoor
open Go Go.RowKit

/-- A value and whether it is valid; nothing where it is not. -/
def orV (x : Bool) (k n : Int) (t : ByteArray) (r : Int) : Ending :=
  if x = true then .returned (.tuple #[.agg #[.int .i64 k, .int .i64 n, .string t, .int .i64 r], .bool true]) else .returned (.tuple #[.agg #[.int .i64 0, .int .i64 0, .string ⟨#[]⟩, .int .i64 0], .bool false])

theorem ifValid_any (k n : Int) (t : ByteArray) (r : Int) (W : World) (hs : t.size ≤ maxLen) (hT : Classes W) :
    Calls Tryz.prog 71 #[.agg #[.int .i64 k, .int .i64 n, .string t, .int .i64 r]] W fun e w' => e = orV (validV k n t r) k n t r ∧ Below W.heap.size W w' := by
  have HS := Lib.hid hs
  have HT : Hid (Classes W) := hT
  have HG : Hid (0 < W.heap.size) := heap_pos (hT.at_ 0 (by decide))
  clear hs hT
  obtain ⟨x, hx⟩ : ∃ x, validV k n t r = x := ⟨_, rfl⟩
  have HX := Lib.hid hx
  rw [hx]
  clear hx
  cases x
  · show Calls _ _ _ _ fun e w' => e = .returned (.tuple #[.agg #[.int .i64 0, .int .i64 0, .string ⟨#[]⟩, .int .i64 0], .bool false]) ∧ _
    go_enter Tryz.func71, Tryz.ntmps71
    go_wp2_with (go_at_call 25; refine (impl_ValidValue_any _ _ _ _ _ HS.out (HT.out.below (((Below.refl W.heap.size W).alloc (Nat.le_refl _) _).alloc (by simp) _) HG.out)).mono ?_; rintro e w1 ⟨rfl, hb⟩; rw [HX.out]; have HB := Lib.hid ((((Below.refl _ _).alloc (Nat.le_refl _) _).alloc (by simp) _).trans (hb.mono (B' := W.heap.size) (by simp; omega))); obtain ⟨hc, hf⟩ := bcell hb; clear hb)
    exact bodyPost_ret (v := .tuple #[.agg #[.int .i64 0, .int .i64 0, .string ⟨#[]⟩, .int .i64 0], .bool false]) (by rw [results_cell_tmp rfl]; go_simp) rfl ⟨rfl, by repeat (first | exact HB.out | refine Below.setCell ?_ (by first | (simp; done) | (simp; omega)) _)⟩
  · show Calls _ _ _ _ fun e w' => e = .returned (.tuple #[.agg #[.int .i64 k, .int .i64 n, .string t, .int .i64 r], .bool true]) ∧ _
    go_enter Tryz.func71, Tryz.ntmps71
    go_wp2_with (go_at_call 25; refine (impl_ValidValue_any _ _ _ _ _ HS.out (HT.out.below (((Below.refl W.heap.size W).alloc (Nat.le_refl _) _).alloc (by simp) _) HG.out)).mono ?_; rintro e w1 ⟨rfl, hb⟩; rw [HX.out]; have HB := Lib.hid ((((Below.refl _ _).alloc (Nat.le_refl _) _).alloc (by simp) _).trans (hb.mono (B' := W.heap.size) (by simp; omega))); obtain ⟨hc, hf⟩ := bcell hb; clear hb)
    exact bodyPost_ret (v := .tuple #[.agg #[.int .i64 k, .int .i64 n, .string t, .int .i64 r], .bool true]) (by rw [results_cell_tmp rfl]; go_simp) rfl ⟨rfl, by repeat (first | exact HB.out | refine Below.setCell ?_ (by first | (simp; done) | (simp; omega)) _)⟩

theorem orV_t (k n : Int) (t : ByteArray) (r : Int) : orV true k n t r = .returned (.tuple #[.agg #[.int .i64 k, .int .i64 n, .string t, .int .i64 r], .bool true]) := rfl
theorem orV_f (k n : Int) (t : ByteArray) (r : Int) : orV false k n t r = .returned (.tuple #[.agg #[.int .i64 0, .int .i64 0, .string ⟨#[]⟩, .int .i64 0], .bool false]) := rfl

theorem impl_IntegerValue_any (n : Int) (W : World) (hT : Classes W) :
    Calls Tryz.prog 57 #[.int .i64 n] W fun e w' => e = orV (validV 2 n ⟨#[]⟩ 0) 2 n ⟨#[]⟩ 0 ∧ Below W.heap.size W w' := by
  have HS : Hid ((⟨#[]⟩ : ByteArray).size ≤ maxLen) := by show _ ≤ _; unfold maxLen; decide
  have HT : Hid (Classes W) := hT
  have HG : Hid (0 < W.heap.size) := heap_pos (hT.at_ 0 (by decide))
  clear hT
  obtain ⟨x, hx⟩ : ∃ x, validV 2 n ⟨#[]⟩ 0 = x := ⟨_, rfl⟩
  have HX := Lib.hid hx
  rw [hx]
  clear hx
  cases x
  · rw [orV_f]
    go_enter Tryz.func57, Tryz.ntmps57
    go_wp2_with (first
      | (go_at_call 51; refine (numberValue_any _ _).mono ?_; rintro e w0 ⟨rfl, hb⟩; have HB0 := Lib.hid (((Below.refl _ _).alloc (Nat.le_refl _) _).trans (hb.mono (B' := W.heap.size) (by simp))); obtain ⟨hc0, hf0⟩ := bcell hb; have hz0 : W.heap.size < w0.heap.size := Nat.lt_of_lt_of_le (by simp) hb.size; clear hb)
      | (go_at_call 71; refine (ifValid_any _ _ _ _ _ HS.out (HT.out.below HB0.out HG.out)).mono ?_; rintro e w1 ⟨he, hb⟩; rw [HX.out, orV_f] at he; subst he; have HB := Lib.hid (HB0.out.trans (hb.mono HB0.out.size)); obtain ⟨hc, hf⟩ := bcell hb; clear hb))
    exact bodyPost_ret (v := .tuple #[.agg #[.int .i64 0, .int .i64 0, .string ⟨#[]⟩, .int .i64 0], .bool false]) (by rw [results_cell_tmp rfl]; go_simp) rfl ⟨rfl, by repeat (first | exact HB.out | refine Below.setCell ?_ (by first | (simp; done) | (simp; omega)) _)⟩
  · rw [orV_t]
    go_enter Tryz.func57, Tryz.ntmps57
    go_wp2_with (first
      | (go_at_call 51; refine (numberValue_any _ _).mono ?_; rintro e w0 ⟨rfl, hb⟩; have HB0 := Lib.hid (((Below.refl _ _).alloc (Nat.le_refl _) _).trans (hb.mono (B' := W.heap.size) (by simp))); obtain ⟨hc0, hf0⟩ := bcell hb; have hz0 : W.heap.size < w0.heap.size := Nat.lt_of_lt_of_le (by simp) hb.size; clear hb)
      | (go_at_call 71; refine (ifValid_any _ _ _ _ _ HS.out (HT.out.below HB0.out HG.out)).mono ?_; rintro e w1 ⟨he, hb⟩; rw [HX.out, orV_t] at he; subst he; have HB := Lib.hid (HB0.out.trans (hb.mono HB0.out.size)); obtain ⟨hc, hf⟩ := bcell hb; clear hb))
    exact bodyPost_ret (v := .tuple #[.agg #[.int .i64 2, .int .i64 n, .string ⟨#[]⟩, .int .i64 0], .bool true]) (by rw [results_cell_tmp rfl]; go_simp) rfl ⟨rfl, by repeat (first | exact HB.out | refine Below.setCell ?_ (by first | (simp; done) | (simp; omega)) _)⟩
end Go.Proofs.YtpjjpfjnjhahcaaGreatDoor
