/- Contracts: hasUnprintable, l02Holds, CanQuote, QuoteString of the program and of the model. No condition but that a string fits in memory. -/
import Derived.Test.YtjmiobmfphkdeaaDoorPrint
import Derived.Test.YtjmiobmfphkdeaaDoorShelf
import Derived.Below
import Derived.Lib.IndexAny
namespace Go.Proofs.YtjmiobmfphkdeaaDoor
open Go Go.RowKit


/-- The byte c occurs in s. -/
def holdsB (c : Int) (s : ByteArray) : Bool := !allB (fun x => x != c) s
theorem holds_yes {c : Int} {s : ByteArray} (i : Nat) (hi : i < s.size) (h : PlainAid.bt s i = c) : holdsB c s = true := by
  unfold holdsB
  rw [allB_false i hi (by simp [h])]
  rfl
theorem holds_no {c : Int} {s : ByteArray} (h : ∀ i, i < s.size → ¬ PlainAid.bt s i = c) : holdsB c s = false := by
  unfold holdsB
  rw [allB_true fun i hi => by simpa using h i hi]
  rfl
theorem holds_index (s : ByteArray) (c : UInt8) : decide (0 ≤ Lib.indexByte s.data.toList c) = holdsB (c.toNat : Int) s := by
  rw [← Lib.contains_iff_indexByte]
  cases h : s.data.toList.contains c with
  | true =>
    rw [List.contains_iff_mem] at h
    obtain ⟨i, hi, he⟩ := List.mem_iff_getElem.1 h
    exact (holds_yes i (by rw [Lib.size_eq]; exact hi) (by rw [bt_data s i hi, he])).symm
  | false =>
    refine (holds_no fun i hi e => ?_).symm
    rw [Lib.size_eq] at hi
    rw [bt_data s i hi] at e
    have : s.data.toList[i] = c := UInt8.toNat_inj.mp (by omega)
    have hm : c ∈ s.data.toList := this ▸ List.getElem_mem hi
    rw [← List.contains_iff_mem, h] at hm
    cases hm

theorem l02Holds_any (s : ByteArray) (c : Int) (W : World) (hs : s.size ≤ maxLen) :
    Calls Tryd.prog 44 #[.string s, .int .u8 c] W fun e w' => e = .returned (.bool (holdsB c s)) ∧ W = w' := by
  unfold maxLen at hs
  have hb := PlainAid.get_bt s
  go_enter Tryd.func44, Tryd.ntmps44
  go_wp2
  go_loop [5] (fun i => ∃ k : Nat, k ≤ s.size ∧ i = .int .i64 k ∧ Hid (∀ j, j < k → ¬ PlainAid.bt s j = c)) (fun i => s.size - (intOf i).toNat)
  case atStart => exact ⟨0, Nat.zero_le _, rfl, fun _ h => absurd h (by omega)⟩
  case round =>
    obtain ⟨k, hk, rfl, hp⟩ := hrel
    by_cases hlt : k < s.size
    · by_cases h1 : PlainAid.bt s k = c
      · have HT : Hid (holdsB c s = true) := holds_yes k hlt h1
        have d1 : (PlainAid.bt s k == c) = true := by simpa using h1
        clear h1
        go_wp2
        go_ret
        exact ⟨bool_ret HT.out.symm, rfl⟩
      · have HP : Hid (¬ PlainAid.bt s k = c) := h1
        have d1 : (PlainAid.bt s k == c) = false := by simpa using h1
        clear h1
        go_wp2
        go_round
        case rel => exact ⟨k + 1, by omega, by go_num, upto_succ hp.out HP.out⟩
        case measure => simp [intOf]; omega
    · obtain rfl : k = s.size := by omega
      have HT : Hid (holdsB c s = false) := holds_no hp.out
      go_wp2
      go_ret
      exact ⟨bool_ret HT.out.symm, rfl⟩

theorem hasUnprintable_any (s : ByteArray) (W : World) :
    Calls Tryd.prog 38 #[.string s] W fun e w' => e = .returned (.bool (!allB (prnB false) s)) ∧ Below W.heap.size W w' := by
  go_enter Tryd.func38, Tryd.ntmps38
  go_wp2
  go_loopw [] (fun w' => ∃ k : Nat, k ≤ s.size ∧ w' = W.iter s k ∧ Hid (∀ j, j < k → prnB false (PlainAid.bt s j) = true)) (fun w' => s.size - w'.iterPos W.heap.size)
  case atStart => exact ⟨0, Nat.zero_le _, rfl, fun _ h => absurd h (by omega)⟩
  case round =>
    obtain ⟨k, hk, rfl, hp⟩ := hrel
    by_cases hlt : k < s.size
    · have b0 := PlainAid.bt_nonneg s k
      have hb := PlainAid.get_bt s k hlt
      by_cases h1 : 32 ≤ PlainAid.bt s k ∧ PlainAid.bt s k ≤ 126
      · have HP : Hid (prnB false (PlainAid.bt s k) = true) := prnB_yes h1.1 h1.2
        have hd := decode_ascii s k hlt (by omega)
        have hnx : ∀ ty, (Instr.next (.pointer (some ⟨W.heap.size, 0, none⟩)) true ty).run Tryd.prog (W.iter s k) = .ok (.tuple #[.bool true, .int .i64 k, .int .i32 (PlainAid.bt s k)]) (W.iter s (k + 1)) := fun ty => by
          rw [run_next_any W s k ty hlt, hd]
          simp only [hb]
        have hr : decide (32 ≤ PlainAid.bt s k ∧ PlainAid.bt s k ≤ 126) = true := by simp [h1]
        have HB : Hid (decide (32 ≤ PlainAid.bt s k ∧ PlainAid.bt s k ≤ 126) = true) := hr
        clear hr hd h1 hb
        go_wp2_with (go_at_call 45; refine (isPrintable_any _ _).mono ?_; rintro e w' ⟨rfl, rfl⟩; rw [HB.out])
        go_roundw
        case rel => exact ⟨k + 1, by omega, rfl, upto_succ hp.out HP.out⟩
        case measure => simp; omega
      · have HF : Hid (allB (prnB false) s = false) := allB_false k hlt (prnB_no (by omega))
        have hbad : ¬ (32 ≤ ((Utf8.decode s k).1 : Int) ∧ ((Utf8.decode s k).1 : Int) ≤ 126) := by
          by_cases ha : (s[k]'hlt).toNat < 128
          · rw [decode_ascii s k hlt ha]
            simp only [hb]
            exact h1
          · have := (decode_high s k hlt (by omega)).1
            omega
        have hnx : ∀ ty, (Instr.next (.pointer (some ⟨W.heap.size, 0, none⟩)) true ty).run Tryd.prog (W.iter s k) = _ := fun ty => run_next_any W s k ty hlt
        generalize (Utf8.decode s k).1 = r at hbad hnx
        generalize (Utf8.decode s k).2 = u at hnx
        have HB : Hid (decide (32 ≤ (r : Int) ∧ (r : Int) ≤ 126) = false) := by
          show _ = _
          simpa using hbad
        clear hbad h1 hb
        go_wp2_with (go_at_call 45; refine (isPrintable_any _ _).mono ?_; rintro e w' ⟨rfl, rfl⟩; rw [HB.out])
        go_ret
        exact ⟨bool_ret (by rw [HF.out]; rfl), below_iter (Below.refl _ _) (Nat.le_refl _) _ _⟩
    · obtain rfl : k = s.size := by omega
      have HT : Hid (allB (prnB false) s = true) := allB_true hp.out
      have hnx : ∀ ty, (Instr.next (.pointer (some ⟨W.heap.size, 0, none⟩)) true ty).run Tryd.prog (W.iter s s.size) = _ := fun ty => run_next_end W s s.size ty hlt
      go_wp2
      go_ret
      exact ⟨bool_ret (by rw [HT.out]; rfl), below_iter (Below.refl _ _) (Nat.le_refl _) _ _⟩
end Go.Proofs.YtjmiobmfphkdeaaDoor
