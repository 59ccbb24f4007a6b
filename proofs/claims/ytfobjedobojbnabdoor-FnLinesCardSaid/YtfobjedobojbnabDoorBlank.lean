/- Contracts: IsBlankLine of the model and of the program; the law's walk. No condition but that a string fits in memory. -/
import Derived.Test.YtfobjedobojbnabDoorPrint
import Derived.Test.YtfobjedobojbnabDoorShelf
import Derived.Below
import Derived.Lib.TrimByte
namespace Go.Proofs.YtfobjedobojbnabDoor
open Go Go.RowKit

/-- What IsBlankLine answers. -/
def blankB (s : ByteArray) : Bool := allB (fun c => c == 32) s
theorem allB_list (s : ByteArray) (c : UInt8) : allB (fun x => x == (c.toNat : Int)) s = s.data.toList.all (· == c) := by
  have hb : ∀ i (h : i < s.data.toList.length), (PlainAid.bt s i == (c.toNat : Int)) = (s.data.toList[i] == c) := fun i h => by
    rw [bt_data s i h, Bool.eq_iff_iff]
    simp only [beq_iff_eq]
    exact ⟨fun e => UInt8.toNat_inj.mp (by omega), fun e => by rw [e]⟩
  cases h : s.data.toList.all (· == c) with
  | true =>
    refine allB_true fun i hi => ?_
    rw [Lib.size_eq] at hi
    rw [hb i hi]
    exact List.all_eq_true.1 h _ (List.getElem_mem hi)
  | false =>
    rw [List.all_eq_false] at h
    obtain ⟨x, hx, hn⟩ := h
    obtain ⟨i, hi, rfl⟩ := List.mem_iff_getElem.1 hx
    refine allB_false i (by rw [Lib.size_eq]; exact hi) ?_
    rw [hb i hi]
    simpa using hn
theorem dropWhile_nil {p : UInt8 → Bool} : ∀ l : List UInt8, l.dropWhile p = [] ↔ l.all p = true
  | [] => by simp
  | x :: l => by
    rw [List.dropWhile_cons, List.all_cons]
    cases h : p x with
    | true => simpa using dropWhile_nil l
    | false => simp
theorem blank_trim (s : ByteArray) : (Lib.trimLeftB s.data.toList 32 = []) ↔ blankB s = true := by
  unfold blankB Lib.trimLeftB
  have := allB_list s 32
  rw [show ((32 : UInt8).toNat : Int) = 32 from rfl] at this
  rw [this]
  exact dropWhile_nil _

theorem spec_IsBlankLine_any (s : ByteArray) (W : World) (hs : s.size ≤ maxLen) :
    Calls Tryd.prog 26 #[.string s] W fun e w' => e = .returned (.bool (blankB s)) ∧ W = w' := by
  unfold maxLen at hs
  have hb := PlainAid.get_bt s
  go_enter Tryd.func26, Tryd.ntmps26
  go_wp2
  go_loop [3] (fun i => ∃ k : Nat, k ≤ s.size ∧ i = .int .i64 k ∧ Hid (∀ j, j < k → (PlainAid.bt s j == 32) = true)) (fun i => s.size - (intOf i).toNat)
  case atStart => exact ⟨0, Nat.zero_le _, rfl, fun _ h => absurd h (by omega)⟩
  case round =>
    obtain ⟨k, hk, rfl, hp⟩ := hrel
    by_cases hlt : k < s.size
    · obtain ⟨x, hx⟩ : ∃ x, (PlainAid.bt s k == 32) = x := ⟨_, rfl⟩
      have d : (PlainAid.bt s k != 32) = !x := by rw [bne, hx]
      have HX := Lib.hid hx
      clear hx
      cases x
      · have HF : Hid (blankB s = false) := allB_false k hlt HX.out
        go_wp2
        go_ret
        exact ⟨bool_ret HF.out.symm, rfl⟩
      · go_wp2
        go_round
        case rel => exact ⟨k + 1, by omega, by go_num, upto_succ hp.out HX.out⟩
        case measure => simp [intOf]; omega
    · obtain rfl : k = s.size := by omega
      have HT : Hid (blankB s = true) := allB_true hp.out
      go_wp2
      go_ret
      exact ⟨bool_ret HT.out.symm, rfl⟩

theorem trimLeft_blank (s : ByteArray) (W : World) :
    Calls Tryd.prog 80 #[.string s, .string ⟨#[32]⟩] W fun e w' => e = .returned (.string ⟨(Lib.trimLeftB s.data.toList 32).toArray⟩) ∧ W = w' :=
  (Tryd.strings_TrimLeft_one s 32 (by decide) W).mono fun _ _ ⟨h1, h2⟩ => ⟨h1, h2.symm⟩

theorem impl_IsBlankLine_any (s : ByteArray) (W : World) :
    Calls Tryd.prog 58 #[.string s] W fun e w' => e = .returned (.bool (blankB s)) ∧ W = w' := by
  have h := blank_trim s
  obtain ⟨r, hr⟩ : ∃ r, Lib.trimLeftB s.data.toList 32 = r := ⟨_, rfl⟩
  have HR := Lib.hid hr
  rw [hr] at h
  clear hr
  obtain ⟨x, hx⟩ : ∃ x, blankB s = x := ⟨_, rfl⟩
  rw [hx] at h ⊢
  clear hx
  cases x
  · have hn : ¬ r = [] := by simpa using h
    have hp : 0 < (⟨r.toArray⟩ : ByteArray).size := by rw [size_mk]; exact List.length_pos_iff.2 hn
    have e1 := ne_nil_of_size hp
    have e2 := not_isEmpty_of_size hp
    clear h hn hp
    obtain ⟨q, hq⟩ : ∃ q, (⟨r.toArray⟩ : ByteArray) = q := ⟨_, rfl⟩
    rw [hq] at e1 e2
    have HQ := Lib.hid hq
    clear hq
    go_enter Tryd.func58, Tryd.ntmps58
    go_wp2_with (go_at_call 80; refine (trimLeft_blank _ _).mono ?_; rintro e w' ⟨rfl, rfl⟩; rw [HR.out, HQ.out])
    go_ret
    exact ⟨rfl, rfl⟩
  · have hn : r = [] := by simpa using h
    subst hn
    clear h
    go_enter Tryd.func58, Tryd.ntmps58
    go_wp2_with (go_at_call 80; refine (trimLeft_blank _ _).mono ?_; rintro e w' ⟨rfl, rfl⟩; rw [HR.out])
    go_ret
    exact ⟨rfl, rfl⟩
end Go.Proofs.YtfobjedobojbnabDoor
