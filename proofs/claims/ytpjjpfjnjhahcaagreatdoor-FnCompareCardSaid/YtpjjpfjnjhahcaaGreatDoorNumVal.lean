/- Plain: the number that a numeral denotes, as strconv.ParseInt finds it; numberIn of the program. No condition. -/
import Derived.Test.YtpjjpfjnjhahcaaGreatDoorIsNum2
import Derived.Lib.ParseIntB
import Derived.Lib.ConvBytes
namespace Go.Proofs.YtpjjpfjnjhahcaaGreatDoor
open Go Go.RowKit

/-- The number that the digits from a on, up to k, denote. -/
def valK (s : ByteArray) (a : Nat) : Nat → Nat
  | 0 => 0
  | k + 1 => if a ≤ k then valK s a k * 10 + ((PlainAid.bt s k).toNat - 48) else 0
theorem valK_start (s : ByteArray) (a : Nat) : valK s a a = 0 := by
  cases a with
  | zero => rfl
  | succ a => unfold valK; rw [if_neg (by omega)]
theorem valK_succ (s : ByteArray) (a k : Nat) (h : a ≤ k) : valK s a (k + 1) = valK s a k * 10 + ((PlainAid.bt s k).toNat - 48) := by
  show (if a ≤ k then _ else _) = _
  rw [if_pos h]
theorem valK_bound (s : ByteArray) (a : Nat) (hd : ∀ j, a ≤ j → j < s.size → 48 ≤ PlainAid.bt s j ∧ PlainAid.bt s j ≤ 57) : ∀ d, a + d ≤ s.size → valK s a (a + d) < 10 ^ d
  | 0, _ => by rw [Nat.add_zero, valK_start]; decide
  | d + 1, h => by
    have ih := valK_bound s a hd d (by omega)
    have hb := hd (a + d) (by omega) (by omega)
    rw [show a + (d + 1) = (a + d) + 1 by omega, valK_succ s a (a + d) (by omega), Nat.pow_succ]
    omega
theorem parse_drop (s : ByteArray) (a : Nat) (hd : ∀ j, a ≤ j → j < s.size → 48 ≤ PlainAid.bt s j ∧ PlainAid.bt s j ≤ 57) (h13 : s.size ≤ a + 13) : ∀ n k, k + n = s.size → a ≤ k → Lib.parseUintM (2 ^ 64 - 1) (valK s a k) (s.data.toList.drop k) = .ok (valK s a s.size)
  | 0, k, hk, hak => by
    have hl : s.data.toList.length = s.size := (Lib.size_eq s).symm
    rw [List.drop_of_length_le (by omega)]
    obtain rfl : k = s.size := by omega
    rfl
  | n + 1, k, hk, hak => by
    have hl : s.data.toList.length = s.size := (Lib.size_eq s).symm
    have hlt : k < s.data.toList.length := by omega
    rw [List.drop_eq_getElem_cons hlt]
    have hb := hd k hak (by omega)
    have hbt := bt_data s k hlt
    obtain ⟨d, rfl⟩ : ∃ d, k = a + d := ⟨k - a, by omega⟩
    have hv := valK_bound s a hd d (by omega)
    have hp : 10 ^ d ≤ 10 ^ 13 := Nat.pow_le_pow_right (by decide) (by omega)
    have hp13 : (10 : Nat) ^ 13 = 10000000000000 := by decide
    have hM : (2 : Nat) ^ 64 - 1 = 18446744073709551615 := by decide
    unfold Lib.parseUintM
    rw [if_pos (by omega), if_neg (by omega), if_neg (by rw [hM]; omega)]
    have ih := parse_drop s a hd h13 n (a + d + 1) (by omega) (by omega)
    rw [valK_succ s a (a + d) hak, show (PlainAid.bt s (a + d)).toNat = s.data.toList[a + d].toNat by omega] at ih
    exact ih
/-- The number of a numeral. -/
def numV (s : ByteArray) : Int := if (decide (0 < s.size) && (PlainAid.bt s 0 == 45)) = true then -(valK s (atB s) s.size : Int) else valK s (atB s) s.size
theorem parse_list (c : UInt8) (r : List UInt8) (a V : Nat) (ha : a = if c.toNat = 43 ∨ c.toNat = 45 then 1 else 0) (hp : Lib.parseUintM (2 ^ 64 - 1) 0 ((c :: r).drop a) = .ok V) (hne : (c :: r).drop a ≠ []) (hV : V < 10000000000000) :
    Lib.parseIntB 64 (c :: r) = .ok (if c.toNat = 45 then -(V : Int) else V) := by
  have h63 : (2 : Nat) ^ (64 - 1) = 9223372036854775808 := by decide
  have e : (if c.toNat = 43 ∨ c.toNat = 45 then r else c :: r) = (c :: r).drop a := by
    rw [ha]
    split <;> rfl
  have hu : Lib.parseUintB 64 ((c :: r).drop a) = .ok V := by
    unfold Lib.parseUintB
    rw [if_neg hne, hp]
  unfold Lib.parseIntB
  simp only []
  rw [e, hu]
  simp only []
  rw [if_neg (by rw [h63]; omega), if_neg (by rw [h63]; omega)]
theorem parse_num {s : ByteArray} (h : numP s) : Lib.parseIntB 64 s.data.toList = .ok (numV s) := by
  obtain ⟨h1, h2, hd⟩ := h
  have hl : s.data.toList.length = s.size := (Lib.size_eq s).symm
  have hp := parse_drop s (atB s) hd h2 (s.size - atB s) (atB s) (by omega) (Nat.le_refl _)
  rw [valK_start] at hp
  have hvb := valK_bound s (atB s) hd (s.size - atB s) (by omega)
  rw [show atB s + (s.size - atB s) = s.size by omega] at hvb
  have hp13 : (10 : Nat) ^ (s.size - atB s) ≤ 10 ^ 13 := Nat.pow_le_pow_right (by decide) (by omega)
  have hpe : (10 : Nat) ^ 13 = 10000000000000 := by decide
  have hb0 := bt_data s 0 (by omega)
  have hne : s.data.toList.drop (atB s) ≠ [] := by
    intro e
    have := congrArg List.length e
    rw [List.length_drop] at this
    simp at this
    omega
  have hs0 : decide (0 < s.size) = true := by simp; omega
  have hat : atB s = if (PlainAid.bt s 0 == 43 || PlainAid.bt s 0 == 45) = true then 1 else 0 := by unfold atB sgnB; rw [hs0, Bool.true_and]
  unfold numV
  rw [hs0, Bool.true_and]
  obtain ⟨V, hV⟩ : ∃ V, valK s (atB s) s.size = V := ⟨_, rfl⟩
  rw [hV] at hp hvb ⊢
  obtain ⟨a, ha⟩ : ∃ a, atB s = a := ⟨_, rfl⟩
  rw [ha] at hp hne hat hvb hp13
  obtain ⟨c, r, hcr⟩ : ∃ c r, s.data.toList = c :: r := by
    cases e : s.data.toList with
    | nil => rw [e] at hl; simp at hl; omega
    | cons c r => exact ⟨c, r, rfl⟩
  have hc : PlainAid.bt s 0 = (c.toNat : Int) := by
    rw [hb0]
    have : s.data.toList[0]? = some c := by rw [hcr]; rfl
    rw [List.getElem?_eq_getElem (by omega)] at this
    rw [Option.some.inj this]
  rw [hcr] at hp hne ⊢
  rw [hc] at hat ⊢
  rw [parse_list c r a V (by rw [hat]; simp only [Bool.or_eq_true, beq_iff_eq]; by_cases h43 : c.toNat = 43 ∨ c.toNat = 45 <;> simp [h43] <;> omega) hp hne (by omega)]
  congr 1
  by_cases h45 : c.toNat = 45
  · rw [if_pos h45, if_pos (by simp; omega)]
  · rw [if_neg h45, if_neg (by simp; omega)]

/-- The number that the program finds in a numeral. -/
theorem numberIn_any (s : ByteArray) (W : World) (hs : s.size ≤ 1048576) (h : numP s) :
    Calls Tryz.prog 58 #[.string s] W fun e w' => e = .returned (.int .i64 (numV s)) ∧ Below W.heap.size W w' := by
  have HP : Hid (Calls Tryz.prog 72 #[.string s, .int .i64 10, .int .i64 64] W fun e w' => e = .returned (.tuple #[.int .i64 (numV s), .nilIface]) ∧ Below W.heap.size W w') :=
    (Tryz.strconv_ParseInt_10_at64_ok s (by omega) (numV s) (parse_num h) W).mono fun e w' ⟨he, hw⟩ => ⟨he, by
      rcases hw with rfl | ⟨t, rfl⟩
      · exact Below.refl _ _
      · exact ⟨rfl, rfl, rfl, by simp [Lib.bytesWorld, World.freeze, World.alloc, World.drew, -World.alloc_eq, -World.drew_eq], fun k hk => Lib.bytesWorld_at_old W _ t k hk⟩⟩
  go_enter Tryz.func58, Tryz.ntmps58
  go_wp2_with (go_at_call 72; refine HP.out.mono ?_; rintro e w' ⟨rfl, hb⟩; have HB := Lib.hid hb; clear hb)
  go_ret
  exact ⟨rfl, HB.out⟩
end Go.Proofs.YtpjjpfjnjhahcaaGreatDoor
