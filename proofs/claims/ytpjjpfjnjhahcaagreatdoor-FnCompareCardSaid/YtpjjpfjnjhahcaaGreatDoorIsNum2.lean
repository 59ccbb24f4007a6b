/- Contract: isNumeral of the program. Condition: the table of classes. -/
import Derived.Test.YtpjjpfjnjhahcaaGreatDoorIsNum
import Derived.Test.YtpjjpfjnjhahcaaGreatDoorValImpl
namespace Go.Proofs.YtpjjpfjnjhahcaaGreatDoor
open Go Go.RowKit

/-- Where the digits begin. -/
def sgnB (s : ByteArray) : Bool := decide (0 < s.size) && (PlainAid.bt s 0 == 43 || PlainAid.bt s 0 == 45)
def atB (s : ByteArray) : Nat := if sgnB s = true then 1 else 0
/-- An optional sign, and 1 to 13 digits. -/
def numP (s : ByteArray) : Prop := atB s + 1 ≤ s.size ∧ s.size ≤ atB s + 13 ∧ ∀ j, atB s ≤ j → j < s.size → 48 ≤ PlainAid.bt s j ∧ PlainAid.bt s j ≤ 57
theorem cls_digit {c : Int} (h0 : 0 ≤ c) (h1 : c ≤ 255) : (cls c == 2) = decide (48 ≤ c ∧ c ≤ 57) := by
  have := all_small (p := fun c => (cls c == 2) == decide (48 ≤ c ∧ c ≤ 57)) (by decide +kernel) h0 h1
  simpa using this
theorem cls_is {c : Int} (h0 : 0 ≤ c) (h1 : c ≤ 255) : cls c = 2 ↔ 48 ≤ c ∧ c ≤ 57 := by
  have := cls_digit h0 h1
  rw [← beq_iff_eq (a := cls c), this, decide_eq_true_iff]
/-- The code points behind the sign are digits, and their number is right: just where the bytes are so. -/
theorem num_iff (s : ByteArray) (n : Nat) (rs : Nat → Int) (hn : (runesE s).size = n) (hr : ∀ j, j < n → (runesE s)[j]? = some (.int .i32 (rs j))) (hat : atB s ≤ n) :
    ((∀ j, j < n - atB s → cls (rs (atB s + j)) = 2) ∧ 1 ≤ n - atB s ∧ n - atB s ≤ 13) ↔ numP s := by
  rcases asc_or s with h | ⟨m, hm, h1, h2⟩
  · have hall := runes_all s h
    have hns : n = s.size := by rw [← hn, hall, tabR_size]
    have hrs : ∀ j, j < n → rs j = PlainAid.bt s j := fun j hj => by
      have h3 := hr j hj
      rw [hall, tabR_get s s.size j (by omega)] at h3
      simp at h3
      exact h3.symm
    constructor
    · rintro ⟨hd, hl, hu⟩
      refine ⟨by omega, by omega, fun j hj hjs => ?_⟩
      have h4 := hd (j - atB s) (by omega)
      rw [show atB s + (j - atB s) = j by omega, hrs j (by omega), cls_is (PlainAid.bt_nonneg s j) (PlainAid.bt_le s j)] at h4
      exact h4
    · rintro ⟨hl, hu, hd⟩
      refine ⟨fun j hj => ?_, by omega, by omega⟩
      rw [hrs _ (by omega), cls_is (PlainAid.bt_nonneg s _) (PlainAid.bt_le s _)]
      exact hd _ (by omega) (by omega)
  · obtain ⟨h3, r, hr1, hr2⟩ := runes_high s m hm h1 h2
    have hat' : atB s ≤ m := by
      unfold atB
      split
      · next hs =>
        unfold sgnB at hs
        simp only [Bool.and_eq_true, decide_eq_true_eq, Bool.or_eq_true, beq_iff_eq] at hs
        rcases Nat.eq_zero_or_pos m with h0 | h0
        · subst h0; omega
        · omega
      · omega
    have hmn : m < n := by
      rw [← hn]
      exact (Array.getElem?_eq_some_iff.1 hr2).1
    have hrm : rs m = r := by
      have h4 := hr m hmn
      rw [hr2] at h4
      simp at h4
      exact h4.symm
    constructor
    · rintro ⟨hd, _, _⟩
      have h4 := hd (m - atB s) (by omega)
      rw [show atB s + (m - atB s) = m by omega, hrm, cls_out (.inr hr1)] at h4
      cases h4
    · rintro ⟨_, _, hd⟩
      have := hd m hat' hm
      omega
theorem pre_one (c : UInt8) : ∀ (l : List UInt8) (h : 0 < l.length), [c].isPrefixOf l = ((l[0].toNat : Int) == (c.toNat : Int))
  | x :: xs, _ => by
    rw [Bool.eq_iff_iff]
    simp only [List.isPrefixOf, Bool.and_true, beq_iff_eq, List.getElem_cons_zero]
    exact ⟨fun e => by rw [e], fun e => UInt8.toNat_inj.mp (by omega)⟩
theorem has_one (s : ByteArray) (c : UInt8) : Lib.hasPrefix s.data.toList [c] = (decide (0 < s.size) && (PlainAid.bt s 0 == (c.toNat : Int))) := by
  have hl : s.data.toList.length = s.size := (Lib.size_eq s).symm
  unfold Lib.hasPrefix
  by_cases h : 0 < s.size
  · rw [bt_data s 0 (by omega), pre_one c s.data.toList (by omega)]
    simp [h]
  · have hnil : s.data.toList = [] := List.eq_nil_of_length_eq_zero (by omega)
    rw [hnil]
    simp [List.isPrefixOf, h]
/-- []rune(s). -/
theorem conv_sr (s : ByteArray) (w : World) (hs : s.size ≤ 1048576) : ∃ C w1, (convert 9 87 (.string s)).run Tryz.prog w = .ok (.slice (some ⟨w.heap.size, 0, none⟩) (runesE s).size C) w1 ∧ (runesE s).size ≤ C ∧ (runesE s).size ≤ 1048576 ∧
    (∀ (j : Nat) (v : Value), (runesE s)[j]? = some v → w1.cell? ⟨w.heap.size, j, none⟩ = some v) ∧ Below w.heap.size w w1 ∧ w.heap.size < w1.heap.size := by
  have hz : (runesE s).size ≤ s.size := by have := size_runesFrom s s.size 0 #[]; simpa [runesE] using this
  refine ⟨_, _, run_runes_of_string w 9 87 21 s Tryz.underlying9 Tryz.underlying87 Tryz.underlying21 (by show (runesE s).size ≤ _; omega), grownCap_ge _ _ _ _, by omega, fun j v hv => ?_, ((Below.refl _ _).drew).alloc (Nat.le_refl _) _, by simp⟩
  have hj : j < (runesE s).size := (Array.getElem?_eq_some_iff.1 hv).1
  have h1 : (Conv.runesFrom s s.size 0 #[] ++ Array.replicate (grownCap w (Conv.runesFrom s s.size 0 #[]).size 0 21 - (Conv.runesFrom s s.size 0 #[]).size) (.int .i32 0))[j]? = some v := by
    rw [Array.getElem?_append_left (show j < (Conv.runesFrom s s.size 0 #[]).size from hj)]
    exact hv
  generalize Conv.runesFrom s s.size 0 #[] ++ Array.replicate (grownCap w (Conv.runesFrom s s.size 0 #[]).size 0 21 - (Conv.runesFrom s s.size 0 #[]).size) (.int .i32 0) = R at h1
  simp [World.cell?, World.alloc, World.drew, -World.alloc_eq, -World.drew_eq, h1]
theorem rs_ex (s : ByteArray) : ∃ rs : Nat → Int, ∀ j, j < (runesE s).size → (runesE s)[j]? = some (.int .i32 (rs j)) := by
  have h := runes_int s s.size 0 #[] (fun j v hv => by simp at hv)
  refine ⟨fun j => match (runesE s)[j]? with | some (.int _ r) => r | _ => 0, fun j hj => ?_⟩
  obtain ⟨v, hv⟩ : ∃ v, (runesE s)[j]? = some v := ⟨_, Array.getElem?_eq_getElem hj⟩
  obtain ⟨r, rfl⟩ := h j v hv
  simp only [hv]
theorem runes_pos (s : ByteArray) (h : sgnB s = true) : 1 ≤ (runesE s).size := by
  unfold sgnB at h
  simp only [Bool.and_eq_true, decide_eq_true_eq] at h
  unfold runesE
  obtain ⟨n, hn⟩ : ∃ n, s.size = n + 1 := ⟨s.size - 1, by omega⟩
  rw [hn]
  unfold Conv.runesFrom
  rw [if_pos (by omega)]
  have := runes_keep s n (0 + (Utf8.decode s 0).2) (#[].push (.int .i32 (Int.ofNat (Utf8.decode s 0).1))) 0 _ (by rw [Array.getElem?_push]; rfl)
  exact (Array.getElem?_eq_some_iff.1 this).1

theorem ends_yes {z : Int} {n : Nat} {p : Nat → Prop} {q : Prop} (hz : Hid (z < 0 ↔ ∀ j, j < n → p j)) (h : z < 0) (hn : ((∀ j, j < n → p j) ∧ decide (1 ≤ n ∧ n ≤ 13) = true) ↔ q) : (decide (1 ≤ (n : Int)) && decide ((n : Int) ≤ 13)) = true ↔ q := by
  rw [← hn, Bool.and_eq_true, decide_eq_true_iff, decide_eq_true_iff, decide_eq_true_iff]
  exact ⟨fun h1 => ⟨hz.out.1 h, by omega, by omega⟩, fun h1 => ⟨by omega, by omega⟩⟩
theorem ends_no {z : Int} {n : Nat} {p : Nat → Prop} {q : Prop} (hz : Hid (z < 0 ↔ ∀ j, j < n → p j)) (h : 0 ≤ z) (hn : ((∀ j, j < n → p j) ∧ decide (1 ≤ n ∧ n ≤ 13) = true) ↔ q) : false = true ↔ q :=
  ⟨fun e => Bool.noConfusion e, fun hq => absurd (hz.out.2 (hn.2 hq).1) (by omega)⟩
open Classical in
/-- Whether it is a numeral. -/
noncomputable def numB (s : ByteArray) : Bool := decide (numP s)
open Classical in
theorem numB_of {s : ByteArray} {b : Bool} (h : b = true ↔ numP s) : b = numB s := by
  unfold numB
  rw [Bool.eq_iff_iff, h, decide_eq_true_iff]
set_option maxHeartbeats 1000000 in
set_option maxRecDepth 100000 in
theorem isNumeral_any (s : ByteArray) (W : World) (hs : s.size ≤ 1048576) (hT : Classes W) :
    Calls Tryz.prog 56 #[.string s] W fun e w' => e = .returned (.bool (numB s)) ∧ Below W.heap.size W w' := by
  obtain ⟨rs, hrs⟩ := rs_ex s
  obtain ⟨P, hP⟩ : ∃ P, numB s = P := ⟨_, rfl⟩
  have HPB : Hid (∀ b : Bool, (b = true ↔ numP s) → b = P) := fun b h => (numB_of h).trans hP
  rw [hP]
  clear hP
  have hni := num_iff s (runesE s).size rs rfl hrs
  obtain ⟨C, w1, hcv, hc1, hc2, hc3, hc4, hc5⟩ := conv_sr s W hs
  have HB := Lib.hid hc4
  have HT : Hid (Classes w1) := hT.below hc4 (heap_pos (hT.at_ 0 (by decide)))
  have HCE := Lib.hid (fun j (hj : j < (runesE s).size) => hc3 j _ (hrs j hj))
  have hpos := runes_pos s
  generalize (runesE s).size = n at *
  have HNI := Lib.hid hni
  obtain ⟨p, hp⟩ : ∃ p, (decide (0 < s.size) && (PlainAid.bt s 0 == 43)) = p := ⟨_, rfl⟩
  obtain ⟨q, hq⟩ : ∃ q, (decide (0 < s.size) && (PlainAid.bt s 0 == 45)) = q := ⟨_, rfl⟩
  have HP : Hid (∀ w, Calls Tryz.prog 67 #[.string s, .string ⟨#[43]⟩] w fun e w' => e = .returned (.bool p) ∧ w' = w) := fun w => by
    have h := Tryz.strings_HasPrefix s ⟨#[43]⟩ w
    rw [show (⟨#[43]⟩ : ByteArray).data.toList = [43] from rfl, has_one] at h
    rw [← hp]
    exact h
  have HQ : Hid (∀ w, Calls Tryz.prog 67 #[.string s, .string ⟨#[45]⟩] w fun e w' => e = .returned (.bool q) ∧ w' = w) := fun w => by
    have h := Tryz.strings_HasPrefix s ⟨#[45]⟩ w
    rw [show (⟨#[45]⟩ : ByteArray).data.toList = [45] from rfl, has_one] at h
    rw [← hq]
    exact h
  have hsg : sgnB s = (p || q) := by
    unfold sgnB
    rw [← hp, ← hq, ← Bool.and_or_distrib_left]
  have hat : atB s = if (p || q) = true then 1 else 0 := by unfold atB; rw [hsg]
  rw [hsg] at hpos
  clear hni hp hq hsg hc3 hc4 hrs hT
  have T1 : True := trivial
  cases p <;> cases q
  · have hat' : atB s = 0 := hat
    rw [hat'] at HNI
    clear hat hat' hpos
    have HN2 : Hid (((∀ j, j < n → cls (rs j) = 2) ∧ decide (1 ≤ (n : Nat) ∧ (n : Nat) ≤ 13) = true) ↔ numP s) := by
      refine Iff.trans ?_ (HNI.out (by omega))
      rw [decide_eq_true_iff]
      simp only [Nat.zero_add, Nat.sub_zero]
    have HFW := Lib.hid (firstWhere_any W.heap.size 0 n C rs w1 (by omega) (fun j hj => by rw [Nat.zero_add]; exact HCE.out j hj) HT.out)
    go_enter Tryz.func56, Tryz.ntmps56
    go_wp2_with (first
      | (go_at_call 67; have tk := T1; refine (HP.out _).mono ?_; clear T1 tk; rintro e w' ⟨rfl, rfl⟩)
      | (go_at_call 67; refine (HQ.out _).mono ?_; rintro e w' ⟨rfl, rfl⟩)
      | (go_at_call 68; refine HFW.out.mono ?_; rintro e w' ⟨z, rfl, hz, rfl⟩; by_cases hz0 : z < 0)
      | (go_at_call 49; refine (within_int _ _ _ _).mono ?_; rintro e w' ⟨rfl, rfl⟩))
    · have HE := HPB.out _ (ends_yes hz hz0 HN2.out)
      go_ret
      exact ⟨bool_ret HE, HB.out⟩
    · have HE := HPB.out false (ends_no hz hz0 HN2.out)
      go_ret
      exact ⟨bool_ret HE, HB.out⟩
  · have hat' : atB s = 1 := hat
    rw [hat'] at HNI
    clear hat hat'
    have hp1 : 1 ≤ n := hpos rfl
    have hnn : ((n : Int) - 1) = ((n - 1 : Nat) : Int) := by omega
    have hcc : ((C : Int) - 1) = ((C - 1 : Nat) : Int) := by omega
    have HN2 : Hid (((∀ j, j < (n - 1) → cls ((fun j => rs (1 + j)) j) = 2) ∧ decide (1 ≤ ((n - 1) : Nat) ∧ ((n - 1) : Nat) ≤ 13) = true) ↔ numP s) := by
      refine Iff.trans ?_ (HNI.out (by omega))
      rw [decide_eq_true_iff]
    by_cases hC : C = 1
    · have hn1 : n = 1 := by omega
      subst hC hn1
      have HFW := Lib.hid (firstWhere_any W.heap.size 0 0 0 (fun j => rs (1 + j)) w1 (by omega) (fun j hj => absurd hj (Nat.not_lt_zero j)) HT.out)
      go_enter Tryz.func56, Tryz.ntmps56
      go_wp2_with (first
        | (go_at_call 67; have tk := T1; refine (HP.out _).mono ?_; clear T1 tk; rintro e w' ⟨rfl, rfl⟩)
        | (go_at_call 67; refine (HQ.out _).mono ?_; rintro e w' ⟨rfl, rfl⟩)
        | (go_at_call 68; refine HFW.out.mono ?_; rintro e w' ⟨z, rfl, hz, rfl⟩; by_cases hz0 : z < 0)
        | (go_at_call 49; refine (within_int _ _ _ _).mono ?_; rintro e w' ⟨rfl, rfl⟩))
      · have HE := HPB.out _ (ends_yes hz hz0 HN2.out)
        go_ret
        exact ⟨bool_ret HE, HB.out⟩
      · have HE := HPB.out false (ends_no hz hz0 HN2.out)
        go_ret
        exact ⟨bool_ret HE, HB.out⟩
    · have HFW := Lib.hid (firstWhere_any W.heap.size 1 (n - 1) (C - 1) (fun j => rs (1 + j)) w1 (by omega) (fun j hj => HCE.out (1 + j) (by omega)) HT.out)
      go_enter Tryz.func56, Tryz.ntmps56
      go_wp2_with (first
        | (go_at_call 67; have tk := T1; refine (HP.out _).mono ?_; clear T1 tk; rintro e w' ⟨rfl, rfl⟩)
        | (go_at_call 67; refine (HQ.out _).mono ?_; rintro e w' ⟨rfl, rfl⟩)
        | (go_at_call 68; refine HFW.out.mono ?_; rintro e w' ⟨z, rfl, hz, rfl⟩; by_cases hz0 : z < 0)
        | (go_at_call 49; refine (within_int _ _ _ _).mono ?_; rintro e w' ⟨rfl, rfl⟩))
      · have HE := HPB.out _ (ends_yes hz hz0 HN2.out)
        go_ret
        exact ⟨bool_ret HE, HB.out⟩
      · have HE := HPB.out false (ends_no hz hz0 HN2.out)
        go_ret
        exact ⟨bool_ret HE, HB.out⟩
  · have hat' : atB s = 1 := hat
    rw [hat'] at HNI
    clear hat hat'
    have hp1 : 1 ≤ n := hpos rfl
    have hnn : ((n : Int) - 1) = ((n - 1 : Nat) : Int) := by omega
    have hcc : ((C : Int) - 1) = ((C - 1 : Nat) : Int) := by omega
    have HN2 : Hid (((∀ j, j < (n - 1) → cls ((fun j => rs (1 + j)) j) = 2) ∧ decide (1 ≤ ((n - 1) : Nat) ∧ ((n - 1) : Nat) ≤ 13) = true) ↔ numP s) := by
      refine Iff.trans ?_ (HNI.out (by omega))
      rw [decide_eq_true_iff]
    by_cases hC : C = 1
    · have hn1 : n = 1 := by omega
      subst hC hn1
      have HFW := Lib.hid (firstWhere_any W.heap.size 0 0 0 (fun j => rs (1 + j)) w1 (by omega) (fun j hj => absurd hj (Nat.not_lt_zero j)) HT.out)
      go_enter Tryz.func56, Tryz.ntmps56
      go_wp2_with (first
        | (go_at_call 67; have tk := T1; refine (HP.out _).mono ?_; clear T1 tk; rintro e w' ⟨rfl, rfl⟩)
        | (go_at_call 67; refine (HQ.out _).mono ?_; rintro e w' ⟨rfl, rfl⟩)
        | (go_at_call 68; refine HFW.out.mono ?_; rintro e w' ⟨z, rfl, hz, rfl⟩; by_cases hz0 : z < 0)
        | (go_at_call 49; refine (within_int _ _ _ _).mono ?_; rintro e w' ⟨rfl, rfl⟩))
      · have HE := HPB.out _ (ends_yes hz hz0 HN2.out)
        go_ret
        exact ⟨bool_ret HE, HB.out⟩
      · have HE := HPB.out false (ends_no hz hz0 HN2.out)
        go_ret
        exact ⟨bool_ret HE, HB.out⟩
    · have HFW := Lib.hid (firstWhere_any W.heap.size 1 (n - 1) (C - 1) (fun j => rs (1 + j)) w1 (by omega) (fun j hj => HCE.out (1 + j) (by omega)) HT.out)
      go_enter Tryz.func56, Tryz.ntmps56
      go_wp2_with (first
        | (go_at_call 67; have tk := T1; refine (HP.out _).mono ?_; clear T1 tk; rintro e w' ⟨rfl, rfl⟩)
        | (go_at_call 67; refine (HQ.out _).mono ?_; rintro e w' ⟨rfl, rfl⟩)
        | (go_at_call 68; refine HFW.out.mono ?_; rintro e w' ⟨z, rfl, hz, rfl⟩; by_cases hz0 : z < 0)
        | (go_at_call 49; refine (within_int _ _ _ _).mono ?_; rintro e w' ⟨rfl, rfl⟩))
      · have HE := HPB.out _ (ends_yes hz hz0 HN2.out)
        go_ret
        exact ⟨bool_ret HE, HB.out⟩
      · have HE := HPB.out false (ends_no hz hz0 HN2.out)
        go_ret
        exact ⟨bool_ret HE, HB.out⟩
  · have hat' : atB s = 1 := hat
    rw [hat'] at HNI
    clear hat hat'
    have hp1 : 1 ≤ n := hpos rfl
    have hnn : ((n : Int) - 1) = ((n - 1 : Nat) : Int) := by omega
    have hcc : ((C : Int) - 1) = ((C - 1 : Nat) : Int) := by omega
    have HN2 : Hid (((∀ j, j < (n - 1) → cls ((fun j => rs (1 + j)) j) = 2) ∧ decide (1 ≤ ((n - 1) : Nat) ∧ ((n - 1) : Nat) ≤ 13) = true) ↔ numP s) := by
      refine Iff.trans ?_ (HNI.out (by omega))
      rw [decide_eq_true_iff]
    by_cases hC : C = 1
    · have hn1 : n = 1 := by omega
      subst hC hn1
      have HFW := Lib.hid (firstWhere_any W.heap.size 0 0 0 (fun j => rs (1 + j)) w1 (by omega) (fun j hj => absurd hj (Nat.not_lt_zero j)) HT.out)
      go_enter Tryz.func56, Tryz.ntmps56
      go_wp2_with (first
        | (go_at_call 67; have tk := T1; refine (HP.out _).mono ?_; clear T1 tk; rintro e w' ⟨rfl, rfl⟩)
        | (go_at_call 67; refine (HQ.out _).mono ?_; rintro e w' ⟨rfl, rfl⟩)
        | (go_at_call 68; refine HFW.out.mono ?_; rintro e w' ⟨z, rfl, hz, rfl⟩; by_cases hz0 : z < 0)
        | (go_at_call 49; refine (within_int _ _ _ _).mono ?_; rintro e w' ⟨rfl, rfl⟩))
      · have HE := HPB.out _ (ends_yes hz hz0 HN2.out)
        go_ret
        exact ⟨bool_ret HE, HB.out⟩
      · have HE := HPB.out false (ends_no hz hz0 HN2.out)
        go_ret
        exact ⟨bool_ret HE, HB.out⟩
    · have HFW := Lib.hid (firstWhere_any W.heap.size 1 (n - 1) (C - 1) (fun j => rs (1 + j)) w1 (by omega) (fun j hj => HCE.out (1 + j) (by omega)) HT.out)
      go_enter Tryz.func56, Tryz.ntmps56
      go_wp2_with (first
        | (go_at_call 67; have tk := T1; refine (HP.out _).mono ?_; clear T1 tk; rintro e w' ⟨rfl, rfl⟩)
        | (go_at_call 67; refine (HQ.out _).mono ?_; rintro e w' ⟨rfl, rfl⟩)
        | (go_at_call 68; refine HFW.out.mono ?_; rintro e w' ⟨z, rfl, hz, rfl⟩; by_cases hz0 : z < 0)
        | (go_at_call 49; refine (within_int _ _ _ _).mono ?_; rintro e w' ⟨rfl, rfl⟩))
      · have HE := HPB.out _ (ends_yes hz hz0 HN2.out)
        go_ret
        exact ⟨bool_ret HE, HB.out⟩
      · have HE := HPB.out false (ends_no hz hz0 HN2.out)
        go_ret
        exact ⟨bool_ret HE, HB.out⟩
end Go.Proofs.YtpjjpfjnjhahcaaGreatDoor
