/- The token at a byte as a plain function; the scanner's read answers it. Conditions: the scanner's block, the table. -/
import Derived.Test.YtdfikepfjdoooaaDoorGap
import Derived.Test.YtdfikepfjdoooaaDoorSplitPlain
namespace Go.Proofs.YtdfikepfjdoooaaDoor
open Go Go.RowKit

theorem only_of_below {w w' : World} (h : Below w.heap.size w w') (g : Nat) : w.grownBy w' (some g) := ⟨h.os, h.tape, h.output, h.size, fun j hj _ => h.block j hj⟩
/-- Not the byte q. -/
def notB (q : Int) (c : Int) : Bool := !(c == q)
/-- The token at byte k, which is not a blank: kind, number, text and end; none where there is no token. -/
def oneT (s : ByteArray) (k : Nat) : Option (Int × Int × ByteArray × Nat) :=
  if cls (PlainAid.bt s k) = 1 then (if runEnd contB s k - k ≤ 12 then some (1, 0, s.extract k (runEnd contB s k), runEnd contB s k) else none)
  else if cls (PlainAid.bt s k) = 2 then (if runEnd digB s k - k ≤ 13 then (if numB (s.extract k (runEnd digB s k)) (runEnd digB s k - k) ≤ 1000000000000 then some (2, (numB (s.extract k (runEnd digB s k)) (runEnd digB s k - k) : Nat), ⟨#[]⟩, runEnd digB s k) else none) else none)
  else if cls (PlainAid.bt s k) = 3 then (if runEnd (notB (PlainAid.bt s k)) s (k + 1) < s.size ∧ runEnd (notB (PlainAid.bt s k)) s (k + 1) - (k + 1) ≤ 200 then some (3, 0, s.extract (k + 1) (runEnd (notB (PlainAid.bt s k)) s (k + 1)), runEnd (notB (PlainAid.bt s k)) s (k + 1) + 1) else none)
  else if cls (PlainAid.bt s k) = 4 then some (4, 0, s.extract k (k + 1), k + 1)
  else if cls (PlainAid.bt s k) = 0 then none
  else if cls (PlainAid.bt s k) = 11 then none
  else some (cls (PlainAid.bt s k), 0, ⟨#[]⟩, k + 1)
theorem oneT_end {s : ByteArray} {k k' : Nat} {a n : Int} {t : ByteArray} (hk : k < s.size) (h : oneT s k = some (a, n, t, k')) : k < k' ∧ k' ≤ s.size := by
  unfold oneT at h
  have e1 : runEnd contB s k ≤ s.size := runEnd_le (Nat.le_of_lt hk)
  have e2 : runEnd digB s k ≤ s.size := runEnd_le (Nat.le_of_lt hk)
  have g3 : k + 1 ≤ runEnd (notB (PlainAid.bt s k)) s (k + 1) := runEnd_ge _ s (k + 1)
  split at h
  · next hc =>
    split at h
    · simp only [Option.some.injEq, Prod.mk.injEq] at h
      obtain ⟨_, _, _, rfl⟩ := h
      rw [runEnd_step (p := contB) hk (contB_of_letter (by unfold letterB; rw [hc]; rfl))] at e1 ⊢
      have := runEnd_ge contB s (k + 1)
      omega
    · cases h
  split at h
  · next hc =>
    split at h
    · split at h
      · simp only [Option.some.injEq, Prod.mk.injEq] at h
        obtain ⟨_, _, _, rfl⟩ := h
        rw [runEnd_step (p := digB) hk (by unfold digB; rw [hc]; rfl)] at e2 ⊢
        have := runEnd_ge digB s (k + 1)
        omega
      · cases h
    · cases h
  split at h
  · split at h
    · next h2 =>
      simp only [Option.some.injEq, Prod.mk.injEq] at h
      obtain ⟨_, _, _, rfl⟩ := h
      omega
    · cases h
  split at h
  · simp only [Option.some.injEq, Prod.mk.injEq] at h
    omega
  split at h
  · cases h
  split at h
  · cases h
  simp only [Option.some.injEq, Prod.mk.injEq] at h
  omega

/-- Where the next quote is: indexByte's answer and runEnd's. -/
theorem index_run {s : ByteArray} {k : Nat} {c : UInt8} (hk : k ≤ s.size) :
    (Lib.indexByte (s.data.toList.drop k) c = -1 ∧ runEnd (notB (c.toNat : Int)) s k = s.size) ∨
    ∃ o : Nat, Lib.indexByte (s.data.toList.drop k) c = (o : Int) ∧ runEnd (notB (c.toNat : Int)) s k = k + o ∧ k + o < s.size := by
  obtain ⟨r, hr⟩ : ∃ r, Lib.indexByte (s.data.toList.drop k) c = r := ⟨_, rfl⟩
  have hge := Lib.indexByte_ge (s.data.toList.drop k) c
  rw [hr] at hge
  by_cases hneg : r < 0
  · obtain rfl : r = -1 := by omega
    have hn := Lib.indexByte_none hr
    refine .inl ⟨hr, ?_⟩
    rcases Nat.lt_or_ge (runEnd (notB (c.toNat : Int)) s k) s.size with h | h
    · exfalso
      have h1 := runEnd_at h
      have h2 := runEnd_ge (notB (c.toNat : Int)) s k
      unfold notB at h1
      refine hn (runEnd (notB (c.toNat : Int)) s k - k) ((bt_drop s k _ c).2 ⟨by omega, ?_⟩)
      rw [show k + (runEnd (notB (c.toNat : Int)) s k - k) = runEnd (notB (c.toNat : Int)) s k by omega]
      unfold notB
      simpa using h1
    · have := runEnd_le (p := notB (c.toNat : Int)) hk
      omega
  · obtain ⟨o, rfl⟩ : ∃ o : Nat, r = (o : Int) := ⟨r.toNat, by omega⟩
    obtain ⟨h1, hn⟩ := Lib.indexByte_some hr
    obtain ⟨h2, h3⟩ := (bt_drop s k o c).1 h1
    refine .inr ⟨o, hr, ?_, h2⟩
    rw [runEnd_run (p := notB (c.toNat : Int)) (s := s) (k := k) o (by omega) fun i hi => ?_]
    · exact runEnd_stop fun _ => by unfold notB; simp [h3]
    · unfold notB
      have : ¬ PlainAid.bt s (k + i) = (c.toNat : Int) := fun e => hn i hi ((bt_drop s k i c).2 ⟨by omega, e⟩)
      simpa using this
theorem byte_cast {c : Int} (h0 : 0 ≤ c) (h1 : c ≤ 255) : (c.toNat.toUInt8.toNat : Int) = c := by
  have : c.toNat < 256 := by omega
  simp [Nat.toUInt8, UInt8.toNat_ofNat', Nat.mod_eq_of_lt this]
  omega
theorem extract_tail (s : ByteArray) (k r : Nat) (h : k + r ≤ s.size) : (s.extract k s.size).extract 0 r = s.extract k (k + r) := by
  rw [ByteArray.extract_extract]
  congr 1
  omega

set_option maxRecDepth 100000 in
theorem read_yes (g k k' : Nat) (a n : Int) (t : ByteArray) (s : ByteArray) (W : World) (hs : Scan W g s k) (hk : k < s.size) (hl : s.size ≤ 1048576) (hT : Classes W) (hg : 0 < g) (h1 : oneT s k = some (a, n, t, k')) :
    Calls Tryd.prog 53 #[.pointer (some ⟨g, 0, none⟩)] W fun e w' => e = TokRes a n t true ∧ Hid (Scan w' g s k' ∧ W.grownBy w' (some g)) := by
  have hb0 := PlainAid.bt_nonneg s k
  have hb1 := PlainAid.bt_le s k
  suffices H : ∀ w, Scan w g s k → Classes w → Calls Tryd.prog (readerFn (cls (PlainAid.bt s k))) #[.pointer (some ⟨g, 0, none⟩)] w fun e w' => e = TokRes a n t true ∧ Hid (Scan w' g s k' ∧ w.grownBy w' (some g)) by
    refine (read_of g k k' a n t true s W hs hk hl hT hg ?_ fun w h2 h3 => (H w h2 h3).mono fun e w' h => ⟨h.1, Lib.hid ⟨fun _ => h.2.out.1, h.2.out.2⟩⟩).mono fun e w' h => ⟨h.1, Lib.hid ⟨h.2.out.1 rfl, h.2.out.2⟩⟩
    unfold readerFn
    repeat' split
    all_goals exact fun _ _ => rfl
  intro w hw hTw
  unfold oneT at h1
  unfold readerFn
  by_cases c1 : cls (PlainAid.bt s k) = 1
  · rw [if_pos c1] at h1 ⊢
    split at h1
    · next hle =>
      simp only [Option.some.injEq, Prod.mk.injEq] at h1
      obtain ⟨rfl, rfl, rfl, rfl⟩ := h1
      exact (readName_any g k s w hw hk hl hTw hg).mono fun e w' h => ⟨by rw [h.1, if_pos hle], h.2⟩
    · cases h1
  rw [if_neg c1] at h1 ⊢
  by_cases c2 : cls (PlainAid.bt s k) = 2
  · rw [if_pos c2] at h1 ⊢
    split at h1
    · next hle =>
      split at h1
      · next hle2 =>
        simp only [Option.some.injEq, Prod.mk.injEq] at h1
        obtain ⟨rfl, rfl, rfl, rfl⟩ := h1
        exact (readInteger_any g k s w hw hk hl hTw hg).mono fun e w' h => ⟨by rw [h.1, if_pos hle, if_pos hle2], h.2⟩
      · cases h1
    · cases h1
  rw [if_neg c2] at h1 ⊢
  by_cases c3 : cls (PlainAid.bt s k) = 3
  · rw [if_pos c3] at h1 ⊢
    split at h1
    · next hle =>
      simp only [Option.some.injEq, Prod.mk.injEq] at h1
      obtain ⟨rfl, rfl, rfl, rfl⟩ := h1
      rw [← byte_cast hb0 hb1] at hle ⊢
      rcases index_run (s := s) (k := k + 1) (c := (PlainAid.bt s k).toNat.toUInt8) (by omega) with ⟨_, h2⟩ | ⟨o, h2, h3, h4⟩
      · omega
      · rw [h3] at hle ⊢
        refine (readString_ok g k o s w hw (by omega) (by omega) hl fun w => ?_).mono fun e w' h => ⟨h.1.trans ?_, ?_⟩
        · have := Tryd.strings_IndexByte (s.extract (k + 1) s.size) (PlainAid.bt s k) w
          rw [Lib.extract_to_end, h2] at this
          exact this
        · rw [extract_tail s (k + 1) o (by omega)]
        · have := h.2.out
          rw [show k + 1 + o + 1 = k + (o + 2) by omega]
          exact Lib.hid this
    · cases h1
  rw [if_neg c3] at h1 ⊢
  by_cases c4 : cls (PlainAid.bt s k) = 4
  · rw [if_pos c4] at h1 ⊢
    simp only [Option.some.injEq, Prod.mk.injEq] at h1
    obtain ⟨rfl, rfl, rfl, rfl⟩ := h1
    exact readOperator_any g k s w hw hk hl
  rw [if_neg c4] at h1 ⊢
  by_cases c0 : cls (PlainAid.bt s k) = 0
  · rw [if_pos c0] at h1
    cases h1
  rw [if_neg c0] at h1 ⊢
  by_cases c11 : cls (PlainAid.bt s k) = 11
  · rw [if_pos c11] at h1
    cases h1
  rw [if_neg c11] at h1 ⊢
  simp only [Option.some.injEq, Prod.mk.injEq] at h1
  obtain ⟨rfl, rfl, rfl, rfl⟩ := h1
  exact readMark_any g k s w hw hk hl hTw hg

set_option maxRecDepth 100000 in
theorem read_no (g k : Nat) (s : ByteArray) (W : World) (hs : Scan W g s k) (hk : k < s.size) (hl : s.size ≤ 1048576) (hT : Classes W) (hg : 0 < g) (h1 : oneT s k = none) :
    Calls Tryd.prog 53 #[.pointer (some ⟨g, 0, none⟩)] W fun e w' => e = TokRes 0 0 ⟨#[]⟩ false ∧ Hid (W.grownBy w' (some g)) := by
  have hb0 := PlainAid.bt_nonneg s k
  have hb1 := PlainAid.bt_le s k
  suffices H : ∀ w, Scan w g s k → Classes w → Calls Tryd.prog (readerFn (cls (PlainAid.bt s k))) #[.pointer (some ⟨g, 0, none⟩)] w fun e w' => e = TokRes 0 0 ⟨#[]⟩ false ∧ Hid (w.grownBy w' (some g)) by
    refine (read_of g k 0 0 0 ⟨#[]⟩ false s W hs hk hl hT hg ?_ fun w h2 h3 => (H w h2 h3).mono fun e w' h => ⟨h.1, Lib.hid ⟨fun h => (by cases h), h.2.out⟩⟩).mono fun e w' h => ⟨h.1, Lib.hid h.2.out.2⟩
    unfold readerFn
    repeat' split
    all_goals exact fun _ _ => rfl
  intro w hw hTw
  unfold oneT at h1
  unfold readerFn
  by_cases c1 : cls (PlainAid.bt s k) = 1
  · rw [if_pos c1] at h1 ⊢
    split at h1
    · cases h1
    · next hle => exact (readName_any g k s w hw hk hl hTw hg).mono fun e w' h => ⟨by rw [h.1, if_neg hle], Lib.hid h.2.out.2⟩
  rw [if_neg c1] at h1 ⊢
  by_cases c2 : cls (PlainAid.bt s k) = 2
  · rw [if_pos c2] at h1 ⊢
    split at h1
    · next hle =>
      split at h1
      · cases h1
      · next hle2 => exact (readInteger_any g k s w hw hk hl hTw hg).mono fun e w' h => ⟨by rw [h.1, if_pos hle, if_neg hle2], Lib.hid h.2.out.2⟩
    · next hle => exact (readInteger_any g k s w hw hk hl hTw hg).mono fun e w' h => ⟨by rw [h.1, if_neg hle], Lib.hid h.2.out.2⟩
  rw [if_neg c2] at h1 ⊢
  by_cases c3 : cls (PlainAid.bt s k) = 3
  · rw [if_pos c3] at h1 ⊢
    split at h1
    · cases h1
    · next hle =>
      rw [← byte_cast hb0 hb1] at hle
      have hC : ∀ w, Calls Tryd.prog 123 #[.string (s.extract (k + 1) s.size), .int .u8 (PlainAid.bt s k)] w fun e w' => e = .returned (.int .i64 (Lib.indexByte (s.data.toList.drop (k + 1)) (PlainAid.bt s k).toNat.toUInt8)) ∧ w' = w := fun w => by
        have := Tryd.strings_IndexByte (s.extract (k + 1) s.size) (PlainAid.bt s k) w
        rw [Lib.extract_to_end] at this
        exact this
      rcases index_run (s := s) (k := k + 1) (c := (PlainAid.bt s k).toNat.toUInt8) (by omega) with ⟨h2, _⟩ | ⟨o, h2, h3, h4⟩
      · exact readString_no g k _ s w hw (by omega) (by rw [h2]; omega) hl hC
      · rw [h3] at hle
        exact readString_no g k _ s w hw (by omega) (by rw [h2]; omega) hl hC
  rw [if_neg c3] at h1 ⊢
  by_cases c4 : cls (PlainAid.bt s k) = 4
  · rw [if_pos c4] at h1
    cases h1
  rw [if_neg c4] at h1 ⊢
  by_cases c0 : cls (PlainAid.bt s k) = 0
  · rw [if_pos c0]
    exact (readNothing_any g w hw.lt).mono fun e w' h => ⟨h.1, Lib.hid (only_of_below h.2 g)⟩
  rw [if_neg c0] at h1 ⊢
  by_cases c11 : cls (PlainAid.bt s k) = 11
  · rw [if_pos c11]
    exact (readNothing_any g w hw.lt).mono fun e w' h => ⟨h.1, Lib.hid (only_of_below h.2 g)⟩
  rw [if_neg c11] at h1 ⊢
  cases h1
end Go.Proofs.YtdfikepfjdoooaaDoor
